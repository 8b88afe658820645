/- tasks: copied, New, made, Get. -/
import Derived.Test.YtnckjacbkhoppaaTa0
import Derived.Laws.ResultCell
namespace Go.Proofs.Ytnckjacbkhoppaa
open Go.RowKit Go.Maps
attribute [local go_sem] ext_cell ext_frozen extC_cell extC_frozen Mix.calmUpon Mix.mUpon
/-- A block that holds a task. -/
def KB (w : World) (b : Nat) (f i a : Int) (v : Value) : Prop := w.heap[b]? = some (.cells #[.int .i64 f, .int .i64 i, .int .i64 a, v] 95 (0, 0))
section
variable {w w' : World} {b : Nat} {f i a : Int} {v : Value}
theorem KB.made (w : World) (f i a : Int) (v : Value) : KB (w.alloc (.cells #[.int .i64 f, .int .i64 i, .int .i64 a, v] 95)) w.heap.size f i a v := heap_alloc_new w _
theorem KB.lt (h : KB w b f i a v) : b < w.heap.size := (Array.getElem?_eq_some_iff.1 h).1
theorem KB.chg {F : Nat → Prop} (h : KB w b f i a v) (hb : Chg F w w') (hf : ¬ F b) : KB w' b f i a v := (hb.block _ h.lt hf).trans h
theorem KB.below (h : KB w b f i a v) (hb : Below w.heap.size w w') : KB w' b f i a v := h.chg (.of_below (fun _ => False) hb) id
theorem KB.cells (h : KB w b f i a v) : w.cell? ⟨b, 0, none⟩ = some (.int .i64 f) ∧ w.cell? ⟨b, 1, none⟩ = some (.int .i64 i) ∧ w.cell? ⟨b, 2, none⟩ = some (.int .i64 a) ∧ w.cell? ⟨b, 3, none⟩ = some v := by unfold KB at h; simp [World.cell?, h]
theorem KB.fz (h : KB w b f i a v) (o : Nat) : w.frozen? ⟨b, o, none⟩ = false := by unfold KB at h; simp [World.frozen?, h]
theorem KB.set3 (h : KB w b f i a v) (v' : Value) : KB (w.setCell ⟨b, 3, none⟩ v') b f i a v' := heap_setCell_at v' h
theorem KB.set4 (h : KB w b f i a v) (f' i' a' : Int) (v' : Value) : KB ((((w.setCell ⟨b, 0, none⟩ (.int .i64 f')).setCell ⟨b, 1, none⟩ (.int .i64 i')).setCell ⟨b, 2, none⟩ (.int .i64 a')).setCell ⟨b, 3, none⟩ v') b f' i' a' v' :=
  heap_setCell_at v' (heap_setCell_at _ (heap_setCell_at _ (heap_setCell_at _ h)))
theorem KB.load (h : KB w b f i a v) : (loadVar 95 ⟨b, 0, none⟩).run Try.prog w = .ok (.agg #[.int .i64 f, .int .i64 i, .int .i64 a, v]) w := by
  obtain ⟨h0, h1, h2, h3⟩ := h.cells
  have hs := h.lt
  simp [go_sem, h0, h1, h2, h3, hs]
theorem res_t {fn : Func} {tmps : Array Value} {p : Nat} (h : fn.results = #[.cell p 95]) (hp : tmps.getD p undef = .pointer (some ⟨b, 0, none⟩)) (hb : KB w b f i a v) :
    (results fn tmps).run Try.prog w = .ok (.agg #[.int .i64 f, .int .i64 i, .int .i64 a, v]) w := by
  simp only [results, h]
  have hp' : tmps[p]?.getD undef = .pointer (some ⟨b, 0, none⟩) := by simpa [Array.getD_eq_getD_getElem?] using hp
  simp [Sem.run_bind, Result.andThen, hp', asAddr, hb.load]
theorem res_tt {fn : Func} {tmps : Array Value} {p u : Nat} (h : fn.results = #[.cell p 95, .tmp u]) (hp : tmps.getD p undef = .pointer (some ⟨b, 0, none⟩)) (hb : KB w b f i a v) :
    (results fn tmps).run Try.prog w = .ok (.tuple #[.agg #[.int .i64 f, .int .i64 i, .int .i64 a, v], tmps.getD u undef]) w := by
  rw [results_cell_tmp h, hp]
  simp [asAddr, Result.andThen, hb.load]
end
set_option maxRecDepth 100000 in
set_option maxHeartbeats 4000000 in
theorem tcopied {w : World} (f i a : Int) {v : Value} {ps : List Pt} (hv : Vc w v ps) (hl : ps.length < 1000000) : Calls Try.prog 97 #[.agg #[.int .i64 f, .int .i64 i, .int .i64 a, v]] w fun e w' => ∃ u, e = .returned (.agg #[.int .i64 f, .int .i64 i, .int .i64 a, u]) ∧ OwnP w' w.heap.size u ps ∧ Below w.heap.size w w' := by
  obtain ⟨va, vc, rfl, -, -⟩ := hv.form
  have HV := Lib.hid hv; have HL := Lib.hid hl
  clear hv
  obtain ⟨n, hn⟩ : ∃ n, n = ps.length := ⟨_, rfl⟩
  rw [← hn] at HV ⊢
  have hK1 := KB.made w f i a (.slice va n vc)
  have hb1 : Below w.heap.size w (w.alloc (.cells #[.int .i64 f, .int .i64 i, .int .i64 a, .slice va n vc] 95)) := ba (Below.refl _ _) _
  have s1 : (w.alloc (.cells #[.int .i64 f, .int .i64 i, .int .i64 a, .slice va n vc] 95)).heap.size = w.heap.size + 1 := by simp
  have hK2 := KB.made (w.alloc (.cells #[.int .i64 f, .int .i64 i, .int .i64 a, .slice va n vc] 95)) 0 0 0 (.slice none 0 0)
  rw [s1] at hK2
  have hK12 := hK1.below (ba (Below.refl _ _) (.cells #[.int .i64 0, .int .i64 0, .int .i64 0, .slice none 0 0] 95))
  have hb2 : Below w.heap.size w ((w.alloc (.cells #[.int .i64 f, .int .i64 i, .int .i64 a, .slice va n vc] 95)).alloc (.cells #[.int .i64 0, .int .i64 0, .int .i64 0, .slice none 0 0] 95)) := ba hb1 _
  have s2 : ((w.alloc (.cells #[.int .i64 f, .int .i64 i, .int .i64 a, .slice va n vc] 95)).alloc (.cells #[.int .i64 0, .int .i64 0, .int .i64 0, .slice none 0 0] 95)).heap.size = w.heap.size + 2 := by simp
  have HK1 := Lib.hid hK12; have HK2 := Lib.hid hK2; have HB2 := Lib.hid hb2; have HS2 := Lib.hid s2
  clear hK1 hb1 s1 hK2 hK12 hb2 s2 hl hn
  go_enter Try.func97, Try.ntmps97
  go_wp2_with fail
  generalize (w.alloc (.cells #[.int .i64 f, .int .i64 i, .int .i64 a, .slice va n vc] 95)).alloc (.cells #[.int .i64 0, .int .i64 0, .int .i64 0, .slice none 0 0] 95) = w2 at *
  obtain ⟨b, hb⟩ : ∃ b, b = w.heap.size := ⟨_, rfl⟩
  have HBQ := Lib.hid hb
  rw [← hb] at HK1 HK2 HB2 HS2 ⊢
  clear hb
  refine (vcopy_any (.slice va n vc) ps HL.out w2 (HV.out.on (by rw [← HBQ.out]; exact HB2.out))).mono ?_
  rintro e w3 ⟨u, rfl, hu, hb3⟩
  obtain ⟨ua, uc, rfl, -, -⟩ := hu.vc.form
  generalize hm : ps.length = m at *
  have hK1 := HK1.out.below hb3
  have hK2 := HK2.out.below hb3
  obtain ⟨x0, x1, x2, x3⟩ := hK1.cells
  have x4 := hK1.fz 3
  have x5 := hK1.lt
  have HK5 := Lib.hid (hK1.set3 (.slice ua m uc))
  have hc5 : Chg (fun k => k = b) w3 (w3.setCell ⟨b, 3, none⟩ (.slice ua m uc)) := (Chg.refl (fun k => k = b) w3).setCell (p := ⟨b, 3, none⟩) (.inl rfl) _
  have hK25 := hK2.chg hc5 (by omega)
  have HU := Lib.hid hu; have HB3 := Lib.hid hb3; have HC5 := Lib.hid hc5
  obtain ⟨y0, y1, y2, y3⟩ := HK5.out.cells
  obtain ⟨c0, c1, c2, c3⟩ := hK25.cells
  have z0 := hK25.fz 0; have z1 := hK25.fz 1; have z2 := hK25.fz 2; have z3 := hK25.fz 3
  have z4 := hK25.lt
  have z5 := HK5.out.lt
  have HK6 := Lib.hid (hK25.set4 f i a (.slice ua m uc))
  have HC6 := Lib.hid (show Chg (fun k => k = b + 1) (w3.setCell ⟨b, 3, none⟩ (.slice ua m uc)) _ from ((((Chg.refl (fun k => k = b + 1) (w3.setCell ⟨b, 3, none⟩ (.slice ua m uc))).setCell (p := ⟨b + 1, 0, none⟩) (.inl rfl) (.int .i64 f)).setCell (p := ⟨b + 1, 1, none⟩) (.inl rfl) (.int .i64 i)).setCell (p := ⟨b + 1, 2, none⟩) (.inl rfl) (.int .i64 a)).setCell (p := ⟨b + 1, 3, none⟩) (.inl rfl) (.slice ua m uc))
  clear hu hb3 hK1 hK2 hc5 hK25
  have HM := Lib.hid hm
  clear hm
  go_wp2
  refine bodyPost_ret (res_t Try.results97 rfl HK6.out) rfl ?_
  have hs2 := HS2.out
  have hnb : ∀ k, Value.ownBlock (.slice ua m uc) = some k → w2.heap.size ≤ k := fun k hk => (HU.out.lt k hk).1
  refine ⟨_, rfl, ?_, ?_⟩
  · skip
    have h5 := ownsRow_chg HU.out HC5.out fun k hk e => by have := hnb k hk; have e : k = b := e; omega
    have h6 := ownsRow_chg h5 HC6.out fun k hk e => by have := hnb k hk; have e : k = b + 1 := e; omega
    exact ownsRow_base h6 (by have := HBQ.out; omega)
  · have h5 := HC5.out.below (B := b) (by have := HB3.out.size; omega) fun k e => by have e : k = b := e; omega
    have h6 := HC6.out.below (B := b) (by have := HB3.out.size; have := HC5.out.size; omega) fun k e => by have e : k = b + 1 := e; omega
    have := (HB2.out.trans (HB3.out.mono (by omega))).trans (h5.trans h6)
    rw [HBQ.out] at this ⊢
    exact this
theorem tnew_none (w : World) {cap : Int} (hc : cap < 1) : Calls Try.prog 48 #[.int .i64 cap] w fun e w' => e = .returned (.pointer none) ∧ w' = w := by
  go_enter Try.func48, Try.ntmps48
  go_wp2
  go_ret
  exact ⟨rfl, rfl⟩
theorem makeTm (w : World) : (Instr.makeMap 112 none).run Try.prog w = .ok (.map (some w.heap.size)) (w.alloc (.map #[] 0)) := by kernel_rfl
set_option maxRecDepth 100000 in
theorem tnew (w : World) {cap : Int} (hc : 1 ≤ cap) : Calls Try.prog 48 #[.int .i64 cap] w fun e w' => e = .returned (ptr (w.heap.size + 1)) ∧ TT w' w.heap.size (w.heap.size + 1) w.heap.size cap [] [] ∧ Below w.heap.size w w' := by
  have n1 : ¬ cap < 1 := by omega
  have hmm := makeTm
  go_enter Try.func48, Try.ntmps48
  go_wp2
  go_ret
  refine ⟨rfl, ⟨?_, ?_, fun k => rfl, rfl, Srt.In.nil, (fun r h => by cases h), ⟨by omega, by omega, by omega⟩, (fun r h => by cases h), fun r h => by cases h⟩, by (repeat (first | assumption | exact Below.refl _ _ | refine ba ?_ _ | refine bd ?_ | refine bdn ?_ _ | refine bs ?_ (by first | omega | (simp; done) | (simp; omega)) _ | refine bt ?_ (by assumption)))⟩
  · have := heap_alloc_new (w.alloc (.map #[] 0)) (.cells #[.int .i64 cap, .map (some w.heap.size)] 114)
    rw [show (w.alloc (.map #[] 0)).heap.size = w.heap.size + 1 by simp] at this
    exact this
  · exact (MapK.made w).below (ba (Below.refl _ _) _) (by simp)
section
variable {w : World} {B tp M : Nat} {cap : Int} {S : List Tk} {L : List (K2 × Value)}
theorem tmade (h : TT w B tp M cap S L) : Calls Try.prog 96 #[ptr tp] w fun e w' => e = .returned (.bool true) ∧ w' = w := by
  have hl := h.lt.1
  have c1 := h.c1
  have hmn := fun w : World => Go.run_neq_map_nil (P := Try.prog) w 112 _ _ (some M) Try.underlying112
  clear h
  go_enter Try.func96, Try.ntmps96
  go_wp2
  go_ret
  exact ⟨rfl, rfl⟩
end
end Go.Proofs.Ytnckjacbkhoppaa

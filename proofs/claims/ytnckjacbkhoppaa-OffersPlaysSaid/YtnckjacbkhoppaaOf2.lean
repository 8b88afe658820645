/- offers: Get. -/
import Derived.Test.YtnckjacbkhoppaaOf1
namespace Go.Proofs.Ytnckjacbkhoppaa
open Go.RowKit Go.Maps Go.MapKept
attribute [local go_sem] ext_cell ext_frozen extC_cell extC_frozen Mix.calmUpon Mix.mUpon
/-- A block that holds an offer. -/
def OfB (w : World) (b : Nat) (i f a : Int) (v : Value) (u : Int) : Prop := w.heap[b]? = some (.cells #[.int .i64 i, .int .i64 f, .int .i64 a, v, .int .i64 u] 61 (0, 0))
section
variable {w w' : World} {b : Nat} {i f a u : Int} {v : Value}
theorem OfB.made (w : World) (i f a : Int) (v : Value) (u : Int) : OfB (w.alloc (.cells #[.int .i64 i, .int .i64 f, .int .i64 a, v, .int .i64 u] 61)) w.heap.size i f a v u := heap_alloc_new w _
theorem OfB.lt (h : OfB w b i f a v u) : b < w.heap.size := (Array.getElem?_eq_some_iff.1 h).1
theorem OfB.chg {F : Nat → Prop} (h : OfB w b i f a v u) (hb : Chg F w w') (hf : ¬ F b) : OfB w' b i f a v u := (hb.block _ h.lt hf).trans h
theorem OfB.below (h : OfB w b i f a v u) (hb : Below w.heap.size w w') : OfB w' b i f a v u := h.chg (.of_below (fun _ => False) hb) id
theorem OfB.cells (h : OfB w b i f a v u) : w.cell? ⟨b, 0, none⟩ = some (.int .i64 i) ∧ w.cell? ⟨b, 1, none⟩ = some (.int .i64 f) ∧ w.cell? ⟨b, 2, none⟩ = some (.int .i64 a) ∧ w.cell? ⟨b, 3, none⟩ = some v ∧ w.cell? ⟨b, 4, none⟩ = some (.int .i64 u) := by unfold OfB at h; simp [World.cell?, h]
theorem OfB.fz (h : OfB w b i f a v u) (o : Nat) : w.frozen? ⟨b, o, none⟩ = false := by unfold OfB at h; simp [World.frozen?, h]
theorem OfB.set3 (h : OfB w b i f a v u) (v' : Value) : OfB (w.setCell ⟨b, 3, none⟩ v') b i f a v' u := heap_setCell_at v' h
abbrev w5 (w : World) (b : Nat) (i f a : Int) (v : Value) (u : Int) : World := ((((w.setCell ⟨b, 0, none⟩ (.int .i64 i)).setCell ⟨b, 1, none⟩ (.int .i64 f)).setCell ⟨b, 2, none⟩ (.int .i64 a)).setCell ⟨b, 3, none⟩ v).setCell ⟨b, 4, none⟩ (.int .i64 u)
theorem OfB.set5 (h : OfB w b i f a v u) (i' f' a' : Int) (v' : Value) (u' : Int) : OfB (w5 w b i' f' a' v' u') b i' f' a' v' u' :=
  heap_setCell_at _ (heap_setCell_at v' (heap_setCell_at _ (heap_setCell_at _ (heap_setCell_at _ h))))
theorem w5_chg (w : World) (b : Nat) (i f a : Int) (v : Value) (u : Int) : Chg (fun k => k = b) w (w5 w b i f a v u) :=
  (((((Chg.refl (fun k => k = b) w).setCell (p := ⟨b, 0, none⟩) (.inl rfl) _).setCell (p := ⟨b, 1, none⟩) (.inl rfl) _).setCell (p := ⟨b, 2, none⟩) (.inl rfl) _).setCell (p := ⟨b, 3, none⟩) (.inl rfl) _).setCell (p := ⟨b, 4, none⟩) (.inl rfl) _
theorem OfB.load (h : OfB w b i f a v u) : (loadVar 61 ⟨b, 0, none⟩).run Try.prog w = .ok (.agg #[.int .i64 i, .int .i64 f, .int .i64 a, v, .int .i64 u]) w := by
  obtain ⟨h0, h1, h2, h3, h4⟩ := h.cells
  have hs := h.lt
  simp [go_sem, h0, h1, h2, h3, h4, hs]
theorem res_of {fn : Func} {tmps : Array Value} {p q : Nat} (h : fn.results = #[.cell p 61, .tmp q]) (hp : tmps.getD p undef = .pointer (some ⟨b, 0, none⟩)) (hb : OfB w b i f a v u) :
    (results fn tmps).run Try.prog w = .ok (.tuple #[.agg #[.int .i64 i, .int .i64 f, .int .i64 a, v, .int .i64 u], tmps.getD q undef]) w := by
  rw [results_cell_tmp h, hp]
  simp [asAddr, Result.andThen, hb.load]
end
section
variable {w : World} {B tp Mo Mf Ma : Nat} {great last : Int} {S : List Ofr} {L : List (Int × Value)} {F A : Nat → Prop}
set_option maxRecDepth 100000 in
set_option maxHeartbeats 4000000 in
theorem oget_none (h : OT w B tp Mo Mf Ma great last S L F A) {k : Int} (hk : I64 k) (hn : fndO S k = none) : Calls Try.prog 33 #[ptr tp, .int .i64 k] w fun e w' => e = .returned (.tuple #[ofzero, .bool false]) ∧ Below w.heap.size w w' := by
  have hz := OfB.made w 0 0 0 (.slice none 0 0) 0
  have hb := ba (Below.refl w.heap.size w) (.cells #[.int .i64 0, .int .i64 0, .int .i64 0, .slice none 0 0, .int .i64 0] 61)
  have hs : w.heap.size < (w.alloc (.cells #[.int .i64 0, .int .i64 0, .int .i64 0, .slice none 0 0, .int .i64 0] 61)).heap.size := by simp
  have H := Lib.hid (h.below hb); have HZ := Lib.hid hz; have HB := Lib.hid hb
  have HI := Lib.hid hk; have HN := Lib.hid hn
  clear h hz hb hk hn
  go_enter Try.func33, Try.ntmps33
  go_wp2_with fail
  generalize w.alloc (.cells #[.int .i64 0, .int .i64 0, .int .i64 0, .slice none 0 0, .int .i64 0] 61) = w1 at *
  generalize hbq : w.heap.size = b at *
  refine (omade H.out).mono ?_
  rintro e w2 ⟨rfl, rfl⟩
  have hlook := H.out.find HI.out true
  rw [HN.out] at hlook
  replace hlook := hlook.trans (show _ = .ok (.tuple #[ofzero, .bool false]) w2 from rfl)
  obtain ⟨c0, c1, c2, c3, c4⟩ := H.out.cells
  have hl := H.out.lt.1
  obtain ⟨x0, x1, x2, x3, x4⟩ := HZ.out.cells
  have z0 := HZ.out.fz 0; have z1 := HZ.out.fz 1; have z2 := HZ.out.fz 2; have z3 := HZ.out.fz 3; have z4 := HZ.out.fz 4
  have HK4 := Lib.hid (HZ.out.set5 0 0 0 (.slice none 0 0) 0)
  have HC4 := Lib.hid (w5_chg w2 b 0 0 0 (.slice none 0 0) 0)
  have HS := Lib.hid hs
  go_wp2
  refine bodyPost_ret (res_of Try.results33 rfl (HK4.out.below (ba (Below.refl _ _) _))) rfl ?_
  refine ⟨rfl, ?_⟩
  rw [hbq]
  exact HB.out.trans ((HC4.out.below (B := b) (Nat.le_of_lt HS.out) fun k e => by have e : k = b := e; omega).trans ((ba (Below.refl _ _) _).mono (Nat.le_trans (Nat.le_of_lt HS.out) HC4.out.size)))
set_option maxRecDepth 100000 in
set_option maxHeartbeats 4000000 in
theorem oget_some (h : OT w B tp Mo Mf Ma great last S L F A) {k : Int} (hk : I64 k) {y : Ofr} (hn : fndO S k = some y) : Calls Try.prog 33 #[ptr tp, .int .i64 k] w fun e w' => ∃ u, e = .returned (.tuple #[ofval { y with vv := u }, .bool true]) ∧ OwnP w' w.heap.size u y.ps ∧ Below w.heap.size w w' := by
  have hz := OfB.made w 0 0 0 (.slice none 0 0) 0
  have hb := ba (Below.refl w.heap.size w) (.cells #[.int .i64 0, .int .i64 0, .int .i64 0, .slice none 0 0, .int .i64 0] 61)
  have hs : w.heap.size < (w.alloc (.cells #[.int .i64 0, .int .i64 0, .int .i64 0, .slice none 0 0, .int .i64 0] 61)).heap.size := by simp
  have hym := (Srt.fnd_mem hn).1
  have hyv := (h.vec y hym).vc
  have hyl : y.ps.length < 1000000 := by have := vr_len (h.num y hym).2.2.2.2.1; omega
  have H := Lib.hid (h.below hb); have HZ := Lib.hid hz; have HB := Lib.hid hb
  have HI := Lib.hid hk; have HN := Lib.hid hn
  have HYV := Lib.hid (hyv.on hb); have HYL := Lib.hid hyl
  obtain ⟨va, vc, hvv, -, -⟩ := hyv.form
  obtain ⟨yi, yf, ya, yv, ys, yu⟩ := y
  simp only at hvv
  subst hvv
  generalize hm : ys.length = m at *
  clear h hz hb hk hn hyv hyl hym
  go_enter Try.func33, Try.ntmps33
  go_wp2_with fail
  generalize w.alloc (.cells #[.int .i64 0, .int .i64 0, .int .i64 0, .slice none 0 0, .int .i64 0] 61) = w1 at *
  generalize hbq : w.heap.size = b at *
  refine (omade H.out).mono ?_
  rintro e w2 ⟨rfl, rfl⟩
  have hlook := H.out.find HI.out true
  rw [HN.out] at hlook
  replace hlook := hlook.trans (show _ = .ok (.tuple #[.agg #[.int .i64 yi, .int .i64 yf, .int .i64 ya, .slice va m vc, .int .i64 yu], .bool true]) w2 from rfl)
  obtain ⟨c0, c1, c2, c3, c4⟩ := H.out.cells
  have hl := H.out.lt.1
  have HS := Lib.hid hs
  have HB3 := Lib.hid (ba (Below.refl w2.heap.size w2) (.cells #[.int .i64 yi, .int .i64 yf, .int .i64 ya, .slice va m vc, .int .i64 yu] 61))
  have HO3 := Lib.hid (OfB.made w2 yi yf ya (.slice va m vc) yu)
  have HC := Lib.hid (vcopy_any (.slice va m vc) ys (by rw [hm]; exact HYL.out) (w2.alloc (.cells #[.int .i64 yi, .int .i64 yf, .int .i64 ya, .slice va m vc, .int .i64 yu] 61)) (HYV.out.on HB3.out))
  have HBQ := Lib.hid hbq; have HM := Lib.hid hm
  clear hbq hm
  go_wp2_with fail
  generalize w2.alloc (.cells #[.int .i64 yi, .int .i64 yf, .int .i64 ya, .slice va m vc, .int .i64 yu] 61) = w3 at *
  refine HC.out.mono ?_
  rintro e w4 ⟨u, rfl, hu, hb4⟩
  obtain ⟨ua, uc, rfl, -, -⟩ := hu.vc.form
  rw [HM.out] at *
  have HS2 := Lib.hid (show b < w2.heap.size from HS.out)
  generalize hbo : w2.heap.size = bo at *
  have HBO := Lib.hid hbo
  clear hbo
  have hO4 := HO3.out.below hb4
  obtain ⟨y0, y1, y2, y3, y4⟩ := hO4.cells
  have yz := hO4.fz 3
  have yl := hO4.lt
  have HO5 := Lib.hid (hO4.set3 (.slice ua m uc))
  have hc5 : Chg (fun k => k = bo) w4 (w4.setCell ⟨bo, 3, none⟩ (.slice ua m uc)) := (Chg.refl (fun k => k = bo) w4).setCell (p := ⟨bo, 3, none⟩) (.inl rfl) _
  have hZ5 := (HZ.out.below (by rw [HBO.out]; exact HB3.out.trans (hb4.mono (by have := HB3.out.size; have := HBO.out; omega)))).chg hc5 (by have := HS2.out; omega)
  obtain ⟨o0, o1, o2, o3, o4⟩ := HO5.out.cells
  have ol := HO5.out.lt
  obtain ⟨x0, x1, x2, x3, x4⟩ := hZ5.cells
  have z0 := hZ5.fz 0; have z1 := hZ5.fz 1; have z2 := hZ5.fz 2; have z3 := hZ5.fz 3; have z4 := hZ5.fz 4
  have z5 := hZ5.lt
  have HK4 := Lib.hid (hZ5.set5 yi yf ya (.slice ua m uc) yu)
  have HC5 := Lib.hid hc5
  have HC4 := Lib.hid (w5_chg (w4.setCell ⟨bo, 3, none⟩ (.slice ua m uc)) b yi yf ya (.slice ua m uc) yu)
  have HU := Lib.hid hu; have HB4 := Lib.hid hb4
  clear hu hb4 hc5 hZ5 hO4 c0 c1 c2 c3 c4 hlook hl
  go_wp2
  refine bodyPost_ret (res_of Try.results33 rfl HK4.out) rfl ?_
  have hs2 := HS2.out; have hs3 := HB3.out.size; have hs4 := HB4.out.size; have hs5 := HC5.out.size; have hbo := HBO.out
  refine ⟨_, rfl, ?_, ?_⟩
  · rw [HBQ.out]
    refine ownsRow_base (ownsRow_chg (ownsRow_chg HU.out HC5.out fun k hk e => ?_) HC4.out fun k hk e => ?_) (by omega)
    · have h1 := (HU.out.lt k hk).1; have h2 := HO3.out.lt; have e : k = bo := e; omega
    · have h1 := (HU.out.lt k hk).1; have e : k = b := e; omega
  · rw [HBQ.out]
    exact HB.out.trans (((HB3.out.trans (HB4.out.mono (by omega))).mono (by omega)).trans ((HC5.out.below (B := b) (by omega) fun k e => by have e : k = bo := e; omega).trans (HC4.out.below (B := b) (by omega) fun k e => by have e : k = b := e; omega)))
end
end Go.Proofs.Ytnckjacbkhoppaa

/- agents: New, made, find. -/
import Derived.Test.YtennhfkhdfalfaaAg0
import Derived.Laws.ResultCell
namespace Go.Proofs.Ytennhfkhdfalfaa
open Go.RowKit Go.Maps
attribute [local go_sem] ext_cell ext_frozen extC_cell extC_frozen Mix.calmUpon Mix.mUpon
/-- Block b holds an agent's two vectors. -/
def GB (w : World) (b : Nat) (u v : Value) : Prop := w.heap[b]? = some (.cells #[u, v] 118 (0, 0))
section
variable {w w' : World} {b : Nat} {u v : Value}
theorem GB.made (w : World) (u v : Value) : GB (w.alloc (.cells #[u, v] 118)) w.heap.size u v := heap_alloc_new w _
theorem GB.lt (h : GB w b u v) : b < w.heap.size := (Array.getElem?_eq_some_iff.1 h).1
theorem GB.below (h : GB w b u v) (hb : Below w.heap.size w w') : GB w' b u v := (hb.block b h.lt).trans h
theorem GB.chg {F : Nat → Prop} (h : GB w b u v) (hc : Chg F w w') (hf : ¬ F b) : GB w' b u v := (hc.block b h.lt hf).trans h
theorem GB.cells (h : GB w b u v) : w.cell? ⟨b, 0, none⟩ = some u ∧ w.cell? ⟨b, 1, none⟩ = some v := by unfold GB at h; simp [World.cell?, h]
theorem GB.fz (h : GB w b u v) (o : Nat) : w.frozen? ⟨b, o, none⟩ = false := by unfold GB at h; simp [World.frozen?, h]
theorem GB.set2 (h : GB w b u v) (u' v' : Value) : GB ((w.setCell ⟨b, 0, none⟩ u').setCell ⟨b, 1, none⟩ v') b u' v' := heap_setCell_at _ (heap_setCell_at _ h)
theorem GB.load (h : GB w b u v) : (loadVar 118 ⟨b, 0, none⟩).run Try.prog w = .ok (.agg #[u, v]) w := by
  obtain ⟨h0, h1⟩ := h.cells
  have hs := h.lt
  simp [go_sem, h0, h1, hs]
theorem res_gt {fn : Func} {tmps : Array Value} {p q : Nat} (h : fn.results = #[.cell p 118, .tmp q]) (hp : tmps.getD p undef = .pointer (some ⟨b, 0, none⟩)) (hb : GB w b u v) :
    (results fn tmps).run Try.prog w = .ok (.tuple #[.agg #[u, v], tmps.getD q undef]) w := by
  rw [results_cell_tmp h, hp]
  simp [asAddr, Result.andThen, hb.load]
end
theorem anew_none (w : World) {cap most : Int} (hc : cap < 1 ∨ most < 1 ∨ 9007199254740992 < most) : Calls Try.prog 12 #[.int .i64 cap, .int .i64 most] w fun e w' => e = .returned (.pointer none) ∧ w' = w := by
  by_cases h1 : cap < 1
  · go_enter Try.func12, Try.ntmps12
    go_wp2
    go_ret
    exact ⟨rfl, rfl⟩
  by_cases h2 : most < 1
  · go_enter Try.func12, Try.ntmps12
    go_wp2
    go_ret
    exact ⟨rfl, rfl⟩
  · have h3 : 9007199254740992 < most := by omega
    go_enter Try.func12, Try.ntmps12
    go_wp2
    go_ret
    exact ⟨rfl, rfl⟩
theorem makeGm (w : World) : (Instr.makeMap 50 none).run Try.prog w = .ok (.map (some w.heap.size)) (w.alloc (.map #[] 0)) := by kernel_rfl
set_option maxRecDepth 100000 in
theorem anew (W w : World) (hb : Below W.heap.size W w) {cap most : Int} (hc : 1 ≤ cap) (hm : 1 ≤ most ∧ most ≤ 9007199254740992) : Calls Try.prog 12 #[.int .i64 cap, .int .i64 most] w fun e w' => e = .returned (ptr (w.heap.size + 1)) ∧ AT W w' (w.heap.size + 1) w.heap.size cap most (fun _ => none) [] ∧ Below w.heap.size w w' := by
  have n1 : ¬ cap < 1 := by omega
  have n2 : ¬ most < 1 := by omega
  have n3 : ¬ 9007199254740992 < most := by omega
  have hmm := makeGm
  have HB := Lib.hid hb; have HM := Lib.hid hm; have HC := Lib.hid hc
  clear hb hm hc
  go_enter Try.func12, Try.ntmps12
  go_wp2
  go_ret
  have hs := HB.out.size
  refine ⟨rfl, ⟨?_, ?_, ?_, ⟨by omega, by omega⟩, by omega, (fun k x h => by cases h), (fun k x h => by cases h), fun k => rfl, ⟨Srt.In.nil, (fun x h => by cases h), by have := HC.out; simp; omega, (fun j _ => by have := HM.out; show (0 : Int) ≤ most; omega), HC.out, HM.out⟩⟩, by (repeat (first | assumption | exact Below.refl _ _ | refine ba ?_ _ | refine bd ?_ | refine bdn ?_ _ | refine bs ?_ (by first | omega | (simp; done) | (simp; omega)) _ | refine bt ?_ (by assumption)))⟩
  · have := heap_alloc_new (w.alloc (.map #[] 0)) (.cells #[.int .i64 cap, .int .i64 most, .map (some w.heap.size), .int .i64 0, .int .i64 0, .int .i64 0, .int .i64 0] 52)
    rw [show (w.alloc (.map #[] 0)).heap.size = w.heap.size + 1 by simp] at this
    exact this
  · exact (MapF.made w).chg (.of_below (fun _ => False) (ba (Below.refl _ _) _)) id
  · exact bt HB.out (by (repeat (first | assumption | exact Below.refl _ _ | refine ba ?_ _ | refine bd ?_ | refine bdn ?_ _ | refine bs ?_ (by first | omega | (simp; done) | (simp; omega)) _ | refine bt ?_ (by assumption))))
section
variable {W w : World} {tp M : Nat} {cap most : Int} {F : Int → Option Ag} {S : List Pa}
theorem amade (h : AT W w tp M cap most F S) : Calls Try.prog 67 #[ptr tp] w fun e w' => e = .returned (.bool true) ∧ w' = w := by
  have hl := h.lt.1
  obtain ⟨-, -, c2, -⟩ := h.cells
  have hmn := fun w : World => Go.run_neq_map_nil (P := Try.prog) w 50 _ _ (some M) Try.underlying50
  clear h
  go_enter Try.func67, Try.ntmps67
  go_wp2
  go_ret
  exact ⟨rfl, rfl⟩
/-- What find answers. -/
def afA (F : Int → Option Ag) (k : Int) : Value := match F k with | some x => .tuple #[agval x, .int .i64 0] | none => .tuple #[agzero, .int .i64 43]
set_option maxRecDepth 100000 in
set_option maxHeartbeats 4000000 in
theorem afind (h : AT W w tp M cap most F S) {k : Int} (hk : I64 k) : Calls Try.prog 64 #[ptr tp, .int .i64 k] w fun e w' => e = .returned (afA F k) ∧ Below w.heap.size w w' := by
  have hz := GB.made w (.slice none 0 0) (.slice none 0 0)
  have hb := ba (Below.refl w.heap.size w) (.cells #[.slice none 0 0, .slice none 0 0] 118)
  have H := Lib.hid (h.below hb); have HZ := Lib.hid hz; have HB := Lib.hid hb; have HK := Lib.hid hk
  clear h hz hb hk
  unfold afA
  cases hf : F k with
  | none =>
    have HF := Lib.hid hf
    go_enter Try.func64, Try.ntmps64
    go_wp2_with fail
    generalize w.alloc (.cells #[.slice none 0 0, .slice none 0 0] 118) = w1 at *
    obtain ⟨b, hbq⟩ : ∃ b, b = w.heap.size := ⟨_, rfl⟩
    rw [← hbq] at HZ ⊢
    refine (amade H.out).mono ?_
    rintro e w2 ⟨rfl, hw2⟩
    rw [hw2]
    clear hw2 w2
    have hlook := H.out.look HK.out true
    rw [HF.out] at hlook
    replace hlook := hlook.trans (show _ = .ok (.tuple #[agzero, .bool false]) w1 from rfl)
    obtain ⟨-, -, c2, -⟩ := H.out.cells
    have hl := H.out.lt.1
    obtain ⟨z0, z1⟩ := HZ.out.cells
    have y0 := HZ.out.fz 0; have y1 := HZ.out.fz 1
    have zl := HZ.out.lt
    have HS2 := Lib.hid (HZ.out.set2 (.slice none 0 0) (.slice none 0 0))
    have HC2 := Lib.hid (show Below b w1 ((w1.setCell ⟨b, 0, none⟩ (.slice none 0 0)).setCell ⟨b, 1, none⟩ (.slice none 0 0)) from bs (p := ⟨b, 1, none⟩) (bs (p := ⟨b, 0, none⟩) (Below.refl b w1) (Nat.le_refl b) _) (Nat.le_refl b) _)
    have HBQ := Lib.hid hbq
    clear hbq
    go_wp2
    refine bodyPost_ret (res_gt Try.results64 rfl (HS2.out.below (ba (Below.refl _ _) _))) rfl ?_
    refine ⟨rfl, HB.out.trans (?_ : Below w.heap.size w1 _)⟩
    rw [← HBQ.out]
    exact HC2.out.alloc (by have := HZ.out.lt; simp; omega) _
  | some x =>
    have HF := Lib.hid hf
    obtain ⟨ta, tc, htv, -, -⟩ := (H.out.vec k x hf).1.vc.form
    obtain ⟨fa, fc, hfv, -, -⟩ := (H.out.vec k x hf).2.vc.form
    obtain ⟨tv, tps, fv, fps⟩ := x
    simp only at htv hfv
    subst htv hfv
    generalize tps.length = tn at *
    generalize fps.length = fn at *
    go_enter Try.func64, Try.ntmps64
    go_wp2_with fail
    generalize w.alloc (.cells #[.slice none 0 0, .slice none 0 0] 118) = w1 at *
    obtain ⟨b, hbq⟩ : ∃ b, b = w.heap.size := ⟨_, rfl⟩
    rw [← hbq] at HZ ⊢
    refine (amade H.out).mono ?_
    rintro e w2 ⟨rfl, hw2⟩
    rw [hw2]
    clear hw2 w2
    have hlook := H.out.look HK.out true
    rw [HF.out] at hlook
    replace hlook := hlook.trans (show _ = .ok (.tuple #[.agg #[.slice ta tn tc, .slice fa fn fc], .bool true]) w1 from rfl)
    obtain ⟨-, -, c2, -⟩ := H.out.cells
    have hl := H.out.lt.1
    obtain ⟨z0, z1⟩ := HZ.out.cells
    have y0 := HZ.out.fz 0; have y1 := HZ.out.fz 1
    have zl := HZ.out.lt
    have HS2 := Lib.hid (HZ.out.set2 (.slice ta tn tc) (.slice fa fn fc))
    have HC2 := Lib.hid (show Below b w1 ((w1.setCell ⟨b, 0, none⟩ (.slice ta tn tc)).setCell ⟨b, 1, none⟩ (.slice fa fn fc)) from bs (p := ⟨b, 1, none⟩) (bs (p := ⟨b, 0, none⟩) (Below.refl b w1) (Nat.le_refl b) _) (Nat.le_refl b) _)
    have HBQ := Lib.hid hbq
    clear hbq
    go_wp2
    refine bodyPost_ret (res_gt Try.results64 rfl (HS2.out.below (ba (Below.refl _ _) _))) rfl ?_
    refine ⟨rfl, HB.out.trans (?_ : Below w.heap.size w1 _)⟩
    rw [← HBQ.out]
    exact HC2.out.alloc (by have := HZ.out.lt; simp; omega) _
end
end Go.Proofs.Ytennhfkhdfalfaa

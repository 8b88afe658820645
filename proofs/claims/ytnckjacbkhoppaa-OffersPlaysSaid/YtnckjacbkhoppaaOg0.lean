/- offers: what a nil table and a plain one answer. -/
import Derived.Test.YtnckjacbkhoppaaOf9
namespace Go.Proofs.Ytnckjacbkhoppaa
open Go.RowKit Go.Maps
attribute [local go_sem] ext_cell ext_frozen extC_cell extC_frozen Mix.calmUpon Mix.mUpon
/-- Block b is a plain table. -/
def OPL (w : World) (b : Nat) : Prop := w.heap[b]? = some (.cells #[.int .i64 0, .int .i64 0, .map none, .map none, .map none] 84 (0, 0))
theorem OPL.lt {w : World} {b : Nat} (h : OPL w b) : b < w.heap.size := (Array.getElem?_eq_some_iff.1 h).1
theorem OPL.below {w w' : World} {b : Nat} (h : OPL w b) (hb : Below w.heap.size w w') : OPL w' b := (hb.block b h.lt).trans h
theorem OPL.c2 {w : World} {b : Nat} (h : OPL w b) : w.cell? ⟨b, 2, none⟩ = some (.map none) := by unfold OPL at h; simp [World.cell?, h]
/-- A table that was not made. -/
def NoO (w : World) (v : Value) : Prop := ∀ w', Below w.heap.size w w' → Calls Try.prog 88 #[v] w' fun e w'' => e = .returned (.bool false) ∧ w'' = w'
theorem noO_nil (w : World) : NoO w (.pointer none) := fun w' _ => by
  go_enter Try.func88, Try.ntmps88
  go_wp2
  go_ret
  exact ⟨rfl, rfl⟩
theorem noO_plain {w : World} {b : Nat} (h : OPL w b) : NoO w (ptr b) := fun w' hb => by
  have h' := h.below hb
  have hl := h'.lt
  have c2 := h'.c2
  have hmn := fun w : World => Go.run_neq_map_nil (P := Try.prog) w 80 _ _ none Try.underlying80
  clear h h' hb
  go_enter Try.func88, Try.ntmps88
  go_wp2
  go_ret
  exact ⟨rfl, rfl⟩
section
variable {w : World} {v : Value}
theorem NoO.on {w' : World} (h : NoO w v) (hb : Below w.heap.size w w') : NoO w' v := fun w'' h' => h w'' (bt hb h')
theorem noissue (h : NoO w v) (f a u : Int) (x : Value) : Calls Try.prog 38 #[v, .int .i64 f, .int .i64 a, x, .int .i64 u] w fun e w' => e = .returned (.tuple #[.int .i64 0, .int .i64 40]) ∧ Below w.heap.size w w' := by
  have H := Lib.hid (h _ (Below.refl _ _))
  clear h
  go_enter Try.func38, Try.ntmps38
  go_wp2_with fail
  refine H.out.mono ?_
  rintro e w2 ⟨rfl, rfl⟩
  go_wp2
  go_ret2
  exact ⟨rfl, Below.refl _ _⟩
set_option maxRecDepth 100000 in
set_option maxHeartbeats 4000000 in
theorem noget (h : NoO w v) (i : Int) : Calls Try.prog 33 #[v, .int .i64 i] w fun e w' => e = .returned (.tuple #[ofzero, .bool false]) ∧ Below w.heap.size w w' := by
  have hz := OfB.made w 0 0 0 (.slice none 0 0) 0
  have hb := ba (Below.refl w.heap.size w) (.cells #[.int .i64 0, .int .i64 0, .int .i64 0, .slice none 0 0, .int .i64 0] 61)
  have H := Lib.hid (h _ hb); have HZ := Lib.hid hz; have HB := Lib.hid hb
  clear h hz hb
  go_enter Try.func33, Try.ntmps33
  go_wp2_with fail
  generalize w.alloc (.cells #[.int .i64 0, .int .i64 0, .int .i64 0, .slice none 0 0, .int .i64 0] 61) = w1 at *
  generalize hbq : w.heap.size = b at *
  refine H.out.mono ?_
  rintro e w2 ⟨rfl, rfl⟩
  obtain ⟨x0, x1, x2, x3, x4⟩ := HZ.out.cells
  have z0 := HZ.out.fz 0; have z1 := HZ.out.fz 1; have z2 := HZ.out.fz 2; have z3 := HZ.out.fz 3; have z4 := HZ.out.fz 4
  have z5 := HZ.out.lt
  have HK4 := Lib.hid (HZ.out.set5 0 0 0 (.slice none 0 0) 0)
  have HC4 := Lib.hid (w5_chg w2 b 0 0 0 (.slice none 0 0) 0)
  go_wp2
  refine bodyPost_ret (res_of Try.results33 rfl HK4.out) rfl ?_
  refine ⟨rfl, ?_⟩
  rw [hbq]
  exact HB.out.trans (HC4.out.below (B := b) (Nat.le_of_lt HZ.out.lt) fun k e => by have e : k = b := e; omega)
set_option maxRecDepth 100000 in
set_option maxHeartbeats 4000000 in
theorem noclose (h : NoO w v) (i : Int) : Calls Try.prog 35 #[v, .int .i64 i] w fun e w' => e = .returned (.tuple #[ofzero, .bool false]) ∧ Below w.heap.size w w' := by
  have hz := OfB.made w 0 0 0 (.slice none 0 0) 0
  have hb := ba (Below.refl w.heap.size w) (.cells #[.int .i64 0, .int .i64 0, .int .i64 0, .slice none 0 0, .int .i64 0] 61)
  have hs : w.heap.size < (w.alloc (.cells #[.int .i64 0, .int .i64 0, .int .i64 0, .slice none 0 0, .int .i64 0] 61)).heap.size := by simp
  have H := Lib.hid (h.on hb); have HZ := Lib.hid hz; have HB := Lib.hid hb
  clear h hz hb
  go_enter Try.func35, Try.ntmps35
  go_wp2_with fail
  generalize w.alloc (.cells #[.int .i64 0, .int .i64 0, .int .i64 0, .slice none 0 0, .int .i64 0] 61) = w1 at *
  generalize hbq : w.heap.size = b at *
  refine (noget H.out i).mono ?_
  rintro e w2 ⟨rfl, hb2⟩
  have hb23 := ba (Below.refl w2.heap.size w2) (.cells #[.int .i64 0, .int .i64 0, .int .i64 0, .slice none 0 0, .int .i64 0] 61)
  have HK := Lib.hid (OfB.made w2 0 0 0 (.slice none 0 0) 0)
  have HB3 := Lib.hid (bt hb2 hb23)
  have hK := HZ.out.below (bt hb2 hb23)
  obtain ⟨x0, x1, x2, x3, x4⟩ := hK.cells
  have z0 := hK.fz 0; have z1 := hK.fz 1; have z2 := hK.fz 2; have z3 := hK.fz 3; have z4 := hK.fz 4
  have z5 := hK.lt
  obtain ⟨y0, y1, y2, y3, y4⟩ := HK.out.cells
  have y5 := HK.out.lt
  have HK4 := Lib.hid (hK.set5 0 0 0 (.slice none 0 0) 0)
  have HC4 := Lib.hid (w5_chg (w2.alloc (.cells #[.int .i64 0, .int .i64 0, .int .i64 0, .slice none 0 0, .int .i64 0] 61)) b 0 0 0 (.slice none 0 0) 0)
  have HS := Lib.hid hs; have HBQ := Lib.hid hbq
  clear hb2 hb23 hK hbq
  go_wp2
  refine bodyPost_ret (res_of Try.results35 rfl HK4.out) rfl ?_
  refine ⟨rfl, ?_⟩
  rw [HBQ.out]
  have hs1 := HS.out; have hs3 := HB3.out.size
  exact HB.out.trans ((HB3.out.mono (by omega)).trans (HC4.out.below (B := b) (by omega) fun k e => by have e : k = b := e; omega))
theorem noall (h : NoO w v) : Calls Try.prog 39 #[v] w fun e w' => e = .returned (.slice none 0 0) ∧ Below w.heap.size w w' := by
  have H := Lib.hid (h _ (Below.refl _ _))
  clear h
  go_enter Try.func39, Try.ntmps39
  go_wp2_with fail
  refine H.out.mono ?_
  rintro e w2 ⟨rfl, rfl⟩
  go_wp2
  go_ret
  exact ⟨rfl, Below.refl _ _⟩
theorem noof (h : NoO w v) (f : Int) : Calls Try.prog 42 #[v, .int .i64 f] w fun e w' => e = .returned (.slice none 0 0) ∧ Below w.heap.size w w' := by
  have H := Lib.hid (h _ (Below.refl _ _))
  clear h
  go_enter Try.func42, Try.ntmps42
  go_wp2_with fail
  refine H.out.mono ?_
  rintro e w2 ⟨rfl, rfl⟩
  go_wp2
  go_ret
  exact ⟨rfl, Below.refl _ _⟩
set_option maxRecDepth 100000 in
set_option maxHeartbeats 4000000 in
theorem nosum (h : NoO w v) (f : Int) : Calls Try.prog 45 #[v, .int .i64 f] w fun e w' => e = .returned (S4 Z4) ∧ Below w.heap.size w w' := by
  have hb01 := ba (Below.refl w.heap.size w) (.cells (C4 Z4) 37)
  have hb12 := ba (Below.refl (w.alloc (.cells (C4 Z4) 37)).heap.size (w.alloc (.cells (C4 Z4) 37))) (.cells (C4 Z4) 37)
  have hk0 := (KS.made w Z4 37).below hb12
  have hk1 := KS.made (w.alloc (.cells (C4 Z4) 37)) Z4 37
  rw [show (w.alloc (.cells (C4 Z4) 37)).heap.size = w.heap.size + 1 by simp] at hk1
  have H := Lib.hid (noof (h.on (bt hb01 hb12)) f)
  have HK0 := Lib.hid hk0; have HK1 := Lib.hid hk1; have HB2 := Lib.hid (bt hb01 hb12)
  clear h hk0 hk1 hb01 hb12
  go_enter Try.func45, Try.ntmps45
  go_wp2_with fail
  generalize (w.alloc (.cells (C4 Z4) 37)).alloc (.cells (C4 Z4) 37) = w2 at *
  generalize hbq : w.heap.size = b0 at *
  refine H.out.mono ?_
  rintro e w3 ⟨rfl, hb3⟩
  have hK0 := HK0.out.below hb3
  have hK1 := HK1.out.below hb3
  obtain ⟨t0, t1, t2, t3⟩ := hK1.cells
  have t4 := hK1.lt
  obtain ⟨r0, r1, r2, r3⟩ := hK0.cells
  have r4 := hK0.lt
  have g0 := hK0.fz 0; have g1 := hK0.fz 1; have g2 := hK0.fz 2; have g3 := hK0.fz 3
  have HR0 := Lib.hid (hK0.set4 Z4)
  have HB12 := Lib.hid ((HB2.out.trans (hb3.mono (by have := HK0.out.lt; omega))).trans ((ks_chg w3 b0 (.int .i64 0) (.int .i64 0) (.int .i64 0) (.int .i64 0)).below (Nat.le_of_lt hK0.lt) fun k e => by rw [e]; exact Nat.le_refl _))
  have HBQ := Lib.hid hbq
  clear hb3 hK0 hK1 hbq
  go_wp2
  go_loop [14] (fun iv => iv = .int .i64 0) (fun _ => 0)
  case atStart => rfl
  case round =>
    obtain rfl := hrel
    go_wp2
    refine bodyPost_ret (res_s Try.results45 rfl HR0.out) rfl ?_
    exact ⟨rfl, by rw [HBQ.out]; exact HB12.out⟩
end
end Go.Proofs.Ytnckjacbkhoppaa

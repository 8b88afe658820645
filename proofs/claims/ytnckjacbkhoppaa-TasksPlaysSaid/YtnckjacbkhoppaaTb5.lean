/- tasks: what a nil table and a plain one answer. -/
import Derived.Test.YtnckjacbkhoppaaTb4
namespace Go.Proofs.Ytnckjacbkhoppaa
open Go.RowKit Go.Maps
attribute [local go_sem] ext_cell ext_frozen extC_cell extC_frozen Mix.calmUpon Mix.mUpon
/-- Block b is a plain table. -/
def TPL (w : World) (b : Nat) : Prop := w.heap[b]? = some (.cells #[.int .i64 0, .map none] 114 (0, 0))
theorem TPL.lt {w : World} {b : Nat} (h : TPL w b) : b < w.heap.size := (Array.getElem?_eq_some_iff.1 h).1
theorem TPL.below {w w' : World} {b : Nat} (h : TPL w b) (hb : Below w.heap.size w w') : TPL w' b := (hb.block b h.lt).trans h
theorem TPL.c1 {w : World} {b : Nat} (h : TPL w b) : w.cell? ⟨b, 1, none⟩ = some (.map none) := by unfold TPL at h; simp [World.cell?, h]
/-- A table that was not made. -/
def NoT (w : World) (v : Value) : Prop := ∀ w', Below w.heap.size w w' → Calls Try.prog 96 #[v] w' fun e w'' => e = .returned (.bool false) ∧ w'' = w'
theorem no_nil (w : World) : NoT w (.pointer none) := fun w' _ => by
  go_enter Try.func96, Try.ntmps96
  go_wp2
  go_ret
  exact ⟨rfl, rfl⟩
theorem no_plain {w : World} {b : Nat} (h : TPL w b) : NoT w (ptr b) := fun w' hb => by
  have h' := h.below hb
  have hl := h'.lt
  have c1 := h'.c1
  have hmn := fun w : World => Go.run_neq_map_nil (P := Try.prog) w 112 _ _ none Try.underlying112
  clear h h' hb
  go_enter Try.func96, Try.ntmps96
  go_wp2
  go_ret
  exact ⟨rfl, rfl⟩
section
variable {w : World} {v : Value}
theorem NoT.on {w' : World} (h : NoT w v) (hb : Below w.heap.size w w') : NoT w' v := fun w'' h' => h w'' (bt hb h')
theorem nlaunch (h : NoT w v) (x : Tk) : Calls Try.prog 57 #[v, tkval x] w fun e w' => e = .returned (.int .i64 40) ∧ Below w.heap.size w w' := by
  have hb := ba (Below.refl w.heap.size w) (.cells #[.int .i64 x.frame, .int .i64 x.id, .int .i64 x.agent, x.vv] 95)
  have H := Lib.hid (h _ hb); have HB := Lib.hid hb
  clear h hb
  go_enter Try.func57, Try.ntmps57
  go_wp2_with fail
  refine H.out.mono ?_
  rintro e w2 ⟨rfl, rfl⟩
  go_wp2
  go_ret
  exact ⟨rfl, HB.out⟩
set_option maxRecDepth 100000 in
set_option maxHeartbeats 4000000 in
theorem nget (h : NoT w v) (f i : Int) : Calls Try.prog 51 #[v, .int .i64 f, .int .i64 i] w fun e w' => e = .returned (.tuple #[tkzero, .bool false]) ∧ Below w.heap.size w w' := by
  have hz := KB.made w 0 0 0 (.slice none 0 0)
  have hb := ba (Below.refl w.heap.size w) (.cells #[.int .i64 0, .int .i64 0, .int .i64 0, .slice none 0 0] 95)
  have H := Lib.hid (h _ hb); have HZ := Lib.hid hz; have HB := Lib.hid hb
  clear h hz hb
  go_enter Try.func51, Try.ntmps51
  go_wp2_with fail
  generalize w.alloc (.cells #[.int .i64 0, .int .i64 0, .int .i64 0, .slice none 0 0] 95) = w1 at *
  generalize hbq : w.heap.size = b at *
  refine H.out.mono ?_
  rintro e w2 ⟨rfl, rfl⟩
  obtain ⟨x0, x1, x2, x3⟩ := HZ.out.cells
  have z0 := HZ.out.fz 0; have z1 := HZ.out.fz 1; have z2 := HZ.out.fz 2; have z3 := HZ.out.fz 3
  have z4 := HZ.out.lt
  have HK4 := Lib.hid (HZ.out.set4 0 0 0 (.slice none 0 0))
  have HC4 := Lib.hid (ks_chg w2 b (.int .i64 0) (.int .i64 0) (.int .i64 0) (.slice none 0 0))
  go_wp2
  refine bodyPost_ret (res_tt Try.results51 rfl HK4.out) rfl ?_
  refine ⟨rfl, ?_⟩
  rw [hbq]
  exact HB.out.trans (HC4.out.below (B := b) (Nat.le_of_lt HZ.out.lt) fun k e => by have e : k = b := e; omega)
set_option maxRecDepth 100000 in
set_option maxHeartbeats 4000000 in
theorem nend (h : NoT w v) (f i : Int) : Calls Try.prog 53 #[v, .int .i64 f, .int .i64 i] w fun e w' => e = .returned (.tuple #[tkzero, .bool false]) ∧ Below w.heap.size w w' := by
  have hz := KB.made w 0 0 0 (.slice none 0 0)
  have hb := ba (Below.refl w.heap.size w) (.cells #[.int .i64 0, .int .i64 0, .int .i64 0, .slice none 0 0] 95)
  have H := Lib.hid (h.on hb); have HZ := Lib.hid hz; have HB := Lib.hid hb
  clear h hz hb
  go_enter Try.func53, Try.ntmps53
  go_wp2_with fail
  generalize w.alloc (.cells #[.int .i64 0, .int .i64 0, .int .i64 0, .slice none 0 0] 95) = w1 at *
  generalize hbq : w.heap.size = b at *
  refine (nget H.out f i).mono ?_
  rintro e w2 ⟨rfl, hb2⟩
  have hK := HZ.out.below hb2
  obtain ⟨x0, x1, x2, x3⟩ := hK.cells
  have z0 := hK.fz 0; have z1 := hK.fz 1; have z2 := hK.fz 2; have z3 := hK.fz 3
  have z4 := hK.lt
  have HK4 := Lib.hid (hK.set4 0 0 0 (.slice none 0 0))
  have HC4 := Lib.hid (ks_chg w2 b (.int .i64 0) (.int .i64 0) (.int .i64 0) (.slice none 0 0))
  have HB2 := Lib.hid hb2; have HZ4 := Lib.hid z4; have HZ3 := Lib.hid HZ.out.lt
  have HBQ := Lib.hid hbq
  clear hb2 hK hbq
  go_wp2
  refine bodyPost_ret (res_tt Try.results53 rfl (HK4.out.below (ba (Below.refl _ _) _))) rfl ?_
  refine ⟨rfl, ?_⟩
  rw [HBQ.out]
  have hs1 := HZ3.out; have hs2 := HB2.out.size; have hs3 := HC4.out.size
  exact HB.out.trans ((HB2.out.mono (by omega)).trans ((HC4.out.below (B := b) (by omega) fun k e => by have e : k = b := e; omega).trans ((ba (Below.refl _ _) _).mono (by omega))))
theorem nlong (h : NoT w v) : Calls Try.prog 59 #[v] w fun e w' => e = .returned (.int .i64 0) ∧ Below w.heap.size w w' := by
  have H := Lib.hid (h w (Below.refl _ _))
  clear h
  go_enter Try.func59, Try.ntmps59
  go_wp2_with fail
  refine H.out.mono ?_
  rintro e w2 ⟨rfl, rfl⟩
  go_wp2
  go_ret
  exact ⟨rfl, Below.refl _ _⟩
theorem nthose (h : NoT w v) (g : Value) : Calls Try.prog 98 #[v, g] w fun e w' => e = .returned (.slice none 0 0) ∧ Below w.heap.size w w' := by
  have H := Lib.hid (h w (Below.refl _ _))
  clear h
  go_enter Try.func98, Try.ntmps98
  go_wp2_with fail
  refine H.out.mono ?_
  rintro e w2 ⟨rfl, rfl⟩
  go_wp2
  go_ret
  exact ⟨rfl, Below.refl _ _⟩
theorem nof (h : NoT w v) (f : Int) : Calls Try.prog 60 #[v, .int .i64 f] w fun e w' => e = .returned (.slice none 0 0) ∧ Below w.heap.size w w' := by
  have hmf : ∀ (fn : Fn) (first cap : Array Value) (w : World), (Instr.makeFunc fn first cap).run Try.prog w = .ok (.func fn first cap) w := fun _ _ _ _ => rfl
  have hb := ba (Below.refl w.heap.size w) (.cells #[.int .i64 f] 2)
  have H := Lib.hid (nthose (h.on hb)); have HB := Lib.hid hb
  clear h hb
  go_enter Try.func60, Try.ntmps60
  go_wp2_with fail
  refine (H.out _).mono ?_
  rintro e w2 ⟨rfl, hb2⟩
  have HB2 := Lib.hid hb2
  clear hb2
  go_wp2
  go_ret
  exact ⟨rfl, bt HB.out HB2.out⟩
set_option maxRecDepth 100000 in
set_option maxHeartbeats 4000000 in
theorem nsum (h : NoT w v) (f : Int) : Calls Try.prog 63 #[v, .int .i64 f] w fun e w' => e = .returned (S4 Z4) ∧ Below w.heap.size w w' := by
  have hb01 := ba (Below.refl w.heap.size w) (.cells (C4 Z4) 37)
  have hb12 := ba (Below.refl (w.alloc (.cells (C4 Z4) 37)).heap.size (w.alloc (.cells (C4 Z4) 37))) (.cells (C4 Z4) 37)
  have hk0 := (KS.made w Z4 37).below hb12
  have hk1 := KS.made (w.alloc (.cells (C4 Z4) 37)) Z4 37
  rw [show (w.alloc (.cells (C4 Z4) 37)).heap.size = w.heap.size + 1 by simp] at hk1
  have H := Lib.hid (nof (h.on (bt hb01 hb12)) f)
  have HK0 := Lib.hid hk0; have HK1 := Lib.hid hk1; have HB2 := Lib.hid (bt hb01 hb12)
  clear h hk0 hk1 hb01 hb12
  go_enter Try.func63, Try.ntmps63
  go_wp2_with fail
  generalize (w.alloc (.cells (C4 Z4) 37)).alloc (.cells (C4 Z4) 37) = w2 at *
  generalize hbq : w.heap.size = b0 at *
  refine H.out.mono ?_
  rintro e w3 ⟨rfl, hb3⟩
  have hK0 := HK0.out.below hb3
  have hK1 := HK1.out.below hb3
  obtain ⟨t0, t1, t2, t3⟩ := hK1.cells
  have t4 := hK1.lt
  obtain ⟨r0, r1, r2, r3⟩ := hK0.cells
  have r4 := hK0.lt
  have g0 := hK0.fz 0; have g1 := hK0.fz 1; have g2 := hK0.fz 2; have g3 := hK0.fz 3
  have HR0 := Lib.hid (hK0.set4 Z4)
  have HB12 := Lib.hid ((HB2.out.trans (hb3.mono (by have := HK0.out.lt; omega))).trans ((ks_chg w3 b0 (.int .i64 0) (.int .i64 0) (.int .i64 0) (.int .i64 0)).below (Nat.le_of_lt hK0.lt) fun k e => by rw [e]; exact Nat.le_refl _))
  have HBQ := Lib.hid hbq
  clear hb3 hK0 hK1 hbq
  go_wp2
  go_loop [14] (fun iv => iv = .int .i64 0) (fun _ => 0)
  case atStart => rfl
  case round =>
    obtain rfl := hrel
    go_wp2
    refine bodyPost_ret (res_s Try.results63 rfl HR0.out) rfl ?_
    exact ⟨rfl, by rw [HBQ.out]; exact HB12.out⟩
end
end Go.Proofs.Ytnckjacbkhoppaa

/- Contracts of conf.Parse, conf.Small. Condition: the powers of ten, the error values and MaxLen lie in their variables. -/
import Derived.Test.YtlhljioncgddeaaDoorConf8
namespace Go.Proofs.YtlhljioncgddeaaDoor
open Go.RowKit Go.Proofs
attribute [local go_sem] ext_cell ext_frozen Mix.calmUpon Mix.mUpon
theorem clo_T10' {W w : World} (h : T10 W) (hb : Below W.heap.size W w) : T10 w := clo_T10 _ _ h hb
abbrev Z9 : Array Value := #[.int .i64 0, .int .i64 0, .int .i64 0, .int .i64 0, .int .i64 0, .int .i64 0, .int .i64 0, .int .i64 0, .int .i64 0]
theorem ar_of (W X : World) (b : Nat) (hb : b = W.heap.size) (h : Below (RW0 W).heap.size (RW0 W) X) : AR X b 9 (fun _ => 0) := by subst hb; exact (rw0_AR W).grow h
theorem eqC_yes (h m i l c a0 a1 a2 a3 : Int) (w : World) : (Op.equalIn 10000 43 (.agg #[.int .i64 h, .int .i64 m, .int .i64 i, .int .i64 l, .int .i64 c, .int .i64 a0, .int .i64 a1, .int .i64 a2, .int .i64 a3]) (.agg #[.int .i64 h, .int .i64 m, .int .i64 i, .int .i64 l, .int .i64 c, .int .i64 a0, .int .i64 a1, .int .i64 a2, .int .i64 a3])).run Tryd.prog w = .ok true w := by
  rw [eqC]; simp
theorem eqC_no (h m i l c h' m' i' l' c' a0 a1 a2 a3 b0 b1 b2 b3 : Int) (hn : ¬ (h = h' ∧ m = m' ∧ i = i' ∧ l = l' ∧ c = c' ∧ a0 = b0 ∧ a1 = b1 ∧ a2 = b2 ∧ a3 = b3)) (w : World) : (Op.equalIn 10000 43 (.agg #[.int .i64 h, .int .i64 m, .int .i64 i, .int .i64 l, .int .i64 c, .int .i64 a0, .int .i64 a1, .int .i64 a2, .int .i64 a3]) (.agg #[.int .i64 h', .int .i64 m', .int .i64 i', .int .i64 l', .int .i64 c', .int .i64 b0, .int .i64 b1, .int .i64 b2, .int .i64 b3])).run Tryd.prog w = .ok false w := by
  rw [eqC]
  congr 1
  rw [Bool.eq_false_iff]
  intro hh
  apply hn
  simpa using hh
set_option maxRecDepth 100000 in
set_option maxHeartbeats 4000000 in
theorem cparse_zero (s : ByteArray) (hr : PureOn CC Tryd.prog 62 #[.string s] (C9 0 0 0 0 0 Z0)) : PureOn CC Tryd.prog 38 #[.string s] (.tuple #[C9 0 0 0 0 0 Z0, .bool false]) := by
  intro W hC
  have HC := Lib.hid hC
  have HR := Lib.hid (show PureOn CC Tryd.prog 62 #[.string s] (.agg #[.int .i64 0, .int .i64 0, .int .i64 0, .int .i64 0, .int .i64 0, .int .i64 0, .int .i64 0, .int .i64 0, .int .i64 0]) from hr)
  have hq : ∀ w, (Op.equalIn 10000 43 (.agg #[.int .i64 0, .int .i64 0, .int .i64 0, .int .i64 0, .int .i64 0, .int .i64 0, .int .i64 0, .int .i64 0, .int .i64 0]) (.agg #[.int .i64 0, .int .i64 0, .int .i64 0, .int .i64 0, .int .i64 0, .int .i64 0, .int .i64 0, .int .i64 0, .int .i64 0])).run Tryd.prog w = .ok true w := fun w => eqC_yes _ _ _ _ _ _ _ _ _ w
  clear hC hr
  go_enter Tryd.func38, Tryd.ntmps38
  go_wp2_with fail
  (with_reducible refine (HR.out.app _ (CC.on HC.out (by (repeat (first | assumption | exact Below.refl _ _ | refine ba ?_ _ | refine bd ?_ | refine bdn ?_ _ | refine bs ?_ (by first | omega | (simp; done) | (simp; omega)) _ | refine bt ?_ (by assumption)))))).mono ?_)
  rintro e w1 ⟨rfl, hb1⟩
  have hs1 : W.heap.size + 1 ≤ w1.heap.size := (by have h := hb1.size; first | omega | (simp at h; omega))
  have hz1_0 : W.heap.size < w1.heap.size := (by omega)
  obtain ⟨hc1, hf1, hl1⟩ := bcell hb1
  clear hl1
  have HRA := ar_of W w1 W.heap.size rfl (by (repeat (first | assumption | exact Below.refl _ _ | refine ba ?_ _ | refine bd ?_ | refine bdn ?_ _ | refine bs ?_ (by first | omega | (simp; done) | (simp; omega)) _ | refine bt ?_ (by assumption))))
  have c0 := HRA.c 0 (by decide)
  have f0 := HRA.f 0
  have c1 := HRA.c 1 (by decide)
  have f1 := HRA.f 1
  have c2 := HRA.c 2 (by decide)
  have f2 := HRA.f 2
  have c3 := HRA.c 3 (by decide)
  have f3 := HRA.f 3
  have c4 := HRA.c 4 (by decide)
  have f4 := HRA.f 4
  have c5 := HRA.c 5 (by decide)
  have f5 := HRA.f 5
  have c6 := HRA.c 6 (by decide)
  have f6 := HRA.f 6
  have c7 := HRA.c 7 (by decide)
  have f7 := HRA.f 7
  have c8 := HRA.c 8 (by decide)
  have f8 := HRA.f 8
  have HBX := Lib.hid (show Below W.heap.size W w1 by (repeat (first | assumption | exact Below.refl _ _ | refine ba ?_ _ | refine bd ?_ | refine bdn ?_ _ | refine bs ?_ (by first | omega | (simp; done) | (simp; omega)) _ | refine bt ?_ (by assumption))))
  clear HRA
  go_wp2
  refine ret_world ?_
  intro X hX
  have x0 : X.cell? ⟨W.heap.size, 0, none⟩ = some (.int .i64 (0)) := by rw [hX]; simp [go_sem, hz1_0, c0]
  have x1 : X.cell? ⟨W.heap.size, 1, none⟩ = some (.int .i64 (0)) := by rw [hX]; simp [go_sem, hz1_0, c1]
  have x2 : X.cell? ⟨W.heap.size, 2, none⟩ = some (.int .i64 (0)) := by rw [hX]; simp [go_sem, hz1_0, c2]
  have x3 : X.cell? ⟨W.heap.size, 3, none⟩ = some (.int .i64 (0)) := by rw [hX]; simp [go_sem, hz1_0, c3]
  have x4 : X.cell? ⟨W.heap.size, 4, none⟩ = some (.int .i64 (0)) := by rw [hX]; simp [go_sem, hz1_0, c4]
  have x5 : X.cell? ⟨W.heap.size, 5, none⟩ = some (.int .i64 (0)) := by rw [hX]; simp [go_sem, hz1_0, c5]
  have x6 : X.cell? ⟨W.heap.size, 6, none⟩ = some (.int .i64 (0)) := by rw [hX]; simp [go_sem, hz1_0, c6]
  have x7 : X.cell? ⟨W.heap.size, 7, none⟩ = some (.int .i64 (0)) := by rw [hX]; simp [go_sem, hz1_0, c7]
  have x8 : X.cell? ⟨W.heap.size, 8, none⟩ = some (.int .i64 (0)) := by rw [hX]; simp [go_sem, hz1_0, c8]
  have hbX : Below W.heap.size W X := by
    rw [hX]
    refine ba ?_ _
    repeat (refine bs ?_ (show W.heap.size ≤ W.heap.size from Nat.le_refl _) _)
    exact HBX.out
  clear hX
  refine bodyPost_ret (v := .tuple #[C9 (0) (0) (0) (0) (0) Z0, .bool false]) (by simp [results, Tryd.results38, go_sem, Z0, x0, x1, x2, x3, x4, x5, x6, x7, x8]) rfl ⟨rfl, hbX⟩

set_option maxRecDepth 100000 in
set_option maxHeartbeats 4000000 in
theorem cparse_no (s : ByteArray) (h m i l c : Int) (n : Nat → Int) (hr : PureOn CC Tryd.prog 62 #[.string s] (C9 h m i l c n)) (hz : ¬ (h = 0 ∧ m = 0 ∧ i = 0 ∧ l = 0 ∧ c = 0 ∧ n 0 = 0 ∧ n 1 = 0 ∧ n 2 = 0 ∧ n 3 = 0)) (hs : cT h m i l c n ≠ s) :
    PureOn CC Tryd.prog 38 #[.string s] (.tuple #[C9 0 0 0 0 0 Z0, .bool false]) := by
  intro W hC
  have HC := Lib.hid hC
  have HR := Lib.hid hr
  have HX := Lib.hid (ctext_any h m i l c n)
  have hq : ∀ w, (Op.equalIn 10000 43 (C9 h m i l c n) (.agg #[.int .i64 0, .int .i64 0, .int .i64 0, .int .i64 0, .int .i64 0, .int .i64 0, .int .i64 0, .int .i64 0, .int .i64 0])).run Tryd.prog w = .ok false w := fun w => eqC_no _ _ _ _ _ _ _ _ _ _ _ _ _ _ _ _ _ _ hz w
  have t1 := streq_no hs
  clear hC hr hz hs
  go_enter Tryd.func38, Tryd.ntmps38
  go_wp2_with fail
  (with_reducible refine (HR.out.app _ (CC.on HC.out (by (repeat (first | assumption | exact Below.refl _ _ | refine ba ?_ _ | refine bd ?_ | refine bdn ?_ _ | refine bs ?_ (by first | omega | (simp; done) | (simp; omega)) _ | refine bt ?_ (by assumption)))))).mono ?_)
  rintro e w1 ⟨rfl, hb1⟩
  have hs1 : W.heap.size + 1 ≤ w1.heap.size := (by have h := hb1.size; first | omega | (simp at h; omega))
  have hz1_0 : W.heap.size < w1.heap.size := (by omega)
  obtain ⟨hc1, hf1, hl1⟩ := bcell hb1
  clear hl1
  go_wp2_with fail
  (with_reducible refine (HX.out.app _ (clo_T10' HC.out.t (by (repeat (first | assumption | exact Below.refl _ _ | refine ba ?_ _ | refine bd ?_ | refine bdn ?_ _ | refine bs ?_ (by first | omega | (simp; done) | (simp; omega)) _ | refine bt ?_ (by assumption)))))).mono ?_)
  rintro e w2 ⟨rfl, hb2⟩
  have hs2 : w1.heap.size + 1 ≤ w2.heap.size := (by have h := hb2.size; first | omega | (simp at h; omega))
  have hb1_2 := bel hb1 hb2 (by (repeat (first | assumption | exact Below.refl _ _ | refine ba ?_ _ | refine bd ?_ | refine bdn ?_ _ | refine bs ?_ (by first | omega | (simp; done) | (simp; omega)) _ | refine bt ?_ (by assumption))))
  clear hz1_0 hc1 hf1
  obtain ⟨hc1_2, hf1_2, hl1_2⟩ := bcell hb1_2
  clear hl1_2
  have hz2_0 : W.heap.size < w2.heap.size := (by omega)
  have hz2_1 : w1.heap.size < w2.heap.size := (by omega)
  obtain ⟨hc2, hf2, hl2⟩ := bcell hb2
  clear hl2
  have HRA := ar_of W w2 W.heap.size rfl (by (repeat (first | assumption | exact Below.refl _ _ | refine ba ?_ _ | refine bd ?_ | refine bdn ?_ _ | refine bs ?_ (by first | omega | (simp; done) | (simp; omega)) _ | refine bt ?_ (by assumption))))
  have c0 := HRA.c 0 (by decide)
  have f0 := HRA.f 0
  have c1 := HRA.c 1 (by decide)
  have f1 := HRA.f 1
  have c2 := HRA.c 2 (by decide)
  have f2 := HRA.f 2
  have c3 := HRA.c 3 (by decide)
  have f3 := HRA.f 3
  have c4 := HRA.c 4 (by decide)
  have f4 := HRA.f 4
  have c5 := HRA.c 5 (by decide)
  have f5 := HRA.f 5
  have c6 := HRA.c 6 (by decide)
  have f6 := HRA.f 6
  have c7 := HRA.c 7 (by decide)
  have f7 := HRA.f 7
  have c8 := HRA.c 8 (by decide)
  have f8 := HRA.f 8
  have HBX := Lib.hid (show Below W.heap.size W w2 by (repeat (first | assumption | exact Below.refl _ _ | refine ba ?_ _ | refine bd ?_ | refine bdn ?_ _ | refine bs ?_ (by first | omega | (simp; done) | (simp; omega)) _ | refine bt ?_ (by assumption))))
  clear HRA
  go_wp2
  refine ret_world ?_
  intro X hX
  have x0 : X.cell? ⟨W.heap.size, 0, none⟩ = some (.int .i64 (0)) := by rw [hX]; simp [go_sem, c0]
  have x1 : X.cell? ⟨W.heap.size, 1, none⟩ = some (.int .i64 (0)) := by rw [hX]; simp [go_sem, c1]
  have x2 : X.cell? ⟨W.heap.size, 2, none⟩ = some (.int .i64 (0)) := by rw [hX]; simp [go_sem, c2]
  have x3 : X.cell? ⟨W.heap.size, 3, none⟩ = some (.int .i64 (0)) := by rw [hX]; simp [go_sem, c3]
  have x4 : X.cell? ⟨W.heap.size, 4, none⟩ = some (.int .i64 (0)) := by rw [hX]; simp [go_sem, c4]
  have x5 : X.cell? ⟨W.heap.size, 5, none⟩ = some (.int .i64 (0)) := by rw [hX]; simp [go_sem, c5]
  have x6 : X.cell? ⟨W.heap.size, 6, none⟩ = some (.int .i64 (0)) := by rw [hX]; simp [go_sem, c6]
  have x7 : X.cell? ⟨W.heap.size, 7, none⟩ = some (.int .i64 (0)) := by rw [hX]; simp [go_sem, c7]
  have x8 : X.cell? ⟨W.heap.size, 8, none⟩ = some (.int .i64 (0)) := by rw [hX]; simp [go_sem, c8]
  have hbX : Below W.heap.size W X := by
    rw [hX]
    repeat (refine bs ?_ (show W.heap.size ≤ W.heap.size from Nat.le_refl _) _)
    exact HBX.out
  clear hX
  refine bodyPost_ret (v := .tuple #[C9 (0) (0) (0) (0) (0) Z0, .bool false]) (by simp [results, Tryd.results38, go_sem, Z0, x0, x1, x2, x3, x4, x5, x6, x7, x8]) rfl ⟨rfl, hbX⟩

set_option maxRecDepth 100000 in
set_option maxHeartbeats 4000000 in
theorem cparse_yes (s : ByteArray) (h m i l c : Int) (n : Nat → Int) (hr : PureOn CC Tryd.prog 62 #[.string s] (C9 h m i l c n)) (hz : ¬ (h = 0 ∧ m = 0 ∧ i = 0 ∧ l = 0 ∧ c = 0 ∧ n 0 = 0 ∧ n 1 = 0 ∧ n 2 = 0 ∧ n 3 = 0)) (hs : cT h m i l c n = s) :
    PureOn CC Tryd.prog 38 #[.string s] (.tuple #[C9 h m i l c n, .bool true]) := by
  intro W hC
  have HC := Lib.hid hC
  have HR := Lib.hid hr
  have HX := Lib.hid (ctext_any h m i l c n)
  have hq : ∀ w, (Op.equalIn 10000 43 (C9 h m i l c n) (.agg #[.int .i64 0, .int .i64 0, .int .i64 0, .int .i64 0, .int .i64 0, .int .i64 0, .int .i64 0, .int .i64 0, .int .i64 0])).run Tryd.prog w = .ok false w := fun w => eqC_no _ _ _ _ _ _ _ _ _ _ _ _ _ _ _ _ _ _ hz w
  have t1 := streq_yes hs
  clear hC hr hz hs
  go_enter Tryd.func38, Tryd.ntmps38
  go_wp2_with fail
  (with_reducible refine (HR.out.app _ (CC.on HC.out (by (repeat (first | assumption | exact Below.refl _ _ | refine ba ?_ _ | refine bd ?_ | refine bdn ?_ _ | refine bs ?_ (by first | omega | (simp; done) | (simp; omega)) _ | refine bt ?_ (by assumption)))))).mono ?_)
  rintro e w1 ⟨rfl, hb1⟩
  have hs1 : W.heap.size + 1 ≤ w1.heap.size := (by have h := hb1.size; first | omega | (simp at h; omega))
  have hz1_0 : W.heap.size < w1.heap.size := (by omega)
  obtain ⟨hc1, hf1, hl1⟩ := bcell hb1
  clear hl1
  go_wp2_with fail
  (with_reducible refine (HX.out.app _ (clo_T10' HC.out.t (by (repeat (first | assumption | exact Below.refl _ _ | refine ba ?_ _ | refine bd ?_ | refine bdn ?_ _ | refine bs ?_ (by first | omega | (simp; done) | (simp; omega)) _ | refine bt ?_ (by assumption)))))).mono ?_)
  rintro e w2 ⟨rfl, hb2⟩
  have hs2 : w1.heap.size + 1 ≤ w2.heap.size := (by have h := hb2.size; first | omega | (simp at h; omega))
  have hb1_2 := bel hb1 hb2 (by (repeat (first | assumption | exact Below.refl _ _ | refine ba ?_ _ | refine bd ?_ | refine bdn ?_ _ | refine bs ?_ (by first | omega | (simp; done) | (simp; omega)) _ | refine bt ?_ (by assumption))))
  clear hz1_0 hc1 hf1
  obtain ⟨hc1_2, hf1_2, hl1_2⟩ := bcell hb1_2
  clear hl1_2
  have hz2_0 : W.heap.size < w2.heap.size := (by omega)
  have hz2_1 : w1.heap.size < w2.heap.size := (by omega)
  obtain ⟨hc2, hf2, hl2⟩ := bcell hb2
  clear hl2
  have HRA := ar_of W w2 W.heap.size rfl (by (repeat (first | assumption | exact Below.refl _ _ | refine ba ?_ _ | refine bd ?_ | refine bdn ?_ _ | refine bs ?_ (by first | omega | (simp; done) | (simp; omega)) _ | refine bt ?_ (by assumption))))
  have c0 := HRA.c 0 (by decide)
  have f0 := HRA.f 0
  have c1 := HRA.c 1 (by decide)
  have f1 := HRA.f 1
  have c2 := HRA.c 2 (by decide)
  have f2 := HRA.f 2
  have c3 := HRA.c 3 (by decide)
  have f3 := HRA.f 3
  have c4 := HRA.c 4 (by decide)
  have f4 := HRA.f 4
  have c5 := HRA.c 5 (by decide)
  have f5 := HRA.f 5
  have c6 := HRA.c 6 (by decide)
  have f6 := HRA.f 6
  have c7 := HRA.c 7 (by decide)
  have f7 := HRA.f 7
  have c8 := HRA.c 8 (by decide)
  have f8 := HRA.f 8
  have HBX := Lib.hid (show Below W.heap.size W w2 by (repeat (first | assumption | exact Below.refl _ _ | refine ba ?_ _ | refine bd ?_ | refine bdn ?_ _ | refine bs ?_ (by first | omega | (simp; done) | (simp; omega)) _ | refine bt ?_ (by assumption))))
  clear HRA
  go_wp2
  refine ret_world ?_
  intro X hX
  have x0 : X.cell? ⟨W.heap.size, 0, none⟩ = some (.int .i64 (h)) := by rw [hX]; simp [go_sem, c0]
  have x1 : X.cell? ⟨W.heap.size, 1, none⟩ = some (.int .i64 (m)) := by rw [hX]; simp [go_sem, c1]
  have x2 : X.cell? ⟨W.heap.size, 2, none⟩ = some (.int .i64 (i)) := by rw [hX]; simp [go_sem, c2]
  have x3 : X.cell? ⟨W.heap.size, 3, none⟩ = some (.int .i64 (l)) := by rw [hX]; simp [go_sem, c3]
  have x4 : X.cell? ⟨W.heap.size, 4, none⟩ = some (.int .i64 (c)) := by rw [hX]; simp [go_sem, c4]
  have x5 : X.cell? ⟨W.heap.size, 5, none⟩ = some (.int .i64 (n 0)) := by rw [hX]; simp [go_sem, c5]
  have x6 : X.cell? ⟨W.heap.size, 6, none⟩ = some (.int .i64 (n 1)) := by rw [hX]; simp [go_sem, c6]
  have x7 : X.cell? ⟨W.heap.size, 7, none⟩ = some (.int .i64 (n 2)) := by rw [hX]; simp [go_sem, c7]
  have x8 : X.cell? ⟨W.heap.size, 8, none⟩ = some (.int .i64 (n 3)) := by rw [hX]; simp [go_sem, c8]
  have hbX : Below W.heap.size W X := by
    rw [hX]
    repeat (refine bs ?_ (show W.heap.size ≤ W.heap.size from Nat.le_refl _) _)
    exact HBX.out
  clear hX
  refine bodyPost_ret (v := .tuple #[C9 (h) (m) (i) (l) (c) n, .bool true]) (by simp [results, Tryd.results38, go_sem, x0, x1, x2, x3, x4, x5, x6, x7, x8]) rfl ⟨rfl, hbX⟩

end Go.Proofs.YtlhljioncgddeaaDoor

/- tree: the document's order, and its lists. -/
import Derived.Test.YtajcelmnblncaaaTr10
import Derived.Test.YtajcelmnblncaaaTreeBack
namespace Go.Proofs.Ytajcelmnblncaaa
open Go.RowKit
attribute [local go_sem] ext_cell ext_frozen extC_cell extC_frozen Mix.calmUpon Mix.mUpon
theorem tmod_rest {a m : Int} (hm : 1 < m) : (a.tmod m < 0 → a.tmod m + m = a % m) ∧ (0 ≤ a.tmod m → a.tmod m = a % m) ∧ -m < a.tmod m ∧ a.tmod m < m := by
  have h1 := Int.emod_nonneg a (show m ≠ 0 by omega)
  have h2 := Int.emod_lt_of_pos a (show 0 < m by omega)
  have h3 := Int.emod_add_mul_ediv a m
  have h4 := Int.tmod_add_mul_tdiv a m
  have h5 : a.tmod m < m := Int.tmod_lt_of_pos a (by omega)
  have h6 : -m < a.tmod m := by
    have := Int.tmod_lt_of_pos (-a) (show 0 < m by omega)
    rw [Int.neg_tmod] at this
    omega
  have key : a.tmod m = a % m ∨ a.tmod m + m = a % m := by
    have e : (a.tmod m - a % m) = m * (a / m - a.tdiv m) := by rw [Int.mul_sub]; omega
    generalize a / m - a.tdiv m = q at *
    have : q = 0 ∨ q = -1 := by
      rcases Int.lt_or_le q (-1) with h | h
      · have : m * q ≤ m * (-2) := Int.mul_le_mul_of_nonneg_left (by omega) (by omega)
        omega
      · rcases Int.lt_or_le 0 q with h' | h'
        · have : m * 1 ≤ m * q := Int.mul_le_mul_of_nonneg_left (by omega) (by omega)
          omega
        · omega
    rcases this with rfl | rfl
    · left; omega
    · right; omega
  refine ⟨fun h => ?_, fun h => ?_, h6, h5⟩ <;> (rcases key with k | k <;> omega)
set_option maxRecDepth 100000 in
theorem rest_any (a m : Int) (w : World) (hm : 1 < m) (hm2 : m ≤ 1000) : Calls Try.prog 73 #[.int .i64 a, .int .i64 m] w fun e w' => e = .returned (.int .i64 (a % m)) ∧ w = w' := by
  obtain ⟨h1, h2, h3, h4⟩ := tmod_rest (a := a) hm
  have hw : IntKind.i64.wrap (a.tmod m) = a.tmod m := IntWalk.i64_in _ (by omega)
  have hm0 : ¬ m = 0 := by omega
  by_cases hn : a.tmod m < 0
  · have HE := Lib.hid (h1 hn)
    clear h1 h2
    go_enter Try.func73, Try.ntmps73
    go_wp2
    go_ret
    exact ⟨by rw [← HE.out]; rfl, rfl⟩
  · have HE := Lib.hid (h2 (by omega))
    clear h1 h2
    go_enter Try.func73, Try.ntmps73
    go_wp2
    go_ret
    exact ⟨by rw [← HE.out]; rfl, rfl⟩
def oM (m a b : Int) : Int := if 1 < m ∧ a % m ≠ b % m then a % m - b % m else o3 a b
theorem mod_bd (a m : Int) (h : 1 < m) : 0 ≤ a % m ∧ a % m < m := ⟨Int.emod_nonneg a (by omega), Int.emod_lt_of_pos a (by omega)⟩
theorem oaM {m : Int} (hm : m ≤ 1000) : OA J3 (oM m) := by
  by_cases h1 : 1 < m
  · have bd := fun a => mod_bd a m h1
    have e1 : ∀ a b, a % m ≠ b % m → oM m a b = a % m - b % m := fun a b h => if_pos ⟨h1, h⟩
    have e2 : ∀ a b, a % m = b % m → oM m a b = o3 a b := fun a b h => if_neg fun h' => h'.2 h
    refine ⟨fun a b _ _ => ?_, fun a b _ _ => ?_, fun a b c _ _ _ => ?_, fun a b _ _ => ?_⟩
    · by_cases h : a % m = b % m
      · rw [e2 a b h]; exact oa3.zero a b trivial trivial
      · rw [e1 a b h]; exact ⟨fun h' => absurd (by omega) h, fun h' => absurd (by rw [h']) h⟩
    · by_cases h : a % m = b % m
      · rw [e2 a b h, e2 b a h.symm]; exact oa3.anti a b trivial trivial
      · rw [e1 a b h, e1 b a fun h' => h h'.symm]; omega
    · by_cases hab : a % m = b % m
      · by_cases hbc : b % m = c % m
        · rw [e2 a b hab, e2 b c hbc, e2 a c (by omega)]; exact oa3.trans a b c trivial trivial trivial
        · rw [e1 b c hbc, e1 a c (by omega)]; omega
      · by_cases hbc : b % m = c % m
        · rw [e1 a b hab, e1 a c (by omega)]; omega
        · rw [e1 a b hab, e1 b c hbc]
          intro h2 h3
          rw [e1 a c (by omega)]; omega
    · by_cases h : a % m = b % m
      · rw [e2 a b h]; exact oa3.in64 a b trivial trivial
      · rw [e1 a b h]; have := bd a; have := bd b; omega
  · have e : ∀ a b, oM m a b = o3 a b := fun a b => if_neg fun h => h1 h.1
    exact ⟨fun a b => by rw [e]; exact oa3.zero a b, fun a b => by rw [e, e]; exact oa3.anti a b, fun a b c => by rw [e, e, e]; exact oa3.trans a b c, fun a b => by rw [e]; exact oa3.in64 a b⟩
set_option maxRecDepth 100000 in
theorem order_any (m a b : Int) (w : World) (hm : m ≤ 1000) : Calls Try.prog 16 #[.int .i64 m, .int .i64 a, .int .i64 b] w fun e w' => e = .returned (.int .i64 (oM m a b)) ∧ w = w' := by
  by_cases hm1 : 1 < m
  · have ha := mod_bd a m hm1
    have hb := mod_bd b m hm1
    by_cases he : a % m = b % m
    · have HX := Lib.hid (show oM m a b = o3 a b from if_neg fun h => h.2 he)
      have hbe : (a % m != b % m) = false := by simpa using he
      clear he
      by_cases h1 : a < b
      · have HE := Lib.hid (show o3 a b = -1 from if_pos h1)
        go_enter Try.func16, Try.ntmps16
        go_wp2_with fail
        refine (rest_any a m _ hm1 hm).mono ?_
        rintro e w1 ⟨rfl, rfl⟩
        go_wp2_with fail
        refine (rest_any b m _ hm1 hm).mono ?_
        rintro e w1 ⟨rfl, rfl⟩
        go_wp2
        go_ret
        exact ⟨by rw [HX.out, HE.out]; rfl, rfl⟩
      · by_cases h2 : b < a
        · have HE := Lib.hid (show o3 a b = 1 by unfold o3; rw [if_neg h1, if_pos h2])
          go_enter Try.func16, Try.ntmps16
          go_wp2_with fail
          refine (rest_any a m _ hm1 hm).mono ?_
          rintro e w1 ⟨rfl, rfl⟩
          go_wp2_with fail
          refine (rest_any b m _ hm1 hm).mono ?_
          rintro e w1 ⟨rfl, rfl⟩
          go_wp2
          go_ret
          exact ⟨by rw [HX.out, HE.out]; rfl, rfl⟩
        · have HE := Lib.hid (show o3 a b = 0 by unfold o3; rw [if_neg h1, if_neg h2])
          go_enter Try.func16, Try.ntmps16
          go_wp2_with fail
          refine (rest_any a m _ hm1 hm).mono ?_
          rintro e w1 ⟨rfl, rfl⟩
          go_wp2_with fail
          refine (rest_any b m _ hm1 hm).mono ?_
          rintro e w1 ⟨rfl, rfl⟩
          go_wp2
          go_ret
          exact ⟨by rw [HX.out, HE.out]; rfl, rfl⟩
    · have HX := Lib.hid (show oM m a b = a % m - b % m from if_pos ⟨hm1, he⟩)
      have hbe : (a % m != b % m) = true := by simpa using he
      clear he
      go_enter Try.func16, Try.ntmps16
      go_wp2_with fail
      refine (rest_any a m _ hm1 hm).mono ?_
      rintro e w1 ⟨rfl, rfl⟩
      go_wp2_with fail
      refine (rest_any b m _ hm1 hm).mono ?_
      rintro e w1 ⟨rfl, rfl⟩
      go_wp2_with fail
      refine (rest_any a m _ hm1 hm).mono ?_
      rintro e w1 ⟨rfl, rfl⟩
      go_wp2_with fail
      refine (rest_any b m _ hm1 hm).mono ?_
      rintro e w1 ⟨rfl, rfl⟩
      go_wp2
      go_ret
      exact ⟨by rw [HX.out]; rfl, rfl⟩
  · have HX := Lib.hid (show oM m a b = o3 a b from if_neg fun h => hm1 h.1)
    by_cases h1 : a < b
    · have HE := Lib.hid (show o3 a b = -1 from if_pos h1)
      go_enter Try.func16, Try.ntmps16
      go_wp2
      go_ret
      exact ⟨by rw [HX.out, HE.out]; rfl, rfl⟩
    · by_cases h2 : b < a
      · have HE := Lib.hid (show o3 a b = 1 by unfold o3; rw [if_neg h1, if_pos h2])
        go_enter Try.func16, Try.ntmps16
        go_wp2
        go_ret
        exact ⟨by rw [HX.out, HE.out]; rfl, rfl⟩
      · have HE := Lib.hid (show o3 a b = 0 by unfold o3; rw [if_neg h1, if_neg h2])
        go_enter Try.func16, Try.ntmps16
        go_wp2
        go_ret
        exact ⟨by rw [HX.out, HE.out]; rfl, rfl⟩
end Go.Proofs.Ytajcelmnblncaaa

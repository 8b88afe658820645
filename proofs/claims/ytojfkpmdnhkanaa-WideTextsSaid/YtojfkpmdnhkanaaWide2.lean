/- Contracts of the package wide by one number: WV v is the wide number v. Conditions: the numbers are in range. -/
import Derived.Test.YtojfkpmdnhkanaaTimes
import Derived.Test.YtojfkpmdnhkanaaRat1
namespace Go.Proofs.Ytojfkpmdnhkanaa
open Go.RowKit
attribute [local go_sem] ext_cell ext_frozen

/-- 2^128, behind a name. -/
def B128 : Int := 340282366920938463463374607431768211456
theorem B128_eq : B128 = 340282366920938463463374607431768211456 := rfl
structure Wd (v : Int) : Prop where
  lo : 0 ≤ v
  hi : v < B128
/-- A wide number's value. -/
def WV (v : Int) : Value := W2 (v / 18446744073709551616) (v % 18446744073709551616)
theorem Wd.word_hi {v : Int} (h : Wd v) : Word (v / 18446744073709551616) := by
  obtain ⟨a, b⟩ := h; rw [B128_eq] at b; exact ⟨by omega, by omega⟩
theorem WV_of (h l : Int) (hl : Word l) : WV (h * 18446744073709551616 + l) = W2 h l := by
  obtain ⟨a, b⟩ := hl
  unfold WV
  have e1 : (h * 18446744073709551616 + l) / 18446744073709551616 = h := by omega
  have e2 : (h * 18446744073709551616 + l) % 18446744073709551616 = l := by omega
  rw [e1, e2]
theorem Wd_of {h l : Int} (hh : Word h) (hl : Word l) : Wd (h * 18446744073709551616 + l) := by
  obtain ⟨a, b⟩ := hh; obtain ⟨c, d⟩ := hl
  exact ⟨by omega, by rw [B128_eq]; omega⟩
theorem WV_inj {v v' : Int} (h : WV v = WV v') : v = v' := by
  unfold WV at h
  simp at h
  omega

theorem of_V (n : Int) (h : Word n) : Pure Try.prog 25 #[u n] (WV n) := by
  obtain ⟨a, b⟩ := h
  unfold WV
  have e1 : n / 18446744073709551616 = 0 := by omega
  have e2 : n % 18446744073709551616 = n := by omega
  rw [e1, e2]; exact of_any n
theorem mul_V (x y : Int) (hx : Word x) (hy : Word y) : Pure Try.prog 22 #[u x, u y] (WV (x * y)) := mul_any x y hx hy
theorem add_V (a b : Int) (ha : Wd a) (hb : Wd b) : Pure Try.prog 11 #[WV a, WV b] (.tuple #[WV ((a + b) % B128), .bool (decide (a + b < B128))]) := by
  have h := add_any _ _ _ _ ha.word_hi (word_mod a) hb.word_hi (word_mod b)
  obtain ⟨a1, a2⟩ := ha; obtain ⟨b1, b2⟩ := hb
  unfold WV at *
  rw [B128_eq] at *
  have e1 : (a / 18446744073709551616 + b / 18446744073709551616 + (a % 18446744073709551616 + b % 18446744073709551616) / 18446744073709551616) % 18446744073709551616 = (a + b) % 340282366920938463463374607431768211456 / 18446744073709551616 := by omega
  have e2 : (a % 18446744073709551616 + b % 18446744073709551616) % 18446744073709551616 = (a + b) % 340282366920938463463374607431768211456 % 18446744073709551616 := by omega
  have e3 : ((a / 18446744073709551616 + b / 18446744073709551616 + (a % 18446744073709551616 + b % 18446744073709551616) / 18446744073709551616) / 18446744073709551616 == 0) = decide (a + b < 340282366920938463463374607431768211456) := by
    rw [Bool.eq_iff_iff]; simp only [beq_iff_eq, decide_eq_true_eq]; omega
  rw [e1, e2, e3] at h
  exact h
theorem sub_V (a b : Int) (ha : Wd a) (hb : Wd b) : Pure Try.prog 12 #[WV a, WV b] (.tuple #[WV ((a - b) % B128), .bool (decide (b ≤ a))]) := by
  have h := sub_any _ _ _ _ ha.word_hi (word_mod a) hb.word_hi (word_mod b)
  obtain ⟨a1, a2⟩ := ha; obtain ⟨b1, b2⟩ := hb
  unfold WV at *
  rw [B128_eq] at *
  have e1 : (a / 18446744073709551616 - b / 18446744073709551616 - bor (a % 18446744073709551616) (b % 18446744073709551616)) % 18446744073709551616 = (a - b) % 340282366920938463463374607431768211456 / 18446744073709551616 := by unfold bor; split <;> omega
  have e2 : (a % 18446744073709551616 - b % 18446744073709551616) % 18446744073709551616 = (a - b) % 340282366920938463463374607431768211456 % 18446744073709551616 := by omega
  have e3 : (bor (a / 18446744073709551616) (b / 18446744073709551616 + bor (a % 18446744073709551616) (b % 18446744073709551616)) == 0) = decide (b ≤ a) := by
    rw [Bool.eq_iff_iff]; simp only [beq_iff_eq, decide_eq_true_eq]; unfold bor; split <;> split <;> omega
  rw [e1, e2, e3] at h
  exact h
theorem times_V (a b : Int) (ha : Wd a) (hb : Word b) : Pure Try.prog 21 #[WV a, u b] (.tuple #[WV (a * b % B128), .bool (decide (a * b < B128))]) := by
  have m1 := mul_any (a % 18446744073709551616) b (word_mod a) hb
  have m2 := mul_any (a / 18446744073709551616) b ha.word_hi hb
  have b1 := mul_bd (word_mod a) hb
  have b2 := mul_bd ha.word_hi hb
  have h := times_core (a / 18446744073709551616) (a % 18446744073709551616) b _ _ _ _ m1 m2 (by omega) (by omega)
  unfold WV
  rw [B128_eq]
  have e : a * b = (a / 18446744073709551616 * b) * 18446744073709551616 + a % 18446744073709551616 * b := by
    rw [Int.mul_right_comm, ← Int.add_mul]; congr 1; omega
  rw [e]
  generalize a % 18446744073709551616 * b = x at *
  generalize a / 18446744073709551616 * b = y at *
  have e1 : (x / 18446744073709551616 + y % 18446744073709551616) % 18446744073709551616 = (y * 18446744073709551616 + x) % 340282366920938463463374607431768211456 / 18446744073709551616 := by omega
  have e2 : x % 18446744073709551616 = (y * 18446744073709551616 + x) % 340282366920938463463374607431768211456 % 18446744073709551616 := by omega
  have e3 : (y / 18446744073709551616 == 0 && (x / 18446744073709551616 + y % 18446744073709551616) / 18446744073709551616 == 0) = decide (y * 18446744073709551616 + x < 340282366920938463463374607431768211456) := by
    rw [Bool.eq_iff_iff]; simp only [Bool.and_eq_true, beq_iff_eq, decide_eq_true_eq]; omega
  rw [e3, e1] at h
  rw [← e2]
  exact h

theorem div_0 (a : Int) : Pure Try.prog 26 #[WV a, u 0] (.tuple #[WV 0, u 0]) := by
  intro w
  show Calls Try.prog 26 #[W2 (a / 18446744073709551616) (a % 18446744073709551616), u 0] w fun e w' => e = .returned (.tuple #[W2 0 0, u 0]) ∧ Below w.heap.size w w'
  go_enter Try.func26, Try.ntmps26
  go_wp2
  refine bodyPost_ret (v := .tuple #[W2 0 0, u 0]) (by simp [results, Try.results26, go_sem, *]) rfl ⟨rfl, ?_⟩
  (repeat (first | assumption | exact Below.refl _ _ | refine ba ?_ _ | refine bd ?_ | refine bdn ?_ _ | refine bs ?_ (by first | omega | (simp; done) | (simp; omega)) _ | refine bt ?_ (by assumption)))
set_option maxHeartbeats 400000 in
theorem div_core (ah al d qh m ql r : Int) (hd : 1 ≤ d) (h0 : 0 ≤ ah) (hqh : IntKind.u64.wrap (ah.tdiv d) = qh) (hm : ah % d = m)
    (hc : Pure Try.prog 46 #[u m, u al, u d] (.tuple #[u ql, u r])) :
    Pure Try.prog 26 #[W2 ah al, u d] (.tuple #[W2 qh ql, u r]) := by
  intro w
  have e1 : (d == 0) = false := by simp; omega
  have hm' : ah.tmod d = m := by rw [Int.tmod_eq_emod_of_nonneg h0]; exact hm
  have HC := Lib.hid hc; have HQ := Lib.hid hqh; have HM := Lib.hid hm
  clear hc hqh hm
  go_enter Try.func26, Try.ntmps26
  go_wp2
  refine wp_region_pure (by kernel_rfl) (by kernel_rfl) ?_
  repeat (first | go_big_quiet_step (((go_at_call 46; exact HC.out.quiet))) | (quiet_step (((go_at_call 46; exact HC.out.quiet)))))
  refine wpQuiet_nil ?_
  rintro w1 ⟨x1, hx1⟩
  have hb1 := ext_below _ x1
  rw [← hx1] at hb1
  clear hx1 x1
  have hs1 : w.heap.size + 2 ≤ w1.heap.size := (by have h := hb1.size; first | omega | (simp at h; omega))
  have hz1_0 : w.heap.size < w1.heap.size := (by omega)
  have hz1_1 : w.heap.size + 1 < w1.heap.size := (by omega)
  obtain ⟨hc1, hf1, hl1⟩ := bcell hb1
  clear hl1
  go_wp2
  refine bodyPost_ret (v := .tuple #[W2 qh ql, u r]) (by simp [results, Try.results26, go_sem, HQ.out, *]) rfl ⟨rfl, ?_⟩
  (repeat (first | assumption | exact Below.refl _ _ | refine ba ?_ _ | refine bd ?_ | refine bdn ?_ _ | refine bs ?_ (by first | omega | (simp; done) | (simp; omega)) _ | refine bt ?_ (by assumption)))

theorem div_V (a d : Int) (ha : Wd a) (hd : Word d) (h1 : 1 ≤ d) : Pure Try.prog 26 #[WV a, u d] (.tuple #[WV (a / d), u (a % d)]) := by
  have wh := ha.word_hi
  obtain ⟨w0, w1⟩ := word_mod a
  have m0 := Int.emod_nonneg (a / 18446744073709551616) (show d ≠ 0 by omega)
  have m1 := Int.emod_lt_of_pos (a / 18446744073709551616) (show 0 < d by omega)
  have q0 := Int.ediv_nonneg wh.1 (show 0 ≤ d by omega)
  have q1 := Int.ediv_le_self d wh.1
  have e := Int.mul_ediv_add_emod (a / 18446744073709551616) d
  have hw : IntKind.u64.wrap ((a / 18446744073709551616).tdiv d) = a / 18446744073709551616 / d := by
    rw [Int.tdiv_eq_ediv_of_nonneg wh.1, wrap_mod]; have := wh.2; omega
  have h := div_core _ (a % 18446744073709551616) d _ _ _ _ h1 wh.1 hw rfl (div64_any _ _ d m0 w0 w1 m1 hd.2)
  have al : a = d * (a / 18446744073709551616 / d) * 18446744073709551616 + (a / 18446744073709551616 % d * 18446744073709551616 + a % 18446744073709551616) := by
    have : (d * (a / 18446744073709551616 / d) + a / 18446744073709551616 % d) * 18446744073709551616 = a / 18446744073709551616 * 18446744073709551616 := by rw [e]
    rw [Int.add_mul] at this
    omega
  have lt : (a / 18446744073709551616 % d * 18446744073709551616 + a % 18446744073709551616) / d < 18446744073709551616 := by
    apply Int.ediv_lt_of_lt_mul (by omega)
    have := Int.mul_le_mul_of_nonneg_right (show a / 18446744073709551616 % d ≤ d - 1 by omega) (show (0 : Int) ≤ 18446744073709551616 by decide)
    rw [Int.mul_comm 18446744073709551616 d]
    omega
  have l0 : 0 ≤ (a / 18446744073709551616 % d * 18446744073709551616 + a % 18446744073709551616) / d := Int.ediv_nonneg (by omega) (by omega)
  have f1 : a / d = (a / 18446744073709551616 / d) * 18446744073709551616 + (a / 18446744073709551616 % d * 18446744073709551616 + a % 18446744073709551616) / d := by
    conv => lhs; rw [al, Int.mul_assoc, Int.add_comm, Int.add_mul_ediv_left _ _ (show d ≠ 0 by omega)]
    omega
  have f2 : a % d = (a / 18446744073709551616 % d * 18446744073709551616 + a % 18446744073709551616) % d := by
    conv => lhs; rw [al, Int.mul_assoc, Int.add_comm, Int.add_mul_emod_self_left]
  rw [f2, f1, WV_of _ _ ⟨l0, lt⟩]
  exact h
theorem cmp_V (a b : Int) : Pure Try.prog 19 #[WV a, WV b] (.int .i64 (cmpI a b)) := wcmp_any a b

end Go.Proofs.Ytojfkpmdnhkanaa

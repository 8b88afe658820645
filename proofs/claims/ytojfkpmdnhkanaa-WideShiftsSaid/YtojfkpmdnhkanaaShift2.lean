/- Contracts of (wide.Wide).Up and Down for numbers of places beyond 128, and of bit in the statements of layer 1. -/
import Derived.Test.YtojfkpmdnhkanaaShift
import Derived.Laws.Shifts
namespace Go.Proofs.Ytojfkpmdnhkanaa
open Go.RowKit DivM
attribute [local go_sem] ext_cell ext_frozen

theorem up_far (ah al n : Int) (hn : 128 < n) (hi : n ≤ 9223372036854775807) : Pure Try.prog 27 #[W2 ah al, .int .i64 n] (W2 0 0) := by
  intro w
  have hk2 : ¬ n < 64 := by omega
  have hk3 : ¬ n < 0 := by omega
  have e0 : IntKind.u64.wrap (al * 2 ^ min (n - 64).toNat 64) = 0 := by
    rw [show min (n - 64).toNat 64 = 64 by omega, wrap_mod]; omega
  have E0 := Lib.hid e0
  clear e0
  go_enter Try.func27, Try.ntmps27
  go_wp2
  refine bodyPost_ret (v := W2 0 0) (by simp [results, Try.results27, go_sem]; have := E0.out; simpa using this) rfl ⟨rfl, ?_⟩
  (repeat (first | assumption | exact Below.refl _ _ | refine ba ?_ _ | refine bd ?_ | refine bdn ?_ _ | refine bs ?_ (by first | omega | (simp; done) | (simp; omega)) _ | refine bt ?_ (by assumption)))
theorem down_far (ah al n : Int) (hn : 128 < n) (hi : n ≤ 9223372036854775807) (h0 : 0 ≤ ah) (h1 : ah < 18446744073709551616) : Pure Try.prog 28 #[W2 ah al, .int .i64 n] (W2 0 0) := by
  intro w
  have hk2 : ¬ n < 64 := by omega
  have hk3 : ¬ n < 0 := by omega
  have e0 : ah / 2 ^ min (n - 64).toNat 64 = 0 := by
    rw [show min (n - 64).toNat 64 = 64 by omega]; omega
  have E0 := Lib.hid e0
  clear e0
  go_enter Try.func28, Try.ntmps28
  go_wp2
  refine bodyPost_ret (v := W2 0 0) (by simp [results, Try.results28, go_sem]; have := E0.out; simpa using this) rfl ⟨rfl, ?_⟩
  (repeat (first | assumption | exact Below.refl _ _ | refine ba ?_ _ | refine bd ?_ | refine bdn ?_ _ | refine bs ?_ (by first | omega | (simp; done) | (simp; omega)) _ | refine bt ?_ (by assumption)))

theorem or_sum' (a b : Int) (s : Nat) (ha : 0 ≤ a) (hb : 0 ≤ b) (hb' : b < 2 ^ s) (hab : a * 2 ^ s + b < 18446744073709551616) : bits .or .u64 b (a * 2 ^ s) = a * 2 ^ s + b := by
  rw [← or_sum a b s ha hb hb' hab]
  have h0 : 0 ≤ a * 2 ^ s := Int.mul_nonneg ha (Int.le_of_lt (Int.pow_pos (by decide)))
  generalize a * 2 ^ s = x at *
  obtain ⟨x, rfl⟩ := Int.eq_ofNat_of_zero_le h0
  obtain ⟨b, rfl⟩ := Int.eq_ofNat_of_zero_le hb
  rw [bits_or_u64_nat _ _ (by omega) (by omega), bits_or_u64_nat _ _ (by omega) (by omega), Nat.or_comm]
theorem mul_mod_mul (x d c : Int) (hd : 0 < d) (hc : 0 < c) : x * c % (d * c) = x % d * c := by
  have e1 : x * c = x % d * c + d * c * (x / d) := by
    conv => lhs; rw [← Int.emod_add_mul_ediv x d, Int.add_mul, Int.mul_assoc, Int.mul_comm (x / d) c, ← Int.mul_assoc]
  rw [e1, Int.add_mul_emod_self_left]
  apply Int.emod_eq_of_lt
  · exact Int.mul_nonneg (Int.emod_nonneg x (by omega)) (by omega)
  · exact Int.mul_lt_mul_of_pos_right (Int.emod_lt_of_pos x hd) hc
theorem mul_pow_mod (x : Int) (k : Nat) (hk : k < 64) : IntKind.u64.wrap (x * 2 ^ k) = x % 2 ^ (64 - k) * 2 ^ k := by
  obtain ⟨h1, h2, h3⟩ := pow_split k (by omega)
  rw [wrap_mod, ← h1]
  exact mul_mod_mul x (2 ^ (64 - k)) (2 ^ k) (by omega) (by omega)
theorem low_V (h l : Int) (hh : Word h) (hl : Word l) (k : Nat) (hk : k < 64) : WV ((h * 18446744073709551616 + l) / 2 ^ k) = W2 (h / 2 ^ k) (bits .or .u64 (l / 2 ^ k) (IntKind.u64.wrap (h * 2 ^ (64 - k)))) := by
  obtain ⟨hpp, hp1, hp2⟩ := pow_split k (by omega)
  obtain ⟨h0, h1⟩ := hh; obtain ⟨l0, l1⟩ := hl
  have hm0 := Int.emod_nonneg h (show (2 : Int) ^ k ≠ 0 by omega)
  have hm1 := Int.emod_lt_of_pos h (show (0 : Int) < 2 ^ k by omega)
  have e := Int.mul_ediv_add_emod h (2 ^ k)
  have l2 : l / 2 ^ k < 2 ^ (64 - k) := Int.ediv_lt_of_lt_mul (by omega) (by rw [hpp]; exact l1)
  have l3 := Int.ediv_nonneg l0 (show (0 : Int) ≤ 2 ^ k by omega)
  have wr : IntKind.u64.wrap (h * 2 ^ (64 - k)) = h % 2 ^ k * 2 ^ (64 - k) := by
    rw [wrap_mod, ← hpp, Int.mul_comm (2 ^ (64 - k)) (2 ^ k)]
    exact mul_mod_mul h (2 ^ k) (2 ^ (64 - k)) (by omega) (by omega)
  have b1 : h % 2 ^ k * 2 ^ (64 - k) + l / 2 ^ k < 18446744073709551616 := by
    have := Int.mul_le_mul_of_nonneg_right (show h % 2 ^ k ≤ 2 ^ k - 1 by omega) (show (0 : Int) ≤ 2 ^ (64 - k) by omega)
    rw [Int.sub_mul, Int.mul_comm (2 ^ k) (2 ^ (64 - k)), hpp] at this
    omega
  rw [wr, or_sum' _ _ _ hm0 l3 l2 b1]
  have f : (h * 18446744073709551616 + l) / 2 ^ k = (h / 2 ^ k) * 18446744073709551616 + (h % 2 ^ k * 2 ^ (64 - k) + l / 2 ^ k) := by
    have e2 : h * 18446744073709551616 + l = l + (h * 2 ^ (64 - k)) * 2 ^ k := by rw [Int.mul_assoc, hpp]; omega
    rw [e2, Int.add_mul_ediv_right _ _ (show (2 : Int) ^ k ≠ 0 by omega)]
    have e3 : h * 2 ^ (64 - k) = (h / 2 ^ k) * 18446744073709551616 + h % 2 ^ k * 2 ^ (64 - k) := by
      conv => lhs; rw [← e, Int.add_mul, Int.mul_comm (2 ^ k) (h / 2 ^ k), Int.mul_assoc, Int.mul_comm (2 ^ k) (2 ^ (64 - k)), hpp]
    omega
  rw [f]
  exact WV_of _ _ ⟨by have := Int.mul_nonneg hm0 (show (0 : Int) ≤ 2 ^ (64 - k) by omega); omega, b1⟩
theorem high_V (h l : Int) (hh : Word h) (hl : Word l) (k : Nat) (hk : k < 64) : WV ((h * 18446744073709551616 + l) * 2 ^ k % B128) = W2 (bits .or .u64 (IntKind.u64.wrap (h * 2 ^ k)) (l / 2 ^ (64 - k))) (IntKind.u64.wrap (l * 2 ^ k)) := by
  obtain ⟨hpp, hp1, hp2⟩ := pow_split k (by omega)
  obtain ⟨h0, h1⟩ := hh; obtain ⟨l0, l1⟩ := hl
  rw [mul_pow_mod h k hk, mul_pow_mod l k hk]
  have eh := Int.mul_ediv_add_emod h (2 ^ (64 - k))
  have el := Int.mul_ediv_add_emod l (2 ^ (64 - k))
  have r0 := Int.emod_nonneg h (show (2 : Int) ^ (64 - k) ≠ 0 by omega)
  have r1 := Int.emod_lt_of_pos h (show (0 : Int) < 2 ^ (64 - k) by omega)
  have s0 := Int.emod_nonneg l (show (2 : Int) ^ (64 - k) ≠ 0 by omega)
  have s1 := Int.emod_lt_of_pos l (show (0 : Int) < 2 ^ (64 - k) by omega)
  have q0 := Int.ediv_nonneg l0 (show (0 : Int) ≤ 2 ^ (64 - k) by omega)
  have q1 : l / 2 ^ (64 - k) < 2 ^ k := Int.ediv_lt_of_lt_mul (by omega) (by rw [Int.mul_comm, hpp]; exact l1)
  have b1 : h % 2 ^ (64 - k) * 2 ^ k + 2 ^ k ≤ 18446744073709551616 := by
    have := Int.mul_le_mul_of_nonneg_right (show h % 2 ^ (64 - k) ≤ 2 ^ (64 - k) - 1 by omega) (show (0 : Int) ≤ 2 ^ k by omega)
    rw [Int.sub_mul, hpp] at this
    omega
  have b2 : l % 2 ^ (64 - k) * 2 ^ k + 2 ^ k ≤ 18446744073709551616 := by
    have := Int.mul_le_mul_of_nonneg_right (show l % 2 ^ (64 - k) ≤ 2 ^ (64 - k) - 1 by omega) (show (0 : Int) ≤ 2 ^ k by omega)
    rw [Int.sub_mul, hpp] at this
    omega
  have z1 := Int.mul_nonneg r0 (show (0 : Int) ≤ 2 ^ k by omega)
  have z2 := Int.mul_nonneg s0 (show (0 : Int) ≤ 2 ^ k by omega)
  rw [or_sum _ _ _ r0 q0 q1 (by omega)]
  have fh : h * 2 ^ k = 18446744073709551616 * (h / 2 ^ (64 - k)) + h % 2 ^ (64 - k) * 2 ^ k := by
    conv => lhs; rw [← eh, Int.add_mul, Int.mul_right_comm, hpp]
  have fl : l * 2 ^ k = 18446744073709551616 * (l / 2 ^ (64 - k)) + l % 2 ^ (64 - k) * 2 ^ k := by
    conv => lhs; rw [← el, Int.add_mul, Int.mul_right_comm, hpp]
  have e : (h * 18446744073709551616 + l) * 2 ^ k % B128 = (h % 2 ^ (64 - k) * 2 ^ k + l / 2 ^ (64 - k)) * 18446744073709551616 + l % 2 ^ (64 - k) * 2 ^ k := by
    rw [Int.add_mul, Int.mul_right_comm, fh, fl, B128_eq]
    omega
  rw [e]
  exact WV_of _ _ ⟨z2, by omega⟩
theorem wv_eta (V : Int) : WV V = W2 (V / 18446744073709551616) (V % 18446744073709551616) := rfl
theorem mod_bit (X : Int) (n i : Nat) (h : i < n) : X % 2 ^ n / 2 ^ i % 2 = X / 2 ^ i % 2 := by
  have e := Int.emod_add_mul_ediv X (2 ^ n)
  obtain ⟨t, rfl⟩ : ∃ t, n = t + 1 + i := ⟨n - i - 1, by omega⟩
  have p : (2 : Int) ^ (t + 1 + i) = 2 ^ t * 2 * 2 ^ i := by rw [Int.pow_add, Int.pow_succ]
  have hp : (0 : Int) < 2 ^ i := Int.pow_pos (by decide)
  generalize X / 2 ^ (t + 1 + i) = q at *
  generalize X % 2 ^ (t + 1 + i) = r at *
  have f : X = r + (2 * (2 ^ t * q)) * 2 ^ i := by
    rw [← e, p, Int.mul_right_comm, Int.mul_comm (2 ^ t) 2, Int.mul_assoc 2]
  rw [f, Int.add_mul_ediv_right _ _ (by omega)]
  omega
/-- A bit of a number, as the statements of layer 1 read it. -/
def bw (V i : Int) : Bool := decide (0 ≤ i) && (decide (i ≤ 127) && (V / 2 ^ i.toNat % 2 == 1))
theorem bw_neg (V i : Int) (h : i < 0) : bw V i = false := by unfold bw; simp; omega
theorem bw_far (V i : Int) (h : 127 < i) : bw V i = false := by unfold bw; simp; omega
theorem bw_nat (V : Int) (k : Nat) (h : k < 128) : bw V k = (V / 2 ^ k % 2 == 1) := by unfold bw; simp; omega
theorem bit_V (V : Int) (hV : Wd V) (i : Int) (h0 : -9223372036854775808 ≤ i) (h1 : i ≤ 9223372036854775807) : Pure Try.prog 29 #[WV V, .int .i64 i] (.bool (bw V i)) := by
  rw [wv_eta]
  have hw := hV.word_hi
  intro w
  by_cases hn : i < 0
  · rw [bw_neg V i hn]
    go_enter Try.func29, Try.ntmps29
    go_wp2
    refine bodyPost_ret (v := .bool false) (by simp [results, Try.results29, go_sem, *]) rfl ⟨rfl, ?_⟩
    (repeat (first | assumption | exact Below.refl _ _ | refine ba ?_ _ | refine bd ?_ | refine bdn ?_ _ | refine bs ?_ (by first | omega | (simp; done) | (simp; omega)) _ | refine bt ?_ (by assumption)))
  · by_cases hf : 127 < i
    · rw [bw_far V i hf]
      go_enter Try.func29, Try.ntmps29
      go_wp2
      refine bodyPost_ret (v := .bool false) (by simp [results, Try.results29, go_sem, *]) rfl ⟨rfl, ?_⟩
      (repeat (first | assumption | exact Below.refl _ _ | refine ba ?_ _ | refine bd ?_ | refine bdn ?_ _ | refine bs ?_ (by first | omega | (simp; done) | (simp; omega)) _ | refine bt ?_ (by assumption)))
    · by_cases hs : 63 < i
      · obtain ⟨j, hj⟩ := Int.eq_ofNat_of_zero_le (show 0 ≤ i - 64 by omega)
        obtain rfl : i = (j : Int) + 64 := by omega
        have hw1 : IntKind.u64.wrap (j : Int) = j := by rw [wrap_mod]; omega
        have e1 : (V / 18446744073709551616 / 2 ^ j).tmod 2 = V / 18446744073709551616 / 2 ^ j % 2 := Int.tmod_eq_emod_of_nonneg (Int.ediv_nonneg hw.1 (Int.le_of_lt (Int.pow_pos (by decide))))
        have hk : (j : Int) ≤ 63 := by omega
        have e2 : bw V ((j : Int) + 64) = (V / 18446744073709551616 / 2 ^ j % 2 == 1) := by
          rw [show (j : Int) + 64 = ((64 + j : Nat) : Int) by omega, bw_nat V _ (by omega), Int.pow_add, ← Int.ediv_ediv_of_nonneg (by decide)]
          rfl
        rw [e2]
        have E1 := Lib.hid e1
        clear e1 e2 hj
        go_enter Try.func29, Try.ntmps29
        go_wp2
        refine bodyPost_ret (v := .bool (V / 18446744073709551616 / 2 ^ j % 2 == 1)) (by simp [results, Try.results29, go_sem, E1.out]) rfl ⟨rfl, ?_⟩
        (repeat (first | assumption | exact Below.refl _ _ | refine ba ?_ _ | refine bd ?_ | refine bdn ?_ _ | refine bs ?_ (by first | omega | (simp; done) | (simp; omega)) _ | refine bt ?_ (by assumption)))
      · obtain ⟨k, rfl⟩ := Int.eq_ofNat_of_zero_le (show 0 ≤ i by omega)
        have hs' : ¬ (63 : Int) < (k : Int) := by omega
        have hw1 : IntKind.u64.wrap (k : Int) = k := by rw [wrap_mod]; omega
        have e1 : (V % 18446744073709551616 / 2 ^ k).tmod 2 = V / 2 ^ k % 2 := by
          rw [Int.tmod_eq_emod_of_nonneg (Int.ediv_nonneg (by omega) (Int.le_of_lt (Int.pow_pos (by decide))))]
          exact mod_bit V 64 k (by omega)
        rw [bw_nat V k (by omega)]
        have E1 := Lib.hid e1
        clear e1
        go_enter Try.func29, Try.ntmps29
        go_wp2
        refine bodyPost_ret (v := .bool (V / 2 ^ k % 2 == 1)) (by simp [results, Try.results29, go_sem, E1.out]) rfl ⟨rfl, ?_⟩
        (repeat (first | assumption | exact Below.refl _ _ | refine ba ?_ _ | refine bd ?_ | refine bdn ?_ _ | refine bs ?_ (by first | omega | (simp; done) | (simp; omega)) _ | refine bt ?_ (by assumption)))
theorem mod_mul' (x p m : Int) : x % m * p % m = x * p % m := by
  rw [Int.mul_emod (x % m), Int.emod_emod_of_dvd _ (Int.dvd_refl _), ← Int.mul_emod]
theorem WV_low (x : Int) (h : Word x) : WV x = W2 0 x := by
  have := WV_of 0 x h
  rwa [show (0 : Int) * 18446744073709551616 + x = x by omega] at this
theorem pow64 : (2 : Int) ^ 64 = 18446744073709551616 := rfl
theorem pow128 : (2 : Int) ^ 128 = B128 := rfl
theorem far_div (V : Int) (hV : Wd V) (m : Nat) (h : 128 ≤ m) : V / 2 ^ m = 0 := by
  obtain ⟨t, rfl⟩ : ∃ t, m = 128 + t := ⟨m - 128, by omega⟩
  rw [Int.pow_add, ← Int.ediv_ediv_of_nonneg (by decide), pow128, Int.ediv_eq_zero_of_lt hV.lo hV.hi]
  exact Int.zero_ediv _
theorem far_mul (V : Int) (m : Nat) (h : 128 ≤ m) : V * 2 ^ m % B128 = 0 := by
  obtain ⟨t, rfl⟩ : ∃ t, m = t + 128 := ⟨m - 128, by omega⟩
  rw [Int.pow_add, pow128, ← Int.mul_assoc]
  exact Int.mul_emod_left _ _
theorem down_V (V : Int) (hV : Wd V) (n : Int) (h0 : 0 ≤ n) (h1 : n ≤ 9223372036854775807) : Pure Try.prog 28 #[WV V, .int .i64 n] (WV (V / 2 ^ (min n 200).toNat)) := by
  have hw := hV.word_hi
  have hl := word_mod V
  by_cases a : n < 64
  · obtain ⟨k, rfl⟩ := Int.eq_ofNat_of_zero_le h0
    have e := low_V _ _ hw hl k (by omega)
    rw [show V / 18446744073709551616 * 18446744073709551616 + V % 18446744073709551616 = V by omega] at e
    rw [show (min (k : Int) 200).toNat = k by omega, e]
    exact down_low _ _ k (by omega)
  · by_cases b : n ≤ 128
    · obtain ⟨k, hk⟩ := Int.eq_ofNat_of_zero_le (show 0 ≤ n - 64 by omega)
      obtain rfl : n = (k : Int) + 64 := by omega
      have p : (0 : Int) < 2 ^ k := Int.pow_pos (by decide)
      have e : V / 2 ^ (min ((k : Int) + 64) 200).toNat = V / 18446744073709551616 / 2 ^ k := by
        rw [show (min ((k : Int) + 64) 200).toNat = 64 + k by omega, Int.pow_add, ← Int.ediv_ediv_of_nonneg (by decide), pow64]
      rw [e, WV_low _ ⟨Int.ediv_nonneg hw.1 (by omega), Int.lt_of_le_of_lt (Int.ediv_le_self _ hw.1) hw.2⟩]
      exact down_high _ _ k (by omega)
    · rw [far_div V hV _ (by omega)]
      exact down_far _ _ n (by omega) h1 hw.1 hw.2
theorem up_V (V : Int) (hV : Wd V) (n : Int) (h0 : 0 ≤ n) (h1 : n ≤ 9223372036854775807) : Pure Try.prog 27 #[WV V, .int .i64 n] (WV (V * 2 ^ (min n 200).toNat % B128)) := by
  have hw := hV.word_hi
  have hl := word_mod V
  by_cases a : n < 64
  · obtain ⟨k, rfl⟩ := Int.eq_ofNat_of_zero_le h0
    have e := high_V _ _ hw hl k (by omega)
    rw [show V / 18446744073709551616 * 18446744073709551616 + V % 18446744073709551616 = V by omega] at e
    rw [show (min (k : Int) 200).toNat = k by omega, e]
    exact up_low _ _ k (by omega)
  · by_cases b : n ≤ 128
    · obtain ⟨k, hk⟩ := Int.eq_ofNat_of_zero_le (show 0 ≤ n - 64 by omega)
      obtain rfl : n = (k : Int) + 64 := by omega
      have e : V * 2 ^ (min ((k : Int) + 64) 200).toNat % B128 = IntKind.u64.wrap (V % 18446744073709551616 * 2 ^ k) * 18446744073709551616 + 0 := by
        rw [show (min ((k : Int) + 64) 200).toNat = k + 64 by omega, Int.pow_add, ← Int.mul_assoc, pow64, wrap_mod, show B128 = 18446744073709551616 * 18446744073709551616 from rfl, mul_mod_mul _ _ _ (by decide) (by decide), mod_mul']
        omega
      rw [e, WV_of _ 0 ⟨by omega, by omega⟩]
      exact up_high _ _ k (by omega)
    · rw [far_mul V _ (by omega)]
      exact up_far _ _ n (by omega) h1
theorem wv_zero (x : Int) : (WV x = W2 0 0) ↔ x = 0 := by
  constructor
  · intro h
    unfold WV at h
    simp at h
    omega
  · rintro rfl; rfl
theorem bits_V (V : Int) (hV : Wd V) (m : Nat) (hm : m ≤ 128) (h1 : m < 128 → V / 2 ^ m = 0) (h2 : ∀ j, j < m → V / 2 ^ j ≠ 0) : Pure Try.prog 30 #[WV V] (.int .i64 m) := by
  intro w
  have D : Hid (∀ j : Nat, j < 128 → Pure Try.prog 28 #[W2 (V / 18446744073709551616) (V % 18446744073709551616), .int .i64 (j : Int)] (W2 (V / 2 ^ j / 18446744073709551616) (V / 2 ^ j % 18446744073709551616))) := by
    refine Lib.hid ?_
    intro j hj
    have := down_V V hV j (by omega) (by omega)
    rwa [show (min (j : Int) 200).toNat = j by omega, wv_eta, wv_eta] at this
  have H1 := Lib.hid h1; have H2 := Lib.hid h2
  clear h1 h2
  rw [wv_eta]
  go_enter Try.func30, Try.ntmps30
  go_wp2
  go_step3
  go_wp2
  go_step3
  go_wp2
  go_loopw [3, 5] (fun x i wr => ∃ k : Nat, k ≤ m ∧ i = .int .i64 k ∧ x = .int .i64 128 ∧ Below (w.alloc (.cells #[u (V / 18446744073709551616), u (V % 18446744073709551616)] 24)).heap.size (w.alloc (.cells #[u (V / 18446744073709551616), u (V % 18446744073709551616)] 24)) wr) (fun _ i _ => 128 - (intOf i).toNat)
  case atStart => exact ⟨0, Nat.zero_le _, rfl, rfl, Below.refl _ _⟩
  case round =>
    obtain ⟨k, hk, rfl, rfl, hb1⟩ := hrel
    obtain ⟨w1, rfl⟩ : ∃ w1, w1 = wr := ⟨_, rfl⟩
    have hs1 : w.heap.size + 1 ≤ w1.heap.size := (by have h := hb1.size; first | omega | (simp at h; omega))
    have hz1_0 : w.heap.size < w1.heap.size := (by omega)
    obtain ⟨hc1, hf1, hl1⟩ := bcell hb1
    clear hl1
    by_cases hlt : k < 128
    · by_cases hkm : k = m
      · subst hkm
        have z := H1.out hlt
        have hks : (k : Int) < 128 := by omega
        have HD := D.out k hlt
        clear D
        rw [z, Int.zero_ediv, Int.zero_emod] at HD
        clear z H1 H2 hV
        have HE := Lib.hid HD
        clear HD
        go_wp2_with fail
        (with_reducible refine (HE.out w1).mono ?_)
        rintro e w2 ⟨rfl, hb2⟩
        have hs2 : w1.heap.size + 0 ≤ w2.heap.size := (by have h := hb2.size; first | omega | (simp at h; omega))
        have hb1_2 := bel hb1 hb2 (by (repeat (first | assumption | exact Below.refl _ _ | refine ba ?_ _ | refine bd ?_ | refine bdn ?_ _ | refine bs ?_ (by first | omega | (simp; done) | (simp; omega)) _ | refine bt ?_ (by assumption))))
        clear hz1_0 hc1 hf1
        obtain ⟨hc1_2, hf1_2, hl1_2⟩ := bcell hb1_2
        clear hl1_2
        have hz2_0 : w.heap.size < w2.heap.size := (by omega)
        obtain ⟨hc2, hf2, hl2⟩ := bcell hb2
        clear hl2
        go_wp2
        rw [Exit.noGoto_ret]
        refine bodyPost_ret (v := .int .i64 (k : Int)) (by simp [results, Try.results30, go_sem, *]) rfl ⟨rfl, ?_⟩
        (repeat (first | assumption | exact Below.refl _ _ | refine ba ?_ _ | refine bd ?_ | refine bdn ?_ _ | refine bs ?_ (by first | omega | (simp; done) | (simp; omega)) _ | refine bt ?_ (by assumption)))
      · have hks : (k : Int) < 128 := by omega
        have HD := Lib.hid (D.out k hlt)
        have z := H2.out k (by omega)
        clear D
        have hpq : (V / 2 ^ k / 18446744073709551616 = 0 ∧ V / 2 ^ k % 18446744073709551616 ≠ 0) ∨ V / 2 ^ k / 18446744073709551616 ≠ 0 := by omega
        clear z
        generalize V / 2 ^ k / 18446744073709551616 = p at *
        generalize V / 2 ^ k % 18446744073709551616 = q at *
        rcases hpq with ⟨rfl, hq⟩ | hp
        · have HQ := Lib.hid (show (q == 0) = false by simpa using hq)
          clear hq
          go_wp2_with fail
          (with_reducible refine (HD.out w1).mono ?_)
          rintro e w2 ⟨rfl, hb2⟩
          have hs2 : w1.heap.size + 0 ≤ w2.heap.size := (by have h := hb2.size; first | omega | (simp at h; omega))
          have hb1_2 := bel hb1 hb2 (by (repeat (first | assumption | exact Below.refl _ _ | refine ba ?_ _ | refine bd ?_ | refine bdn ?_ _ | refine bs ?_ (by first | omega | (simp; done) | (simp; omega)) _ | refine bt ?_ (by assumption))))
          clear hz1_0 hc1 hf1
          obtain ⟨hc1_2, hf1_2, hl1_2⟩ := bcell hb1_2
          clear hl1_2
          have hz2_0 : w.heap.size < w2.heap.size := (by omega)
          obtain ⟨hc2, hf2, hl2⟩ := bcell hb2
          clear hl2
          have hQ := HQ.out
          go_wp2
          go_roundw
          case rel => exact ⟨k + 1, by omega, by go_num, rfl, by (repeat (first | assumption | exact Below.refl _ _ | refine ba ?_ _ | refine bd ?_ | refine bdn ?_ _ | refine bs ?_ (by first | omega | (simp; done) | (simp; omega)) _ | refine bt ?_ (by assumption)))⟩
          case measure => simp [intOf]; omega
        · have HQ := Lib.hid (show (p == 0) = false by simpa using hp)
          clear hp
          go_wp2_with fail
          (with_reducible refine (HD.out w1).mono ?_)
          rintro e w2 ⟨rfl, hb2⟩
          have hs2 : w1.heap.size + 0 ≤ w2.heap.size := (by have h := hb2.size; first | omega | (simp at h; omega))
          have hb1_2 := bel hb1 hb2 (by (repeat (first | assumption | exact Below.refl _ _ | refine ba ?_ _ | refine bd ?_ | refine bdn ?_ _ | refine bs ?_ (by first | omega | (simp; done) | (simp; omega)) _ | refine bt ?_ (by assumption))))
          clear hz1_0 hc1 hf1
          obtain ⟨hc1_2, hf1_2, hl1_2⟩ := bcell hb1_2
          clear hl1_2
          have hz2_0 : w.heap.size < w2.heap.size := (by omega)
          obtain ⟨hc2, hf2, hl2⟩ := bcell hb2
          clear hl2
          have hQ := HQ.out
          go_wp2
          go_roundw
          case rel => exact ⟨k + 1, by omega, by go_num, rfl, by (repeat (first | assumption | exact Below.refl _ _ | refine ba ?_ _ | refine bd ?_ | refine bdn ?_ _ | refine bs ?_ (by first | omega | (simp; done) | (simp; omega)) _ | refine bt ?_ (by assumption)))⟩
          case measure => simp [intOf]; omega
    · obtain rfl : k = m := by omega
      have hks : ¬ (k : Int) < 128 := by omega
      have e : k = 128 := by omega
      subst e
      clear D
      go_wp2
      refine bodyPost_ret (v := .int .i64 128) (by simp [results, Try.results30, go_sem, *]) rfl ⟨rfl, ?_⟩
      (repeat (first | assumption | exact Below.refl _ _ | refine ba ?_ _ | refine bd ?_ | refine bdn ?_ _ | refine bs ?_ (by first | omega | (simp; done) | (simp; omega)) _ | refine bt ?_ (by assumption)))
end Go.Proofs.Ytojfkpmdnhkanaa

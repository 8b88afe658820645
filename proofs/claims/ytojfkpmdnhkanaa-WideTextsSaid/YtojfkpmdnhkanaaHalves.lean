/- Contracts of mancipleref01.Halves and of own, is, after in the statements of layer 1. Conditions: as each says. -/
import Derived.Test.YtojfkpmdnhkanaaSum
namespace Go.Proofs.Ytojfkpmdnhkanaa
open Go.RowKit
attribute [local go_sem] ext_cell ext_frozen

theorem emod_step (a q : Int) (hq : 0 < q) : a % (q * 65536) = (a / 65536 % q) * 65536 + a % 65536 := by
  have e1 := Int.mul_ediv_add_emod (a / 65536) q
  have m0 := Int.emod_nonneg (a / 65536) (show q ≠ 0 by omega)
  have m1 := Int.emod_lt_of_pos (a / 65536) hq
  generalize a / 65536 % q = s at *
  generalize ht : a / 65536 / q = t at *
  have e2 : a = (s * 65536 + a % 65536) + (q * 65536) * t := by
    rw [Int.mul_right_comm]; omega
  conv => lhs; rw [e2, Int.add_mul_emod_self_left]
  exact Int.emod_eq_of_lt (by omega) (by omega)

def hiK (V : Int) (k : Nat) : Int := V / 65536 ^ (max k 4) % 65536 ^ (8 - max k 4)
def loK (V : Int) (k : Nat) : Int := V / 65536 ^ k % 65536 ^ (4 - k)
def fK (V : Int) (k : Nat) : Bool := decide (V / 65536 ^ (max k 8) = 0)

theorem part_step (V : Int) (k m : Nat) : V / 65536 ^ k % 65536 ^ (m + 1) = (V / 65536 ^ (k + 1) % 65536 ^ m) * 65536 + V / 65536 ^ k % 65536 := by
  rw [Int.pow_succ, emod_step _ _ (pow_pos65 m), Int.ediv_ediv_of_nonneg (Int.le_of_lt (pow_pos65 k)), ← Int.pow_succ]
theorem part_bd (V : Int) (k m : Nat) (hm : m ≤ 3) : 0 ≤ V / 65536 ^ k % 65536 ^ m ∧ V / 65536 ^ k % 65536 ^ m < 281474976710656 := by
  have h0 := Int.emod_nonneg (V / 65536 ^ k) (show (65536 : Int) ^ m ≠ 0 by have := pow_pos65 m; omega)
  have h1 := Int.emod_lt_of_pos (V / 65536 ^ k) (pow_pos65 m)
  have : (65536 : Int) ^ m ≤ 281474976710656 := by
    have : m = 0 ∨ m = 1 ∨ m = 2 ∨ m = 3 := by omega
    rcases this with rfl | rfl | rfl | rfl <;> decide
  omega
theorem hi_top (V : Int) (k : Nat) (hk : 8 ≤ k) : hiK V k = 0 := by
  unfold hiK; rw [show 8 - max k 4 = 0 by omega]; simp [Int.emod_one]
theorem hi_step (V : Int) (k : Nat) (h4 : 4 ≤ k) (h8 : k < 8) : hiK V k = hiK V (k + 1) * 65536 + V / 65536 ^ k % 65536 ∧ 0 ≤ hiK V (k + 1) ∧ hiK V (k + 1) < 281474976710656 := by
  unfold hiK
  rw [show max k 4 = k by omega, show max (k + 1) 4 = k + 1 by omega]
  obtain ⟨m, hm⟩ : ∃ m, 8 - k = m + 1 := ⟨8 - k - 1, by omega⟩
  rw [hm, show 8 - (k + 1) = m by omega]
  exact ⟨part_step V k m, part_bd V _ m (by omega)⟩
theorem hi_low (V : Int) (k : Nat) (h4 : k < 4) : hiK V k = hiK V (k + 1) := by
  unfold hiK; rw [show max k 4 = 4 by omega, show max (k + 1) 4 = 4 by omega]
theorem lo_top (V : Int) (k : Nat) (hk : 4 ≤ k) : loK V k = 0 := by
  unfold loK; rw [show 4 - k = 0 by omega]; simp [Int.emod_one]
theorem lo_step (V : Int) (k : Nat) (h4 : k < 4) : loK V k = loK V (k + 1) * 65536 + V / 65536 ^ k % 65536 ∧ 0 ≤ loK V (k + 1) ∧ loK V (k + 1) < 281474976710656 := by
  unfold loK
  obtain ⟨m, hm⟩ : ∃ m, 4 - k = m + 1 := ⟨4 - k - 1, by omega⟩
  rw [hm, show 4 - (k + 1) = m by omega]
  exact ⟨part_step V k m, part_bd V _ m (by omega)⟩
theorem f_step (V : Int) (k : Nat) (hk : 8 ≤ k) : fK V k = (fK V (k + 1) && (V / 65536 ^ k % 65536 == 0)) := by
  unfold fK
  rw [show max k 8 = k by omega, show max (k + 1) 8 = k + 1 by omega, Int.pow_succ, ← Int.ediv_ediv_of_nonneg (Int.le_of_lt (pow_pos65 k))]
  generalize V / 65536 ^ k = a
  rw [Bool.eq_iff_iff]; simp only [Bool.and_eq_true, beq_iff_eq, decide_eq_true_eq]; omega
theorem f_low (V : Int) (k : Nat) (hk : k < 8) : fK V k = fK V (k + 1) := by
  unfold fK; rw [show max k 8 = 8 by omega, show max (k + 1) 8 = 8 by omega]

set_option maxHeartbeats 1000000 in
theorem halves_core (n : Nat) (hn : 0 < n) (hn' : n ≤ 100) (V : Int) (v1 : V / 65536 ^ (max n 8) = 0) (hn8 : 8 ≤ n) (v : Value) (w : World) (hv : Ints w v (digs n V)) :
    Calls Try.prog 15 #[v] w fun e w' => e = .returned (.tuple #[u (hiK V 0), u (loK V 0), .bool (fK V 0)]) ∧ Below w.heap.size w w' := by
  obtain ⟨ga, ca, rfl, hga, _, hca, _⟩ := hv.digs hn
  have HCA := Lib.hid hca
  clear hca hv
  have hf0 : fK V n = true := by unfold fK; rw [v1]; rfl
  have s1 := hi_top V n hn8
  have s2 := lo_top V n (by omega)
  have S1 := Lib.hid s1; have S2 := Lib.hid s2; have S3 := Lib.hid hf0
  clear s1 s2 hf0 v1
  go_enter Try.func15, Try.ntmps15
  go_wp2
  go_loopw [5, 6, 7, 8] (fun a b c i wr => ∃ (k : Nat) (x y : Int) (f : Bool), k ≤ n ∧ i = .int .i64 ((k : Int) - 1) ∧ a = u x ∧ b = u y ∧ c = .bool f ∧ Hid (x = hiK V k) ∧ Hid (y = loK V k) ∧ Hid (f = fK V k) ∧ Below w.heap.size w wr) (fun _ _ _ i _ => (intOf i + 1).toNat)
  case atStart => exact ⟨n, 0, 0, true, Nat.le_refl _, rfl, rfl, rfl, rfl, S1.out.symm, S2.out.symm, S3.out.symm, Below.refl _ _⟩
  case round =>
    obtain ⟨k, x, y, f, hk, rfl, rfl, rfl, rfl, hx, hy, hf, hb⟩ := hrel
    cases k with
    | zero =>
      go_wp2
      go_ret3
      exact ⟨by rw [← hx.out, ← hy.out, ← hf.out]; rfl, hb⟩
    | succ k =>
      have hks : (k : Int) < (n : Int) := by omega
      have d1 : wr.cell? ⟨ga, k, none⟩ = some (.int .i64 (V / 65536 ^ k % 65536)) := by rw [hb.cell (p := ⟨ga, k, none⟩) hga]; exact HCA.out k (by omega)
      have x0 := Int.emod_nonneg (V / 65536 ^ k) (show (65536 : Int) ≠ 0 by decide)
      have x1 := Int.emod_lt_of_pos (V / 65536 ^ k) (show (0 : Int) < 65536 by decide)
      by_cases h8 : 8 ≤ k
      · have fs := f_step V k h8
        rw [← hf.out] at fs
        have hh := (hi_top V (k + 1) (by omega)).trans (hi_top V k h8).symm
        have hl := (lo_top V (k + 1) (by omega)).trans (lo_top V k (by omega)).symm
        have HX := Lib.hid (hx.out.trans hh)
        have HY := Lib.hid (hy.out.trans hl)
        generalize V / 65536 ^ k % 65536 = z at *
        have HF := Lib.hid fs
        have h8' : (8 : Int) ≤ (k : Int) := by omega
        clear fs hh hl hx hy hf
        cases f with
        | false =>
          go_wp2
          go_roundw
          case rel => exact ⟨k, x, y, false, by omega, by go_num, rfl, rfl, rfl, HX.out, HY.out, by show false = _; rw [HF.out]; rfl, by (repeat (first | assumption | exact Below.refl _ _ | refine ba ?_ _ | refine bd ?_ | refine bdn ?_ _ | refine bs ?_ (by first | omega | (simp; done) | (simp; omega)) _ | refine bt ?_ (by assumption)))⟩
          case measure => simp [intOf]
        | true =>
          go_wp2
          go_roundw
          case rel => exact ⟨k, x, y, (z == 0), by omega, by go_num, rfl, rfl, rfl, HX.out, HY.out, by show (z == 0) = _; rw [HF.out]; rfl, by (repeat (first | assumption | exact Below.refl _ _ | refine ba ?_ _ | refine bd ?_ | refine bdn ?_ _ | refine bs ?_ (by first | omega | (simp; done) | (simp; omega)) _ | refine bt ?_ (by assumption)))⟩
          case measure => simp [intOf]
      · have h8' : (k : Int) < 8 := by omega
        have HF := Lib.hid (hf.out.trans (f_low V k (by omega)).symm)
        by_cases h4 : 4 ≤ k
        · have h4' : (4 : Int) ≤ (k : Int) := by omega
          obtain ⟨t1, t2, t3⟩ := hi_step V k h4 (by omega)
          rw [← hx.out] at t1 t2 t3
          have HX := Lib.hid t1
          have HY := Lib.hid (hy.out.trans ((lo_top V (k + 1) (by omega)).trans (lo_top V k h4).symm))
          generalize V / 65536 ^ k % 65536 = z at *
          clear t1 hx hy hf
          go_wp2
          go_roundw
          case rel => exact ⟨k, x * 65536 + z, y, f, by omega, by go_num, rfl, rfl, rfl, HX.out.symm, HY.out, HF.out, by (repeat (first | assumption | exact Below.refl _ _ | refine ba ?_ _ | refine bd ?_ | refine bdn ?_ _ | refine bs ?_ (by first | omega | (simp; done) | (simp; omega)) _ | refine bt ?_ (by assumption)))⟩
          case measure => simp [intOf]
        · have h4' : (k : Int) < 4 := by omega
          obtain ⟨t1, t2, t3⟩ := lo_step V k (by omega)
          rw [← hy.out] at t1 t2 t3
          have HY := Lib.hid t1
          have HX := Lib.hid (hx.out.trans (hi_low V k (by omega)).symm)
          generalize V / 65536 ^ k % 65536 = z at *
          clear t1 hx hy hf
          go_wp2
          go_roundw
          case rel => exact ⟨k, x, y * 65536 + z, f, by omega, by go_num, rfl, rfl, rfl, HX.out, HY.out.symm, HF.out, by (repeat (first | assumption | exact Below.refl _ _ | refine ba ?_ _ | refine bd ?_ | refine bdn ?_ _ | refine bs ?_ (by first | omega | (simp; done) | (simp; omega)) _ | refine bt ?_ (by assumption)))⟩
          case measure => simp [intOf]

theorem digs_append : ∀ (m n : Nat) (v : Int), digs (m + n) v = digs m v ++ digs n (v / 65536 ^ m)
  | 0, n, v => by simp [digs]
  | m + 1, n, v => by
    rw [show m + 1 + n = (m + n) + 1 by omega, digs, digs_append m n, digs, List.cons_append, Int.ediv_ediv_of_nonneg (by decide), Int.pow_succ, Int.mul_comm 65536]
theorem digs_low : ∀ (k : Nat) (a b : Int), digs k (a * 65536 ^ k + b) = digs k b
  | 0, _, _ => rfl
  | k + 1, a, b => by
    have e1 : a * 65536 ^ (k + 1) + b = b + (a * 65536 ^ k) * 65536 := by rw [Int.pow_succ, Int.mul_assoc]; omega
    rw [digs, digs, e1, Int.add_mul_emod_self_right, Int.add_mul_ediv_right _ _ (by decide), Int.add_comm (b / 65536), digs_low k]
theorem digs_two (h l : Int) (hl : Word l) : digs 4 l ++ digs 4 h = digs 8 (h * 18446744073709551616 + l) := by
  obtain ⟨l0, l1⟩ := hl
  rw [show (8 : Nat) = 4 + 4 from rfl, digs_append]
  have e : (65536 : Int) ^ 4 = 18446744073709551616 := by decide
  have e2 := digs_low 4 h l
  rw [e] at e2 ⊢
  rw [e2]
  congr 2
  omega

theorem own_any (h l : Int) (hh : Word h) (hl : Word l) (w : World) : Calls Try.prog 14 #[W2 h l] w (RetInts w (digs 8 (h * 18446744073709551616 + l))) := by
  rw [← digs_two h l hl]
  go_enter Try.func14, Try.ntmps14
  go_wp2_with fail
  refine (digits_any _ _ hh hl _).mono ?_
  rintro e w1 ⟨v, rfl, hv, hb⟩
  go_wp2
  go_ret
  exact ⟨_, rfl, hv, bt (ba (Below.refl _ _) _) hb⟩
theorem after_any (b : Bool) : Pure Try.prog 18 #[.bool b] (.int .i64 (if b then 1 else 0)) := by
  intro w
  cases b
  · go_enter Try.func18, Try.ntmps18
    go_wp2
    go_ret
    exact ⟨rfl, Below.refl _ _⟩
  · go_enter Try.func18, Try.ntmps18
    go_wp2
    go_ret
    exact ⟨rfl, Below.refl _ _⟩
theorem is_true (n : Nat) (hn' : n ≤ 100) (hn8 : 8 ≤ n) (V ah al : Int) (f : Bool) (v1 : V / 65536 ^ (max n 8) = 0) (v : Value) (w : World) (hv : Ints w v (digs n V))
    (e1 : hiK V 0 = ah) (e2 : loK V 0 = al) (e3 : fK V 0 = f) : Calls Try.prog 17 #[W2 ah al, .bool f, v] w fun e w' => e = .returned (.bool true) ∧ Below w.heap.size w w' := by
  have hc := halves_core n (by omega) hn' V v1 hn8 v (w.alloc (.cells #[.int .u64 ah, .int .u64 al] 24)) (hv.grow (ba (Below.refl _ _) _))
  rw [e1, e2, e3] at hc
  have HC := Lib.hid hc
  clear hc e1 e2 e3 hv
  go_enter Try.func17, Try.ntmps17
  go_wp2_with fail
  (with_reducible refine (HC.out).mono ?_)
  rintro e w1 ⟨rfl, hb1⟩
  have hs1 : w.heap.size + 1 ≤ w1.heap.size := (by have h := hb1.size; first | omega | (simp at h; omega))
  have hz1_0 : w.heap.size < w1.heap.size := (by omega)
  obtain ⟨hc1, hf1, hl1⟩ := bcell hb1
  clear hl1
  go_wp2
  go_ret
  refine ⟨rfl, ?_⟩
  (repeat (first | assumption | exact Below.refl _ _ | refine ba ?_ _ | refine bd ?_ | refine bdn ?_ _ | refine bs ?_ (by first | omega | (simp; done) | (simp; omega)) _ | refine bt ?_ (by assumption)))
end Go.Proofs.Ytojfkpmdnhkanaa

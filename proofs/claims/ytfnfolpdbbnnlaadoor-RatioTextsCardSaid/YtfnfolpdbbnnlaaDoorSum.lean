/- Contracts of mancipleref01.Sum, Less, Halves and of own, is, after in the statements of layer 1. Conditions: as each says. -/
import Derived.Test.YtfnfolpdbbnnlaaDoorInts
namespace Go.Proofs.YtfnfolpdbbnnlaaDoor
open Go.RowKit
attribute [local go_sem] ext_cell ext_frozen

theorem digs_get : ∀ (n k : Nat) (v : Int), k < n → (digs n v).getD k 0 = v / 65536 ^ k % 65536
  | 0, k, v, h => by omega
  | n + 1, 0, v, _ => by simp [digs]
  | n + 1, k + 1, v, h => by
    have := digs_get n k (v / 65536) (by omega)
    rw [Int.ediv_ediv_of_nonneg (by decide)] at this
    rw [digs, List.getD_cons_succ, this, Int.pow_succ, Int.mul_comm]
theorem Ints.digs {w : World} {v : Value} {n : Nat} {A : Int} (h : Ints w v (digs n A)) (hn : 0 < n) : ∃ g cap, v = .slice (some ⟨g, 0, none⟩) n cap ∧ g < w.heap.size ∧ n ≤ cap ∧
    (∀ k, k < n → w.cell? ⟨g, k, none⟩ = some (.int .i64 (A / 65536 ^ k % 65536))) ∧ (∀ i, w.frozen? ⟨g, i, none⟩ = false) := by
  obtain ⟨g, cap, h1, h2, h3, _, h5, h6⟩ := h.open (by rw [digs_len]; exact hn)
  rw [digs_len] at h1 h3 h5
  exact ⟨g, cap, h1, h2, h3, fun k hk => by rw [h5 k hk, digs_get n k A hk], h6⟩
theorem pow_pos65 (k : Nat) : (0 : Int) < 65536 ^ k := Int.pow_pos (by decide)

theorem sum_step (A B P c x y : Int) (hP : 0 < P) (hc : c = (A + B) / P - A / P - B / P) (hx : x = A / P % 65536) (hy : y = B / P % 65536) :
    (x + y + c) % 65536 = (A + B) / P % 65536 ∧ (x + y + c) / 65536 = (A + B) / (P * 65536) - A / (P * 65536) - B / (P * 65536) := by
  rw [← Int.ediv_ediv_of_nonneg (by omega), ← Int.ediv_ediv_of_nonneg (by omega), ← Int.ediv_ediv_of_nonneg (by omega)]
  generalize (A + B) / P = s at *
  generalize A / P = a at *
  generalize B / P = b at *
  omega
theorem carry_bd (A B P : Int) (hP : 0 < P) : 0 ≤ (A + B) / P - A / P - B / P ∧ (A + B) / P - A / P - B / P ≤ 1 := by
  have e1 := Int.mul_ediv_add_emod A P
  have e2 := Int.mul_ediv_add_emod B P
  have m1 := Int.emod_nonneg A (show P ≠ 0 by omega)
  have m2 := Int.emod_lt_of_pos A hP
  have m3 := Int.emod_nonneg B (show P ≠ 0 by omega)
  have m4 := Int.emod_lt_of_pos B hP
  have e3 : A + B = (A % P + B % P) + P * (A / P + B / P) := by rw [Int.mul_add]; omega
  have e4 : (A + B) / P = (A % P + B % P) / P + (A / P + B / P) := by rw [e3, Int.add_mul_ediv_left _ _ (by omega)]
  have e5 := Int.mul_ediv_add_emod (A % P + B % P) P
  have e6 := Int.emod_nonneg (A % P + B % P) (show P ≠ 0 by omega)
  have e7 := Int.emod_lt_of_pos (A % P + B % P) hP
  rw [e4]
  generalize hq : (A % P + B % P) / P = q at *
  have k0 : 0 ≤ q := by rw [← hq]; exact Int.ediv_nonneg (by omega) (by omega)
  have k1 : q ≤ 1 := by
    rcases Int.lt_or_le 1 q with h | h
    · have := Int.mul_le_mul_of_nonneg_left (show 2 ≤ q by omega) (show 0 ≤ P by omega); omega
    · exact h
  omega

/-- What a comparison of digits from the highest one down finds. -/
theorem less_step (A B P : Int) (hP : 0 < P) (hA : A / (P * 65536) = B / (P * 65536)) (hd : A / P % 65536 ≠ B / P % 65536) : (A < B ↔ A / P % 65536 < B / P % 65536) := by
  rw [← Int.ediv_ediv_of_nonneg (by omega), ← Int.ediv_ediv_of_nonneg (by omega)] at hA
  have e1 := Int.mul_ediv_add_emod A P
  have e2 := Int.mul_ediv_add_emod B P
  have m1 := Int.emod_nonneg A (show P ≠ 0 by omega)
  have m2 := Int.emod_lt_of_pos A hP
  have m3 := Int.emod_nonneg B (show P ≠ 0 by omega)
  have m4 := Int.emod_lt_of_pos B hP
  generalize A / P = a at *
  generalize B / P = b at *
  have hab : a ≠ b := by rintro rfl; exact hd rfl
  constructor
  · intro h
    rcases Int.lt_or_le a b with h' | h'
    · omega
    · have := Int.mul_le_mul_of_nonneg_left (show b + 1 ≤ a by omega) (show 0 ≤ P by omega)
      rw [Int.mul_add] at this; omega
  · intro h
    rcases Int.lt_or_le a b with h' | h'
    · have := Int.mul_le_mul_of_nonneg_left (show a + 1 ≤ b by omega) (show 0 ≤ P by omega)
      rw [Int.mul_add] at this; omega
    · omega
theorem eq_step (A B P : Int) (hP : 0 < P) (hA : A / (P * 65536) = B / (P * 65536)) (hd : A / P % 65536 = B / P % 65536) : A / P = B / P := by
  rw [← Int.ediv_ediv_of_nonneg (by omega), ← Int.ediv_ediv_of_nonneg (by omega)] at hA
  omega

set_option maxHeartbeats 1000000 in
theorem less_any (n : Nat) (hn : 0 < n) (hn' : n ≤ 100) (A B : Int) (a0 : 0 ≤ A) (a1 : A < 65536 ^ n) (b0 : 0 ≤ B) (b1 : B < 65536 ^ n) (va vb : Value) (w : World) (ha : Ints w va (digs n A)) (hb : Ints w vb (digs n B)) :
    Calls Tryd.prog 72 #[va, vb] w fun e w' => e = .returned (.bool (decide (A < B))) ∧ Below w.heap.size w w' := by
  obtain ⟨ga, ca, rfl, hga, _, hca, _⟩ := ha.digs hn
  obtain ⟨gb, cb, rfl, hgb, _, hcb, _⟩ := hb.digs hn
  have HCA := Lib.hid hca; have HCB := Lib.hid hcb
  clear hca hcb ha hb
  go_enter Tryd.func72, Tryd.ntmps72
  go_wp2
  go_loopw [5] (fun i wr => ∃ (k : Nat), k ≤ n ∧ i = .int .i64 ((k : Int) - 1) ∧ Hid (A / 65536 ^ k = B / 65536 ^ k) ∧ Below w.heap.size w wr) (fun i _ => (intOf i + 1).toNat)
  case atStart => exact ⟨n, Nat.le_refl _, rfl, by show A / 65536 ^ n = B / 65536 ^ n; rw [Int.ediv_eq_zero_of_lt a0 a1, Int.ediv_eq_zero_of_lt b0 b1], Below.refl _ _⟩
  case round =>
    obtain ⟨k, hk, rfl, hq, hb⟩ := hrel
    cases k with
    | zero =>
      have he : ¬ A < B := by have := hq.out; simp at this; omega
      have HE := Lib.hid he
      clear he hq
      go_wp2
      go_ret
      exact ⟨by rw [decide_eq_false (Int.not_lt.2 HE.out)]; rfl, hb⟩
    | succ k =>
      have hks : (k : Int) < (n : Int) := by omega
      have d1 : wr.cell? ⟨ga, k, none⟩ = some (.int .i64 (A / 65536 ^ k % 65536)) := by rw [hb.cell (p := ⟨ga, k, none⟩) hga]; exact HCA.out k (by omega)
      have d2 : wr.cell? ⟨gb, k, none⟩ = some (.int .i64 (B / 65536 ^ k % 65536)) := by rw [hb.cell (p := ⟨gb, k, none⟩) hgb]; exact HCB.out k (by omega)
      have hq' := hq.out
      rw [Int.pow_succ] at hq'
      have ls := less_step A B _ (pow_pos65 k) hq'
      have es := eq_step A B _ (pow_pos65 k) hq'
      by_cases hne : A / 65536 ^ k % 65536 = B / 65536 ^ k % 65536
      · have es' := es hne
        have ES := Lib.hid es'
        rw [← hne] at d2
        clear ls es es' hq hq' hne
        generalize A / 65536 ^ k % 65536 = x at *
        have hx : (x != x) = false := by simp
        go_wp2
        go_quiet (fail)
        go_wp2
        go_roundw
        case rel => exact ⟨k, by omega, by go_num, ES.out, bdn hb _⟩
        case measure => simp [intOf]
      · have hls := ls hne
        have hx : (A / 65536 ^ k % 65536 != B / 65536 ^ k % 65536) = true := by simpa using hne
        generalize A / 65536 ^ k % 65536 = x at *
        generalize B / 65536 ^ k % 65536 = z at *
        have HL := Lib.hid hls
        clear ls es hls hq hq' hne
        go_wp2
        go_quiet (fail)
        go_wp2
        go_quiet (fail)
        go_wp2
        go_ret
        exact ⟨by rw [decide_eq_decide.2 HL.out]; rfl, by (repeat (first | assumption | exact Below.refl _ _ | refine ba ?_ _ | refine bd ?_ | refine bdn ?_ _ | refine bs ?_ (by first | omega | (simp; done) | (simp; omega)) _ | refine bt ?_ (by assumption)))⟩
end Go.Proofs.YtfnfolpdbbnnlaaDoor

/- Texts laid together: Sum,Halves,Prod,Ref2. -/
import Derived.Test.YtgfjmafdfbghnaaGreatSgG
import Derived.Deep.CutBlock
import Derived.Deep.DeepCutAuto
import Derived.IntWalk
namespace Go.Proofs.YtgfjmafdfbghnaaGreat
section
open Go.RowKit
attribute [local go_sem] ext_cell ext_frozen

theorem digs_get : ∀ (n k : Nat) (v : Int), k < n → (digs n v).getD k 0 = v / 65536 ^ k % 65536
  | 0, k, v, h => by omega
  | n + 1, 0, v, _ => by simp [digs]
  | n + 1, k + 1, v, h => by
    have := digs_get n k (v / 65536) (by omega)
    rw [Int.ediv_ediv_of_nonneg (by decide)] at this
    rw [digs, List.getD_cons_succ, this, Int.pow_succ, Int.mul_comm]
theorem Ints.digs {w : World} {v : Value} {n : Nat} {A : Int} (h : Ints w v (digs n A)) (hn : 0 < n) : ∃ g cap, v = .slice (some ⟨g, 0, none⟩) n cap ∧ g < w.heap.size ∧ n ≤ cap ∧
    (∀ k, k < n → w.cell? ⟨g, k, none⟩ = some (.int .i64 (A / 65536 ^ k % 65536))) ∧ (∀ i, w.frozen? ⟨g, i, none⟩ = false) := by
  obtain ⟨g, cap, h1, h2, h3, _, h5, h6⟩ := h.open (by rw [digs_len]; exact hn)
  rw [digs_len] at h1 h3 h5
  exact ⟨g, cap, h1, h2, h3, fun k hk => by rw [h5 k hk, digs_get n k A hk], h6⟩
theorem pow_pos65 (k : Nat) : (0 : Int) < 65536 ^ k := Int.pow_pos (by decide)

theorem sum_step (A B P c x y : Int) (hP : 0 < P) (hc : c = (A + B) / P - A / P - B / P) (hx : x = A / P % 65536) (hy : y = B / P % 65536) :
    (x + y + c) % 65536 = (A + B) / P % 65536 ∧ (x + y + c) / 65536 = (A + B) / (P * 65536) - A / (P * 65536) - B / (P * 65536) := by
  rw [← Int.ediv_ediv_of_nonneg (by omega), ← Int.ediv_ediv_of_nonneg (by omega), ← Int.ediv_ediv_of_nonneg (by omega)]
  generalize (A + B) / P = s at *
  generalize A / P = a at *
  generalize B / P = b at *
  omega
theorem carry_bd (A B P : Int) (hP : 0 < P) : 0 ≤ (A + B) / P - A / P - B / P ∧ (A + B) / P - A / P - B / P ≤ 1 := by
  have e1 := Int.mul_ediv_add_emod A P
  have e2 := Int.mul_ediv_add_emod B P
  have m1 := Int.emod_nonneg A (show P ≠ 0 by omega)
  have m2 := Int.emod_lt_of_pos A hP
  have m3 := Int.emod_nonneg B (show P ≠ 0 by omega)
  have m4 := Int.emod_lt_of_pos B hP
  have e3 : A + B = (A % P + B % P) + P * (A / P + B / P) := by rw [Int.mul_add]; omega
  have e4 : (A + B) / P = (A % P + B % P) / P + (A / P + B / P) := by rw [e3, Int.add_mul_ediv_left _ _ (by omega)]
  have e5 := Int.mul_ediv_add_emod (A % P + B % P) P
  have e6 := Int.emod_nonneg (A % P + B % P) (show P ≠ 0 by omega)
  have e7 := Int.emod_lt_of_pos (A % P + B % P) hP
  rw [e4]
  generalize hq : (A % P + B % P) / P = q at *
  have k0 : 0 ≤ q := by rw [← hq]; exact Int.ediv_nonneg (by omega) (by omega)
  have k1 : q ≤ 1 := by
    rcases Int.lt_or_le 1 q with h | h
    · have := Int.mul_le_mul_of_nonneg_left (show 2 ≤ q by omega) (show 0 ≤ P by omega); omega
    · exact h
  omega

/-- What a comparison of digits from the highest one down finds. -/
theorem less_step (A B P : Int) (hP : 0 < P) (hA : A / (P * 65536) = B / (P * 65536)) (hd : A / P % 65536 ≠ B / P % 65536) : (A < B ↔ A / P % 65536 < B / P % 65536) := by
  rw [← Int.ediv_ediv_of_nonneg (by omega), ← Int.ediv_ediv_of_nonneg (by omega)] at hA
  have e1 := Int.mul_ediv_add_emod A P
  have e2 := Int.mul_ediv_add_emod B P
  have m1 := Int.emod_nonneg A (show P ≠ 0 by omega)
  have m2 := Int.emod_lt_of_pos A hP
  have m3 := Int.emod_nonneg B (show P ≠ 0 by omega)
  have m4 := Int.emod_lt_of_pos B hP
  generalize A / P = a at *
  generalize B / P = b at *
  have hab : a ≠ b := by rintro rfl; exact hd rfl
  constructor
  · intro h
    rcases Int.lt_or_le a b with h' | h'
    · omega
    · have := Int.mul_le_mul_of_nonneg_left (show b + 1 ≤ a by omega) (show 0 ≤ P by omega)
      rw [Int.mul_add] at this; omega
  · intro h
    rcases Int.lt_or_le a b with h' | h'
    · have := Int.mul_le_mul_of_nonneg_left (show a + 1 ≤ b by omega) (show 0 ≤ P by omega)
      rw [Int.mul_add] at this; omega
    · omega
theorem eq_step (A B P : Int) (hP : 0 < P) (hA : A / (P * 65536) = B / (P * 65536)) (hd : A / P % 65536 = B / P % 65536) : A / P = B / P := by
  rw [← Int.ediv_ediv_of_nonneg (by omega), ← Int.ediv_ediv_of_nonneg (by omega)] at hA
  omega

set_option maxHeartbeats 1000000 in
theorem less_any (n : Nat) (hn : 0 < n) (hn' : n ≤ 100) (A B : Int) (a0 : 0 ≤ A) (a1 : A < 65536 ^ n) (b0 : 0 ≤ B) (b1 : B < 65536 ^ n) (va vb : Value) (w : World) (ha : Ints w va (digs n A)) (hb : Ints w vb (digs n B)) :
    Calls Tryz.prog 88 #[va, vb] w fun e w' => e = .returned (.bool (decide (A < B))) ∧ Below w.heap.size w w' := by
  obtain ⟨ga, ca, rfl, hga, _, hca, _⟩ := ha.digs hn
  obtain ⟨gb, cb, rfl, hgb, _, hcb, _⟩ := hb.digs hn
  have HCA := Lib.hid hca; have HCB := Lib.hid hcb
  clear hca hcb ha hb
  go_enter Tryz.func88, Tryz.ntmps88
  go_wp2
  go_loopw [5] (fun i wr => ∃ (k : Nat), k ≤ n ∧ i = .int .i64 ((k : Int) - 1) ∧ Hid (A / 65536 ^ k = B / 65536 ^ k) ∧ Below w.heap.size w wr) (fun i _ => (intOf i + 1).toNat)
  case atStart => exact ⟨n, Nat.le_refl _, rfl, by show A / 65536 ^ n = B / 65536 ^ n; rw [Int.ediv_eq_zero_of_lt a0 a1, Int.ediv_eq_zero_of_lt b0 b1], Below.refl _ _⟩
  case round =>
    obtain ⟨k, hk, rfl, hq, hb⟩ := hrel
    cases k with
    | zero =>
      have he : ¬ A < B := by have := hq.out; simp at this; omega
      have HE := Lib.hid he
      clear he hq
      go_wp2
      go_ret
      exact ⟨by rw [decide_eq_false (Int.not_lt.2 HE.out)]; rfl, hb⟩
    | succ k =>
      have hks : (k : Int) < (n : Int) := by omega
      have d1 : wr.cell? ⟨ga, k, none⟩ = some (.int .i64 (A / 65536 ^ k % 65536)) := by rw [hb.cell (p := ⟨ga, k, none⟩) hga]; exact HCA.out k (by omega)
      have d2 : wr.cell? ⟨gb, k, none⟩ = some (.int .i64 (B / 65536 ^ k % 65536)) := by rw [hb.cell (p := ⟨gb, k, none⟩) hgb]; exact HCB.out k (by omega)
      have hq' := hq.out
      rw [Int.pow_succ] at hq'
      have ls := less_step A B _ (pow_pos65 k) hq'
      have es := eq_step A B _ (pow_pos65 k) hq'
      by_cases hne : A / 65536 ^ k % 65536 = B / 65536 ^ k % 65536
      · have es' := es hne
        have ES := Lib.hid es'
        rw [← hne] at d2
        clear ls es es' hq hq' hne
        generalize A / 65536 ^ k % 65536 = x at *
        have hx : (x != x) = false := by simp
        go_wp2
        go_quiet (fail)
        go_wp2
        go_roundw
        case rel => exact ⟨k, by omega, by go_num, ES.out, bdn hb _⟩
        case measure => simp [intOf]
      · have hls := ls hne
        have hx : (A / 65536 ^ k % 65536 != B / 65536 ^ k % 65536) = true := by simpa using hne
        generalize A / 65536 ^ k % 65536 = x at *
        generalize B / 65536 ^ k % 65536 = z at *
        have HL := Lib.hid hls
        clear ls es hls hq hq' hne
        go_wp2
        go_quiet (fail)
        go_wp2
        go_quiet (fail)
        go_wp2
        go_ret
        exact ⟨by rw [decide_eq_decide.2 HL.out]; rfl, by (repeat (first | assumption | exact Below.refl _ _ | refine ba ?_ _ | refine bd ?_ | refine bdn ?_ _ | refine bs ?_ (by first | omega | (simp; done) | (simp; omega)) _ | refine bt ?_ (by assumption)))⟩
end
section
open Go.RowKit
attribute [local go_sem] ext_cell ext_frozen

theorem emod_step (a q : Int) (hq : 0 < q) : a % (q * 65536) = (a / 65536 % q) * 65536 + a % 65536 := by
  have e1 := Int.mul_ediv_add_emod (a / 65536) q
  have m0 := Int.emod_nonneg (a / 65536) (show q ≠ 0 by omega)
  have m1 := Int.emod_lt_of_pos (a / 65536) hq
  generalize a / 65536 % q = s at *
  generalize ht : a / 65536 / q = t at *
  have e2 : a = (s * 65536 + a % 65536) + (q * 65536) * t := by
    rw [Int.mul_right_comm]; omega
  conv => lhs; rw [e2, Int.add_mul_emod_self_left]
  exact Int.emod_eq_of_lt (by omega) (by omega)

def hiK (V : Int) (k : Nat) : Int := V / 65536 ^ (max k 4) % 65536 ^ (8 - max k 4)
def loK (V : Int) (k : Nat) : Int := V / 65536 ^ k % 65536 ^ (4 - k)
def fK (V : Int) (k : Nat) : Bool := decide (V / 65536 ^ (max k 8) = 0)

theorem part_step (V : Int) (k m : Nat) : V / 65536 ^ k % 65536 ^ (m + 1) = (V / 65536 ^ (k + 1) % 65536 ^ m) * 65536 + V / 65536 ^ k % 65536 := by
  rw [Int.pow_succ, emod_step _ _ (pow_pos65 m), Int.ediv_ediv_of_nonneg (Int.le_of_lt (pow_pos65 k)), ← Int.pow_succ]
theorem part_bd (V : Int) (k m : Nat) (hm : m ≤ 3) : 0 ≤ V / 65536 ^ k % 65536 ^ m ∧ V / 65536 ^ k % 65536 ^ m < 281474976710656 := by
  have h0 := Int.emod_nonneg (V / 65536 ^ k) (show (65536 : Int) ^ m ≠ 0 by have := pow_pos65 m; omega)
  have h1 := Int.emod_lt_of_pos (V / 65536 ^ k) (pow_pos65 m)
  have : (65536 : Int) ^ m ≤ 281474976710656 := by
    have : m = 0 ∨ m = 1 ∨ m = 2 ∨ m = 3 := by omega
    rcases this with rfl | rfl | rfl | rfl <;> decide
  omega
theorem hi_top (V : Int) (k : Nat) (hk : 8 ≤ k) : hiK V k = 0 := by
  unfold hiK; rw [show 8 - max k 4 = 0 by omega]; simp [Int.emod_one]
theorem hi_step (V : Int) (k : Nat) (h4 : 4 ≤ k) (h8 : k < 8) : hiK V k = hiK V (k + 1) * 65536 + V / 65536 ^ k % 65536 ∧ 0 ≤ hiK V (k + 1) ∧ hiK V (k + 1) < 281474976710656 := by
  unfold hiK
  rw [show max k 4 = k by omega, show max (k + 1) 4 = k + 1 by omega]
  obtain ⟨m, hm⟩ : ∃ m, 8 - k = m + 1 := ⟨8 - k - 1, by omega⟩
  rw [hm, show 8 - (k + 1) = m by omega]
  exact ⟨part_step V k m, part_bd V _ m (by omega)⟩
theorem hi_low (V : Int) (k : Nat) (h4 : k < 4) : hiK V k = hiK V (k + 1) := by
  unfold hiK; rw [show max k 4 = 4 by omega, show max (k + 1) 4 = 4 by omega]
theorem lo_top (V : Int) (k : Nat) (hk : 4 ≤ k) : loK V k = 0 := by
  unfold loK; rw [show 4 - k = 0 by omega]; simp [Int.emod_one]
theorem lo_step (V : Int) (k : Nat) (h4 : k < 4) : loK V k = loK V (k + 1) * 65536 + V / 65536 ^ k % 65536 ∧ 0 ≤ loK V (k + 1) ∧ loK V (k + 1) < 281474976710656 := by
  unfold loK
  obtain ⟨m, hm⟩ : ∃ m, 4 - k = m + 1 := ⟨4 - k - 1, by omega⟩
  rw [hm, show 4 - (k + 1) = m by omega]
  exact ⟨part_step V k m, part_bd V _ m (by omega)⟩
theorem f_step (V : Int) (k : Nat) (hk : 8 ≤ k) : fK V k = (fK V (k + 1) && (V / 65536 ^ k % 65536 == 0)) := by
  unfold fK
  rw [show max k 8 = k by omega, show max (k + 1) 8 = k + 1 by omega, Int.pow_succ, ← Int.ediv_ediv_of_nonneg (Int.le_of_lt (pow_pos65 k))]
  generalize V / 65536 ^ k = a
  rw [Bool.eq_iff_iff]; simp only [Bool.and_eq_true, beq_iff_eq, decide_eq_true_eq]; omega
theorem f_low (V : Int) (k : Nat) (hk : k < 8) : fK V k = fK V (k + 1) := by
  unfold fK; rw [show max k 8 = 8 by omega, show max (k + 1) 8 = 8 by omega]

theorem digs_append : ∀ (m n : Nat) (v : Int), digs (m + n) v = digs m v ++ digs n (v / 65536 ^ m)
  | 0, n, v => by simp [digs]
  | m + 1, n, v => by
    rw [show m + 1 + n = (m + n) + 1 by omega, digs, digs_append m n, digs, List.cons_append, Int.ediv_ediv_of_nonneg (by decide), Int.pow_succ, Int.mul_comm 65536]
theorem digs_low : ∀ (k : Nat) (a b : Int), digs k (a * 65536 ^ k + b) = digs k b
  | 0, _, _ => rfl
  | k + 1, a, b => by
    have e1 : a * 65536 ^ (k + 1) + b = b + (a * 65536 ^ k) * 65536 := by rw [Int.pow_succ, Int.mul_assoc]; omega
    rw [digs, digs, e1, Int.add_mul_emod_self_right, Int.add_mul_ediv_right _ _ (by decide), Int.add_comm (b / 65536), digs_low k]
theorem digs_two (h l : Int) (hl : Word l) : digs 4 l ++ digs 4 h = digs 8 (h * 18446744073709551616 + l) := by
  obtain ⟨l0, l1⟩ := hl
  rw [show (8 : Nat) = 4 + 4 from rfl, digs_append]
  have e : (65536 : Int) ^ 4 = 18446744073709551616 := by decide
  have e2 := digs_low 4 h l
  rw [e] at e2 ⊢
  rw [e2]
  congr 2
  omega
end
section
open Go.RowKit
attribute [local go_sem] ext_cell ext_frozen

/-- The row under way: its cells. -/
structure PR (w wr : World) (N : Nat) (O : Nat → Int) : Prop where
  row : ∃ L : List Int, L.length = N ∧ wr.ownsRow w.heap.size 3 1 (.slice (some ⟨w.heap.size, 0, none⟩) N N) N (ints L) ∧ ∀ j, j < N → L.getD j 0 = O j
  bel : Below w.heap.size w wr
theorem PR.cell {w wr : World} {N : Nat} {O : Nat → Int} (h : PR w wr N O) (j : Nat) (hj : j < N) : wr.cell? ⟨w.heap.size, j, none⟩ = some (.int .i64 (O j)) := by
  obtain ⟨L, hl, hr, ho⟩ := h.row
  rw [World.ownsRow.cellAt hr j (by omega), ← ho j hj]
  simp [List.getElem?_map, List.getElem?_eq_getElem (show j < L.length by omega), List.getD]
theorem PR.frozen {w wr : World} {N : Nat} {O : Nat → Int} (h : PR w wr N O) (j : Nat) : wr.frozen? ⟨w.heap.size, j, none⟩ = false := by
  obtain ⟨L, hl, hr, ho⟩ := h.row
  exact World.ownsRow.frozenAt hr j
theorem PR.congr {w wr : World} {N : Nat} {O O' : Nat → Int} (h : PR w wr N O) (he : ∀ j, j < N → O j = O' j) : PR w wr N O' := by
  obtain ⟨⟨L, hl, hr, ho⟩, hb⟩ := h
  exact ⟨⟨L, hl, hr, fun j hj => (ho j hj).trans (he j hj)⟩, hb⟩
theorem PR.drewN {w wr : World} {N : Nat} {O : Nat → Int} (h : PR w wr N O) (n : Nat) : PR w (wr.drewN n) N O := by
  obtain ⟨⟨L, hl, hr, ho⟩, hb⟩ := h
  exact ⟨⟨L, hl, hr, ho⟩, bdn hb n⟩
theorem PR.store {w wr : World} {N : Nat} {O : Nat → Int} (h : PR w wr N O) (j : Nat) (hj : j < N) (x : Int) : PR w (wr.setCell ⟨w.heap.size, j, none⟩ (.int .i64 x)) N (fun i => if i = j then x else O i) := by
  obtain ⟨⟨L, hl, hr, ho⟩, hb⟩ := h
  refine ⟨⟨L.set j x, by simpa using hl, ?_, fun i hi => ?_⟩, hb.setCell (Nat.le_refl _) _⟩
  · have := (World.ownsRow.stored hr j (.int .i64 x)).1
    simpa [ints, List.map_set] using this
  · by_cases hij : i = j
    · subst hij; rw [if_pos rfl]; simp [List.getD, List.getElem?_set_self (show i < L.length by omega)]
    · rw [if_neg hij, ← ho i hi]; simp [List.getD, List.getElem?_set_ne (Ne.symm hij)]

theorem mod_succ (A : Int) (i : Nat) : A % 65536 ^ (i + 1) = A % 65536 ^ i + A / 65536 ^ i % 65536 * 65536 ^ i := by
  have hP := pow_pos65 i
  have e1 := Int.mul_ediv_add_emod A (65536 ^ i)
  have e2 := Int.mul_ediv_add_emod (A / 65536 ^ i) 65536
  have m0 := Int.emod_nonneg A (show (65536 : Int) ^ i ≠ 0 by omega)
  have m1 := Int.emod_lt_of_pos A hP
  have m2 := Int.emod_nonneg (A / 65536 ^ i) (show (65536 : Int) ≠ 0 by decide)
  have m3 := Int.emod_lt_of_pos (A / 65536 ^ i) (show (0 : Int) < 65536 by decide)
  rw [Int.pow_succ]
  generalize (65536 : Int) ^ i = P at *
  generalize A / P % 65536 = a at *
  generalize A / P / 65536 = t at *
  generalize A % P = r at *
  generalize A / P = s at *
  have e3 : A = (r + a * P) + (P * 65536) * t := by
    rw [← e1, ← e2, Int.mul_add, Int.mul_assoc, Int.mul_comm P a]; omega
  have k1 : 0 ≤ a * P := Int.mul_nonneg m2 (by omega)
  have k2 : a * P ≤ 65535 * P := Int.mul_le_mul_of_nonneg_right (by omega) (by omega)
  conv => lhs; rw [e3, Int.add_mul_emod_self_left]
  exact Int.emod_eq_of_lt (by omega) (by omega)

/-- One step of a row: y, b: what is left of the sum's term and of the factor; c: the carry. -/
theorem prod_step (Y a B Q : Int) (hQ : 0 < Q) (c : Int) (hc : c = (Y + a * B) / Q - Y / Q - a * (B / Q)) :
    (Y / Q % 65536 + a * (B / Q % 65536) + c) % 65536 = (Y + a * B) / Q % 65536 ∧
    (Y / Q % 65536 + a * (B / Q % 65536) + c) / 65536 = (Y + a * B) / (Q * 65536) - Y / (Q * 65536) - a * (B / (Q * 65536)) := by
  rw [← Int.ediv_ediv_of_nonneg (by omega), ← Int.ediv_ediv_of_nonneg (by omega), ← Int.ediv_ediv_of_nonneg (by omega)]
  have e1 := Int.mul_ediv_add_emod (B / Q) 65536
  generalize (Y + a * B) / Q = s at *
  generalize Y / Q = y at *
  have e2 : a * (B / Q) = 65536 * (a * (B / Q / 65536)) + a * (B / Q % 65536) := by
    conv => lhs; rw [← e1, Int.mul_add, Int.mul_left_comm]
  rw [e2] at hc
  generalize a * (B / Q % 65536) = p at *
  generalize a * (B / Q / 65536) = q at *
  omega
theorem prod_carry (Y a B Q : Int) (hQ : 0 < Q) (a0 : 0 ≤ a) (a1 : a < 65536) : 0 ≤ (Y + a * B) / Q - Y / Q - a * (B / Q) ∧ (Y + a * B) / Q - Y / Q - a * (B / Q) < 65536 := by
  have e1 := Int.mul_ediv_add_emod Y Q
  have e2 := Int.mul_ediv_add_emod B Q
  have m1 := Int.emod_nonneg Y (show Q ≠ 0 by omega)
  have m2 := Int.emod_lt_of_pos Y hQ
  have m3 := Int.emod_nonneg B (show Q ≠ 0 by omega)
  have m4 := Int.emod_lt_of_pos B hQ
  generalize B % Q = b at *
  generalize B / Q = t at *
  generalize Y % Q = y at *
  generalize Y / Q = s at *
  have e3 : Y + a * B = (y + a * b) + Q * (s + a * t) := by
    rw [← e1, ← e2, Int.mul_add, Int.mul_add, Int.mul_left_comm a Q t]; omega
  rw [e3, Int.add_mul_ediv_left _ _ (show Q ≠ 0 by omega)]
  have k1 : 0 ≤ a * b := Int.mul_nonneg a0 m3
  have k2 : a * b ≤ 65535 * (Q - 1) := Int.mul_le_mul (by omega) (by omega) m3 (by decide)
  have l0 : 0 ≤ (y + a * b) / Q := Int.ediv_nonneg (by omega) (by omega)
  have l1 : (y + a * b) / Q < 65536 := by
    apply Int.ediv_lt_of_lt_mul hQ
    omega
  omega

/-- What the first i digits of A make of B. -/
def xi (A B : Int) (i : Nat) : Int := A % 65536 ^ i * B
theorem xi_succ (A B : Int) (i : Nat) : xi A B (i + 1) = xi A B i + 65536 ^ i * (A / 65536 ^ i % 65536 * B) := by
  unfold xi
  rw [mod_succ, Int.add_mul, Int.mul_comm (A / 65536 ^ i % 65536) (65536 ^ i), Int.mul_assoc]
theorem xi_div (A B : Int) (i : Nat) : xi A B (i + 1) / 65536 ^ i = xi A B i / 65536 ^ i + A / 65536 ^ i % 65536 * B := by
  rw [xi_succ, Int.add_mul_ediv_left _ _ (show (65536 : Int) ^ i ≠ 0 by have := pow_pos65 i; omega)]
theorem xi_bd (A B : Int) (i m : Nat) (b0 : 0 ≤ B) (b1 : B < 65536 ^ m) : 0 ≤ xi A B i ∧ xi A B i < 65536 ^ (i + m) := by
  have hP := pow_pos65 i
  have m0 := Int.emod_nonneg A (show (65536 : Int) ^ i ≠ 0 by omega)
  have m1 := Int.emod_lt_of_pos A hP
  unfold xi
  refine ⟨Int.mul_nonneg m0 b0, ?_⟩
  rw [Int.pow_add]
  have k1 : A % 65536 ^ i * B ≤ (65536 ^ i - 1) * B := Int.mul_le_mul_of_nonneg_right (by omega) b0
  have k2 : (65536 : Int) ^ i * B < 65536 ^ i * 65536 ^ m := Int.mul_lt_mul_of_pos_left b1 hP
  rw [Int.sub_mul] at k1
  omega
theorem pow_split65 (X : Int) (i k : Nat) : X / 65536 ^ (i + k) = X / 65536 ^ i / 65536 ^ k := by
  rw [Int.pow_add, Int.ediv_ediv_of_nonneg (Int.le_of_lt (pow_pos65 i))]
theorem xi_low (A B : Int) (i j : Nat) (h : j < i) : xi A B (i + 1) / 65536 ^ j % 65536 = xi A B i / 65536 ^ j % 65536 := by
  rw [xi_succ]
  obtain ⟨d, rfl⟩ : ∃ d, i = j + (d + 1) := ⟨i - j - 1, by omega⟩
  generalize xi A B (j + (d + 1)) = X
  generalize A / 65536 ^ (j + (d + 1)) % 65536 * B = T
  rw [Int.pow_add, Int.mul_assoc, Int.add_mul_ediv_left _ _ (show (65536 : Int) ^ j ≠ 0 by have := pow_pos65 j; omega), Int.pow_succ, Int.mul_right_comm, Int.add_mul_emod_self_right]

/-- The cells in the middle of a row: k of the second factor's digits are done. -/
def mid (A B : Int) (i k : Nat) (j : Nat) : Int := if j < i + k then xi A B (i + 1) / 65536 ^ j % 65536 else xi A B i / 65536 ^ j % 65536
theorem mid_zero (A B : Int) (i j : Nat) : mid A B i 0 j = xi A B i / 65536 ^ j % 65536 := by
  unfold mid
  split
  · exact xi_low A B i j (by omega)
  · rfl
theorem zeros_made (w' w : World) (N : Nat) (h : w'.ownsRow w.heap.size 3 1 (.slice (some ⟨w.heap.size, 0, none⟩) N N) N (madeCells #[Value.int .i64 0] N).toList) (hb : Below w.heap.size w w') :
    PR w w' N (fun _ => 0) := by
  refine ⟨⟨List.replicate N 0, by simp, ?_, fun j hj => by simp [List.getD, hj]⟩, hb⟩
  have e : (madeCells #[Value.int .i64 0] N).toList = ints (List.replicate N 0) := (toList_madeCells_one (.int .i64 0) N).trans (by simp [ints])
  rw [e] at h
  exact h

set_option maxHeartbeats 4000000 in
theorem product_any (n m : Nat) (hn : 0 < n) (hm : 0 < m) (hn' : n ≤ 50) (hm' : m ≤ 50) (A B : Int) (a0 : 0 ≤ A) (a1 : A < 65536 ^ n) (b0 : 0 ≤ B) (b1 : B < 65536 ^ m) (va vb : Value) (w : World) (ha : Ints w va (digs n A)) (hb : Ints w vb (digs m B)) :
    Calls Tryz.prog 86 #[va, vb] w (RetInts w (digs (n + m) (A * B))) := by
  obtain ⟨i0, hi, hz0, hz1, hz2⟩ := info_parts infoInt
  obtain ⟨ga, ca, rfl, hga, _, hca, _⟩ := ha.digs hn
  obtain ⟨gb, cb, rfl, hgb, _, hcb, _⟩ := hb.digs hm
  have HCA := Lib.hid hca; have HCB := Lib.hid hcb
  clear hca hcb ha hb
  go_enter Tryz.func86, Tryz.ntmps86
  go_wp2_with (at_make; refine wpList_make_full _ rfl _ _ 149 rfl w.heap.size 3 i0 (.int .i64 0) 1 Tryz.underlying149 hi hz0 hz1 .i64 .i64 _ _ (n + m) rfl rfl (by simp) (by simp) ?c1 ?c2 ?c3 ?_)
  case c1 => rw [hz2]; omega
  case c2 => unfold maxLen; omega
  case c3 => exact Nat.le_refl _
  intro w1 hown hgrow
  have hpr := zeros_made w1 w (n + m) hown ((Below.refl _ _).grown hgrow (by omega) (by simp))
  clear hown hgrow
  go_wp2
  go_loopw [6] (fun i wr => ∃ k : Nat, k ≤ n ∧ i = .int .i64 k ∧ PR w wr (n + m) (fun j => xi A B k / 65536 ^ j % 65536)) (fun i _ => n - (intOf i).toNat)
  case atStart => exact ⟨0, by omega, rfl, hpr.congr (fun j _ => by simp [xi])⟩
  case round =>
    clear hpr
    obtain ⟨i, hin, rfl, hpr⟩ := hrel
    by_cases hlt : i < n
    · have his : (i : Int) < (n : Int) := by omega
      have x0 := Int.emod_nonneg (A / 65536 ^ i) (show (65536 : Int) ≠ 0 by decide)
      have x1 := Int.emod_lt_of_pos (A / 65536 ^ i) (show (0 : Int) < 65536 by decide)
      have hpr0 := hpr.congr (O' := mid A B i 0) (fun j _ => (mid_zero A B i j).symm)
      have HPR0 := Lib.hid hpr0
      clear hpr hpr0
      obtain ⟨wo, rfl⟩ : ∃ wo : World, wo = wr := ⟨_, rfl⟩
      go_wp2
      go_loopw [7, 8] (fun c q wr => ∃ (k : Nat) (y : Int), k ≤ m ∧ q = .int .i64 k ∧ c = .int .i64 y ∧ 0 ≤ y ∧ y < 65536 ∧ Hid (y = (xi A B i / 65536 ^ i + A / 65536 ^ i % 65536 * B) / 65536 ^ k - xi A B i / 65536 ^ i / 65536 ^ k - A / 65536 ^ i % 65536 * (B / 65536 ^ k)) ∧ PR w wr (n + m) (mid A B i k)) (fun _ q _ => m - (intOf q).toNat)
      case atStart => exact ⟨0, 0, by omega, rfl, rfl, by omega, by omega, by show (0 : Int) = (xi A B i / 65536 ^ i + A / 65536 ^ i % 65536 * B) / 65536 ^ 0 - xi A B i / 65536 ^ i / 65536 ^ 0 - A / 65536 ^ i % 65536 * (B / 65536 ^ 0); simp; omega, HPR0.out⟩
      case round =>
        clear HPR0
        obtain ⟨k, y, hk, rfl, rfl, y0, y1, hy, hpr⟩ := hrel
        by_cases hlk : k < m
        · have hks : (k : Int) < (m : Int) := by omega
          have hxy : (i : Int) + (k : Int) < (n : Int) + (m : Int) := by omega
          have d1 : wr.cell? ⟨ga, i, none⟩ = some (.int .i64 (A / 65536 ^ i % 65536)) := by rw [hpr.bel.cell (p := ⟨ga, i, none⟩) hga]; exact HCA.out i hlt
          have d2 : wr.cell? ⟨gb, k, none⟩ = some (.int .i64 (B / 65536 ^ k % 65536)) := by rw [hpr.bel.cell (p := ⟨gb, k, none⟩) hgb]; exact HCB.out k hlk
          have d3 := hpr.cell (i + k) (by omega)
          have d3e : mid A B i k (i + k) = xi A B i / 65536 ^ i / 65536 ^ k % 65536 := by unfold mid; rw [if_neg (by omega), pow_split65]
          rw [d3e] at d3
          have f3 := hpr.frozen (i + k)
          obtain ⟨st1, st2⟩ := prod_step (xi A B i / 65536 ^ i) (A / 65536 ^ i % 65536) B (65536 ^ k) (pow_pos65 k) y hy.out
          have hcy := prod_carry (xi A B i / 65536 ^ i) (A / 65536 ^ i % 65536) B (65536 ^ (k + 1)) (pow_pos65 _) x0 x1
          have z0 := Int.emod_nonneg (B / 65536 ^ k) (show (65536 : Int) ≠ 0 by decide)
          have z1 := Int.emod_lt_of_pos (B / 65536 ^ k) (show (0 : Int) < 65536 by decide)
          have t0 := Int.emod_nonneg (xi A B i / 65536 ^ i / 65536 ^ k) (show (65536 : Int) ≠ 0 by decide)
          have t1 := Int.emod_lt_of_pos (xi A B i / 65536 ^ i / 65536 ^ k) (show (0 : Int) < 65536 by decide)
          rw [← Int.pow_succ] at st2
          have hmid : ∀ j, j < n + m → (if j = i + k then (xi A B i / 65536 ^ i / 65536 ^ k % 65536 + A / 65536 ^ i % 65536 * (B / 65536 ^ k % 65536) + y) % 65536 else mid A B i k j) = mid A B i (k + 1) j := by
            intro j _
            rw [st1, ← xi_div, ← pow_split65]
            unfold mid
            by_cases hj : j = i + k
            · subst hj; rw [if_pos rfl, if_pos (by omega)]
            · rw [if_neg hj]
              by_cases hj2 : j < i + k
              · rw [if_pos hj2, if_pos (by omega)]
              · rw [if_neg hj2, if_neg (by omega)]
          rw [← st2] at hcy
          have ST2 := Lib.hid st2
          have HMID := Lib.hid hmid
          have HPR := Lib.hid hpr
          clear st1 st2 hmid hpr d3e hy
          generalize xi A B i / 65536 ^ i / 65536 ^ k % 65536 = t at *
          generalize hx : A / 65536 ^ i % 65536 = x at *
          generalize B / 65536 ^ k % 65536 = z at *
          have HX := Lib.hid hx
          have mb : 0 ≤ x * z ∧ x * z ≤ 65535 * 65535 := ⟨Int.mul_nonneg x0 z0, Int.mul_le_mul (by omega) (by omega) z0 (by decide)⟩
          clear hx
          have ik0 : IntKind.i64.wrap ((i : Int) + (k : Int)) = (i : Int) + (k : Int) := IntWalk.i64_in _ (by omega)
          have ik1 : (0 : Int) ≤ (i : Int) + (k : Int) := by omega
          have ik2 : ((i : Int) + (k : Int)).toNat = i + k := by omega
          go_wp2
          go_quiet (fail)
          clear ik0 ik1 ik2
          go_wp2
          go_roundw
          case rel =>
            refine ⟨k + 1, (t + x * z + y) / 65536, by omega, by go_num, rfl, hcy.1, hcy.2, ?_, ?_⟩
            · exact ST2.out
            · exact ((HPR.out.drewN nq).store (i + k) (by omega) _).congr HMID.out
          case measure => simp [intOf]; omega
        · obtain rfl : k = m := by omega
          have his2 : (i : Int) + (k : Int) < (n : Int) + (k : Int) := by omega
          have hbd := xi_bd A B i k b0 b1
          have hbd' := xi_bd A B (i + 1) k b0 b1
          have e1 : xi A B i / 65536 ^ i / 65536 ^ k = 0 := by rw [← pow_split65]; exact Int.ediv_eq_zero_of_lt hbd.1 hbd.2
          have e2 : B / 65536 ^ k = 0 := Int.ediv_eq_zero_of_lt b0 b1
          have hy2 : y = xi A B (i + 1) / 65536 ^ (i + k) % 65536 := by
            have := hy.out
            rw [e1, e2, ← xi_div, ← pow_split65] at this
            simp at this
            omega
          have d3 := hpr.cell (i + k) (by omega)
          have f3 := hpr.frozen (i + k)
          have hfin : ∀ j, j < n + k → (if j = i + k then y else mid A B i k j) = xi A B (i + 1) / 65536 ^ j % 65536 := by
            intro j _
            by_cases hj : j = i + k
            · subst hj; rw [if_pos rfl]; exact hy2
            · rw [if_neg hj]
              unfold mid
              by_cases hj2 : j < i + k
              · rw [if_pos hj2]
              · rw [if_neg hj2]
                obtain ⟨d, rfl⟩ : ∃ d, j = (i + 1 + k) + d := ⟨j - (i + 1 + k), by omega⟩
                have g1 : xi A B i / 65536 ^ (i + 1 + k + d) = 0 := by
                  rw [show i + 1 + k + d = (i + k) + (d + 1) by omega, pow_split65, Int.ediv_eq_zero_of_lt hbd.1 hbd.2]; simp
                have g2 : xi A B (i + 1) / 65536 ^ (i + 1 + k + d) = 0 := by
                  rw [pow_split65, Int.ediv_eq_zero_of_lt hbd'.1 hbd'.2]; simp
                rw [g1, g2]
          have HFIN := Lib.hid hfin
          have HPR := Lib.hid hpr
          clear hfin hpr hy hy2 e1 e2 hbd hbd' hlk
          generalize mid A B i k (i + k) = t at d3
          go_wp2
          go_roundw
          case rel => exact ⟨i + 1, by omega, by go_num, (HPR.out.store (i + k) (by omega) y).congr HFIN.out⟩
          case measure => simp [intOf]; omega
    · obtain rfl : i = n := by omega
      have hfin := hpr.congr (O' := fun j => A * B / 65536 ^ j % 65536) (fun j _ => by
        have : xi A B i = A * B := by unfold xi; rw [Int.emod_eq_of_lt a0 a1]
        rw [this])
      have HF := Lib.hid hfin
      clear hfin hpr hlt
      go_wp2
      go_ret
      refine ⟨_, rfl, ?_, HF.out.bel⟩
      obtain ⟨L, hl, hr, ho⟩ := HF.out.row
      have hL : L = digs (i + m) (A * B) := by
        apply List.ext_getElem
        · rw [hl, digs_len]
        · intro j h1 h2
          have e1 := ho j (by omega)
          have e2 := digs_get (i + m) j (A * B) (by omega)
          simp [List.getD, h1] at e1
          simp [List.getD, h2] at e2
          rw [e1, e2]
      rw [← hL]
      exact Ints.of hr hl.symm
end
section
open Go.RowKit
attribute [local go_sem] ext_cell ext_frozen Mix.calmUpon Mix.mUpon

theorem rright_yes (n d : Int) (hn : 0 ≤ n) (hd : 1 ≤ d) : Pure Tryz.prog 85 #[F2 n d] (.bool true) := by
  intro w
  go_enter Tryz.func85, Tryz.ntmps85
  go_wp2
  go_ret
  exact ⟨rfl, ba (Below.refl _ _) _⟩
theorem rright_no (n d : Int) (h : ¬ Rt n d) : Pure Tryz.prog 85 #[F2 n d] (.bool false) := by
  intro w
  by_cases hn : 0 ≤ n
  · have hd : ¬ 1 ≤ d := fun h' => h ⟨hn, h'⟩
    clear h
    go_enter Tryz.func85, Tryz.ntmps85
    go_wp2
    go_ret
    exact ⟨rfl, ba (Below.refl _ _) _⟩
  · clear h
    go_enter Tryz.func85, Tryz.ntmps85
    go_wp2
    go_ret
    exact ⟨rfl, ba (Below.refl _ _) _⟩
theorem refcmp_no1 (an ad bn bd : Int) (h : ¬ Rt an ad) : Pure Tryz.prog 63 #[F2 an ad, F2 bn bd] (.int .i64 0) := by
  intro w
  go_enter Tryz.func63, Tryz.ntmps63
  go_wp2_with (go_at_call 85; refine (rright_no _ _ h _).mono ?_; rintro e w1 ⟨rfl, hb1⟩)
  go_ret
  exact ⟨rfl, bt (ba (ba (Below.refl _ _) _) _) hb1⟩
theorem refcmp_no2 (an ad bn bd : Int) (h1 : Rt an ad) (h : ¬ Rt bn bd) : Pure Tryz.prog 63 #[F2 an ad, F2 bn bd] (.int .i64 0) := by
  intro w
  go_enter Tryz.func63, Tryz.ntmps63
  go_wp2_with fail
  (with_reducible refine (rright_yes _ _ h1.num h1.den _).mono ?_)
  rintro e w1 ⟨rfl, hb1⟩
  have hs1 : w.heap.size + 2 ≤ w1.heap.size := (by have h := hb1.size; first | omega | (simp at h; omega))
  have hz1_0 : w.heap.size < w1.heap.size := (by omega)
  have hz1_1 : w.heap.size + 1 < w1.heap.size := (by omega)
  obtain ⟨hc1, hf1, hl1⟩ := bcell hb1
  clear hl1
  go_wp2_with fail
  (with_reducible refine (rright_no _ _ h _).mono ?_)
  rintro e w2 ⟨rfl, hb2⟩
  have hs2 : w1.heap.size + 0 ≤ w2.heap.size := (by have h := hb2.size; first | omega | (simp at h; omega))
  have hb1_2 := bel hb1 hb2 (by (repeat (first | assumption | exact Below.refl _ _ | refine ba ?_ _ | refine bd ?_ | refine bdn ?_ _ | refine bs ?_ (by first | omega | (simp; done) | (simp; omega)) _ | refine bt ?_ (by assumption))))
  clear hz1_0 hz1_1 hc1 hf1
  obtain ⟨hc1_2, hf1_2, hl1_2⟩ := bcell hb1_2
  clear hl1_2
  have hz2_0 : w.heap.size < w2.heap.size := (by omega)
  have hz2_1 : w.heap.size + 1 < w2.heap.size := (by omega)
  obtain ⟨hc2, hf2, hl2⟩ := bcell hb2
  clear hl2
  go_wp2
  go_ret
  refine ⟨rfl, ?_⟩
  (repeat (first | assumption | exact Below.refl _ _ | refine ba ?_ _ | refine bd ?_ | refine bdn ?_ _ | refine bs ?_ (by first | omega | (simp; done) | (simp; omega)) _ | refine bt ?_ (by assumption)))
theorem digits_one' (x : Int) (hx : Word x) (w : World) : Calls Tryz.prog 87 #[u 0, u x] w (RetInts w (digs 8 x)) := by
  have h := digits_any 0 x word_0 hx w
  rw [digs_two 0 x hx] at h
  simpa using h
theorem pow16 : (65536 : Int) ^ 16 = 115792089237316195423570985008687907853269984665640564039457584007913129639936 := by decide
theorem word_pow8 {x : Int} (h : Word x) : x < 65536 ^ 8 := by
  have e : (65536 : Int) ^ 8 = 340282366920938463463374607431768211456 := by decide
  rw [e]; have := h.2; omega
theorem prod_pow16 {x y : Int} (hx : Word x) (hy : Word y) : 0 ≤ x * y ∧ x * y < 65536 ^ 16 := by
  have := mul_bd hx hy
  rw [pow16]; omega
theorem prod_words {x y : Int} (hx : Word x) (hy : Word y) (w : World) (va vb : Value) (ha : Ints w va (digs 8 x)) (hb : Ints w vb (digs 8 y)) : Calls Tryz.prog 86 #[va, vb] w (RetInts w (digs 16 (x * y))) :=
  product_any 8 8 (by decide) (by decide) (by decide) (by decide) x y hx.1 (word_pow8 hx) hy.1 (word_pow8 hy) va vb w ha hb

set_option maxRecDepth 100000 in
set_option maxHeartbeats 4000000 in
theorem refcmp_yes (an ad bn bd : Int) (i1 : I64 an) (i2 : I64 ad) (i3 : I64 bn) (i4 : I64 bd) (h1 : Rt an ad) (h2 : Rt bn bd) : Pure Tryz.prog 63 #[F2 an ad, F2 bn bd] (.int .i64 (rcmp an ad bn bd)) := by
  intro w
  have u1 : IntKind.u64.wrap an = an := by rw [IntKind.wrap_u64]; have := i1.2; have := h1.num; omega
  have u2 : IntKind.u64.wrap ad = ad := by rw [IntKind.wrap_u64]; have := i2.2; have := h1.den; omega
  have u3 : IntKind.u64.wrap bn = bn := by rw [IntKind.wrap_u64]; have := i3.2; have := h2.num; omega
  have u4 : IntKind.u64.wrap bd = bd := by rw [IntKind.wrap_u64]; have := i4.2; have := h2.den; omega
  have wd1 := word_of_i64 i1 h1.num
  have wd2 := word_of_i64 i2 (by have := h1.den; omega)
  have wd3 := word_of_i64 i3 h2.num
  have wd4 := word_of_i64 i4 (by have := h2.den; omega)
  have p1 := prod_pow16 wd1 wd4
  have p2 := prod_pow16 wd3 wd2
  have P1 := Lib.hid p1; have P2 := Lib.hid p2
  clear p1 p2
  go_enter Tryz.func63, Tryz.ntmps63
  go_wp2_with fail
  (with_reducible refine (rright_yes _ _ h1.num h1.den _).mono ?_)
  rintro e w1 ⟨rfl, hb1⟩
  have hs1 : w.heap.size + 2 ≤ w1.heap.size := (by have h := hb1.size; first | omega | (simp at h; omega))
  have hz1_0 : w.heap.size < w1.heap.size := (by omega)
  have hz1_1 : w.heap.size + 1 < w1.heap.size := (by omega)
  obtain ⟨hc1, hf1, hl1⟩ := bcell hb1
  clear hl1
  go_wp2_with fail
  (with_reducible refine (rright_yes _ _ h2.num h2.den _).mono ?_)
  rintro e w2 ⟨rfl, hb2⟩
  have hs2 : w1.heap.size + 0 ≤ w2.heap.size := (by have h := hb2.size; first | omega | (simp at h; omega))
  have hb1_2 := bel hb1 hb2 (by (repeat (first | assumption | exact Below.refl _ _ | refine ba ?_ _ | refine bd ?_ | refine bdn ?_ _ | refine bs ?_ (by first | omega | (simp; done) | (simp; omega)) _ | refine bt ?_ (by assumption))))
  clear hz1_0 hz1_1 hc1 hf1
  obtain ⟨hc1_2, hf1_2, hl1_2⟩ := bcell hb1_2
  clear hl1_2
  have hz2_0 : w.heap.size < w2.heap.size := (by omega)
  have hz2_1 : w.heap.size + 1 < w2.heap.size := (by omega)
  obtain ⟨hc2, hf2, hl2⟩ := bcell hb2
  clear hl2
  go_wp2_with fail
  refine Mix.region0 (by kernel_rfl) ?_
  intro w3 hb3
  have hs3 : w2.heap.size + 0 ≤ w3.heap.size := (by have h := hb3.size; first | omega | (simp at h; omega))
  have hz3_0 : w.heap.size < w3.heap.size := (by omega)
  have hz3_1 : w.heap.size + 1 < w3.heap.size := (by omega)
  have hy3_0_0 : w.heap.size ≤ w2.heap.size := (by omega)
  have hy3_1_0 : w.heap.size + 1 ≤ w2.heap.size := (by omega)
  obtain ⟨hc3, hf3, hl3⟩ := bcell hb3
  clear hl3
  refine Mix.take_ex (_) 0 rfl (by kernel_rfl) (by kernel_rfl) (by kernel_rfl) (by kernel_rfl) (fun K hK => ?_)
  go_simp
  first | (refine hK _ ?_; clear hK K) | (apply Exists.intro; refine ⟨fun x => ?_, hK _ ?_⟩; (fail); clear hK K)
  refine Mix.take_ex (_) 1 rfl (by kernel_rfl) (by kernel_rfl) (by kernel_rfl) (by kernel_rfl) (fun K hK => ?_)
  go_simp
  first | (refine hK _ ?_; clear hK K) | (apply Exists.intro; refine ⟨fun x => ?_, hK _ ?_⟩; (fail); clear hK K)
  refine Mix.take_ex (_) 2 rfl (by kernel_rfl) (by kernel_rfl) (by kernel_rfl) (by kernel_rfl) (fun K hK => ?_)
  go_simp
  first | (refine hK _ ?_; clear hK K) | (apply Exists.intro; refine ⟨fun x => ?_, hK _ ?_⟩; (fail); clear hK K)
  refine Mix.take_ex (_) 4 rfl (by kernel_rfl) (by kernel_rfl) (by kernel_rfl) (by kernel_rfl) (fun K hK => ?_)
  go_simp
  first | (refine hK _ ?_; clear hK K) | (apply Exists.intro; refine ⟨fun x => ?_, hK _ ?_⟩; (fail); clear hK K)
  refine Mix.take_ex (_) 5 rfl (by kernel_rfl) (by kernel_rfl) (by kernel_rfl) (by kernel_rfl) (fun K hK => ?_)
  go_simp
  first | (refine hK _ ?_; clear hK K) | (apply Exists.intro; refine ⟨fun x => ?_, hK _ ?_⟩; (fail); clear hK K)
  refine Mix.take_ex (_) 6 rfl (by kernel_rfl) (by kernel_rfl) (by kernel_rfl) (by kernel_rfl) (fun K hK => ?_)
  go_simp
  first | (refine hK _ ?_; clear hK K) | (apply Exists.intro; refine ⟨fun x => ?_, hK _ ?_⟩; (fail); clear hK K)
  refine Mix.all (rs := [3]) (by kernel_rfl) (by simp) (Mix.over_of (by (repeat (first | assumption | exact Below.refl _ _ | refine ba ?_ _ | refine bd ?_ | refine bdn ?_ _ | refine bs ?_ (by first | omega | (simp; done) | (simp; omega)) _ | refine bt ?_ (by assumption))))) ?_
  intro i4 hi4 w4 hb4 hC4
  clear hC4
  have hs4 : w3.heap.size + 0 ≤ w4.heap.size := (by have h := hb4.size; first | omega | (simp at h; omega))
  have hb3_4 := bel hb3 hb4 (by (repeat (first | assumption | exact Below.refl _ _ | refine ba ?_ _ | refine bd ?_ | refine bdn ?_ _ | refine bs ?_ (by first | omega | (simp; done) | (simp; omega)) _ | refine bt ?_ (by assumption))))
  obtain ⟨hc3_4, hf3_4, hl3_4⟩ := bcell hb3_4
  clear hl3_4
  have hz4_0 : w.heap.size < w4.heap.size := (by omega)
  have hz4_1 : w.heap.size + 1 < w4.heap.size := (by omega)
  obtain ⟨hc4, hf4, hl4⟩ := bcell hb4
  clear hl4
  simp only [List.mem_cons, List.not_mem_nil, or_false] at hi4
  subst hi4
  refine Mix.op rfl (by kernel_rfl) ?_
  go_simp
  refine (digits_one' _ wd1 _).mono ?_
  rintro e w5 ⟨v5, rfl, hv5, hb5⟩
  refine ⟨_, rfl, ?_⟩
  have hs5 : w4.heap.size + 0 ≤ w5.heap.size := (by have h := hb5.size; first | omega | (simp at h; omega))
  have hb3_5 := bel hb3_4 hb5 (by (repeat (first | assumption | exact Below.refl _ _ | refine ba ?_ _ | refine bd ?_ | refine bdn ?_ _ | refine bs ?_ (by first | omega | (simp; done) | (simp; omega)) _ | refine bt ?_ (by assumption))))
  have hb4_5 := bel hb4 hb5 (by (repeat (first | assumption | exact Below.refl _ _ | refine ba ?_ _ | refine bd ?_ | refine bdn ?_ _ | refine bs ?_ (by first | omega | (simp; done) | (simp; omega)) _ | refine bt ?_ (by assumption))))
  clear hc3_4 hf3_4 hz4_0 hz4_1 hc4 hf4
  obtain ⟨hc3_5, hf3_5, hl3_5⟩ := bcell hb3_5
  clear hl3_5
  have hz5_0 : w.heap.size < w5.heap.size := (by omega)
  have hz5_1 : w.heap.size + 1 < w5.heap.size := (by omega)
  obtain ⟨hc5, hf5, hl5⟩ := bcell hb5
  clear hl5
  refine Mix.all (rs := [7]) (by kernel_rfl) (by simp) (Mix.over_of (by (repeat (first | assumption | exact Below.refl _ _ | refine ba ?_ _ | refine bd ?_ | refine bdn ?_ _ | refine bs ?_ (by first | omega | (simp; done) | (simp; omega)) _ | refine bt ?_ (by assumption))))) ?_
  intro i6 hi6 w6 hb6 hC6
  clear hC6
  have hs6 : w5.heap.size + 0 ≤ w6.heap.size := (by have h := hb6.size; first | omega | (simp at h; omega))
  have hb3_6 := bel hb3_5 hb6 (by (repeat (first | assumption | exact Below.refl _ _ | refine ba ?_ _ | refine bd ?_ | refine bdn ?_ _ | refine bs ?_ (by first | omega | (simp; done) | (simp; omega)) _ | refine bt ?_ (by assumption))))
  have hb4_6 := bel hb4_5 hb6 (by (repeat (first | assumption | exact Below.refl _ _ | refine ba ?_ _ | refine bd ?_ | refine bdn ?_ _ | refine bs ?_ (by first | omega | (simp; done) | (simp; omega)) _ | refine bt ?_ (by assumption))))
  have hb5_6 := bel hb5 hb6 (by (repeat (first | assumption | exact Below.refl _ _ | refine ba ?_ _ | refine bd ?_ | refine bdn ?_ _ | refine bs ?_ (by first | omega | (simp; done) | (simp; omega)) _ | refine bt ?_ (by assumption))))
  clear hc3_5 hf3_5 hz5_0 hz5_1 hc5 hf5
  obtain ⟨hc3_6, hf3_6, hl3_6⟩ := bcell hb3_6
  clear hl3_6
  have hz6_0 : w.heap.size < w6.heap.size := (by omega)
  have hz6_1 : w.heap.size + 1 < w6.heap.size := (by omega)
  obtain ⟨hc6, hf6, hl6⟩ := bcell hb6
  clear hl6
  simp only [List.mem_cons, List.not_mem_nil, or_false] at hi6
  subst hi6
  refine Mix.op rfl (by kernel_rfl) ?_
  go_simp
  refine (digits_one' _ wd4 _).mono ?_
  rintro e w7 ⟨v7, rfl, hv7, hb7⟩
  refine ⟨_, rfl, ?_⟩
  have hs7 : w6.heap.size + 0 ≤ w7.heap.size := (by have h := hb7.size; first | omega | (simp at h; omega))
  have hb3_7 := bel hb3_6 hb7 (by (repeat (first | assumption | exact Below.refl _ _ | refine ba ?_ _ | refine bd ?_ | refine bdn ?_ _ | refine bs ?_ (by first | omega | (simp; done) | (simp; omega)) _ | refine bt ?_ (by assumption))))
  have hb4_7 := bel hb4_6 hb7 (by (repeat (first | assumption | exact Below.refl _ _ | refine ba ?_ _ | refine bd ?_ | refine bdn ?_ _ | refine bs ?_ (by first | omega | (simp; done) | (simp; omega)) _ | refine bt ?_ (by assumption))))
  have hb5_7 := bel hb5_6 hb7 (by (repeat (first | assumption | exact Below.refl _ _ | refine ba ?_ _ | refine bd ?_ | refine bdn ?_ _ | refine bs ?_ (by first | omega | (simp; done) | (simp; omega)) _ | refine bt ?_ (by assumption))))
  have hb6_7 := bel hb6 hb7 (by (repeat (first | assumption | exact Below.refl _ _ | refine ba ?_ _ | refine bd ?_ | refine bdn ?_ _ | refine bs ?_ (by first | omega | (simp; done) | (simp; omega)) _ | refine bt ?_ (by assumption))))
  clear hc3_6 hf3_6 hz6_0 hz6_1 hc6 hf6
  obtain ⟨hc3_7, hf3_7, hl3_7⟩ := bcell hb3_7
  clear hl3_7
  have hz7_0 : w.heap.size < w7.heap.size := (by omega)
  have hz7_1 : w.heap.size + 1 < w7.heap.size := (by omega)
  obtain ⟨hc7, hf7, hl7⟩ := bcell hb7
  clear hl7
  refine Mix.all (rs := [8]) (by kernel_rfl) (by simp) (Mix.over_of (by (repeat (first | assumption | exact Below.refl _ _ | refine ba ?_ _ | refine bd ?_ | refine bdn ?_ _ | refine bs ?_ (by first | omega | (simp; done) | (simp; omega)) _ | refine bt ?_ (by assumption))))) ?_
  intro i8 hi8 w8 hb8 hC8
  clear hC8
  have hs8 : w7.heap.size + 0 ≤ w8.heap.size := (by have h := hb8.size; first | omega | (simp at h; omega))
  have hb3_8 := bel hb3_7 hb8 (by (repeat (first | assumption | exact Below.refl _ _ | refine ba ?_ _ | refine bd ?_ | refine bdn ?_ _ | refine bs ?_ (by first | omega | (simp; done) | (simp; omega)) _ | refine bt ?_ (by assumption))))
  have hb4_8 := bel hb4_7 hb8 (by (repeat (first | assumption | exact Below.refl _ _ | refine ba ?_ _ | refine bd ?_ | refine bdn ?_ _ | refine bs ?_ (by first | omega | (simp; done) | (simp; omega)) _ | refine bt ?_ (by assumption))))
  have hb5_8 := bel hb5_7 hb8 (by (repeat (first | assumption | exact Below.refl _ _ | refine ba ?_ _ | refine bd ?_ | refine bdn ?_ _ | refine bs ?_ (by first | omega | (simp; done) | (simp; omega)) _ | refine bt ?_ (by assumption))))
  have hb6_8 := bel hb6_7 hb8 (by (repeat (first | assumption | exact Below.refl _ _ | refine ba ?_ _ | refine bd ?_ | refine bdn ?_ _ | refine bs ?_ (by first | omega | (simp; done) | (simp; omega)) _ | refine bt ?_ (by assumption))))
  have hb7_8 := bel hb7 hb8 (by (repeat (first | assumption | exact Below.refl _ _ | refine ba ?_ _ | refine bd ?_ | refine bdn ?_ _ | refine bs ?_ (by first | omega | (simp; done) | (simp; omega)) _ | refine bt ?_ (by assumption))))
  clear hc3_7 hf3_7 hz7_0 hz7_1 hc7 hf7
  obtain ⟨hc3_8, hf3_8, hl3_8⟩ := bcell hb3_8
  clear hl3_8
  have hz8_0 : w.heap.size < w8.heap.size := (by omega)
  have hz8_1 : w.heap.size + 1 < w8.heap.size := (by omega)
  obtain ⟨hc8, hf8, hl8⟩ := bcell hb8
  clear hl8
  simp only [List.mem_cons, List.not_mem_nil, or_false] at hi8
  subst hi8
  refine Mix.op rfl (by kernel_rfl) ?_
  go_simp
  refine (prod_words wd1 wd4 _ _ _ (hv5.grow hb6_8) (hv7.grow hb8)).mono ?_
  rintro e w9 ⟨v9, rfl, hv9, hb9⟩
  refine ⟨_, rfl, ?_⟩
  have hs9 : w8.heap.size + 0 ≤ w9.heap.size := (by have h := hb9.size; first | omega | (simp at h; omega))
  have hb3_9 := bel hb3_8 hb9 (by (repeat (first | assumption | exact Below.refl _ _ | refine ba ?_ _ | refine bd ?_ | refine bdn ?_ _ | refine bs ?_ (by first | omega | (simp; done) | (simp; omega)) _ | refine bt ?_ (by assumption))))
  have hb4_9 := bel hb4_8 hb9 (by (repeat (first | assumption | exact Below.refl _ _ | refine ba ?_ _ | refine bd ?_ | refine bdn ?_ _ | refine bs ?_ (by first | omega | (simp; done) | (simp; omega)) _ | refine bt ?_ (by assumption))))
  have hb5_9 := bel hb5_8 hb9 (by (repeat (first | assumption | exact Below.refl _ _ | refine ba ?_ _ | refine bd ?_ | refine bdn ?_ _ | refine bs ?_ (by first | omega | (simp; done) | (simp; omega)) _ | refine bt ?_ (by assumption))))
  have hb6_9 := bel hb6_8 hb9 (by (repeat (first | assumption | exact Below.refl _ _ | refine ba ?_ _ | refine bd ?_ | refine bdn ?_ _ | refine bs ?_ (by first | omega | (simp; done) | (simp; omega)) _ | refine bt ?_ (by assumption))))
  have hb7_9 := bel hb7_8 hb9 (by (repeat (first | assumption | exact Below.refl _ _ | refine ba ?_ _ | refine bd ?_ | refine bdn ?_ _ | refine bs ?_ (by first | omega | (simp; done) | (simp; omega)) _ | refine bt ?_ (by assumption))))
  have hb8_9 := bel hb8 hb9 (by (repeat (first | assumption | exact Below.refl _ _ | refine ba ?_ _ | refine bd ?_ | refine bdn ?_ _ | refine bs ?_ (by first | omega | (simp; done) | (simp; omega)) _ | refine bt ?_ (by assumption))))
  clear hc3_8 hf3_8 hz8_0 hz8_1 hc8 hf8
  obtain ⟨hc3_9, hf3_9, hl3_9⟩ := bcell hb3_9
  clear hl3_9
  have hz9_0 : w.heap.size < w9.heap.size := (by omega)
  have hz9_1 : w.heap.size + 1 < w9.heap.size := (by omega)
  obtain ⟨hc9, hf9, hl9⟩ := bcell hb9
  clear hl9
  refine Mix.take_ex (_) 9 rfl (by kernel_rfl) (by kernel_rfl) (by kernel_rfl) (by kernel_rfl) (fun K hK => ?_)
  go_simp
  first | (refine hK _ ?_; clear hK K) | (apply Exists.intro; refine ⟨fun x => ?_, hK _ ?_⟩; (fail); clear hK K)
  refine Mix.done (by kernel_rfl) (Mix.over_of (by (repeat (first | assumption | exact Below.refl _ _ | refine ba ?_ _ | refine bd ?_ | refine bdn ?_ _ | refine bs ?_ (by first | omega | (simp; done) | (simp; omega)) _ | refine bt ?_ (by assumption))))) ?_
  intro w10 hb10
  have hs10 : w9.heap.size + 0 ≤ w10.heap.size := (by have h := hb10.size; first | omega | (simp at h; omega))
  have hb3_10 := bel hb3_9 hb10 (by (repeat (first | assumption | exact Below.refl _ _ | refine ba ?_ _ | refine bd ?_ | refine bdn ?_ _ | refine bs ?_ (by first | omega | (simp; done) | (simp; omega)) _ | refine bt ?_ (by assumption))))
  have hb4_10 := bel hb4_9 hb10 (by (repeat (first | assumption | exact Below.refl _ _ | refine ba ?_ _ | refine bd ?_ | refine bdn ?_ _ | refine bs ?_ (by first | omega | (simp; done) | (simp; omega)) _ | refine bt ?_ (by assumption))))
  have hb5_10 := bel hb5_9 hb10 (by (repeat (first | assumption | exact Below.refl _ _ | refine ba ?_ _ | refine bd ?_ | refine bdn ?_ _ | refine bs ?_ (by first | omega | (simp; done) | (simp; omega)) _ | refine bt ?_ (by assumption))))
  have hb6_10 := bel hb6_9 hb10 (by (repeat (first | assumption | exact Below.refl _ _ | refine ba ?_ _ | refine bd ?_ | refine bdn ?_ _ | refine bs ?_ (by first | omega | (simp; done) | (simp; omega)) _ | refine bt ?_ (by assumption))))
  have hb7_10 := bel hb7_9 hb10 (by (repeat (first | assumption | exact Below.refl _ _ | refine ba ?_ _ | refine bd ?_ | refine bdn ?_ _ | refine bs ?_ (by first | omega | (simp; done) | (simp; omega)) _ | refine bt ?_ (by assumption))))
  have hb8_10 := bel hb8_9 hb10 (by (repeat (first | assumption | exact Below.refl _ _ | refine ba ?_ _ | refine bd ?_ | refine bdn ?_ _ | refine bs ?_ (by first | omega | (simp; done) | (simp; omega)) _ | refine bt ?_ (by assumption))))
  have hb9_10 := bel hb9 hb10 (by (repeat (first | assumption | exact Below.refl _ _ | refine ba ?_ _ | refine bd ?_ | refine bdn ?_ _ | refine bs ?_ (by first | omega | (simp; done) | (simp; omega)) _ | refine bt ?_ (by assumption))))
  clear hc3_9 hf3_9 hz9_0 hz9_1 hc9 hf9
  obtain ⟨hc3_10, hf3_10, hl3_10⟩ := bcell hb3_10
  clear hl3_10
  have hz10_0 : w.heap.size < w10.heap.size := (by omega)
  have hz10_1 : w.heap.size + 1 < w10.heap.size := (by omega)
  obtain ⟨hc10, hf10, hl10⟩ := bcell hb10
  clear hl10
  go_wp2_with fail
  refine Mix.region0 (by kernel_rfl) ?_
  intro w11 hb11
  have hs11 : w10.heap.size + 0 ≤ w11.heap.size := (by have h := hb11.size; first | omega | (simp at h; omega))
  have hz11_0 : w.heap.size < w11.heap.size := (by omega)
  have hz11_1 : w.heap.size + 1 < w11.heap.size := (by omega)
  have hy11_0_0 : w.heap.size ≤ w10.heap.size := (by omega)
  have hy11_1_0 : w.heap.size + 1 ≤ w10.heap.size := (by omega)
  obtain ⟨hc11, hf11, hl11⟩ := bcell hb11
  clear hl11
  refine Mix.take_ex (_) 0 rfl (by kernel_rfl) (by kernel_rfl) (by kernel_rfl) (by kernel_rfl) (fun K hK => ?_)
  go_simp
  first | (refine hK _ ?_; clear hK K) | (apply Exists.intro; refine ⟨fun x => ?_, hK _ ?_⟩; (fail); clear hK K)
  refine Mix.take_ex (_) 1 rfl (by kernel_rfl) (by kernel_rfl) (by kernel_rfl) (by kernel_rfl) (fun K hK => ?_)
  go_simp
  first | (refine hK _ ?_; clear hK K) | (apply Exists.intro; refine ⟨fun x => ?_, hK _ ?_⟩; (fail); clear hK K)
  refine Mix.take_ex (_) 2 rfl (by kernel_rfl) (by kernel_rfl) (by kernel_rfl) (by kernel_rfl) (fun K hK => ?_)
  go_simp
  first | (refine hK _ ?_; clear hK K) | (apply Exists.intro; refine ⟨fun x => ?_, hK _ ?_⟩; (fail); clear hK K)
  refine Mix.take_ex (_) 4 rfl (by kernel_rfl) (by kernel_rfl) (by kernel_rfl) (by kernel_rfl) (fun K hK => ?_)
  go_simp
  first | (refine hK _ ?_; clear hK K) | (apply Exists.intro; refine ⟨fun x => ?_, hK _ ?_⟩; (fail); clear hK K)
  refine Mix.take_ex (_) 5 rfl (by kernel_rfl) (by kernel_rfl) (by kernel_rfl) (by kernel_rfl) (fun K hK => ?_)
  go_simp
  first | (refine hK _ ?_; clear hK K) | (apply Exists.intro; refine ⟨fun x => ?_, hK _ ?_⟩; (fail); clear hK K)
  refine Mix.take_ex (_) 6 rfl (by kernel_rfl) (by kernel_rfl) (by kernel_rfl) (by kernel_rfl) (fun K hK => ?_)
  go_simp
  first | (refine hK _ ?_; clear hK K) | (apply Exists.intro; refine ⟨fun x => ?_, hK _ ?_⟩; (fail); clear hK K)
  refine Mix.all (rs := [3]) (by kernel_rfl) (by simp) (Mix.over_of (by (repeat (first | assumption | exact Below.refl _ _ | refine ba ?_ _ | refine bd ?_ | refine bdn ?_ _ | refine bs ?_ (by first | omega | (simp; done) | (simp; omega)) _ | refine bt ?_ (by assumption))))) ?_
  intro i12 hi12 w12 hb12 hC12
  clear hC12
  have hs12 : w11.heap.size + 0 ≤ w12.heap.size := (by have h := hb12.size; first | omega | (simp at h; omega))
  have hb11_12 := bel hb11 hb12 (by (repeat (first | assumption | exact Below.refl _ _ | refine ba ?_ _ | refine bd ?_ | refine bdn ?_ _ | refine bs ?_ (by first | omega | (simp; done) | (simp; omega)) _ | refine bt ?_ (by assumption))))
  obtain ⟨hc11_12, hf11_12, hl11_12⟩ := bcell hb11_12
  clear hl11_12
  have hz12_0 : w.heap.size < w12.heap.size := (by omega)
  have hz12_1 : w.heap.size + 1 < w12.heap.size := (by omega)
  obtain ⟨hc12, hf12, hl12⟩ := bcell hb12
  clear hl12
  simp only [List.mem_cons, List.not_mem_nil, or_false] at hi12
  subst hi12
  refine Mix.op rfl (by kernel_rfl) ?_
  go_simp
  refine (digits_one' _ wd3 _).mono ?_
  rintro e w13 ⟨v13, rfl, hv13, hb13⟩
  refine ⟨_, rfl, ?_⟩
  have hs13 : w12.heap.size + 0 ≤ w13.heap.size := (by have h := hb13.size; first | omega | (simp at h; omega))
  have hb11_13 := bel hb11_12 hb13 (by (repeat (first | assumption | exact Below.refl _ _ | refine ba ?_ _ | refine bd ?_ | refine bdn ?_ _ | refine bs ?_ (by first | omega | (simp; done) | (simp; omega)) _ | refine bt ?_ (by assumption))))
  have hb12_13 := bel hb12 hb13 (by (repeat (first | assumption | exact Below.refl _ _ | refine ba ?_ _ | refine bd ?_ | refine bdn ?_ _ | refine bs ?_ (by first | omega | (simp; done) | (simp; omega)) _ | refine bt ?_ (by assumption))))
  clear hc11_12 hf11_12 hz12_0 hz12_1 hc12 hf12
  obtain ⟨hc11_13, hf11_13, hl11_13⟩ := bcell hb11_13
  clear hl11_13
  have hz13_0 : w.heap.size < w13.heap.size := (by omega)
  have hz13_1 : w.heap.size + 1 < w13.heap.size := (by omega)
  obtain ⟨hc13, hf13, hl13⟩ := bcell hb13
  clear hl13
  refine Mix.all (rs := [7]) (by kernel_rfl) (by simp) (Mix.over_of (by (repeat (first | assumption | exact Below.refl _ _ | refine ba ?_ _ | refine bd ?_ | refine bdn ?_ _ | refine bs ?_ (by first | omega | (simp; done) | (simp; omega)) _ | refine bt ?_ (by assumption))))) ?_
  intro i14 hi14 w14 hb14 hC14
  clear hC14
  have hs14 : w13.heap.size + 0 ≤ w14.heap.size := (by have h := hb14.size; first | omega | (simp at h; omega))
  have hb11_14 := bel hb11_13 hb14 (by (repeat (first | assumption | exact Below.refl _ _ | refine ba ?_ _ | refine bd ?_ | refine bdn ?_ _ | refine bs ?_ (by first | omega | (simp; done) | (simp; omega)) _ | refine bt ?_ (by assumption))))
  have hb12_14 := bel hb12_13 hb14 (by (repeat (first | assumption | exact Below.refl _ _ | refine ba ?_ _ | refine bd ?_ | refine bdn ?_ _ | refine bs ?_ (by first | omega | (simp; done) | (simp; omega)) _ | refine bt ?_ (by assumption))))
  have hb13_14 := bel hb13 hb14 (by (repeat (first | assumption | exact Below.refl _ _ | refine ba ?_ _ | refine bd ?_ | refine bdn ?_ _ | refine bs ?_ (by first | omega | (simp; done) | (simp; omega)) _ | refine bt ?_ (by assumption))))
  clear hc11_13 hf11_13 hz13_0 hz13_1 hc13 hf13
  obtain ⟨hc11_14, hf11_14, hl11_14⟩ := bcell hb11_14
  clear hl11_14
  have hz14_0 : w.heap.size < w14.heap.size := (by omega)
  have hz14_1 : w.heap.size + 1 < w14.heap.size := (by omega)
  obtain ⟨hc14, hf14, hl14⟩ := bcell hb14
  clear hl14
  simp only [List.mem_cons, List.not_mem_nil, or_false] at hi14
  subst hi14
  refine Mix.op rfl (by kernel_rfl) ?_
  go_simp
  refine (digits_one' _ wd2 _).mono ?_
  rintro e w15 ⟨v15, rfl, hv15, hb15⟩
  refine ⟨_, rfl, ?_⟩
  have hs15 : w14.heap.size + 0 ≤ w15.heap.size := (by have h := hb15.size; first | omega | (simp at h; omega))
  have hb11_15 := bel hb11_14 hb15 (by (repeat (first | assumption | exact Below.refl _ _ | refine ba ?_ _ | refine bd ?_ | refine bdn ?_ _ | refine bs ?_ (by first | omega | (simp; done) | (simp; omega)) _ | refine bt ?_ (by assumption))))
  have hb12_15 := bel hb12_14 hb15 (by (repeat (first | assumption | exact Below.refl _ _ | refine ba ?_ _ | refine bd ?_ | refine bdn ?_ _ | refine bs ?_ (by first | omega | (simp; done) | (simp; omega)) _ | refine bt ?_ (by assumption))))
  have hb13_15 := bel hb13_14 hb15 (by (repeat (first | assumption | exact Below.refl _ _ | refine ba ?_ _ | refine bd ?_ | refine bdn ?_ _ | refine bs ?_ (by first | omega | (simp; done) | (simp; omega)) _ | refine bt ?_ (by assumption))))
  have hb14_15 := bel hb14 hb15 (by (repeat (first | assumption | exact Below.refl _ _ | refine ba ?_ _ | refine bd ?_ | refine bdn ?_ _ | refine bs ?_ (by first | omega | (simp; done) | (simp; omega)) _ | refine bt ?_ (by assumption))))
  clear hc11_14 hf11_14 hz14_0 hz14_1 hc14 hf14
  obtain ⟨hc11_15, hf11_15, hl11_15⟩ := bcell hb11_15
  clear hl11_15
  have hz15_0 : w.heap.size < w15.heap.size := (by omega)
  have hz15_1 : w.heap.size + 1 < w15.heap.size := (by omega)
  obtain ⟨hc15, hf15, hl15⟩ := bcell hb15
  clear hl15
  refine Mix.all (rs := [8]) (by kernel_rfl) (by simp) (Mix.over_of (by (repeat (first | assumption | exact Below.refl _ _ | refine ba ?_ _ | refine bd ?_ | refine bdn ?_ _ | refine bs ?_ (by first | omega | (simp; done) | (simp; omega)) _ | refine bt ?_ (by assumption))))) ?_
  intro i16 hi16 w16 hb16 hC16
  clear hC16
  have hs16 : w15.heap.size + 0 ≤ w16.heap.size := (by have h := hb16.size; first | omega | (simp at h; omega))
  have hb11_16 := bel hb11_15 hb16 (by (repeat (first | assumption | exact Below.refl _ _ | refine ba ?_ _ | refine bd ?_ | refine bdn ?_ _ | refine bs ?_ (by first | omega | (simp; done) | (simp; omega)) _ | refine bt ?_ (by assumption))))
  have hb12_16 := bel hb12_15 hb16 (by (repeat (first | assumption | exact Below.refl _ _ | refine ba ?_ _ | refine bd ?_ | refine bdn ?_ _ | refine bs ?_ (by first | omega | (simp; done) | (simp; omega)) _ | refine bt ?_ (by assumption))))
  have hb13_16 := bel hb13_15 hb16 (by (repeat (first | assumption | exact Below.refl _ _ | refine ba ?_ _ | refine bd ?_ | refine bdn ?_ _ | refine bs ?_ (by first | omega | (simp; done) | (simp; omega)) _ | refine bt ?_ (by assumption))))
  have hb14_16 := bel hb14_15 hb16 (by (repeat (first | assumption | exact Below.refl _ _ | refine ba ?_ _ | refine bd ?_ | refine bdn ?_ _ | refine bs ?_ (by first | omega | (simp; done) | (simp; omega)) _ | refine bt ?_ (by assumption))))
  have hb15_16 := bel hb15 hb16 (by (repeat (first | assumption | exact Below.refl _ _ | refine ba ?_ _ | refine bd ?_ | refine bdn ?_ _ | refine bs ?_ (by first | omega | (simp; done) | (simp; omega)) _ | refine bt ?_ (by assumption))))
  clear hc11_15 hf11_15 hz15_0 hz15_1 hc15 hf15
  obtain ⟨hc11_16, hf11_16, hl11_16⟩ := bcell hb11_16
  clear hl11_16
  have hz16_0 : w.heap.size < w16.heap.size := (by omega)
  have hz16_1 : w.heap.size + 1 < w16.heap.size := (by omega)
  obtain ⟨hc16, hf16, hl16⟩ := bcell hb16
  clear hl16
  simp only [List.mem_cons, List.not_mem_nil, or_false] at hi16
  subst hi16
  refine Mix.op rfl (by kernel_rfl) ?_
  go_simp
  refine (prod_words wd3 wd2 _ _ _ (hv13.grow hb14_16) (hv15.grow hb16)).mono ?_
  rintro e w17 ⟨v17, rfl, hv17, hb17⟩
  refine ⟨_, rfl, ?_⟩
  have hs17 : w16.heap.size + 0 ≤ w17.heap.size := (by have h := hb17.size; first | omega | (simp at h; omega))
  have hb11_17 := bel hb11_16 hb17 (by (repeat (first | assumption | exact Below.refl _ _ | refine ba ?_ _ | refine bd ?_ | refine bdn ?_ _ | refine bs ?_ (by first | omega | (simp; done) | (simp; omega)) _ | refine bt ?_ (by assumption))))
  have hb12_17 := bel hb12_16 hb17 (by (repeat (first | assumption | exact Below.refl _ _ | refine ba ?_ _ | refine bd ?_ | refine bdn ?_ _ | refine bs ?_ (by first | omega | (simp; done) | (simp; omega)) _ | refine bt ?_ (by assumption))))
  have hb13_17 := bel hb13_16 hb17 (by (repeat (first | assumption | exact Below.refl _ _ | refine ba ?_ _ | refine bd ?_ | refine bdn ?_ _ | refine bs ?_ (by first | omega | (simp; done) | (simp; omega)) _ | refine bt ?_ (by assumption))))
  have hb14_17 := bel hb14_16 hb17 (by (repeat (first | assumption | exact Below.refl _ _ | refine ba ?_ _ | refine bd ?_ | refine bdn ?_ _ | refine bs ?_ (by first | omega | (simp; done) | (simp; omega)) _ | refine bt ?_ (by assumption))))
  have hb15_17 := bel hb15_16 hb17 (by (repeat (first | assumption | exact Below.refl _ _ | refine ba ?_ _ | refine bd ?_ | refine bdn ?_ _ | refine bs ?_ (by first | omega | (simp; done) | (simp; omega)) _ | refine bt ?_ (by assumption))))
  have hb16_17 := bel hb16 hb17 (by (repeat (first | assumption | exact Below.refl _ _ | refine ba ?_ _ | refine bd ?_ | refine bdn ?_ _ | refine bs ?_ (by first | omega | (simp; done) | (simp; omega)) _ | refine bt ?_ (by assumption))))
  clear hc11_16 hf11_16 hz16_0 hz16_1 hc16 hf16
  obtain ⟨hc11_17, hf11_17, hl11_17⟩ := bcell hb11_17
  clear hl11_17
  have hz17_0 : w.heap.size < w17.heap.size := (by omega)
  have hz17_1 : w.heap.size + 1 < w17.heap.size := (by omega)
  obtain ⟨hc17, hf17, hl17⟩ := bcell hb17
  clear hl17
  refine Mix.take_ex (_) 9 rfl (by kernel_rfl) (by kernel_rfl) (by kernel_rfl) (by kernel_rfl) (fun K hK => ?_)
  go_simp
  first | (refine hK _ ?_; clear hK K) | (apply Exists.intro; refine ⟨fun x => ?_, hK _ ?_⟩; (fail); clear hK K)
  refine Mix.done (by kernel_rfl) (Mix.over_of (by (repeat (first | assumption | exact Below.refl _ _ | refine ba ?_ _ | refine bd ?_ | refine bdn ?_ _ | refine bs ?_ (by first | omega | (simp; done) | (simp; omega)) _ | refine bt ?_ (by assumption))))) ?_
  intro w18 hb18
  have hs18 : w17.heap.size + 0 ≤ w18.heap.size := (by have h := hb18.size; first | omega | (simp at h; omega))
  have hb11_18 := bel hb11_17 hb18 (by (repeat (first | assumption | exact Below.refl _ _ | refine ba ?_ _ | refine bd ?_ | refine bdn ?_ _ | refine bs ?_ (by first | omega | (simp; done) | (simp; omega)) _ | refine bt ?_ (by assumption))))
  have hb12_18 := bel hb12_17 hb18 (by (repeat (first | assumption | exact Below.refl _ _ | refine ba ?_ _ | refine bd ?_ | refine bdn ?_ _ | refine bs ?_ (by first | omega | (simp; done) | (simp; omega)) _ | refine bt ?_ (by assumption))))
  have hb13_18 := bel hb13_17 hb18 (by (repeat (first | assumption | exact Below.refl _ _ | refine ba ?_ _ | refine bd ?_ | refine bdn ?_ _ | refine bs ?_ (by first | omega | (simp; done) | (simp; omega)) _ | refine bt ?_ (by assumption))))
  have hb14_18 := bel hb14_17 hb18 (by (repeat (first | assumption | exact Below.refl _ _ | refine ba ?_ _ | refine bd ?_ | refine bdn ?_ _ | refine bs ?_ (by first | omega | (simp; done) | (simp; omega)) _ | refine bt ?_ (by assumption))))
  have hb15_18 := bel hb15_17 hb18 (by (repeat (first | assumption | exact Below.refl _ _ | refine ba ?_ _ | refine bd ?_ | refine bdn ?_ _ | refine bs ?_ (by first | omega | (simp; done) | (simp; omega)) _ | refine bt ?_ (by assumption))))
  have hb16_18 := bel hb16_17 hb18 (by (repeat (first | assumption | exact Below.refl _ _ | refine ba ?_ _ | refine bd ?_ | refine bdn ?_ _ | refine bs ?_ (by first | omega | (simp; done) | (simp; omega)) _ | refine bt ?_ (by assumption))))
  have hb17_18 := bel hb17 hb18 (by (repeat (first | assumption | exact Below.refl _ _ | refine ba ?_ _ | refine bd ?_ | refine bdn ?_ _ | refine bs ?_ (by first | omega | (simp; done) | (simp; omega)) _ | refine bt ?_ (by assumption))))
  clear hc11_17 hf11_17 hz17_0 hz17_1 hc17 hf17
  obtain ⟨hc11_18, hf11_18, hl11_18⟩ := bcell hb11_18
  clear hl11_18
  have hz18_0 : w.heap.size < w18.heap.size := (by omega)
  have hz18_1 : w.heap.size + 1 < w18.heap.size := (by omega)
  obtain ⟨hc18, hf18, hl18⟩ := bcell hb18
  clear hl18
  go_wp2_with fail
  have hx := (hv9.grow hb10).grow hb11_18
  have hy := hv17.grow hb18
  have hl := less_any 16 (by decide) (by decide) _ _ P1.out.1 P1.out.2 P2.out.1 P2.out.2 _ _ _ hx hy
  by_cases hlt : an * bd < bn * ad
  · rw [decide_eq_true hlt] at hl
    have hr : rcmp an ad bn bd = -1 := by unfold rcmp cmpI; rw [if_pos hlt]
    have HL := Lib.hid hl
    have HR := Lib.hid hr
    clear hl hr hlt hx hy
    (with_reducible refine (HL.out).mono ?_)
    rintro e w19 ⟨rfl, hb19⟩
    have hs19 : w18.heap.size + 0 ≤ w19.heap.size := (by have h := hb19.size; first | omega | (simp at h; omega))
    have hb11_19 := bel hb11_18 hb19 (by (repeat (first | assumption | exact Below.refl _ _ | refine ba ?_ _ | refine bd ?_ | refine bdn ?_ _ | refine bs ?_ (by first | omega | (simp; done) | (simp; omega)) _ | refine bt ?_ (by assumption))))
    have hb12_19 := bel hb12_18 hb19 (by (repeat (first | assumption | exact Below.refl _ _ | refine ba ?_ _ | refine bd ?_ | refine bdn ?_ _ | refine bs ?_ (by first | omega | (simp; done) | (simp; omega)) _ | refine bt ?_ (by assumption))))
    have hb13_19 := bel hb13_18 hb19 (by (repeat (first | assumption | exact Below.refl _ _ | refine ba ?_ _ | refine bd ?_ | refine bdn ?_ _ | refine bs ?_ (by first | omega | (simp; done) | (simp; omega)) _ | refine bt ?_ (by assumption))))
    have hb14_19 := bel hb14_18 hb19 (by (repeat (first | assumption | exact Below.refl _ _ | refine ba ?_ _ | refine bd ?_ | refine bdn ?_ _ | refine bs ?_ (by first | omega | (simp; done) | (simp; omega)) _ | refine bt ?_ (by assumption))))
    have hb15_19 := bel hb15_18 hb19 (by (repeat (first | assumption | exact Below.refl _ _ | refine ba ?_ _ | refine bd ?_ | refine bdn ?_ _ | refine bs ?_ (by first | omega | (simp; done) | (simp; omega)) _ | refine bt ?_ (by assumption))))
    have hb16_19 := bel hb16_18 hb19 (by (repeat (first | assumption | exact Below.refl _ _ | refine ba ?_ _ | refine bd ?_ | refine bdn ?_ _ | refine bs ?_ (by first | omega | (simp; done) | (simp; omega)) _ | refine bt ?_ (by assumption))))
    have hb17_19 := bel hb17_18 hb19 (by (repeat (first | assumption | exact Below.refl _ _ | refine ba ?_ _ | refine bd ?_ | refine bdn ?_ _ | refine bs ?_ (by first | omega | (simp; done) | (simp; omega)) _ | refine bt ?_ (by assumption))))
    have hb18_19 := bel hb18 hb19 (by (repeat (first | assumption | exact Below.refl _ _ | refine ba ?_ _ | refine bd ?_ | refine bdn ?_ _ | refine bs ?_ (by first | omega | (simp; done) | (simp; omega)) _ | refine bt ?_ (by assumption))))
    clear hc11_18 hf11_18 hz18_0 hz18_1 hc18 hf18
    obtain ⟨hc11_19, hf11_19, hl11_19⟩ := bcell hb11_19
    clear hl11_19
    have hz19_0 : w.heap.size < w19.heap.size := (by omega)
    have hz19_1 : w.heap.size + 1 < w19.heap.size := (by omega)
    obtain ⟨hc19, hf19, hl19⟩ := bcell hb19
    clear hl19
    go_wp2
    go_ret
    refine ⟨by rw [HR.out]; rfl, ?_⟩
    (repeat (first | assumption | exact Below.refl _ _ | refine ba ?_ _ | refine bd ?_ | refine bdn ?_ _ | refine bs ?_ (by first | omega | (simp; done) | (simp; omega)) _ | refine bt ?_ (by assumption)))
  · rw [decide_eq_false hlt] at hl
    have HL := Lib.hid hl
    clear hl
    have HX := Lib.hid hx
    have HY := Lib.hid hy
    clear hx hy
    (with_reducible refine (HL.out).mono ?_)
    rintro e w19 ⟨rfl, hb19⟩
    have hs19 : w18.heap.size + 0 ≤ w19.heap.size := (by have h := hb19.size; first | omega | (simp at h; omega))
    have hb11_19 := bel hb11_18 hb19 (by (repeat (first | assumption | exact Below.refl _ _ | refine ba ?_ _ | refine bd ?_ | refine bdn ?_ _ | refine bs ?_ (by first | omega | (simp; done) | (simp; omega)) _ | refine bt ?_ (by assumption))))
    have hb12_19 := bel hb12_18 hb19 (by (repeat (first | assumption | exact Below.refl _ _ | refine ba ?_ _ | refine bd ?_ | refine bdn ?_ _ | refine bs ?_ (by first | omega | (simp; done) | (simp; omega)) _ | refine bt ?_ (by assumption))))
    have hb13_19 := bel hb13_18 hb19 (by (repeat (first | assumption | exact Below.refl _ _ | refine ba ?_ _ | refine bd ?_ | refine bdn ?_ _ | refine bs ?_ (by first | omega | (simp; done) | (simp; omega)) _ | refine bt ?_ (by assumption))))
    have hb14_19 := bel hb14_18 hb19 (by (repeat (first | assumption | exact Below.refl _ _ | refine ba ?_ _ | refine bd ?_ | refine bdn ?_ _ | refine bs ?_ (by first | omega | (simp; done) | (simp; omega)) _ | refine bt ?_ (by assumption))))
    have hb15_19 := bel hb15_18 hb19 (by (repeat (first | assumption | exact Below.refl _ _ | refine ba ?_ _ | refine bd ?_ | refine bdn ?_ _ | refine bs ?_ (by first | omega | (simp; done) | (simp; omega)) _ | refine bt ?_ (by assumption))))
    have hb16_19 := bel hb16_18 hb19 (by (repeat (first | assumption | exact Below.refl _ _ | refine ba ?_ _ | refine bd ?_ | refine bdn ?_ _ | refine bs ?_ (by first | omega | (simp; done) | (simp; omega)) _ | refine bt ?_ (by assumption))))
    have hb17_19 := bel hb17_18 hb19 (by (repeat (first | assumption | exact Below.refl _ _ | refine ba ?_ _ | refine bd ?_ | refine bdn ?_ _ | refine bs ?_ (by first | omega | (simp; done) | (simp; omega)) _ | refine bt ?_ (by assumption))))
    have hb18_19 := bel hb18 hb19 (by (repeat (first | assumption | exact Below.refl _ _ | refine ba ?_ _ | refine bd ?_ | refine bdn ?_ _ | refine bs ?_ (by first | omega | (simp; done) | (simp; omega)) _ | refine bt ?_ (by assumption))))
    clear hc11_18 hf11_18 hz18_0 hz18_1 hc18 hf18
    obtain ⟨hc11_19, hf11_19, hl11_19⟩ := bcell hb11_19
    clear hl11_19
    have hz19_0 : w.heap.size < w19.heap.size := (by omega)
    have hz19_1 : w.heap.size + 1 < w19.heap.size := (by omega)
    obtain ⟨hc19, hf19, hl19⟩ := bcell hb19
    clear hl19
    have hl2 := less_any 16 (by decide) (by decide) _ _ P2.out.1 P2.out.2 P1.out.1 P1.out.2 _ _ _ (HY.out.grow hb19) (HX.out.grow hb19)
    by_cases hgt : bn * ad < an * bd
    · rw [decide_eq_true hgt] at hl2
      have hr : rcmp an ad bn bd = 1 := by unfold rcmp cmpI; rw [if_neg hlt, if_pos hgt]
      have HL2 := Lib.hid hl2
      have HR := Lib.hid hr
      clear hl2 hr hgt hlt
      go_wp2_with fail
      (with_reducible refine (HL2.out).mono ?_)
      rintro e w20 ⟨rfl, hb20⟩
      have hs20 : w19.heap.size + 0 ≤ w20.heap.size := (by have h := hb20.size; first | omega | (simp at h; omega))
      have hb11_20 := bel hb11_19 hb20 (by (repeat (first | assumption | exact Below.refl _ _ | refine ba ?_ _ | refine bd ?_ | refine bdn ?_ _ | refine bs ?_ (by first | omega | (simp; done) | (simp; omega)) _ | refine bt ?_ (by assumption))))
      have hb12_20 := bel hb12_19 hb20 (by (repeat (first | assumption | exact Below.refl _ _ | refine ba ?_ _ | refine bd ?_ | refine bdn ?_ _ | refine bs ?_ (by first | omega | (simp; done) | (simp; omega)) _ | refine bt ?_ (by assumption))))
      have hb13_20 := bel hb13_19 hb20 (by (repeat (first | assumption | exact Below.refl _ _ | refine ba ?_ _ | refine bd ?_ | refine bdn ?_ _ | refine bs ?_ (by first | omega | (simp; done) | (simp; omega)) _ | refine bt ?_ (by assumption))))
      have hb14_20 := bel hb14_19 hb20 (by (repeat (first | assumption | exact Below.refl _ _ | refine ba ?_ _ | refine bd ?_ | refine bdn ?_ _ | refine bs ?_ (by first | omega | (simp; done) | (simp; omega)) _ | refine bt ?_ (by assumption))))
      have hb15_20 := bel hb15_19 hb20 (by (repeat (first | assumption | exact Below.refl _ _ | refine ba ?_ _ | refine bd ?_ | refine bdn ?_ _ | refine bs ?_ (by first | omega | (simp; done) | (simp; omega)) _ | refine bt ?_ (by assumption))))
      have hb16_20 := bel hb16_19 hb20 (by (repeat (first | assumption | exact Below.refl _ _ | refine ba ?_ _ | refine bd ?_ | refine bdn ?_ _ | refine bs ?_ (by first | omega | (simp; done) | (simp; omega)) _ | refine bt ?_ (by assumption))))
      have hb17_20 := bel hb17_19 hb20 (by (repeat (first | assumption | exact Below.refl _ _ | refine ba ?_ _ | refine bd ?_ | refine bdn ?_ _ | refine bs ?_ (by first | omega | (simp; done) | (simp; omega)) _ | refine bt ?_ (by assumption))))
      have hb18_20 := bel hb18_19 hb20 (by (repeat (first | assumption | exact Below.refl _ _ | refine ba ?_ _ | refine bd ?_ | refine bdn ?_ _ | refine bs ?_ (by first | omega | (simp; done) | (simp; omega)) _ | refine bt ?_ (by assumption))))
      have hb19_20 := bel hb19 hb20 (by (repeat (first | assumption | exact Below.refl _ _ | refine ba ?_ _ | refine bd ?_ | refine bdn ?_ _ | refine bs ?_ (by first | omega | (simp; done) | (simp; omega)) _ | refine bt ?_ (by assumption))))
      clear hc11_19 hf11_19 hz19_0 hz19_1 hc19 hf19
      obtain ⟨hc11_20, hf11_20, hl11_20⟩ := bcell hb11_20
      clear hl11_20
      have hz20_0 : w.heap.size < w20.heap.size := (by omega)
      have hz20_1 : w.heap.size + 1 < w20.heap.size := (by omega)
      obtain ⟨hc20, hf20, hl20⟩ := bcell hb20
      clear hl20
      go_wp2
      go_ret
      refine ⟨by rw [HR.out]; rfl, ?_⟩
      (repeat (first | assumption | exact Below.refl _ _ | refine ba ?_ _ | refine bd ?_ | refine bdn ?_ _ | refine bs ?_ (by first | omega | (simp; done) | (simp; omega)) _ | refine bt ?_ (by assumption)))
    · rw [decide_eq_false hgt] at hl2
      have hr : rcmp an ad bn bd = 0 := by unfold rcmp cmpI; rw [if_neg hlt, if_neg hgt]
      have HL2 := Lib.hid hl2
      have HR := Lib.hid hr
      clear hl2 hr hgt hlt
      go_wp2_with fail
      (with_reducible refine (HL2.out).mono ?_)
      rintro e w20 ⟨rfl, hb20⟩
      have hs20 : w19.heap.size + 0 ≤ w20.heap.size := (by have h := hb20.size; first | omega | (simp at h; omega))
      have hb11_20 := bel hb11_19 hb20 (by (repeat (first | assumption | exact Below.refl _ _ | refine ba ?_ _ | refine bd ?_ | refine bdn ?_ _ | refine bs ?_ (by first | omega | (simp; done) | (simp; omega)) _ | refine bt ?_ (by assumption))))
      have hb12_20 := bel hb12_19 hb20 (by (repeat (first | assumption | exact Below.refl _ _ | refine ba ?_ _ | refine bd ?_ | refine bdn ?_ _ | refine bs ?_ (by first | omega | (simp; done) | (simp; omega)) _ | refine bt ?_ (by assumption))))
      have hb13_20 := bel hb13_19 hb20 (by (repeat (first | assumption | exact Below.refl _ _ | refine ba ?_ _ | refine bd ?_ | refine bdn ?_ _ | refine bs ?_ (by first | omega | (simp; done) | (simp; omega)) _ | refine bt ?_ (by assumption))))
      have hb14_20 := bel hb14_19 hb20 (by (repeat (first | assumption | exact Below.refl _ _ | refine ba ?_ _ | refine bd ?_ | refine bdn ?_ _ | refine bs ?_ (by first | omega | (simp; done) | (simp; omega)) _ | refine bt ?_ (by assumption))))
      have hb15_20 := bel hb15_19 hb20 (by (repeat (first | assumption | exact Below.refl _ _ | refine ba ?_ _ | refine bd ?_ | refine bdn ?_ _ | refine bs ?_ (by first | omega | (simp; done) | (simp; omega)) _ | refine bt ?_ (by assumption))))
      have hb16_20 := bel hb16_19 hb20 (by (repeat (first | assumption | exact Below.refl _ _ | refine ba ?_ _ | refine bd ?_ | refine bdn ?_ _ | refine bs ?_ (by first | omega | (simp; done) | (simp; omega)) _ | refine bt ?_ (by assumption))))
      have hb17_20 := bel hb17_19 hb20 (by (repeat (first | assumption | exact Below.refl _ _ | refine ba ?_ _ | refine bd ?_ | refine bdn ?_ _ | refine bs ?_ (by first | omega | (simp; done) | (simp; omega)) _ | refine bt ?_ (by assumption))))
      have hb18_20 := bel hb18_19 hb20 (by (repeat (first | assumption | exact Below.refl _ _ | refine ba ?_ _ | refine bd ?_ | refine bdn ?_ _ | refine bs ?_ (by first | omega | (simp; done) | (simp; omega)) _ | refine bt ?_ (by assumption))))
      have hb19_20 := bel hb19 hb20 (by (repeat (first | assumption | exact Below.refl _ _ | refine ba ?_ _ | refine bd ?_ | refine bdn ?_ _ | refine bs ?_ (by first | omega | (simp; done) | (simp; omega)) _ | refine bt ?_ (by assumption))))
      clear hc11_19 hf11_19 hz19_0 hz19_1 hc19 hf19
      obtain ⟨hc11_20, hf11_20, hl11_20⟩ := bcell hb11_20
      clear hl11_20
      have hz20_0 : w.heap.size < w20.heap.size := (by omega)
      have hz20_1 : w.heap.size + 1 < w20.heap.size := (by omega)
      obtain ⟨hc20, hf20, hl20⟩ := bcell hb20
      clear hl20
      go_wp2
      go_ret
      refine ⟨by rw [HR.out]; rfl, ?_⟩
      (repeat (first | assumption | exact Below.refl _ _ | refine ba ?_ _ | refine bd ?_ | refine bdn ?_ _ | refine bs ?_ (by first | omega | (simp; done) | (simp; omega)) _ | refine bt ?_ (by assumption)))
theorem refcmp_any (an ad bn bd : Int) (i1 : I64 an) (i2 : I64 ad) (i3 : I64 bn) (i4 : I64 bd) : Pure Tryz.prog 63 #[F2 an ad, F2 bn bd] (.int .i64 (rcA an ad bn bd)) := by
  unfold rcA
  by_cases h1 : 0 ≤ an ∧ 1 ≤ ad
  · by_cases h2 : 0 ≤ bn ∧ 1 ≤ bd
    · rw [if_pos ⟨h1, h2⟩]; exact refcmp_yes _ _ _ _ i1 i2 i3 i4 ⟨h1.1, h1.2⟩ ⟨h2.1, h2.2⟩
    · rw [if_neg (fun h => h2 h.2)]; exact refcmp_no2 _ _ _ _ ⟨h1.1, h1.2⟩ (fun h => h2 ⟨h.num, h.den⟩)
  · rw [if_neg (fun h => h1 h.1)]; exact refcmp_no1 _ _ _ _ (fun h => h1 ⟨h.num, h.den⟩)
theorem rright_any (n d : Int) : Pure Tryz.prog 85 #[F2 n d] (.bool (decide (0 ≤ n ∧ 1 ≤ d))) := by
  by_cases h : 0 ≤ n ∧ 1 ≤ d
  · rw [decide_eq_true h]; exact rright_yes _ _ h.1 h.2
  · rw [decide_eq_false h]; exact rright_no _ _ (fun h' => h ⟨h'.num, h'.den⟩)
end
end Go.Proofs.YtgfjmafdfbghnaaGreat

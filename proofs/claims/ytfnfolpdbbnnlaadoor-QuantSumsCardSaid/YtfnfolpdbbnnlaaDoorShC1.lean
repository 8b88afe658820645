/- The least of some shares: the list that share.Least makes is the indices at which no share is less. No program here. -/
import Derived.Test.YtfnfolpdbbnnlaaDoorSCmp
import Derived.Test.YtfnfolpdbbnnlaaDoorShareOrd
import Derived.Test.YtfnfolpdbbnnlaaDoorShare3
namespace Go.Proofs.YtfnfolpdbbnnlaaDoor
open Go.RowKit
section
variable (n d w : Nat → Int)
/-- How the shares at two indices compare. -/
def sq (i j : Nat) : Int := scmp (n i) (d i) (w i) (n j) (d j) (w j)
/-- The share at i is valid, and none of the first k is less. -/
def lb (i : Nat) : Nat → Bool
  | 0 => decide (SRt (n i) (d i) (w i))
  | k + 1 => lb i k && decide (0 ≤ sq n d w k i)
end
variable {n d w : Nat → Int}
theorem lb_iff (i : Nat) : ∀ k, lb n d w i k = true ↔ SRt (n i) (d i) (w i) ∧ ∀ m, m < k → 0 ≤ sq n d w m i
  | 0 => by simp [lb]
  | k + 1 => by
    unfold lb
    rw [Bool.and_eq_true, lb_iff i k, decide_eq_true_iff]
    constructor
    · rintro ⟨⟨h1, h2⟩, h3⟩
      refine ⟨h1, fun m hm => ?_⟩
      by_cases h : m = k
      · rw [h]; exact h3
      · exact h2 m (by omega)
    · rintro ⟨h1, h2⟩
      exact ⟨⟨h1, fun m hm => h2 m (by omega)⟩, h2 k (by omega)⟩
theorem sq_swap (i j : Nat) : sq n d w j i = - sq n d w i j := scmp_swap _ _ _ _ _ _
theorem sq_self (i : Nat) : sq n d w i i = 0 := scmp_self _ _ _
theorem sq_no {i j : Nat} (h : ¬ SRt (n i) (d i) (w i)) : sq n d w i j = 0 := by unfold sq scmp; rw [if_neg (fun h' => h h'.1)]
theorem sq_trans {i j k : Nat} (hi : SRt (n i) (d i) (w i)) (hj : SRt (n j) (d j) (w j)) (hk : SRt (n k) (d k) (w k)) (h1 : sq n d w i j ≤ 0) (h2 : sq n d w j k ≤ 0) :
    sq n d w i k < 0 ∨ sq n d w i k = 0 ∧ sq n d w i j = 0 ∧ sq n d w j k = 0 := by
  unfold sq at *
  rw [scmp_rcA hi hj] at h1 ⊢
  rw [scmp_rcA hj hk] at h2 ⊢
  rw [scmp_rcA hi hk]
  exact rcA_trans (srt_rt hi) (srt_rt hj) (srt_rt hk) h1 h2
theorem leastK_none : ∀ k, leastK n d w k = [] → ∀ i, i < k → ¬ SRt (n i) (d i) (w i)
  | 0, _, i, hi => by omega
  | k + 1, h, i, hi => by
    by_cases hr : SRt (n k) (d k) (w k)
    · exfalso
      cases hL : leastK n d w k with
      | nil => rw [leastK_first hr hL] at h; simp at h
      | cons j L =>
        rcases Int.lt_trichotomy (scmp (n k) (d k) (w k) (n j) (d j) (w j)) 0 with ho | ho | ho
        · rw [leastK_less hr hL ho] at h; simp at h
        · rw [leastK_same hr hL ho] at h; simp at h
        · rw [leastK_more hr hL ho] at h; simp at h
    · by_cases hik : i = k
      · rw [hik]; exact hr
      · rw [leastK_no hr] at h
        exact leastK_none k h i (by omega)
theorem lb_false {i k : Nat} (h : ¬ (SRt (n i) (d i) (w i) ∧ ∀ m, m < k → 0 ≤ sq n d w m i)) : lb n d w i k = false := by
  cases hc : lb n d w i k with
  | false => rfl
  | true => exact absurd ((lb_iff i k).1 hc) h
theorem filter_none {p : Nat → Bool} {k : Nat} (h : ∀ i, i < k → p i = false) : (List.range k).filter p = [] := by
  rw [List.filter_eq_nil_iff]
  intro a ha
  rw [h a (List.mem_range.1 ha)]
  simp
theorem filter_same {p q : Nat → Bool} {k : Nat} (h : ∀ i, i < k → p i = q i) : (List.range k).filter p = (List.range k).filter q :=
  List.filter_congr fun a ha => h a (List.mem_range.1 ha)
/-- Another share that is not less than the one at i changes nothing. -/
theorem lb_keep {i k : Nat} (h : SRt (n i) (d i) (w i) → (∀ m, m < k → 0 ≤ sq n d w m i) → 0 ≤ sq n d w k i) : lb n d w i k = lb n d w i (k + 1) := by
  show lb n d w i k = (lb n d w i k && decide (0 ≤ sq n d w k i))
  cases hc : lb n d w i k with
  | false => rfl
  | true =>
    obtain ⟨h1, h2⟩ := (lb_iff i k).1 hc
    rw [decide_eq_true (h h1 h2)]
    rfl
theorem leastK_filter : ∀ k, leastK n d w k = (List.range k).filter (fun i => lb n d w i k)
  | 0 => rfl
  | k + 1 => by
    have ih := leastK_filter k
    rw [List.range_succ, List.filter_append]
    by_cases hr : SRt (n k) (d k) (w k)
    · cases hL : leastK n d w k with
      | nil =>
        have hno := leastK_none k hL
        rw [leastK_first hr hL, filter_none (fun i hi => lb_false (fun h => hno i hi h.1))]
        have e2 : lb n d w k (k + 1) = true := (lb_iff _ _).2 ⟨hr, fun m hm => by
          by_cases h : m = k
          · rw [h, sq_self]; exact Int.le_refl _
          · rw [sq_no (hno m (by omega))]; exact Int.le_refl _⟩
        simp [e2]
      | cons j L =>
        rw [hL] at ih
        have hj : j ∈ (List.range k).filter (fun i => lb n d w i k) := by rw [← ih]; simp
        rw [List.mem_filter, List.mem_range] at hj
        obtain ⟨hjk, hj⟩ := hj
        obtain ⟨hjr, hjm⟩ := (lb_iff _ _).1 hj
        have up : ∀ m, m < k → sq n d w k j ≤ 0 → 0 ≤ sq n d w m k := by
          intro m hm h0
          by_cases hmr : SRt (n m) (d m) (w m)
          · have h1 := hjm m hm
            have h2 := sq_swap (n := n) (d := d) (w := w) m j
            have h3 := sq_swap (n := n) (d := d) (w := w) m k
            have h4 := sq_trans hr hjr hmr h0 (by omega)
            omega
          · rw [sq_no hmr]; exact Int.le_refl _
        have own : sq n d w k j ≤ 0 → lb n d w k (k + 1) = true := fun h0 => (lb_iff _ _).2 ⟨hr, fun m hm => by
          by_cases h : m = k
          · rw [h, sq_self]; exact Int.le_refl _
          · exact up m (by omega) h0⟩
        have keep : 0 ≤ sq n d w k j → ∀ i, i < k → lb n d w i k = lb n d w i (k + 1) := fun h0 i hi => lb_keep fun h1 h2 => by
          have h3 := h2 j hjk
          have h4 := sq_swap (n := n) (d := d) (w := w) j i
          have h5 := sq_swap (n := n) (d := d) (w := w) k j
          have h6 := sq_swap (n := n) (d := d) (w := w) k i
          have h7 := sq_trans h1 hjr hr (by omega) (by omega)
          omega
        rcases Int.lt_trichotomy (sq n d w k j) 0 with ho | ho | ho
        · rw [leastK_less hr hL ho, filter_none (fun i hi => lb_false (fun h => ?_))]
          · simp [own (by omega)]
          · have h1 := h.2 k (by omega)
            have h2 := hjm i hi
            have h3 := sq_swap (n := n) (d := d) (w := w) i j
            have h4 := sq_trans hr hjr h.1 (by omega) (by omega)
            omega
        · rw [leastK_same hr hL ho, ← filter_same (keep (by omega)), ← ih]
          simp [own (by omega)]
        · rw [leastK_more hr hL ho, ← filter_same (keep (by omega)), ← ih]
          have e2 : lb n d w k (k + 1) = false := lb_false fun h => by
            have h1 := h.2 j (by omega)
            have h2 := sq_swap (n := n) (d := d) (w := w) j k
            omega
          simp [e2]
    · rw [leastK_no hr, ih, filter_same (fun i hi => lb_keep fun _ _ => by rw [sq_no hr]; exact Int.le_refl _)]
      have e2 : lb n d w k (k + 1) = false := lb_false fun h => hr h.1
      simp [e2]
/-- The first indices of the list, by the place where one stands. -/
theorem filter_at (p : Nat → Bool) : ∀ {N i : Nat}, i < N → p i = true → ((List.range i).filter p).length < ((List.range N).filter p).length ∧ ((List.range N).filter p).getD ((List.range i).filter p).length 0 = i
  | 0, i, h, _ => by omega
  | N + 1, i, h, hp => by
    rw [List.range_succ, List.filter_append]
    by_cases hi : i = N
    · subst hi
      simp [hp]
    · obtain ⟨h1, h2⟩ := filter_at p (N := N) (i := i) (by omega) hp
      refine ⟨by rw [List.length_append]; omega, ?_⟩
      rw [List.getD_eq_getElem?_getD, List.getElem?_append_left h1, ← List.getD_eq_getElem?_getD]
      exact h2
end Go.Proofs.YtfnfolpdbbnnlaaDoor

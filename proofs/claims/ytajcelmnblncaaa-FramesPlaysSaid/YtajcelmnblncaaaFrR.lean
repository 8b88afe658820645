/- What FramesRoles reckons, a plain matter: the roles that are there, their members, no more than the cap. -/
import Derived.Test.YtajcelmnblncaaaFr8
import Derived.Test.YtajcelmnblncaaaFrP
namespace Go.Proofs.Ytajcelmnblncaaa
theorem wtF_pos {S : List Fr} (h : ∀ f ∈ S, FOk f) (r : Int) : 0 < wtF S r ↔ 0 < cnt S r := by
  unfold wtF
  cases hf : S.find? (fun f => decide (f.role = r)) with
  | some f =>
    have h1 := List.mem_of_find?_eq_some hf
    have h2 := List.find?_some hf
    simp only [decide_eq_true_eq] at h2
    have h3 := cnt_pos h1
    rw [h2] at h3
    have := (h f h1).w0
    exact ⟨fun _ => h3, fun _ => by show 0 < f.weight; omega⟩
  | none =>
    rw [List.find?_eq_none] at hf
    have : cnt S r = 0 := by unfold cnt; rw [List.countP_eq_zero]; exact hf
    constructor
    · intro h; exact absurd h (by show ¬ (0 : Int) < 0; omega)
    · intro h; omega
/-- Those of the roles up to n. -/
def upto (S : List Fr) (n : Nat) : Nat := S.countP fun f => decide (f.role ≤ (n : Int))
theorem upto_step (S : List Fr) (n : Nat) : upto S (n + 1) = upto S n + cnt S ((n + 1 : Nat) : Int) := by
  unfold upto cnt
  induction S with
  | nil => rfl
  | cons f t ih =>
    rw [List.countP_cons, List.countP_cons, List.countP_cons, ih]
    by_cases h1 : f.role ≤ n
    · have h2 : f.role ≤ ((n + 1 : Nat) : Int) := by omega
      have h3 : ¬ f.role = ((n + 1 : Nat) : Int) := by omega
      simp only [decide_eq_true h1, decide_eq_true h2, decide_eq_false h3, if_true, Bool.false_eq_true, if_false]; omega
    · by_cases h3 : f.role = ((n + 1 : Nat) : Int)
      · have h2 : f.role ≤ ((n + 1 : Nat) : Int) := by omega
        simp only [decide_eq_false h1, decide_eq_true h2, decide_eq_true h3, if_true, Bool.false_eq_true, if_false]; omega
      · have h2 : ¬ f.role ≤ ((n + 1 : Nat) : Int) := by omega
        simp only [decide_eq_false h1, decide_eq_false h2, decide_eq_false h3, Bool.false_eq_true, if_false]; omega
def sumR (S : List Fr) (l : List Int) : Nat := (l.map fun r => cnt S r).sum
theorem sumR_snoc (S : List Fr) (l : List Int) (x : Int) : sumR S (l ++ [x]) = sumR S l + cnt S x := by unfold sumR; simp
theorem sum_roles {S : List Fr} (h : ∀ f ∈ S, FOk f) : ∀ n, sumR S (rolesF S n) = upto S n
  | 0 => by
    have : upto S 0 = 0 := by
      unfold upto; rw [List.countP_eq_zero]
      intro f hf; have := (h f hf).r0; simp; omega
    rw [this]; rfl
  | n + 1 => by
    rw [rolesF, upto_step, ← sum_roles h n]
    by_cases hp : 0 < wtF S ((n + 1 : Nat) : Int)
    · rw [if_pos hp, sumR_snoc]
    · rw [if_neg hp, List.append_nil]
      have : ¬ 0 < cnt S ((n + 1 : Nat) : Int) := fun h0 => hp ((wtF_pos h _).2 h0)
      omega
theorem upto_all {S : List Fr} (h : ∀ f ∈ S, FOk f) : upto S 32 = S.length := by
  unfold upto
  rw [List.countP_eq_length]
  intro f hf; have := (h f hf).r1; simp; omega
theorem roles_mem {S : List Fr} : ∀ {n : Nat} {x : Int}, x ∈ rolesF S n → 1 ≤ x ∧ x ≤ n ∧ 0 < wtF S x
  | 0, x, h => by cases h
  | n + 1, x, h => by
    rw [rolesF] at h
    rcases List.mem_append.1 h with h | h
    · obtain ⟨a, b, c⟩ := roles_mem h; exact ⟨a, by omega, c⟩
    · split at h
      · rename_i hp
        rw [List.mem_singleton.1 h]; exact ⟨by omega, by omega, hp⟩
      · cases h
theorem roles_up (S : List Fr) : ∀ n, (rolesF S n).Pairwise (· < ·)
  | 0 => List.Pairwise.nil
  | n + 1 => by
    rw [rolesF, List.pairwise_append]
    refine ⟨roles_up S n, by split <;> simp, fun a ha b hb => ?_⟩
    have := (roles_mem ha).2.1
    split at hb
    · rw [List.mem_singleton.1 hb]; omega
    · cases hb
theorem of_mem {S : List Fr} (hS : SF S) {r x : Int} (h : x ∈ ofF S r) : ∃ y, fndF S x = some y ∧ y.role = r ∧ y ∈ S := by
  unfold ofF at h
  obtain ⟨y, hy, rfl⟩ := List.mem_map.1 h
  obtain ⟨h1, h2⟩ := List.mem_filter.1 hy
  exact ⟨y, hS.fnd h1, by simpa using h2, h1⟩
theorem TS.weight {w : World} {tp M : Nat} {cap : Int} {S : List Fr} (h : TS w tp M cap S) {y : Fr} (hy : y ∈ S) : wtF S y.role = y.weight := by
  obtain ⟨g, L, h⟩ := h
  have hok := h.ro.ok y hy
  obtain ⟨r, hr⟩ : ∃ r : Nat, y.role = r := ⟨y.role.toNat, by have := hok.r0; omega⟩
  have hr32 : r ≤ 32 := by have := hok.r1; omega
  have h1 := h.g1 hr32
  have h2 := cnt_pos hy
  rw [hr] at h2 ⊢
  rw [h.wt0 hr32, if_pos (by omega)]
  exact h.ro.fwt y hy r hr
theorem fstep_cap {cap : Int} {S : List Fr} (hS : SF S) (h : (S.length : Int) ≤ cap) (a : FAct) : ((fstep cap S a).1.length : Int) ≤ cap := by
  have old : ∀ {f g : Fr}, fndF S f.id = some g → ((putF S f).length : Int) ≤ cap := fun {f g} hg => by
    rw [show (putF S f).length = S.length from Srt.put_len_old hS hg]; exact h
  have hid : ∀ {k : Int} {g : Fr}, fndF S k = some g → g.id = k := fun hg => (Srt.fnd_mem hg).2
  unfold fstep
  split
  · unfold fsub
    split
    · exact h
    · split
      · rename_i g hg
        split
        · exact h
        · split
          · exact h
          · exact old (f := fresh a g.quiet) hg
      · rename_i hg
        split
        · exact h
        · split
          · exact h
          · rename_i hc
            have := Srt.put_le (key := Fr.id) (lt := ltF) S (fresh a false)
            show ((Srt.put Fr.id ltF S (fresh a false)).length : Int) ≤ cap
            omega
  · split
    · unfold fdis
      split
      · exact h
      · rename_i g hg
        split
        · exact h
        · split
          · exact h
          · refine old (f := { g with up := false, til := a.time + g.time }) (g := g) ?_
            show fndF S g.id = some g
            rw [hid hg]; exact hg
    · split
      · have : (delF S a.id).length ≤ S.length := List.length_filter_le _ _
        show ((delF S a.id).length : Int) ≤ cap
        omega
      · unfold fqui
        split
        · exact h
        · rename_i g hg
          refine old (f := { g with quiet := decide (a.kind = 3) }) (g := g) ?_
          show fndF S g.id = some g
          rw [hid hg]; exact hg
end Go.Proofs.Ytajcelmnblncaaa

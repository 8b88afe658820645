/- The text of an amount, and how a text is read as an amount: plain arithmetic and lists, no program in it. -/
import Derived.Test.YtlhljioncgddeaaDoorItoa
namespace Go.Proofs.YtlhljioncgddeaaDoor
open Go.RowKit
/-- The letter of a digit. -/
def dg (d : Nat) : UInt8 := UInt8.ofNat (48 + d)
/-- The thousandths, without zeros behind. -/
def frac (r : Nat) : List UInt8 :=
  if r % 10 ≠ 0 then [dg (r / 100), dg (r / 10 % 10), dg (r % 10)] else if r % 100 ≠ 0 then [dg (r / 100), dg (r / 10 % 10)] else [dg (r / 100)]
/-- An amount's text. -/
def qL (n : Nat) : List UInt8 := if n % 1000 = 0 then Lib.decDigits (n / 1000) else Lib.decDigits (n / 1000) ++ 46 :: frac (n % 1000)
def qT (n : Nat) : ByteArray := ⟨(qL n).toArray⟩
theorem qT_list (n : Nat) : (qT n).data.toList = qL n := by simp [qT]
/-- One letter read: number, places, point. -/
def rd (a : Nat × Nat × Bool) (c : UInt8) : Option (Nat × Nat × Bool) :=
  if c.toNat = 46 ∧ a.2.2 = false then some (a.1, a.2.1, true)
  else if c.toNat < 48 ∨ 57 < c.toNat ∨ a.2.1 = 3 ∨ 9007199254740992 < a.1 then none
  else some (10 * a.1 + (c.toNat - 48), a.2.1 + (if a.2.2 then 1 else 0), a.2.2)
def rds : Nat × Nat × Bool → List UInt8 → Option (Nat × Nat × Bool)
  | a, [] => some a
  | a, c :: l => match rd a c with
    | none => none
    | some b => rds b l
theorem rds_append (l m : List UInt8) : ∀ a, rds a (l ++ m) = match rds a l with | none => none | some b => rds b m := by
  induction l with
  | nil => intro a; rfl
  | cons c l ih =>
    intro a
    rw [List.cons_append, rds, rds]
    cases rd a c with
    | none => rfl
    | some b => exact ih b
/-- The zeros that are left out. -/
def fin : Nat → Nat → Nat → Nat
  | 0, n, _ => n
  | k + 1, n, p => if p < 3 ∧ n ≤ 9007199254740992 then fin k (n * 10) (p + 1) else n
/-- What Parse answers. -/
def qP (s : List UInt8) : Nat × Bool := match rds (0, 0, false) s with
  | none => (0, false)
  | some b => if fin 3 b.1 b.2.1 ≤ 9007199254740992 ∧ qL (fin 3 b.1 b.2.1) = s then (fin 3 b.1 b.2.1, true) else (0, false)
theorem dg_nat (d : Nat) (h : d < 10) : (dg d).toNat = 48 + d := digit_nat d h
theorem rd_dg (n p : Nat) (q : Bool) (d : Nat) (hd : d < 10) (hp : p ≠ 3) (hn : n ≤ 9007199254740992) : rd (n, p, q) (dg d) = some (10 * n + d, p + (if q then 1 else 0), q) := by
  unfold rd
  have h := dg_nat d hd
  rw [if_neg (by rw [h]; intro hh; omega), if_neg (by rw [h]; simp only; omega), h]
  simp
theorem rds_dec (u : Nat) : u ≤ 9007199254740992 → rds (0, 0, false) (Lib.decDigits u) = some (u, 0, false) := by
  induction u using Nat.strongRecOn with
  | ind u ih =>
    intro hu
    by_cases h : u < 10
    · rw [decDigits_lt u h, rds, show UInt8.ofNat (48 + u) = dg u from rfl, rd_dg 0 0 false u h (by decide) (by decide)]
      simp [rds]
    · rw [decDigits_go u h, rds_append, ih (u / 10) (by omega) (by omega)]
      simp only
      rw [rds, show UInt8.ofNat (48 + u % 10) = dg (u % 10) from rfl, rd_dg _ 0 false _ (by omega) (by decide) (by omega)]
      simp only [rds]
      congr 2
      omega
theorem rd_point (n p : Nat) : rd (n, p, false) 46 = some (n, p, true) := by unfold rd; rw [if_pos ⟨rfl, rfl⟩]
theorem qP_qL (n : Nat) (hn : n ≤ 9007199254740992) : qP (qL n) = (n, true) := by
  have core : ∃ b, rds (0, 0, false) (qL n) = some b ∧ fin 3 b.1 b.2.1 = n := by
    unfold qL
    by_cases h0 : n % 1000 = 0
    · rw [if_pos h0, rds_dec _ (by omega)]
      refine ⟨_, rfl, ?_⟩
      simp only [fin]
      rw [if_pos (by omega), if_pos (by omega), if_pos (by omega)]
      omega
    · rw [if_neg h0, rds_append, rds_dec _ (by omega)]
      simp only
      rw [rds, rd_point]
      simp only
      unfold frac
      by_cases h1 : n % 1000 % 10 ≠ 0
      · rw [if_pos h1, rds, rd_dg _ _ _ _ (by omega) (by omega) (by omega)]
        simp only
        rw [rds, rd_dg _ _ _ _ (by omega) (by simp) (by omega)]
        simp only
        rw [rds, rd_dg _ _ _ _ (by omega) (by simp) (by omega)]
        refine ⟨_, rfl, ?_⟩
        simp only [fin, if_true]
        rw [if_neg (by omega)]
        omega
      · rw [if_neg h1]
        by_cases h2 : n % 1000 % 100 ≠ 0
        · rw [if_pos h2, rds, rd_dg _ _ _ _ (by omega) (by omega) (by omega)]
          simp only
          rw [rds, rd_dg _ _ _ _ (by omega) (by simp) (by omega)]
          refine ⟨_, rfl, ?_⟩
          simp only [fin, if_true]
          rw [if_pos (by omega), if_neg (by omega)]
          omega
        · rw [if_neg h2, rds, rd_dg _ _ _ _ (by omega) (by omega) (by omega)]
          refine ⟨_, rfl, ?_⟩
          simp only [fin, if_true]
          rw [if_pos (by omega), if_pos (by omega), if_neg (by omega)]
          omega
  obtain ⟨b, hb, hf⟩ := core
  unfold qP
  rw [hb]
  simp only
  rw [hf, if_pos ⟨hn, rfl⟩]
theorem qL_ne (n : Nat) : qL n ≠ [] := by
  unfold qL
  split
  · exact dec_ne _
  · intro h
    exact dec_ne _ (List.append_eq_nil_iff.1 h).1
theorem qP_nil : qP [] = (0, false) := by
  unfold qP
  show (if fin 3 0 0 ≤ 9007199254740992 ∧ qL (fin 3 0 0) = [] then (fin 3 0 0, true) else (0, false)) = _
  rw [if_neg (fun h => qL_ne _ h.2)]
theorem qP_some {s : List UInt8} {m : Nat} (h : qP s = (m, true)) : m ≤ 9007199254740992 ∧ qL m = s := by
  unfold qP at h
  split at h
  · cases h
  · split at h
    · rename_i hh
      injection h with h1 h2
      rw [← h1]; exact hh
    · cases h
theorem qP_none {s : List UInt8} {m : Nat} (h : qP s = (m, false)) : m = 0 := by
  unfold qP at h
  split at h
  · injection h with h1 h2; exact h1.symm
  · split at h
    · injection h with h1 h2; cases h2
    · injection h with h1 h2; exact h1.symm
theorem frac_len (r : Nat) : (frac r).length ≤ 3 := by
  unfold frac
  split
  · simp
  · split <;> simp
theorem dec_len (u : Nat) (h : u ≤ 9223372036854775807) : (Lib.decDigits u).length ≤ 21 := by
  have := (itoaS_size (n := (u : Int)) (by omega) (by omega)).2
  rw [itoaS_nonneg (by omega)] at this
  simpa [ByteArray.size] using this
end Go.Proofs.YtlhljioncgddeaaDoor

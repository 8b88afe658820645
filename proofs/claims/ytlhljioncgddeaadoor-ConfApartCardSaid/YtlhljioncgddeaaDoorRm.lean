/- Decimal numerals without leading zeros, and how two programs read them: plain lists and numbers, no program in it. -/
import Derived.Test.YtlhljioncgddeaaDoorItoa
import Derived.Lib.ParseIntB
namespace Go.Proofs.YtlhljioncgddeaaDoor
open Go.RowKit
def val (acc : Nat) (l : List UInt8) : Nat := l.foldl (fun a b => a * 10 + (b.toNat - 48)) acc
theorem val_ge : ∀ (l : List UInt8) (acc : Nat), acc ≤ val acc l
  | [], acc => Nat.le_refl _
  | b :: l, acc => by
    have := val_ge l (acc * 10 + (b.toNat - 48))
    show acc ≤ val (acc * 10 + (b.toNat - 48)) l
    omega
abbrev Dg (l : List UInt8) : Prop := ∀ b ∈ l, 48 ≤ b.toNat ∧ b.toNat ≤ 57
theorem parseM : ∀ (l : List UInt8) (acc : Nat), Dg l → val acc l ≤ 18446744073709551615 → Lib.parseUintM 18446744073709551615 acc l = .ok (val acc l)
  | [], acc, _, _ => rfl
  | c :: r, acc, hd, h => by
    have h' : val (acc * 10 + (c.toNat - 48)) r ≤ 18446744073709551615 := h
    have hge := val_ge r (acc * 10 + (c.toNat - 48))
    unfold Lib.parseUintM
    rw [if_pos (hd c (List.mem_cons_self)), if_neg (by omega), if_neg (by omega)]
    exact parseM r _ (fun b hb => hd b (List.mem_cons_of_mem _ hb)) h'
theorem parseInt_dec (v : Nat) (hv : v ≤ 9223372036854775807) : Lib.parseIntB 64 (Lib.decDigits v) = .ok (v : Int) := by
  have hdig : Dg (Lib.decDigits v) := dec_digit v
  have hval : val 0 (Lib.decDigits v) = v := dval_dec v
  have hU : Lib.parseUintB 64 (Lib.decDigits v) = .ok v := by
    unfold Lib.parseUintB
    rw [if_neg (dec_ne v)]
    show Lib.parseUintM 18446744073709551615 0 (Lib.decDigits v) = _
    rw [parseM _ 0 hdig (by omega), hval]
  have hne := dec_ne v
  cases hl : Lib.decDigits v with
  | nil => exact absurd hl hne
  | cons c r =>
    rw [hl] at hdig hU
    have hc := hdig c (List.mem_cons_self)
    unfold Lib.parseIntB
    simp only
    rw [if_neg (by omega), hU]
    simp only
    rw [if_neg (by simp; omega), if_neg (by omega), if_neg (by omega)]
/-- What ratio's number answers. -/
def numR (l : List UInt8) : Int := match Lib.parseIntB 64 l with
  | .ok v => if Lib.itoa v = l then v else -1
  | _ => -1
theorem itoa_nat (v : Nat) : Lib.itoa (v : Int) = Lib.decDigits v := by unfold Lib.itoa; rw [if_neg (by omega)]; rfl
theorem numR_dec (v : Nat) (hv : v ≤ 9223372036854775807) : numR (Lib.decDigits v) = v := by
  unfold numR
  rw [parseInt_dec v hv]
  simp only
  rw [if_pos (itoa_nat v)]
theorem parse_le {l : List UInt8} {v : Int} (h : Lib.parseIntB 64 l = .ok v) : v ≤ 9223372036854775807 := by
  unfold Lib.parseIntB at h
  cases l with
  | nil => cases h
  | cons c r =>
    simp only at h
    split at h
    · cases h
    · cases h
    · rename_i u hu
      split at h
      · cases h
      · split at h
        · cases h
        · rename_i h1 h2
          injection h with h
          subst h
          split
          · omega
          · rename_i h3
            have : ¬ (2 ^ (64 - 1) ≤ u) := fun hh => h1 ⟨h3, hh⟩
            have e : 2 ^ (64 - 1) = 9223372036854775808 := by decide
            omega
theorem numR_pos {l : List UInt8} (h : 0 ≤ numR l) : ∃ v : Nat, v ≤ 9223372036854775807 ∧ l = Lib.decDigits v ∧ numR l = v := by
  unfold numR at *
  cases hp : Lib.parseIntB 64 l with
  | ok v =>
    simp only [hp] at h ⊢
    by_cases he : Lib.itoa v = l
    · rw [if_pos he] at h ⊢
      obtain ⟨n, rfl⟩ := Int.eq_ofNat_of_zero_le h
      have := parse_le hp
      exact ⟨n, by omega, by rw [← he]; exact itoa_nat n, rfl⟩
    · rw [if_neg he] at h; omega
  | range => simp only [hp] at h; omega
  | _ => simp only [hp] at h; omega
/-- What the reference's Number answers. -/
def rN (l : List UInt8) : Nat × Bool :=
  if l ≠ [] ∧ l.length ≤ 19 ∧ ¬ (l.head? = some 48 ∧ 1 < l.length) ∧ Dg l ∧ dval l ≤ 9223372036854775807 then (dval l, true) else (0, false)
theorem dec_length (k : Nat) : ∀ v, v < 10 ^ (k + 1) → (Lib.decDigits v).length ≤ k + 1 := by
  induction k with
  | zero => intro v h; rw [decDigits_lt v (by simpa using h)]; simp
  | succ k ih =>
    intro v h
    by_cases hv : v < 10
    · rw [decDigits_lt v hv]; simp
    · rw [decDigits_go v hv]
      have := ih (v / 10) (by rw [Nat.pow_succ] at h; omega)
      simp; omega
theorem dec_head (v : Nat) (h0 : 0 < v) : ∃ c, (Lib.decDigits v).head? = some c ∧ c ≠ 48 := by
  induction v using Nat.strongRecOn with
  | ind v ih =>
    by_cases h : v < 10
    · rw [decDigits_lt v h]
      refine ⟨_, rfl, fun e => ?_⟩
      have := digit_nat v h
      rw [e] at this
      have e2 : (48 : UInt8).toNat = 48 := rfl
      omega
    · rw [decDigits_go v h]
      obtain ⟨c, hc, hn⟩ := ih (v / 10) (by omega) (by omega)
      refine ⟨c, ?_, hn⟩
      rw [List.head?_append, hc]; rfl
theorem u8_of {c : UInt8} (h : 48 ≤ c.toNat ∧ c.toNat ≤ 57) : UInt8.ofNat (48 + (c.toNat - 48)) = c := by
  rw [show 48 + (c.toNat - 48) = c.toNat by omega]
  exact UInt8.ofNat_toNat
theorem canon (n : Nat) : ∀ l : List UInt8, l.length = n → l ≠ [] → Dg l → ¬ (l.head? = some 48 ∧ 1 < l.length) → Lib.decDigits (dval l) = l := by
  induction n with
  | zero => intro l h hne; exact absurd (List.length_eq_zero_iff.1 h) hne
  | succ n ih =>
    intro l hl hne hd hh
    obtain ⟨m, c, rfl⟩ : ∃ m c, l = m ++ [c] := ⟨l.dropLast, l.getLast hne, (List.dropLast_concat_getLast hne).symm⟩
    have hc := hd c (by simp)
    have hm : Dg m := fun b hb => hd b (by simp [hb])
    rw [dval_snoc]
    by_cases hm0 : m = []
    · subst hm0
      show Lib.decDigits (0 * 10 + (c.toNat - 48)) = [] ++ [c]
      rw [Nat.zero_mul, Nat.zero_add, decDigits_lt _ (by omega), u8_of hc]; rfl
    · have hml : 0 < m.length := List.length_pos_iff.2 hm0
      have hh' : ¬ (m.head? = some 48) := fun h => hh ⟨by rw [List.head?_append, h]; rfl, by simp; omega⟩
      have ihm := ih m (by simp at hl; exact hl) hm0 hm (fun h => hh' h.1)
      have hpos : 0 < dval m := by
        rcases Nat.eq_zero_or_pos (dval m) with h | h
        · rw [h, decDigits_lt 0 (by decide)] at ihm
          exact absurd (by rw [← ihm]; rfl) hh'
        · exact h
      rw [decDigits_go _ (by omega), show (dval m * 10 + (c.toNat - 48)) / 10 = dval m by omega, ihm, show (dval m * 10 + (c.toNat - 48)) % 10 = c.toNat - 48 by omega, u8_of hc]
theorem rN_dec (v : Nat) (hv : v ≤ 9223372036854775807) : rN (Lib.decDigits v) = (v, true) := by
  unfold rN
  rw [if_pos, dval_dec]
  refine ⟨dec_ne v, dec_length 18 v (by omega), ?_, dec_digit v, by rw [dval_dec]; exact hv⟩
  rintro ⟨h1, h2⟩
  rcases Nat.eq_zero_or_pos v with h | h
  · subst h; rw [decDigits_lt 0 (by decide)] at h2; simp at h2
  · obtain ⟨c, hc, hn⟩ := dec_head v h
    rw [hc] at h1
    injection h1 with h1
    exact hn h1
theorem rN_yes {l : List UInt8} {v : Nat} (h : rN l = (v, true)) : v ≤ 9223372036854775807 ∧ l = Lib.decDigits v := by
  unfold rN at h
  split at h
  · rename_i hh
    injection h with h1 h2
    subst h1
    exact ⟨hh.2.2.2.2, (canon _ l rfl hh.1 hh.2.2.2.1 hh.2.2.1).symm⟩
  · cases h
theorem rN_no {l : List UInt8} {v : Nat} (h : rN l = (v, false)) : v = 0 ∧ numR l < 0 := by
  refine ⟨?_, ?_⟩
  · unfold rN at h
    split at h
    · injection h with h1 h2; cases h2
    · injection h with h1 h2; exact h1.symm
  · rcases Int.lt_or_le (numR l) 0 with h1 | h1
    · exact h1
    · obtain ⟨u, hu, rfl, _⟩ := numR_pos h1
      rw [rN_dec u hu] at h
      injection h with h1 h2
      cases h2
theorem numR_rN {l : List UInt8} {v : Nat} (h : rN l = (v, true)) : numR l = v := by
  obtain ⟨h1, h2⟩ := rN_yes h
  rw [h2]; exact numR_dec v h1
end Go.Proofs.YtlhljioncgddeaaDoor

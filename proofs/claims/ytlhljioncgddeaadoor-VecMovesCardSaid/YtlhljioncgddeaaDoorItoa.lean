/- A number's decimal text: its letters are decimal ones, and it tells the number; texts put together by a letter that is none of them can be taken apart. No program in it. -/
import Derived.Test.YtlhljioncgddeaaDoorOn
import Derived.Lib.ItoaLen
namespace Go.Proofs.YtlhljioncgddeaaDoor
open Go.RowKit
/-- What decimal letters tell. -/
def dval (l : List UInt8) : Nat := l.foldl (fun a b => a * 10 + (b.toNat - 48)) 0
theorem dval_snoc (l : List UInt8) (b : UInt8) : dval (l ++ [b]) = dval l * 10 + (b.toNat - 48) := by simp [dval, List.foldl_append]
theorem digit_nat (i : Nat) (h : i < 10) : (UInt8.ofNat (48 + i)).toNat = 48 + i := by simp; omega
theorem decDigits_go (u : Nat) (h : ¬ u < 10) : Lib.decDigits u = Lib.decDigits (u / 10) ++ [UInt8.ofNat (48 + u % 10)] := by rw [Lib.decDigits, dif_neg h]
theorem decDigits_lt (u : Nat) (h : u < 10) : Lib.decDigits u = [UInt8.ofNat (48 + u)] := by rw [Lib.decDigits, dif_pos h]
theorem dval_dec (u : Nat) : dval (Lib.decDigits u) = u := by
  induction u using Nat.strongRecOn with
  | ind u ih =>
    by_cases h : u < 10
    · rw [decDigits_lt u h]
      have := digit_nat u h
      simp only [dval, List.foldl_cons, List.foldl_nil, this]; omega
    · rw [decDigits_go u h, dval_snoc, ih (u / 10) (by omega), digit_nat _ (by omega)]
      omega
theorem dec_digit (u : Nat) : ∀ b ∈ Lib.decDigits u, 48 ≤ b.toNat ∧ b.toNat ≤ 57 := by
  induction u using Nat.strongRecOn with
  | ind u ih =>
    intro b hb
    by_cases h : u < 10
    · rw [decDigits_lt u h] at hb
      simp only [List.mem_singleton] at hb
      subst hb
      rw [digit_nat u h]; omega
    · rw [decDigits_go u h, List.mem_append] at hb
      rcases hb with hb | hb
      · exact ih (u / 10) (by omega) b hb
      · simp only [List.mem_singleton] at hb
        subst hb
        rw [digit_nat _ (by omega)]; omega
theorem dec_inj {u v : Nat} (h : Lib.decDigits u = Lib.decDigits v) : u = v := by rw [← dval_dec u, h, dval_dec]
theorem dec_ne (u : Nat) : Lib.decDigits u ≠ [] := by
  by_cases h : u < 10
  · rw [decDigits_lt u h]; simp
  · rw [decDigits_go u h]; simp
theorem itoaS_nonneg {n : Int} (h : 0 ≤ n) : itoaS n = ⟨(Lib.decDigits n.toNat).toArray⟩ := by unfold itoaS Lib.itoa; rw [if_neg (by omega)]
theorem itoaS_list {n : Int} (h : 0 ≤ n) : (itoaS n).data.toList = Lib.decDigits n.toNat := by rw [itoaS_nonneg h]
theorem itoaS_size {n : Int} (h0 : 0 ≤ n) (h1 : n ≤ 9223372036854775807) : 0 < (itoaS n).size ∧ (itoaS n).size ≤ 21 := by
  have e : (itoaS n).size = (Lib.itoa n).length := by unfold itoaS; simp [ByteArray.size]
  have e2 : Lib.itoa n = Lib.decDigits n.toNat := by unfold Lib.itoa; rw [if_neg (by omega)]
  rw [e]
  refine ⟨?_, Lib.itoa_length_le n (by omega) h1⟩
  rw [e2]
  exact List.length_pos_iff.2 (dec_ne _)
theorem itoaS_ne {n : Int} (h0 : 0 ≤ n) (h1 : n ≤ 9223372036854775807) : ¬ itoaS n = ByteArray.empty := fun h => by
  have := (itoaS_size h0 h1).1
  rw [h] at this
  simp at this
theorem itoaS_inj {n m : Int} (hn : 0 ≤ n) (hm : 0 ≤ m) (h : Lib.decDigits n.toNat = Lib.decDigits m.toNat) : n = m := by have := dec_inj h; omega
/-- Two lists parted by a letter that is in neither's head. -/
theorem parted {A A' B B' : List UInt8} {c : UInt8} (hA : c ∉ A) (hA' : c ∉ A') (h : A ++ c :: B = A' ++ c :: B') : A = A' ∧ B = B' := by
  induction A generalizing A' with
  | nil =>
    cases A' with
    | nil => exact ⟨rfl, by simpa using h⟩
    | cons x t => simp at h; obtain ⟨rfl, _⟩ := h; exact absurd (List.mem_cons_self) hA'
  | cons y s ih =>
    cases A' with
    | nil => simp at h; obtain ⟨rfl, _⟩ := h; exact absurd (List.mem_cons_self) hA
    | cons x t =>
      simp at h
      obtain ⟨rfl, h⟩ := h
      obtain ⟨e1, e2⟩ := ih (fun hm => hA (List.mem_cons_of_mem _ hm)) (fun hm => hA' (List.mem_cons_of_mem _ hm)) h
      exact ⟨by rw [e1], e2⟩
theorem no_sign {c : UInt8} {u : Nat} (h : c.toNat < 48 ∨ 57 < c.toNat) : c ∉ Lib.decDigits u := fun hm => by
  have := dec_digit u c hm
  omega
end Go.Proofs.YtlhljioncgddeaaDoor

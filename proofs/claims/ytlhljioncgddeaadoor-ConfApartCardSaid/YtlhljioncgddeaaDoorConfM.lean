/- A configuration's text is cut into its nine numbers: lists alone. -/
import Derived.Test.YtlhljioncgddeaaDoorConf9
import Derived.Test.YtlhljioncgddeaaDoorRm
namespace Go.Proofs.YtlhljioncgddeaaDoor
open Go.RowKit Go.Proofs
theorem pre32 (b : UInt8) (l : List UInt8) : ([32] : List UInt8).isPrefixOf (b :: l) = (32 == b) := by simp [List.isPrefixOf]
theorem index_hit : ∀ (A B : List UInt8), (32 : UInt8) ∉ A → Lib.index (A ++ 32 :: B) [32] = A.length
  | [], B, _ => by
    rw [List.nil_append, Lib.index, pre32, if_pos (by decide)]; rfl
  | a :: A, B, h => by
    have ha : a ≠ 32 := fun e => h (by rw [e]; exact List.mem_cons_self)
    have ih := index_hit A B (fun hm => h (List.mem_cons_of_mem _ hm))
    rw [List.cons_append, Lib.index, pre32, if_neg (by simp; exact fun e => ha e.symm), ih, if_neg (by simp)]
    simp
theorem index_miss : ∀ (A : List UInt8), (32 : UInt8) ∉ A → Lib.index A [32] = -1
  | [], _ => rfl
  | a :: A, h => by
    have ha : a ≠ 32 := fun e => h (by rw [e]; exact List.mem_cons_self)
    have ih := index_miss A (fun hm => h (List.mem_cons_of_mem _ hm))
    rw [Lib.index, pre32, if_neg (by simp; exact fun e => ha e.symm), ih]
    rfl
theorem splitK_hit (k : Nat) (A B : List UInt8) (h : (32 : UInt8) ∉ A) : Lib.splitK [32] 0 (k + 1) (A ++ 32 :: B) = A :: Lib.splitK [32] 0 k B := by
  rw [Lib.splitK, index_hit A B h, if_neg (by simp)]
  simp
theorem splitK_end (k : Nat) (A : List UInt8) (h : (32 : UInt8) ∉ A) : Lib.splitK [32] 0 k A = [A] := by
  cases k with
  | zero => rfl
  | succ k => rw [Lib.splitK, index_miss A h, if_pos (by decide)]
/-- The numbers' texts from the a-th on. -/
def JR (F : Nat → Int) (a : Nat) : Nat → List UInt8
  | 0 => Lib.itoa (F a)
  | k + 1 => Lib.itoa (F a) ++ 32 :: JR F (a + 1) k
theorem J_JR (F : Nat → Int) : J F 9 = JR F 0 8 := by
  simp [J, JR, List.append_assoc]
theorem itoa_no {x : Int} (h : 0 ≤ x) : (32 : UInt8) ∉ Lib.itoa x := by
  unfold Lib.itoa; rw [if_neg (by omega)]
  exact no_sign (.inl (by decide))
theorem split_JR (F : Nat → Int) (hF : ∀ k, k < 9 → 0 ≤ F k) : Lib.splitK [32] 0 9 (JR F 0 8) = [Lib.itoa (F 0), Lib.itoa (F 1), Lib.itoa (F 2), Lib.itoa (F 3), Lib.itoa (F 4), Lib.itoa (F 5), Lib.itoa (F 6), Lib.itoa (F 7), Lib.itoa (F 8)] := by
  simp only [JR]
  rw [splitK_hit 8 _ _ (itoa_no (hF 0 (by omega))), splitK_hit 7 _ _ (itoa_no (hF 1 (by omega))), splitK_hit 6 _ _ (itoa_no (hF 2 (by omega))), splitK_hit 5 _ _ (itoa_no (hF 3 (by omega))), splitK_hit 4 _ _ (itoa_no (hF 4 (by omega))), splitK_hit 3 _ _ (itoa_no (hF 5 (by omega))), splitK_hit 2 _ _ (itoa_no (hF 6 (by omega))), splitK_hit 1 _ _ (itoa_no (hF 7 (by omega))), splitK_end _ _ (itoa_no (hF 8 (by omega)))]
theorem J_ge (F : Nat → Int) (hF : ∀ k, k < 9 → 0 ≤ F k ∧ F k ≤ 9223372036854775807) : 9 ≤ (J F 9).length := by
  have h : ∀ k, k < 9 → 0 < (Lib.itoa (F k)).length := fun k hk => (itoa_len (hF k hk).1 (hF k hk).2).1
  have h0 := h 0 (by omega); have h8 := h 8 (by omega)
  simp only [J, List.length_append, List.length_cons]
  omega
theorem Ps_J (F : Nat → Int) (hF : ∀ k, k < 9 → 0 ≤ F k ∧ F k ≤ 9223372036854775807) (k : Nat) (hk : k < 9) :
    (Ps ⟨(J F 9).toArray⟩).length = 9 ∧ ((Ps ⟨(J F 9).toArray⟩).getD k ByteArray.empty).data.toList = Lib.itoa (F k) := by
  have hge := J_ge F hF
  have hm : (Ps ⟨(J F 9).toArray⟩).map (·.data.toList) = [Lib.itoa (F 0), Lib.itoa (F 1), Lib.itoa (F 2), Lib.itoa (F 3), Lib.itoa (F 4), Lib.itoa (F 5), Lib.itoa (F 6), Lib.itoa (F 7), Lib.itoa (F 8)] := by
    unfold Ps
    rw [Lib.splitB_data, szl, show min 10 ((J F 9).length + 1) - 1 = 9 by omega]
    show Lib.splitK [32] 0 9 (J F 9) = _
    rw [J_JR]
    exact split_JR F (fun k hk => (hF k hk).1)
  have hlen : (Ps ⟨(J F 9).toArray⟩).length = 9 := by
    have := congrArg List.length hm
    simpa using this
  refine ⟨hlen, ?_⟩
  have hg := congrArg (·[k]?) hm
  simp only [List.getElem?_map] at hg
  rw [List.getElem?_eq_getElem (by omega)] at hg
  rw [List.getD, List.getElem?_eq_getElem (by omega)]
  have : k = 0 ∨ k = 1 ∨ k = 2 ∨ k = 3 ∨ k = 4 ∨ k = 5 ∨ k = 6 ∨ k = 7 ∨ k = 8 := by omega
  rcases this with rfl | rfl | rfl | rfl | rfl | rfl | rfl | rfl | rfl <;> simpa using hg
theorem parse_itoa {x : Int} (h0 : 0 ≤ x) (h1 : x ≤ 9223372036854775807) : Lib.parseIntB 64 (Lib.itoa x) = .ok x := by
  obtain ⟨a, rfl⟩ := Int.eq_ofNat_of_zero_le h0
  rw [itoa_nat]
  exact parseInt_dec a (by omega)
theorem read_J (F : Nat → Int) (hF : ∀ k, k < 9 → 0 ≤ F k ∧ F k ≤ 9007199254740992) : rOk ⟨(J F 9).toArray⟩ ∧ ∀ k, k < 9 → rF ⟨(J F 9).toArray⟩ k = F k := by
  have hF' : ∀ k, k < 9 → 0 ≤ F k ∧ F k ≤ 9223372036854775807 := fun k hk => by have := hF k hk; omega
  have hr : ∀ k, k < 9 → rF ⟨(J F 9).toArray⟩ k = F k := fun k hk => by
    unfold rF parseV
    rw [(Ps_J F hF' k hk).2, parse_itoa (hF' k hk).1 (hF' k hk).2]
  refine ⟨⟨(Ps_J F hF' 0 (by omega)).1, fun k hk => ?_⟩, hr⟩
  have h1 : parseV ((Ps ⟨(J F 9).toArray⟩).getD k ByteArray.empty).data.toList = F k := hr k hk
  unfold gP
  rw [h1, (Ps_J F hF' k hk).2, parse_itoa (hF' k hk).1 (hF' k hk).2, decide_eq_true (hF k hk).2]
  rfl
end Go.Proofs.YtlhljioncgddeaaDoor

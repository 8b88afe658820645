/- Decimal digits as lists of letters: value and text are inverse. No program in it. -/
import Derived.Test.YtojfkpmdnhkanaaText
namespace Go.Proofs.Ytojfkpmdnhkanaa

/-- The value of a list of decimal letters. -/
def decV (L : List Int) : Int := L.foldl (fun a x => a * 10 + (x - 48)) 0
def Dig (x : Int) : Prop := 48 ≤ x ∧ x ≤ 57
theorem decV_snoc (L : List Int) (x : Int) : decV (L ++ [x]) = decV L * 10 + (x - 48) := by
  unfold decV; rw [List.foldl_append]; rfl
theorem decV_nonneg (L : List Int) (h : ∀ x ∈ L, Dig x) : 0 ≤ decV L := by
  induction hn : L.length generalizing L with
  | zero => obtain rfl := List.length_eq_zero_iff.1 hn; decide
  | succ n ih =>
    obtain ⟨M, x, rfl⟩ : ∃ M x, L = M ++ [x] := by
      rcases List.eq_nil_or_concat L with rfl | ⟨M, x, rfl⟩
      · simp at hn
      · exact ⟨M, x, by simp⟩
    rw [decV_snoc]
    have h1 := ih M (fun y hy => h y (by simp [hy])) (by simpa using hn)
    have h2 := h x (by simp)
    unfold Dig at h2
    omega
theorem decV_decL (f : Nat) (v : Int) (h0 : 0 ≤ v) (h1 : v < 10 ^ f) : decV (decL f v) = v := by
  induction f generalizing v with
  | zero => simp at h1; have : v = 0 := by omega
            subst this; rfl
  | succ f ih =>
    by_cases hq : v / 10 = 0
    · rw [decL_stop f v hq]
      show 0 * 10 + (48 + v % 10 - 48) = v
      omega
    · rw [decL_go f v hq, decV_snoc, ih (v / 10) (by omega) (by rw [Int.pow_succ] at h1; omega)]
      omega
theorem dig_decL (f : Nat) (v : Int) : ∀ x ∈ decL f v, Dig x := by
  induction f generalizing v with
  | zero => intro x hx; simp [decL] at hx
  | succ f ih =>
    have hd : Dig (48 + v % 10) := by unfold Dig; omega
    intro x hx
    by_cases hq : v / 10 = 0
    · rw [decL_stop f v hq] at hx
      simp at hx; subst hx; exact hd
    · rw [decL_go f v hq] at hx
      simp at hx
      rcases hx with hx | rfl
      · exact ih _ x hx
      · exact hd
theorem decL_len (f : Nat) (v : Int) : (decL f v).length ≤ f := by
  induction f generalizing v with
  | zero => simp [decL]
  | succ f ih =>
    by_cases hq : v / 10 = 0
    · rw [decL_stop f v hq]; simp
    · rw [decL_go f v hq]; simp; exact ih _
theorem decL_head (f : Nat) (v : Int) (h0 : 1 ≤ v) (h1 : v < 10 ^ f) : ∃ x M, decL f v = x :: M ∧ x ≠ 48 := by
  induction f generalizing v with
  | zero => simp at h1; omega
  | succ f ih =>
    by_cases hq : v / 10 = 0
    · exact ⟨_, _, decL_stop f v hq, by omega⟩
    · obtain ⟨x, M, e, hx⟩ := ih (v / 10) (by omega) (by rw [Int.pow_succ] at h1; omega)
      exact ⟨x, M ++ [48 + v % 10], by rw [decL_go f v hq, e]; rfl, hx⟩
theorem decV_pos (x : Int) (M : List Int) (hx : 49 ≤ x) (h : ∀ y ∈ M, Dig y) : 1 ≤ decV (x :: M) := by
  induction hn : M.length generalizing M with
  | zero =>
    obtain rfl := List.length_eq_zero_iff.1 hn
    show 1 ≤ 0 * 10 + (x - 48)
    omega
  | succ n ih =>
    obtain ⟨N, y, rfl⟩ : ∃ N y, M = N ++ [y] := by
      rcases List.eq_nil_or_concat M with rfl | ⟨N, y, rfl⟩
      · simp at hn
      · exact ⟨N, y, by simp⟩
    rw [← List.cons_append, decV_snoc]
    have h1 := ih N (fun z hz => h z (by simp [hz])) (by simpa using hn)
    have h2 := h y (by simp)
    unfold Dig at h2
    omega
/-- A text of decimal letters without a needless nought is the text of its value. -/
theorem decL_decV (f : Nat) (x : Int) (M : List Int) (hx : Dig x) (h : ∀ y ∈ M, Dig y) (h0 : x ≠ 48 ∨ M = []) (hf : M.length < f) : decL f (decV (x :: M)) = x :: M := by
  unfold Dig at hx
  induction f generalizing M with
  | zero => omega
  | succ f ih =>
    rcases List.eq_nil_or_concat M with rfl | ⟨N, y, rfl⟩
    · have e : decV [x] = x - 48 := by show 0 * 10 + (x - 48) = _; omega
      rw [e, decL_stop f _ (by omega)]
      congr 1; omega
    · rw [List.concat_eq_append] at *
      have h1 : 49 ≤ x := by
        rcases h0 with h0 | h0
        · omega
        · simp at h0
      have hN : ∀ z ∈ N, Dig z := fun z hz => h z (by simp [hz])
      have h2 := h y (by simp)
      have h3 := decV_pos x N h1 hN
      have hl : N.length < f := by simp at hf; omega
      unfold Dig at h2
      have h4 := ih N hN (.inl (by omega)) hl
      have e1 : (decV (x :: N) * 10 + (y - 48)) / 10 = decV (x :: N) := by omega
      rw [← List.cons_append, decV_snoc, decL_go f _ (by omega), e1, h4]
      congr 2; omega
theorem decV_take_succ (L : List Int) (k : Nat) (h : k < L.length) : decV (L.take (k + 1)) = decV (L.take k) * 10 + (L[k] - 48) := by
  rw [List.take_succ_eq_append_getElem h, decV_snoc]
theorem decV_le_append (L M : List Int) (hL : ∀ x ∈ L, Dig x) (hM : ∀ x ∈ M, Dig x) : decV L ≤ decV (L ++ M) := by
  induction hn : M.length generalizing M with
  | zero => obtain rfl := List.length_eq_zero_iff.1 hn; simp
  | succ n ih =>
    obtain ⟨N, y, rfl⟩ : ∃ N y, M = N ++ [y] := by
      rcases List.eq_nil_or_concat M with rfl | ⟨N, y, rfl⟩
      · simp at hn
      · exact ⟨N, y, by simp⟩
    have h1 := ih N (fun z hz => hM z (by simp [hz])) (by simpa using hn)
    have h2 := hM y (by simp)
    have h3 := decV_nonneg L hL
    unfold Dig at h2
    rw [← List.append_assoc, decV_snoc]
    omega
theorem decV_take_le (L : List Int) (h : ∀ x ∈ L, Dig x) (k : Nat) : decV (L.take k) ≤ decV L := by
  have := decV_le_append (L.take k) (L.drop k) (fun x hx => h x (List.mem_of_mem_take hx)) (fun x hx => h x (List.mem_of_mem_drop hx))
  rwa [List.take_append_drop] at this
end Go.Proofs.Ytojfkpmdnhkanaa

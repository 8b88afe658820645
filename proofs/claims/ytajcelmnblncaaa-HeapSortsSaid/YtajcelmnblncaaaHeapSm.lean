/- What HeapSorts reckons, a plain matter. -/
import Derived.Test.YtajcelmnblncaaaHeapL
namespace Go.Proofs.Ytajcelmnblncaaa
def gi (l : List Int) (i : Nat) : Int := l.getD i 0
theorem gi_at {l : List Int} {i : Nat} {x : Int} (h : l[i]? = some x) : gi l i = x := by simp [gi, List.getD, h]
/-- The list behind the first m puts. -/
def lsp (K T : List Int) : Nat → List It
  | 0 => []
  | m + 1 => lput (lsp K T m) (gi K m, gi T m)
/-- The last time of a key. -/
def ltm (K T : List Int) (k : Int) : Nat → Option Int
  | 0 => none
  | m + 1 => if gi K m = k then some (gi T m) else ltm K T k m
theorem lof_lsp (K T : List Int) (k : Int) : ∀ m, Lof (lsp K T m) k = ltm K T k m
  | 0 => rfl
  | m + 1 => by
    rw [lsp, lof_put, ltm, lof_lsp K T k m]
    by_cases h : gi K m = k
    · rw [if_pos h, if_pos h.symm]
    · rw [if_neg h, if_neg fun e => h e.symm]
theorem sl_lsp (K T : List Int) : ∀ m, SL (lsp K T m)
  | 0 => List.Pairwise.nil
  | m + 1 => (sl_lsp K T m).put _
theorem lsp_len (K T : List Int) : ∀ m, (lsp K T m).length ≤ m
  | 0 => Nat.le_refl _
  | m + 1 => by
    have := lsp_len K T m
    rw [lsp]
    unfold lput
    rw [lins_len]
    have := List.length_filter_le (fun p : It => decide (p.1 ≠ gi K m)) (lsp K T m)
    unfold ldel; simp only; omega
/-- Is the i-th key none of the first j? -/
def fst' (K : List Int) (i : Nat) : Nat → Bool
  | 0 => true
  | j + 1 => fst' K i j && !(gi K j == gi K i)
/-- How many keys there are among the first m. -/
def cntK (K : List Int) : Nat → Nat
  | 0 => 0
  | m + 1 => cntK K m + if fst' K m m then 1 else 0
theorem ltm_none (K T : List Int) (i : Nat) : ∀ m, (ltm K T (gi K i) m = none) ↔ fst' K i m = true
  | 0 => by simp [ltm, fst']
  | m + 1 => by
    rw [ltm, fst']
    by_cases h : gi K m = gi K i
    · rw [if_pos h]; simp [h]
    · rw [if_neg h, ltm_none K T i m]; simp [h]
theorem lsp_cnt (K T : List Int) : ∀ m, (lsp K T m).length = cntK K m
  | 0 => rfl
  | m + 1 => by
    have ih := lsp_cnt K T m
    rw [cntK, lsp]
    have h := lof_lsp K T (gi K m) m
    have hn := ltm_none K T m m
    cases hl : ltm K T (gi K m) m with
    | none =>
      rw [if_pos (hn.1 hl), lput_len_new (by rw [h, hl]), ih]
    | some t =>
      rw [hl] at h
      rw [if_neg (fun e => by rw [hn.2 e] at hl; cases hl), lput_len_old (sl_lsp K T m) (x := (gi K m, gi T m)) h, ih, Nat.add_zero]
theorem cntK_le (K : List Int) : ∀ m, cntK K m ≤ m
  | 0 => Nat.le_refl _
  | m + 1 => by have := cntK_le K m; rw [cntK]; split <;> omega
/-- Found so far, and with its last time. -/
def fnd (K T : List Int) (k at_ : Int) (j : Nat) : Bool := match ltm K T k j with | some t => t == at_ | none => false
theorem fnd_hit {K T : List Int} {k at_ : Int} {j : Nat} (h : gi K j = k) : fnd K T k at_ (j + 1) = (gi T j == at_) := by unfold fnd; rw [ltm, if_pos h]
theorem fnd_miss {K T : List Int} {k at_ : Int} {j : Nat} (h : gi K j ≠ k) : fnd K T k at_ (j + 1) = fnd K T k at_ j := by unfold fnd; rw [ltm, if_neg h]
theorem fnd_all {K T : List Int} {p : It} {m : Nat} (h : p ∈ lsp K T m) : fnd K T p.1 p.2 m = true := by
  unfold fnd; rw [← lof_lsp, (sl_lsp K T m).lof h]; simp
end Go.Proofs.Ytajcelmnblncaaa

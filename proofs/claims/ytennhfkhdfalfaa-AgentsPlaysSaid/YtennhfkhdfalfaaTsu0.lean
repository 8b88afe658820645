/- sums.Of of a valid vector that is not empty. -/
import Derived.Test.YtennhfkhdfalfaaVecV
import Derived.Test.YtennhfkhdfalfaaSumsAe
namespace Go.Proofs.Ytennhfkhdfalfaa
open Go.RowKit
attribute [local go_sem] ext_cell ext_frozen Mix.calmUpon Mix.mUpon
theorem kra {l : List Pt} {t : Nat} (h : t < l.length) : l[t] = (kk l t, rr l t, aa l t) := by
  unfold kk rr aa; rw [getD_lt h]
theorem take_succ' {l : List Pt} {t : Nat} (h : t < l.length) : l.take (t + 1) = l.take t ++ [(kk l t, rr l t, aa l t)] := by
  rw [← kra h, List.take_add_one, List.getElem?_eq_getElem h]; rfl
/-- The sum of a kind's amounts. -/
def kS : List Pt → Nat → Int
  | [], _ => 0
  | p :: t, j => (if p.1 = j then p.2.2 else 0) + kS t j
theorem kS_snoc (l : List Pt) (p : Pt) (j : Nat) : kS (l ++ [p]) j = kS l j + if p.1 = j then p.2.2 else 0 := by
  induction l with
  | nil => simp [kS]
  | cons x t ih => rw [List.cons_append, kS, ih, kS]; omega
theorem sl_gt {l : List Pt} (h : VR l) (k r : Int) : sl l k r = gt l k r := by
  induction l with
  | nil => rfl
  | cons p t ih =>
    rw [sl, gt, ih h.tail]
    by_cases he : p.1 = k ∧ p.2.1 = r
    · rw [if_pos he, if_pos he, gt_ahead (l := t) (k := k) (r := r) (fun x hx => by have := h.lt x hx; unfold qy at this ⊢; rw [he.1, he.2] at this; exact this)]; omega
    · rw [if_neg he, if_neg he]; omega
def sumR (f : Nat → Int) : Nat → Int
  | 0 => 0
  | n + 1 => sumR f n + f n
theorem sumR_add (f g : Nat → Int) : ∀ n, sumR (fun r => f r + g r) n = sumR f n + sumR g n
  | 0 => rfl
  | n + 1 => by rw [sumR, sumR_add f g n, sumR, sumR]; omega
theorem sumR_congr {f g : Nat → Int} : ∀ n, (∀ r, r < n → f r = g r) → sumR f n = sumR g n
  | 0, _ => rfl
  | n + 1, h => by rw [sumR, sumR, sumR_congr n fun r hr => h r (by omega), h n (by omega)]
theorem sumR_le {f : Nat → Int} {M : Int} : ∀ n, (∀ r, r < n → 0 ≤ f r ∧ f r ≤ M) → 0 ≤ sumR f n ∧ sumR f n ≤ n * M
  | 0, _ => by simp [sumR]
  | n + 1, h => by
    have h1 := sumR_le n fun r hr => h r (by omega)
    have h2 := h n (by omega)
    rw [sumR, Int.natCast_add, Int.add_mul]
    omega
theorem sumR_one (c : Bool) (x : Int) (m : Nat) : ∀ n, sumR (fun r => if c = true ∧ (m : Int) = (r : Int) then x else 0) n = if c = true ∧ m < n then x else 0
  | 0 => by simp [sumR]
  | n + 1 => by
    rw [sumR, sumR_one c x m n]
    by_cases hc : c = true
    · by_cases h1 : m < n
      · rw [if_pos ⟨hc, h1⟩, if_neg (by omega), if_pos ⟨hc, by omega⟩]; omega
      · rw [if_neg (by omega)]
        by_cases h2 : m = n
        · rw [if_pos ⟨hc, by omega⟩, if_pos ⟨hc, by omega⟩]; omega
        · rw [if_neg (by omega), if_neg (by omega)]; rfl
    · rw [if_neg (fun h => hc h.1), if_neg (fun h => hc h.1), if_neg (fun h => hc h.1)]; rfl
theorem kS_sl (j : Nat) : ∀ {l : List Pt}, (∀ p ∈ l, LOk p.1 p.2.1) → kS l j = sumR (fun r => sl l j r) 33
  | [], _ => by
    show (0 : Int) = sumR (fun _ => 0) 33
    decide
  | p :: t, h => by
    have ih := kS_sl j (l := t) fun x hx => h x (by simp [hx])
    obtain ⟨_, _, r0, r1⟩ := h p (by simp)
    obtain ⟨m, hm⟩ : ∃ m : Nat, p.2.1 = m := ⟨p.2.1.toNat, by omega⟩
    have e : ∀ r : Nat, sl (p :: t) j r = (if decide (p.1 = (j : Int)) = true ∧ (m : Int) = (r : Int) then p.2.2 else 0) + sl t j r := fun r => by
      rw [sl, hm]; simp only [decide_eq_true_eq]
    rw [sumR_congr 33 fun r _ => e r, sumR_add, sumR_one, kS, ih]
    congr 1
    by_cases hj : p.1 = (j : Int)
    · rw [if_pos hj, if_pos ⟨by simpa using hj, by omega⟩]
    · rw [if_neg hj, if_neg (fun h => hj (by simpa using h.1))]
theorem kS_bd {l : List Pt} (h : VR l) (j : Nat) : 0 ≤ kS l j ∧ kS l j ≤ 297237575406452736 := by
  rw [kS_sl j fun p hp => (h.1 p hp).1]
  have := sumR_le (f := fun r : Nat => sl l j r) (M := 9007199254740992) 33 fun r _ => by rw [sl_gt h]; exact gt_nn h _ _
  omega
theorem sm_kS (l : List Pt) (j : Nat) : ∀ n, n ≤ l.length → sm (kk l) (aa l) n j = kS (l.take n) j
  | 0, _ => by simp [sm, kS]
  | n + 1, h => by
    rw [sm, sm_kS l j n (by omega), take_succ' (by omega), kS_snoc]
    show _ = kS (l.take n) j + if kk l n = (j : Int) then aa l n else 0
    split <;> omega
theorem sm_all (l : List Pt) (j : Nat) : sm (kk l) (aa l) l.length j = kS l j := by rw [sm_kS l j _ (Nat.le_refl _), List.take_length]
theorem s4_congr {a b : Nat → Int} (h : ∀ j, j < 4 → a j = b j) : S4 a = S4 b := by
  unfold S4; rw [h 0 (by omega), h 1 (by omega), h 2 (by omega), h 3 (by omega)]
theorem kS_ok {l : List Pt} (h : VR l) : SOk (kS l) := sok_all fun j _ => by
  have := kS_bd h j
  unfold KOk
  omega
theorem sumsV (v : Value) (l : List Pt) (h : VR l) (hne : l ≠ []) : PureOn (fun w => Vc w v l) Try.prog 28 #[v] (S4 (kS l)) := by
  intro W hV
  rcases hV with ⟨_, rfl⟩ | ⟨b, off, cap, rfl, h2, h3, h4, h5⟩
  · exact absurd rfl hne
  · have hh := sumsof_yes b off l.length cap (kk l) (rr l) (aa l) W h4 (vr_len h) h5 ((vok_iff l).2 h)
    rw [s4_congr (b := kS l) fun j _ => sm_all l j] at hh
    exact hh
/-- The sums of vectors, one upon the other; zeros where they are too great. -/
def sumT : (Nat → Int) → List (List Pt) → (Nat → Int)
  | a, [] => a
  | a, l :: t => if SOk (fun k => a k + kS l k) then sumT (fun k => a k + kS l k) t else Z4
end Go.Proofs.Ytennhfkhdfalfaa

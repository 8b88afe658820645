/- Binary heaps as numbered items, a plain matter: what a swap keeps, what sinking and rising lead to. No program in it. -/
import Derived.Test.YtajcelmnblncaaaMeta
namespace Go.Proofs.Ytajcelmnblncaaa
/-- A key and its time. -/
abbrev It := Int × Int
def le2 (p q : It) : Prop := p.2 < q.2 ∨ p.2 = q.2 ∧ p.1 ≤ q.1
def lt2 (p q : It) : Prop := p.2 < q.2 ∨ p.2 = q.2 ∧ p.1 < q.1
instance (p q : It) : Decidable (le2 p q) := by unfold le2; infer_instance
instance (p q : It) : Decidable (lt2 p q) := by unfold lt2; infer_instance
theorem le2_refl (p : It) : le2 p p := .inr ⟨rfl, Int.le_refl _⟩
theorem le2_trans {p q r : It} (h : le2 p q) (k : le2 q r) : le2 p r := by unfold le2 at *; omega
theorem le2_of_lt {p q : It} (h : lt2 p q) : le2 p q := by unfold le2; unfold lt2 at h; omega
theorem not_lt2 {p q : It} : ¬ lt2 p q ↔ le2 q p := by unfold le2 lt2; omega
theorem le2_antisymm {p q : It} (h : le2 p q) (k : le2 q p) : p = q := by
  obtain ⟨a, b⟩ := p; obtain ⟨c, d⟩ := q
  unfold le2 at *; simp at *; omega
theorem lt2_of_le {p q : It} (h : le2 p q) (hn : p.1 ≠ q.1) : lt2 p q := by unfold lt2; unfold le2 at h; omega
/-- Two items change places. -/
def swp (g : Nat → It) (i j : Nat) : Nat → It := fun k => if k = i then g j else if k = j then g i else g k
theorem swp_i (g : Nat → It) (i j : Nat) : swp g i j i = g j := by simp [swp]
theorem swp_j (g : Nat → It) (i j : Nat) : swp g i j j = g i := by unfold swp; split <;> simp_all
theorem swp_o {g : Nat → It} {i j k : Nat} (h : k ≠ i) (h' : k ≠ j) : swp g i j k = g k := by simp [swp, h, h']
def put1 (g : Nat → It) (i : Nat) (x : It) : Nat → It := fun k => if k = i then x else g k
def upd (f : Int → Option Nat) (k : Int) (i : Option Nat) : Int → Option Nat := fun k' => if k' = k then i else f k'
/-- Each key's place is told. -/
structure PosOK (n : Nat) (g : Nat → It) (f : Int → Option Nat) : Prop where
  at_ : ∀ i, i < n → f (g i).1 = some i
  of_ : ∀ k i, f k = some i → i < n ∧ (g i).1 = k
theorem PosOK.inj {n : Nat} {g : Nat → It} {f : Int → Option Nat} (h : PosOK n g f) {i j : Nat} (hi : i < n) (hj : j < n) (he : (g i).1 = (g j).1) : i = j := by
  have a := h.at_ i hi; have b := h.at_ j hj; rw [he, b] at a; simpa using a.symm
/-- The time of a key. -/
def con (g : Nat → It) (f : Int → Option Nat) (k : Int) : Option Int := (f k).map fun i => (g i).2
theorem PosOK.swap {n : Nat} {g : Nat → It} {f : Int → Option Nat} (h : PosOK n g f) {i j : Nat} (hi : i < n) (hj : j < n) (hij : i ≠ j) :
    PosOK n (swp g i j) (upd (upd f (g j).1 (some i)) (g i).1 (some j)) := by
  have hk : (g i).1 ≠ (g j).1 := fun e => hij (h.inj hi hj e)
  constructor
  · intro k hkn
    unfold upd
    by_cases h1 : k = i
    · subst h1; rw [swp_i, if_neg (fun e => hk e.symm), if_pos rfl]
    · by_cases h2 : k = j
      · subst h2; rw [swp_j, if_pos rfl]
      · rw [swp_o h1 h2, if_neg (fun e => h1 (h.inj hkn hi e)), if_neg (fun e => h2 (h.inj hkn hj e)), h.at_ k hkn]
  · intro k m hm
    unfold upd at hm
    split at hm
    · rename_i he; cases hm; exact ⟨hj, by rw [swp_j, he]⟩
    · split at hm
      · rename_i he; cases hm; exact ⟨hi, by rw [swp_i, he]⟩
      · rename_i h1 h2
        obtain ⟨a, b⟩ := h.of_ k m hm
        exact ⟨a, by rw [swp_o (fun e => by rw [e] at b; exact h1 b.symm) (fun e => by rw [e] at b; exact h2 b.symm)]; exact b⟩
theorem con_swap {n : Nat} {g : Nat → It} {f : Int → Option Nat} (h : PosOK n g f) {i j : Nat} (hi : i < n) (hj : j < n) (hij : i ≠ j) :
    con (swp g i j) (upd (upd f (g j).1 (some i)) (g i).1 (some j)) = con g f := by
  have hk : (g i).1 ≠ (g j).1 := fun e => hij (h.inj hi hj e)
  funext k
  unfold con upd
  by_cases h1 : k = (g i).1
  · subst h1; rw [if_pos rfl, h.at_ i hi]; simp [swp_j]
  · rw [if_neg h1]
    by_cases h2 : k = (g j).1
    · subst h2; rw [if_pos rfl, h.at_ j hj]; simp [swp_i]
    · rw [if_neg h2]
      cases hf : f k with
      | none => rfl
      | some m =>
        obtain ⟨a, b⟩ := h.of_ k m hf
        simp only [Option.map_some, Option.some.injEq]
        rw [swp_o (fun e => by rw [e] at b; exact h1 b.symm) (fun e => by rw [e] at b; exact h2 b.symm)]
/-- Every item stands behind the one above it. -/
def Hp (n : Nat) (g : Nat → It) : Prop := ∀ j, 0 < j → j < n → le2 (g ((j - 1) / 2)) (g j)
/-- All but the one at i may be wrong: towards what is above it, and below it. -/
structure HBut (n : Nat) (g : Nat → It) (i : Nat) : Prop where
  oth : ∀ j, 0 < j → j < n → j ≠ i → (j - 1) / 2 ≠ i → le2 (g ((j - 1) / 2)) (g j)
  gra : ∀ j, 0 < i → j < n → 0 < j → (j - 1) / 2 = i → le2 (g ((i - 1) / 2)) (g j)
/-- Where rising from i0 stands. -/
structure HUp (n : Nat) (g : Nat → It) (i0 i : Nat) : Prop where
  le : i ≤ i0
  oth : ∀ j, 0 < j → j < n → j ≠ i → (i ≠ i0 ∨ (j - 1) / 2 ≠ i0) → le2 (g ((j - 1) / 2)) (g j)
  gra : ∀ j, 0 < i → j < n → 0 < j → (j - 1) / 2 = i → le2 (g ((i - 1) / 2)) (g j)
/-- Only what is below i may be wrong. -/
structure HDn (n : Nat) (g : Nat → It) (i : Nat) : Prop where
  oth : ∀ j, 0 < j → j < n → (j - 1) / 2 ≠ i → le2 (g ((j - 1) / 2)) (g j)
  gra : ∀ j, 0 < i → j < n → 0 < j → (j - 1) / 2 = i → le2 (g ((i - 1) / 2)) (g j)
theorem HBut.start {n : Nat} {g : Nat → It} {i : Nat} (h : HBut n g i) : HUp n g i i :=
  ⟨Nat.le_refl _, fun j h0 hn hj hp => h.oth j h0 hn hj (by rcases hp with hp | hp; exact absurd rfl hp; exact hp), h.gra⟩
theorem HUp.step {n : Nat} {g : Nat → It} {i0 i : Nat} (h : HUp n g i0 i) (hn : i0 < n) (hi : 0 < i) (hlt : lt2 (g i) (g ((i - 1) / 2))) : HUp n (swp g i ((i - 1) / 2)) i0 ((i - 1) / 2) := by
  have hle := h.le
  have hp : (i - 1) / 2 < i := by omega
  have hpi : (i - 1) / 2 ≠ i := by omega
  generalize hpp : (i - 1) / 2 = p at *
  have hpi0 : p ≠ i0 := by omega
  refine ⟨by omega, fun j h0 hj hjp _ => ?_, fun j h0 hj h0j hjp => ?_⟩
  · by_cases hji : j = i
    · subst hji
      rw [hpp, swp_j, swp_i]
      exact le2_of_lt hlt
    · rw [swp_o hji hjp]
      by_cases h1 : (j - 1) / 2 = i
      · rw [h1, swp_i]
        rw [← hpp]; exact h.gra j hi hj h0 h1
      · by_cases h2 : (j - 1) / 2 = p
        · rw [h2, swp_j]
          exact le2_trans (le2_of_lt hlt) (by rw [← h2]; exact h.oth j h0 hj hji (.inr (by omega)))
        · rw [swp_o h1 h2]
          refine h.oth j h0 hj hji ?_
          by_cases h3 : i = i0
          · exact .inr (by omega)
          · exact .inl h3
  · have hq : (p - 1) / 2 < p := by omega
    have e1 : le2 (g ((p - 1) / 2)) (g p) := h.oth p h0 (by omega) hpi (.inr (by omega))
    rw [swp_o (by omega) (by omega)]
    by_cases hji : j = i
    · subst hji; rw [swp_i]; exact e1
    · rw [swp_o hji (by omega)]
      exact le2_trans e1 (by rw [← hjp]; exact h.oth j h0j hj hji (.inr (by omega)))
theorem HUp.stop {n : Nat} {g : Nat → It} {i0 i : Nat} (h : HUp n g i0 i) (hs : 0 < i → ¬ lt2 (g i) (g ((i - 1) / 2))) : HDn n g i0 := by
  have hle := h.le
  have own : ∀ j, j = i → 0 < j → le2 (g ((j - 1) / 2)) (g j) := fun j hj h0 => by subst hj; exact not_lt2.1 (hs h0)
  constructor
  · intro j h0 hj hp
    by_cases hji : j = i
    · exact own j hji h0
    · exact h.oth j h0 hj hji (.inr hp)
  · intro j h0 hj h0j hp
    by_cases hii : i = i0
    · subst hii; exact h.gra j h0 hj h0j hp
    · have a : le2 (g i0) (g j) := by rw [← hp]; exact h.oth j h0j hj (by omega) (.inl hii)
      have b : le2 (g ((i0 - 1) / 2)) (g i0) := h.oth i0 h0 (by omega) (by omega) (.inl hii)
      exact le2_trans b a
/-- The least of i and of those below it that are there, looked at up to c. -/
structure Lst (n : Nat) (g : Nat → It) (i c m : Nat) : Prop where
  pl : m = i ∨ (m < n ∧ 2 * i + 1 ≤ m ∧ m < c)
  le : ∀ j, (j = i ∨ (2 * i + 1 ≤ j ∧ j < c)) → j < n → le2 (g m) (g j)
  lt : m ≠ i → lt2 (g m) (g i)
theorem Lst.start (n : Nat) (g : Nat → It) (i : Nat) : Lst n g i (2 * i + 1) i :=
  ⟨.inl rfl, fun j hj _ => by rcases hj with rfl | hj; exact le2_refl _; omega, fun h => absurd rfl h⟩
theorem Lst.take {n : Nat} {g : Nat → It} {i c m : Nat} (h : Lst n g i c m) (hc : 2 * i + 1 ≤ c) (hi : i < n) (hn : c < n) (hlt : lt2 (g c) (g m)) : Lst n g i (c + 1) c := by
  refine ⟨.inr ⟨hn, hc, by omega⟩, fun j hj hjn => ?_, fun _ => ?_⟩
  · by_cases hjc : j = c
    · subst hjc; exact le2_refl _
    · exact le2_trans (le2_of_lt hlt) (h.le j (by omega) hjn)
  · by_cases hm : m = i
    · rw [← hm]; exact hlt
    · have := h.lt hm; unfold lt2 at *; omega
theorem Lst.pass {n : Nat} {g : Nat → It} {i c m : Nat} (h : Lst n g i c m) (hs : c < n → ¬ lt2 (g c) (g m)) : Lst n g i (c + 1) m := by
  refine ⟨by rcases h.pl with h | h; exact .inl h; exact .inr (by omega), fun j hj hjn => ?_, h.lt⟩
  by_cases hjc : j = c
  · subst hjc; exact not_lt2.1 (hs hjn)
  · exact h.le j (by omega) hjn
theorem HDn.stop {n : Nat} {g : Nat → It} {i : Nat} (h : HDn n g i) (hi : i < n) (hl : Lst n g i (2 * i + 3) i) : Hp n g := by
  intro j h0 hj
  by_cases hp : (j - 1) / 2 = i
  · rw [hp]; exact hl.le j (.inr (by omega)) hj
  · exact h.oth j h0 hj hp
theorem HDn.step {n : Nat} {g : Nat → It} {i m : Nat} (h : HDn n g i) (hi : i < n) (hl : Lst n g i (2 * i + 3) m) (hm : m ≠ i) : HDn n (swp g i m) m := by
  have hml : m < n ∧ 2 * i + 1 ≤ m ∧ m < 2 * i + 3 := by rcases hl.pl with h | h; exact absurd h hm; exact h
  have hpm : (m - 1) / 2 = i := by omega
  have hlt := hl.lt hm
  constructor
  · intro j h0 hj hp
    by_cases hjm : j = m
    · subst hjm; rw [hpm, swp_i, swp_j]; exact le2_of_lt hlt
    · by_cases hji : j = i
      · subst hji
        rw [swp_i, swp_o (by omega) (by omega)]
        exact h.gra m h0 hml.1 (by omega) hpm
      · rw [swp_o hji hjm]
        by_cases h1 : (j - 1) / 2 = i
        · rw [h1, swp_i]; exact hl.le j (.inr (by omega)) hj
        · rw [swp_o h1 hp]; exact h.oth j h0 hj h1
  · intro j h0 hj h0j hp
    rw [hpm, swp_i, swp_o (by omega) (by omega), ← hp]
    exact h.oth j h0j hj (by omega)
theorem Hp.first {n : Nat} {g : Nat → It} (h : Hp n g) : ∀ i, i < n → le2 (g 0) (g i) := by
  intro i
  induction i using Nat.strongRecOn with
  | _ i ih =>
    intro hi
    by_cases h0 : i = 0
    · subst h0; exact le2_refl _
    · exact le2_trans (ih ((i - 1) / 2) (by omega) (by omega)) (h i (by omega) hi)
theorem Hp.but {n : Nat} {g : Nat → It} (h : Hp n g) {i : Nat} (hi : i < n) (x : It) : HBut n (put1 g i x) i := by
  constructor
  · intro j h0 hj hji hp
    unfold put1; rw [if_neg hp, if_neg hji]; exact h j h0 hj
  · intro j h0 hj h0j hp
    unfold put1; rw [if_neg (by omega), if_neg (by omega)]
    have a := h j h0j hj
    rw [hp] at a
    exact le2_trans (h i h0 hi) a
/-- One more at the end. -/
theorem Hp.more {n : Nat} {g : Nat → It} (h : Hp n g) (x : It) : HBut (n + 1) (put1 g n x) n := by
  constructor
  · intro j h0 hj hjn hp
    unfold put1; rw [if_neg (by omega), if_neg hjn]; exact h j h0 (by omega)
  · intro j h0 hj h0j hp; omega
theorem Hp.less {n : Nat} {g : Nat → It} (h : Hp (n + 1) g) : Hp n g := fun j h0 hj => h j h0 (by omega)
end Go.Proofs.Ytajcelmnblncaaa

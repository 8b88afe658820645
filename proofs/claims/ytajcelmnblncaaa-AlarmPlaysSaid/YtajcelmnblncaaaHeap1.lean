/- heap: what a heap's blocks hold; item.precedes, made, Long, set, swap. -/
import Derived.Test.YtajcelmnblncaaaHeapM
import Derived.Test.YtajcelmnblncaaaChg
import Derived.Test.YtajcelmnblncaaaRows
namespace Go.Proofs.Ytajcelmnblncaaa
open Go.RowKit Go.Maps
open Go.ChangeMaps (setBlock)
attribute [local go_sem] ext_cell ext_frozen Mix.calmUpon Mix.mUpon
def J64 (n : Int) : Prop := -9223372036854775808 ≤ n ∧ n ≤ 9223372036854775807
theorem j64_lit {x : Int} (h : J64 x) : (Lit.int .i64 x).wf = true := by
  obtain ⟨a, b⟩ := h
  simp [Lit.wf, IntKind.min, IntKind.max, IntKind.signed, IntKind.bits]; omega
theorem key64 : Keyed Try.prog 2 := int_keyed Try.underlying2
/-- Numbers as keys. -/
def K64 : KEnc Try.prog 2 Int where
  enc := fun x => .int .i64 x
  ok := J64
  lit := fun x h => ⟨.int .i64 x, by simp [keyOf, mapKey, Try.underlying2, j64_lit h]⟩
  inj := fun x y _ _ h => by injection h
/-- The cells of items. -/
def ics (g : Nat → It) : Nat → List Value
  | 0 => []
  | n + 1 => ics g n ++ [.int .i64 (g n).1, .int .i64 (g n).2]
theorem ics_len (g : Nat → It) : ∀ n, (ics g n).length = n * 2
  | 0 => rfl
  | n + 1 => by rw [ics, List.length_append, ics_len g n]; simp; omega
theorem ics_at (g : Nat → It) : ∀ n i, i < n → (ics g n)[i * 2]? = some (.int .i64 (g i).1) ∧ (ics g n)[i * 2 + 1]? = some (.int .i64 (g i).2)
  | n + 1, i, h => by
    rw [ics]
    by_cases he : i = n
    · subst he
      rw [List.getElem?_append_right (by rw [ics_len]; omega), List.getElem?_append_right (by rw [ics_len]; omega), ics_len]
      simp [show i * 2 + 1 - i * 2 = 1 by omega]
    · have hi : i < n := by omega
      rw [List.getElem?_append_left (by rw [ics_len]; omega), List.getElem?_append_left (by rw [ics_len]; omega)]
      exact ics_at g n i hi
theorem ics_congr {g h : Nat → It} : ∀ n, (∀ i, i < n → g i = h i) → ics g n = ics h n
  | 0, _ => rfl
  | n + 1, e => by rw [ics, ics, ics_congr n fun i hi => e i (by omega), e n (by omega)]
theorem ics_set (g : Nat → It) (x : It) : ∀ n i, i < n → ((ics g n).set (i * 2) (.int .i64 x.1)).set (i * 2 + 1) (.int .i64 x.2) = ics (put1 g i x) n
  | n + 1, i, h => by
    rw [ics, ics]
    by_cases he : i = n
    · subst he
      rw [List.set_append_right _ _ (by rw [ics_len]; omega), List.set_append_right _ _ (by rw [ics_len]; omega), ics_len]
      rw [ics_congr (g := put1 g i x) (h := g) i fun j hj => by unfold put1; rw [if_neg (by omega)]]
      simp [show i * 2 + 1 - i * 2 = 1 by omega, put1]
    · have hi : i < n := by omega
      have hl := ics_len g n
      rw [List.set_append_left _ _ (by omega), List.set_append_left _ _ (by rw [List.length_set]; omega), ics_set g x n i hi]
      simp [put1, show n ≠ i by omega]
/-- The places of keys, as the map has them. -/
def PM (w : World) (M : Nat) (f : Int → Option Nat) : Prop := ∃ L : List (Int × Value), MapK K64 w M L ∧ ∀ k, L.lookup k = (f k).map fun i => .int .i64 (i : Int)
theorem PM.chg {F : Nat → Prop} {w w' : World} {M : Nat} {f : Int → Option Nat} (h : PM w M f) (hc : Chg F w w') (hf : ¬ F M) : PM w' M f := by
  obtain ⟨L, a, b⟩ := h; exact ⟨L, a.chg hc hf, b⟩
theorem PM.lt {w : World} {M : Nat} {f : Int → Option Nat} (h : PM w M f) : M < w.heap.size := by obtain ⟨L, a, _⟩ := h; exact a.lt
/-- Block hp is a heap with n items, steps s; v: its slice; M: its map's block. -/
structure HS (w : World) (hp M : Nat) (v : Value) (n : Nat) (g : Nat → It) (f : Int → Option Nat) (s : Int) : Prop where
  obj : w.heap[hp]? = some (.cells #[v, .map (some M), .int .i64 s] 71 (0, 0))
  own : w.ownsRow 0 148 2 v n (ics g n)
  map : PM w M f
  vh : v.ownBlock ≠ some hp
  vM : v.ownBlock ≠ some M
  hM : hp ≠ M
  j64 : ∀ i, i < n → J64 (g i).1 ∧ J64 (g i).2
  big : n < 100000
/-- The blocks of a heap. -/
def hF (hp M : Nat) (v : Value) : Nat → Prop := fun k => k = hp ∨ k = M ∨ v.ownBlock = some k
/-- Those that setting changes. -/
def hG (M : Nat) (v : Value) : Nat → Prop := fun k => k = M ∨ v.ownBlock = some k
section
variable {w : World} {hp M : Nat} {v : Value} {n : Nat} {g : Nat → It} {f : Int → Option Nat} {s : Int}
theorem HS.lt (h : HS w hp M v n g f s) : ∀ k, hF hp M v k → k < w.heap.size := by
  rintro k (rfl | rfl | hk)
  · exact (Array.getElem?_eq_some_iff.1 h.obj).1
  · exact h.map.lt
  · exact (h.own.lt k hk).2
theorem HS.chg {F : Nat → Prop} {w' : World} (h : HS w hp M v n g f s) (hc : Chg F w w') (hf : ∀ k, hF hp M v k → ¬ F k) : HS w' hp M v n g f s :=
  ⟨by rw [hc.block hp (h.lt hp (.inl rfl)) (hf hp (.inl rfl))]; exact h.obj, ownsRow_chg h.own hc fun b hb => hf b (.inr (.inr hb)), h.map.chg hc (hf M (.inr (.inl rfl))), h.vh, h.vM, h.hM, h.j64, h.big⟩
theorem HS.below {w' : World} (h : HS w hp M v n g f s) (hb : Below w.heap.size w w') : HS w' hp M v n g f s :=
  h.chg (F := fun _ => False) (.of_below _ hb) fun _ _ => id
theorem HS.c0 (h : HS w hp M v n g f s) : w.cell? ⟨hp, 0, none⟩ = some v := by simp [World.cell?, h.obj]
theorem HS.c1 (h : HS w hp M v n g f s) : w.cell? ⟨hp, 1, none⟩ = some (.map (some M)) := by simp [World.cell?, h.obj]
theorem HS.c2 (h : HS w hp M v n g f s) : w.cell? ⟨hp, 2, none⟩ = some (.int .i64 s) := by simp [World.cell?, h.obj]
theorem HS.fz (h : HS w hp M v n g f s) (o : Nat) : w.frozen? ⟨hp, o, none⟩ = false := by simp [World.frozen?, h.obj]
/-- The slice, spelled. -/
theorem HS.form (h : HS w hp M v n g f s) : ∃ a cap, v = .slice a n cap ∧ n ≤ cap ∧ cap ≤ maxLen ∧ (0 < n → ∃ b, a = some ⟨b, 0, none⟩ ∧ b < w.heap.size ∧ b ≠ hp ∧ b ≠ M ∧ (∀ o, w.frozen? ⟨b, o, none⟩ = false) ∧
    ∀ i, i < n → w.cell? ⟨b, i * 2, none⟩ = some (.int .i64 (g i).1) ∧ w.cell? ⟨b, i * 2 + 1, none⟩ = some (.int .i64 (g i).2)) := by
  rcases h.own.2 with ⟨rfl, rfl⟩ | ⟨b, cap, cur, rfl, _, hg, hc, hm, hs, ht⟩
  · exact ⟨none, 0, rfl, Nat.le_refl _, by simp [maxLen], fun h => absurd h (by omega)⟩
  · refine ⟨_, cap, rfl, hc, hm, fun _ => ⟨b, rfl, (Array.getElem?_eq_some_iff.1 hg).1, fun e => h.vh (by rw [e]; rfl), fun e => h.vM (by rw [e]; rfl), fun o => by simp [World.frozen?, hg], fun i hi => ?_⟩⟩
    have e := h.own.cells (g := b) rfl
    obtain ⟨e0, e1⟩ := ics_at g n i hi
    have a0 := e _ _ e0; have a1 := e _ _ e1
    rw [Addr.add_lit] at a0 a1
    simp only [Nat.zero_add] at a0 a1
    exact ⟨a0, a1⟩
end
end Go.Proofs.Ytajcelmnblncaaa

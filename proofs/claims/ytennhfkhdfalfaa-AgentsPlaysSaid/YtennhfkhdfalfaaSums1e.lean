/- Contracts of sums.Right and mancipleref06.Right. -/
import Derived.Test.YtennhfkhdfalfaaVecR
import Derived.Test.YtennhfkhdfalfaaMix
namespace Go.Proofs.Ytennhfkhdfalfaa
open Go.RowKit
attribute [local go_sem] ext_cell ext_frozen Mix.calmUpon Mix.mUpon
/-- Four numbers, one a kind. -/
abbrev S4 (a : Nat → Int) : Value := .agg #[.int .i64 (a 0), .int .i64 (a 1), .int .i64 (a 2), .int .i64 (a 3)]
abbrev C4 (a : Nat → Int) : Array Value := #[.int .i64 (a 0), .int .i64 (a 1), .int .i64 (a 2), .int .i64 (a 3)]
theorem c4_get (a : Nat → Int) (k : Nat) (h : k < 4) : (C4 a)[k]? = some (.int .i64 (a k)) := by
  have : k = 0 ∨ k = 1 ∨ k = 2 ∨ k = 3 := by omega
  rcases this with rfl | rfl | rfl | rfl <;> rfl
theorem c4_cell (w : World) (a : Nat → Int) (t : TypeId) (k : Nat) (h : k < 4) : (w.alloc (.cells (C4 a) t)).cell? ⟨w.heap.size, k, none⟩ = some (.int .i64 (a k)) := by
  rw [World.cell?_alloc_new]; exact c4_get a k h
def KOk (a : Nat → Int) (k : Nat) : Prop := 0 ≤ a k ∧ a k ≤ 1152921504606846976
/-- Sums that may be. -/
def SOk (a : Nat → Int) : Prop := KOk a 0 ∧ KOk a 1 ∧ KOk a 2 ∧ KOk a 3
instance (a : Nat → Int) (k : Nat) : Decidable (KOk a k) := by unfold KOk; infer_instance
instance (a : Nat → Int) : Decidable (SOk a) := by unfold SOk; infer_instance
theorem sok_all {a : Nat → Int} (h : ∀ j, j < 4 → KOk a j) : SOk a := ⟨h 0 (by omega), h 1 (by omega), h 2 (by omega), h 3 (by omega)⟩
theorem sok_at {a : Nat → Int} (h : SOk a) (k : Nat) (hk : k < 4) : KOk a k := by
  obtain ⟨h0, h1, h2, h3⟩ := h
  have : k = 0 ∨ k = 1 ∨ k = 2 ∨ k = 3 := by omega
  rcases this with rfl | rfl | rfl | rfl <;> assumption
set_option maxHeartbeats 2000000 in
theorem sumsright (a : Nat → Int) : Pure Try.prog 75 #[S4 a] (.bool (decide (SOk a))) := by
  intro w
  go_enter Try.func75, Try.ntmps75
  go_wp2_with fail
  go_loop [4] (fun i => ∃ k : Nat, k ≤ 4 ∧ i = .int .i64 k ∧ Hid (∀ j, j < k → KOk a j)) (fun i => 4 - (intOf i).toNat)
  case atStart => exact ⟨0, by omega, rfl, Lib.hid (fun j hj => by omega)⟩
  case round =>
    obtain ⟨k, hk, rfl, HK⟩ := hrel
    by_cases hlt : k < 4
    · have hks : (k : Int) < 4 := by omega
      have hc := c4_cell w a 45 k hlt
      by_cases h0 : 0 ≤ a k
      · by_cases h1 : a k ≤ 1152921504606846976
        · have HN := Lib.hid (show ∀ j, j < k + 1 → KOk a j from fun j hj => by
            rcases Nat.lt_or_ge j k with h | h
            · exact HK.out j h
            · obtain rfl : j = k := by omega
              exact ⟨h0, h1⟩)
          go_wp2
          go_round
          case rel => exact ⟨k + 1, by omega, by go_num, HN⟩
          case measure => simp [intOf]; omega
        · have hn : ¬ SOk a := fun h => h1 (sok_at h k hlt).2
          have HN := Lib.hid hn
          have h2 : 1152921504606846976 < a k := by omega
          clear hn h1
          go_wp2
          go_ret
          exact ⟨by rw [decide_eq_false HN.out]; rfl, ba (Below.refl _ _) _⟩
      · have hn : ¬ SOk a := fun h => h0 (sok_at h k hlt).1
        have HN := Lib.hid hn
        have h2 : a k < 0 := by omega
        clear hn h0
        go_wp2
        go_ret
        exact ⟨by rw [decide_eq_false HN.out]; rfl, ba (Below.refl _ _) _⟩
    · obtain rfl : k = 4 := by omega
      have HN := Lib.hid (sok_all HK.out)
      go_wp2
      go_ret
      exact ⟨by rw [decide_eq_true HN.out]; rfl, ba (Below.refl _ _) _⟩
set_option maxHeartbeats 2000000 in
theorem refright6 (a : Nat → Int) : Pure Try.prog 110 #[S4 a] (.bool (decide (SOk a))) := by
  intro w
  go_enter Try.func110, Try.ntmps110
  go_wp2_with fail
  go_loop [3] (fun i => ∃ k : Nat, k ≤ 4 ∧ i = .int .i64 k ∧ Hid (∀ j, j < k → KOk a j)) (fun i => 4 - (intOf i).toNat)
  case atStart => exact ⟨0, by omega, rfl, Lib.hid (fun j hj => by omega)⟩
  case round =>
    obtain ⟨k, hk, rfl, HK⟩ := hrel
    by_cases hlt : k < 4
    · have hks : (k : Int) < 4 := by omega
      have hc := c4_cell w a 44 k hlt
      by_cases h0 : 0 ≤ a k
      · by_cases h1 : a k ≤ 1152921504606846976
        · have HN := Lib.hid (show ∀ j, j < k + 1 → KOk a j from fun j hj => by
            rcases Nat.lt_or_ge j k with h | h
            · exact HK.out j h
            · obtain rfl : j = k := by omega
              exact ⟨h0, h1⟩)
          go_wp2
          go_round
          case rel => exact ⟨k + 1, by omega, by go_num, HN⟩
          case measure => simp [intOf]; omega
        · have hn : ¬ SOk a := fun h => h1 (sok_at h k hlt).2
          have HN := Lib.hid hn
          have h2 : 1152921504606846976 < a k := by omega
          clear hn h1
          go_wp2
          go_ret
          exact ⟨by rw [decide_eq_false HN.out]; rfl, ba (Below.refl _ _) _⟩
      · have hn : ¬ SOk a := fun h => h0 (sok_at h k hlt).1
        have HN := Lib.hid hn
        have h2 : a k < 0 := by omega
        clear hn h0
        go_wp2
        go_ret
        exact ⟨by rw [decide_eq_false HN.out]; rfl, ba (Below.refl _ _) _⟩
    · obtain rfl : k = 4 := by omega
      have HN := Lib.hid (sok_all HK.out)
      go_wp2
      go_ret
      exact ⟨by rw [decide_eq_true HN.out]; rfl, ba (Below.refl _ _) _⟩
end Go.Proofs.Ytennhfkhdfalfaa

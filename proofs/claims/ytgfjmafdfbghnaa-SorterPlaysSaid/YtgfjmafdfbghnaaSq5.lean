/- The document's sorter: Small; an act's variable; what Do answers. -/
import Derived.Test.YtgfjmafdfbghnaaSq4
import Derived.Test.YtgfjmafdfbghnaaSq2
import Derived.Test.YtgfjmafdfbghnaaSumsR
namespace Go.Proofs.Ytgfjmafdfbghnaa
open Go.RowKit Go.Maps
attribute [local go_sem] ext_cell ext_frozen extC_cell extC_frozen Mix.calmUpon Mix.mUpon
set_option maxHeartbeats 2000000 in
theorem rsmall9 (a : Nat → Int) : Pure Try.prog 26 #[S4 a] (.bool (decide (Sm4 a))) := by
  intro w
  go_enter Try.func26, Try.ntmps26
  go_wp2_with fail
  go_loop [3] (fun i => ∃ k : Nat, k ≤ 4 ∧ i = .int .i64 k ∧ Hid (∀ j, j < k → 0 ≤ a j ∧ a j ≤ 9007199254740992)) (fun i => 4 - (intOf i).toNat)
  case atStart => exact ⟨0, by omega, rfl, Lib.hid (fun j hj => by omega)⟩
  case round =>
    obtain ⟨k, hk, rfl, HK⟩ := hrel
    by_cases hlt : k < 4
    · have hks : (k : Int) < 4 := by omega
      have hc := c4_cell w a 25 k hlt
      by_cases h0 : 0 ≤ a k
      · by_cases h1 : a k ≤ 9007199254740992
        · have HN := Lib.hid (show ∀ j, j < k + 1 → 0 ≤ a j ∧ a j ≤ 9007199254740992 from fun j hj => by
            rcases Nat.lt_or_ge j k with h | h
            · exact HK.out j h
            · obtain rfl : j = k := by omega
              exact ⟨h0, h1⟩)
          go_wp2
          go_round
          case rel => exact ⟨k + 1, by omega, by go_num, HN⟩
          case measure => simp [intOf]; omega
        · have hn : ¬ Sm4 a := fun h => h1 (h k hlt).2
          have HN := Lib.hid hn
          have h2 : 9007199254740992 < a k := by omega
          clear hn h1
          go_wp2
          go_ret
          exact ⟨by rw [decide_eq_false HN.out]; rfl, ba (Below.refl _ _) _⟩
      · have hn : ¬ Sm4 a := fun h => h0 (h k hlt).1
        have HN := Lib.hid hn
        have h2 : a k < 0 := by omega
        clear hn h0
        go_wp2
        go_ret
        exact ⟨by rw [decide_eq_false HN.out]; rfl, ba (Below.refl _ _) _⟩
    · obtain rfl : k = 4 := by omega
      have HN := Lib.hid (show Sm4 a from HK.out)
      go_wp2
      go_ret
      exact ⟨by rw [decide_eq_true HN.out]; rfl, ba (Below.refl _ _) _⟩
theorem refadd9 (a n : Nat → Int) (ha : SOk a) : ∃ r q, Pure Try.prog 29 #[S4 a, S4 n] (.tuple #[S4 r, .bool q]) ∧ (q = true → r = fun k => a k + n k) ∧ (Gv a n ↔ q = true ∧ Sm4 r) := by
  by_cases hn : SOk n
  · cases hq : decide (SOk fun k => a k + n k) with
    | false =>
      refine ⟨Z4, false, ?_, fun h => (by cases h), ⟨fun h => ?_, fun h => (by cases h.1)⟩⟩
      · exact refadd_both a n false ha hn hq
      · have := h.2.ok; simp [this] at hq
    | true =>
      refine ⟨fun k => a k + n k, true, ?_, fun _ => rfl, ⟨fun h => ⟨rfl, h.2⟩, fun h => ⟨hn, h.2⟩⟩⟩
      exact refadd_both a n true ha hn hq
  · refine ⟨Z4, false, refadd_no2 a n ha hn, fun h => (by cases h), ⟨fun h => absurd h.1 hn, fun h => (by cases h.1)⟩⟩
abbrev acells9 (a : A9) : Array Value := #[.int .i64 a.k, .int .i64 a.i, .int .i64 a.x, .int .i64 (a.n 0), .int .i64 (a.n 1), .int .i64 (a.n 2), .int .i64 (a.n 3)]
/-- A variable that holds an act. -/
def QB9 (w : World) (b : Nat) (a : A9) : Prop := w.heap[b]? = some (.cells (acells9 a) 32 (0, 0))
section
variable {w w' : World} {b : Nat} {a : A9} {T : Nat → Int} {v : Value} {i : Int} {c : Cl}
theorem QB9.made (w : World) (a : A9) : QB9 (w.alloc (.cells (acells9 a) 32)) w.heap.size a := heap_alloc_new w _
theorem QB9.lt (h : QB9 w b a) : b < w.heap.size := (Array.getElem?_eq_some_iff.1 h).1
theorem QB9.below (h : QB9 w b a) (hb : Below w.heap.size w w') : QB9 w' b a := (hb.block _ h.lt).trans h
theorem QB9.cells (h : QB9 w b a) : w.cell? ⟨b, 0, none⟩ = some (.int .i64 a.k) ∧ w.cell? ⟨b, 1, none⟩ = some (.int .i64 a.i) ∧ w.cell? ⟨b, 2, none⟩ = some (.int .i64 a.x) ∧ w.cell? ⟨b, 3, none⟩ = some (.int .i64 (a.n 0)) ∧ w.cell? ⟨b, 4, none⟩ = some (.int .i64 (a.n 1)) ∧ w.cell? ⟨b, 5, none⟩ = some (.int .i64 (a.n 2)) ∧ w.cell? ⟨b, 6, none⟩ = some (.int .i64 (a.n 3)) := by
  unfold QB9 at h; simp [World.cell?, h]
theorem res_m9e {fn : Func} {tmps : Array Value} {p q : Nat} {e : Value} (h : fn.results = #[.cell p 28, .tmp q]) (hp : tmps.getD p undef = .pointer (some ⟨b, 0, none⟩)) (hq : tmps.getD q undef = e) (hb : MB9 w b T v) :
    (results fn tmps).run Try.prog w = .ok (.tuple #[mv9 T v, e]) w := by
  rw [results_cell_tmp h, hp, hq]
  simp [asAddr, Result.andThen, hb.load]
theorem DB9.setw (h : DB9 w b ⟨i, c⟩) (x : Int) : DB9 (w.setCell ⟨b, 1, none⟩ (.int .i64 x)) b ⟨i, { c with wt := x }⟩ := heap_setCell_at _ h
theorem DB9.seta (h : DB9 w b ⟨i, c⟩) (q : Bool) : DB9 (w.setCell ⟨b, 6, none⟩ (.bool q)) b ⟨i, { c with aw := q }⟩ := heap_setCell_at _ h
theorem DB9.sets (h : DB9 w b ⟨i, c⟩) (r : Nat → Int) : DB9 ((((w.setCell ⟨b, 2, none⟩ (.int .i64 (r 0))).setCell ⟨b, 3, none⟩ (.int .i64 (r 1))).setCell ⟨b, 4, none⟩ (.int .i64 (r 2))).setCell ⟨b, 5, none⟩ (.int .i64 (r 3))) b ⟨i, { c with s := r }⟩ := heap_setCell_at _ (heap_setCell_at _ (heap_setCell_at _ (heap_setCell_at _ h)))
end
/-- What the document's Do answers. -/
def RetD9 (w : World) (v : Value) (n : Nat) (s : St) (e : Ending) (w' : World) : Prop := ∃ v' C', e = .returned (.tuple #[mv9 s.2.1 v', .int .i64 s.1]) ∧ RS 7 dcenc w' v' C' ∧ DC C' s.2.2 ∧ C'.length ≤ n + 1 ∧ (∀ b, v'.ownBlock = some b → v.ownBlock = some b ∨ w.heap.size ≤ b ∧ b < w'.heap.size) ∧ Below w.heap.size w w'
theorem set_with {C : List Dc} {t : Nat} {d : Dc} (ht : t < C.length) : ∀ (j : Nat) x, C[j]? = some x → (C.set t d)[j]? = some (if (j : Int) = (t : Int) then d else x) := fun j x hx => by
  rw [List.getElem?_set]
  by_cases e : t = j
  · subst e; rw [if_pos rfl, if_pos ht, if_pos rfl]
  · rw [if_neg e, if_neg (by omega)]; exact hx
theorem keep_with {C : List Dc} {d : Dc} : ∀ (j : Nat) x, C[j]? = some x → C[j]? = some (if (j : Int) = -1 then d else x) := fun j x hx => by
  rw [if_neg (by omega)]; exact hx
end Go.Proofs.Ytgfjmafdfbghnaa

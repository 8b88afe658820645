/- Slices of ints of the call's own, and the contract of mancipleref01.Digits. Condition: words. -/
import Derived.Test.YtfnfolpdbbnnlaaDoorWide2
import Derived.OwnWalk
import Derived.WalkSmall
namespace Go.Proofs.YtfnfolpdbbnnlaaDoor
open Go.RowKit
attribute [local go_sem] ext_cell ext_frozen

theorem infoInt : (Tryd.prog.info? 3).map (fun i => (i.zero, i.size, i.bytes)) = some (some (.int .i64 0), 1, 8) := by kernel_rfl
abbrev ints (l : List Int) : List Value := l.map (Value.int .i64)
/-- v is a slice that holds l, in memory that nothing else writes. -/
def Ints (w : World) (v : Value) (l : List Int) : Prop := w.ownsRow 0 3 1 v l.length (ints l)
theorem ownsRow_base {w : World} {base base' : Nat} {e : TypeId} {size : Nat} {v : Value} {n : Nat} {xs : List Value} (h : w.ownsRow base e size v n xs) (hb : base' ≤ base) : w.ownsRow base' e size v n xs := by
  obtain ⟨h1, h2⟩ := h
  refine ⟨h1, ?_⟩
  rcases h2 with h2 | ⟨g, cap, cur, a, b, c⟩
  · exact .inl h2
  · exact .inr ⟨g, cap, cur, a, Nat.le_trans hb b, c⟩
theorem ownsRow_grow {w w' : World} {base : Nat} {e : TypeId} {size : Nat} {v : Value} {n : Nat} {xs : List Value} (h : w.ownsRow base e size v n xs) (hb : Below w.heap.size w w') : w'.ownsRow base e size v n xs := by
  have hlt := h.lt
  obtain ⟨h1, h2⟩ := h
  refine ⟨h1, ?_⟩
  rcases h2 with h2 | ⟨g, cap, cur, a, b, c, d⟩
  · exact .inl h2
  · exact .inr ⟨g, cap, cur, a, b, by rw [hb.block g (hlt g (by rw [a]; rfl)).2]; exact c, d⟩
theorem Ints.grow {w w' : World} {v : Value} {l : List Int} (h : Ints w v l) (hb : Below w.heap.size w w') : Ints w' v l := ownsRow_grow h hb
theorem Ints.of {w : World} {base n : Nat} {v : Value} {l : List Int} (h : w.ownsRow base 3 1 v n (ints l)) (hn : n = l.length) : Ints w v l := by
  subst hn; exact ownsRow_base h (Nat.zero_le _)
/-- The cells of such a slice that has elements. -/
theorem Ints.open {w : World} {v : Value} {l : List Int} (h : Ints w v l) (hl : 0 < l.length) : ∃ g cap, v = .slice (some ⟨g, 0, none⟩) l.length cap ∧ g < w.heap.size ∧ l.length ≤ cap ∧ cap ≤ maxLen ∧ (∀ i, i < l.length → w.cell? ⟨g, i, none⟩ = some (.int .i64 (l.getD i 0))) ∧ (∀ i, w.frozen? ⟨g, i, none⟩ = false) := by
  have h0 := h
  obtain ⟨h1, h2⟩ := h
  rcases h2 with ⟨_, h2⟩ | ⟨g, cap, cur, a, b, c, d, e, f⟩
  · omega
  · refine ⟨g, cap, a, (World.ownsRow.lt h0 g (by rw [a]; rfl)).2, d, e, fun i hi => ?_, fun i => ?_⟩
    · subst a
      rw [World.ownsRow.cellAt h0 i (by omega)]
      simp [List.getElem?_map, List.getElem?_eq_getElem hi, List.getD]
    · subst a; exact World.ownsRow.frozenAt h0 i

/-- k digits of a number to the base 65536, the lowest one first. -/
def digs : Nat → Int → List Int
  | 0, _ => []
  | k + 1, v => v % 65536 :: digs k (v / 65536)
theorem digs_len : ∀ k v, (digs k v).length = k
  | 0, _ => rfl
  | k + 1, v => by simp [digs, digs_len k]
theorem digs_snoc : ∀ k v, digs (k + 1) v = digs k v ++ [v / 65536 ^ k % 65536]
  | 0, v => by simp [digs]
  | k + 1, v => by
    rw [digs, digs_snoc k]
    show _ = v % 65536 :: (digs k (v / 65536)) ++ _
    rw [List.cons_append, Int.ediv_ediv_of_nonneg (by decide), Int.pow_succ, Int.mul_comm (65536 ^ k)]

/-- A call that returns a slice of ints of its own. -/
def RetInts (w : World) (l : List Int) (e : Ending) (w' : World) : Prop := ∃ v, e = .returned v ∧ Ints w' v l ∧ Below w.heap.size w w'

theorem own_more {w wr w1 : World} {v v' : Value} {k : Nat} {l : List Int} {x : Int} {o : Obj} (hown : wr.ownsRow w.heap.size 3 1 v k (ints l)) (hb : Below w.heap.size w wr)
    (hown' : w1.ownsRow w.heap.size 3 1 v' (k + 1) (ints l ++ [.int .i64 x])) (hgrow : (wr.alloc o).grownBy w1 v.ownBlock) :
    w1.ownsRow w.heap.size 3 1 v' (k + 1) (ints (l ++ [x])) ∧ Below w.heap.size w w1 := by
  refine ⟨by simpa [ints] using hown', (hb.alloc hb.size o).grown hgrow (by have := hb.size; simp; omega) (fun j hj => (hown.lt j hj).1)⟩

set_option maxHeartbeats 1000000 in
theorem digits_any (h l : Int) (hh : Word h) (hl : Word l) (w : World) : Calls Tryd.prog 92 #[u h, u l] w (RetInts w (digs 4 l ++ digs 4 h)) := by
  obtain ⟨i0, hi, hz0, hz1, hz2⟩ := info_parts infoInt
  obtain ⟨h0, h1⟩ := hh; obtain ⟨l0, l1⟩ := hl
  go_enter Tryd.func92, Tryd.ntmps92
  go_wp2
  go_loopw [1, 5, 6] (fun x v i wr => ∃ (k : Nat) (y : Int), k ≤ 4 ∧ i = .int .i64 k ∧ x = u y ∧ 0 ≤ y ∧ y < 18446744073709551616 ∧ Hid (y = l / 65536 ^ k) ∧ wr.ownsRow w.heap.size 3 1 v k (ints (digs k l)) ∧ Below w.heap.size w wr) (fun _ _ i _ => 4 - (intOf i).toNat)
  case atStart => exact ⟨0, l, by omega, rfl, rfl, l0, l1, by show l = l / 65536 ^ 0; simp, World.ownsRow_nil _ _ _ _, Below.refl _ _⟩
  case round =>
    obtain ⟨k, y, hk, rfl, rfl, y0, y1, hy, hown, hb⟩ := hrel
    by_cases hlt : k < 4
    · have hks : (k : Int) < 4 := by omega
      have hbs := hb.size
      go_wp2_with (at_builtin; refine wpList_append_own _ rfl _ _ 68 rfl w.heap.size 3 i0 (.int .i64 0) 1 8 Tryd.underlying68 hi hz0 hz1 hz2 rfl (by decide) _ _ _ rfl (hown.alloc _) ⟨_, 0, none⟩ 1 1 [.int .i64 (y % 65536)] rfl rfl ?c1 ?c2 ?c3 ?c4 ?c5 ?_)
      case c1 => intro j u' hj; cases j <;> simp at hj; subst hj; simp [Addr.add, go_sem]
      case c2 => intro u' hu; simp at hu; subst hu; rfl
      case c3 => unfold maxLen; omega
      case c4 => omega
      case c5 => simp; omega
      intro v' w1 hown' hgrow _
      obtain ⟨hown1, hb1⟩ := own_more hown hb hown' hgrow
      clear hown' hgrow hown hb
      go_wp2
      go_roundw
      case rel => exact ⟨k + 1, y / 65536, by omega, by go_num, rfl, by omega, by omega, by show y / 65536 = l / 65536 ^ (k + 1); rw [hy.out, Int.ediv_ediv_of_nonneg (Int.pow_nonneg (by decide)), Int.pow_succ], by rw [digs_snoc, ← hy.out]; exact hown1, hb1⟩
      case measure => simp [intOf]; omega
    · obtain rfl : k = 4 := by omega
      clear hlt hy
      simp only [show ((4 : Nat) : Int) = 4 from rfl]
      go_wp2
      go_loopw [0, 5, 7] (fun x v i wr => ∃ (k : Nat) (y : Int), k ≤ 4 ∧ i = .int .i64 k ∧ x = u y ∧ 0 ≤ y ∧ y < 18446744073709551616 ∧ Hid (y = h / 65536 ^ k) ∧ wr.ownsRow w.heap.size 3 1 v (4 + k) (ints (digs 4 l ++ digs k h)) ∧ Below w.heap.size w wr) (fun _ _ i _ => 4 - (intOf i).toNat)
      case atStart => exact ⟨0, h, by omega, rfl, rfl, h0, h1, by show h = h / 65536 ^ 0; simp, by simpa [digs] using hown, hb⟩
      case round =>
        rename_i wr0
        clear hown hb
        obtain ⟨k, y', hk, rfl, rfl, y0', y1', hy, hown, hb⟩ := hrel
        rename_i wr
        by_cases hlt : k < 4
        · have hks : (k : Int) < 4 := by omega
          have hbs := hb.size
          go_wp2_with (at_builtin; refine wpList_append_own _ rfl _ _ 68 rfl w.heap.size 3 i0 (.int .i64 0) 1 8 Tryd.underlying68 hi hz0 hz1 hz2 rfl (by decide) _ _ _ rfl (hown.alloc _) ⟨_, 0, none⟩ 1 1 [.int .i64 (y' % 65536)] rfl rfl ?d1 ?d2 ?d3 ?d4 ?d5 ?_)
          case d1 => intro j u' hj; cases j <;> simp at hj; subst hj; simp [Addr.add, go_sem]
          case d2 => intro u' hu; simp at hu; subst hu; rfl
          case d3 => unfold maxLen; omega
          case d4 => omega
          case d5 => simp; omega
          intro v' w1 hown' hgrow _
          obtain ⟨hown1, hb1⟩ := own_more hown hb hown' hgrow
          clear hown' hgrow hown hb
          go_wp2
          go_roundw
          case rel => exact ⟨k + 1, y' / 65536, by omega, by go_num, rfl, by omega, by omega, by show y' / 65536 = h / 65536 ^ (k + 1); rw [hy.out, Int.ediv_ediv_of_nonneg (Int.pow_nonneg (by decide)), Int.pow_succ], by rw [digs_snoc k h, ← hy.out, ← List.append_assoc]; exact hown1, hb1⟩
          case measure => simp [intOf]; omega
        · obtain rfl : k = 4 := by omega
          clear hlt hy
          go_wp2
          go_ret
          exact ⟨_, rfl, Ints.of hown (by simp [digs_len]), hb⟩
end Go.Proofs.YtfnfolpdbbnnlaaDoor

/- Contract of the closure in conf.Text: a number's decimal letters are appended to the captured row, behind a blank if there are some already. Condition: the powers of ten lie in their variable. -/
import Derived.Test.YtlhljioncgddeaaDoorConf3
import Derived.Test.YtlhljioncgddeaaDoorItoa
import Derived.Lib.BufferWrite
import Derived.OwnWalk
import Derived.Laws.OwnMore
namespace Go.Proofs.YtlhljioncgddeaaDoor
open Go.RowKit Go.Proofs
attribute [local go_sem] ext_cell ext_frozen Mix.calmUpon Mix.mUpon
theorem infoU8 : (Tryd.prog.info? 5).map (fun i => (i.zero, i.size, i.bytes)) = some (some (.int .u8 0), 1, 1) := by kernel_rfl
/-- The captured variable at block v holds a row with these letters. -/
structure TV (v : Nat) (w : World) (l : List UInt8) : Prop where
  ex : ∃ sv, w.cell? ⟨v, 0, none⟩ = some sv ∧ w.ownsRow (v + 1) 5 1 sv l.length (Lib.byteCells l)
  fz : w.frozen? ⟨v, 0, none⟩ = false
  lt : v < w.heap.size
abbrev TBel (v : Nat) (w : World) : Prop := Lib.TabBelow Tryd.prog v w "internal/strconv.uint64pow10" .u64 Lib.pow10Tab
theorem row_slice {w : World} {B E z n : Nat} {v : Value} {xs : List Value} (h : w.ownsRow B E z v n xs) : ∃ a c, v = .slice a n c := by
  rcases h.2 with ⟨h1, h0⟩ | ⟨g, cap, cur, h1, _⟩
  · subst h0; exact ⟨_, _, h1⟩
  · exact ⟨_, _, h1⟩
set_option maxRecDepth 100000 in
set_option maxHeartbeats 2000000 in
theorem add_nil (v : Nat) (n : Int) (h0 : -9223372036854775808 ≤ n) (h1 : n ≤ 9223372036854775807) (w : World) (hV : TV v w []) (hT : TBel v w) :
    Calls Tryd.prog 63 #[.int .i64 n, .pointer (some ⟨v, 0, none⟩)] w fun e w' => e = .returned (.tuple #[]) ∧ TV v w' (Lib.itoa n) ∧ Below v w w' := by
  obtain ⟨⟨sv, hc, hown⟩, hf, hlt⟩ := hV
  have HO := Lib.hid hown
  have HT := Lib.hid hT
  clear hT
  obtain ⟨a, c, rfl⟩ := row_slice hown
  clear hown
  go_enter Tryd.func63, Tryd.ntmps63
  go_wp2_with fail
  refine (Lb.Tryd.strconv_AppendInt_10 (v + 1) 0 n h0 h1 _ [] _ HO.out (by omega) (by omega) (fun w' hb => HT.out w' (hb.mono (by omega)))).mono ?_
  rintro e w1 ⟨v', rfl, hown', hb1, _⟩
  obtain ⟨a', c', rfl⟩ := row_slice hown'
  have HO1 := Lib.hid hown'
  have HB := Lib.hid hb1
  have k0 : w1.cell? ⟨v, 0, none⟩ = some (.slice a 0 c) := (hb1.cell (p := ⟨v, 0, none⟩) (by show v < v + 1; omega)).trans hc
  have f0 : w1.frozen? ⟨v, 0, none⟩ = false := (hb1.frozen (p := ⟨v, 0, none⟩) (by show v < v + 1; omega)).trans hf
  have z0 : v < w1.heap.size := Nat.lt_of_lt_of_le hlt hb1.size
  clear hown' hb1 hc hf
  go_wp2
  go_end0
  refine ⟨rfl, ⟨⟨_, by simp [go_sem, k0]; rfl, ?_⟩, by simp [go_sem, f0], by simp; exact z0⟩, ?_⟩
  · have h := ownsRow_setCell_below HO1.out (a := ⟨v, 0, none⟩) (Nat.lt_succ_self v) (.slice a' (0 + (Lib.itoa n).length) c')
    rw [Nat.zero_add, List.nil_append] at h
    exact h
  · exact (HB.out.mono (Nat.le_succ _)).setCell (Nat.le_refl _) _
set_option maxRecDepth 100000 in
set_option maxHeartbeats 2000000 in
theorem add_cons (v : Nat) (n : Int) (h0 : -9223372036854775808 ≤ n) (h1 : n ≤ 9223372036854775807) (l : List UInt8) (hl : 0 < l.length) (hl2 : l.length ≤ 1000) (w : World) (hV : TV v w l) (hT : TBel v w) :
    Calls Tryd.prog 63 #[.int .i64 n, .pointer (some ⟨v, 0, none⟩)] w fun e w' => e = .returned (.tuple #[]) ∧ TV v w' (l ++ 32 :: Lib.itoa n) ∧ Below v w w' := by
  obtain ⟨i0, hi, hz0, hz1, hz2⟩ := info_parts infoU8
  obtain ⟨⟨sv, hc, hown⟩, hf, hlt⟩ := hV
  have HT := Lib.hid hT
  clear hT
  obtain ⟨a, c, rfl⟩ := row_slice hown
  have hlI : 0 < (l.length : Int) := by omega
  go_enter Tryd.func63, Tryd.ntmps63
  go_wp2_with (at_builtin; refine wpList_append_own _ rfl _ _ 84 rfl (v + 1) 5 i0 (.int .u8 0) 1 1 Tryd.underlying84 hi hz0 hz1 hz2 rfl (by decide) _ _ _ rfl (hown.alloc _) ⟨_, 0, none⟩ 1 1 [.int .u8 32] rfl rfl ?c1 ?c2 ?c3 ?c4 ?c5 ?_)
  case c1 => intro j u' hj; cases j <;> simp at hj; subst hj; simp [Addr.add, go_sem]
  case c2 => intro u' hu; simp at hu; subst hu; rfl
  case c3 => unfold maxLen; omega
  case c4 => omega
  case c5 => simp; omega
  intro v1 w1 hown1 hgrow _
  have hb1 : Below (v + 1) w w1 := ((Below.refl _ _).alloc (by omega) _).grown hgrow (by simp; omega) (fun j hj => (hown.lt j hj).1)
  obtain ⟨a1, c1, rfl⟩ := row_slice hown1
  have k0 : w1.cell? ⟨v, 0, none⟩ = some (.slice a l.length c) := (hb1.cell (p := ⟨v, 0, none⟩) (by show v < v + 1; omega)).trans hc
  have f0 : w1.frozen? ⟨v, 0, none⟩ = false := (hb1.frozen (p := ⟨v, 0, none⟩) (by show v < v + 1; omega)).trans hf
  have z0 : v < w1.heap.size := Nat.lt_of_lt_of_le hlt hb1.size
  have HO1 := Lib.hid hown1
  have HB1 := Lib.hid hb1
  clear hgrow hown1 hown hb1 hc hf
  go_wp2_with fail
  have h2 := ownsRow_setCell_below HO1.out (a := ⟨v, 0, none⟩) (Nat.lt_succ_self v) (.slice a1 (l.length + 1) c1)
  have hbS : Below v w (w1.setCell ⟨v, 0, none⟩ (.slice a1 (l.length + 1) c1)) := (HB1.out.mono (Nat.le_succ _)).setCell (Nat.le_refl _) _
  refine (Lb.Tryd.strconv_AppendInt_10 (v + 1) (l.length + 1) n h0 h1 _ _ _ h2 (by simp; omega) (by omega) (fun w' hb => HT.out w' (hbS.trans (hb.mono (by omega))))).mono ?_
  rintro e w2 ⟨v', rfl, hown', hb2, _⟩
  obtain ⟨a', c', rfl⟩ := row_slice hown'
  have HO2 := Lib.hid hown'
  have m0 : w2.cell? ⟨v, 0, none⟩ = some (.slice a1 (l.length + 1) c1) := (hb2.cell (p := ⟨v, 0, none⟩) (by show v < v + 1; omega)).trans (by simp [go_sem, k0])
  have g0 : w2.frozen? ⟨v, 0, none⟩ = false := (hb2.frozen (p := ⟨v, 0, none⟩) (by show v < v + 1; omega)).trans (by simp [go_sem, f0])
  have y0 : v < w2.heap.size := Nat.lt_of_lt_of_le z0 (by have := hb2.size; simp at this; exact this)
  have HB2 := Lib.hid (hbS.trans (hb2.mono (Nat.le_succ _)))
  clear hown' hb2 h2 hbS k0 f0
  go_wp2
  go_end0
  have el : (l ++ 32 :: Lib.itoa n).length = l.length + 1 + (Lib.itoa n).length := by simp; omega
  have eb : Lib.byteCells (l ++ 32 :: Lib.itoa n) = Lib.byteCells l ++ [.int .u8 32] ++ Lib.byteCells (Lib.itoa n) := by simp [Lib.byteCells]
  refine ⟨rfl, ⟨⟨_, by simp [go_sem, m0]; rfl, ?_⟩, by simp [go_sem, g0], by simp; exact y0⟩, HB2.out.setCell (Nat.le_refl _) _⟩
  have h := ownsRow_setCell_below HO2.out (a := ⟨v, 0, none⟩) (Nat.lt_succ_self v) (.slice a' (l.length + 1 + (Lib.itoa n).length) c')
  rw [el, eb]
  exact h
end Go.Proofs.YtlhljioncgddeaaDoor

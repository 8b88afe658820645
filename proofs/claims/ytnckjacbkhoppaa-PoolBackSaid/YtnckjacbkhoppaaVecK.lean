/- A map from slots to amounts that a call makes. -/
import Derived.Test.YtnckjacbkhoppaaVecV
import Derived.Maps.Own
import Derived.Maps.OwnOps
import Derived.Maps.OwnSet
import Derived.Maps.Views
import Derived.DeepKeys4
namespace Go.Proofs.Ytnckjacbkhoppaa
open Go.RowKit Go.Maps Go.WideMaps
attribute [local go_sem] ext_cell ext_frozen Mix.calmUpon Mix.mUpon
theorem laidB : laidOutB Try.prog = true := by kernel_rfl
theorem i64_lit {x : Int} (h : I64 x) : (Lit.int .i64 x).wf = true := by
  obtain ⟨a, b⟩ := h
  simp [Lit.wf, IntKind.min, IntKind.max, IntKind.signed, IntKind.bits]; omega
theorem rowSlot : 150 < Try.prog.types.size := of_decide_eq_true (by kernel_rfl)
theorem lawSlot : Keyed Try.prog 150 := Keyed.of_law (deep_law_laid laidB (m := 2) (by omega) rowSlot (by kernel_rfl) (by kernel_rfl))
/-- A slot, as a key. -/
def slotK (k r : Int) : Lit := .string (keyBytes [.int .i64 k, .int .i64 r])
theorem keySlot : Try.prog.keyType 150 = true := by kernel_rfl
theorem cellsSlot : Try.prog.cellsOf 150 = 2 := by kernel_rfl
theorem cellsInt : Try.prog.cellsOf 3 = 1 := by kernel_rfl
theorem sizeT : ∃ m, Try.prog.types.size = m + 1 := ⟨Try.prog.types.size - 1, by have := rowSlot; omega⟩
theorem slotKey (k r : Int) (hk : I64 k) (hr : I64 r) : keyOf Try.prog 150 (.agg #[.int .i64 k, .int .i64 r]) = some (slotK k r) := by
  have wk := i64_lit hk; have wr := i64_lit hr
  obtain ⟨m, hm⟩ := sizeT
  unfold keyOf
  simp only [Try.underlying150]
  rw [if_pos (by simp [keySlot, Value.formed, Try.underlying150, cellsSlot]), hm]
  unfold Program.keyLits
  simp only [Try.underlying150, Value.cells]
  rw [if_pos (by constructor; (· rw [cellsSlot]; rfl); (· kernel_rfl))]
  simp [Program.keyLits, Try.underlying3, wk, wr, cellsInt, slotK]
theorem slotK_ne {k r k' r' : Int} (hk : I64 k) (hr : I64 r) (hk' : I64 k') (hr' : I64 r') (h : ¬ (k = k' ∧ r = r')) : slotK k r ≠ slotK k' r' := fun he => h (by
  have := lawSlot.inj (slotKey k r hk hr) (by rw [he]; exact slotKey k' r' hk' hr')
  injection this with this
  simp at this
  exact this)
theorem slotK_key (k r : Int) : WideAt.IsKeyLit (slotK k r) := by unfold slotK; trivial
theorem zeroI64 (w : World) : (zeroValue 2).run Try.prog w = .ok (.int .i64 0) w := by kernel_rfl
theorem makeAm (w : World) : (Instr.makeMap 183 none).run Try.prog w = .ok (.map (some w.heap.size)) (w.alloc (.map #[] 0)) := by kernel_rfl
/-- Block b is a map of the call's own that has at each slot what S says. -/
def OM (w : World) (b n : Nat) (S : Int → Int → Int) : Prop := ∃ D : DataW Unit, IsMap D ∧ w.ownsMap Try.prog 150 (plainElem Try.prog 2) b n D ∧ ∀ k r, I64 k → I64 r → D.atKey (slotK k r) (.lit (.int .i64 0)) = .lit (.int .i64 (S k r))
theorem OM.made (w : World) : OM (w.alloc (.map #[] 0)) w.heap.size 0 (fun _ _ => 0) := ⟨_, isMap_empty, World.ownsMap_made _ _ _ _, fun _ _ _ _ => rfl⟩
theorem OM.lt {w : World} {b n : Nat} {S : Int → Int → Int} (h : OM w b n S) : b < w.heap.size := by obtain ⟨D, _, h1, _⟩ := h; exact h1.lt
theorem OM.kept {w w' : World} {b n : Nat} {S : Int → Int → Int} {row : Option Nat} (h : OM w b n S) (hg : w.grownBy w' row) (hne : some b ≠ row) : OM w' b n S := by
  obtain ⟨D, h0, h1, h2⟩ := h; exact ⟨D, h0, h1.kept hg hne, h2⟩
theorem OM.below {w w' : World} {b n : Nat} {S : Int → Int → Int} (h : OM w b n S) (hb : Below w.heap.size w w') : OM w' b n S := by
  obtain ⟨D, h0, h1, h2⟩ := h
  have hlt := h1.lt
  obtain ⟨es, clock, e1, e2⟩ := h1
  exact ⟨D, h0, ⟨es, clock, (hb.block b hlt).trans e1, e2⟩, h2⟩
set_option maxRecDepth 100000 in
theorem OM.look {w : World} {b n : Nat} {S : Int → Int → Int} (h : OM w b n S) {k r : Int} (hk : I64 k) (hr : I64 r) : (Instr.lookup 183 (.map (some b)) (.agg #[.int .i64 k, .int .i64 r]) false).run Try.prog w = .ok (.int .i64 (S k r)) w := by
  obtain ⟨D, h0, h1, h2⟩ := h
  obtain ⟨c, hrun, hat, _⟩ := h1.lookup_int lawSlot Try.underlying183 Try.underlying2 (zeroI64 _) (slotKey k r hk hr)
  have e := (h2 k r hk hr).symm.trans hat
  injection e with e
  injection e with _ e
  rw [hrun, e]
set_option maxRecDepth 100000 in
theorem OM.store {w : World} {b n : Nat} {S : Int → Int → Int} (h : OM w b n S) (hn : n < maxLen) {k r x : Int} (hk : I64 k) (hr : I64 r) (hx : I64 x) :
    ∃ w', (Instr.mapUpdate 183 (.map (some b)) (.agg #[.int .i64 k, .int .i64 r]) (.int .i64 x)).run Try.prog w = .ok () w' ∧ OM w' b (n + 1) (fun k' r' => if k = k' ∧ r = r' then x else S k' r') ∧ w.grownBy w' (some b) := by
  obtain ⟨D, h0, h1, h2⟩ := h
  obtain ⟨w', hrun, how, hg⟩ := h1.update lawSlot Try.underlying183 hn (slotKey k r hk hr) (plainElem_int Try.underlying2 (i64_lit hx))
  refine ⟨w', hrun, ⟨_, h0.put _ _, how, fun k' r' hk' hr' => ?_⟩, hg⟩
  show _ = DataW.lit (Lit.int .i64 (if k = k' ∧ r = r' then x else S k' r'))
  by_cases he : k = k' ∧ r = r'
  · obtain ⟨rfl, rfl⟩ := he
    rw [if_pos ⟨rfl, rfl⟩]; exact atKey_put_same h0 (slotK_key _ _) _ _
  · rw [if_neg he, atKey_put_other (slotK_ne hk' hr' hk hr fun e => he ⟨e.1.symm, e.2.symm⟩)]; exact h2 k' r' hk' hr'
end Go.Proofs.Ytnckjacbkhoppaa

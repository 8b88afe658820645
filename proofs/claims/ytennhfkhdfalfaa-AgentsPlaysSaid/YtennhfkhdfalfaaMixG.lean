/- Regions that draw their order and append to a row that stood there before: the class of worlds in which all but that row is as it was. -/
import Derived.Test.YtennhfkhdfalfaaMix
import Derived.OwnWalk
import Derived.Maps.AppendAt
namespace Go.Proofs.Ytennhfkhdfalfaa.Mix
open Go.RowKit
variable {P : Program} {md : Region.Mode} {ops : Array Oper}
abbrev OverG (W : World) (row : Option Nat) : World → Prop := fun w => W.grownBy w row
theorem grown_of {W w : World} (row : Option Nat) (h : Below W.heap.size W w) : W.grownBy w row := ⟨h.os, h.tape, h.output, h.size, fun k hk _ => h.block k hk⟩
theorem grown_more {W w w' : World} {row : Option Nat} (h : W.grownBy w row) (hg : Below w.heap.size w w') : W.grownBy w' row := h.trans (grown_of row hg)
theorem overG_closed (W : World) (row : Option Nat) : Closed (OverG W row) := fun _ _ h hg => grown_more h hg
theorem regionG {id : Nat} {Q : Exit → Act → World → Prop} {a : Act} {w : World} {l : List Oper} (row : Option Nat) (hm : P.follows .mixedOrders = true)
    (h : ∀ w', Grow w w' → mAny P .any l.toArray (OverG w row) (fun a w => Q .normal a w) l.length (Array.replicate l.length false) a w') : (Code.region id l.toArray true).wp P Q a w :=
  region (OverG w row) hm (by simpa using h w.drew (bd (Below.refl _ _)))
/-- A world in which all but the row is as it was. -/
def ExtG (W : World) (row : Option Nat) : Type := { w : World // W.grownBy w row }
instance ExtG.some (W : World) (row : Option Nat) : Nonempty (ExtG W row) := ⟨⟨W, rfl, rfl, rfl, Nat.le_refl _, fun _ _ _ => rfl⟩⟩
def extG (W : World) (row : Option Nat) (x : ExtG W row) : World := x.val
theorem extG_grown (W : World) (row : Option Nat) (x : ExtG W row) : W.grownBy (extG W row x) row := x.property
theorem extG_cell (W : World) (row : Option Nat) (x : ExtG W row) (b o : Nat) (h : b < W.heap.size) (hne : row ≠ some b) : (extG W row x).cell? ⟨b, o, none⟩ = W.cell? ⟨b, o, none⟩ :=
  World.cell?_of_block (a := ⟨b, o, none⟩) (x.property.block b h (Ne.symm hne))
theorem extG_frozen (W : World) (row : Option Nat) (x : ExtG W row) (b o : Nat) (h : b < W.heap.size) (hne : row ≠ some b) : (extG W row x).frozen? ⟨b, o, none⟩ = W.frozen? ⟨b, o, none⟩ :=
  World.frozen?_of_block (a := ⟨b, o, none⟩) (x.property.block b h (Ne.symm hne))
theorem take_exG (W : World) (row : Option Nat) {Q : Act → World → Prop} (i : Nat) {oi : Oper} {fuel : Nat} {listed : Array Bool} {a : Act} {w : World} (hi : ops[i]? = some oi)
    (hs : Region.noSelect ops = true) (hf : Region.free md ops listed i = true) (hr : (Region.ready md ops listed).contains i = true) (hw : Region.wanted oi (yielded ops a.tmps) = true)
    (h : ∀ K : Act → Prop, (∀ a', mAny P md ops (OverG W row) Q fuel (listed.setIfInBounds i true) a' w → K a') → ∃ v, (∀ x : ExtG W row, calmUpon P (extG W row x) v ((execOp a.eval oi).run P (extG W row x))) ∧ K (a.put oi.dst v)) :
    mAny P md ops (OverG W row) Q (fuel + 1) listed a w := by
  obtain ⟨v, h1, h2⟩ := h _ (fun _ h => h)
  exact take (overG_closed W row) i hi hs hf hr (.inl ⟨hw, fun w hx => h1 ⟨w, hx⟩⟩) h2
end Go.Proofs.Ytennhfkhdfalfaa.Mix

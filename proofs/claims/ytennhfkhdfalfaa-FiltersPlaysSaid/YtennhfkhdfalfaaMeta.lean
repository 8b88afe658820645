/- Regions that draw their order and whose calls make new memory but change nothing that was there: one walk in the order of the text serves every order. Conditions: every operation yields one value in each world that extends the first one. -/
import Derived.WalkKit
import Derived.WalkSpells
import Derived.BigQuiet
import Derived.Deep.QuietTactic
import Derived.Deep.Quiet
import Derived.Below
import Derived.Lib.Hide
namespace Go.Proofs.Ytennhfkhdfalfaa
open Go.RowKit

theorem bcell {W w1 : World} (hb : Below W.heap.size W w1) : (∀ b o, b < W.heap.size → w1.cell? ⟨b, o, none⟩ = W.cell? ⟨b, o, none⟩) ∧ (∀ b o, b < W.heap.size → w1.frozen? ⟨b, o, none⟩ = W.frozen? ⟨b, o, none⟩) ∧ (∀ n, n < W.heap.size → n < w1.heap.size) :=
  ⟨fun b o h => hb.cell (p := ⟨b, o, none⟩) h, fun b o h => hb.frozen (p := ⟨b, o, none⟩) h, fun _ h => Nat.lt_of_lt_of_le h hb.size⟩
theorem ba {w1 w : World} (h : Below w1.heap.size w1 w) (o : Obj) : Below w1.heap.size w1 (w.alloc o) := h.alloc h.size o
theorem bd {w1 w : World} {B : Nat} (h : Below B w1 w) : Below B w1 w.drew := ⟨h.os, h.tape, h.output, h.size, h.block⟩
theorem bs {w1 w : World} {B : Nat} (h : Below B w1 w) {p : Addr} (hp : B ≤ p.block) (v : Value) : Below B w1 (w.setCell p v) := h.setCell hp v
theorem bt {w1 w2 w : World} (h : Below w1.heap.size w1 w2) (k : Below w2.heap.size w2 w) : Below w1.heap.size w1 w := h.trans (k.mono h.size)

theorem bdn {w1 w : World} {B : Nat} (h : Below B w1 w) (n : Nat) : Below B w1 (w.drewN n) := ⟨h.os, h.tape, h.output, h.size, h.block⟩
theorem bel {W w1 W1 w2 : World} (h : Below W.heap.size W w1) (k : Below W1.heap.size W1 w2) (m : Below w1.heap.size w1 W1) : Below W.heap.size W w2 := bt (bt h m) k

/-- A function that answers v, whatever the world, and changes nothing that was there. -/
abbrev Pure (P : Program) (f : Nat) (args : Array Value) (v : Value) : Prop :=
  ∀ w : World, Calls P f args w fun e w' => e = .returned v ∧ Below w.heap.size w w'

/-- What extends a world. -/
def Ext (W : World) : Type := { w : World // Below W.heap.size W w }
instance Ext.some (W : World) : Nonempty (Ext W) := ⟨⟨W, Below.refl _ _⟩⟩
def ext (W : World) (x : Ext W) : World := x.val
theorem ext_below (W : World) (x : Ext W) : Below W.heap.size W (ext W x) := x.property
theorem ext_size (W : World) (x : Ext W) : W.heap.size ≤ (ext W x).heap.size := (ext_below W x).size
theorem ext_cell (W : World) (x : Ext W) (b o : Nat) (h : b < W.heap.size) : (ext W x).cell? ⟨b, o, none⟩ = W.cell? ⟨b, o, none⟩ := (ext_below W x).cell (p := ⟨b, o, none⟩) h
theorem ext_frozen (W : World) (x : Ext W) (b o : Nat) (h : b < W.heap.size) : (ext W x).frozen? ⟨b, o, none⟩ = W.frozen? ⟨b, o, none⟩ := (ext_below W x).frozen (p := ⟨b, o, none⟩) h
theorem ext_of {W w : World} (h : Below W.heap.size W w) : ∃ x, w = ext W x := ⟨⟨w, h⟩, rfl⟩

theorem Pure.quiet {P : Program} {f : Nat} {args : Array Value} {v : Value} (h : Pure P f args v) {W : World} {x : Ext W} :
    Calls P f args (ext W x) fun e w'' => e = .returned v ∧ ∃ y, w'' = ext W y :=
  (h _).mono fun _ _ ⟨he, hb⟩ => ⟨he, ext_of (bt (ext_below W x) hb)⟩

theorem wp_region_pure {P : Program} {id : Nat} {Q : Exit → Act → World → Prop} {a : Act} {w : World} {l : List Oper} (hm : P.follows .mixedOrders = true) (hB : Region.lexB .any l.toArray = true)
    (h : wpQuiet P l.toArray (fun w' => ∃ x, w' = ext w x) (fun a' => ∀ w', (∃ x, w' = ext w x) → Q .normal a' w') l a) : (Code.region id l.toArray true).wp P Q a w :=
  wp_region_quiet (C := fun w' => ∃ x, w' = ext w x) hm hB (ext_of (bd (Below.refl _ _))) (by simpa using h)
end Go.Proofs.Ytennhfkhdfalfaa

/- Calls that answer one value in every world of a class that is closed under growth (a package-level table lies there, say). The table of powers of ten; strconv.FormatInt at base ten. -/
import Derived.Test.YtlhljioncgddeaaDoorMix
import Derived.Test.YtlhljioncgddeaaDoorLib
import Derived.Test.YtlhljioncgddeaaDoorRows
import Derived.Lib.AppendIntMem
import Derived.Lib.LaidTab
namespace Go.Proofs.YtlhljioncgddeaaDoor
open Go.RowKit
/-- f answers v in every world of the class C, and changes nothing that was there. -/
def PureOn (C : World → Prop) (P : Program) (f : Nat) (args : Array Value) (v : Value) : Prop :=
  ∀ w : World, C w → Calls P f args w fun e w' => e = .returned v ∧ Below w.heap.size w w'
theorem PureOn.app {C : World → Prop} {P : Program} {f : Nat} {args : Array Value} {v : Value} (h : PureOn C P f args v) (w : World) (hw : C w) : Calls P f args w fun e w' => e = .returned v ∧ Below w.heap.size w w' := h w hw
abbrev Clo (C : World → Prop) : Prop := Mix.Closed C
theorem Pure.on {P : Program} {f : Nat} {args : Array Value} {v : Value} (h : Pure P f args v) (C : World → Prop) : PureOn C P f args v := fun w _ => h w
theorem PureOn.weaken {C D : World → Prop} {P : Program} {f : Nat} {args : Array Value} {v : Value} (h : PureOn C P f args v) (hd : ∀ w, D w → C w) : PureOn D P f args v := fun w hw => h w (hd w hw)
theorem PureOn.quiet {C : World → Prop} {P : Program} {f : Nat} {args : Array Value} {v : Value} (h : PureOn C P f args v) (hC : Clo C) {W : World} (hW : C W) {x : Ext W} :
    Calls P f args (ext W x) fun e w'' => e = .returned v ∧ ∃ y, w'' = ext W y :=
  (h _ (hC _ _ hW (ext_below W x))).mono fun _ _ ⟨he, hb⟩ => ⟨he, ext_of (bt (ext_below W x) hb)⟩
def Any : World → Prop := fun _ => True
theorem clo_any : Clo Any := fun _ _ _ _ => trivial
theorem PureOn.all {P : Program} {f : Nat} {args : Array Value} {v : Value} (h : PureOn Any P f args v) : Pure P f args v := fun w => h w trivial

/-- The powers of ten lie in their variable. -/
def T10 (w : World) : Prop := Lib.TabIs Tryd.prog w "internal/strconv.uint64pow10" .u64 Lib.pow10Tab
theorem clo_T10 : Clo T10 := fun _ w' h hb => Lib.tabBelow_of_tabIs h w' hb
/-- A number's text. -/
def itoaS (n : Int) : ByteArray := ⟨(Lib.itoa n).toArray⟩
theorem fmt_any (n : Int) (h0 : -9223372036854775808 ≤ n) (h1 : n ≤ 9223372036854775807) : PureOn T10 Tryd.prog 79 #[.int .i64 n, .int .i64 10] (.string (itoaS n)) := fun w hT =>
  (Lb.Tryd.strconv_FormatInt_10 n h0 h1 w hT).mono fun _ _ ⟨he, k, os, hw⟩ => ⟨he, by rw [hw]; exact Lib.below_grow _ _ (Nat.le_refl _) k os⟩
theorem fmt_small (i : Nat) (hi : i < 100) : Pure Tryd.prog 79 #[.int .i64 i, .int .i64 10] (.string ⟨(Lib.decDigits i).toArray⟩) := fun w =>
  (Lb.Tryd.strconv_FormatInt_10_small i hi w).mono fun _ _ ⟨he, hw⟩ => ⟨he, by rw [hw]; exact Below.refl _ _⟩
end Go.Proofs.YtlhljioncgddeaaDoor

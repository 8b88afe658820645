/- Calls that answer one value in every world of a class that is closed under growth (a package-level table lies there, say). The table of powers of ten; strconv.FormatInt at base ten. -/
import Derived.Test.YtennhfkhdfalfaaMix
import Derived.Test.YtennhfkhdfalfaaRows
import Derived.Lib.AppendIntMem
import Derived.Lib.LaidTab
namespace Go.Proofs.Ytennhfkhdfalfaa
open Go.RowKit
/-- f answers v in every world of the class C, and changes nothing that was there. -/
def PureOn (C : World → Prop) (P : Program) (f : Nat) (args : Array Value) (v : Value) : Prop :=
  ∀ w : World, C w → Calls P f args w fun e w' => e = .returned v ∧ Below w.heap.size w w'
theorem PureOn.app {C : World → Prop} {P : Program} {f : Nat} {args : Array Value} {v : Value} (h : PureOn C P f args v) (w : World) (hw : C w) : Calls P f args w fun e w' => e = .returned v ∧ Below w.heap.size w w' := h w hw
abbrev Clo (C : World → Prop) : Prop := Mix.Closed C
theorem Pure.on {P : Program} {f : Nat} {args : Array Value} {v : Value} (h : Pure P f args v) (C : World → Prop) : PureOn C P f args v := fun w _ => h w
theorem PureOn.weaken {C D : World → Prop} {P : Program} {f : Nat} {args : Array Value} {v : Value} (h : PureOn C P f args v) (hd : ∀ w, D w → C w) : PureOn D P f args v := fun w hw => h w (hd w hw)
theorem PureOn.quiet {C : World → Prop} {P : Program} {f : Nat} {args : Array Value} {v : Value} (h : PureOn C P f args v) (hC : Clo C) {W : World} (hW : C W) {x : Ext W} :
    Calls P f args (ext W x) fun e w'' => e = .returned v ∧ ∃ y, w'' = ext W y :=
  (h _ (hC _ _ hW (ext_below W x))).mono fun _ _ ⟨he, hb⟩ => ⟨he, ext_of (bt (ext_below W x) hb)⟩
def Any : World → Prop := fun _ => True
theorem clo_any : Clo Any := fun _ _ _ _ => trivial
theorem PureOn.all {P : Program} {f : Nat} {args : Array Value} {v : Value} (h : PureOn Any P f args v) : Pure P f args v := fun w => h w trivial

end Go.Proofs.Ytennhfkhdfalfaa

/- filters: Forget, Lose, Expire. -/
import Derived.Test.YtennhfkhdfalfaaFid
namespace Go.Proofs.Ytennhfkhdfalfaa
open Go.RowKit Go.Maps
attribute [local go_sem] ext_cell ext_frozen extC_cell extC_frozen Mix.calmUpon Mix.mUpon
section
variable {W w : World} {tp M : Nat} {cap : Int} {F : K2 → Option Fx} {S : List Pf}
theorem FT.tbLt (h : FT W w tp M cap F S) (q : Nat) (e : TB tp M F q) : q < w.heap.size := by
  obtain ⟨_, o, e2, _⟩ := h.tbG q e
  exact (Array.getElem?_eq_some_iff.1 e2).1
theorem RP.from_ {w0 w1 : World} (h : RP W w w1 tp M cap F S) (hb : Below w0.heap.size w0 w) : RP W w0 w1 tp M cap F S := by
  obtain ⟨F', h1, h2, h3⟩ := h
  exact ⟨F', h1, fun q e => (h2 q e).imp id fun e => Nat.le_trans hb.size e, (Chg.of_below _ hb).same h3⟩
/-- What a call of the three answers, and leaves. -/
def RetX (W w : World) (tp M : Nat) (cap : Int) (F : K2 → Option Fx) (S : List Pf) (U : Pf → Bool) (e : Ending) (w' : World) : Prop :=
  e = .returned (.int .i64 ((S.length : Int) - ((S.filter fun f => !U f).length : Int))) ∧ RP W w w' tp M cap F (S.filter fun f => !U f)
set_option maxRecDepth 100000 in
theorem fforget (h : FT W w tp M cap F S) (n : Int) : Calls Try.prog 47 #[fptr tp, .int .i64 n] w (RetX W w tp M cap F S fun f => f.1 == n) := by
  have hb1 := ba (Below.refl w.heap.size w) (.cells #[.int .i64 n] 2)
  have hi := IB.made w n
  have hno : ¬ TB tp M F w.heap.size := fun e => Nat.lt_irrefl _ (h.tbLt _ e)
  have HR := Lib.hid (fremoveB (h.below hb1) (fun f => f.1 == n) 95 #[fptr w.heap.size] (enters_of Try.func95 (by kernel_rfl) rfl) fun W' x hx hc => fforget1 (hi.chg hc hno) x hx)
  have HB := Lib.hid hb1
  clear h hb1 hi hno
  go_enter Try.func47, Try.ntmps47
  go_wp2_with fail
  refine HR.out.mono ?_
  rintro e w1 ⟨rfl, hf⟩
  have HF := Lib.hid hf
  clear hf
  go_wp2
  go_ret
  exact ⟨rfl, HF.out.from_ HB.out⟩
set_option maxRecDepth 100000 in
theorem flose (h : FT W w tp M cap F S) (n : Int) : Calls Try.prog 78 #[fptr tp, .int .i64 n] w (RetX W w tp M cap F S fun f => f.2.1 == n) := by
  have hb1 := ba (Below.refl w.heap.size w) (.cells #[.int .i64 n] 2)
  have hi := IB.made w n
  have hno : ¬ TB tp M F w.heap.size := fun e => Nat.lt_irrefl _ (h.tbLt _ e)
  have HR := Lib.hid (fremoveB (h.below hb1) (fun f => f.2.1 == n) 115 #[fptr w.heap.size] (enters_of Try.func115 (by kernel_rfl) rfl) fun W' x hx hc => flose1 (hi.chg hc hno) x hx)
  have HB := Lib.hid hb1
  clear h hb1 hi hno
  go_enter Try.func78, Try.ntmps78
  go_wp2_with fail
  refine HR.out.mono ?_
  rintro e w1 ⟨rfl, hf⟩
  have HF := Lib.hid hf
  clear hf
  go_wp2
  go_ret
  exact ⟨rfl, HF.out.from_ HB.out⟩
set_option maxRecDepth 100000 in
theorem fexpire (h : FT W w tp M cap F S) (n : Int) : Calls Try.prog 77 #[fptr tp, .int .i64 n] w (RetX W w tp M cap F S fun f => decide (f.2.2.1 ≤ n)) := by
  have hb1 := ba (Below.refl w.heap.size w) (.cells #[.int .i64 n] 2)
  have hi := IB.made w n
  have hno : ¬ TB tp M F w.heap.size := fun e => Nat.lt_irrefl _ (h.tbLt _ e)
  have HR := Lib.hid (fremoveB (h.below hb1) (fun f => decide (f.2.2.1 ≤ n)) 114 #[fptr w.heap.size] (enters_of Try.func114 (by kernel_rfl) rfl) fun W' x hx hc => fexpire1 (hi.chg hc hno) x hx)
  have HB := Lib.hid hb1
  clear h hb1 hi hno
  go_enter Try.func77, Try.ntmps77
  go_wp2_with fail
  refine HR.out.mono ?_
  rintro e w1 ⟨rfl, hf⟩
  have HF := Lib.hid hf
  clear hf
  go_wp2
  go_ret
  exact ⟨rfl, HF.out.from_ HB.out⟩
end
end Go.Proofs.Ytennhfkhdfalfaa

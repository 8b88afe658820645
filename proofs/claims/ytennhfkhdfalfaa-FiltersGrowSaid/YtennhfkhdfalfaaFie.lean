/- filters: Forget, Lose, Expire. -/
import Derived.Test.YtennhfkhdfalfaaFid
namespace Go.Proofs.Ytennhfkhdfalfaa
open Go.RowKit Go.Maps
attribute [local go_sem] ext_cell ext_frozen extC_cell extC_frozen Mix.calmUpon Mix.mUpon
section
variable {W w : World} {tp M : Nat} {cap : Int} {F : K2 → Option Fx} {S : List Pf}
/-- What a call of the three answers, and leaves. -/
def RetX (W w : World) (tp M : Nat) (cap : Int) (S : List Pf) (U : Pf → Bool) (e : Ending) (w' : World) : Prop :=
  e = .returned (.int .i64 ((S.length : Int) - ((S.filter fun f => !U f).length : Int))) ∧ FP W w' tp M cap (S.filter fun f => !U f) ∧ Chg (FrG W w) w w'
set_option maxRecDepth 100000 in
theorem fforget (h : FT W w tp M cap F S) (n : Int) : Calls Try.prog 47 #[fptr tp, .int .i64 n] w (RetX W w tp M cap S fun f => f.1 == n) := by
  have hb1 := ba (Below.refl w.heap.size w) (.cells #[.int .i64 n] 2)
  have hi := IB.made w n
  have hno : ¬ FrG W (w.alloc (.cells #[.int .i64 n] 2)) w.heap.size := fun h => by
    obtain ⟨_, o, h1, h2⟩ := h
    unfold IB at hi
    rw [hi] at h1
    cases h1
    rcases h2 with ⟨_, _, h⟩ | ⟨_, _, h⟩ | ⟨_, _, h⟩ | ⟨_, _, h⟩
    · exact absurd (Obj.cells.inj h).2.1 (by decide)
    · exact absurd (Obj.cells.inj h).2.1 (by decide)
    · exact absurd (Obj.cells.inj h).2.1 (by decide)
    · cases h
  have HR := Lib.hid (fremove (h.below hb1) (fun f => f.1 == n) 95 #[fptr w.heap.size] (enters_of Try.func95 (by kernel_rfl) rfl) fun W' x hx hc => fforget1 (hi.chg hc hno) x hx)
  have HB := Lib.hid hb1
  clear h hb1 hi hno
  go_enter Try.func47, Try.ntmps47
  go_wp2_with fail
  refine HR.out.mono ?_
  rintro e w1 ⟨rfl, hf, hc⟩
  have HF := Lib.hid hf; have HC := Lib.hid hc
  clear hf hc
  go_wp2
  go_ret
  exact ⟨rfl, HF.out, FrG.trans (Chg.of_below _ HB.out) HC.out⟩
set_option maxRecDepth 100000 in
theorem flose (h : FT W w tp M cap F S) (n : Int) : Calls Try.prog 78 #[fptr tp, .int .i64 n] w (RetX W w tp M cap S fun f => f.2.1 == n) := by
  have hb1 := ba (Below.refl w.heap.size w) (.cells #[.int .i64 n] 2)
  have hi := IB.made w n
  have hno : ¬ FrG W (w.alloc (.cells #[.int .i64 n] 2)) w.heap.size := fun h => by
    obtain ⟨_, o, h1, h2⟩ := h
    unfold IB at hi
    rw [hi] at h1
    cases h1
    rcases h2 with ⟨_, _, h⟩ | ⟨_, _, h⟩ | ⟨_, _, h⟩ | ⟨_, _, h⟩
    · exact absurd (Obj.cells.inj h).2.1 (by decide)
    · exact absurd (Obj.cells.inj h).2.1 (by decide)
    · exact absurd (Obj.cells.inj h).2.1 (by decide)
    · cases h
  have HR := Lib.hid (fremove (h.below hb1) (fun f => f.2.1 == n) 115 #[fptr w.heap.size] (enters_of Try.func115 (by kernel_rfl) rfl) fun W' x hx hc => flose1 (hi.chg hc hno) x hx)
  have HB := Lib.hid hb1
  clear h hb1 hi hno
  go_enter Try.func78, Try.ntmps78
  go_wp2_with fail
  refine HR.out.mono ?_
  rintro e w1 ⟨rfl, hf, hc⟩
  have HF := Lib.hid hf; have HC := Lib.hid hc
  clear hf hc
  go_wp2
  go_ret
  exact ⟨rfl, HF.out, FrG.trans (Chg.of_below _ HB.out) HC.out⟩
set_option maxRecDepth 100000 in
theorem fexpire (h : FT W w tp M cap F S) (n : Int) : Calls Try.prog 77 #[fptr tp, .int .i64 n] w (RetX W w tp M cap S fun f => decide (f.2.2.1 ≤ n)) := by
  have hb1 := ba (Below.refl w.heap.size w) (.cells #[.int .i64 n] 2)
  have hi := IB.made w n
  have hno : ¬ FrG W (w.alloc (.cells #[.int .i64 n] 2)) w.heap.size := fun h => by
    obtain ⟨_, o, h1, h2⟩ := h
    unfold IB at hi
    rw [hi] at h1
    cases h1
    rcases h2 with ⟨_, _, h⟩ | ⟨_, _, h⟩ | ⟨_, _, h⟩ | ⟨_, _, h⟩
    · exact absurd (Obj.cells.inj h).2.1 (by decide)
    · exact absurd (Obj.cells.inj h).2.1 (by decide)
    · exact absurd (Obj.cells.inj h).2.1 (by decide)
    · cases h
  have HR := Lib.hid (fremove (h.below hb1) (fun f => decide (f.2.2.1 ≤ n)) 114 #[fptr w.heap.size] (enters_of Try.func114 (by kernel_rfl) rfl) fun W' x hx hc => fexpire1 (hi.chg hc hno) x hx)
  have HB := Lib.hid hb1
  clear h hb1 hi hno
  go_enter Try.func77, Try.ntmps77
  go_wp2_with fail
  refine HR.out.mono ?_
  rintro e w1 ⟨rfl, hf, hc⟩
  have HF := Lib.hid hf; have HC := Lib.hid hc
  clear hf hc
  go_wp2
  go_ret
  exact ⟨rfl, HF.out, FrG.trans (Chg.of_below _ HB.out) HC.out⟩
end
end Go.Proofs.Ytennhfkhdfalfaa

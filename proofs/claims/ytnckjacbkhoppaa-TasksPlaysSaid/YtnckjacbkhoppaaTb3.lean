/- tasks: All, Of, On. -/
import Derived.Test.YtnckjacbkhoppaaTb2
import Derived.Shelf.Abstract
namespace Go.Proofs.Ytnckjacbkhoppaa
open Go.RowKit Go.Maps
attribute [local go_sem] ext_cell ext_frozen extC_cell extC_frozen Mix.calmUpon Mix.mUpon
theorem pick_all : PickF 99 #[] (fun _ => True) (fun _ => true) where
  cf := fun x w => enters_of Try.func99 (by kernel_rfl) rfl _ _
  call := fun w x _ => by
    go_enter Try.func99, Try.ntmps99
    go_wp2
    go_ret
    exact ⟨rfl, by (repeat (first | assumption | exact Below.refl _ _ | refine ba ?_ _ | refine bd ?_ | refine bdn ?_ _ | refine bs ?_ (by first | omega | (simp; done) | (simp; omega)) _ | refine bt ?_ (by assumption)))⟩
  clo := fun _ _ _ _ => trivial
theorem pick_of (f : Int) (b : Nat) : PickF 100 #[.pointer (some ⟨b, 0, none⟩)] (fun w => w.cell? ⟨b, 0, none⟩ = some (.int .i64 f) ∧ b < w.heap.size) (fun x => x.1 == f) where
  cf := fun x w => enters_of Try.func100 (by kernel_rfl) rfl _ _
  call := fun w x ⟨hc, hb⟩ => by
    obtain ⟨xf, xi, xa, xv, xs⟩ := x
    have hc2 := ((ba (Below.refl w.heap.size w) (.cells #[.int .i64 xf, .int .i64 xi, .int .i64 xa, xv] 95)).cell (p := ⟨b, 0, none⟩) hb).trans hc
    have hx := (KB.made w xf xi xa xv).cells.1
    have hbl := Lib.hid (ba (Below.refl w.heap.size w) (.cells #[.int .i64 xf, .int .i64 xi, .int .i64 xa, xv] 95))
    have hs : w.heap.size < (w.alloc (.cells #[.int .i64 xf, .int .i64 xi, .int .i64 xa, xv] 95)).heap.size := by simp
    clear hc hb
    go_enter Try.func100, Try.ntmps100
    go_wp2
    go_ret
    exact ⟨rfl, hbl.out⟩
  clo := fun w w' ⟨hc, hb⟩ h => ⟨(h.cell (p := ⟨b, 0, none⟩) hb).trans hc, Nat.lt_of_lt_of_le hb h.size⟩
theorem pick_on (a : Int) (b : Nat) : PickF 101 #[.pointer (some ⟨b, 0, none⟩)] (fun w => w.cell? ⟨b, 0, none⟩ = some (.int .i64 a) ∧ b < w.heap.size) (fun x => x.2.2.1 == a) where
  cf := fun x w => enters_of Try.func101 (by kernel_rfl) rfl _ _
  call := fun w x ⟨hc, hb⟩ => by
    obtain ⟨xf, xi, xa, xv, xs⟩ := x
    have hc2 := ((ba (Below.refl w.heap.size w) (.cells #[.int .i64 xf, .int .i64 xi, .int .i64 xa, xv] 95)).cell (p := ⟨b, 0, none⟩) hb).trans hc
    have hx := (KB.made w xf xi xa xv).cells.2.2.1
    have hbl := Lib.hid (ba (Below.refl w.heap.size w) (.cells #[.int .i64 xf, .int .i64 xi, .int .i64 xa, xv] 95))
    have hs : w.heap.size < (w.alloc (.cells #[.int .i64 xf, .int .i64 xi, .int .i64 xa, xv] 95)).heap.size := by simp
    clear hc hb
    go_enter Try.func101, Try.ntmps101
    go_wp2
    go_ret
    exact ⟨rfl, hbl.out⟩
  clo := fun w w' ⟨hc, hb⟩ h => ⟨(h.cell (p := ⟨b, 0, none⟩) hb).trans hc, Nat.lt_of_lt_of_le hb h.size⟩
section
variable {w : World} {B tp M : Nat} {cap : Int} {P : List Pk} {V : Nat → Prop}
theorem vall (h : TV w B tp M cap P V) (hln : P.length < 1000000) : Calls Try.prog 58 #[ptr tp] w (RetT w P) := by
  obtain ⟨S, L, hT, hp, -⟩ := h
  have H := Lib.hid (tthose hT (by rw [← hp, List.length_map] at hln; exact hln) pick_all trivial)
  have HQ := Lib.hid (show (S.map Tk.pl).filter (fun _ => true) = P by rw [hp]; exact List.filter_eq_self.2 fun _ _ => rfl)
  clear hT hp
  go_enter Try.func58, Try.ntmps58
  go_wp2_with fail
  refine H.out.mono ?_
  rintro e w' ⟨v, l, rfl, hl, hpl, hv, hx, hb⟩
  have HR := Lib.hid (And.intro hl (And.intro hpl (And.intro hv (And.intro hx hb))))
  clear hl hpl hv hx hb
  go_wp2
  go_ret
  exact ⟨v, l, rfl, HR.out.1, by rw [← HQ.out]; exact HR.out.2.1, HR.out.2.2.1, HR.out.2.2.2⟩
theorem vof (h : TV w B tp M cap P V) (hln : P.length < 1000000) (f : Int) : Calls Try.prog 60 #[ptr tp, .int .i64 f] w (RetT w (P.filter fun x => x.1 == f)) := by
  obtain ⟨S, L, hT, hp, -⟩ := h
  have hmf : ∀ (fn : Fn) (first cap : Array Value) (w : World), (Instr.makeFunc fn first cap).run Try.prog w = .ok (.func fn first cap) w := fun _ _ _ _ => rfl
  have hb1 := ba (Below.refl w.heap.size w) (.cells #[.int .i64 f] 2)
  have H := Lib.hid (tthose (hT.below hb1) (by rw [← hp, List.length_map] at hln; exact hln) (pick_of f w.heap.size) ⟨by simp, by simp⟩)
  have HQ := Lib.hid hp
  have HB := Lib.hid hb1
  clear hT hp hb1
  go_enter Try.func60, Try.ntmps60
  go_wp2_with fail
  refine H.out.mono ?_
  rintro e w' ⟨v, l, rfl, hl, hpl, hv, hx, hb⟩
  have HR := Lib.hid (And.intro hl (And.intro hpl (And.intro hv (And.intro hx hb))))
  clear hl hpl hv hx hb
  go_wp2
  go_ret
  exact ⟨v, l, rfl, HR.out.1, by rw [← HQ.out]; exact HR.out.2.1, fun b hb => Nat.le_trans HB.out.size (HR.out.2.2.1 b hb), fun x hx b hb => Nat.le_trans HB.out.size (HR.out.2.2.2.1 x hx b hb), bt HB.out HR.out.2.2.2.2⟩
theorem von (h : TV w B tp M cap P V) (hln : P.length < 1000000) (a : Int) : Calls Try.prog 62 #[ptr tp, .int .i64 a] w (RetT w (P.filter fun x => x.2.2.1 == a)) := by
  obtain ⟨S, L, hT, hp, -⟩ := h
  have hmf : ∀ (fn : Fn) (first cap : Array Value) (w : World), (Instr.makeFunc fn first cap).run Try.prog w = .ok (.func fn first cap) w := fun _ _ _ _ => rfl
  have hb1 := ba (Below.refl w.heap.size w) (.cells #[.int .i64 a] 2)
  have H := Lib.hid (tthose (hT.below hb1) (by rw [← hp, List.length_map] at hln; exact hln) (pick_on a w.heap.size) ⟨by simp, by simp⟩)
  have HQ := Lib.hid hp
  have HB := Lib.hid hb1
  clear hT hp hb1
  go_enter Try.func62, Try.ntmps62
  go_wp2_with fail
  refine H.out.mono ?_
  rintro e w' ⟨v, l, rfl, hl, hpl, hv, hx, hb⟩
  have HR := Lib.hid (And.intro hl (And.intro hpl (And.intro hv (And.intro hx hb))))
  clear hl hpl hv hx hb
  go_wp2
  go_ret
  exact ⟨v, l, rfl, HR.out.1, by rw [← HQ.out]; exact HR.out.2.1, fun b hb => Nat.le_trans HB.out.size (HR.out.2.2.1 b hb), fun x hx b hb => Nat.le_trans HB.out.size (HR.out.2.2.2.1 x hx b hb), bt HB.out HR.out.2.2.2.2⟩
end
end Go.Proofs.Ytnckjacbkhoppaa

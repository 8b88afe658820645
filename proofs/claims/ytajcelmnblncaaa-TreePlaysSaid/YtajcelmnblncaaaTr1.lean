/- tree: depth, length, join. -/
import Derived.Test.YtajcelmnblncaaaTr0
import Derived.Test.YtajcelmnblncaaaProg
import Derived.Test.YtajcelmnblncaaaMixL
import Derived.IntWalk
namespace Go.Proofs.Ytajcelmnblncaaa
open Go.RowKit
attribute [local go_sem] ext_cell ext_frozen extC_cell extC_frozen Mix.calmUpon Mix.mUpon
theorem depth_t {w : World} {v : Value} {t : Tr} (h : Tn w v t) : Calls Try.prog 122 #[v] w fun e w' => e = .returned (.int .i64 (dp t : Nat)) ∧ w = w' := by
  cases t with
  | lf =>
    obtain rfl := h.lf_
    clear h
    go_enter Try.func122, Try.ntmps122
    go_wp2
    go_ret
    exact ⟨rfl, rfl⟩
  | nd l k r =>
    obtain ⟨b, lv, rv, rfl, hb, c0, c1, c2, c3, c4, _, _⟩ := h.nd_
    generalize dp (.nd l k r) = q at *
    clear h c0 c1 c2 c4
    go_enter Try.func122, Try.ntmps122
    go_wp2
    go_ret
    exact ⟨rfl, rfl⟩
theorem length_t {w : World} {v : Value} {t : Tr} (h : Tn w v t) : Calls Try.prog 78 #[v] w fun e w' => e = .returned (.int .i64 (sz t : Nat)) ∧ w = w' := by
  cases t with
  | lf =>
    obtain rfl := h.lf_
    clear h
    go_enter Try.func78, Try.ntmps78
    go_wp2
    go_ret
    exact ⟨rfl, rfl⟩
  | nd l k r =>
    obtain ⟨b, lv, rv, rfl, hb, c0, c1, c2, c3, c4, _, _⟩ := h.nd_
    generalize sz (.nd l k r) = q at *
    clear h c0 c1 c2 c3
    go_enter Try.func78, Try.ntmps78
    go_wp2
    go_ret
    exact ⟨rfl, rfl⟩
theorem Tn.ptr {w : World} {v : Value} {t : Tr} (h : Tn w v t) : ∃ a, v = .pointer a := by
  cases t with
  | lf => exact ⟨_, h.lf_⟩
  | nd l k r => obtain ⟨b, lv, rv, hv, _⟩ := h.nd_; exact ⟨_, hv⟩
/-- A call that answers a tree. -/
def RetT (P : Tr → Prop) (w : World) (e : Ending) (w' : World) : Prop := ∃ v t, e = .returned v ∧ Tn w' v t ∧ P t ∧ Below w.heap.size w w'
set_option maxRecDepth 100000 in
theorem join_t {w : World} {lv rv : Value} {l r : Tr} (hl : Tn w lv l) (hr : Tn w rv r) (k : Int) (hs : sz l + sz r < 1000000000) : Calls Try.prog 109 #[lv, .int .i64 k, rv] w (RetT (fun t => t = .nd l k r) w) := by
  obtain ⟨pl, rfl⟩ := hl.ptr
  obtain ⟨pr, rfl⟩ := hr.ptr
  have HL := Lib.hid hl; have HR := Lib.hid hr
  have h1 := dp_le l; have h2 := dp_le r
  have HM := Lib.hid (Tn.made k hl hr)
  have ed : dp (.nd l k r) = 1 + max (dp l) (dp r) := rfl
  have es : sz (.nd l k r) = 1 + sz l + sz r := rfl
  rw [ed, es] at HM
  clear ed es hl hr
  generalize hdl : dp l = a at *
  generalize hdr : dp r = b at *
  generalize hsl : sz l = c at *
  generalize hsr : sz r = d at *
  have D1 := Lib.hid hdl; have D2 := Lib.hid hdr; have D3 := Lib.hid hsl; have D4 := Lib.hid hsr
  clear hdl hdr hsl hsr
  by_cases hab : (a : Int) < (b : Int)
  · have HX := Lib.hid (show (1 + b : Nat) = 1 + max a b by omega)
    rw [← HX.out] at HM
    go_enter Try.func109, Try.ntmps109
    go_wp2_with fail
    refine (depth_t HL.out).mono ?_
    rintro e w1 ⟨rfl, rfl⟩
    rw [D1.out]
    go_wp2_with fail
    refine (depth_t HR.out).mono ?_
    rintro e w1 ⟨rfl, rfl⟩
    rw [D2.out]
    go_wp2_with fail
    refine (length_t HL.out).mono ?_
    rintro e w1 ⟨rfl, rfl⟩
    rw [D3.out]
    go_wp2_with fail
    refine (length_t HR.out).mono ?_
    rintro e w1 ⟨rfl, rfl⟩
    rw [D4.out]
    go_wp2
    go_ret
    refine ⟨_, _, rfl, ?_, rfl, ba (Below.refl _ _) _⟩
    have := HM.out
    simp only [Int.natCast_add, Int.cast_ofNat_Int] at this
    exact this
  · have HX := Lib.hid (show (1 + a : Nat) = 1 + max a b by omega)
    rw [← HX.out] at HM
    go_enter Try.func109, Try.ntmps109
    go_wp2_with fail
    refine (depth_t HL.out).mono ?_
    rintro e w1 ⟨rfl, rfl⟩
    rw [D1.out]
    go_wp2_with fail
    refine (depth_t HR.out).mono ?_
    rintro e w1 ⟨rfl, rfl⟩
    rw [D2.out]
    go_wp2_with fail
    refine (length_t HL.out).mono ?_
    rintro e w1 ⟨rfl, rfl⟩
    rw [D3.out]
    go_wp2_with fail
    refine (length_t HR.out).mono ?_
    rintro e w1 ⟨rfl, rfl⟩
    rw [D4.out]
    go_wp2
    go_ret
    refine ⟨_, _, rfl, ?_, rfl, ba (Below.refl _ _) _⟩
    have := HM.out
    simp only [Int.natCast_add, Int.cast_ofNat_Int] at this
    exact this
end Go.Proofs.Ytajcelmnblncaaa

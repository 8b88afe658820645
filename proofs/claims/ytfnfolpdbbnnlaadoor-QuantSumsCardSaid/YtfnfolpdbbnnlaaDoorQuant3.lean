/- quant.Parse at "0.025"; works of the statements of layer 3. Condition: the powers of ten lie in their variable. -/
import Derived.Test.YtfnfolpdbbnnlaaDoorQuant2
import Derived.Laws.RangeAny
import Derived.Laws.RangeString
namespace Go.Proofs.YtfnfolpdbbnnlaaDoor
open Go.RowKit
attribute [local go_sem] ext_cell ext_frozen Mix.calmUpon Mix.mUpon
abbrev s025 : ByteArray := ⟨#[48, 46, 48, 50, 53]⟩
/-- What is read at each place: number, places, point. -/
def st025 : Nat → Int × Int × Bool
  | 0 => (0, 0, false) | 1 => (0, 0, false) | 2 => (0, 0, true) | 3 => (0, 1, true) | 4 => (2, 2, true) | _ => (25, 3, true)
theorem iter_below (W : World) (s : ByteArray) (p : Nat) : Below W.heap.size W (W.iter s p) := ba (Below.refl _ _) _
set_option maxRecDepth 100000 in
set_option maxHeartbeats 4000000 in
theorem qparse_025 : PureOn T10 Tryd.prog 25 #[.string ⟨#[48, 46, 48, 50, 53]⟩] (.tuple #[.int .i64 25, .bool true]) := by
  intro W hT
  have HT := Lib.hid hT
  have HR := qright_any 25
  rw [decide_eq_true (by decide)] at HR
  have HR := Lib.hid HR
  have n0 : ∀ ty, (Instr.next (.pointer (some ⟨W.heap.size, 0, none⟩)) true ty).run Tryd.prog (W.iter s025 0) = .ok (.tuple #[.bool true, .int .i64 0, .int .i32 48]) (W.iter s025 1) := fun ty => (run_next_any W s025 0 ty (by decide)).trans (by rfl)
  have n1 : ∀ ty, (Instr.next (.pointer (some ⟨W.heap.size, 0, none⟩)) true ty).run Tryd.prog (W.iter s025 1) = .ok (.tuple #[.bool true, .int .i64 1, .int .i32 46]) (W.iter s025 2) := fun ty => (run_next_any W s025 1 ty (by decide)).trans (by rfl)
  have n2 : ∀ ty, (Instr.next (.pointer (some ⟨W.heap.size, 0, none⟩)) true ty).run Tryd.prog (W.iter s025 2) = .ok (.tuple #[.bool true, .int .i64 2, .int .i32 48]) (W.iter s025 3) := fun ty => (run_next_any W s025 2 ty (by decide)).trans (by rfl)
  have n3 : ∀ ty, (Instr.next (.pointer (some ⟨W.heap.size, 0, none⟩)) true ty).run Tryd.prog (W.iter s025 3) = .ok (.tuple #[.bool true, .int .i64 3, .int .i32 50]) (W.iter s025 4) := fun ty => (run_next_any W s025 3 ty (by decide)).trans (by rfl)
  have n4 : ∀ ty, (Instr.next (.pointer (some ⟨W.heap.size, 0, none⟩)) true ty).run Tryd.prog (W.iter s025 4) = .ok (.tuple #[.bool true, .int .i64 4, .int .i32 53]) (W.iter s025 5) := fun ty => (run_next_any W s025 4 ty (by decide)).trans (by rfl)
  have n5 : ∀ ty, (Instr.next (.pointer (some ⟨W.heap.size, 0, none⟩)) true ty).run Tryd.prog (W.iter s025 5) = .ok (.tuple #[.bool false]) (W.iter s025 5) := fun ty => run_next_end W s025 5 ty (by decide)
  clear hT
  go_enter Tryd.func25, Tryd.ntmps25
  go_wp2
  go_loopw [4, 5, 6] (fun n l q wr => ∃ p : Nat, p ≤ 5 ∧ n = .int .i64 (st025 p).1 ∧ l = .int .i64 (st025 p).2.1 ∧ q = .bool (st025 p).2.2 ∧ wr = W.iter s025 p) (fun _ _ _ wr => 5 - wr.iterPos W.heap.size)
  case atStart => exact ⟨0, by omega, rfl, rfl, rfl, rfl⟩
  case round =>
    obtain ⟨p, hp, rfl, rfl, rfl, rfl⟩ := hrel
    have : p = 0 ∨ p = 1 ∨ p = 2 ∨ p = 3 ∨ p = 4 ∨ p = 5 := by omega
    rcases this with rfl | rfl | rfl | rfl | rfl | rfl
    · simp only [st025]
      go_wp2
      go_roundw
      case rel => exact ⟨1, by omega, by go_num, by go_num, rfl, rfl⟩
      case measure => simp
    · simp only [st025]
      go_wp2
      go_roundw
      case rel => exact ⟨2, by omega, by go_num, by go_num, rfl, rfl⟩
      case measure => simp
    · simp only [st025]
      go_wp2
      go_roundw
      case rel => exact ⟨3, by omega, by go_num, by go_num, rfl, rfl⟩
      case measure => simp
    · simp only [st025]
      go_wp2
      go_roundw
      case rel => exact ⟨4, by omega, by go_num, by go_num, rfl, rfl⟩
      case measure => simp
    · simp only [st025]
      go_wp2
      go_roundw
      case rel => exact ⟨5, by omega, by go_num, by go_num, rfl, rfl⟩
      case measure => simp
    · simp only [st025]
      go_wp2
      go_loopw [4, 5] (fun n l wr => n = .int .i64 25 ∧ l = .int .i64 3 ∧ wr = W.iter s025 5) (fun _ _ _ => 0)
      case atStart => exact ⟨rfl, rfl, rfl⟩
      case round =>
        obtain ⟨rfl, rfl, rfl⟩ := hrel
        go_wp2_with fail
        refine (HR.out _).mono ?_
        rintro e w2 ⟨rfl, hb2⟩
        have hbw := bt (iter_below W s025 5) hb2
        have HT2 := Lib.hid (clo_T10 _ _ HT.out hbw)
        go_wp2_with fail
        refine (qtext_25.app _ HT2.out).mono ?_
        rintro e w3 ⟨rfl, hb3⟩
        go_wp2
        go_ret2
        exact ⟨rfl, bt hbw hb3⟩
set_option maxRecDepth 100000 in
set_option maxHeartbeats 2000000 in
theorem works3 : PureOn T10 Tryd.prog 24 #[] (.bool true) := by
  intro W hT
  have HT := Lib.hid hT
  have H1 := Lib.hid (show Pure Tryd.prog 21 #[.int .i64 3, .int .i64 4, .int .i64 7] (.tuple #[.int .i64 7, .bool true]) from qadd_yes 3 4 7 (by decide) ⟨by decide, by decide⟩)
  have H2 := Lib.hid (qadd_no 3 4 6 (by decide) ⟨by decide, by decide⟩)
  clear hT
  go_enter Tryd.func24, Tryd.ntmps24
  go_wp2_with fail
  (with_reducible refine (H1.out _).mono ?_)
  rintro e w1 ⟨rfl, hb1⟩
  have hs1 : W.heap.size + 0 ≤ w1.heap.size := (by have h := hb1.size; first | omega | (simp at h; omega))
  obtain ⟨hc1, hf1, hl1⟩ := bcell hb1
  clear hl1
  go_wp2_with fail
  (with_reducible refine (H2.out _).mono ?_)
  rintro e w2 ⟨rfl, hb2⟩
  have hs2 : w1.heap.size + 0 ≤ w2.heap.size := (by have h := hb2.size; first | omega | (simp at h; omega))
  have hb1_2 := bel hb1 hb2 (by (repeat (first | assumption | exact Below.refl _ _ | refine ba ?_ _ | refine bd ?_ | refine bdn ?_ _ | refine bs ?_ (by first | omega | (simp; done) | (simp; omega)) _ | refine bt ?_ (by assumption))))
  clear hc1 hf1
  obtain ⟨hc2, hf2, hl2⟩ := bcell hb2
  clear hl2
  have HT2 := Lib.hid (clo_T10 _ _ HT.out (show Below W.heap.size W w2 by (repeat (first | assumption | exact Below.refl _ _ | refine ba ?_ _ | refine bd ?_ | refine bdn ?_ _ | refine bs ?_ (by first | omega | (simp; done) | (simp; omega)) _ | refine bt ?_ (by assumption)))))
  go_wp2_with fail
  (with_reducible refine (qparse_025.app _ HT2.out).mono ?_)
  rintro e w3 ⟨rfl, hb3⟩
  have hs3 : w2.heap.size + 0 ≤ w3.heap.size := (by have h := hb3.size; first | omega | (simp at h; omega))
  have hb1_3 := bel hb1_2 hb3 (by (repeat (first | assumption | exact Below.refl _ _ | refine ba ?_ _ | refine bd ?_ | refine bdn ?_ _ | refine bs ?_ (by first | omega | (simp; done) | (simp; omega)) _ | refine bt ?_ (by assumption))))
  have hb2_3 := bel hb2 hb3 (by (repeat (first | assumption | exact Below.refl _ _ | refine ba ?_ _ | refine bd ?_ | refine bdn ?_ _ | refine bs ?_ (by first | omega | (simp; done) | (simp; omega)) _ | refine bt ?_ (by assumption))))
  clear hc2 hf2
  obtain ⟨hc3, hf3, hl3⟩ := bcell hb3
  clear hl3
  have HT3 := Lib.hid (clo_T10 _ _ HT.out (show Below W.heap.size W w3 by (repeat (first | assumption | exact Below.refl _ _ | refine ba ?_ _ | refine bd ?_ | refine bdn ?_ _ | refine bs ?_ (by first | omega | (simp; done) | (simp; omega)) _ | refine bt ?_ (by assumption)))))
  go_wp2_with fail
  (with_reducible refine (qtext_1500.app _ HT3.out).mono ?_)
  rintro e w4 ⟨rfl, hb4⟩
  have hs4 : w3.heap.size + 0 ≤ w4.heap.size := (by have h := hb4.size; first | omega | (simp at h; omega))
  have hb1_4 := bel hb1_3 hb4 (by (repeat (first | assumption | exact Below.refl _ _ | refine ba ?_ _ | refine bd ?_ | refine bdn ?_ _ | refine bs ?_ (by first | omega | (simp; done) | (simp; omega)) _ | refine bt ?_ (by assumption))))
  have hb2_4 := bel hb2_3 hb4 (by (repeat (first | assumption | exact Below.refl _ _ | refine ba ?_ _ | refine bd ?_ | refine bdn ?_ _ | refine bs ?_ (by first | omega | (simp; done) | (simp; omega)) _ | refine bt ?_ (by assumption))))
  have hb3_4 := bel hb3 hb4 (by (repeat (first | assumption | exact Below.refl _ _ | refine ba ?_ _ | refine bd ?_ | refine bdn ?_ _ | refine bs ?_ (by first | omega | (simp; done) | (simp; omega)) _ | refine bt ?_ (by assumption))))
  clear hc3 hf3
  obtain ⟨hc4, hf4, hl4⟩ := bcell hb4
  clear hl4
  go_wp2
  go_ret
  refine ⟨rfl, ?_⟩
  (repeat (first | assumption | exact Below.refl _ _ | refine ba ?_ _ | refine bd ?_ | refine bdn ?_ _ | refine bs ?_ (by first | omega | (simp; done) | (simp; omega)) _ | refine bt ?_ (by assumption)))
end Go.Proofs.YtfnfolpdbbnnlaaDoor

/- The walk of SlotOrders. Condition: the names of the kinds lie in their variable. -/
import Derived.Test.YtfnfolpdbbnnlaaDoorSlot4
import Derived.Test.YtfnfolpdbbnnlaaDoorStr
namespace Go.Proofs.YtfnfolpdbbnnlaaDoor
open Go.RowKit
attribute [local go_sem] ext_cell ext_frozen Mix.calmUpon Mix.mUpon
def wI (s : ByteArray) : Nat → Int
  | 0 => 0
  | i + 1 => if nmS i = s then (i : Int) else wI s i
def tB (s : ByteArray) : Nat → Bool
  | 0 => false
  | i + 1 => if nmS i = s then true else tB s i
def nO (k : Int) : Nat → ByteArray
  | 0 => ⟨#[]⟩
  | i + 1 => if (i : Int) = k then nmS i else nO k i
theorem wI_4 (s : ByteArray) : wI s 4 = kI s := by
  unfold kI
  by_cases h3 : s = nmS 3
  · rw [if_pos h3, wI, if_pos h3.symm]; rfl
  rw [if_neg h3, wI, if_neg (fun h => h3 h.symm)]
  by_cases h2 : s = nmS 2
  · rw [if_pos h2, wI, if_pos h2.symm]; rfl
  rw [if_neg h2, wI, if_neg (fun h => h2 h.symm)]
  by_cases h1 : s = nmS 1
  · rw [if_pos h1, wI, if_pos h1.symm]; rfl
  rw [if_neg h1, wI, if_neg (fun h => h1 h.symm), wI]
  split <;> rfl
theorem tB_4 (s : ByteArray) : tB s 4 = kB s := by
  unfold kB
  by_cases h3 : s = nmS 3
  · rw [decide_eq_true (.inr (.inr (.inr h3))), tB, if_pos h3.symm]
  rw [tB, if_neg (fun h => h3 h.symm)]
  by_cases h2 : s = nmS 2
  · rw [decide_eq_true (.inr (.inr (.inl h2))), tB, if_pos h2.symm]
  rw [tB, if_neg (fun h => h2 h.symm)]
  by_cases h1 : s = nmS 1
  · rw [decide_eq_true (.inr (.inl h1)), tB, if_pos h1.symm]
  rw [tB, if_neg (fun h => h1 h.symm), tB]
  by_cases h0 : s = nmS 0
  · rw [decide_eq_true (.inl h0), if_pos h0.symm]
  rw [if_neg (fun h => h0 h.symm), decide_eq_false (fun h => by rcases h with h | h | h | h <;> contradiction)]
  rfl
theorem nO_4 (k : Int) : nO k 4 = nameOf k := by
  have : k = 0 ∨ k = 1 ∨ k = 2 ∨ k = 3 ∨ ¬ (0 ≤ k ∧ k < 4) := by omega
  rcases this with rfl | rfl | rfl | rfl | h
  · rfl
  · rfl
  · rfl
  · rfl
  · unfold nameOf; rw [if_neg h]; simp only [nO]
    rw [if_neg (by omega), if_neg (by omega), if_neg (by omega), if_neg (by omega)]
set_option maxRecDepth 100000 in
set_option maxHeartbeats 4000000 in
theorem so_any (ak ar bk br : Int) (s : ByteArray) (hs : s.size ≤ maxLen) : PureOn N4 Tryd.prog 7 #[L2 ak ar, L2 bk br, .string s] (.bool true) := by
  intro W hN
  have HN := Lib.hid hN
  have HK := Lib.hid (kind_any s hs)
  have HC := Lib.hid (slotcmp_any ak ar bk br)
  have HD := Lib.hid (refslotcmp_any ak ar bk br)
  have HR := Lib.hid (slotright_any ak ar)
  have HS := Lib.hid (refslotright_any ak ar)
  have HM := Lib.hid (slotname_any ak)
  clear hN
  go_enter Tryd.func7, Tryd.ntmps7
  go_wp2_with fail
  (with_reducible refine (HK.out.app _ (N4.on HN.out (by (repeat (first | assumption | exact Below.refl _ _ | refine ba ?_ _ | refine bd ?_ | refine bdn ?_ _ | refine bs ?_ (by first | omega | (simp; done) | (simp; omega)) _ | refine bt ?_ (by assumption)))))).mono ?_)
  rintro e w1 ⟨rfl, hb1⟩
  have hs1 : W.heap.size + 2 ≤ w1.heap.size := (by have h := hb1.size; first | omega | (simp at h; omega))
  have hz1_0 : W.heap.size < w1.heap.size := (by omega)
  have hz1_1 : W.heap.size + 1 < w1.heap.size := (by omega)
  obtain ⟨hc1, hf1, hl1⟩ := bcell hb1
  clear hl1
  go_wp2_with fail
  refine (refnames_any _).mono ?_
  rintro e w2 ⟨B, rfl, hB1, hB2, HL, hb2⟩
  have hs2 : w1.heap.size + 0 ≤ w2.heap.size := (by have h := hb2.size; first | omega | (simp at h; omega))
  have hb1_2 := bel hb1 hb2 (by (repeat (first | assumption | exact Below.refl _ _ | refine ba ?_ _ | refine bd ?_ | refine bdn ?_ _ | refine bs ?_ (by first | omega | (simp; done) | (simp; omega)) _ | refine bt ?_ (by assumption))))
  clear hz1_0 hz1_1 hc1 hf1
  obtain ⟨hc1_2, hf1_2, hl1_2⟩ := bcell hb1_2
  clear hl1_2
  have hz2_0 : W.heap.size < w2.heap.size := (by omega)
  have hz2_1 : W.heap.size + 1 < w2.heap.size := (by omega)
  obtain ⟨hc2, hf2, hl2⟩ := bcell hb2
  clear hl2
  go_wp2
  go_loop [9, 10, 12, 13] (fun a b c d => ∃ i : Nat, i ≤ 4 ∧ a = .int .i64 (wI s i) ∧ b = .bool (tB s i) ∧ c = .string (nO ak i) ∧ d = .int .i64 i) (fun _ _ _ d => 4 - (intOf d).toNat)
  case atStart => exact ⟨0, by omega, rfl, rfl, rfl, rfl⟩
  case round =>
    obtain ⟨i, hi, rfl, rfl, rfl, rfl⟩ := hrel
    by_cases hlt : i < 4
    · have hcell := HL.out i hlt
      have E1 : wI s (i + 1) = if nmS i = s then (i : Int) else wI s i := rfl
      have E2 : tB s (i + 1) = if nmS i = s then true else tB s i := rfl
      have E3 : nO ak (i + 1) = if (i : Int) = ak then nmS i else nO ak i := rfl
      have E1 := Lib.hid E1; have E2 := Lib.hid E2; have E3 := Lib.hid E3
      by_cases e1 : nmS i = s
      · have t1 := streq_yes e1
        have e1 := Lib.hid e1
        by_cases e2 : (i : Int) = ak
        · subst e2
          go_wp2
          go_round
          case rel => exact ⟨i + 1, by omega, by rw [E1.out, if_pos e1.out], by rw [E2.out, if_pos e1.out], (by rw [E3.out, if_pos rfl]; all_goals rw [e1.out]), by go_num⟩
          case measure => simp [intOf]; omega
        · have t2 : ((i : Int) == ak) = false := by simpa using e2
          have e2 := Lib.hid e2
          go_wp2
          go_round
          case rel => exact ⟨i + 1, by omega, by rw [E1.out, if_pos e1.out], by rw [E2.out, if_pos e1.out], by rw [E3.out, if_neg e2.out], by go_num⟩
          case measure => simp [intOf]; omega
      · have t1 := streq_no e1
        have e1 := Lib.hid e1
        by_cases e2 : (i : Int) = ak
        · subst e2
          go_wp2
          go_round
          case rel => exact ⟨i + 1, by omega, by rw [E1.out, if_neg e1.out], by rw [E2.out, if_neg e1.out], by rw [E3.out, if_pos rfl], by go_num⟩
          case measure => simp [intOf]; omega
        · have t2 : ((i : Int) == ak) = false := by simpa using e2
          have e2 := Lib.hid e2
          go_wp2
          go_round
          case rel => exact ⟨i + 1, by omega, by rw [E1.out, if_neg e1.out], by rw [E2.out, if_neg e1.out], by rw [E3.out, if_neg e2.out], by go_num⟩
          case measure => simp [intOf]; omega
    · obtain rfl : i = 4 := by omega
      rw [wI_4, tB_4, nO_4]
      have hNw : N4 w2 := N4.on HN.out (by (repeat (first | assumption | exact Below.refl _ _ | refine ba ?_ _ | refine bd ?_ | refine bdn ?_ _ | refine bs ?_ (by first | omega | (simp; done) | (simp; omega)) _ | refine bt ?_ (by assumption))))
      have ex := beq_self_eq_true (lcmp ak ar bk br)
      go_wp2_with fail
      refine wp_region_pure (by kernel_rfl) (by kernel_rfl) ?_
      repeat (first | go_big_quiet_step (((first | (go_at_call 32; with_reducible exact HC.out.quiet) | (go_at_call 33; with_reducible exact HD.out.quiet) | (go_at_call 34; with_reducible exact HR.out.quiet) | (go_at_call 35; with_reducible exact HS.out.quiet) | (go_at_call 36; with_reducible exact HM.out.quiet clo_N4 hNw) | (go_at_call 37; with_reducible exact works4.quiet clo_N4 hNw)))) | (quiet_step (((first | (go_at_call 32; with_reducible exact HC.out.quiet) | (go_at_call 33; with_reducible exact HD.out.quiet) | (go_at_call 34; with_reducible exact HR.out.quiet) | (go_at_call 35; with_reducible exact HS.out.quiet) | (go_at_call 36; with_reducible exact HM.out.quiet clo_N4 hNw) | (go_at_call 37; with_reducible exact works4.quiet clo_N4 hNw))))))
      refine wpQuiet_nil ?_
      rintro w3 ⟨x3, hx3⟩
      have hb3 := ext_below _ x3
      rw [← hx3] at hb3
      clear hx3 x3
      have hs3 : w2.heap.size + 0 ≤ w3.heap.size := (by have h := hb3.size; first | omega | (simp at h; omega))
      have hb1_3 := bel hb1_2 hb3 (by (repeat (first | assumption | exact Below.refl _ _ | refine ba ?_ _ | refine bd ?_ | refine bdn ?_ _ | refine bs ?_ (by first | omega | (simp; done) | (simp; omega)) _ | refine bt ?_ (by assumption))))
      have hb2_3 := bel hb2 hb3 (by (repeat (first | assumption | exact Below.refl _ _ | refine ba ?_ _ | refine bd ?_ | refine bdn ?_ _ | refine bs ?_ (by first | omega | (simp; done) | (simp; omega)) _ | refine bt ?_ (by assumption))))
      clear hc1_2 hf1_2 hz2_0 hz2_1 hc2 hf2
      obtain ⟨hc1_3, hf1_3, hl1_3⟩ := bcell hb1_3
      clear hl1_3
      have hz3_0 : W.heap.size < w3.heap.size := (by omega)
      have hz3_1 : W.heap.size + 1 < w3.heap.size := (by omega)
      obtain ⟨hc3, hf3, hl3⟩ := bcell hb3
      clear hl3
      go_wp2
      go_ret
      refine ⟨rfl, ?_⟩
      (repeat (first | assumption | exact Below.refl _ _ | refine ba ?_ _ | refine bd ?_ | refine bdn ?_ _ | refine bs ?_ (by first | omega | (simp; done) | (simp; omega)) _ | refine bt ?_ (by assumption)))
end Go.Proofs.YtfnfolpdbbnnlaaDoor

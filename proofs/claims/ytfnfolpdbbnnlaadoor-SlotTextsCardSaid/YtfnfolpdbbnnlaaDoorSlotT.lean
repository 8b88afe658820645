/- The walk of SlotTexts. Condition: the names of the kinds and the error values lie in their variables. -/
import Derived.Test.YtfnfolpdbbnnlaaDoorSlot6
namespace Go.Proofs.YtfnfolpdbbnnlaaDoor
open Go.RowKit
attribute [local go_sem] ext_cell ext_frozen Mix.calmUpon Mix.mUpon
/-- What is found among the first i slots. -/
def WS (s : ByteArray) : Nat → Nat × Nat × Bool
  | 0 => (0, 0, false)
  | i + 1 => if sT (i / 33) (i % 33) = s then (i / 33, i % 33, true) else WS s i
theorem WS_no (s : ByteArray) (n : Nat) (h : ∀ i, i < n → sT (i / 33) (i % 33) ≠ s) : WS s n = (0, 0, false) := by
  induction n with
  | zero => rfl
  | succ n ih => rw [WS, if_neg (h n (by omega)), ih fun i hi => h i (by omega)]
theorem WS_yes (k r : Nat) (hk : k < 4) (hr : r ≤ 32) (n : Nat) (h : 33 * k + r < n) (hn : n ≤ 132) : WS (sT k r) n = (k, r, true) := by
  induction n with
  | zero => omega
  | succ n ih =>
    rw [WS]
    by_cases e : sT (n / 33) (n % 33) = sT k r
    · obtain ⟨e1, e2⟩ := sT_inj (show n / 33 < 4 by omega) (show n % 33 ≤ 32 by omega) hk hr e
      rw [if_pos e, e1, e2]
    · rw [if_neg e]
      apply ih
      · by_cases hq : 33 * k + r = n
        · exfalso; apply e
          rw [show n / 33 = k by omega, show n % 33 = r by omega]
        · omega
      · omega
/-- Any slot's text. -/
def tx (k r : Int) : ByteArray := if LOk k r then sT k.toNat r.toNat else ⟨#[]⟩
theorem slottext_any (k r : Int) : PureOn N4 Tryd.prog 41 #[L2 k r] (.string (tx k r)) := by
  unfold tx
  by_cases h : LOk k r
  · rw [if_pos h]
    obtain ⟨h1, h2, h3, h4⟩ := h
    obtain ⟨a, rfl⟩ := Int.eq_ofNat_of_zero_le h1
    obtain ⟨b, rfl⟩ := Int.eq_ofNat_of_zero_le h3
    exact slottext_yes a b (by omega) (by omega)
  · rw [if_neg h]; exact (slottext_no k r h).on _
theorem reftext4_any (k r : Int) : Pure Tryd.prog 40 #[L2 k r] (.string (tx k r)) := by
  unfold tx
  by_cases h : LOk k r
  · rw [if_pos h]
    obtain ⟨h1, h2, h3, h4⟩ := h
    obtain ⟨a, rfl⟩ := Int.eq_ofNat_of_zero_le h1
    obtain ⟨b, rfl⟩ := Int.eq_ofNat_of_zero_le h3
    exact reftext4_yes a b (by omega) (by omega)
  · rw [if_neg h]; exact reftext4_no k r h
set_option maxRecDepth 100000 in
set_option maxHeartbeats 4000000 in
theorem st_core (ak ar : Int) (s : ByteArray) (pk pr : Nat) (pb : Bool) (hP : PureOn CS Tryd.prog 38 #[.string s] (.tuple #[L2 pk pr, .bool pb])) (hW : WS s 132 = (pk, pr, pb)) :
    PureOn CS Tryd.prog 8 #[L2 ak ar, .string s] (.bool true) := by
  intro W hC
  have HC := Lib.hid hC
  have HP := Lib.hid hP
  have HWS := Lib.hid hW
  have HT := Lib.hid (slottext_any ak ar)
  have HU := Lib.hid (reftext4_any ak ar)
  clear hC hP hW
  go_enter Tryd.func8, Tryd.ntmps8
  go_wp2_with fail
  (with_reducible refine (HP.out.app _ (CS.on HC.out (by (repeat (first | assumption | exact Below.refl _ _ | refine ba ?_ _ | refine bd ?_ | refine bdn ?_ _ | refine bs ?_ (by first | omega | (simp; done) | (simp; omega)) _ | refine bt ?_ (by assumption)))))).mono ?_)
  rintro e w1 ⟨rfl, hb1⟩
  have hs1 : W.heap.size + 1 ≤ w1.heap.size := (by have h := hb1.size; first | omega | (simp at h; omega))
  have hz1_0 : W.heap.size < w1.heap.size := (by omega)
  obtain ⟨hc1, hf1, hl1⟩ := bcell hb1
  clear hl1
  go_wp2_with fail
  refine (refall_any _).mono ?_
  rintro e w2 ⟨g, cap, rfl, hg1, hg2, HL, hb2⟩
  have hs2 : w1.heap.size + 1 ≤ w2.heap.size := (by have h := hb2.size; first | omega | (simp at h; omega))
  have hb1_2 := bel hb1 hb2 (by (repeat (first | assumption | exact Below.refl _ _ | refine ba ?_ _ | refine bd ?_ | refine bdn ?_ _ | refine bs ?_ (by first | omega | (simp; done) | (simp; omega)) _ | refine bt ?_ (by assumption))))
  clear hz1_0 hc1 hf1
  obtain ⟨hc1_2, hf1_2, hl1_2⟩ := bcell hb1_2
  clear hl1_2
  have hz2_0 : W.heap.size < w2.heap.size := (by omega)
  have hz2_1 : w1.heap.size < w2.heap.size := (by omega)
  obtain ⟨hc2, hf2, hl2⟩ := bcell hb2
  clear hl2
  have a0 : w2.cell? ⟨W.heap.size, 0, none⟩ = some (.int .i64 ak) := ((show Below (W.alloc (.cells #[.int .i64 ak, .int .i64 ar] 42)).heap.size (W.alloc (.cells #[.int .i64 ak, .int .i64 ar] 42)) w2 by (repeat (first | assumption | exact Below.refl _ _ | refine ba ?_ _ | refine bd ?_ | refine bdn ?_ _ | refine bs ?_ (by first | omega | (simp; done) | (simp; omega)) _ | refine bt ?_ (by assumption)))).cell (p := ⟨W.heap.size, 0, none⟩) (by simp)).trans (by simp [go_sem])
  have a1 : w2.cell? ⟨W.heap.size, 1, none⟩ = some (.int .i64 ar) := ((show Below (W.alloc (.cells #[.int .i64 ak, .int .i64 ar] 42)).heap.size (W.alloc (.cells #[.int .i64 ak, .int .i64 ar] 42)) w2 by (repeat (first | assumption | exact Below.refl _ _ | refine ba ?_ _ | refine bd ?_ | refine bdn ?_ _ | refine bs ?_ (by first | omega | (simp; done) | (simp; omega)) _ | refine bt ?_ (by assumption)))).cell (p := ⟨W.heap.size, 1, none⟩) (by simp)).trans (by simp [go_sem])
  have b0 : w2.cell? ⟨w1.heap.size, 0, none⟩ = some (.int .i64 (pk : Int)) := (hb2.cell (p := ⟨w1.heap.size, 0, none⟩) (by simp)).trans (by simp [go_sem])
  have b1 : w2.cell? ⟨w1.heap.size, 1, none⟩ = some (.int .i64 (pr : Int)) := (hb2.cell (p := ⟨w1.heap.size, 1, none⟩) (by simp)).trans (by simp [go_sem])
  have A0 := Lib.hid a0; have A1 := Lib.hid a1; have B0 := Lib.hid b0; have B1 := Lib.hid b1
  have HB := Lib.hid (show Below W.heap.size W w2 by (repeat (first | assumption | exact Below.refl _ _ | refine ba ?_ _ | refine bd ?_ | refine bdn ?_ _ | refine bs ?_ (by first | omega | (simp; done) | (simp; omega)) _ | refine bt ?_ (by assumption))))
  clear a0 a1 b0 b1
  go_wp2
  go_loopw [9, 10] (fun t i wr => ∃ n : Nat, n ≤ 132 ∧ i = .int .i64 n ∧ t = .bool (WS s n).2.2 ∧ Hid (wr.cell? ⟨w2.heap.size, 0, none⟩ = some (.int .i64 ((WS s n).1 : Nat))) ∧ Hid (wr.cell? ⟨w2.heap.size, 1, none⟩ = some (.int .i64 ((WS s n).2.1 : Nat))) ∧ Hid (wr.frozen? ⟨w2.heap.size, 0, none⟩ = false) ∧ Hid (wr.frozen? ⟨w2.heap.size, 1, none⟩ = false) ∧ Below w2.heap.size w2 wr ∧ w2.heap.size < wr.heap.size) (fun _ i _ => 132 - (intOf i).toNat)
  case atStart => exact ⟨0, by omega, rfl, rfl, Lib.hid (by simp [go_sem, WS]), Lib.hid (by simp [go_sem, WS]), Lib.hid (by simp [go_sem]), Lib.hid (by simp [go_sem]), by (repeat (first | assumption | exact Below.refl _ _ | refine ba ?_ _ | refine bd ?_ | refine bdn ?_ _ | refine bs ?_ (by first | omega | (simp; done) | (simp; omega)) _ | refine bt ?_ (by assumption))), by simp⟩
  case round =>
    obtain ⟨n, hn, rfl, rfl, HK, HR, HF0, HF1, hb, hlt⟩ := hrel
    rename_i wr
    have hgr : g < wr.heap.size := by have := hb.size; omega
    have hbs := hb.size
    by_cases hnt : n < 132
    · have hnI : (n : Int) < 132 := by omega
      obtain ⟨l0, l1⟩ := HL.out n hnt
      have c0 : wr.cell? ⟨g, n * 2, none⟩ = some (.int .i64 (n / 33 : Nat)) := (hb.cell (p := ⟨g, n * 2, none⟩) hg2).trans l0
      have c1 : wr.cell? ⟨g, n * 2 + 1, none⟩ = some (.int .i64 (n % 33 : Nat)) := (hb.cell (p := ⟨g, n * 2 + 1, none⟩) hg2).trans l1
      have HTT := Lib.hid (reftext4_yes (n / 33) (n % 33) (by omega) (by omega))
      have E1 := Lib.hid (show WS s (n + 1) = if sT (n / 33) (n % 33) = s then (n / 33, n % 33, true) else WS s n from rfl)
      have HBW := Lib.hid hb
      clear l0 l1 hb
      generalize hkk : n / 33 = kk at *
      generalize hrr : n % 33 = rr at *
      clear hkk hrr
      by_cases e1 : sT kk rr = s
      · have t1 := streq_yes e1
        have E2 := Lib.hid e1
        clear e1
        go_wp2_with fail
        (with_reducible refine (HTT.out _).mono ?_)
        rintro e w3 ⟨rfl, hb3⟩
        have hs3 : wr.heap.size + 0 ≤ w3.heap.size := (by have h := hb3.size; first | omega | (simp at h; omega))
        obtain ⟨hc3, hf3, hl3⟩ := bcell hb3
        clear hl3
        have k0 := HK.out
        have k1 := HR.out
        have f0 := HF0.out
        have f1 := HF1.out
        go_wp2
        have d0 : w3.cell? ⟨w2.heap.size, 0, none⟩ = some (.int .i64 ((WS s n).1 : Nat)) := (hc3 _ _ hlt).trans HK.out
        have d1 : w3.cell? ⟨w2.heap.size, 1, none⟩ = some (.int .i64 ((WS s n).2.1 : Nat)) := (hc3 _ _ hlt).trans HR.out
        have e0 : w3.frozen? ⟨w2.heap.size, 0, none⟩ = false := (hf3 _ 0 hlt).trans HF0.out
        have e1 : w3.frozen? ⟨w2.heap.size, 1, none⟩ = false := (hf3 _ 1 hlt).trans HF1.out
        go_roundw
        case rel => exact ⟨n + 1, by omega, by go_num, by rw [E1.out, if_pos E2.out], Lib.hid (by rw [E1.out, if_pos E2.out]; simp [go_sem, d0]), Lib.hid (by rw [E1.out, if_pos E2.out]; simp [go_sem, d1]), Lib.hid (by simp [go_sem, e0]), Lib.hid (by simp [go_sem, e1]), (((bt HBW.out hb3).setCell (Nat.le_refl _) _).setCell (Nat.le_refl _) _), by simp; omega⟩
        case measure => simp [intOf]; omega
      · have t1 := streq_no e1
        have E2 := Lib.hid e1
        clear e1
        go_wp2_with fail
        (with_reducible refine (HTT.out _).mono ?_)
        rintro e w3 ⟨rfl, hb3⟩
        have hs3 : wr.heap.size + 0 ≤ w3.heap.size := (by have h := hb3.size; first | omega | (simp at h; omega))
        obtain ⟨hc3, hf3, hl3⟩ := bcell hb3
        clear hl3
        have HK2 : w3.cell? ⟨w2.heap.size, 0, none⟩ = some (.int .i64 ((WS s n).1 : Nat)) := (hc3 _ _ hlt).trans HK.out
        have HR2 : w3.cell? ⟨w2.heap.size, 1, none⟩ = some (.int .i64 ((WS s n).2.1 : Nat)) := (hc3 _ _ hlt).trans HR.out
        have HF03 := Lib.hid ((hf3 _ 0 hlt).trans HF0.out); have HF13 := Lib.hid ((hf3 _ 1 hlt).trans HF1.out)
        have HK3 := Lib.hid HK2; have HR3 := Lib.hid HR2
        clear HK2 HR2
        go_wp2
        go_roundw
        case rel => exact ⟨n + 1, by omega, by go_num, by rw [E1.out, if_neg E2.out], by rw [E1.out, if_neg E2.out]; exact HK3, by rw [E1.out, if_neg E2.out]; exact HR3, HF03, HF13, bt HBW.out hb3, by omega⟩
        case measure => simp [intOf]; omega
    · obtain rfl : n = 132 := by omega
      have q1 := HK.out; have q2 := HR.out
      rw [HWS.out] at q1 q2 ⊢
      simp only at q1 q2
      have p1 : wr.cell? ⟨W.heap.size, 0, none⟩ = some (.int .i64 ak) := (hb.cell (p := ⟨W.heap.size, 0, none⟩) hz2_0).trans A0.out
      have p2 : wr.cell? ⟨W.heap.size, 1, none⟩ = some (.int .i64 ar) := (hb.cell (p := ⟨W.heap.size, 1, none⟩) hz2_0).trans A1.out
      have p3 : wr.cell? ⟨w1.heap.size, 0, none⟩ = some (.int .i64 (pk : Int)) := (hb.cell (p := ⟨w1.heap.size, 0, none⟩) hz2_1).trans B0.out
      have p4 : wr.cell? ⟨w1.heap.size, 1, none⟩ = some (.int .i64 (pr : Int)) := (hb.cell (p := ⟨w1.heap.size, 1, none⟩) hz2_1).trans B1.out
      have y1 : W.heap.size < wr.heap.size := by omega
      have y2 : w1.heap.size < wr.heap.size := by omega
      have hall : Below W.heap.size W wr := bt HB.out hb
      have hNw : N4 wr := N4.on HC.out.n hall
      go_wp2_with fail
      refine wp_region_pure (by kernel_rfl) (by kernel_rfl) ?_
      repeat (first | go_big_quiet_step (((first | (go_at_call 41; with_reducible exact HT.out.quiet clo_N4 hNw) | (go_at_call 40; with_reducible exact HU.out.quiet) | (go_at_call 37; with_reducible exact works4.quiet clo_N4 hNw)))) | (quiet_step (((first | (go_at_call 41; with_reducible exact HT.out.quiet clo_N4 hNw) | (go_at_call 40; with_reducible exact HU.out.quiet) | (go_at_call 37; with_reducible exact works4.quiet clo_N4 hNw))))))
      refine wpQuiet_nil ?_
      rintro w3 ⟨x3, hx3⟩
      have hb3 := ext_below _ x3
      rw [← hx3] at hb3
      clear hx3 x3
      have hs3 : wr.heap.size + 0 ≤ w3.heap.size := (by have h := hb3.size; first | omega | (simp at h; omega))
      obtain ⟨hc3, hf3, hl3⟩ := bcell hb3
      clear hl3
      go_wp2
      go_ret
      exact ⟨rfl, bt hall hb3⟩
theorem st_any (ak ar : Int) (s : ByteArray) (hs : s.size ≤ 281474976710656) : PureOn CS Tryd.prog 8 #[L2 ak ar, .string s] (.bool true) := by
  by_cases h : ∃ k r, k < 4 ∧ r ≤ 32 ∧ sT k r = s
  · obtain ⟨k, r, hk, hr, rfl⟩ := h
    exact st_core ak ar _ k r true (slotparse_yes k r hk hr) (WS_yes k r hk hr 132 (by omega) (by omega))
  · have hno : ∀ k r, k < 4 → r ≤ 32 → sT k r ≠ s := fun k r hk hr e => h ⟨k, r, hk, hr, e⟩
    exact st_core ak ar s 0 0 false (slotparse_no s hs hno) (WS_no s 132 fun i hi => hno _ _ (by omega) (by omega))
end Go.Proofs.YtfnfolpdbbnnlaaDoor

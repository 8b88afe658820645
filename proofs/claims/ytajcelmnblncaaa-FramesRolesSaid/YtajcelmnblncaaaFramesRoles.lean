/- For any cap and any acts the statement FramesRoles returns true. Condition: none. -/
import Derived.Test.YtajcelmnblncaaaFrR
namespace Go.Proofs.Ytajcelmnblncaaa
open Go.RowKit Go.Maps
attribute [local go_sem] ext_cell ext_frozen extC_cell extC_frozen Mix.calmUpon Mix.mUpon eqFr
set_option maxRecDepth 100000 in
set_option maxHeartbeats 4000000 in
theorem roles23 (v0 : Value) (acts : List FAct) (cap : Int) (W : World) (hA : FAV W v0 acts) (hok : ∀ x ∈ acts, J64 x.id) : Calls Try.prog 12 #[.int .i64 cap, v0] W fun e W' => e = .returned (.bool true) ∧ Below W.heap.size W W' := by
  obtain ⟨a, n, cp, rfl, hn, hc, hm, hat⟩ := hA.at_
  by_cases hbig : 100 < n
  · have hbI : (100 : Int) < (n : Int) := by omega
    clear hat hA hok hn
    go_enter Try.func12, Try.ntmps12
    go_wp2
    go_ret
    exact ⟨rfl, Below.refl _ _⟩
  · have hbI : (n : Int) ≤ 100 := by omega
    by_cases hcp : cap < 1
    · clear hat hA hok hn hbig
      go_enter Try.func12, Try.ntmps12
      go_wp2
      go_ret
      exact ⟨rfl, Below.refl _ _⟩
    have hnb : n ≤ 100 := by omega
    have hcap1 : 1 ≤ cap := by omega
    have HAT := Lib.hid hat; have HOK := Lib.hid hok; have HN := Lib.hid hn
    clear hat hA hok hn hbig hm hcp
    go_enter Try.func12, Try.ntmps12
    go_wp2_with fail
    refine (fnew_any W hcap1).mono ?_
    rintro e w1 ⟨rfl, h1, hb1⟩
    have HI := Lib.hid (show FW W w1 (W.heap.size + 1) W.heap.size cap [] 0 from ⟨h1, hb1, Nat.le_refl _⟩)
    clear h1 hb1
    obtain ⟨tp, htp⟩ : ∃ tp, tp = W.heap.size + 1 := ⟨_, rfl⟩
    obtain ⟨M, hM⟩ : ∃ M, M = W.heap.size := ⟨_, rfl⟩
    have HT := Lib.hid (show W.heap.size ≤ tp ∧ W.heap.size ≤ M from by omega)
    rw [← htp, ← hM] at HI
    rw [← htp]
    clear htp hM
    go_wp2
    go_loopw [6] (fun iv wr => ∃ (t : Nat) (S : List Fr), t ≤ n ∧ iv = .int .i64 t ∧ Hid (FW W wr tp M cap S t) ∧ Hid ((S.length : Int) ≤ cap)) (fun iv _ => n - (intOf iv).toNat)
    case atStart => exact ⟨0, [], Nat.zero_le _, rfl, HI, Lib.hid (by simp; omega)⟩
    case round =>
      clear HI
      obtain ⟨t, S, ht, rfl, HQ, HCP⟩ := hrel
      obtain ⟨w2, rfl⟩ : ∃ w2, w2 = wr := ⟨_, rfl⟩
      by_cases hlt : t < n
      · have hts : (t : Int) < (n : Int) := by omega
        obtain ⟨x, hx⟩ := at_lt (l := acts) (i := t) (by rw [← HN.out]; exact hlt)
        obtain ⟨b, off, rfl, hb, hcell⟩ := HAT.out t x hx
        have hxo := HOK.out x (mem_at hx)
        obtain ⟨x0, x1, x2, x3, x4⟩ := x
        have e0 := (HQ.out.bel.cell (p := ⟨b, off + t * 5 + 0, none⟩) hb).trans (hcell 0 _ rfl)
        have e1 := (HQ.out.bel.cell (p := ⟨b, off + t * 5 + 1, none⟩) hb).trans (hcell 1 _ rfl)
        have e2 := (HQ.out.bel.cell (p := ⟨b, off + t * 5 + 2, none⟩) hb).trans (hcell 2 _ rfl)
        have e3 := (HQ.out.bel.cell (p := ⟨b, off + t * 5 + 3, none⟩) hb).trans (hcell 3 _ rfl)
        have e4 := (HQ.out.bel.cell (p := ⟨b, off + t * 5 + 4, none⟩) hb).trans (hcell 4 _ rfl)
        simp only [Nat.add_zero] at e0
        have HXO := Lib.hid hxo
        have hlen := HQ.out.len
        clear hcell hx hxo
        go_wp2_with fail
        refine (fdo HQ.out.ts (by omega) ⟨x0, x1, x2, x3, x4⟩ HXO.out).mono ?_
        intro e w3 hP
        have HI3 := Lib.hid (HQ.out.step HT.out.1 HT.out.2 hP (by have := fstep_len cap S ⟨x0, x1, x2, x3, x4⟩; omega))
        have HC3 := Lib.hid (fstep_cap HQ.out.ts.sf HCP.out ⟨x0, x1, x2, x3, x4⟩)
        obtain ⟨rfl, _, _⟩ := hP
        clear e0 e1 e2 e3 e4
        go_wp2
        go_roundw
        case rel => exact ⟨t + 1, _, by omega, by go_num, HI3, HC3⟩
        case measure => simp [intOf]; omega
      · obtain rfl : n = t := by omega
        have HSL := Lib.hid HQ.out.len
        go_wp2_with fail
        refine (froles HQ.out.ts).mono ?_
        rintro e w3 ⟨v3, rfl, hrs, ho3, hb3⟩
        obtain ⟨a3, n3, cp3, rfl, hn3, hc3, hm3, hat3⟩ := hrs.at_
        have HAT3 := Lib.hid hat3; have HN3 := Lib.hid hn3
        have H3 := Lib.hid (HQ.out.on hb3)
        have hnb3 : n3 ≤ 32 := by rw [hn3]; exact rolesF_len S 32
        clear hat3 hrs ho3 hn3 hb3 hc3 hm3
        go_wp2
        go_loopw [7, 9] (fun sv iv wr => ∃ t : Nat, t ≤ n3 ∧ iv = .int .i64 t ∧ sv = .int .i64 (sumR S ((rolesF S 32).take t) : Nat) ∧ Hid (Below w3.heap.size w3 wr)) (fun _ iv _ => n3 - (intOf iv).toNat)
        case atStart => exact ⟨0, Nat.zero_le _, rfl, rfl, Lib.hid (Below.refl _ _)⟩
        case round =>
          obtain ⟨t, ht3, rfl, rfl, HB4⟩ := hrel
          obtain ⟨w4, rfl⟩ : ∃ w4, w4 = wr := ⟨_, rfl⟩
          by_cases hlt3 : t < n3
          · have hts3 : (t : Int) < (n3 : Int) := by omega
            obtain ⟨r, hr⟩ := at_lt (l := rolesF S 32) (i := t) (by rw [← HN3.out]; exact hlt3)
            obtain ⟨b3, off3, rfl, hb3, hcell3⟩ := HAT3.out t r hr
            have HC3 := Lib.hid (hcell3 0 _ rfl)
            have HBB3 := Lib.hid hb3
            have hrm := roles_mem (mem_at hr)
            have HRM := Lib.hid hrm
            have HRT := Lib.hid (take_at hr)
            have HRR := Lib.hid hr
            have d4 := (HB4.out.cell (p := ⟨b3, off3 + t * 1 + 0, none⟩) hb3).trans HC3.out
            simp only [Nat.mul_one, Nat.add_zero] at d4
            clear hcell3 hr hrm hb3
            go_wp2_with fail
            refine (fof (H3.out.ts.below HB4.out) r).mono ?_
            rintro e w5 ⟨v5, rfl, hrs5, ho5, hb5⟩
            obtain ⟨a5, n5, cp5, rfl, hn5, hc5, hm5, hat5⟩ := hrs5.at_
            have HAT5 := Lib.hid hat5
            have HN5 := Lib.hid hn5
            have HB5 := Lib.hid (bt HB4.out hb5)
            have hcr : cnt S r = n5 := by rw [hn5, ofF_len]
            have HCR := Lib.hid hcr
            have hn5p : 0 < n5 := by rw [← hcr]; exact (wtF_pos H3.out.ts.ok r).1 HRM.out.2.2
            have hn5b : n5 ≤ 100 := by have := cnt_le S r; have := HSL.out; omega
            have d5 := (HB5.out.cell (p := ⟨b3, off3 + t * 1 + 0, none⟩) HBB3.out).trans HC3.out
            simp only [Nat.mul_one, Nat.add_zero] at d5
            clear hat5 hrs5 ho5 hn5 hb5 hc5 hm5 d4 hcr
            go_wp2_with fail
            refine (fweight (H3.out.ts.below HB5.out) r).mono ?_
            rintro e w6 ⟨rfl, hb6⟩
            rw [show wtA S r = .tuple #[.int .i64 (wtF S r), .bool true] by unfold wtA; rw [decide_eq_true HRM.out.2.2]]
            have HB6 := Lib.hid (bt HB5.out hb6)
            have HB56 := Lib.hid hb6
            have d6 := (HB6.out.cell (p := ⟨b3, off3 + t * 1 + 0, none⟩) HBB3.out).trans HC3.out
            simp only [Nat.mul_one, Nat.add_zero] at d6
            have hbw6 : b3 < w6.heap.size := Nat.lt_of_lt_of_le HBB3.out HB6.out.size
            have hne5 : ((n5 : Int) == 0) = false := by simp; omega
            clear hb6 d5
            obtain ⟨sN, hsN⟩ : ∃ sN : Nat, sumR S ((rolesF S 32).take t) = sN := ⟨_, rfl⟩
            have HSN := Lib.hid (show sumR S ((rolesF S 32).take t) = sN ∧ sN ≤ 3300 from ⟨hsN, by
              rw [← hsN]
              have h1 : ∀ l : List Int, sumR S l ≤ l.length * 100 := fun l => by
                induction l with
                | nil => simp [sumR]
                | cons q u ih =>
                  have := cnt_le S q
                  have h2 := HSL.out
                  unfold sumR at ih ⊢
                  simp only [List.map_cons, List.sum_cons, List.length_cons]; omega
              have h2 := h1 ((rolesF S 32).take t)
              have h3 := List.length_take_le t (rolesF S 32)
              omega⟩)
            rw [hsN]
            clear hsN
            by_cases ht0 : t = 0
            · have htb : decide ((0 : Int) < (t : Int)) = false := by simp; omega
              have htc : decide (0 < t) = false := by simp; omega
              clear ht0
              go_wp2
              refine wp_region_pure (by kernel_rfl) (by kernel_rfl) ?_
              repeat (first | go_big_quiet_step ((fail)) | (quiet_step ((fail))))
              refine wpQuiet_nil ?_
              rintro w7 ⟨x7, hx7⟩
              have hb7 := ext_below _ x7
              rw [← hx7] at hb7
              clear hx7 x7
              have hs7 : w6.heap.size + 0 ≤ w7.heap.size := (by have h := hb7.size; first | omega | (simp at h; omega))
              obtain ⟨hc7, hf7, hl7⟩ := bcell hb7
              clear hl7
              have HB7 := Lib.hid (bt HB6.out hb7)
              have HB57 := Lib.hid (bt HB56.out hb7)
              clear hb7 hc7 hf7 d6
              go_wp2
              go_loopw [13] (fun kv wr => ∃ k : Nat, k ≤ n5 ∧ kv = .int .i64 k ∧ Hid (Below w3.heap.size w3 wr ∧ Below w5.heap.size w5 wr)) (fun kv _ => n5 - (intOf kv).toNat)
              case atStart => exact ⟨0, Nat.zero_le _, rfl, Lib.hid ⟨HB7.out, HB57.out⟩⟩
              case round =>
                obtain ⟨k, hk5, rfl, HB8⟩ := hrel
                obtain ⟨w8, rfl⟩ : ∃ w8, w8 = wr := ⟨_, rfl⟩
                by_cases hlt5 : k < n5
                · have hks : (k : Int) < (n5 : Int) := by omega
                  obtain ⟨x, hx⟩ := at_lt (l := ofF S r) (i := k) (by rw [← HN5.out]; exact hlt5)
                  obtain ⟨b5, off5, rfl, hb5, hcell5⟩ := HAT5.out k x hx
                  have e5 := (HB8.out.2.cell (p := ⟨b5, off5 + k * 1 + 0, none⟩) hb5).trans (hcell5 0 _ rfl)
                  simp only [Nat.mul_one, Nat.add_zero] at e5
                  obtain ⟨y, hy1, hy2, hy3⟩ := of_mem H3.out.ts.sf (mem_at hx)
                  have hyo := H3.out.ts.ok y hy3
                  have hyi := (Srt.fnd_mem hy1).2
                  have hx64 : J64 x := by rw [← hyi]; exact id64 hyo
                  have hyr : (y.role == r) = true := by simpa using hy2
                  have hyw : (y.weight == wtF S r) = true := by rw [← hy2, H3.out.ts.weight hy3]; simp
                  have hyr2 : (y.role != r) = false := by simpa using hy2
                  have hyw2 : (y.weight != wtF S r) = false := by rw [← hy2, H3.out.ts.weight hy3]; simp
                  have HYF := Lib.hid hy1
                  have HYO := Lib.hid hyo
                  have HX64 := Lib.hid hx64
                  clear hcell5 hx hy1 hy2 hy3 hyo hyi hx64 hb5
                  go_wp2_with fail
                  refine (fget (H3.out.ts.below HB8.out.1) HX64.out).mono ?_
                  rintro e w9 ⟨rfl, hb9⟩
                  rw [show getA S x = .tuple #[fval y, .bool true] by unfold getA; rw [HYF.out]]
                  have HB9 := Lib.hid (show Below w3.heap.size w3 (w9.alloc (.cells #[.int .i64 y.id, .int .i64 y.role, .int .i64 y.weight, .bool y.up, .bool y.quiet, .int .i64 y.time, .int .i64 y.til] 114)) from ba (bt HB8.out.1 hb9) _)
                  have HB59 := Lib.hid (show Below w5.heap.size w5 (w9.alloc (.cells #[.int .i64 y.id, .int .i64 y.role, .int .i64 y.weight, .bool y.up, .bool y.quiet, .int .i64 y.time, .int .i64 y.til] 114)) from ba (bt HB8.out.2 hb9) _)
                  have hs9 : w9.heap.size < (w9.alloc (.cells #[.int .i64 y.id, .int .i64 y.role, .int .i64 y.weight, .bool y.up, .bool y.quiet, .int .i64 y.time, .int .i64 y.til] 114)).heap.size := by simp
                  have HFB := Lib.hid (FB.made w9 y)
                  clear hb9 e5
                  go_wp2
                  generalize w9.alloc (.cells #[.int .i64 y.id, .int .i64 y.role, .int .i64 y.weight, .bool y.up, .bool y.quiet, .int .i64 y.time, .int .i64 y.til] 114) = w10 at *
                  obtain ⟨x0, x1, x2, x3, x4, x5, x6⟩ := HFB.out.cells
                  have d10 := (HB9.out.cell (p := ⟨b3, off3 + t * 1 + 0, none⟩) HBB3.out).trans HC3.out
                  simp only [Nat.mul_one, Nat.add_zero] at d10
                  have hbw10 : b3 < w10.heap.size := Nat.lt_of_lt_of_le HBB3.out HB9.out.size
                  cases hup : y.up with
                  | false =>
                    rw [hup] at x3
                    refine wp_region_pure (by kernel_rfl) (by kernel_rfl) ?_
                    repeat (first | go_big_quiet_step ((fail)) | (quiet_step ((fail))))
                    refine wpQuiet_nil ?_
                    rintro w11 ⟨x11, hx11⟩
                    have hb11 := ext_below _ x11
                    rw [← hx11] at hb11
                    clear hx11 x11
                    have hs11 : w10.heap.size + 0 ≤ w11.heap.size := (by have h := hb11.size; first | omega | (simp at h; omega))
                    obtain ⟨hc11, hf11, hl11⟩ := bcell hb11
                    clear hl11
                    have HB11 := Lib.hid (show Below w3.heap.size w3 w11 ∧ Below w5.heap.size w5 w11 from ⟨bt HB9.out hb11, bt HB59.out hb11⟩)
                    clear hb11 hc11 hf11 d10 x0 x1 x2 x3 x4 x5 x6
                    go_wp2
                    go_roundw
                    case rel => exact ⟨k + 1, by omega, by go_num, HB11⟩
                    case measure => simp [intOf]; omega
                  | true =>
                    have htil := HYO.out.up hup
                    rw [hup] at x3
                    rw [htil] at x6
                    refine wp_region_pure (by kernel_rfl) (by kernel_rfl) ?_
                    repeat (first | go_big_quiet_step ((fail)) | (quiet_step ((fail))))
                    refine wpQuiet_nil ?_
                    rintro w11 ⟨x11, hx11⟩
                    have hb11 := ext_below _ x11
                    rw [← hx11] at hb11
                    clear hx11 x11
                    have hs11 : w10.heap.size + 0 ≤ w11.heap.size := (by have h := hb11.size; first | omega | (simp at h; omega))
                    obtain ⟨hc11, hf11, hl11⟩ := bcell hb11
                    clear hl11
                    have HB11 := Lib.hid (show Below w3.heap.size w3 w11 ∧ Below w5.heap.size w5 w11 from ⟨bt HB9.out hb11, bt HB59.out hb11⟩)
                    clear hb11 hc11 hf11 d10 x0 x1 x2 x3 x4 x5 x6
                    go_wp2
                    go_roundw
                    case rel => exact ⟨k + 1, by omega, by go_num, HB11⟩
                    case measure => simp [intOf]; omega
                · obtain rfl : n5 = k := by omega
                  have hwn : IntKind.i64.wrap ((sN : Int) + (n5 : Int)) = ((sN + n5 : Nat) : Int) := by rw [IntWalk.i64_in _ (by have := HSN.out.2; omega)]; omega
                  go_wp2
                  go_roundw
                  case rel => exact ⟨t + 1, by omega, by go_num, by rw [HRT.out, sumR_snoc, HSN.out.1, HCR.out]; simp, Lib.hid HB8.out.1⟩
                  case measure => simp [intOf]; omega
            · obtain ⟨p, hp⟩ : ∃ p : Nat, t = p + 1 := ⟨t - 1, by omega⟩
              obtain ⟨r', hr'⟩ := at_lt (l := rolesF S 32) (i := p) (by rw [← HN3.out]; omega)
              obtain ⟨b3', off3', he3, _, hcell3'⟩ := HAT3.out p r' hr'
              cases he3
              have d7 := (HB6.out.cell (p := ⟨b3, off3 + p * 1 + 0, none⟩) HBB3.out).trans (hcell3' 0 _ rfl)
              simp only [Nat.mul_one, Nat.add_zero] at d7
              have hlt' : ¬ r ≤ r' := by
                obtain ⟨i1, g1⟩ := List.getElem?_eq_some_iff.1 hr'
                obtain ⟨i2, g2⟩ := List.getElem?_eq_some_iff.1 HRR.out
                have := List.pairwise_iff_getElem.1 (roles_up S 32) p t i1 i2 (by omega)
                rw [g1, g2] at this; omega
              have hwp : IntKind.i64.wrap ((t : Int) - 1) = (p : Int) := by rw [IntWalk.i64_in _ (by omega)]; omega
              have hps : (p : Int) < (n3 : Int) := by omega
              have ht1 : decide ((0 : Int) < (t : Int)) = true := by simp; omega
              have ht2 : decide (0 < t) = true := by simp; omega
              have hlt2 : decide (r ≤ r') = false := by simpa using hlt'
              clear hcell3' hr' hp ht0 hlt'
              go_wp2
              refine wp_region_pure (by kernel_rfl) (by kernel_rfl) ?_
              repeat (first | go_big_quiet_step ((fail)) | (quiet_step ((fail))))
              refine wpQuiet_nil ?_
              rintro w7 ⟨x7, hx7⟩
              have hb7 := ext_below _ x7
              rw [← hx7] at hb7
              clear hx7 x7
              have hs7 : w6.heap.size + 0 ≤ w7.heap.size := (by have h := hb7.size; first | omega | (simp at h; omega))
              obtain ⟨hc7, hf7, hl7⟩ := bcell hb7
              clear hl7
              clear d7 hlt2 hwp hps ht1 ht2
              have HB7 := Lib.hid (bt HB6.out hb7)
              have HB57 := Lib.hid (bt HB56.out hb7)
              clear hb7 hc7 hf7 d6
              go_wp2
              go_loopw [13] (fun kv wr => ∃ k : Nat, k ≤ n5 ∧ kv = .int .i64 k ∧ Hid (Below w3.heap.size w3 wr ∧ Below w5.heap.size w5 wr)) (fun kv _ => n5 - (intOf kv).toNat)
              case atStart => exact ⟨0, Nat.zero_le _, rfl, Lib.hid ⟨HB7.out, HB57.out⟩⟩
              case round =>
                obtain ⟨k, hk5, rfl, HB8⟩ := hrel
                obtain ⟨w8, rfl⟩ : ∃ w8, w8 = wr := ⟨_, rfl⟩
                by_cases hlt5 : k < n5
                · have hks : (k : Int) < (n5 : Int) := by omega
                  obtain ⟨x, hx⟩ := at_lt (l := ofF S r) (i := k) (by rw [← HN5.out]; exact hlt5)
                  obtain ⟨b5, off5, rfl, hb5, hcell5⟩ := HAT5.out k x hx
                  have e5 := (HB8.out.2.cell (p := ⟨b5, off5 + k * 1 + 0, none⟩) hb5).trans (hcell5 0 _ rfl)
                  simp only [Nat.mul_one, Nat.add_zero] at e5
                  obtain ⟨y, hy1, hy2, hy3⟩ := of_mem H3.out.ts.sf (mem_at hx)
                  have hyo := H3.out.ts.ok y hy3
                  have hyi := (Srt.fnd_mem hy1).2
                  have hx64 : J64 x := by rw [← hyi]; exact id64 hyo
                  have hyr : (y.role == r) = true := by simpa using hy2
                  have hyw : (y.weight == wtF S r) = true := by rw [← hy2, H3.out.ts.weight hy3]; simp
                  have hyr2 : (y.role != r) = false := by simpa using hy2
                  have hyw2 : (y.weight != wtF S r) = false := by rw [← hy2, H3.out.ts.weight hy3]; simp
                  have HYF := Lib.hid hy1
                  have HYO := Lib.hid hyo
                  have HX64 := Lib.hid hx64
                  clear hcell5 hx hy1 hy2 hy3 hyo hyi hx64 hb5
                  go_wp2_with fail
                  refine (fget (H3.out.ts.below HB8.out.1) HX64.out).mono ?_
                  rintro e w9 ⟨rfl, hb9⟩
                  rw [show getA S x = .tuple #[fval y, .bool true] by unfold getA; rw [HYF.out]]
                  have HB9 := Lib.hid (show Below w3.heap.size w3 (w9.alloc (.cells #[.int .i64 y.id, .int .i64 y.role, .int .i64 y.weight, .bool y.up, .bool y.quiet, .int .i64 y.time, .int .i64 y.til] 114)) from ba (bt HB8.out.1 hb9) _)
                  have HB59 := Lib.hid (show Below w5.heap.size w5 (w9.alloc (.cells #[.int .i64 y.id, .int .i64 y.role, .int .i64 y.weight, .bool y.up, .bool y.quiet, .int .i64 y.time, .int .i64 y.til] 114)) from ba (bt HB8.out.2 hb9) _)
                  have hs9 : w9.heap.size < (w9.alloc (.cells #[.int .i64 y.id, .int .i64 y.role, .int .i64 y.weight, .bool y.up, .bool y.quiet, .int .i64 y.time, .int .i64 y.til] 114)).heap.size := by simp
                  have HFB := Lib.hid (FB.made w9 y)
                  clear hb9 e5
                  go_wp2
                  generalize w9.alloc (.cells #[.int .i64 y.id, .int .i64 y.role, .int .i64 y.weight, .bool y.up, .bool y.quiet, .int .i64 y.time, .int .i64 y.til] 114) = w10 at *
                  obtain ⟨x0, x1, x2, x3, x4, x5, x6⟩ := HFB.out.cells
                  have d10 := (HB9.out.cell (p := ⟨b3, off3 + t * 1 + 0, none⟩) HBB3.out).trans HC3.out
                  simp only [Nat.mul_one, Nat.add_zero] at d10
                  have hbw10 : b3 < w10.heap.size := Nat.lt_of_lt_of_le HBB3.out HB9.out.size
                  cases hup : y.up with
                  | false =>
                    rw [hup] at x3
                    refine wp_region_pure (by kernel_rfl) (by kernel_rfl) ?_
                    repeat (first | go_big_quiet_step ((fail)) | (quiet_step ((fail))))
                    refine wpQuiet_nil ?_
                    rintro w11 ⟨x11, hx11⟩
                    have hb11 := ext_below _ x11
                    rw [← hx11] at hb11
                    clear hx11 x11
                    have hs11 : w10.heap.size + 0 ≤ w11.heap.size := (by have h := hb11.size; first | omega | (simp at h; omega))
                    obtain ⟨hc11, hf11, hl11⟩ := bcell hb11
                    clear hl11
                    have HB11 := Lib.hid (show Below w3.heap.size w3 w11 ∧ Below w5.heap.size w5 w11 from ⟨bt HB9.out hb11, bt HB59.out hb11⟩)
                    clear hb11 hc11 hf11 d10 x0 x1 x2 x3 x4 x5 x6
                    go_wp2
                    go_roundw
                    case rel => exact ⟨k + 1, by omega, by go_num, HB11⟩
                    case measure => simp [intOf]; omega
                  | true =>
                    have htil := HYO.out.up hup
                    rw [hup] at x3
                    rw [htil] at x6
                    refine wp_region_pure (by kernel_rfl) (by kernel_rfl) ?_
                    repeat (first | go_big_quiet_step ((fail)) | (quiet_step ((fail))))
                    refine wpQuiet_nil ?_
                    rintro w11 ⟨x11, hx11⟩
                    have hb11 := ext_below _ x11
                    rw [← hx11] at hb11
                    clear hx11 x11
                    have hs11 : w10.heap.size + 0 ≤ w11.heap.size := (by have h := hb11.size; first | omega | (simp at h; omega))
                    obtain ⟨hc11, hf11, hl11⟩ := bcell hb11
                    clear hl11
                    have HB11 := Lib.hid (show Below w3.heap.size w3 w11 ∧ Below w5.heap.size w5 w11 from ⟨bt HB9.out hb11, bt HB59.out hb11⟩)
                    clear hb11 hc11 hf11 d10 x0 x1 x2 x3 x4 x5 x6
                    go_wp2
                    go_roundw
                    case rel => exact ⟨k + 1, by omega, by go_num, HB11⟩
                    case measure => simp [intOf]; omega
                · obtain rfl : n5 = k := by omega
                  have hwn : IntKind.i64.wrap ((sN : Int) + (n5 : Int)) = ((sN + n5 : Nat) : Int) := by rw [IntWalk.i64_in _ (by have := HSN.out.2; omega)]; omega
                  go_wp2
                  go_roundw
                  case rel => exact ⟨t + 1, by omega, by go_num, by rw [HRT.out, sumR_snoc, HSN.out.1, HCR.out]; simp, Lib.hid HB8.out.1⟩
                  case measure => simp [intOf]; omega
          · obtain rfl : n3 = t := by omega
            have hT : (rolesF S 32).take n3 = rolesF S 32 := by rw [HN3.out, List.take_length]
            have hsum : sumR S ((rolesF S 32).take n3) = S.length := by rw [hT, sum_roles H3.out.ts.ok, upto_all H3.out.ts.ok]
            rw [hsum]
            clear hT hsum
            have hcapS := HCP.out
            have H4 := Lib.hid (H3.out.on HB4.out)
            go_wp2_with fail
            have HB5 := Lib.hid (show Below w4.heap.size w4 (w4.alloc (.cells Try.zeroCells129 129)) from ba (Below.refl _ _) _)
            refine (sub_no (.inl rfl) 1 1 1 0).mono ?_
            rintro e w5 ⟨rfl, hb5⟩
            have HNT := Lib.hid (show NoT w5 (ptr w4.heap.size) from .inr ⟨_, rfl, (hb5.cell (p := ⟨w4.heap.size, 1, none⟩) (by simp)).trans (by simp [go_sem, Try.zeroCells129])⟩)
            have hs5 : w4.heap.size < w5.heap.size := by have := hb5.size; simp at this; omega
            have HB5 := Lib.hid (bt HB5.out hb5)
            clear hb5
            go_wp2_with fail
            refine (flong (H4.out.ts.below HB5.out)).mono ?_
            rintro e w6 ⟨rfl, hb6⟩
            have HNT := Lib.hid (HNT.out.below (by rintro b hb; cases hb; exact hs5) hb6)
            have hs6 : w4.heap.size < w6.heap.size := by have := hb6.size; omega
            have HB6 := Lib.hid (bt HB5.out hb6)
            clear hb6 hs5
            go_wp2_with fail
            refine (disc_no HNT.out (by rintro b hb; cases hb; exact hs6) 1 0).mono ?_
            rintro e w7 ⟨rfl, hb7⟩
            have HNT := Lib.hid (HNT.out.below (by rintro b hb; cases hb; exact hs6) hb7)
            have HB7 := Lib.hid (bt HB6.out hb7)
            have HS7 := Lib.hid (show w4.heap.size < w7.heap.size from by have := hb7.size; omega)
            clear hb7 hs6
            go_wp2_with fail
            refine (drop_no (.inl rfl) (by rintro b hb; cases hb) 1).mono ?_
            rintro e w8 ⟨rfl, hb8⟩
            have HNT := Lib.hid (HNT.out.below (by rintro b hb; cases hb; exact HS7.out) hb8)
            have HB8 := Lib.hid (bt HB7.out hb8)
            clear hb8
            go_wp2_with fail
            refine (all_no HNT.out).mono ?_
            rintro e w9 ⟨rfl, hb9⟩
            go_wp2_with fail
            refine (works23 _).mono ?_
            rintro e w10 ⟨rfl, hb10⟩
            go_wp2
            go_ret
            exact ⟨rfl, bt (bt (bt H4.out.bel HB8.out) hb9) hb10⟩
namespace FramesRoles
open Go.ChangeShapes Go.WideShapes Go.ChangeAt Go.RowKit Go.Joins
theorem own : ownKnob Try.prog.godebug = none := by kernel_rfl
theorem laidOut : laidOutB Try.prog = true := by kernel_rfl
set_option maxRecDepth 100000 in
theorem lifted (os : Os) (started : os.Started) (H : Type) (enc : TypeId × Value → H) :
    ReturnsInHanded {} Try.checked os 12 .any (Rows.framesRolesSpec.pre6 enc Try.prog Try.f12 Rows.framesRolesRow.domain false) (Rows.framesRolesSpec.post enc Try.prog Try.f12 false true false false) := by
  refine returnsInHanded_of_change (C := Try.checked) own started (by kernel_rfl) Try.func12
    (ChangeSpec.witness6 (enc := enc) (C := Try.checked) false ⟨#[], #[.int .i64 0, .slice none 0 0], []⟩ 8 (by kernel_rfl) (by kernel_rfl) (by kernel_rfl) (by kernel_rfl)) ?_
  intro W base args ds gs before hval0 hW hcnd _
  have hval : ∀ (j : Nat) t v, Try.f12.params[j]? = some t → args[j]? = some v → Value.okWide Try.prog W .any base t v := hval0
  have hW' := hW
  obtain ⟨p, q, hA0, hV, rfl, hfz, hnd⟩ := hW
  have hA : DataW.TrodAll enc Try.prog W 0 (fun _ => true) true Try.f12.params.toList args.toList ds p := hA0
  rw [Try.params12] at hA hval
  obtain ⟨v0, vs0, d0, ds0, p0, q0, hargs, rfl, rfl, h0, r0⟩ := trodAll_cons hA
  obtain ⟨v1, vs1, d1, ds1, p1, q1, rfl, rfl, rfl, h1, r1⟩ := trodAll_cons r0
  obtain ⟨rfl, rfl, rfl⟩ := trodAll_nil r1
  obtain rfl : args = #[v0, v1] := by cases args; simp_all
  obtain ⟨rfl, rfl⟩ := trodVars_none hV
  have k0 := h0
  have lt0 : ∀ x ∈ p0, x.block < W.heap.size := by obtain ⟨m, hm⟩ := k0; exact DataW.trod_lt m _ _ _ hm
  have k1 := h1
  have lt1 : ∀ x ∈ p1, x.block < W.heap.size := by obtain ⟨m, hm⟩ := k1; exact DataW.trod_lt m _ _ _ hm
  obtain ⟨cap, vEq0, _, _, wf_cap⟩ := open_int Try.underlying3 (hval 0 3 v0 rfl rfl) k0
  subst vEq0
  obtain ⟨la, oA, iA, _⟩ := open_facts (hval 1 101 v1 rfl rfl) k1
  clear hA0 hval0
  refine (roles23 v1 la cap W oA iA).mono fun e W' ⟨he, bel⟩ => ?_
  subst he
  exact ⟨_, rfl, _, _, _, [], _, [], hW', trodAll_mk1 (shut_bool Try.underlying4 _), (trodAll_cons_mk (Below.trod laidOut (by kernel_rfl) (of_decide_eq_true (by kernel_rfl)) k0 bel lt0) (trodAll_cons_mk (Below.trod laidOut (by kernel_rfl) (of_decide_eq_true (by kernel_rfl)) k1 bel lt1) trodAll_mk0)), rfl, bel.frame _, fun h => by cases h⟩
theorem over : Rows.framesRolesRow.holds Try.pinned (OpenSpec.ofChange Rows.framesRolesSpec) :=
  OpenClaim.holds_of_wide 12 Try.f12 rfl rfl rfl rfl rfl rfl rfl ⟨rfl, rfl, rfl, rfl, rfl⟩ rfl rfl rfl rfl rfl (by kernel_rfl) Try.func12 (by kernel_rfl)
    (of_decide_eq_true (by kernel_rfl)) (by unfold Func.isWrapper; first | (rw [if_pos (by decide +kernel)]; kernel_rfl) | (rw [if_neg (by decide +kernel)]; exact ⟨rfl, rfl⟩))
    (fun os started H enc _ => lifted os started H enc)
theorem proved : Rows.FramesRolesSaid := over
end FramesRoles
end Go.Proofs.Ytajcelmnblncaaa

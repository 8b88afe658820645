/- The document's frameworks by a list: Roles, Same; equal lists of numbers. -/
import Derived.Test.YtajcelmnblncaaaFrM1
namespace Go.Proofs.Ytajcelmnblncaaa
open Go.RowKit Go.Maps
attribute [local go_sem] ext_cell ext_frozen extC_cell extC_frozen Mix.calmUpon Mix.mUpon eqFr
section
variable {w : World} {v : Value} {S : List Fr} {cap : Int}
set_option maxRecDepth 100000 in
set_option maxHeartbeats 1000000 in
theorem mroles (h : FV w v S) : Calls Try.prog 63 #[mval cap v] w (RetN w (rolesF S 32)) := by
  have H := Lib.hid h
  have HB0 := Lib.hid (show Below w.heap.size w (w.alloc (.cells #[.int .i64 cap, v] 106)) from ba (Below.refl _ _) _)
  have HS0 := Lib.hid (show w.heap.size < (w.alloc (.cells #[.int .i64 cap, v] 106)).heap.size by simp)
  have HZ0 := Lib.hid (show (w.alloc (.cells #[.int .i64 cap, v] 106)).cell? ⟨w.heap.size, 0, none⟩ = some (.int .i64 cap) ∧ (w.alloc (.cells #[.int .i64 cap, v] 106)).cell? ⟨w.heap.size, 1, none⟩ = some v by simp [go_sem])
  have hs0 := HS0.out
  have HF := Lib.hid (h.below HB0.out)
  clear h
  go_enter Try.func63, Try.ntmps63
  go_wp2
  generalize w.alloc (.cells #[.int .i64 cap, v] 106) = w1 at *
  go_loopw [3, 4] (fun lv iv wr => ∃ t : Nat, t ≤ 32 ∧ iv = .int .i64 ((t + 1 : Nat) : Int) ∧ Hid (OwnL 3 1 n1 wr w1.heap.size lv (rolesF S t) ∧ Below w1.heap.size w1 wr)) (fun _ iv _ => 33 - (intOf iv).toNat)
  case atStart => exact ⟨0, Nat.zero_le _, rfl, Lib.hid ⟨OwnL.nil _ _ _ _ _, Below.refl _ _⟩⟩
  case round =>
    obtain ⟨t, ht, rfl, HQ⟩ := hrel
    obtain ⟨w2, rfl⟩ : ∃ w2, w2 = wr := ⟨_, rfl⟩
    have z0 := (HQ.out.2.cell (p := ⟨w.heap.size, 0, none⟩) HS0.out).trans HZ0.out.1
    have z1 := (HQ.out.2.cell (p := ⟨w.heap.size, 1, none⟩) HS0.out).trans HZ0.out.2
    have hw2 : w.heap.size < w2.heap.size := Nat.lt_of_lt_of_le HS0.out HQ.out.2.size
    by_cases hlt : t < 32
    · have hts : ((t + 1 : Nat) : Int) ≤ 32 := by omega
      have HRN := Lib.hid (show rolesF S (t + 1) = rolesF S t ++ if 0 < wtF S ((t + 1 : Nat) : Int) then [((t + 1 : Nat) : Int)] else [] from rfl)
      obtain ⟨r, hr⟩ : ∃ r : Nat, r = t + 1 := ⟨_, rfl⟩
      rw [← hr] at hts HRN ⊢
      have HR := Lib.hid hr
      clear hr
      go_wp2_with fail
      refine (mweight (HF.out.below HQ.out.2) r).mono ?_
      rintro e w3 ⟨rfl, hb3⟩
      have HB3 := Lib.hid hb3
      have hq : IntKind.i64.wrap ((r : Int) + 1) = ((r + 1 : Nat) : Int) := by rw [IntWalk.i64_in _ (by omega)]; omega
      clear hb3 z0 z1
      obtain ⟨q, hqq⟩ : ∃ q, wtF S r = q := ⟨_, rfl⟩
      rw [hqq] at HRN ⊢
      clear hqq
      by_cases hp : 0 < q
      · have hle : (rolesF S t).length < 1000000 := by have := rolesF_len S t; omega
        obtain ⟨v2, w4, hrun, o2, g2, _⟩ := app_int (b := w3.heap.size) ((HQ.out.1.below HB3.out).below (ba (Below.refl _ _) (.cells #[.int .i64 r] 3))) r (by simp [go_sem]) hle (by simp; have := HQ.out.2.size; have := HB3.out.size; omega)
        have HRA := Lib.hid hrun
        have HB := Lib.hid (show Below w1.heap.size w1 w4 from (ba (bt HQ.out.2 HB3.out) _).grown g2 (by simp; have := HQ.out.2.size; have := HB3.out.size; omega) (fun j hj => (HQ.out.1.lt j hj).1))
        have O2 := Lib.hid (show OwnL 3 1 n1 w4 w1.heap.size v2 (rolesF S r) by rw [HRN.out, if_pos hp]; exact o2)
        clear hrun o2 g2 hle
        go_wp2_with (at_builtin; refine wpList_app_run rfl _ _ _ rfl rfl rfl HRA.out ?_)
        go_roundw
        case rel => exact ⟨r, by have := HR.out; omega, by first | rfl | simp, Lib.hid ⟨O2.out, HB.out⟩⟩
        case measure => have := HR.out; simp [intOf]; omega
      · have HI := Lib.hid (show OwnL 3 1 n1 w3 w1.heap.size u3 (rolesF S r) ∧ Below w1.heap.size w1 w3 from ⟨by rw [HRN.out, if_neg hp, List.append_nil]; exact HQ.out.1.below HB3.out, bt HQ.out.2 HB3.out⟩)
        go_wp2
        go_roundw
        case rel => exact ⟨r, by have := HR.out; omega, by first | rfl | simp, HI⟩
        case measure => have := HR.out; simp [intOf]; omega
    · obtain rfl : t = 32 := by omega
      go_wp2
      go_ret
      exact ⟨u3, rfl, HQ.out.1.rs (fun _ => rfl), fun b hb => by have := HQ.out.1.lt b hb; have := HS0.out; omega, bt HB0.out HQ.out.2⟩
/-- Two slices of the same frameworks. -/
theorem msame {v' : Value} (h : FV w v S) (h' : FV w v' S) (hln : S.length < 1000000) : Calls Try.prog 65 #[v, v'] w fun e w' => e = .returned (.bool true) ∧ Below w.heap.size w w' := by
  obtain ⟨a, n, cp, rfl, hn, hc, hm, hat⟩ := h.at_
  obtain ⟨a', n', cp', rfl, hn', hc', hm', hat'⟩ := h'.at_
  obtain rfl : n' = n := by omega
  have HA := Lib.hid hat; have HA' := Lib.hid hat'
  have HN := Lib.hid hn
  have hlm : n' < 1000000 := by omega
  clear hat hat' h h' hn hn'
  go_enter Try.func65, Try.ntmps65
  go_wp2
  go_loopw [5] (fun iv wr => ∃ t : Nat, t ≤ n' ∧ iv = .int .i64 t ∧ Hid (Below w.heap.size w wr)) (fun iv _ => n' - (intOf iv).toNat)
  case atStart => exact ⟨0, Nat.zero_le _, rfl, Lib.hid (Below.refl _ _)⟩
  case round =>
    obtain ⟨t, ht, rfl, HQ⟩ := hrel
    obtain ⟨w2, rfl⟩ : ∃ w2, w2 = wr := ⟨_, rfl⟩
    by_cases hlt : t < n'
    · have hts : (t : Int) < (n' : Int) := by omega
      obtain ⟨x, hx⟩ := at_lt (l := S) (i := t) (by rw [← HN.out]; exact hlt)
      obtain ⟨b, off, rfl, hb, hcell⟩ := HA.out t x hx
      obtain ⟨b', off', rfl, hb', hcell'⟩ := HA'.out t x hx
      have e0 := (HQ.out.cell (p := ⟨b, off + t * 7 + 0, none⟩) hb).trans (hcell 0 _ rfl)
      have e1 := (HQ.out.cell (p := ⟨b, off + t * 7 + 1, none⟩) hb).trans (hcell 1 _ rfl)
      have e2 := (HQ.out.cell (p := ⟨b, off + t * 7 + 2, none⟩) hb).trans (hcell 2 _ rfl)
      have e3 := (HQ.out.cell (p := ⟨b, off + t * 7 + 3, none⟩) hb).trans (hcell 3 _ rfl)
      have e4 := (HQ.out.cell (p := ⟨b, off + t * 7 + 4, none⟩) hb).trans (hcell 4 _ rfl)
      have e5 := (HQ.out.cell (p := ⟨b, off + t * 7 + 5, none⟩) hb).trans (hcell 5 _ rfl)
      have e6 := (HQ.out.cell (p := ⟨b, off + t * 7 + 6, none⟩) hb).trans (hcell 6 _ rfl)
      have f0 := (HQ.out.cell (p := ⟨b', off' + t * 7 + 0, none⟩) hb').trans (hcell' 0 _ rfl)
      have f1 := (HQ.out.cell (p := ⟨b', off' + t * 7 + 1, none⟩) hb').trans (hcell' 1 _ rfl)
      have f2 := (HQ.out.cell (p := ⟨b', off' + t * 7 + 2, none⟩) hb').trans (hcell' 2 _ rfl)
      have f3 := (HQ.out.cell (p := ⟨b', off' + t * 7 + 3, none⟩) hb').trans (hcell' 3 _ rfl)
      have f4 := (HQ.out.cell (p := ⟨b', off' + t * 7 + 4, none⟩) hb').trans (hcell' 4 _ rfl)
      have f5 := (HQ.out.cell (p := ⟨b', off' + t * 7 + 5, none⟩) hb').trans (hcell' 5 _ rfl)
      have f6 := (HQ.out.cell (p := ⟨b', off' + t * 7 + 6, none⟩) hb').trans (hcell' 6 _ rfl)
      simp only [Nat.add_zero] at e0 f0
      have hbw : b < w2.heap.size := Nat.lt_of_lt_of_le hb HQ.out.size
      have hbw' : b' < w2.heap.size := Nat.lt_of_lt_of_le hb' HQ.out.size
      clear hcell hcell' hx
      go_wp2
      refine wp_region_pure (by kernel_rfl) (by kernel_rfl) ?_
      repeat (first | go_big_quiet_step ((fail)) | (quiet_step ((fail))))
      refine wpQuiet_nil ?_
      rintro w3 ⟨x3, hx3⟩
      have hb3 := ext_below _ x3
      rw [← hx3] at hb3
      clear hx3 x3
      have hs3 : w2.heap.size + 0 ≤ w3.heap.size := (by have h := hb3.size; first | omega | (simp at h; omega))
      obtain ⟨hc3, hf3, hl3⟩ := bcell hb3
      clear hl3
      have HB3 := Lib.hid (bt HQ.out hb3)
      clear hb3 hc3 hf3 e0 e1 e2 e3 e4 e5 e6 f0 f1 f2 f3 f4 f5 f6
      go_wp2
      go_roundw
      case rel => exact ⟨t + 1, by omega, by go_num, HB3⟩
      case measure => simp [intOf]; omega
    · obtain rfl : n' = t := by omega
      go_wp2
      go_ret
      exact ⟨rfl, HQ.out⟩
end
/-- Two slices of the same numbers. -/
theorem msame_ids {w : World} {v v' : Value} {l : List Int} (h : RS 1 n1 w v l) (h' : RS 1 n1 w v' l) (hln : l.length < 1000000) : Calls Try.prog 67 #[v, v'] w fun e w' => e = .returned (.bool true) ∧ Below w.heap.size w w' := by
  obtain ⟨a, n, cp, rfl, hn, hc, hm, hat⟩ := h.at_
  obtain ⟨a', n', cp', rfl, hn', hc', hm', hat'⟩ := h'.at_
  obtain rfl : n' = n := by omega
  have HA := Lib.hid hat; have HA' := Lib.hid hat'
  have HN := Lib.hid hn
  have hlm : n' < 1000000 := by omega
  clear hat hat' h h' hn hn'
  go_enter Try.func67, Try.ntmps67
  go_wp2
  go_loopw [5] (fun iv wr => ∃ t : Nat, t ≤ n' ∧ iv = .int .i64 t ∧ Hid (Below w.heap.size w wr)) (fun iv _ => n' - (intOf iv).toNat)
  case atStart => exact ⟨0, Nat.zero_le _, rfl, Lib.hid (Below.refl _ _)⟩
  case round =>
    obtain ⟨t, ht, rfl, HQ⟩ := hrel
    obtain ⟨w2, rfl⟩ : ∃ w2, w2 = wr := ⟨_, rfl⟩
    by_cases hlt : t < n'
    · have hts : (t : Int) < (n' : Int) := by omega
      obtain ⟨x, hx⟩ := at_lt (l := l) (i := t) (by rw [← HN.out]; exact hlt)
      obtain ⟨b, off, rfl, hb, hcell⟩ := HA.out t x hx
      obtain ⟨b', off', rfl, hb', hcell'⟩ := HA'.out t x hx
      have e0 := (HQ.out.cell (p := ⟨b, off + t * 1 + 0, none⟩) hb).trans (hcell 0 _ rfl)
      have f0 := (HQ.out.cell (p := ⟨b', off' + t * 1 + 0, none⟩) hb').trans (hcell' 0 _ rfl)
      simp only [Nat.mul_one, Nat.add_zero] at e0 f0
      have hbw : b < w2.heap.size := Nat.lt_of_lt_of_le hb HQ.out.size
      have hbw' : b' < w2.heap.size := Nat.lt_of_lt_of_le hb' HQ.out.size
      clear hcell hcell' hx
      go_wp2
      refine wp_region_pure (by kernel_rfl) (by kernel_rfl) ?_
      repeat (first | go_big_quiet_step ((fail)) | (quiet_step ((fail))))
      refine wpQuiet_nil ?_
      rintro w3 ⟨x3, hx3⟩
      have hb3 := ext_below _ x3
      rw [← hx3] at hb3
      clear hx3 x3
      have hs3 : w2.heap.size + 0 ≤ w3.heap.size := (by have h := hb3.size; first | omega | (simp at h; omega))
      obtain ⟨hc3, hf3, hl3⟩ := bcell hb3
      clear hl3
      have HB3 := Lib.hid (bt HQ.out hb3)
      clear hb3 hc3 hf3 e0 f0
      go_wp2
      go_roundw
      case rel => exact ⟨t + 1, by omega, by go_num, HB3⟩
      case measure => simp [intOf]; omega
    · obtain rfl : n' = t := by omega
      go_wp2
      go_ret
      exact ⟨rfl, HQ.out⟩
end Go.Proofs.Ytajcelmnblncaaa

/- heap: up, down, settle. -/
import Derived.Test.YtajcelmnblncaaaHeap3
namespace Go.Proofs.Ytajcelmnblncaaa
open Go.RowKit Go.Maps
attribute [local go_sem] ext_cell ext_frozen extC_cell extC_frozen Mix.calmUpon Mix.mUpon
section
variable {hp M : Nat} {v : Value} {n : Nat} {g : Nat → It} {f : Int → Option Nat} {s : Int} {w : World}
/-- What moving an item leads to. -/
structure MV (w : World) (hp M : Nat) (v : Value) (n : Nat) (g : Nat → It) (f : Int → Option Nat) (s : Int) (w' : World) (g' : Nat → It) (f' : Int → Option Nat) : Prop where
  hs : HS w' hp M v n g' f' s
  pos : PosOK n g' f'
  con : con g' f' = con g f
  chg : Chg (hG M v) w w'
theorem MV.start (h : HS w hp M v n g f s) (pos : PosOK n g f) : MV w hp M v n g f s w g f := ⟨h, pos, rfl, Chg.refl _ _⟩
theorem pow_bound {i i0 j : Nat} (h : (i + 1) * 2 ^ j ≤ i0 + 1) (hi : 0 < i) : ((i - 1) / 2 + 1) * 2 ^ (j + 1) ≤ i0 + 1 := by
  have e : ((i - 1) / 2 + 1) * 2 ≤ i + 1 := by omega
  rw [Nat.pow_succ, Nat.mul_comm (2 ^ j) 2, ← Nat.mul_assoc]
  exact Nat.le_trans (Nat.mul_le_mul_right _ e) h
def UpPost (w : World) (hp M : Nat) (v : Value) (n : Nat) (g : Nat → It) (f : Int → Option Nat) (s : Int) (i0 : Nat) (e : Ending) (w' : World) : Prop :=
  ∃ (j : Nat) (g' : Nat → It) (f' : Int → Option Nat), e = .returned (.int .i64 j) ∧ MV w hp M v n g f s w' g' f' ∧ HDn n g' i0 ∧ 2 ^ j ≤ i0 + 1
set_option maxRecDepth 100000 in
theorem up_any (h : HS w hp M v n g f s) (pos : PosOK n g f) (i0 : Nat) (hi0 : i0 < n) (hbut : HBut n g i0) :
    Calls Try.prog 112 #[ptr hp, .int .i64 i0] w (UpPost w hp M v n g f s i0) := by
  have H := Lib.hid h; have HP := Lib.hid pos; have HB := Lib.hid hbut
  have hbig := h.big
  clear h pos hbut
  go_enter Try.func112, Try.ntmps112
  go_wp2
  go_loopw [1, 5] (fun iv lv wr => ∃ (i j : Nat) (g' : Nat → It) (f' : Int → Option Nat), iv = .int .i64 i ∧ lv = .int .i64 j ∧ i ≤ i0 ∧ Hid (MV w hp M v n g f s wr g' f') ∧ Hid (HUp n g' i0 i) ∧ Hid ((i + 1) * 2 ^ j ≤ i0 + 1)) (fun iv _ _ => (intOf iv).toNat)
  case atStart => exact ⟨i0, 0, g, f, rfl, rfl, Nat.le_refl _, Lib.hid (.start H.out HP.out), Lib.hid HB.out.start, Lib.hid (by simp)⟩
  case round =>
    obtain ⟨i, j, g', f', rfl, rfl, hle, HM, HU, HJ⟩ := hrel
    obtain ⟨w1, rfl⟩ : ∃ w1, w1 = wr := ⟨_, rfl⟩
    have hjb : j < 100000 := by
      have h1 := HJ.out
      have h2 : j < 2 ^ j := Nat.lt_two_pow_self
      have h3 : 1 * 2 ^ j ≤ (i + 1) * 2 ^ j := Nat.mul_le_mul_right _ (by omega)
      omega
    by_cases h0 : 0 < i
    · have h0I : (0 : Int) < (i : Int) := by omega
      have hs := HM.out.hs
      obtain ⟨a, cap, rfl, hc, hm, hcell⟩ := hs.form
      obtain ⟨b, rfl, hb, hbh, hbM, hfz, hat⟩ := hcell (by omega)
      have c0 := hs.c0
      have hl := hs.lt hp (.inl rfl)
      obtain ⟨d0, d1⟩ := hat i (by omega)
      obtain ⟨d2, d3⟩ := hat ((i - 1) / 2) (by omega)
      have hiI : (i : Int) < (n : Int) := by omega
      have hpI : ((((i - 1) / 2 : Nat)) : Int) < (n : Int) := by omega
      obtain ⟨p, hp'⟩ : ∃ p, p = (i - 1) / 2 := ⟨_, rfl⟩
      rw [← hp'] at d2 d3 hpI
      have hq1 : IntKind.i64.wrap ((i : Int) - 1) = (i : Int) - 1 := IntWalk.i64_in _ (by omega)
      have hq2 : ((i : Int) - 1).tdiv 2 = (p : Int) := by rw [Int.tdiv_eq_ediv_of_nonneg (by omega)]; omega
      have HPP := Lib.hid hp'
      clear hcell hat hfz hs hp'
      by_cases hlt : lt2 (g' i) (g' p)
      · have HY := Lib.hid (prec_yes hlt)
        have HL := Lib.hid hlt
        clear hlt
        go_wp2
        refine wp_region_pure (by kernel_rfl) (by kernel_rfl) ?_
        repeat (first | go_big_quiet_step (((go_at_call 123; with_reducible exact HY.out.quiet))) | (quiet_step (((go_at_call 123; with_reducible exact HY.out.quiet)))))
        refine wpQuiet_nil ?_
        rintro w2 ⟨x2, hx2⟩
        have hb2 := ext_below _ x2
        rw [← hx2] at hb2
        clear hx2 x2
        have hs2 : w1.heap.size + 0 ≤ w2.heap.size := (by have h := hb2.size; first | omega | (simp at h; omega))
        obtain ⟨hc2, hf2, hl2⟩ := bcell hb2
        clear hl2
        have HB2 := Lib.hid hb2
        have hij : i ≠ p := by have := HPP.out; omega
        go_wp2_with fail
        refine (swap_any (HM.out.hs.below HB2.out) i p (by omega) (by omega) hij).mono ?_
        rintro e w3 ⟨rfl, H3, C3⟩
        have HN := Lib.hid (show MV w hp M (.slice (some ⟨b, 0, none⟩) n cap) n g f s w3 (swp g' i p) (upd (upd f' (g' p).1 (some i)) (g' i).1 (some p)) from
          ⟨H3, HM.out.pos.swap (by omega) (by omega) hij, (con_swap HM.out.pos (by omega) (by omega) hij).trans HM.out.con, (HM.out.chg.then_below HB2.out).same C3⟩)
        clear H3 C3 hb2 hc2 hf2
        go_wp2
        go_roundw
        case rel => exact ⟨p, j + 1, _, _, rfl, by go_num, by have := HPP.out; omega, HN, Lib.hid (by rw [HPP.out]; exact HU.out.step hi0 h0 (by rw [← HPP.out]; exact HL.out)), Lib.hid (by rw [HPP.out]; exact pow_bound HJ.out h0)⟩
        case measure => have := HPP.out; simp [intOf]; omega
      · have HY := Lib.hid (prec_no hlt)
        have HL := Lib.hid hlt
        clear hlt
        go_wp2
        refine wp_region_pure (by kernel_rfl) (by kernel_rfl) ?_
        repeat (first | go_big_quiet_step (((go_at_call 123; with_reducible exact HY.out.quiet))) | (quiet_step (((go_at_call 123; with_reducible exact HY.out.quiet)))))
        refine wpQuiet_nil ?_
        rintro w2 ⟨x2, hx2⟩
        have hb2 := ext_below _ x2
        rw [← hx2] at hb2
        clear hx2 x2
        have hs2 : w1.heap.size + 0 ≤ w2.heap.size := (by have h := hb2.size; first | omega | (simp at h; omega))
        obtain ⟨hc2, hf2, hl2⟩ := bcell hb2
        clear hl2
        have HB2 := Lib.hid hb2
        clear hb2 hc2 hf2
        go_wp2
        go_ret
        exact ⟨j, g', f', rfl, ⟨HM.out.hs.below HB2.out, HM.out.pos, HM.out.con, HM.out.chg.then_below HB2.out⟩, HU.out.stop fun _ => (by rw [← HPP.out]; exact HL.out), Nat.le_trans (by have : 1 * 2 ^ j ≤ (i + 1) * 2 ^ j := Nat.mul_le_mul_right _ (by omega); omega) HJ.out⟩
    · obtain rfl : i = 0 := by omega
      go_wp2
      refine wp_region_pure (by kernel_rfl) (by kernel_rfl) ?_
      repeat (first | go_big_quiet_step ((fail)) | (quiet_step ((fail))))
      refine wpQuiet_nil ?_
      rintro w2 ⟨x2, hx2⟩
      have hb2 := ext_below _ x2
      rw [← hx2] at hb2
      clear hx2 x2
      have hs2 : w1.heap.size + 0 ≤ w2.heap.size := (by have h := hb2.size; first | omega | (simp at h; omega))
      obtain ⟨hc2, hf2, hl2⟩ := bcell hb2
      clear hl2
      have HB2 := Lib.hid hb2
      clear hb2 hc2 hf2
      go_wp2
      go_ret
      exact ⟨j, g', f', rfl, ⟨HM.out.hs.below HB2.out, HM.out.pos, HM.out.con, HM.out.chg.then_below HB2.out⟩, HU.out.stop fun h => absurd h (by omega), by have := HJ.out; omega⟩
def DnPost (w : World) (hp M : Nat) (v : Value) (n : Nat) (g : Nat → It) (f : Int → Option Nat) (s : Int) (e : Ending) (w' : World) : Prop :=
  ∃ (j : Nat) (g' : Nat → It) (f' : Int → Option Nat), e = .returned (.int .i64 j) ∧ MV w hp M v n g f s w' g' f' ∧ Hp n g' ∧ 2 ^ j ≤ n
theorem pow_bound2 {i m j : Nat} (h : 2 ^ j ≤ i + 1) (hm : 2 * i + 1 ≤ m) : 2 ^ (j + 1) ≤ m + 1 := by rw [Nat.pow_succ]; omega
set_option maxRecDepth 100000 in
set_option maxHeartbeats 1000000 in
theorem down_any (h : HS w hp M v n g f s) (pos : PosOK n g f) (i0 : Nat) (hi0 : i0 < n) (hdn : HDn n g i0) :
    Calls Try.prog 113 #[ptr hp, .int .i64 i0] w (DnPost w hp M v n g f s) := by
  have H := Lib.hid h; have HP := Lib.hid pos; have HB := Lib.hid hdn
  have hbig := h.big
  clear h pos hdn
  go_enter Try.func113, Try.ntmps113
  go_wp2
  go_step3
  go_wp2
  go_step3
  go_wp2
  go_loopw [1, 5] (fun iv lv wr => ∃ (i j : Nat) (g' : Nat → It) (f' : Int → Option Nat), iv = .int .i64 i ∧ lv = .int .i64 j ∧ i < n ∧ Hid (MV w hp M v n g f s wr g' f') ∧ Hid (HDn n g' i) ∧ Hid (2 ^ j ≤ i + 1)) (fun iv _ _ => n - (intOf iv).toNat)
  case atStart => exact ⟨i0, 0, g, f, rfl, rfl, hi0, Lib.hid (.start H.out HP.out), HB, Lib.hid (by simp)⟩
  case round =>
    obtain ⟨i, j, g', f', rfl, rfl, hin, HM, HU, HJ⟩ := hrel
    obtain ⟨w1, rfl⟩ : ∃ w1, w1 = wr := ⟨_, rfl⟩
    have hjb : j < 100000 := by
      have h1 := HJ.out
      have h2 : j < 2 ^ j := Nat.lt_two_pow_self
      omega
    have q1 : IntKind.i64.wrap (2 * (i : Int)) = 2 * (i : Int) := IntWalk.i64_in _ (by omega)
    have q2 : IntKind.i64.wrap (2 * (i : Int) + 1) = 2 * (i : Int) + 1 := IntWalk.i64_in _ (by omega)
    have q3 : IntKind.i64.wrap (2 * (i : Int) + 2) = 2 * (i : Int) + 2 := IntWalk.i64_in _ (by omega)
    go_wp2
    go_loopw [6, 7] (fun mv cv wr => ∃ (c m : Nat), cv = .int .i64 c ∧ mv = .int .i64 m ∧ 2 * i + 1 ≤ c ∧ c ≤ 2 * i + 3 ∧ Hid (Lst n g' i c m) ∧ Hid (Below w1.heap.size w1 wr)) (fun _ cv _ => 2 * i + 3 - (intOf cv).toNat)
    case atStart => exact ⟨2 * i + 1, i, by go_num, rfl, by omega, by omega, Lib.hid (.start n g' i), Lib.hid (Below.refl _ _)⟩
    case round =>
      obtain ⟨c, m, rfl, rfl, hc1, hc2, HL, HB2⟩ := hrel
      obtain ⟨w2, rfl⟩ : ∃ w2, w2 = wr := ⟨_, rfl⟩
      by_cases hlt : c ≤ 2 * i + 2
      · have hltI : (c : Int) ≤ 2 * (i : Int) + 2 := by omega
        have hs := HM.out.hs.below HB2.out
        have HS2 := Lib.hid hs
        obtain ⟨a, cap, rfl, hc, hm, hcell⟩ := hs.form
        obtain ⟨b, rfl, hb, hbh, hbM, hfz, hat⟩ := hcell (by omega)
        have c0 := hs.c0
        have hl := hs.lt hp (.inl rfl)
        by_cases hcn : c < n
        · have hcnI : (c : Int) < (n : Int) := by omega
          have hmn : m < n := by rcases HL.out.pl with h | h <;> omega
          have hmnI : (m : Int) < (n : Int) := by omega
          obtain ⟨d0, d1⟩ := hat c (by omega)
          obtain ⟨d2, d3⟩ := hat m (by omega)
          clear hcell hat hfz hs
          by_cases hq : lt2 (g' c) (g' m)
          · have HY := Lib.hid (prec_yes hq)
            have HN := Lib.hid (HL.out.take hc1 hin hcn hq)
            clear hq
            go_wp2
            refine wp_region_pure (by kernel_rfl) (by kernel_rfl) ?_
            repeat (first | go_big_quiet_step (((go_at_call 123; with_reducible exact HY.out.quiet))) | (quiet_step (((go_at_call 123; with_reducible exact HY.out.quiet)))))
            refine wpQuiet_nil ?_
            rintro w3 ⟨x3, hx3⟩
            have hb3 := ext_below _ x3
            rw [← hx3] at hb3
            clear hx3 x3
            have hs3 : w2.heap.size + 0 ≤ w3.heap.size := (by have h := hb3.size; first | omega | (simp at h; omega))
            obtain ⟨hc3, hf3, hl3⟩ := bcell hb3
            clear hl3
            have HB3 := Lib.hid (bt HB2.out hb3)
            clear hb3 hc3 hf3
            go_wp2
            go_roundw
            case rel => exact ⟨c + 1, c, by go_num, rfl, by omega, by omega, HN, HB3⟩
            case measure => simp [intOf]; omega
          · have HY := Lib.hid (prec_no hq)
            have HN := Lib.hid (HL.out.pass fun _ => hq)
            clear hq
            go_wp2
            refine wp_region_pure (by kernel_rfl) (by kernel_rfl) ?_
            repeat (first | go_big_quiet_step (((go_at_call 123; with_reducible exact HY.out.quiet))) | (quiet_step (((go_at_call 123; with_reducible exact HY.out.quiet)))))
            refine wpQuiet_nil ?_
            rintro w3 ⟨x3, hx3⟩
            have hb3 := ext_below _ x3
            rw [← hx3] at hb3
            clear hx3 x3
            have hs3 : w2.heap.size + 0 ≤ w3.heap.size := (by have h := hb3.size; first | omega | (simp at h; omega))
            obtain ⟨hc3, hf3, hl3⟩ := bcell hb3
            clear hl3
            have HB3 := Lib.hid (bt HB2.out hb3)
            clear hb3 hc3 hf3
            go_wp2
            go_roundw
            case rel => exact ⟨c + 1, m, by go_num, rfl, by omega, by omega, HN, HB3⟩
            case measure => simp [intOf]; omega
        · have hcnI : decide ((c : Int) < (n : Int)) = false := by simpa using hcn
          have HN := Lib.hid (HL.out.pass fun h => absurd h hcn)
          clear hcell hat hfz hs
          go_wp2
          refine wp_region_pure (by kernel_rfl) (by kernel_rfl) ?_
          repeat (first | go_big_quiet_step ((fail)) | (quiet_step ((fail))))
          refine wpQuiet_nil ?_
          rintro w3 ⟨x3, hx3⟩
          have hb3 := ext_below _ x3
          rw [← hx3] at hb3
          clear hx3 x3
          have hs3 : w2.heap.size + 0 ≤ w3.heap.size := (by have h := hb3.size; first | omega | (simp at h; omega))
          obtain ⟨hc3, hf3, hl3⟩ := bcell hb3
          clear hl3
          have HB3 := Lib.hid (bt HB2.out hb3)
          clear hb3 hc3 hf3
          go_wp2
          go_roundw
          case rel => exact ⟨c + 1, m, by go_num, rfl, by omega, by omega, HN, HB3⟩
          case measure => simp [intOf]; omega
      · obtain rfl : c = 2 * i + 3 := by omega
        have hltI : 2 * (i : Int) + 2 < ((2 * i + 3 : Nat) : Int) := by omega
        have HS2 := Lib.hid (HM.out.hs.below HB2.out)
        by_cases hmi : m = i
        · subst hmi
          go_wp2
          rw [Exit.noGoto_ret]
          go_ret
          exact ⟨j, g', f', rfl, ⟨HS2.out, HM.out.pos, HM.out.con, HM.out.chg.then_below HB2.out⟩, HU.out.stop hin HL.out, by have := HJ.out; omega⟩
        · have hml : m < n ∧ 2 * i + 1 ≤ m := by rcases HL.out.pl with h | h; exact absurd h hmi; omega
          have hmiI : ((m : Int) == (i : Int)) = false := by simp; omega
          go_wp2_with fail
          refine (swap_any HS2.out i m hin hml.1 (fun e => hmi e.symm)).mono ?_
          rintro e w3 ⟨rfl, H3, C3⟩
          have HN := Lib.hid (show MV w hp M v n g f s w3 (swp g' i m) (upd (upd f' (g' m).1 (some i)) (g' i).1 (some m)) from
            ⟨H3, HM.out.pos.swap hin hml.1 (fun e => hmi e.symm), (con_swap HM.out.pos hin hml.1 (fun e => hmi e.symm)).trans HM.out.con, (HM.out.chg.then_below HB2.out).same C3⟩)
          have HU2 := Lib.hid (HU.out.step hin HL.out hmi)
          have HJ2 := Lib.hid (pow_bound2 HJ.out hml.2)
          clear H3 C3
          go_wp2
          go_roundw
          case rel => exact ⟨m, j + 1, _, _, rfl, by go_num, hml.1, HN, HU2, HJ2⟩
          case measure => simp [intOf]; omega
def StPost (w : World) (hp M : Nat) (v : Value) (n : Nat) (g : Nat → It) (f : Int → Option Nat) (s : Int) (e : Ending) (w' : World) : Prop :=
  ∃ (j k : Nat) (g' : Nat → It) (f' : Int → Option Nat), e = .returned (.int .i64 ((j + k : Nat) : Int)) ∧ MV w hp M v n g f s w' g' f' ∧ Hp n g' ∧ 2 ^ j ≤ n ∧ 2 ^ k ≤ n
set_option maxRecDepth 100000 in
theorem settle_any (h : HS w hp M v n g f s) (pos : PosOK n g f) (i0 : Nat) (hi0 : i0 < n) (hbut : HBut n g i0) :
    Calls Try.prog 88 #[ptr hp, .int .i64 i0] w (StPost w hp M v n g f s) := by
  have H := Lib.hid h; have HP := Lib.hid pos; have HB := Lib.hid hbut
  have hbig := h.big
  clear h pos hbut
  go_enter Try.func88, Try.ntmps88
  go_wp2_with fail
  refine (up_any H.out HP.out i0 hi0 HB.out).mono ?_
  rintro e w1 ⟨j, g1, f1, rfl, HM1, HD1, HJ⟩
  have HM1 := Lib.hid HM1; have HD1 := Lib.hid HD1; have HJ := Lib.hid HJ
  have jb : j < 100000 := by
    have h1 := HJ.out
    have h2 : j < 2 ^ j := Nat.lt_two_pow_self
    omega
  go_wp2_with fail
  refine (down_any HM1.out.hs HM1.out.pos i0 hi0 HD1.out).mono ?_
  rintro e w2 ⟨k, g2, f2, rfl, HM2, HD2, HK⟩
  have HM2 := Lib.hid HM2; have HD2 := Lib.hid HD2; have HK := Lib.hid HK
  have kb : k < 100000 := by
    have h1 := HK.out
    have h2 : k < 2 ^ k := Nat.lt_two_pow_self
    omega
  have hw : IntKind.i64.wrap ((j : Int) + (k : Int)) = ((j + k : Nat) : Int) := by rw [IntWalk.i64_in _ (by omega)]; omega
  go_wp2
  go_ret
  exact ⟨j, k, g2, f2, rfl, ⟨HM2.out.hs, HM2.out.pos, HM2.out.con.trans HM1.out.con, HM1.out.chg.same HM2.out.chg⟩, HD2.out, by have := HJ.out; omega, HK.out⟩
end
end Go.Proofs.Ytajcelmnblncaaa

/- life: close, end, launch. -/
import Derived.Test.YtennhfkhdfalfaaLf4
namespace Go.Proofs.Ytennhfkhdfalfaa
open Go.RowKit Go.Maps
attribute [local go_sem] ext_cell ext_frozen extC_cell extC_frozen Mix.calmUpon Mix.mUpon
abbrev th0 : Th := ⟨0, 0, 0, .slice none 0 0, []⟩
section
variable {W w : World} {hp A F O T : Nat} {s : HS}
set_option maxRecDepth 100000 in
set_option maxHeartbeats 4000000 in
theorem hclose (h : HT W w hp A F O T s) (e : Ev) (he : EIn W e) : Calls Try.prog 129 #[ptr hp, evval e] w (RT W hp A F O T (cloF s e) (cloN s e)) := by
  obtain ⟨q, hq⟩ : ∃ q, q = cloF s e := ⟨_, rfl⟩
  obtain ⟨s', hs'⟩ : ∃ s', s' = cloN s e := ⟨_, rfl⟩
  rw [← hq, ← hs']
  have HQ := Lib.hid hq; have HS' := Lib.hid hs'
  clear hq hs'
  obtain ⟨va, vc, hvv, -, -⟩ := he.vc.form
  have HE := Lib.hid he
  obtain ⟨k, f, i, a, vv, ps⟩ := e
  simp only at hvv
  subst hvv
  clear he
  generalize hn : ps.length = n at *
  have hb := ba (Below.refl w.heap.size w) (.cells #[.int .i64 k, .int .i64 f, .int .i64 i, .int .i64 a, .slice va n vc] 103)
  have HB := Lib.hid hb
  have HX := Lib.hid (EB.made w ⟨k, f, i, a, .slice va n vc, ps⟩)
  have H1 := Lib.hid (h.below hb)
  have HN := Lib.hid hn
  have HLT := Lib.hid h.lt
  clear hb h hn
  go_enter Try.func129, Try.ntmps129
  go_wp2
  generalize w.alloc (.cells #[.int .i64 k, .int .i64 f, .int .i64 i, .int .i64 a, .slice va n vc] 103) = w1 at *
  obtain ⟨b1, hb1⟩ : ∃ b1, b1 = w.heap.size := ⟨_, rfl⟩
  rw [← hb1] at HX ⊢
  have HBQ := Lib.hid hb1
  clear hb1
  obtain ⟨x0, x1, x2, x3, x4⟩ := HX.out.cells
  have xl := HX.out.lt
  obtain ⟨c0, c1, c2, c3, c4⟩ := H1.out.cells
  have hl := H1.out.lt.1
  simp only at x0 x1 x2 x3 x4
  have hlk := lookO_ext H1.out HE.out.id true
  simp only at hlk
  obtain ⟨th, hth⟩ : ∃ th, th = (s.of i).isSome := ⟨_, rfl⟩
  obtain ⟨x, hx⟩ : ∃ x, x = (s.of i).getD th0 := ⟨_, rfl⟩
  rw [show ((s.of i).map thval).getD thzero = thval x by rw [hx]; cases s.of i <;> rfl, ← hth] at hlk
  have hform : ∃ ua m uc, x.v = .slice ua m uc := by
    rw [hx]
    cases h : s.of i with
    | none => exact ⟨none, 0, 0, rfl⟩
    | some y => obtain ⟨ua, uc, h2, -, -⟩ := (H1.out.vo _ _ h).vc.form; exact ⟨ua, _, uc, h2⟩
  have HXX := Lib.hid hx; have HTH := Lib.hid hth
  clear hx hth
  obtain ⟨xf, xi, xa, xv, xs⟩ := x
  simp only at hform
  obtain ⟨ua, m, uc, rfl⟩ := hform
  replace hlk : ∀ x : ExtC w1 (fun _ => False), (Instr.lookup 155 (.map (some O)) (.int .i64 i) true).run Try.prog (extC w1 (fun _ => False) x) = .ok (.tuple #[.agg #[.int .i64 xf, .int .i64 xi, .int .i64 xa, .slice ua m uc], .bool th]) (extC w1 (fun _ => False) x) := hlk
  refine Mix.regionC (fun _ => False) (by kernel_rfl) ?_
  intro w3 hb3
  refine Mix.take_exC _ _ 0 rfl (by kernel_rfl) (by kernel_rfl) (by kernel_rfl) (by kernel_rfl) (fun K hK => ?_)
  go_simp
  first | (refine hK _ ?_; clear hK K) | (apply Exists.intro; refine ⟨fun x => ?_, hK _ ?_⟩; (fail); clear hK K)
  refine Mix.take_exC _ _ 1 rfl (by kernel_rfl) (by kernel_rfl) (by kernel_rfl) (by kernel_rfl) (fun K hK => ?_)
  go_simp
  first | (refine hK _ ?_; clear hK K) | (apply Exists.intro; refine ⟨fun x => ?_, hK _ ?_⟩; (fail); clear hK K)
  refine Mix.take_exC _ _ 2 rfl (by kernel_rfl) (by kernel_rfl) (by kernel_rfl) (by kernel_rfl) (fun K hK => ?_)
  go_simp
  first | (refine hK _ ?_; clear hK K) | (apply Exists.intro; refine ⟨fun x => ?_, hK _ ?_⟩; (fail); clear hK K)
  refine Mix.take_exC _ _ 3 rfl (by kernel_rfl) (by kernel_rfl) (by kernel_rfl) (by kernel_rfl) (fun K hK => ?_)
  go_simp
  first | (refine hK _ ?_; clear hK K) | (apply Exists.intro; refine ⟨fun x => ?_, hK _ ?_⟩; (fail); clear hK K)
  refine Mix.take_exC _ _ 4 rfl (by kernel_rfl) (by kernel_rfl) (by kernel_rfl) (by kernel_rfl) (fun K hK => ?_)
  go_simp
  first | (refine hK _ ?_; clear hK K) | (apply Exists.intro; refine ⟨fun x => ?_, hK _ ?_⟩; (fail); clear hK K)
  refine Mix.take_exC _ _ 5 rfl (by kernel_rfl) (by kernel_rfl) (by kernel_rfl) (by kernel_rfl) (fun K hK => ?_)
  go_simp
  first | (refine hK _ ?_; clear hK K) | (apply Exists.intro; refine ⟨fun x => ?_, hK _ ?_⟩; (fail); clear hK K)
  refine Mix.take_exC _ _ 6 rfl (by kernel_rfl) (by kernel_rfl) (by kernel_rfl) (by kernel_rfl) (fun K hK => ?_)
  go_simp
  first | (refine hK _ ?_; clear hK K) | (apply Exists.intro; refine ⟨fun x => ?_, hK _ ?_⟩; (fail); clear hK K)
  refine Mix.take_exC _ _ 7 rfl (by kernel_rfl) (by kernel_rfl) (by kernel_rfl) (by kernel_rfl) (fun K hK => ?_)
  go_simp
  first | (refine hK _ ?_; clear hK K) | (apply Exists.intro; refine ⟨fun x => ?_, hK _ ?_⟩; (fail); clear hK K)
  refine Mix.take_exC _ _ 8 rfl (by kernel_rfl) (by kernel_rfl) (by kernel_rfl) (by kernel_rfl) (fun K hK => ?_)
  go_simp
  first | (refine hK _ ?_; clear hK K) | (apply Exists.intro; refine ⟨fun x => ?_, hK _ ?_⟩; (fail); clear hK K)
  refine Mix.take_exC _ _ 9 rfl (by kernel_rfl) (by kernel_rfl) (by kernel_rfl) (by kernel_rfl) (fun K hK => ?_)
  go_simp
  first | (refine hK _ ?_; clear hK K) | (apply Exists.intro; refine ⟨fun x => ?_, hK _ ?_⟩; (fail); clear hK K)
  refine Mix.all (rs := [10]) (by kernel_rfl) (by simp) (.of_below _ hb3) ?_
  intro i4 hi4 w4 hb4 hC4
  simp only [List.mem_cons, List.not_mem_nil, or_false] at hi4
  subst hi4
  have HB4 := Lib.hid (bt hb3 hb4)
  clear hC4 hb3 hb4
  refine Mix.op rfl (by kernel_rfl) ?_
  go_simp
  have hz4 := TB.made w4 ⟨0, 0, 0, .slice none 0 0, []⟩
  have hb45 := ba HB4.out (.cells #[.int .i64 0, .int .i64 0, .int .i64 0, .slice none 0 0] 208)
  generalize w4.alloc (.cells #[.int .i64 0, .int .i64 0, .int .i64 0, .slice none 0 0] 208) = w5 at *
  obtain ⟨b4, hb4q⟩ : ∃ b4, b4 = w4.heap.size := ⟨_, rfl⟩
  rw [← hb4q] at hz4 ⊢
  have HG4 := Lib.hid (show w1.heap.size ≤ b4 by rw [hb4q]; exact HB4.out.size)
  have HZ5 := Lib.hid hz4; have HB5 := Lib.hid hb45
  clear hz4 hb45 hb4q
  refine Mix.all (rs := [11]) (by kernel_rfl) (by simp) (.of_below _ HB5.out) ?_
  intro i6 hi6 w6 hb6 hC6
  simp only [List.mem_cons, List.not_mem_nil, or_false] at hi6
  subst hi6
  have HB6 := Lib.hid (bt HB5.out hb6)
  have hz6 := HZ5.out.below hb6
  clear hC6 hb6
  obtain ⟨m0, m1, m2, m3⟩ := hz6.cells
  have o0 := hz6.fz 0; have o1 := hz6.fz 1; have o2 := hz6.fz 2; have o3 := hz6.fz 3
  have m4 := hz6.lt
  have HST := Lib.hid (show Chg (fun k => k = b4) w6 ((((w6.setCell ⟨b4, 0, none⟩ (.int .i64 xf)).setCell ⟨b4, 1, none⟩ (.int .i64 xi)).setCell ⟨b4, 2, none⟩ (.int .i64 xa)).setCell ⟨b4, 3, none⟩ (.slice ua m uc)) from ((((Chg.refl (fun k => k = b4) w6).setCell (p := ⟨b4, 0, none⟩) (.inl rfl) _).setCell (p := ⟨b4, 1, none⟩) (.inl rfl) _).setCell (p := ⟨b4, 2, none⟩) (.inl rfl) _).setCell (p := ⟨b4, 3, none⟩) (.inl rfl) _)
  have HFX := Lib.hid (hz6.set4 ⟨xf, xi, xa, .slice ua m uc, xs⟩)
  clear hz6
  refine Mix.op rfl (by kernel_rfl) ?_
  go_simp
  clear m0 m1 m2 m3 m4 o0 o1 o2 o3
  generalize (((w6.setCell ⟨b4, 0, none⟩ (.int .i64 xf)).setCell ⟨b4, 1, none⟩ (.int .i64 xi)).setCell ⟨b4, 2, none⟩ (.int .i64 xa)).setCell ⟨b4, 3, none⟩ (.slice ua m uc) = w7 at *
  have HB7 := Lib.hid (show Below w1.heap.size w1 w7 from HB6.out.trans (HST.out.below HB6.out.size fun k e => by have e : k = b4 := e; have := HG4.out; omega))
  refine Mix.take_exC _ _ 12 rfl (by kernel_rfl) (by kernel_rfl) (by kernel_rfl) (by kernel_rfl) (fun K hK => ?_)
  go_simp
  first | (refine hK _ ?_; clear hK K) | (apply Exists.intro; refine ⟨fun x => ?_, hK _ ?_⟩; (fail); clear hK K)
  refine Mix.done (by kernel_rfl) (.of_below _ HB7.out) ?_
  intro w8 hb8
  have HB8 := Lib.hid (bt HB7.out hb8)
  have HF8 := Lib.hid (HFX.out.below hb8)
  clear hb8 HST HB6 HB5 HZ5 HFX
  clear hlk x0 x1 x2 x3 x4 xl c0 c1 c2 c3 c4 hl
  have H8 := Lib.hid (H1.out.below HB8.out)
  have HX8 := Lib.hid (HX.out.below HB8.out)
  obtain ⟨z0, z1, z2, z3⟩ := HF8.out.cells
  have zl := HF8.out.lt
  obtain ⟨x0, x1, x2, x3, x4⟩ := HX8.out.cells
  have xl := HX8.out.lt
  simp only at z0 z1 z2 z3 x0 x1 x2 x3 x4
  cases th with
  | false =>
    have HQ := Lib.hid (show q = false by
      have h := HTH.out
      rw [HQ.out]; unfold cloF; simp only
      cases h2 : s.of i with
      | none => rfl
      | some y => rw [h2] at h; cases h)
    go_wp2
    go_ret
    exact RT.no HQ.out H8.out.bel
  | true =>
    have hsome : s.of i = some ⟨xf, xi, xa, .slice ua m uc, xs⟩ := by
      have h := HTH.out; have h3 := HXX.out
      cases h2 : s.of i with
      | none => rw [h2] at h; cases h
      | some y => rw [h2] at h3; rw [h3]; rfl
    have HTI := Lib.hid (H1.out.vo _ _ hsome)
    have HQ := Lib.hid (show q = fitT ⟨xf, xi, xa, .slice ua m uc, xs⟩ ⟨k, f, i, a, .slice va n vc, ps⟩ by
      rw [HQ.out]; unfold cloF; simp only; rw [hsome])
    obtain ⟨ft, hft⟩ : ∃ ft, ft = fitT ⟨xf, xi, xa, .slice ua m uc, xs⟩ ⟨k, f, i, a, .slice va n vc, ps⟩ := ⟨_, rfl⟩
    rw [← hft] at HQ
    have HFT := Lib.hid hft
    clear hft hsome
    have hF := fits_any ⟨xf, xi, xa, .slice ua m uc, xs⟩ ⟨k, f, i, a, .slice va n vc, ps⟩ w8 (HTI.out.vc.on H8.out.bel) (Nat.lt_of_le_of_lt (vr_len HTI.out.vr) (by decide)) (HE.out.vc.on H8.out.bel)
    rw [← HFT.out] at hF
    have HF := Lib.hid hF
    clear hF
    go_wp2_with fail
    refine HF.out.mono ?_
    rintro e w9 ⟨rfl, hb9⟩
    have H9 := Lib.hid (H8.out.below hb9)
    have HX9 := Lib.hid (HX8.out.below hb9)
    clear hb9 z0 z1 z2 z3 zl x0 x1 x2 x3 x4 xl
    cases ft with
    | false =>
      go_wp2
      go_ret
      exact RT.no HQ.out H9.out.bel
    | true =>
      obtain ⟨w10, hst, h10, hc10⟩ := (H9.out.below (bd (Below.refl _ _))).dropO HE.out.id 0
      obtain ⟨x0, x1, x2, x3, x4⟩ := HX9.out.cells
      have xl := HX9.out.lt
      obtain ⟨c0, c1, c2, c3, c4⟩ := H9.out.cells
      have hl := H9.out.lt.1
      simp only at x0 x1 x2 x3 x4
      have H10 := Lib.hid h10
      have HX10 := Lib.hid ((HX9.out.below (bd (Below.refl _ _))).chg hc10 (fun e => by have e : b1 = O := e; have := HLT.out; have := HBQ.out; omega))
      clear h10 hc10
      go_wp2
      go_region
      clear hst x0 x1 x2 x3 x4 xl c0 c1 c2 c3 c4 hl
      obtain ⟨x0, x1, x2, x3, x4⟩ := HX10.out.cells
      have xl := HX10.out.lt
      simp only at x0 x1 x2 x3 x4
      go_wp2_with fail
      refine (hcount H10.out ⟨k, f, i, a, .slice va n vc, ps⟩ HE.out (o := -1) (t := 0) ⟨by decide, by decide⟩ ⟨by decide, by decide⟩).mono ?_
      rintro e w11 ⟨rfl, h11⟩
      have H11 := Lib.hid h11
      clear h11 x0 x1 x2 x3 x4 xl
      go_wp2
      go_ret
      refine RT.yes HQ.out ?_
      rw [HS'.out]
      exact H11.out
end
end Go.Proofs.Ytennhfkhdfalfaa

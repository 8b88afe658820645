/- life: offer. -/
import Derived.Test.YtennhfkhdfalfaaLf3
namespace Go.Proofs.Ytennhfkhdfalfaa
open Go.RowKit Go.Maps
attribute [local go_sem] ext_cell ext_frozen extC_cell extC_frozen Mix.calmUpon Mix.mUpon
section
variable {W w : World} {hp A F O T : Nat} {s : HS}
set_option maxRecDepth 100000 in
set_option maxHeartbeats 4000000 in
theorem hoffer (h : HT W w hp A F O T s) (e : Ev) (he : EIn W e) : Calls Try.prog 128 #[ptr hp, evval e] w (RT W hp A F O T (offF s e) (offN s e)) := by
  obtain ⟨q, hq⟩ : ∃ q, q = offF s e := ⟨_, rfl⟩
  obtain ⟨s', hs'⟩ : ∃ s', s' = offN s e := ⟨_, rfl⟩
  rw [← hq, ← hs']
  have HQ := Lib.hid hq; have HS' := Lib.hid hs'
  obtain ⟨p, hp'⟩ : ∃ p, p = prs s e := ⟨_, rfl⟩
  obtain ⟨sv, hsv⟩ : ∃ sv, sv = somV e.ps := ⟨_, rfl⟩
  have HPP := Lib.hid hp'; have HSS := Lib.hid hsv
  clear hq hs' hp' hsv
  obtain ⟨va, vc, hvv, -, -⟩ := he.vc.form
  have HE := Lib.hid he
  obtain ⟨k, f, i, a, vv, ps⟩ := e
  simp only at hvv
  subst hvv
  clear he
  generalize hn : ps.length = n at *
  have hb := ba (Below.refl w.heap.size w) (.cells #[.int .i64 k, .int .i64 f, .int .i64 i, .int .i64 a, .slice va n vc] 103)
  have HB := Lib.hid hb
  have HX := Lib.hid (EB.made w ⟨k, f, i, a, .slice va n vc, ps⟩)
  have H1 := Lib.hid (h.below hb)
  have HN := Lib.hid hn
  have HLT := Lib.hid h.lt
  clear hb h hn
  go_enter Try.func128, Try.ntmps128
  go_wp2
  generalize w.alloc (.cells #[.int .i64 k, .int .i64 f, .int .i64 i, .int .i64 a, .slice va n vc] 103) = w1 at *
  obtain ⟨b1, hb1⟩ : ∃ b1, b1 = w.heap.size := ⟨_, rfl⟩
  rw [← hb1] at HX ⊢
  have HBQ := Lib.hid hb1
  clear hb1
  obtain ⟨x0, x1, x2, x3, x4⟩ := HX.out.cells
  have xl := HX.out.lt
  obtain ⟨c0, c1, c2, c3, c4⟩ := H1.out.cells
  have hl := H1.out.lt.1
  simp only at x0 x1 x2 x3 x4
  have hP := fun z : Ext w1 => quiet_ext z (hpresent (H1.out.below (ext_below _ z)) _ HE.out)
  have hS := fun z : Ext w1 => quiet_ext z (some_v (.slice va n vc) ps (ext w1 z) ((HE.out.vc.on H1.out.bel).on (ext_below _ z)))
  have e1 : prs s ⟨k, f, i, a, .slice va n vc, ps⟩ = p := HPP.out.symm
  have e2 : somV ps = sv := HSS.out.symm
  rw [e2] at hS
  simp only [e1] at hP
  have HP := Lib.hid hP; have HSV := Lib.hid hS
  clear e1 e2 hP hS
  have hqd : q = (decide (1 ≤ i) && (decide (s.last < i) && (p && sv))) := by rw [HPP.out, HSS.out]; exact HQ.out
  clear HQ
  by_cases i1 : i < 1
  · have d1 : decide (i < 1) = true := decide_eq_true i1
    have HQ := Lib.hid (show q = false by rw [hqd, decide_eq_false (show ¬ 1 ≤ i by omega)]; rfl)
    clear hqd
    refine wp_region_pure (by kernel_rfl) (by kernel_rfl) ?_
    repeat (first | go_big_quiet_step ((first | (go_at_call 132; with_reducible exact HP.out _) | (go_at_call 158; with_reducible exact HSV.out _))) | (quiet_step ((first | (go_at_call 132; with_reducible exact HP.out _) | (go_at_call 158; with_reducible exact HSV.out _)))))
    refine wpQuiet_nil ?_
    rintro w3 ⟨y3, hy3⟩
    have hb3 := ext_below _ y3
    rw [← hy3] at hb3
    clear hy3 y3
    have H3 := Lib.hid (H1.out.below hb3)
    have HX3 := Lib.hid (HX.out.below hb3)
    clear hb3
    go_wp2
    go_ret
    exact RT.no HQ.out H3.out.bel
  have d1 : decide (i < 1) = false := decide_eq_false i1
  rw [decide_eq_true (show 1 ≤ i by omega), Bool.true_and] at hqd
  by_cases i2 : i ≤ s.last
  · have d2 : decide (i ≤ s.last) = true := decide_eq_true i2
    have HQ := Lib.hid (show q = false by rw [hqd, decide_eq_false (show ¬ s.last < i by omega)]; rfl)
    clear hqd
    refine wp_region_pure (by kernel_rfl) (by kernel_rfl) ?_
    repeat (first | go_big_quiet_step ((first | (go_at_call 132; with_reducible exact HP.out _) | (go_at_call 158; with_reducible exact HSV.out _))) | (quiet_step ((first | (go_at_call 132; with_reducible exact HP.out _) | (go_at_call 158; with_reducible exact HSV.out _)))))
    refine wpQuiet_nil ?_
    rintro w3 ⟨y3, hy3⟩
    have hb3 := ext_below _ y3
    rw [← hy3] at hb3
    clear hy3 y3
    have H3 := Lib.hid (H1.out.below hb3)
    have HX3 := Lib.hid (HX.out.below hb3)
    clear hb3
    go_wp2
    go_ret
    exact RT.no HQ.out H3.out.bel
  have d2 : decide (i ≤ s.last) = false := decide_eq_false i2
  rw [decide_eq_true (show s.last < i by omega), Bool.true_and] at hqd
  cases p with
  | false =>
    have HQ := Lib.hid (show q = false by rw [hqd]; rfl)
    clear hqd
    refine wp_region_pure (by kernel_rfl) (by kernel_rfl) ?_
    repeat (first | go_big_quiet_step ((first | (go_at_call 132; with_reducible exact HP.out _) | (go_at_call 158; with_reducible exact HSV.out _))) | (quiet_step ((first | (go_at_call 132; with_reducible exact HP.out _) | (go_at_call 158; with_reducible exact HSV.out _)))))
    refine wpQuiet_nil ?_
    rintro w3 ⟨y3, hy3⟩
    have hb3 := ext_below _ y3
    rw [← hy3] at hb3
    clear hy3 y3
    have H3 := Lib.hid (H1.out.below hb3)
    have HX3 := Lib.hid (HX.out.below hb3)
    clear hb3
    go_wp2
    go_ret
    exact RT.no HQ.out H3.out.bel
  | true =>
    cases sv with
    | false =>
      have HQ := Lib.hid (show q = false by rw [hqd]; rfl)
      clear hqd
      refine wp_region_pure (by kernel_rfl) (by kernel_rfl) ?_
      repeat (first | go_big_quiet_step ((first | (go_at_call 132; with_reducible exact HP.out _) | (go_at_call 158; with_reducible exact HSV.out _))) | (quiet_step ((first | (go_at_call 132; with_reducible exact HP.out _) | (go_at_call 158; with_reducible exact HSV.out _)))))
      refine wpQuiet_nil ?_
      rintro w3 ⟨y3, hy3⟩
      have hb3 := ext_below _ y3
      rw [← hy3] at hb3
      clear hy3 y3
      have H3 := Lib.hid (H1.out.below hb3)
      have HX3 := Lib.hid (HX.out.below hb3)
      clear hb3
      go_wp2
      go_ret
      exact RT.no HQ.out H3.out.bel
    | true =>
      have HQ := Lib.hid (show q = true by rw [hqd]; rfl)
      have HVR := Lib.hid (show VR ps by
        have h := HSS.out
        unfold somV at h
        exact of_decide_eq_true (Bool.and_eq_true_iff.1 h.symm).2)
      clear hqd
      refine wp_region_pure (by kernel_rfl) (by kernel_rfl) ?_
      repeat (first | go_big_quiet_step ((first | (go_at_call 132; with_reducible exact HP.out _) | (go_at_call 158; with_reducible exact HSV.out _))) | (quiet_step ((first | (go_at_call 132; with_reducible exact HP.out _) | (go_at_call 158; with_reducible exact HSV.out _)))))
      refine wpQuiet_nil ?_
      rintro w3 ⟨y3, hy3⟩
      have hb3 := ext_below _ y3
      rw [← hy3] at hb3
      clear hy3 y3
      have H3 := Lib.hid (H1.out.below hb3)
      have HX3 := Lib.hid (HX.out.below hb3)
      clear hb3
      clear x0 x1 x2 x3 x4 xl c0 c1 c2 c3 c4 hl
      obtain ⟨x0, x1, x2, x3, x4⟩ := HX3.out.cells
      have xl := HX3.out.lt
      obtain ⟨c0, c1, c2, c3, c4⟩ := H3.out.cells
      have y0 := H3.out.fz 0
      have hl := H3.out.lt.1
      simp only at x0 x1 x2 x3 x4
      have H4 := Lib.hid (H3.out.setL i)
      have HX4 := Lib.hid (HX3.out.chg ((Chg.refl (fun k => k = hp) w3).setCell (p := ⟨hp, 0, none⟩) (.inl rfl) (.int .i64 i)) (fun e => by have e : b1 = hp := e; have := HLT.out; have := HBQ.out; omega))
      go_wp2
      clear x0 x1 x2 x3 x4 xl c0 c1 c2 c3 c4 hl y0
      generalize w3.setCell ⟨hp, 0, none⟩ (.int .i64 i) = w4 at *
      obtain ⟨x0, x1, x2, x3, x4⟩ := HX4.out.cells
      have xl := HX4.out.lt
      obtain ⟨c0, c1, c2, c3, c4⟩ := H4.out.cells
      have hl := H4.out.lt.1
      simp only at x0 x1 x2 x3 x4
      refine Mix.regionC (fun k => k = O) (by kernel_rfl) ?_
      intro w5 hb5
      have n1 : ¬ b1 = O := fun e => by have := HLT.out; have := HBQ.out; omega
      have n2 : ¬ hp = O := H4.out.apart.1.2.2.1
      refine Mix.take_exC _ _ 0 rfl (by kernel_rfl) (by kernel_rfl) (by kernel_rfl) (by kernel_rfl) (fun K hK => ?_)
      go_simp
      first | (refine hK _ ?_; clear hK K) | (apply Exists.intro; refine ⟨fun x => ?_, hK _ ?_⟩; (fail); clear hK K)
      refine Mix.take_exC _ _ 1 rfl (by kernel_rfl) (by kernel_rfl) (by kernel_rfl) (by kernel_rfl) (fun K hK => ?_)
      go_simp
      first | (refine hK _ ?_; clear hK K) | (apply Exists.intro; refine ⟨fun x => ?_, hK _ ?_⟩; (fail); clear hK K)
      refine Mix.take_exC _ _ 2 rfl (by kernel_rfl) (by kernel_rfl) (by kernel_rfl) (by kernel_rfl) (fun K hK => ?_)
      go_simp
      first | (refine hK _ ?_; clear hK K) | (apply Exists.intro; refine ⟨fun x => ?_, hK _ ?_⟩; (fail); clear hK K)
      refine Mix.take_exC _ _ 3 rfl (by kernel_rfl) (by kernel_rfl) (by kernel_rfl) (by kernel_rfl) (fun K hK => ?_)
      go_simp
      first | (refine hK _ ?_; clear hK K) | (apply Exists.intro; refine ⟨fun x => ?_, hK _ ?_⟩; (fail); clear hK K)
      refine Mix.take_exC _ _ 4 rfl (by kernel_rfl) (by kernel_rfl) (by kernel_rfl) (by kernel_rfl) (fun K hK => ?_)
      go_simp
      first | (refine hK _ ?_; clear hK K) | (apply Exists.intro; refine ⟨fun x => ?_, hK _ ?_⟩; (fail); clear hK K)
      refine Mix.take_exC _ _ 5 rfl (by kernel_rfl) (by kernel_rfl) (by kernel_rfl) (by kernel_rfl) (fun K hK => ?_)
      go_simp
      first | (refine hK _ ?_; clear hK K) | (apply Exists.intro; refine ⟨fun x => ?_, hK _ ?_⟩; (fail); clear hK K)
      refine Mix.take_exC _ _ 6 rfl (by kernel_rfl) (by kernel_rfl) (by kernel_rfl) (by kernel_rfl) (fun K hK => ?_)
      go_simp
      first | (refine hK _ ?_; clear hK K) | (apply Exists.intro; refine ⟨fun x => ?_, hK _ ?_⟩; (fail); clear hK K)
      refine Mix.take_exC _ _ 7 rfl (by kernel_rfl) (by kernel_rfl) (by kernel_rfl) (by kernel_rfl) (fun K hK => ?_)
      go_simp
      first | (refine hK _ ?_; clear hK K) | (apply Exists.intro; refine ⟨fun x => ?_, hK _ ?_⟩; ((exact concern_any (W := W) _ HE.out.vc _)); clear hK K)
      refine Mix.take_exC _ _ 8 rfl (by kernel_rfl) (by kernel_rfl) (by kernel_rfl) (by kernel_rfl) (fun K hK => ?_)
      go_simp
      first | (refine hK _ ?_; clear hK K) | (apply Exists.intro; refine ⟨fun x => ?_, hK _ ?_⟩; (fail); clear hK K)
      refine Mix.take_exC _ _ 9 rfl (by kernel_rfl) (by kernel_rfl) (by kernel_rfl) (by kernel_rfl) (fun K hK => ?_)
      go_simp
      first | (refine hK _ ?_; clear hK K) | (apply Exists.intro; refine ⟨fun x => ?_, hK _ ?_⟩; (fail); clear hK K)
      refine Mix.take_exC _ _ 10 rfl (by kernel_rfl) (by kernel_rfl) (by kernel_rfl) (by kernel_rfl) (fun K hK => ?_)
      go_simp
      first | (refine hK _ ?_; clear hK K) | (apply Exists.intro; refine ⟨fun x => ?_, hK _ ?_⟩; (fail); clear hK K)
      refine Mix.all (rs := [11]) (by kernel_rfl) (by simp) (.of_below _ hb5) ?_
      intro i6 hi6 w6 hb6 hC6
      simp only [List.mem_cons, List.not_mem_nil, or_false] at hi6
      subst hi6
      have HB6 := Lib.hid (bt hb5 hb6)
      clear hC6 hb5 hb6
      obtain ⟨w7, hst, h7, hc7⟩ := (H4.out.below HB6.out).storeO HE.out.id ⟨f, i, a, .slice va n vc, ps⟩ ⟨HE.out.vc, HVR.out⟩
      have H7 := Lib.hid h7; have HC7 := Lib.hid hc7
      clear h7 hc7
      refine Mix.op rfl (by kernel_rfl) ?_
      go_simp
      clear hst
      have HC7 := Lib.hid ((Chg.of_below (fun k => k = O) HB6.out).same HC7.out)
      refine Mix.done (by kernel_rfl) HC7.out ?_
      intro w8 hb8
      have H8 := Lib.hid (H7.out.below hb8)
      have HX8 := Lib.hid ((HX4.out.chg HC7.out n1).below hb8)
      clear hb8 n1 n2
      clear x0 x1 x2 x3 x4 xl c0 c1 c2 c3 c4 hl
      obtain ⟨x0, x1, x2, x3, x4⟩ := HX8.out.cells
      have xl := HX8.out.lt
      simp only at x0 x1 x2 x3 x4
      go_wp2_with fail
      refine (hcount H8.out ⟨k, f, i, a, .slice va n vc, ps⟩ HE.out (o := 1) (t := 0) ⟨by decide, by decide⟩ ⟨by decide, by decide⟩).mono ?_
      rintro e w9 ⟨rfl, h9⟩
      have H9 := Lib.hid h9
      clear h9 x0 x1 x2 x3 x4 xl
      go_wp2
      go_ret
      refine RT.yes HQ.out ?_
      rw [HS'.out]
      exact H9.out
end
end Go.Proofs.Ytennhfkhdfalfaa

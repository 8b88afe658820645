/- life: host, come. -/
import Derived.Test.YtennhfkhdfalfaaLf2
namespace Go.Proofs.Ytennhfkhdfalfaa
open Go.RowKit Go.Maps
attribute [local go_sem] ext_cell ext_frozen extC_cell extC_frozen Mix.calmUpon Mix.mUpon
/-- What a step answers, and what there is behind it if the event fits. -/
def RT (W : World) (hp A F O T : Nat) (b : Bool) (s' : HS) (r : Ending) (w' : World) : Prop := r = .returned (.bool b) ∧ (b = true → HT W w' hp A F O T s') ∧ Below W.heap.size W w'
theorem RT.no {W w' : World} {hp A F O T : Nat} {q : Bool} {s' : HS} (hq : q = false) (hb : Below W.heap.size W w') : RT W hp A F O T q s' (.returned (.bool false)) w' := ⟨by rw [hq], (fun e => by rw [hq] at e; cases e), hb⟩
theorem RT.yes {W w' : World} {hp A F O T : Nat} {q : Bool} {s' : HS} (hq : q = true) (h : HT W w' hp A F O T s') : RT W hp A F O T q s' (.returned (.bool true)) w' := ⟨by rw [hq], fun _ => h, h.bel⟩
section
variable {W w : World} {hp A F O T : Nat} {s : HS}
set_option maxRecDepth 100000 in
set_option maxHeartbeats 2000000 in
theorem hhost (h : HT W w hp A F O T s) (e : Ev) (he : EIn W e) : Calls Try.prog 126 #[ptr hp, evval e] w (RT W hp A F O T (hostF s e) (hostN s e)) := by
  obtain ⟨q, hq⟩ : ∃ q, q = hostF s e := ⟨_, rfl⟩
  obtain ⟨s', hs'⟩ : ∃ s', s' = hostN s e := ⟨_, rfl⟩
  rw [← hq, ← hs']
  have HQ := Lib.hid hq; have HS' := Lib.hid hs'
  clear hq hs'
  obtain ⟨va, vc, hvv, -, -⟩ := he.vc.form
  have HE := Lib.hid he
  obtain ⟨k, f, i, a, vv, ps⟩ := e
  simp only at hvv
  subst hvv
  clear he
  generalize hn : ps.length = n at *
  have hb := ba (Below.refl w.heap.size w) (.cells #[.int .i64 k, .int .i64 f, .int .i64 i, .int .i64 a, .slice va n vc] 103)
  have HB := Lib.hid hb
  have HX := Lib.hid (EB.made w ⟨k, f, i, a, .slice va n vc, ps⟩)
  have H1 := Lib.hid (h.below hb)
  have HN := Lib.hid hn
  have HLT := Lib.hid h.lt
  clear hb h hn
  go_enter Try.func126, Try.ntmps126
  go_wp2
  generalize w.alloc (.cells #[.int .i64 k, .int .i64 f, .int .i64 i, .int .i64 a, .slice va n vc] 103) = w1 at *
  obtain ⟨b1, hb1⟩ : ∃ b1, b1 = w.heap.size := ⟨_, rfl⟩
  rw [← hb1] at HX ⊢
  have HBQ := Lib.hid hb1
  clear hb1
  obtain ⟨x0, x1, x2, x3, x4⟩ := HX.out.cells
  have xl := HX.out.lt
  obtain ⟨c0, c1, c2, c3, c4⟩ := H1.out.cells
  have hl := H1.out.lt.1
  simp only at x0 x1 x2 x3 x4
  have la := (H1.out.below (bd (Below.refl _ _))).lookA HE.out.ag true
  obtain ⟨m, hm⟩ : ∃ m, m = (s.ag a).getD 0 := ⟨_, rfl⟩
  obtain ⟨th, hth⟩ : ∃ th, th = (s.ag a).isSome := ⟨_, rfl⟩
  simp only at la
  rw [← hm, ← hth] at la
  replace la := la.trans (show _ = .ok (.tuple #[.int .i64 m, .bool th]) _ from rfl)
  have HM := Lib.hid hm; have HTH := Lib.hid hth
  clear hm hth
  go_region
  have H2 := Lib.hid (H1.out.below (bd (Below.refl _ _)))
  have HX2 := Lib.hid (HX.out.below (bd (Below.refl _ _)))
  have HB2 := Lib.hid (bd HB.out)
  clear x0 x1 x2 x3 x4 xl c0 c1 c2 c3 c4 hl la
  generalize (w1).drew = w2 at *
  obtain ⟨x0, x1, x2, x3, x4⟩ := HX2.out.cells
  have xl := HX2.out.lt
  obtain ⟨c0, c1, c2, c3, c4⟩ := H2.out.cells
  have hl := H2.out.lt.1
  simp only at x0 x1 x2 x3 x4
  by_cases hk1 : k = 1
  · obtain ⟨w3, hst, h3, -⟩ := (H2.out.below (bd (Below.refl _ _))).storeA HE.out.ag m
    have H3 := Lib.hid h3
    have HK := Lib.hid hk1
    have hkb : (k == 1) = true := by simpa using hk1
    clear h3 hk1
    go_wp2
    go_region
    go_wp2
    go_ret
    refine ⟨by rw [HQ.out]; unfold hostF; simp only; rw [if_pos HK.out, HTH.out]; cases s.ag a <;> rfl, fun _ => ?_, H3.out.bel⟩
    rw [HS'.out]; unfold hostN; simp only; rw [if_pos HK.out, ← HM.out]
    exact H3.out
  · have hkb : (k == 1) = false := by simpa using hk1
    have HK := Lib.hid hk1
    cases th with
    | false =>
      go_wp2
      go_ret
      exact RT.no (by rw [HQ.out]; unfold hostF; simp only; rw [if_neg HK.out, ← HTH.out]; rfl) H2.out.bel
    | true =>
      by_cases hm0 : m = 0
      · obtain ⟨w3, hst, h3, -⟩ := (H2.out.below (bd (Below.refl _ _))).dropA HE.out.ag 0
        have H3 := Lib.hid h3
        have HM0 := Lib.hid hm0
        have hmb : (m == 0) = true := by simpa using hm0
        clear h3 hm0
        go_wp2
        go_region
        go_wp2
        go_ret
        refine ⟨by rw [HQ.out]; unfold hostF; simp only; rw [if_neg HK.out, ← HTH.out, ← HM.out, decide_eq_true HM0.out]; rfl, fun _ => ?_, H3.out.bel⟩
        rw [HS'.out]; unfold hostN; simp only; rw [if_neg HK.out]
        exact H3.out
      · have hmb : (m == 0) = false := by simpa using hm0
        have HM0 := Lib.hid hm0
        go_wp2
        go_ret
        exact RT.no (by rw [HQ.out]; unfold hostF; simp only; rw [if_neg HK.out, ← HTH.out, ← HM.out, decide_eq_false HM0.out]; rfl) H2.out.bel
set_option maxRecDepth 100000 in
set_option maxHeartbeats 4000000 in
theorem hcome (h : HT W w hp A F O T s) (e : Ev) (he : EIn W e) : Calls Try.prog 127 #[ptr hp, evval e] w (RT W hp A F O T (comeF s e) (comeN s e)) := by
  obtain ⟨q, hq⟩ : ∃ q, q = comeF s e := ⟨_, rfl⟩
  obtain ⟨s', hs'⟩ : ∃ s', s' = comeN s e := ⟨_, rfl⟩
  rw [← hq, ← hs']
  have HQ := Lib.hid hq; have HS' := Lib.hid hs'
  clear hq hs'
  obtain ⟨va, vc, hvv, -, -⟩ := he.vc.form
  have HE := Lib.hid he
  obtain ⟨k, f, i, a, vv, ps⟩ := e
  simp only at hvv
  subst hvv
  clear he
  generalize hn : ps.length = n at *
  have hb := ba (Below.refl w.heap.size w) (.cells #[.int .i64 k, .int .i64 f, .int .i64 i, .int .i64 a, .slice va n vc] 103)
  have HB := Lib.hid hb
  have HX := Lib.hid (EB.made w ⟨k, f, i, a, .slice va n vc, ps⟩)
  have H1 := Lib.hid (h.below hb)
  have HN := Lib.hid hn
  have HLT := Lib.hid h.lt
  clear hb h hn
  go_enter Try.func127, Try.ntmps127
  go_wp2
  generalize w.alloc (.cells #[.int .i64 k, .int .i64 f, .int .i64 i, .int .i64 a, .slice va n vc] 103) = w1 at *
  obtain ⟨b1, hb1⟩ : ∃ b1, b1 = w.heap.size := ⟨_, rfl⟩
  rw [← hb1] at HX ⊢
  have HBQ := Lib.hid hb1
  clear hb1
  obtain ⟨x0, x1, x2, x3, x4⟩ := HX.out.cells
  have xl := HX.out.lt
  obtain ⟨c0, c1, c2, c3, c4⟩ := H1.out.cells
  have hl := H1.out.lt.1
  simp only at x0 x1 x2 x3 x4
  have hlk := lookF_ext H1.out HE.out.fr true
  simp only at hlk
  obtain ⟨th, hth⟩ : ∃ th, th = (s.fr f).isSome := ⟨_, rfl⟩
  obtain ⟨x, hx⟩ : ∃ x, x = (s.fr f).getD fm0 := ⟨_, rfl⟩
  rw [← hth, ← hx] at hlk
  have HXX := Lib.hid hx; have HTH := Lib.hid hth
  clear hx hth
  obtain ⟨xu, xo, xt⟩ := x
  replace hlk : ∀ x : ExtC w1 (fun _ => False), (Instr.lookup 154 (.map (some F)) (.int .i64 f) true).run Try.prog (extC w1 (fun _ => False) x) = .ok (.tuple #[.agg #[.bool xu, .int .i64 xo, .int .i64 xt], .bool th]) (extC w1 (fun _ => False) x) := hlk
  -- a variable for a framework that is found (xu, xo, xt): lookups first (@takesC 12-12: the takes behind the store)
  refine Mix.regionC (fun _ => False) (by kernel_rfl) ?_
  intro w3 hb3
  refine Mix.take_exC _ _ 0 rfl (by kernel_rfl) (by kernel_rfl) (by kernel_rfl) (by kernel_rfl) (fun K hK => ?_)
  go_simp
  first | (refine hK _ ?_; clear hK K) | (apply Exists.intro; refine ⟨fun x => ?_, hK _ ?_⟩; (fail); clear hK K)
  refine Mix.take_exC _ _ 1 rfl (by kernel_rfl) (by kernel_rfl) (by kernel_rfl) (by kernel_rfl) (fun K hK => ?_)
  go_simp
  first | (refine hK _ ?_; clear hK K) | (apply Exists.intro; refine ⟨fun x => ?_, hK _ ?_⟩; (fail); clear hK K)
  refine Mix.take_exC _ _ 2 rfl (by kernel_rfl) (by kernel_rfl) (by kernel_rfl) (by kernel_rfl) (fun K hK => ?_)
  go_simp
  first | (refine hK _ ?_; clear hK K) | (apply Exists.intro; refine ⟨fun x => ?_, hK _ ?_⟩; (fail); clear hK K)
  refine Mix.take_exC _ _ 3 rfl (by kernel_rfl) (by kernel_rfl) (by kernel_rfl) (by kernel_rfl) (fun K hK => ?_)
  go_simp
  first | (refine hK _ ?_; clear hK K) | (apply Exists.intro; refine ⟨fun x => ?_, hK _ ?_⟩; (fail); clear hK K)
  refine Mix.take_exC _ _ 4 rfl (by kernel_rfl) (by kernel_rfl) (by kernel_rfl) (by kernel_rfl) (fun K hK => ?_)
  go_simp
  first | (refine hK _ ?_; clear hK K) | (apply Exists.intro; refine ⟨fun x => ?_, hK _ ?_⟩; (fail); clear hK K)
  refine Mix.take_exC _ _ 5 rfl (by kernel_rfl) (by kernel_rfl) (by kernel_rfl) (by kernel_rfl) (fun K hK => ?_)
  go_simp
  first | (refine hK _ ?_; clear hK K) | (apply Exists.intro; refine ⟨fun x => ?_, hK _ ?_⟩; (fail); clear hK K)
  refine Mix.take_exC _ _ 6 rfl (by kernel_rfl) (by kernel_rfl) (by kernel_rfl) (by kernel_rfl) (fun K hK => ?_)
  go_simp
  first | (refine hK _ ?_; clear hK K) | (apply Exists.intro; refine ⟨fun x => ?_, hK _ ?_⟩; (fail); clear hK K)
  refine Mix.take_exC _ _ 7 rfl (by kernel_rfl) (by kernel_rfl) (by kernel_rfl) (by kernel_rfl) (fun K hK => ?_)
  go_simp
  first | (refine hK _ ?_; clear hK K) | (apply Exists.intro; refine ⟨fun x => ?_, hK _ ?_⟩; (fail); clear hK K)
  refine Mix.take_exC _ _ 8 rfl (by kernel_rfl) (by kernel_rfl) (by kernel_rfl) (by kernel_rfl) (fun K hK => ?_)
  go_simp
  first | (refine hK _ ?_; clear hK K) | (apply Exists.intro; refine ⟨fun x => ?_, hK _ ?_⟩; (fail); clear hK K)
  refine Mix.take_exC _ _ 9 rfl (by kernel_rfl) (by kernel_rfl) (by kernel_rfl) (by kernel_rfl) (fun K hK => ?_)
  go_simp
  first | (refine hK _ ?_; clear hK K) | (apply Exists.intro; refine ⟨fun x => ?_, hK _ ?_⟩; (fail); clear hK K)
  refine Mix.all (rs := [10]) (by kernel_rfl) (by simp) (.of_below _ hb3) ?_
  intro i4 hi4 w4 hb4 hC4
  simp only [List.mem_cons, List.not_mem_nil, or_false] at hi4
  subst hi4
  have HB4 := Lib.hid (bt hb3 hb4)
  clear hC4 hb3 hb4
  refine Mix.op rfl (by kernel_rfl) ?_
  go_simp
  have hz4 := FB.made w4 fm0
  have hb45 := ba HB4.out (.cells #[.bool false, .int .i64 0, .int .i64 0] 202)
  generalize w4.alloc (.cells #[.bool false, .int .i64 0, .int .i64 0] 202) = w5 at *
  obtain ⟨b4, hb4q⟩ : ∃ b4, b4 = w4.heap.size := ⟨_, rfl⟩
  rw [← hb4q] at hz4 ⊢
  have HG4 := Lib.hid (show w1.heap.size ≤ b4 by rw [hb4q]; exact HB4.out.size)
  have HZ5 := Lib.hid hz4; have HB5 := Lib.hid hb45
  clear hz4 hb45 hb4q
  refine Mix.all (rs := [11]) (by kernel_rfl) (by simp) (.of_below _ HB5.out) ?_
  intro i6 hi6 w6 hb6 hC6
  simp only [List.mem_cons, List.not_mem_nil, or_false] at hi6
  subst hi6
  have HB6 := Lib.hid (bt HB5.out hb6)
  have hz6 := HZ5.out.below hb6
  clear hC6 hb6
  obtain ⟨m0, m1, m2⟩ := hz6.cells
  have o0 := hz6.fz 0; have o1 := hz6.fz 1; have o2 := hz6.fz 2
  have m4 := hz6.lt
  have HST := Lib.hid (show Chg (fun k => k = b4) w6 (((w6.setCell ⟨b4, 0, none⟩ (.bool xu)).setCell ⟨b4, 1, none⟩ (.int .i64 xo)).setCell ⟨b4, 2, none⟩ (.int .i64 xt)) from (((Chg.refl (fun k => k = b4) w6).setCell (p := ⟨b4, 0, none⟩) (.inl rfl) _).setCell (p := ⟨b4, 1, none⟩) (.inl rfl) _).setCell (p := ⟨b4, 2, none⟩) (.inl rfl) _)
  have HFX := Lib.hid (hz6.set3 ⟨xu, xo, xt⟩)
  clear hz6
  refine Mix.op rfl (by kernel_rfl) ?_
  go_simp
  clear m0 m1 m2 m4 o0 o1 o2
  generalize ((w6.setCell ⟨b4, 0, none⟩ (.bool xu)).setCell ⟨b4, 1, none⟩ (.int .i64 xo)).setCell ⟨b4, 2, none⟩ (.int .i64 xt) = w7 at *
  have HB7 := Lib.hid (show Below w1.heap.size w1 w7 from HB6.out.trans (HST.out.below HB6.out.size fun k e => by have e : k = b4 := e; have := HG4.out; omega))
  refine Mix.take_exC _ _ 12 rfl (by kernel_rfl) (by kernel_rfl) (by kernel_rfl) (by kernel_rfl) (fun K hK => ?_)
  go_simp
  first | (refine hK _ ?_; clear hK K) | (apply Exists.intro; refine ⟨fun x => ?_, hK _ ?_⟩; (fail); clear hK K)
  refine Mix.done (by kernel_rfl) (.of_below _ HB7.out) ?_
  intro w8 hb8
  have HB8 := Lib.hid (bt HB7.out hb8)
  have HF8 := Lib.hid (HFX.out.below hb8)
  clear hb8 HST HB6 HB5 HZ5 HFX
  clear hlk x0 x1 x2 x3 x4 xl c0 c1 c2 c3 c4 hl
  have H8 := Lib.hid (H1.out.below HB8.out)
  have HX8 := Lib.hid (HX.out.below HB8.out)
  obtain ⟨z0, z1, z2⟩ := HF8.out.cells
  have zl := HF8.out.lt
  have y0 := HF8.out.fz 0
  obtain ⟨x0, x1, x2, x3, x4⟩ := HX8.out.cells
  have xl := HX8.out.lt
  simp only at z0 z1 z2 x0 x1 x2 x3 x4
  by_cases k3 : k = 3
  · have HK3 := Lib.hid k3
    have kb : (k == 3) = true := by simpa using k3
    clear k3
    have HF9 := Lib.hid (show FB (w8.setCell ⟨b4, 0, none⟩ (.bool true)) b4 ⟨true, xo, xt⟩ from HF8.out.set0 true)
    have HB9 := Lib.hid (show Below w1.heap.size w1 (w8.setCell ⟨b4, 0, none⟩ (.bool true)) from bs HB8.out HG4.out _)
    go_wp2
    clear x0 x1 x2 x3 x4 xl z0 z1 z2 zl y0
    generalize w8.setCell ⟨b4, 0, none⟩ (.bool true) = w9 at *
    obtain ⟨w10, hst, h10, -⟩ := (H1.out.below (bd HB9.out)).storeF HE.out.fr ⟨true, xo, xt⟩
    have H10 := Lib.hid h10
    have hX9 := HX.out.below HB9.out
    have hH9 := H1.out.below HB9.out
    obtain ⟨x0, x1, x2, x3, x4⟩ := hX9.cells
    have xl := hX9.lt
    obtain ⟨c0, c1, c2, c3, c4⟩ := hH9.cells
    have hl := hH9.lt.1
    obtain ⟨z0, z1, z2⟩ := HF9.out.cells
    have zl := HF9.out.lt
    simp only at x0 x1 x2 x3 x4 z0 z1 z2
    clear h10 hX9 hH9
    go_region
    go_wp2
    go_ret
    refine RT.yes (by rw [HQ.out]; unfold comeF; simp only; rw [if_pos HK3.out]) ?_
    rw [HS'.out]; unfold comeN; simp only; rw [if_pos HK3.out, ← HXX.out]
    exact H10.out
  have kb3 : (k == 3) = false := by simpa using k3
  by_cases k4 : k = 4
  · have HK3 := Lib.hid k3
    have HK4 := Lib.hid k4
    have kb4 : (k == 4) = true := by simpa using k4
    have kb5 : (k == 5) = false := by simp [k4]
    have k5 : ¬ k = 5 := by omega
    clear k4
    cases xu with
    | false =>
      go_wp2
      go_ret
      exact RT.no (by rw [HQ.out]; unfold comeF; simp only; rw [if_neg HK3.out, if_pos HK4.out, ← HXX.out]; rfl) H8.out.bel
    | true =>
      by_cases o0 : xo = 0
      · have HO := Lib.hid o0
        have ob : (xo == 0) = true := by simpa using o0
        clear o0
        have HF9 := Lib.hid (show FB (w8.setCell ⟨b4, 0, none⟩ (.bool false)) b4 ⟨false, xo, xt⟩ from HF8.out.set0 false)
        have HB9 := Lib.hid (show Below w1.heap.size w1 (w8.setCell ⟨b4, 0, none⟩ (.bool false)) from bs HB8.out HG4.out _)
        go_wp2
        clear x0 x1 x2 x3 x4 xl z0 z1 z2 zl y0
        generalize w8.setCell ⟨b4, 0, none⟩ (.bool false) = w9 at *
        obtain ⟨w10, hst, h10, -⟩ := (H1.out.below (bd HB9.out)).storeF HE.out.fr ⟨false, xo, xt⟩
        have H10 := Lib.hid h10
        have hX9 := HX.out.below HB9.out
        have hH9 := H1.out.below HB9.out
        obtain ⟨x0, x1, x2, x3, x4⟩ := hX9.cells
        have xl := hX9.lt
        obtain ⟨c0, c1, c2, c3, c4⟩ := hH9.cells
        have hl := hH9.lt.1
        obtain ⟨z0, z1, z2⟩ := HF9.out.cells
        have zl := HF9.out.lt
        simp only at x0 x1 x2 x3 x4 z0 z1 z2
        clear h10 hX9 hH9
        go_region
        go_wp2
        go_ret
        refine RT.yes (by rw [HQ.out]; unfold comeF; simp only; rw [if_neg HK3.out, if_pos HK4.out, ← HXX.out]; simp only; rw [decide_eq_true HO.out]; rfl) ?_
        rw [HS'.out]; unfold comeN; simp only; rw [if_neg HK3.out, if_pos HK4.out, ← HXX.out]
        exact H10.out
      · have ob : (xo == 0) = false := by simpa using o0
        have HO := Lib.hid o0
        go_wp2
        go_ret
        exact RT.no (by rw [HQ.out]; unfold comeF; simp only; rw [if_neg HK3.out, if_pos HK4.out, ← HXX.out]; simp only; rw [decide_eq_false HO.out]; rfl) H8.out.bel
  have kb4 : (k == 4) = false := by simpa using k4
  have HK3 := Lib.hid k3
  have HK4 := Lib.hid k4
  by_cases k5 : k = 5
  · have HK5 := Lib.hid k5
    have kb5 : (k == 5) = true := by simpa using k5
    clear k5
    cases th with
    | false =>
      go_wp2
      go_ret
      exact RT.no (by rw [HQ.out]; unfold comeF; simp only; rw [if_neg HK3.out, if_neg HK4.out, if_pos HK5.out, ← HTH.out]; rfl) H8.out.bel
    | true =>
      by_cases o0 : xo = 0
      · have ob : (xo == 0) = true := by simpa using o0
        have HO := Lib.hid o0
        clear o0
        by_cases t0 : xt = 0
        · have tb : (xt == 0) = true := by simpa using t0
          have HT0 := Lib.hid t0
          clear t0
          obtain ⟨w10, hst, h10, -⟩ := (H1.out.below (bd HB8.out)).dropF HE.out.fr 0
          have H10 := Lib.hid h10
          obtain ⟨c0, c1, c2, c3, c4⟩ := H8.out.cells
          have hl := H8.out.lt.1
          clear h10
          go_wp2
          go_region
          go_wp2
          go_ret
          refine RT.yes (by rw [HQ.out]; unfold comeF; simp only; rw [if_neg HK3.out, if_neg HK4.out, if_pos HK5.out, ← HTH.out, ← HXX.out]; simp only; rw [decide_eq_true HO.out, decide_eq_true HT0.out]; rfl) ?_
          rw [HS'.out]; unfold comeN; simp only; rw [if_neg HK3.out, if_neg HK4.out]
          exact H10.out
        · have tb : (xt == 0) = false := by simpa using t0
          have HT0 := Lib.hid t0
          go_wp2
          go_ret
          exact RT.no (by rw [HQ.out]; unfold comeF; simp only; rw [if_neg HK3.out, if_neg HK4.out, if_pos HK5.out, ← HTH.out, ← HXX.out]; simp only; rw [decide_eq_false HT0.out, Bool.and_false]; rfl) H8.out.bel
      · have ob : (xo == 0) = false := by simpa using o0
        have HO := Lib.hid o0
        go_wp2
        go_ret
        exact RT.no (by rw [HQ.out]; unfold comeF; simp only; rw [if_neg HK3.out, if_neg HK4.out, if_pos HK5.out, ← HTH.out, ← HXX.out]; simp only; rw [decide_eq_false HO.out]; rfl) H8.out.bel
  · have kb5 : (k == 5) = false := by simpa using k5
    have HK5 := Lib.hid k5
    go_wp2
    go_ret
    exact RT.no (by rw [HQ.out]; unfold comeF; simp only; rw [if_neg HK3.out, if_neg HK4.out, if_neg HK5.out]) H8.out.bel
end
end Go.Proofs.Ytennhfkhdfalfaa

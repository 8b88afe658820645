/- life: take. -/
import Derived.Test.YtennhfkhdfalfaaLf6
namespace Go.Proofs.Ytennhfkhdfalfaa
open Go.RowKit Go.Maps
attribute [local go_sem] ext_cell ext_frozen extC_cell extC_frozen Mix.calmUpon Mix.mUpon
section
variable {W w : World} {hp A F O T : Nat} {s : HS}
set_option maxRecDepth 100000 in
set_option maxHeartbeats 4000000 in
theorem htake (h : HT W w hp A F O T s) (e : Ev) (he : EIn W e) : Calls Try.prog 100 #[ptr hp, evval e] w (RT W hp A F O T (fit s e) (nxt s e)) := by
  obtain ⟨q, hq⟩ : ∃ q, q = fit s e := ⟨_, rfl⟩
  obtain ⟨s', hs'⟩ : ∃ s', s' = nxt s e := ⟨_, rfl⟩
  rw [← hq, ← hs']
  have HQ := Lib.hid hq; have HS' := Lib.hid hs'
  clear hq hs'
  obtain ⟨va, vc, hvv, -, -⟩ := he.vc.form
  have HE := Lib.hid he
  obtain ⟨k, f, i, a, vv, ps⟩ := e
  simp only at hvv
  subst hvv
  clear he
  generalize hn : ps.length = n at *
  have hb := ba (Below.refl w.heap.size w) (.cells #[.int .i64 k, .int .i64 f, .int .i64 i, .int .i64 a, .slice va n vc] 103)
  have HB := Lib.hid hb
  have HX := Lib.hid (EB.made w ⟨k, f, i, a, .slice va n vc, ps⟩)
  have H1 := Lib.hid (h.below hb)
  have HN := Lib.hid hn
  have HLT := Lib.hid h.lt
  clear hb h hn
  by_cases k1 : k = 1
  · subst k1
    replace HQ := Lib.hid (HQ.out.trans (show _ = hostF s ⟨1, f, i, a, .slice va n vc, ps⟩ from rfl))
    replace HS' := Lib.hid (HS'.out.trans (show _ = hostN s ⟨1, f, i, a, .slice va n vc, ps⟩ from rfl))
    go_enter Try.func100, Try.ntmps100
    go_wp2_with fail
    generalize w.alloc (.cells #[.int .i64 1, .int .i64 f, .int .i64 i, .int .i64 a, .slice va n vc] 103) = w1 at *
    refine (hhost H1.out _ HE.out).mono ?_
    rintro e w2 ⟨rfl, h2, hb2⟩
    have HR := Lib.hid (And.intro h2 hb2)
    clear h2 hb2
    go_wp2
    go_ret
    exact ⟨by rw [HQ.out]; rfl, (fun e => by rw [HS'.out]; exact HR.out.1 (by rw [← HQ.out]; exact e)), HR.out.2⟩
  by_cases k2 : k = 2
  · subst k2
    replace HQ := Lib.hid (HQ.out.trans (show _ = hostF s ⟨2, f, i, a, .slice va n vc, ps⟩ from rfl))
    replace HS' := Lib.hid (HS'.out.trans (show _ = hostN s ⟨2, f, i, a, .slice va n vc, ps⟩ from rfl))
    go_enter Try.func100, Try.ntmps100
    go_wp2_with fail
    generalize w.alloc (.cells #[.int .i64 2, .int .i64 f, .int .i64 i, .int .i64 a, .slice va n vc] 103) = w1 at *
    refine (hhost H1.out _ HE.out).mono ?_
    rintro e w2 ⟨rfl, h2, hb2⟩
    have HR := Lib.hid (And.intro h2 hb2)
    clear h2 hb2
    go_wp2
    go_ret
    exact ⟨by rw [HQ.out]; rfl, (fun e => by rw [HS'.out]; exact HR.out.1 (by rw [← HQ.out]; exact e)), HR.out.2⟩
  have b1 : (k == 1) = false := by simpa using k1
  have b2 : (k == 2) = false := by simpa using k2
  have r12 : ¬ (k = 1 ∨ k = 2) := by omega
  by_cases k5 : 3 ≤ k ∧ k ≤ 5
  · replace HQ := Lib.hid (HQ.out.trans (show _ = comeF s ⟨k, f, i, a, .slice va n vc, ps⟩ from by unfold fit; simp only; rw [if_neg r12, if_pos k5]))
    replace HS' := Lib.hid (HS'.out.trans (show _ = comeN s ⟨k, f, i, a, .slice va n vc, ps⟩ from by unfold nxt; simp only; rw [if_neg r12, if_pos k5]))
    have d3 : decide (3 ≤ k) = true := decide_eq_true k5.1
    have d5 : decide (k ≤ 5) = true := decide_eq_true k5.2
    clear r12 k5
    go_enter Try.func100, Try.ntmps100
    go_wp2_with fail
    generalize w.alloc (.cells #[.int .i64 k, .int .i64 f, .int .i64 i, .int .i64 a, .slice va n vc] 103) = w1 at *
    refine (hcome H1.out _ HE.out).mono ?_
    rintro e w2 ⟨rfl, h2, hb2⟩
    have HR := Lib.hid (And.intro h2 hb2)
    clear h2 hb2
    go_wp2
    go_ret
    exact ⟨by rw [HQ.out]; rfl, (fun e => by rw [HS'.out]; exact HR.out.1 (by rw [← HQ.out]; exact e)), HR.out.2⟩
  by_cases k6 : k = 6
  · subst k6
    replace HQ := Lib.hid (HQ.out.trans (show _ = offF s ⟨6, f, i, a, .slice va n vc, ps⟩ from rfl))
    replace HS' := Lib.hid (HS'.out.trans (show _ = offN s ⟨6, f, i, a, .slice va n vc, ps⟩ from rfl))
    clear r12
    go_enter Try.func100, Try.ntmps100
    go_wp2_with fail
    generalize w.alloc (.cells #[.int .i64 6, .int .i64 f, .int .i64 i, .int .i64 a, .slice va n vc] 103) = w1 at *
    refine (hoffer H1.out _ HE.out).mono ?_
    rintro e w2 ⟨rfl, h2, hb2⟩
    have HR := Lib.hid (And.intro h2 hb2)
    clear h2 hb2
    go_wp2
    go_ret
    exact ⟨by rw [HQ.out]; rfl, (fun e => by rw [HS'.out]; exact HR.out.1 (by rw [← HQ.out]; exact e)), HR.out.2⟩
  have b6 : (k == 6) = false := by simpa using k6
  by_cases kc : cloK k = true
  · replace HQ := Lib.hid (HQ.out.trans (show _ = cloF s ⟨k, f, i, a, .slice va n vc, ps⟩ from by unfold fit; simp only; rw [if_neg r12, if_neg k5, if_neg k6, if_pos kc]))
    replace HS' := Lib.hid (HS'.out.trans (show _ = cloN s ⟨k, f, i, a, .slice va n vc, ps⟩ from by unfold nxt; simp only; rw [if_neg r12, if_neg k5, if_neg k6, if_pos kc]))
    have hk7 : 7 ≤ k ∧ k ≤ 12 := of_decide_eq_true kc
    have d3 : decide (3 ≤ k) = true := decide_eq_true (by omega)
    have d5 : decide (k ≤ 5) = false := decide_eq_false (by omega)
    have HKC := Lib.hid kc
    clear r12 k5 kc hk7
    go_enter Try.func100, Try.ntmps100
    go_wp2_with fail
    generalize w.alloc (.cells #[.int .i64 k, .int .i64 f, .int .i64 i, .int .i64 a, .slice va n vc] 103) = w1 at *
    obtain ⟨b, hb⟩ : ∃ b, b = w.heap.size := ⟨_, rfl⟩
    rw [← hb] at HX ⊢
    clear hb
    refine (closes_any k _).mono ?_
    rintro e w0 ⟨rfl, rfl⟩
    rw [HKC.out]
    obtain ⟨x0, x1, x2, x3, x4⟩ := HX.out.cells
    have xl := HX.out.lt
    simp only at x0 x1 x2 x3 x4
    go_wp2_with fail
    refine (hclose H1.out _ HE.out).mono ?_
    rintro e w2 ⟨rfl, h2, hb2⟩
    have HR := Lib.hid (And.intro h2 hb2)
    clear h2 hb2
    go_wp2
    go_ret
    exact ⟨by rw [HQ.out]; rfl, (fun e => by rw [HS'.out]; exact HR.out.1 (by rw [← HQ.out]; exact e)), HR.out.2⟩
  have HKC := Lib.hid (show cloK k = false by simpa using kc)
  by_cases k13 : k = 13
  · subst k13
    replace HQ := Lib.hid (HQ.out.trans (show _ = lauF s ⟨13, f, i, a, .slice va n vc, ps⟩ from rfl))
    replace HS' := Lib.hid (HS'.out.trans (show _ = lauN s ⟨13, f, i, a, .slice va n vc, ps⟩ from rfl))
    clear r12 k5 kc
    go_enter Try.func100, Try.ntmps100
    go_wp2_with fail
    generalize w.alloc (.cells #[.int .i64 13, .int .i64 f, .int .i64 i, .int .i64 a, .slice va n vc] 103) = w1 at *
    obtain ⟨b, hb⟩ : ∃ b, b = w.heap.size := ⟨_, rfl⟩
    rw [← hb] at HX ⊢
    clear hb
    refine (closes_any 13 _).mono ?_
    rintro e w0 ⟨rfl, rfl⟩
    rw [HKC.out]
    obtain ⟨x0, x1, x2, x3, x4⟩ := HX.out.cells
    have xl := HX.out.lt
    simp only at x0 x1 x2 x3 x4
    go_wp2_with fail
    refine (hlaunch H1.out _ HE.out).mono ?_
    rintro e w2 ⟨rfl, h2, hb2⟩
    have HR := Lib.hid (And.intro h2 hb2)
    clear h2 hb2
    go_wp2
    go_ret
    exact ⟨by rw [HQ.out]; rfl, (fun e => by rw [HS'.out]; exact HR.out.1 (by rw [← HQ.out]; exact e)), HR.out.2⟩
  have b13 : (k == 13) = false := by simpa using k13
  by_cases ke : endK k = true
  · replace HQ := Lib.hid (HQ.out.trans (show _ = endF s ⟨k, f, i, a, .slice va n vc, ps⟩ from by unfold fit; simp only; rw [if_neg r12, if_neg k5, if_neg k6, if_neg kc, if_neg k13, if_pos ke]))
    replace HS' := Lib.hid (HS'.out.trans (show _ = endN s ⟨k, f, i, a, .slice va n vc, ps⟩ from by unfold nxt; simp only; rw [if_neg r12, if_neg k5, if_neg k6, if_neg kc, if_neg k13, if_pos ke]))
    have hk14 : 14 ≤ k ∧ k ≤ 17 := of_decide_eq_true ke
    have d3 : decide (3 ≤ k) = true := decide_eq_true (by omega)
    have d5 : decide (k ≤ 5) = false := decide_eq_false (by omega)
    have HKE := Lib.hid ke
    clear r12 k5 kc hk14 ke
    go_enter Try.func100, Try.ntmps100
    go_wp2_with fail
    generalize w.alloc (.cells #[.int .i64 k, .int .i64 f, .int .i64 i, .int .i64 a, .slice va n vc] 103) = w1 at *
    obtain ⟨b, hb⟩ : ∃ b, b = w.heap.size := ⟨_, rfl⟩
    rw [← hb] at HX ⊢
    clear hb
    refine (closes_any k _).mono ?_
    rintro e w0 ⟨rfl, rfl⟩
    rw [HKC.out]
    obtain ⟨x0, x1, x2, x3, x4⟩ := HX.out.cells
    have xl := HX.out.lt
    simp only at x0 x1 x2 x3 x4
    go_wp2_with fail
    refine (ends_any k _).mono ?_
    rintro e w0 ⟨rfl, rfl⟩
    rw [HKE.out]
    go_wp2_with fail
    refine (hend H1.out _ HE.out).mono ?_
    rintro e w2 ⟨rfl, h2, hb2⟩
    have HR := Lib.hid (And.intro h2 hb2)
    clear h2 hb2
    go_wp2
    go_ret
    exact ⟨by rw [HQ.out]; rfl, (fun e => by rw [HS'.out]; exact HR.out.1 (by rw [← HQ.out]; exact e)), HR.out.2⟩
  have HKE := Lib.hid (show endK k = false by simpa using ke)
  have d3 : decide (3 ≤ k ∧ k ≤ 5) = false := decide_eq_false k5
  by_cases k18 : k = 18 ∨ k = 19
  · replace HQ := Lib.hid (HQ.out.trans (show _ = prs s ⟨k, f, i, a, .slice va n vc, ps⟩ from by unfold fit; simp only; rw [if_neg r12, if_neg k5, if_neg k6, if_neg kc, if_neg k13, if_neg ke, if_pos k18]))
    replace HS' := Lib.hid (HS'.out.trans (show _ = s from by unfold nxt; simp only; rw [if_neg r12, if_neg k5, if_neg k6, if_neg kc, if_neg k13, if_neg ke]))
    have d3 : decide (3 ≤ k) = true := decide_eq_true (by omega)
    have d5 : decide (k ≤ 5) = false := decide_eq_false (by omega)
    have K18 := Lib.hid k18
    clear r12 k5 kc ke k18
    go_enter Try.func100, Try.ntmps100
    go_wp2_with fail
    generalize w.alloc (.cells #[.int .i64 k, .int .i64 f, .int .i64 i, .int .i64 a, .slice va n vc] 103) = w1 at *
    obtain ⟨b, hb⟩ : ∃ b, b = w.heap.size := ⟨_, rfl⟩
    rw [← hb] at HX ⊢
    clear hb
    refine (closes_any k _).mono ?_
    rintro e w0 ⟨rfl, rfl⟩
    rw [HKC.out]
    obtain ⟨x0, x1, x2, x3, x4⟩ := HX.out.cells
    have xl := HX.out.lt
    simp only at x0 x1 x2 x3 x4
    go_wp2_with fail
    refine (ends_any k _).mono ?_
    rintro e w0 ⟨rfl, rfl⟩
    rw [HKE.out]
    have hP := hpresent H1.out _ HE.out
    rw [← HQ.out] at hP
    have HP := Lib.hid hP
    clear hP
    have kk : (k == 18) = true ∨ ((k == 18) = false ∧ ¬ k = 18 ∧ (k == 19) = true) := by
      rcases K18.out with h | h
      · left; simpa using h
      · right; subst h; decide
    rcases kk with kk | ⟨kk, kk2, kk3⟩
    · go_wp2_with fail
      refine HP.out.mono ?_
      rintro e w2 ⟨rfl, hb2⟩
      have HR := Lib.hid (H1.out.below hb2)
      clear hb2
      go_wp2
      go_ret
      exact ⟨rfl, fun _ => by rw [HS'.out]; exact HR.out, HR.out.bel⟩
    · go_wp2_with fail
      refine HP.out.mono ?_
      rintro e w2 ⟨rfl, hb2⟩
      have HR := Lib.hid (H1.out.below hb2)
      clear hb2
      go_wp2
      go_ret
      exact ⟨rfl, fun _ => by rw [HS'.out]; exact HR.out, HR.out.bel⟩
  · replace HQ := Lib.hid (HQ.out.trans (show _ = false from by unfold fit; simp only; rw [if_neg r12, if_neg k5, if_neg k6, if_neg kc, if_neg k13, if_neg ke, if_neg k18]))
    have b18 : (k == 18) = false := by simp; omega
    have b19 : (k == 19) = false := by simp; omega
    have n18 : ¬ k = 18 := by omega
    have n19 : ¬ k = 19 := by omega
    clear r12 kc ke k18 d3
    by_cases k3 : 3 ≤ k
    · have d3 : decide (3 ≤ k) = true := decide_eq_true k3
      have d5 : decide (k ≤ 5) = false := decide_eq_false (by omega)
      clear k5
      go_enter Try.func100, Try.ntmps100
      go_wp2_with fail
      generalize w.alloc (.cells #[.int .i64 k, .int .i64 f, .int .i64 i, .int .i64 a, .slice va n vc] 103) = w1 at *
      obtain ⟨b, hb⟩ : ∃ b, b = w.heap.size := ⟨_, rfl⟩
      rw [← hb] at HX ⊢
      clear hb
      refine (closes_any k _).mono ?_
      rintro e w0 ⟨rfl, rfl⟩
      rw [HKC.out]
      obtain ⟨x0, x1, x2, x3, x4⟩ := HX.out.cells
      have xl := HX.out.lt
      simp only at x0 x1 x2 x3 x4
      go_wp2_with fail
      refine (ends_any k _).mono ?_
      rintro e w0 ⟨rfl, rfl⟩
      rw [HKE.out]
      go_wp2
      go_ret
      exact RT.no HQ.out H1.out.bel
    · have d3 : decide (3 ≤ k) = false := decide_eq_false k3
      clear k5
      go_enter Try.func100, Try.ntmps100
      go_wp2_with fail
      generalize w.alloc (.cells #[.int .i64 k, .int .i64 f, .int .i64 i, .int .i64 a, .slice va n vc] 103) = w1 at *
      obtain ⟨b, hb⟩ : ∃ b, b = w.heap.size := ⟨_, rfl⟩
      rw [← hb] at HX ⊢
      clear hb
      refine (closes_any k _).mono ?_
      rintro e w0 ⟨rfl, rfl⟩
      rw [HKC.out]
      obtain ⟨x0, x1, x2, x3, x4⟩ := HX.out.cells
      have xl := HX.out.lt
      simp only at x0 x1 x2 x3 x4
      go_wp2_with fail
      refine (ends_any k _).mono ?_
      rintro e w0 ⟨rfl, rfl⟩
      rw [HKE.out]
      go_wp2
      go_ret
      exact RT.no HQ.out H1.out.bel
end
end Go.Proofs.Ytennhfkhdfalfaa

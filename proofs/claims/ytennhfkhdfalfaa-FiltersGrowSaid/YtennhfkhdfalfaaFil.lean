/- filters: the walk of FiltersGrow. -/
import Derived.Test.YtennhfkhdfalfaaFik
namespace Go.Proofs.Ytennhfkhdfalfaa
open Go.RowKit Go.Maps
attribute [local go_sem] ext_cell ext_frozen extC_cell extC_frozen Mix.calmUpon Mix.mUpon
theorem FlIn.on {W w : World} {x : Fl} (h : FlIn W x) (hb : Below W.heap.size W w) : FlIn w x := ⟨h.i1, h.i2, h.i3, h.vc.on hb, h.vi, h.vl⟩
theorem dof_len {cap : Int} {S : List Pf} (a : Fa) : (dofP cap S a).length ≤ S.length + 1 := by
  unfold dofP putP
  split
  · split
    · split
      · omega
      · split
        · omega
        · rw [List.length_append]; exact Nat.le_refl _
    · omega
  · exact Nat.le_trans (List.length_filter_le _ _) (Nat.le_succ _)
-- e == OK: what the filter itself blocks, and what it holds; at the world wy
-- what v blocked is blocked still
set_option maxRecDepth 100000 in
set_option maxHeartbeats 8000000 in
theorem grow26 (v : Value) (l : List Fa) (f : Fl) (u : Value) (us : List Pt) (W : World) (hr : RS 6 faenc W v l) (ha : ∀ x ∈ l, FlIn W x.f) (hf : FlIn W f) (hu : Vc W u us) :
    Calls Try.prog 7 #[v, flval f, u] W fun e w' => e = .returned (.bool true) ∧ Below W.heap.size W w' := by
  obtain ⟨i, g, t, fv, ps⟩ := f
  obtain ⟨fa, fc, hfv, -, -⟩ := hf.vc.form
  simp only at hfv
  subst hfv
  obtain ⟨ua, uc, rfl, -, -⟩ := hu.form
  obtain ⟨m, hm⟩ : ∃ m, m = ps.length := ⟨_, rfl⟩
  obtain ⟨un, hun⟩ : ∃ un, un = us.length := ⟨_, rfl⟩
  rw [← hm] at hf ⊢
  rw [← hun] at hu ⊢
  have HM := Lib.hid hm; have HUN := Lib.hid hun
  clear hm hun
  have hb0 := ba (Below.refl W.heap.size W) (.cells #[.int .i64 i, .int .i64 g, .int .i64 t, .slice fa m fc] 72)
  have HF0 := Lib.hid (FB.made W i g t (.slice fa m fc))
  have HB0 := Lib.hid hb0
  have HA := Lib.hid (show ∀ x ∈ l, FlIn _ x.f from fun x hx => (ha x hx).on hb0)
  have HR := Lib.hid (hr.below hb0)
  have HU := Lib.hid (hu.on hb0)
  have HFI := Lib.hid (hf.on hb0)
  have HFW := Lib.hid (few26 v l _ HR.out HA.out)
  obtain ⟨a, n, c, rfl, hn, -, -, -⟩ := hr.at_
  have HN := Lib.hid hn
  obtain ⟨x0, x1, x2, x3⟩ := HF0.out.cells
  have x4 := HF0.out.lt
  clear hb0 ha hr hu hf hn
  by_cases hfew : l.length ≤ 100 ∧ (l.map faW).sum ≤ 400
  · have HFT := Lib.hid (show decide (l.length ≤ 100 ∧ (l.map faW).sum ≤ 400) = true from decide_eq_true hfew)
    have HLE := Lib.hid (few_each hfew.2)
    have hn100 : n ≤ 100 := by rw [HN.out]; exact hfew.1
    clear hfew
    by_cases k1 : 150 < un
    · have k1i : (150 : Int) < (un : Int) := by omega
      go_enter Try.func7, Try.ntmps7
      go_wp2_with fail
      refine HFW.out.mono ?_
      rintro e w1 ⟨rfl, hb1⟩
      rw [HFT.out]
      have HB1 := Lib.hid (bt HB0.out hb1)
      obtain ⟨y0, y1, y2, y3⟩ := (HF0.out.below hb1).cells
      have y4 := (HF0.out.below hb1).lt
      clear hb1
      go_wp2
      go_ret
      exact ⟨rfl, HB1.out⟩
    have k1i : ¬ (150 : Int) < (un : Int) := by omega
    by_cases k2 : 150 < m
    · have k2i : (150 : Int) < (m : Int) := by omega
      go_enter Try.func7, Try.ntmps7
      go_wp2_with fail
      refine HFW.out.mono ?_
      rintro e w1 ⟨rfl, hb1⟩
      rw [HFT.out]
      have HB1 := Lib.hid (bt HB0.out hb1)
      obtain ⟨y0, y1, y2, y3⟩ := (HF0.out.below hb1).cells
      have y4 := (HF0.out.below hb1).lt
      clear hb1
      go_wp2
      go_ret
      exact ⟨rfl, HB1.out⟩
    have k2i : ¬ (150 : Int) < (m : Int) := by omega
    go_enter Try.func7, Try.ntmps7
    go_wp2_with fail
    refine HFW.out.mono ?_
    rintro e w1 ⟨rfl, hb1⟩
    rw [HFT.out]
    have HB1 := Lib.hid (bt HB0.out hb1)
    have HFB := Lib.hid (HF0.out.below hb1)
    have HAT : Hid (∀ i x, l[i]? = some x → ∃ b off, a = some ⟨b, off, none⟩ ∧ b < w1.heap.size ∧ ∀ j u, (faenc x)[j]? = some u → w1.cell? ⟨b, off + i * 6 + j, none⟩ = some u) := Lib.hid (by
      obtain ⟨a', n', c', he, _, _, _, h⟩ := (HR.out.below hb1).at_
      cases he; exact h)
    have HA1 := Lib.hid (show ∀ x ∈ l, FlIn w1 x.f from fun x hx => (HA.out x hx).on hb1)
    have HU1 := Lib.hid (HU.out.on hb1)
    have HFI1 := Lib.hid (HFI.out.on hb1)
    obtain ⟨y0, y1, y2, y3⟩ := HFB.out.cells
    have y4 := HFB.out.lt
    clear hb1 x0 x1 x2 x3 x4 HR HA HU HFI HFW HF0
    obtain ⟨fb, hfb⟩ : ∃ b, b = W.heap.size := ⟨_, rfl⟩
    rw [← hfb] at HFB y0 y1 y2 y3 y4 ⊢
    clear hfb
    go_wp2_with fail
    clear y0 y1 y2 y3 y4
    refine (fnew w1 w1 (Below.refl _ _) (cap := 1000) (by decide)).mono ?_
    rintro e w2 ⟨rfl, h2, -⟩
    obtain ⟨tp, htp⟩ : ∃ tp, tp = w1.heap.size + 1 := ⟨_, rfl⟩
    obtain ⟨M, hM⟩ : ∃ M, M = w1.heap.size := ⟨_, rfl⟩
    have h2 : FT w1 w2 tp M 1000 (fun _ => none) [] := by rw [htp, hM]; exact h2
    rw [← htp]
    have HI := Lib.hid (show FP w1 w2 tp M 1000 [] ∧ ([] : List Pf).length ≤ 0 from ⟨⟨_, h2⟩, Nat.le_refl _⟩)
    clear h2 htp hM k1 k2
    go_wp2
    go_loopw [8] (fun iv wr => ∃ (k : Nat) (S : List Pf), k ≤ n ∧ iv = .int .i64 k ∧ Hid (FP w1 wr tp M 1000 S ∧ S.length ≤ k)) (fun iv _ => n - (intOf iv).toNat)
    case atStart => exact ⟨0, [], Nat.zero_le _, rfl, HI⟩
    case round =>
      clear HI
      obtain ⟨k, S, hk, rfl, HQ⟩ := hrel
      obtain ⟨w4, rfl⟩ : ∃ w4, w4 = wr := ⟨_, rfl⟩
      obtain ⟨F, hF⟩ := HQ.out.1
      have H4 := Lib.hid hF
      have HSL := Lib.hid (show S.length < 900000 by have := HQ.out.2; omega)
      clear hF
      by_cases hlt : k < n
      · have hts : (k : Int) < (n : Int) := by omega
        obtain ⟨x, hx⟩ := at_lt (l := l) (i := k) (by rw [← HN.out]; exact hlt)
        obtain ⟨bs, off, rfl, hbs, hcell⟩ := HAT.out k x hx
        have hxi := HA1.out x (mem_at hx)
        have hxl := HLE.out x (mem_at hx)
        have hbw := H4.out.bel
        have c0 := (hbw.cell (p := ⟨bs, _, none⟩) hbs).trans (hcell 0 _ rfl)
        have c1 := (hbw.cell (p := ⟨bs, _, none⟩) hbs).trans (hcell 1 _ rfl)
        have c2 := (hbw.cell (p := ⟨bs, _, none⟩) hbs).trans (hcell 2 _ rfl)
        have c3 := (hbw.cell (p := ⟨bs, _, none⟩) hbs).trans (hcell 3 _ rfl)
        have c4 := (hbw.cell (p := ⟨bs, _, none⟩) hbs).trans (hcell 4 _ rfl)
        have c5 := (hbw.cell (p := ⟨bs, _, none⟩) hbs).trans (hcell 5 _ rfl)
        simp only [Nat.add_zero] at c0
        have hbs4 : bs < w4.heap.size := Nat.lt_of_lt_of_le hbs hbw.size
        have HDO := Lib.hid (fdo H4.out x (hxi.vc.on hbw) hxl HSL.out ⟨hxi.i1, hxi.i2, hxi.i3⟩)
        have HDL := Lib.hid (dof_len (cap := 1000) (S := S) x)
        obtain ⟨xk, xn, ⟨xi, xg, xt, xv, xs⟩⟩ := x
        obtain ⟨va, vc, hvv, -, -⟩ := hxi.vc.form
        simp only at hvv c0 c1 c2 c3 c4 c5 HDO
        subst hvv
        clear hcell hxi hxl hbw hx hbs
        go_wp2_with fail
        refine HDO.out.mono ?_
        rintro e w5 ⟨rfl, h5, hc5⟩
        have H5 := Lib.hid h5
        clear h5 hc5 c0 c1 c2 c3 c4 c5 hbs4
        go_wp2
        go_roundw
        case rel => exact ⟨k + 1, _, by omega, by go_num, Lib.hid ⟨H5.out, by have := HDL.out; have := HQ.out.2; omega⟩⟩
        case measure => simp [intOf]; omega
      · obtain rfl : n = k := by omega
        clear hlt hk
        have HFB4 := Lib.hid (HFB.out.below H4.out.bel)
        obtain ⟨y0, y1, y2, y3⟩ := HFB4.out.cells
        have y4 := HFB4.out.lt
        go_wp2_with fail
        clear y0 y1 y2 y3 y4
        refine (fblocks H4.out HFI1.out.i1 HFI1.out.i2 (HU1.out.on H4.out.bel) (by have := HUN.out; omega)).mono ?_
        rintro e w5 ⟨rfl, hb5⟩
        obtain ⟨B, hB⟩ : ∃ B, B = blk S i g us := ⟨_, rfl⟩
        rw [← hB]
        have HB := Lib.hid hB
        have H5 := Lib.hid (H4.out.below hb5)
        have HFB5 := Lib.hid (HFB4.out.below hb5)
        clear hB hb5 HFB4
        obtain ⟨y0, y1, y2, y3⟩ := HFB5.out.cells
        have y4 := HFB5.out.lt
        go_wp2_with fail
        clear y0 y1 y2 y3 y4
        refine (vleast_w (.slice ua un uc) (.slice fa m fc) us ps (by have := HUN.out; omega) (by have := HM.out; omega) w5 (HU1.out.on H5.out.bel) (HFI1.out.vc.on H5.out.bel)).mono ?_
        rintro e w6 ⟨v6, rfl, hv6, hb6⟩
        obtain ⟨ls, hls⟩ : ∃ ls, ls = (mrg gMin us ps).getD [] := ⟨_, rfl⟩
        rw [← hls] at hv6
        obtain ⟨la, lc, hlv, -, -⟩ := hv6.vc.form
        subst hlv
        have HLS := Lib.hid hls
        have HLL := Lib.hid (show ls.length < 1000000000 from by
          have hv : VR ls := by
            rw [hls]
            cases hm : mrg gMin us ps with
            | none => exact VR.nil
            | some x => exact (mrg_some gMin0 gMinB hm).2.2.1
          exact Nat.lt_of_le_of_lt (vr_len hv) (by decide))
        have HL6 := Lib.hid hv6
        have H6 := Lib.hid (H5.out.below hb6)
        have HFB6 := Lib.hid (HFB5.out.below hb6)
        clear hls hv6 hb6 HFB5
        cases B with
        | false =>
          obtain ⟨y0, y1, y2, y3⟩ := HFB6.out.cells
          have y4 := HFB6.out.lt
          go_wp2_with fail
          clear y0 y1 y2 y3 y4
          refine (fput H6.out ⟨i, g, t, .slice fa m fc, ps⟩ (HFI1.out.vc.on H6.out.bel) (by have := HM.out; show ps.length < 1000000; omega) HSL.out ⟨HFI1.out.i1, HFI1.out.i2, HFI1.out.i3⟩).mono ?_
          rintro e wy ⟨rfl, ⟨F2, h2⟩, hc2⟩
          have HY := Lib.hid (show FT w1 wy tp M 1000 F2 (putP 1000 S (i, g, t, ps)) from h2)
          have HLY := Lib.hid (ownsRow_chg HL6.out hc2 fun q hq => FrG.parts HL6.out hq)
          have HFY := Lib.hid (HFB.out.below HY.out.bel)
          clear h2 hc2
          by_cases he : putE 1000 S (i, g, t, ps) = 0
          · have HE := Lib.hid he
            have heb : (putE 1000 S (i, g, t, ps) == 0) = true := by simpa using he
            have hown := blk_own HE.out
            have hown : blk (putP 1000 S (i, g, t, ps)) i g ps = true := hown
            have HPA := Lib.hid (put_in HE.out)
            obtain ⟨y0, y1, y2, y3⟩ := HFY.out.cells
            have y4 := HFY.out.lt
            go_wp2_with fail
            clear y0 y1 y2 y3 y4
            refine (fblocks HY.out HFI1.out.i1 HFI1.out.i2 (HFI1.out.vc.on HY.out.bel) (by have := HM.out; show ps.length < 1000000000; omega)).mono ?_
            rintro e wo ⟨rfl, hbo⟩
            rw [hown]
            have HO := Lib.hid (HY.out.below hbo)
            have HLO := Lib.hid (rowP_grow HLY.out hbo)
            have HFO := Lib.hid (HFY.out.below hbo)
            clear hbo hown
            go_wp2_with fail
            refine (vecright_all (.slice ua un uc) us wo (HU1.out.on HO.out.bel)).mono ?_
            rintro e wr ⟨rfl, hbr⟩
            have HRT := Lib.hid (HO.out.below hbr)
            have HLR := Lib.hid (rowP_grow HLO.out hbr)
            have HFR := Lib.hid (HFO.out.below hbr)
            clear hbr
            by_cases hvr : VR us
            · rw [decide_eq_true hvr]
              have hbl : blk (putP 1000 S (i, g, t, ps)) i g ls = true := by
                rw [HLS.out]
                exact blk_iff.2 ⟨_, HPA.out.2, rfl, held_less2 HPA.out.1.2.2.2.2 fun k r => (gt_nn HPA.out.1.2.2.2.2 k r).1⟩
              obtain ⟨y0, y1, y2, y3⟩ := HFR.out.cells
              have y4 := HFR.out.lt
              go_wp2_with fail
              clear y0 y1 y2 y3 y4
              refine (fblocks HRT.out HFI1.out.i1 HFI1.out.i2 (OwnP.vc HLR.out) HLL.out).mono ?_
              rintro e wb ⟨rfl, hbb⟩
              rw [hbl]
              have HBB := Lib.hid (HRT.out.below hbb)
              clear hbb hbl hvr
              go_wp2_with fail
              refine (works26 wb).mono ?_
              rintro e wf ⟨rfl, hbf⟩
              have HBF := Lib.hid hbf
              clear hbf
              go_wp2
              go_ret
              exact ⟨rfl, HB1.out.trans ((HBB.out.bel.trans (HBF.out.mono HBB.out.bel.size)).mono HB1.out.size)⟩
            · rw [decide_eq_false hvr]
              clear hvr
              go_wp2_with fail
              refine (works26 wr).mono ?_
              rintro e wf ⟨rfl, hbf⟩
              have HBF := Lib.hid hbf
              clear hbf
              go_wp2
              go_ret
              exact ⟨rfl, HB1.out.trans ((HRT.out.bel.trans (HBF.out.mono HRT.out.bel.size)).mono HB1.out.size)⟩
          · have heb : (putE 1000 S (i, g, t, ps) == 0) = false := by simpa using he
            generalize putE 1000 S (i, g, t, ps) = pe at *
            clear he
            go_wp2_with fail
            refine (works26 wy).mono ?_
            rintro e wf ⟨rfl, hbf⟩
            have HBF := Lib.hid hbf
            clear hbf
            go_wp2
            go_ret
            exact ⟨rfl, HB1.out.trans ((HY.out.bel.trans (HBF.out.mono HY.out.bel.size)).mono HB1.out.size)⟩
        | true =>
          have HBT := Lib.hid (show blk S i g us = true from HB.out.symm)
          go_wp2_with fail
          refine (vecright_all (.slice ua un uc) us w6 (HU1.out.on H6.out.bel)).mono ?_
          rintro e w7 ⟨rfl, hb7⟩
          have H7 := Lib.hid (H6.out.below hb7)
          have HL7 := Lib.hid (rowP_grow HL6.out hb7)
          have HFB7 := Lib.hid (HFB6.out.below hb7)
          clear hb7
          by_cases hvr : VR us
          · rw [decide_eq_true hvr]
            have hbl : blk S i g ls = true := by
              obtain ⟨h0, hh0, hk0, hd0⟩ := blk_iff.1 HBT.out
              rw [HLS.out]
              exact blk_iff.2 ⟨h0, hh0, hk0, held_less hd0 fun k r => (gt_nn hd0.1 k r).1⟩
            obtain ⟨y0, y1, y2, y3⟩ := HFB7.out.cells
            have y4 := HFB7.out.lt
            go_wp2_with fail
            clear y0 y1 y2 y3 y4
            refine (fblocks H7.out HFI1.out.i1 HFI1.out.i2 (OwnP.vc HL7.out) HLL.out).mono ?_
            rintro e w8 ⟨rfl, hb8⟩
            rw [hbl]
            have H8 := Lib.hid (H7.out.below hb8)
            have HL8 := Lib.hid (rowP_grow HL7.out hb8)
            have HFB8 := Lib.hid (HFB7.out.below hb8)
            clear hb8 hbl hvr
            obtain ⟨y0, y1, y2, y3⟩ := HFB8.out.cells
            have y4 := HFB8.out.lt
            go_wp2_with fail
            clear y0 y1 y2 y3 y4
            refine (fput H8.out ⟨i, g, t, .slice fa m fc, ps⟩ (HFI1.out.vc.on H8.out.bel) (by have := HM.out; show ps.length < 1000000; omega) HSL.out ⟨HFI1.out.i1, HFI1.out.i2, HFI1.out.i3⟩).mono ?_
            rintro e wy ⟨rfl, ⟨F2, h2⟩, hc2⟩
            have HY := Lib.hid (show FT w1 wy tp M 1000 F2 (putP 1000 S (i, g, t, ps)) from h2)
            have HLY := Lib.hid (ownsRow_chg HL8.out hc2 fun q hq => FrG.parts HL8.out hq)
            have HFY := Lib.hid (HFB.out.below HY.out.bel)
            clear h2 hc2
            have hbv : blk (putP 1000 S (i, g, t, ps)) i g us = true := blk_put HBT.out
            obtain ⟨y0, y1, y2, y3⟩ := HFY.out.cells
            have y4 := HFY.out.lt
            go_wp2_with fail
            clear y0 y1 y2 y3 y4
            refine (fblocks HY.out HFI1.out.i1 HFI1.out.i2 (HU1.out.on HY.out.bel) (by have := HUN.out; omega)).mono ?_
            rintro e wq ⟨rfl, hbq⟩
            rw [hbv]
            have HLY := Lib.hid (rowP_grow HLY.out hbq)
            have HFY := Lib.hid (HFY.out.below hbq)
            have HY := Lib.hid (HY.out.below hbq)
            clear hbq hbv
            by_cases he : putE 1000 S (i, g, t, ps) = 0
            · have HE := Lib.hid he
              have heb : (putE 1000 S (i, g, t, ps) == 0) = true := by simpa using he
              have hown := blk_own HE.out
              have hown : blk (putP 1000 S (i, g, t, ps)) i g ps = true := hown
              have HPA := Lib.hid (put_in HE.out)
              obtain ⟨y0, y1, y2, y3⟩ := HFY.out.cells
              have y4 := HFY.out.lt
              go_wp2_with fail
              clear y0 y1 y2 y3 y4
              refine (fblocks HY.out HFI1.out.i1 HFI1.out.i2 (HFI1.out.vc.on HY.out.bel) (by have := HM.out; show ps.length < 1000000000; omega)).mono ?_
              rintro e wo ⟨rfl, hbo⟩
              rw [hown]
              have HO := Lib.hid (HY.out.below hbo)
              have HLO := Lib.hid (rowP_grow HLY.out hbo)
              have HFO := Lib.hid (HFY.out.below hbo)
              clear hbo hown
              go_wp2_with fail
              refine (vecright_all (.slice ua un uc) us wo (HU1.out.on HO.out.bel)).mono ?_
              rintro e wr ⟨rfl, hbr⟩
              have HRT := Lib.hid (HO.out.below hbr)
              have HLR := Lib.hid (rowP_grow HLO.out hbr)
              have HFR := Lib.hid (HFO.out.below hbr)
              clear hbr
              by_cases hvr : VR us
              · rw [decide_eq_true hvr]
                have hbl : blk (putP 1000 S (i, g, t, ps)) i g ls = true := by
                  rw [HLS.out]
                  exact blk_iff.2 ⟨_, HPA.out.2, rfl, held_less2 HPA.out.1.2.2.2.2 fun k r => (gt_nn HPA.out.1.2.2.2.2 k r).1⟩
                obtain ⟨y0, y1, y2, y3⟩ := HFR.out.cells
                have y4 := HFR.out.lt
                go_wp2_with fail
                clear y0 y1 y2 y3 y4
                refine (fblocks HRT.out HFI1.out.i1 HFI1.out.i2 (OwnP.vc HLR.out) HLL.out).mono ?_
                rintro e wb ⟨rfl, hbb⟩
                rw [hbl]
                have HBB := Lib.hid (HRT.out.below hbb)
                clear hbb hbl hvr
                go_wp2_with fail
                refine (works26 wb).mono ?_
                rintro e wf ⟨rfl, hbf⟩
                have HBF := Lib.hid hbf
                clear hbf
                go_wp2
                go_ret
                exact ⟨rfl, HB1.out.trans ((HBB.out.bel.trans (HBF.out.mono HBB.out.bel.size)).mono HB1.out.size)⟩
              · rw [decide_eq_false hvr]
                clear hvr
                go_wp2_with fail
                refine (works26 wr).mono ?_
                rintro e wf ⟨rfl, hbf⟩
                have HBF := Lib.hid hbf
                clear hbf
                go_wp2
                go_ret
                exact ⟨rfl, HB1.out.trans ((HRT.out.bel.trans (HBF.out.mono HRT.out.bel.size)).mono HB1.out.size)⟩
            · have heb : (putE 1000 S (i, g, t, ps) == 0) = false := by simpa using he
              generalize putE 1000 S (i, g, t, ps) = pe at *
              clear he
              go_wp2_with fail
              refine (works26 wq).mono ?_
              rintro e wf ⟨rfl, hbf⟩
              have HBF := Lib.hid hbf
              clear hbf
              go_wp2
              go_ret
              exact ⟨rfl, HB1.out.trans ((HY.out.bel.trans (HBF.out.mono HY.out.bel.size)).mono HB1.out.size)⟩
          · rw [decide_eq_false hvr]
            clear hvr
            obtain ⟨y0, y1, y2, y3⟩ := HFB7.out.cells
            have y4 := HFB7.out.lt
            go_wp2_with fail
            clear y0 y1 y2 y3 y4
            refine (fput H7.out ⟨i, g, t, .slice fa m fc, ps⟩ (HFI1.out.vc.on H7.out.bel) (by have := HM.out; show ps.length < 1000000; omega) HSL.out ⟨HFI1.out.i1, HFI1.out.i2, HFI1.out.i3⟩).mono ?_
            rintro e wy ⟨rfl, ⟨F2, h2⟩, hc2⟩
            have HY := Lib.hid (show FT w1 wy tp M 1000 F2 (putP 1000 S (i, g, t, ps)) from h2)
            have HLY := Lib.hid (ownsRow_chg HL7.out hc2 fun q hq => FrG.parts HL7.out hq)
            have HFY := Lib.hid (HFB.out.below HY.out.bel)
            clear h2 hc2
            have hbv : blk (putP 1000 S (i, g, t, ps)) i g us = true := blk_put HBT.out
            obtain ⟨y0, y1, y2, y3⟩ := HFY.out.cells
            have y4 := HFY.out.lt
            go_wp2_with fail
            clear y0 y1 y2 y3 y4
            refine (fblocks HY.out HFI1.out.i1 HFI1.out.i2 (HU1.out.on HY.out.bel) (by have := HUN.out; omega)).mono ?_
            rintro e wq ⟨rfl, hbq⟩
            rw [hbv]
            have HLY := Lib.hid (rowP_grow HLY.out hbq)
            have HFY := Lib.hid (HFY.out.below hbq)
            have HY := Lib.hid (HY.out.below hbq)
            clear hbq hbv
            by_cases he : putE 1000 S (i, g, t, ps) = 0
            · have HE := Lib.hid he
              have heb : (putE 1000 S (i, g, t, ps) == 0) = true := by simpa using he
              have hown := blk_own HE.out
              have hown : blk (putP 1000 S (i, g, t, ps)) i g ps = true := hown
              have HPA := Lib.hid (put_in HE.out)
              obtain ⟨y0, y1, y2, y3⟩ := HFY.out.cells
              have y4 := HFY.out.lt
              go_wp2_with fail
              clear y0 y1 y2 y3 y4
              refine (fblocks HY.out HFI1.out.i1 HFI1.out.i2 (HFI1.out.vc.on HY.out.bel) (by have := HM.out; show ps.length < 1000000000; omega)).mono ?_
              rintro e wo ⟨rfl, hbo⟩
              rw [hown]
              have HO := Lib.hid (HY.out.below hbo)
              have HLO := Lib.hid (rowP_grow HLY.out hbo)
              have HFO := Lib.hid (HFY.out.below hbo)
              clear hbo hown
              go_wp2_with fail
              refine (vecright_all (.slice ua un uc) us wo (HU1.out.on HO.out.bel)).mono ?_
              rintro e wr ⟨rfl, hbr⟩
              have HRT := Lib.hid (HO.out.below hbr)
              have HLR := Lib.hid (rowP_grow HLO.out hbr)
              have HFR := Lib.hid (HFO.out.below hbr)
              clear hbr
              by_cases hvr : VR us
              · rw [decide_eq_true hvr]
                have hbl : blk (putP 1000 S (i, g, t, ps)) i g ls = true := by
                  rw [HLS.out]
                  exact blk_iff.2 ⟨_, HPA.out.2, rfl, held_less2 HPA.out.1.2.2.2.2 fun k r => (gt_nn HPA.out.1.2.2.2.2 k r).1⟩
                obtain ⟨y0, y1, y2, y3⟩ := HFR.out.cells
                have y4 := HFR.out.lt
                go_wp2_with fail
                clear y0 y1 y2 y3 y4
                refine (fblocks HRT.out HFI1.out.i1 HFI1.out.i2 (OwnP.vc HLR.out) HLL.out).mono ?_
                rintro e wb ⟨rfl, hbb⟩
                rw [hbl]
                have HBB := Lib.hid (HRT.out.below hbb)
                clear hbb hbl hvr
                go_wp2_with fail
                refine (works26 wb).mono ?_
                rintro e wf ⟨rfl, hbf⟩
                have HBF := Lib.hid hbf
                clear hbf
                go_wp2
                go_ret
                exact ⟨rfl, HB1.out.trans ((HBB.out.bel.trans (HBF.out.mono HBB.out.bel.size)).mono HB1.out.size)⟩
              · rw [decide_eq_false hvr]
                clear hvr
                go_wp2_with fail
                refine (works26 wr).mono ?_
                rintro e wf ⟨rfl, hbf⟩
                have HBF := Lib.hid hbf
                clear hbf
                go_wp2
                go_ret
                exact ⟨rfl, HB1.out.trans ((HRT.out.bel.trans (HBF.out.mono HRT.out.bel.size)).mono HB1.out.size)⟩
            · have heb : (putE 1000 S (i, g, t, ps) == 0) = false := by simpa using he
              generalize putE 1000 S (i, g, t, ps) = pe at *
              clear he
              go_wp2_with fail
              refine (works26 wq).mono ?_
              rintro e wf ⟨rfl, hbf⟩
              have HBF := Lib.hid hbf
              clear hbf
              go_wp2
              go_ret
              exact ⟨rfl, HB1.out.trans ((HY.out.bel.trans (HBF.out.mono HY.out.bel.size)).mono HB1.out.size)⟩
  · have HFT := Lib.hid (show decide (l.length ≤ 100 ∧ (l.map faW).sum ≤ 400) = false from decide_eq_false hfew)
    clear hfew
    go_enter Try.func7, Try.ntmps7
    go_wp2_with fail
    refine HFW.out.mono ?_
    rintro e w1 ⟨rfl, hb1⟩
    rw [HFT.out]
    have HB1 := Lib.hid (bt HB0.out hb1)
    obtain ⟨y0, y1, y2, y3⟩ := (HF0.out.below hb1).cells
    have y4 := (HF0.out.below hb1).lt
    clear hb1
    go_wp2
    go_ret
    exact ⟨rfl, HB1.out⟩
end Go.Proofs.Ytennhfkhdfalfaa

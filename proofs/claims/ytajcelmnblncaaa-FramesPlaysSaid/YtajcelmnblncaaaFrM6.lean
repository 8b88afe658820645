/- The document's frameworks by a list: subscribe, where the arguments may be. -/
import Derived.Test.YtajcelmnblncaaaFrM5
namespace Go.Proofs.Ytajcelmnblncaaa
open Go.RowKit Go.Maps
attribute [local go_sem] ext_cell ext_frozen extC_cell extC_frozen Mix.calmUpon Mix.mUpon eqFr
section
variable {w : World} {v : Value} {S : List Fr} {cap : Int}
theorem pl_none' {S : List Fr} {k : Int} (h : fndF S k = none) : Srt.pl Fr.id S k = -1 := Srt.pl_none (Srt.fnd_none.1 h)
set_option maxRecDepth 100000 in
set_option maxHeartbeats 4000000 in
theorem msub_old (h : FV w v S) (hS : SF S) (hok : ∀ f ∈ S, FOk f) (hW : ∀ y ∈ S, wtF S y.role = y.weight) (hln : S.length < 900000) (x : FAct) (hg : ¬ subBad x) {y : Fr} (hf : fndF S x.id = some y) : Calls Try.prog 98 #[mval cap v, aval x] w (RetS w v cap (fsub cap S x)) := by
  have HV := Lib.hid h
  obtain ⟨a, n, cp, rfl, hn, hc, hm, hat⟩ := h.at_
  obtain ⟨xk, xi, xr, xw, xt⟩ := x
  have hfs : ∀ z, fsub cap S ⟨xk, xi, xr, xw, xt⟩ = z ↔ (if y.role ≠ xr then (S, false, 21) else if y.weight ≠ xw then (S, false, 22) else (putF S (fresh ⟨xk, xi, xr, xw, xt⟩ y.quiet), false, 0)) = z := fun z => by
    unfold fsub; rw [if_neg hg]; simp only; rw [hf]
  have HFS := Lib.hid hfs
  have hym := Srt.fnd_mem hf
  have hyo := hok y hym.1
  have hyw := hW y hym.1
  obtain ⟨i, hpl, hi⟩ := Srt.pl_at hf
  have HPL := Lib.hid hpl
  obtain ⟨bs, off, rfl, hbs, hcell⟩ := hat i y hi
  have HCX := Lib.hid hcell
  have hin : (i : Int) < (n : Int) := by have := (List.getElem?_eq_some_iff.1 hi).1; omega
  have hnb : n < 900000 := by omega
  have hig : decide ((0 : Int) ≤ (i : Int)) = true := by simp
  unfold subBad at hg
  simp only [not_or] at hg
  obtain ⟨g1, g2, g3, g4, g5, g6, g7⟩ := hg
  have HSS := Lib.hid (show SF S ∧ S.length < 900000 from ⟨hS, hln⟩)
  have HYP := Lib.hid (show 0 < y.weight by have := hyo.w0; omega)
  have HYW := Lib.hid hyw
  have HBS0 := Lib.hid hbs
  clear hfs hym hyo hyw hpl hi hat hcell h hn hok hW hS hbs hf
  have HI := SC.start w cap (.slice (some ⟨bs, off, none⟩) n cp) ⟨xk, xi, xr, xw, xt⟩
  obtain ⟨b, hbq⟩ : ∃ b, b = w.heap.size := ⟨_, rfl⟩
  obtain ⟨b1, hb1q⟩ : ∃ b1, b1 = b + 1 := ⟨_, rfl⟩
  obtain ⟨b2, hb2q⟩ : ∃ b2, b2 = b1 + 1 := ⟨_, rfl⟩
  have HBQ := Lib.hid hbq
  rw [← hbq, ← hb1q, ← hb2q] at HI
  replace HI := Lib.hid HI
  go_enter Try.func98, Try.ntmps98
  go_wp2_with fail
  rw [← hbq, ← hb1q, ← hb2q]
  clear hbq hb1q hb2q
  generalize ((w.alloc (.cells #[.int .i64 cap, .slice (some ⟨bs, off, none⟩) n cp] 106)).alloc (.cells #[.int .i64 xk, .int .i64 xi, .int .i64 xr, .int .i64 xw, .int .i64 xt] 110)).alloc (.cells #[.int .i64 0, .slice none 0 0] 106) = w1 at *
  have HV1 := Lib.hid (HV.out.below (by rw [← HBQ.out]; exact HI.out.bel))
  refine (mat HV1.out xi).mono ?_
  rintro e w2 ⟨rfl, hb2⟩
  rw [HPL.out]
  have HC2 := Lib.hid (HI.out.on hb2)
  have HB2 := Lib.hid hb2
  clear hb2
  obtain ⟨z0, z1⟩ := HC2.out.m2.cells
  obtain ⟨a0, a1, a2, a3, a4⟩ := HC2.out.a3.cells
  obtain ⟨s0, s1⟩ := HC2.out.m4.cells
  have s2 := HC2.out.m4.fz 0; have s3 := HC2.out.m4.fz 1
  have q0 := HC2.out.m2.lt
  have q1 : b1 < w2.heap.size := by have := HC2.out.ds; omega
  have q2 := HC2.out.m4.lt
  have HBS := Lib.hid (show bs < b by rw [HBQ.out]; exact HBS0.out)
  have e1 := (HC2.out.bel.cell (p := ⟨bs, off + i * 7 + 1, none⟩) HBS.out).trans (HCX.out 1 _ rfl)
  have qs : bs < w2.heap.size := by have := HC2.out.ds; have := HBS.out; omega
  by_cases hr : y.role = xr
  · have hrb : (y.role == xr) = true := by simpa using hr
    have hrn : (y.role != xr) = false := by simpa using hr
    have HR := Lib.hid hr
    clear hr
    go_wp2
    refine wp_region_pure (by kernel_rfl) (by kernel_rfl) ?_
    repeat (first | go_big_quiet_step ((fail)) | (quiet_step ((fail))))
    refine wpQuiet_nil ?_
    rintro w3 ⟨x3, hx3⟩
    have hb3 := ext_below _ x3
    rw [← hx3] at hb3
    clear hx3 x3
    have hs3 : w2.heap.size + 0 ≤ w3.heap.size := (by have h := hb3.size; first | omega | (simp at h; omega))
    obtain ⟨hc3, hf3, hl3⟩ := bcell hb3
    clear hl3
    have HC3 := Lib.hid (HC2.out.on hb3)
    have HB3 := Lib.hid hb3
    clear z0 z1 a0 a1 a2 a3 a4 s0 s1 s2 s3 q0 q1 q2
    clear hb3 hc3 hf3 e1 qs
    obtain ⟨z0, z1⟩ := HC3.out.m2.cells
    obtain ⟨a0, a1, a2, a3, a4⟩ := HC3.out.a3.cells
    obtain ⟨s0, s1⟩ := HC3.out.m4.cells
    have s2 := HC3.out.m4.fz 0; have s3 := HC3.out.m4.fz 1
    have q0 := HC3.out.m2.lt
    have q1 : b1 < w3.heap.size := by have := HC3.out.ds; omega
    have q2 := HC3.out.m4.lt
    go_wp2_with fail
    refine (mweight (HV1.out.below (bt HB2.out HB3.out)) xr).mono ?_
    rintro e w4 ⟨rfl, hb4⟩
    rw [show wtF S xr = y.weight by rw [← HR.out]; exact HYW.out]
    have HC4 := Lib.hid (HC3.out.on hb4)
    have HB4 := Lib.hid (bt (bt HB2.out HB3.out) hb4)
    clear hb4
    clear z0 z1 a0 a1 a2 a3 a4 s0 s1 s2 s3 q0 q1 q2
    obtain ⟨z0, z1⟩ := HC4.out.m2.cells
    obtain ⟨a0, a1, a2, a3, a4⟩ := HC4.out.a3.cells
    obtain ⟨s0, s1⟩ := HC4.out.m4.cells
    have s2 := HC4.out.m4.fz 0; have s3 := HC4.out.m4.fz 1
    have q0 := HC4.out.m2.lt
    have q1 : b1 < w4.heap.size := by have := HC4.out.ds; omega
    have q2 := HC4.out.m4.lt
    have hyp := HYP.out
    by_cases hw : y.weight = xw
    · have hwb : (y.weight == xw) = true := by simpa using hw
      have hwn : (y.weight != xw) = false := by simpa using hw
      have E1 := Lib.hid ((HFS.out _).2 ((if_neg (fun e => e HR.out)).trans (if_neg (fun e => e hw))))
      clear hw
      have e4 := (HC4.out.bel.cell (p := ⟨bs, off + i * 7 + 4, none⟩) HBS.out).trans (HCX.out 4 _ rfl)
      have qs4 : bs < w4.heap.size := by have := HC4.out.ds; have := HBS.out; omega
      go_wp2_with fail
      refine (mwith (cap := cap) (f := fresh ⟨xk, xi, xr, xw, xt⟩ (y.quiet)) (HV1.out.below (ba HB4.out _)) HSS.out.1 HSS.out.2).mono ?_
      rintro e w5 ⟨v5, rfl, hv5, ho5, hb5⟩
      have HC5 := Lib.hid ((HC4.out.on (ba (Below.refl _ _) _)).on hb5)
      have hv6 := hv5
      obtain ⟨a5, n5, cp5, rfl, h51, h52, h53, h54⟩ := hv6.at_
      have HF5 := Lib.hid (show FV w5 (.slice a5 n5 cp5) (putF S (fresh ⟨xk, xi, xr, xw, xt⟩ (y.quiet))) ∧ ∀ k, Value.ownBlock (.slice a5 n5 cp5) = some k → b2 < k ∧ k < w5.heap.size from ⟨hv5, fun k hk => by have h1 := ho5 k hk; simp at h1; have h2 := HC4.out.ds; exact ⟨by omega, by omega⟩⟩)
      clear hv5 hv6 ho5 hb5 h51 h52 h53 h54
      clear z0 z1 a0 a1 a2 a3 a4 s0 s1 s2 s3 q0 q1 q2
      obtain ⟨z0, z1⟩ := HC5.out.m2.cells
      obtain ⟨a0, a1, a2, a3, a4⟩ := HC5.out.a3.cells
      obtain ⟨s0, s1⟩ := HC5.out.m4.cells
      have s2 := HC5.out.m4.fz 0; have s3 := HC5.out.m4.fz 1
      have q0 := HC5.out.m2.lt
      have q1 : b1 < w5.heap.size := by have := HC5.out.ds; omega
      have q2 := HC5.out.m4.lt
      go_wp2
      refine bodyPost_ret (res_m3 Try.results98 rfl (HC5.out.m4.set2 cap (.slice a5 n5 cp5))) rfl ?_
      have hst : Chg (fun k => k = b2) w5 ((w5.setCell ⟨b2, 0, none⟩ (.int .i64 cap)).setCell ⟨b2, 1, none⟩ (.slice a5 n5 cp5)) := ((Chg.refl (fun k => k = b2) w5).setCell (p := ⟨b2, 0, none⟩) (.inl rfl) _).setCell (p := ⟨b2, 1, none⟩) (.inl rfl) _
      have hd := HC5.out.ds
      have hbx := HC5.out.bel.trans (hst.below (by omega) fun k e => by rw [e]; omega)
      rw [HBQ.out] at hbx
      unfold RetS
      rw [E1.out]
      exact ⟨_, rfl, HF5.out.1.chg hst (fun k hk e => by have := (HF5.out.2 k hk).1; omega), fun k hk => .inr (by have h1 := HF5.out.2 k hk; have h2 := hst.size; rw [← HBQ.out]; exact ⟨by omega, by omega⟩), hbx⟩
    · have hwb : (y.weight == xw) = false := by simpa using hw
      have hwn : (y.weight != xw) = true := by simpa using hw
      have E1 := Lib.hid ((HFS.out _).2 ((if_neg (fun e => e HR.out)).trans (if_pos hw)))
      clear hw
      go_wp2
      refine bodyPost_ret (res_m3 Try.results98 rfl (HC4.out.m4.set2 cap (.slice (some ⟨bs, off, none⟩) n cp))) rfl ?_
      have hst : Chg (fun k => k = b2) w4 ((w4.setCell ⟨b2, 0, none⟩ (.int .i64 cap)).setCell ⟨b2, 1, none⟩ (.slice (some ⟨bs, off, none⟩) n cp)) := ((Chg.refl (fun k => k = b2) w4).setCell (p := ⟨b2, 0, none⟩) (.inl rfl) _).setCell (p := ⟨b2, 1, none⟩) (.inl rfl) _
      have hd := HC4.out.ds
      have hbx := HC4.out.bel.trans (hst.below (by omega) fun k e => by rw [e]; omega)
      rw [HBQ.out] at hbx
      unfold RetS
      rw [E1.out]
      exact ⟨_, rfl, HV.out.below hbx, fun k hk => .inl hk, hbx⟩
  · have hrb : (y.role == xr) = false := by simpa using hr
    have hrn : (y.role != xr) = true := by simpa using hr
    have E1 := Lib.hid ((HFS.out _).2 (if_pos hr))
    clear hr
    go_wp2
    refine wp_region_pure (by kernel_rfl) (by kernel_rfl) ?_
    repeat (first | go_big_quiet_step ((fail)) | (quiet_step ((fail))))
    refine wpQuiet_nil ?_
    rintro w3 ⟨x3, hx3⟩
    have hb3 := ext_below _ x3
    rw [← hx3] at hb3
    clear hx3 x3
    have hs3 : w2.heap.size + 0 ≤ w3.heap.size := (by have h := hb3.size; first | omega | (simp at h; omega))
    obtain ⟨hc3, hf3, hl3⟩ := bcell hb3
    clear hl3
    have HC3 := Lib.hid (HC2.out.on hb3)
    clear z0 z1 a0 a1 a2 a3 a4 s0 s1 s2 s3 q0 q1 q2
    clear hb3 hc3 hf3 e1 qs
    obtain ⟨z0, z1⟩ := HC3.out.m2.cells
    obtain ⟨a0, a1, a2, a3, a4⟩ := HC3.out.a3.cells
    obtain ⟨s0, s1⟩ := HC3.out.m4.cells
    have s2 := HC3.out.m4.fz 0; have s3 := HC3.out.m4.fz 1
    have q0 := HC3.out.m2.lt
    have q1 : b1 < w3.heap.size := by have := HC3.out.ds; omega
    have q2 := HC3.out.m4.lt
    go_wp2
    refine bodyPost_ret (res_m3 Try.results98 rfl (HC3.out.m4.set2 cap (.slice (some ⟨bs, off, none⟩) n cp))) rfl ?_
    have hst : Chg (fun k => k = b2) w3 ((w3.setCell ⟨b2, 0, none⟩ (.int .i64 cap)).setCell ⟨b2, 1, none⟩ (.slice (some ⟨bs, off, none⟩) n cp)) := ((Chg.refl (fun k => k = b2) w3).setCell (p := ⟨b2, 0, none⟩) (.inl rfl) _).setCell (p := ⟨b2, 1, none⟩) (.inl rfl) _
    have hd := HC3.out.ds
    have hbx := HC3.out.bel.trans (hst.below (by omega) fun k e => by rw [e]; omega)
    rw [HBQ.out] at hbx
    unfold RetS
    rw [E1.out]
    exact ⟨_, rfl, HV.out.below hbx, fun k hk => .inl hk, hbx⟩
set_option maxRecDepth 100000 in
set_option maxHeartbeats 4000000 in
theorem msub_new (h : FV w v S) (hS : SF S) (hln : S.length < 900000) (x : FAct) (hg : ¬ subBad x) (hf : fndF S x.id = none) : Calls Try.prog 98 #[mval cap v, aval x] w (RetS w v cap (fsub cap S x)) := by
  have HV := Lib.hid h
  obtain ⟨a, n, cp, rfl, hn, hc, hm, hat⟩ := h.at_
  obtain ⟨xk, xi, xr, xw, xt⟩ := x
  have hfs : ∀ z, fsub cap S ⟨xk, xi, xr, xw, xt⟩ = z ↔ (if 0 < wtF S xr ∧ wtF S xr ≠ xw then (S, false, 22) else if cap ≤ (S.length : Int) then (S, false, 32) else (putF S (fresh ⟨xk, xi, xr, xw, xt⟩ false), true, 0)) = z := fun z => by
    unfold fsub; rw [if_neg hg]; simp only; rw [hf]
  rw [← hn] at hfs
  have HFS := Lib.hid hfs
  have HPL := Lib.hid (pl_none' hf)
  have hnb : n < 900000 := by omega
  unfold subBad at hg
  simp only [not_or] at hg
  obtain ⟨g1, g2, g3, g4, g5, g6, g7⟩ := hg
  have HSS := Lib.hid (show SF S ∧ S.length < 900000 from ⟨hS, hln⟩)
  clear hfs hat h hn hS hf hln
  have HI := SC.start w cap (.slice (a) n cp) ⟨xk, xi, xr, xw, xt⟩
  obtain ⟨b, hbq⟩ : ∃ b, b = w.heap.size := ⟨_, rfl⟩
  obtain ⟨b1, hb1q⟩ : ∃ b1, b1 = b + 1 := ⟨_, rfl⟩
  obtain ⟨b2, hb2q⟩ : ∃ b2, b2 = b1 + 1 := ⟨_, rfl⟩
  have HBQ := Lib.hid hbq
  rw [← hbq, ← hb1q, ← hb2q] at HI
  replace HI := Lib.hid HI
  go_enter Try.func98, Try.ntmps98
  go_wp2_with fail
  rw [← hbq, ← hb1q, ← hb2q]
  clear hbq hb1q hb2q
  generalize ((w.alloc (.cells #[.int .i64 cap, .slice (a) n cp] 106)).alloc (.cells #[.int .i64 xk, .int .i64 xi, .int .i64 xr, .int .i64 xw, .int .i64 xt] 110)).alloc (.cells #[.int .i64 0, .slice none 0 0] 106) = w1 at *
  have HV1 := Lib.hid (HV.out.below (by rw [← HBQ.out]; exact HI.out.bel))
  refine (mat HV1.out xi).mono ?_
  rintro e w2 ⟨rfl, hb2⟩
  rw [HPL.out]
  have HC2 := Lib.hid (HI.out.on hb2)
  have HB2 := Lib.hid hb2
  clear hb2
  obtain ⟨z0, z1⟩ := HC2.out.m2.cells
  obtain ⟨a0, a1, a2, a3, a4⟩ := HC2.out.a3.cells
  obtain ⟨s0, s1⟩ := HC2.out.m4.cells
  have s2 := HC2.out.m4.fz 0; have s3 := HC2.out.m4.fz 1
  have q0 := HC2.out.m2.lt
  have q1 : b1 < w2.heap.size := by have := HC2.out.ds; omega
  have q2 := HC2.out.m4.lt
  go_wp2
  refine wp_region_pure (by kernel_rfl) (by kernel_rfl) ?_
  repeat (first | go_big_quiet_step ((fail)) | (quiet_step ((fail))))
  refine wpQuiet_nil ?_
  rintro w3 ⟨x3, hx3⟩
  have hb3 := ext_below _ x3
  rw [← hx3] at hb3
  clear hx3 x3
  have hs3 : w2.heap.size + 0 ≤ w3.heap.size := (by have h := hb3.size; first | omega | (simp at h; omega))
  obtain ⟨hc3, hf3, hl3⟩ := bcell hb3
  clear hl3
  have HC3 := Lib.hid (HC2.out.on hb3)
  have HB3 := Lib.hid hb3
  clear z0 z1 a0 a1 a2 a3 a4 s0 s1 s2 s3 q0 q1 q2
  clear hb3 hc3 hf3
  obtain ⟨z0, z1⟩ := HC3.out.m2.cells
  obtain ⟨a0, a1, a2, a3, a4⟩ := HC3.out.a3.cells
  obtain ⟨s0, s1⟩ := HC3.out.m4.cells
  have s2 := HC3.out.m4.fz 0; have s3 := HC3.out.m4.fz 1
  have q0 := HC3.out.m2.lt
  have q1 : b1 < w3.heap.size := by have := HC3.out.ds; omega
  have q2 := HC3.out.m4.lt
  go_wp2_with fail
  refine (mweight (HV1.out.below (bt HB2.out HB3.out)) xr).mono ?_
  rintro e w4 ⟨rfl, hb4⟩
  have HC4 := Lib.hid (HC3.out.on hb4)
  have HB4 := Lib.hid (bt (bt HB2.out HB3.out) hb4)
  clear hb4
  clear z0 z1 a0 a1 a2 a3 a4 s0 s1 s2 s3 q0 q1 q2
  obtain ⟨z0, z1⟩ := HC4.out.m2.cells
  obtain ⟨a0, a1, a2, a3, a4⟩ := HC4.out.a3.cells
  obtain ⟨s0, s1⟩ := HC4.out.m4.cells
  have s2 := HC4.out.m4.fz 0; have s3 := HC4.out.m4.fz 1
  have q0 := HC4.out.m2.lt
  have q1 : b1 < w4.heap.size := by have := HC4.out.ds; omega
  have q2 := HC4.out.m4.lt
  obtain ⟨q, hq⟩ : ∃ q, wtF S xr = q := ⟨_, rfl⟩
  have hfs := HFS.out
  rw [hq] at hfs ⊢
  have HFQ := Lib.hid hfs
  clear HFS hfs hq
  by_cases hA : 0 < q ∧ q ≠ xw
  · have E1 := Lib.hid ((HFQ.out _).2 (if_pos hA))
    have hq0 := hA.1
    have hwb : (q == xw) = false := by simpa using hA.2
    have hwn : (q != xw) = true := by simpa using hA.2
    clear hA
    go_wp2
    refine bodyPost_ret (res_m3 Try.results98 rfl (HC4.out.m4.set2 cap (.slice (a) n cp))) rfl ?_
    have hst : Chg (fun k => k = b2) w4 ((w4.setCell ⟨b2, 0, none⟩ (.int .i64 cap)).setCell ⟨b2, 1, none⟩ (.slice (a) n cp)) := ((Chg.refl (fun k => k = b2) w4).setCell (p := ⟨b2, 0, none⟩) (.inl rfl) _).setCell (p := ⟨b2, 1, none⟩) (.inl rfl) _
    have hd := HC4.out.ds
    have hbx := HC4.out.bel.trans (hst.below (by omega) fun k e => by rw [e]; omega)
    rw [HBQ.out] at hbx
    unfold RetS
    rw [E1.out]
    exact ⟨_, rfl, HV.out.below hbx, fun k hk => .inl hk, hbx⟩
  · by_cases hcap : cap ≤ (n : Int)
    · have E1 := Lib.hid ((HFQ.out _).2 ((if_neg hA).trans (if_pos hcap)))
      by_cases hq0 : 0 < q
      · have hqw : q = xw := by
          by_cases e : q = xw
          · exact e
          · exact absurd ⟨hq0, e⟩ hA
        have hwb : (q == xw) = true := by simpa using hqw
        have hwn : (q != xw) = false := by simpa using hqw
        clear hA hqw
        go_wp2
        refine bodyPost_ret (res_m3 Try.results98 rfl ((HC4.out.m4.set2 cap (.slice a n cp)).below (ba (Below.refl _ _) _))) rfl ?_
        have hst : Chg (fun k => k = b2) w4 ((w4.setCell ⟨b2, 0, none⟩ (.int .i64 cap)).setCell ⟨b2, 1, none⟩ (.slice a n cp)) := ((Chg.refl (fun k => k = b2) w4).setCell (p := ⟨b2, 0, none⟩) (.inl rfl) _).setCell (p := ⟨b2, 1, none⟩) (.inl rfl) _
        have hd := HC4.out.ds
        have hbx := HC4.out.bel.trans ((hst.below (by omega) fun k e => by rw [e]; omega).trans ((ba (Below.refl _ _) (.cells #[.int .i64 xi, .int .i64 xr, .int .i64 xw, .bool true, .bool false, .int .i64 xt, .int .i64 0] 114)).mono (by have := hst.size; omega)))
        rw [HBQ.out] at hbx
        unfold RetS
        rw [E1.out]
        exact ⟨_, rfl, HV.out.below hbx, fun k hk => .inl hk, hbx⟩
      · clear hA
        go_wp2
        refine bodyPost_ret (res_m3 Try.results98 rfl ((HC4.out.m4.set2 cap (.slice a n cp)).below (ba (Below.refl _ _) _))) rfl ?_
        have hst : Chg (fun k => k = b2) w4 ((w4.setCell ⟨b2, 0, none⟩ (.int .i64 cap)).setCell ⟨b2, 1, none⟩ (.slice a n cp)) := ((Chg.refl (fun k => k = b2) w4).setCell (p := ⟨b2, 0, none⟩) (.inl rfl) _).setCell (p := ⟨b2, 1, none⟩) (.inl rfl) _
        have hd := HC4.out.ds
        have hbx := HC4.out.bel.trans ((hst.below (by omega) fun k e => by rw [e]; omega).trans ((ba (Below.refl _ _) (.cells #[.int .i64 xi, .int .i64 xr, .int .i64 xw, .bool true, .bool false, .int .i64 xt, .int .i64 0] 114)).mono (by have := hst.size; omega)))
        rw [HBQ.out] at hbx
        unfold RetS
        rw [E1.out]
        exact ⟨_, rfl, HV.out.below hbx, fun k hk => .inl hk, hbx⟩
    · have E1 := Lib.hid ((HFQ.out _).2 ((if_neg hA).trans (if_neg hcap)))
      by_cases hq0 : 0 < q
      · have hqw : q = xw := by
          by_cases e : q = xw
          · exact e
          · exact absurd ⟨hq0, e⟩ hA
        have hwb : (q == xw) = true := by simpa using hqw
        have hwn : (q != xw) = false := by simpa using hqw
        clear hA hqw
        go_wp2_with fail
        refine (mwith (cap := cap) (f := fresh ⟨xk, xi, xr, xw, xt⟩ (false)) (HV1.out.below (ba HB4.out _)) HSS.out.1 HSS.out.2).mono ?_
        rintro e w5 ⟨v5, rfl, hv5, ho5, hb5⟩
        have HC5 := Lib.hid ((HC4.out.on (ba (Below.refl _ _) _)).on hb5)
        have hv6 := hv5
        obtain ⟨a5, n5, cp5, rfl, h51, h52, h53, h54⟩ := hv6.at_
        have HF5 := Lib.hid (show FV w5 (.slice a5 n5 cp5) (putF S (fresh ⟨xk, xi, xr, xw, xt⟩ (false))) ∧ ∀ k, Value.ownBlock (.slice a5 n5 cp5) = some k → b2 < k ∧ k < w5.heap.size from ⟨hv5, fun k hk => by have h1 := ho5 k hk; simp at h1; have h2 := HC4.out.ds; exact ⟨by omega, by omega⟩⟩)
        clear hv5 hv6 ho5 hb5 h51 h52 h53 h54
        clear z0 z1 a0 a1 a2 a3 a4 s0 s1 s2 s3 q0 q1 q2
        obtain ⟨z0, z1⟩ := HC5.out.m2.cells
        obtain ⟨a0, a1, a2, a3, a4⟩ := HC5.out.a3.cells
        obtain ⟨s0, s1⟩ := HC5.out.m4.cells
        have s2 := HC5.out.m4.fz 0; have s3 := HC5.out.m4.fz 1
        have q0 := HC5.out.m2.lt
        have q1 : b1 < w5.heap.size := by have := HC5.out.ds; omega
        have q2 := HC5.out.m4.lt
        go_wp2
        refine bodyPost_ret (res_m3 Try.results98 rfl (HC5.out.m4.set2 cap (.slice a5 n5 cp5))) rfl ?_
        have hst : Chg (fun k => k = b2) w5 ((w5.setCell ⟨b2, 0, none⟩ (.int .i64 cap)).setCell ⟨b2, 1, none⟩ (.slice a5 n5 cp5)) := ((Chg.refl (fun k => k = b2) w5).setCell (p := ⟨b2, 0, none⟩) (.inl rfl) _).setCell (p := ⟨b2, 1, none⟩) (.inl rfl) _
        have hd := HC5.out.ds
        have hbx := HC5.out.bel.trans (hst.below (by omega) fun k e => by rw [e]; omega)
        rw [HBQ.out] at hbx
        unfold RetS
        rw [E1.out]
        exact ⟨_, rfl, HF5.out.1.chg hst (fun k hk e => by have := (HF5.out.2 k hk).1; omega), fun k hk => .inr (by have h1 := HF5.out.2 k hk; have h2 := hst.size; rw [← HBQ.out]; exact ⟨by omega, by omega⟩), hbx⟩
      · clear hA
        go_wp2_with fail
        refine (mwith (cap := cap) (f := fresh ⟨xk, xi, xr, xw, xt⟩ (false)) (HV1.out.below (ba HB4.out _)) HSS.out.1 HSS.out.2).mono ?_
        rintro e w5 ⟨v5, rfl, hv5, ho5, hb5⟩
        have HC5 := Lib.hid ((HC4.out.on (ba (Below.refl _ _) _)).on hb5)
        have hv6 := hv5
        obtain ⟨a5, n5, cp5, rfl, h51, h52, h53, h54⟩ := hv6.at_
        have HF5 := Lib.hid (show FV w5 (.slice a5 n5 cp5) (putF S (fresh ⟨xk, xi, xr, xw, xt⟩ (false))) ∧ ∀ k, Value.ownBlock (.slice a5 n5 cp5) = some k → b2 < k ∧ k < w5.heap.size from ⟨hv5, fun k hk => by have h1 := ho5 k hk; simp at h1; have h2 := HC4.out.ds; exact ⟨by omega, by omega⟩⟩)
        clear hv5 hv6 ho5 hb5 h51 h52 h53 h54
        clear z0 z1 a0 a1 a2 a3 a4 s0 s1 s2 s3 q0 q1 q2
        obtain ⟨z0, z1⟩ := HC5.out.m2.cells
        obtain ⟨a0, a1, a2, a3, a4⟩ := HC5.out.a3.cells
        obtain ⟨s0, s1⟩ := HC5.out.m4.cells
        have s2 := HC5.out.m4.fz 0; have s3 := HC5.out.m4.fz 1
        have q0 := HC5.out.m2.lt
        have q1 : b1 < w5.heap.size := by have := HC5.out.ds; omega
        have q2 := HC5.out.m4.lt
        go_wp2
        refine bodyPost_ret (res_m3 Try.results98 rfl (HC5.out.m4.set2 cap (.slice a5 n5 cp5))) rfl ?_
        have hst : Chg (fun k => k = b2) w5 ((w5.setCell ⟨b2, 0, none⟩ (.int .i64 cap)).setCell ⟨b2, 1, none⟩ (.slice a5 n5 cp5)) := ((Chg.refl (fun k => k = b2) w5).setCell (p := ⟨b2, 0, none⟩) (.inl rfl) _).setCell (p := ⟨b2, 1, none⟩) (.inl rfl) _
        have hd := HC5.out.ds
        have hbx := HC5.out.bel.trans (hst.below (by omega) fun k e => by rw [e]; omega)
        rw [HBQ.out] at hbx
        unfold RetS
        rw [E1.out]
        exact ⟨_, rfl, HF5.out.1.chg hst (fun k hk e => by have := (HF5.out.2 k hk).1; omega), fun k hk => .inr (by have h1 := HF5.out.2 k hk; have h2 := hst.size; rw [← HBQ.out]; exact ⟨by omega, by omega⟩), hbx⟩
theorem msub (h : FV w v S) (hS : SF S) (hok : ∀ f ∈ S, FOk f) (hW : ∀ y ∈ S, wtF S y.role = y.weight) (hln : S.length < 900000) (x : FAct) : Calls Try.prog 98 #[mval cap v, aval x] w (RetS w v cap (fsub cap S x)) := by
  by_cases hb : subBad x
  · rw [sub_bad hb]; exact msub_bad h x hb
  · cases hf : fndF S x.id with
    | none => exact msub_new h hS hln x hb hf
    | some y => exact msub_old h hS hok hW hln x hb hf
end
end Go.Proofs.Ytajcelmnblncaaa

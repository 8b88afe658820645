/- offers: the walk of OffersPlays. -/
import Derived.Test.YtnckjacbkhoppaaOn1
import Derived.OpenShut
namespace Go.Proofs.Ytnckjacbkhoppaa
open Go.RowKit Go.Maps
attribute [local go_sem] ext_cell ext_frozen extC_cell extC_frozen Mix.calmUpon Mix.mUpon eq4
set_option maxRecDepth 100000 in
set_option maxHeartbeats 16000000 in
theorem plays24 (great : Int) (v : Value) (l : List Oa) (i0 i1 : Int) (hi0 : I64 i0) (hi1 : I64 i1) (W : World) (hr : RS 6 oaenc W v l) (ha : ∀ x ∈ l, OIn W x.o) :
    Calls Try.prog 6 #[.int .i64 great, v, .agg #[.int .i64 i0, .int .i64 i1]] W fun e w' => e = .returned (.bool true) ∧ Below W.heap.size W w' := by
  have hbI := ba (Below.refl W.heap.size W) (.cells #[.int .i64 i0, .int .i64 i1] 50)
  have hcI := heap_alloc_new W (.cells #[.int .i64 i0, .int .i64 i1] 50)
  have ha1 : ∀ x ∈ l, OIn (W.alloc (.cells #[.int .i64 i0, .int .i64 i1] 50)) x.o := fun x hx => ⟨(ha x hx).id, (ha x hx).fr, (ha x hx).ag, (ha x hx).til, (ha x hx).vc.on hbI, (ha x hx).i64, (ha x hx).len⟩
  have hr1 := hr.below hbI
  have HF := Lib.hid (few24 v l _ hr1 ha1)
  have HA := Lib.hid ha1
  obtain ⟨a, n, c, rfl, hn, hc, hm, hat⟩ := hr1.at_
  have HN := Lib.hid hn; have HAT := Lib.hid hat; have HBI := Lib.hid hbI
  have HCI := Lib.hid hcI
  have HIB := Lib.hid (show W.heap.size < (W.alloc (.cells #[.int .i64 i0, .int .i64 i1] 50)).heap.size by simp)
  clear hr hn hat ha hm hc hr1 hbI hcI ha1
  by_cases hfew : l.length ≤ 100 ∧ (l.map oaW).sum ≤ 400
  · have hFT : decide (l.length ≤ 100 ∧ (l.map oaW).sum ≤ 400) = true := decide_eq_true hfew
    have HFT := Lib.hid hFT
    have HLE := Lib.hid (few_eachO hfew.2)
    have hn100 : n ≤ 100 := by rw [HN.out]; exact hfew.1
    clear hfew hFT
    go_enter Try.func6, Try.ntmps6
    go_wp2_with fail
    generalize W.alloc (.cells #[.int .i64 i0, .int .i64 i1] 50) = w1 at *
    obtain ⟨ib, hib⟩ : ∃ k, k = W.heap.size := ⟨_, rfl⟩
    rw [← hib] at HIB HCI HBI ⊢
    have HIQ := Lib.hid hib
    clear hib
    refine HF.out.mono ?_
    rintro e w2 ⟨rfl, rfl⟩
    rw [HFT.out]
    by_cases hg : great < 0 ∨ 9007199254740992 < great
    · have hg1 : (decide (great < 0) = true) ∨ (decide (great < 0) = false ∧ decide (9007199254740992 < great) = true) := by
        by_cases h0 : great < 0
        · exact .inl (decide_eq_true h0)
        · exact .inr ⟨decide_eq_false h0, decide_eq_true (by omega)⟩
      go_wp2_with fail
      refine (onew_no w2 hg).mono ?_
      rintro e w3 ⟨rfl, hb3⟩
      have HB3 := Lib.hid hb3
      clear hb3 hg
      rcases hg1 with hg0 | ⟨hg0, hg2⟩
      · go_wp2_with fail
        refine (works24 w3).mono ?_
        rintro e w4 ⟨rfl, hb4⟩
        have HB4 := Lib.hid (bt HB3.out hb4)
        clear hb4
        go_wp2
        go_ret
        exact ⟨rfl, by rw [← HIQ.out]; exact HBI.out.trans (HB4.out.mono (Nat.le_of_lt HIB.out))⟩
      · go_wp2_with fail
        refine (works24 w3).mono ?_
        rintro e w4 ⟨rfl, hb4⟩
        have HB4 := Lib.hid (bt HB3.out hb4)
        clear hb4
        go_wp2
        go_ret
        exact ⟨rfl, by rw [← HIQ.out]; exact HBI.out.trans (HB4.out.mono (Nat.le_of_lt HIB.out))⟩
    · have hg0 : decide (great < 0) = false := decide_eq_false (by omega)
      have hg2 : decide (9007199254740992 < great) = false := decide_eq_false (by omega)
      go_wp2_with fail
      refine (vonew w2 (last := great) (by omega) (by omega)).mono ?_
      rintro e w3 ⟨rfl, h3, hb3⟩
      have H3 := Lib.hid h3; have HB3 := Lib.hid hb3
      have hb34 := ba (Below.refl w3.heap.size w3) (.cells #[.int .i64 great, .int .i64 0, .slice none 0 0] 56)
      have HM4 := Lib.hid (MB.made w3 great 0 (.slice none 0 0))
      have HB34 := Lib.hid hb34
      clear h3 hb3 hb34 hg
      go_wp2
      obtain ⟨tp, htp⟩ : ∃ tp, tp = w2.heap.size + 3 := ⟨_, rfl⟩
      obtain ⟨mb, hmb⟩ : ∃ k, k = w3.heap.size := ⟨_, rfl⟩
      have HTP := Lib.hid (show w2.heap.size ≤ tp by omega)
      have HI := Lib.hid (show PSt w2 (w3.alloc (.cells #[.int .i64 great, .int .i64 0, .slice none 0 0] 56)) tp mb great 0 [] (fun b => w2.heap.size ≤ b ∧ b < w3.heap.size) (.slice none 0 0) [] 0 from by
        rw [htp, hmb]
        exact ⟨⟨H3.out.below HB34.out, bt HB3.out HB34.out, Nat.le_refl _⟩, HM4.out, RS.nil _ _ _, rfl, (fun x hx => by cases hx), (fun b hb => by cases hb), (fun e => by have := e.2; omega), HB3.out.size⟩)
      rw [← htp, ← hmb]
      clear htp hmb H3 HB3 HM4 HB34
      generalize w3.alloc (.cells #[.int .i64 great, .int .i64 0, .slice none 0 0] 56) = w4 at *
      generalize (fun b => w2.heap.size ≤ b ∧ b < w3.heap.size) = K0 at *
      go_loopw [9] (fun iv wr => ∃ (t : Nat) (last : Int) (P : List Pf) (K : Nat → Prop) (vm : Value) (L : List Ofr), t ≤ n ∧ iv = .int .i64 t ∧ Hid (PSt w2 wr tp mb great last P K vm L t)) (fun iv _ => n - (intOf iv).toNat)
      case atStart => exact ⟨0, 0, [], K0, _, [], Nat.zero_le _, rfl, HI⟩
      case round =>
        clear HI
        obtain ⟨t, last, P, K, vm, L, ht, rfl, HQ⟩ := hrel
        obtain ⟨w5, rfl⟩ : ∃ w5, w5 = wr := ⟨_, rfl⟩
        obtain ⟨ma, mn, mc, rfl⟩ := HQ.out.form
        by_cases hlt : t < n
        · have hts : (t : Int) < (n : Int) := by omega
          obtain ⟨x, hx⟩ := at_lt (l := l) (i := t) (by rw [← HN.out]; exact hlt)
          obtain ⟨bs, off, rfl, hbs, hcell⟩ := HAT.out t x hx
          have hxi := HA.out x (mem_at hx)
          have hxl := HLE.out x (mem_at hx)
          have hbw := HQ.out.os.bel
          obtain ⟨xe, ⟨xi, xf, xa, xv, xs, xu⟩⟩ := x
          obtain ⟨va, vc, hvv, -, -⟩ := hxi.vc.form
          simp only at hvv
          subst hvv
          have c0 := (hbw.cell (p := ⟨bs, _, none⟩) hbs).trans (hcell 0 _ rfl)
          have c1 := (hbw.cell (p := ⟨bs, _, none⟩) hbs).trans (hcell 1 _ rfl)
          have c2 := (hbw.cell (p := ⟨bs, _, none⟩) hbs).trans (hcell 2 _ rfl)
          have c3 := (hbw.cell (p := ⟨bs, _, none⟩) hbs).trans (hcell 3 _ rfl)
          have c4 := (hbw.cell (p := ⟨bs, _, none⟩) hbs).trans (hcell 4 _ rfl)
          have c5 := (hbw.cell (p := ⟨bs, _, none⟩) hbs).trans (hcell 5 _ rfl)
          simp only [Nat.add_zero] at c0
          have hbs4 : bs < w5.heap.size := Nat.lt_of_lt_of_le hbs hbw.size
          have hb56 := ba (Below.refl w5.heap.size w5) (.cells #[.bool xe, .int .i64 xi, .int .i64 xf, .int .i64 xa, .slice va xs.length vc, .int .i64 xu] 58)
          have HQ6 := Lib.hid (HQ.out.on hb56)
          have HK6 := Lib.hid (AB.made w5 xe xi xf xa (.slice va xs.length vc) xu)
          have HGO := Lib.hid (And.intro (show I64 xi from hxi.id) ((hxi.go hbw hxl HTP.out).on hb56))
          have HXV := Lib.hid (show Vc w2 (.slice va xs.length vc) xs from hxi.vc)
          have HLT := Lib.hid (show w2.heap.size ≤ w5.heap.size ∧ mb < w5.heap.size from ⟨hbw.size, HQ.out.m.lt⟩)
          have HNX := Lib.hid (show ¬ K w5.heap.size from fun e => by have := (HQ.out.os.ov.hK _ e).2; omega)
          obtain ⟨z0, z1, z2⟩ := HQ.out.m.cells
          have z3 := HQ.out.m.lt
          clear hcell hx hxi hxl hbw hbs hb56
          go_wp2_with fail
          generalize w5.alloc (.cells #[.bool xe, .int .i64 xi, .int .i64 xf, .int .i64 xa, .slice va xs.length vc, .int .i64 xu] 58) = w6 at *
          obtain ⟨bx, hbx⟩ : ∃ k, k = w5.heap.size := ⟨_, rfl⟩
          rw [← hbx] at HK6 HNX ⊢
          have HBX := Lib.hid hbx
          clear hbx c0 c1 c2 c3 c4 c5 hbs4 z0 z1 z2 z3
          have HLOOK := Lib.hid (HQ.out.look xi)
          refine (mat HQ6.out.ml xi).mono ?_
          rintro e w7 ⟨rfl, hb7⟩
          have HB7 := Lib.hid hb7
          obtain ⟨k0, k1, k2, k3, k4, k5⟩ := (HK6.out.below hb7).cells
          have k6 := (HK6.out.below hb7).lt
          clear hb7
          go_wp2_with fail
          refine (voget (HQ6.out.on HB7.out).os.ov HGO.out.1).mono ?_
          rintro e w8 ⟨⟨z, rfl, hz, hzv, hzo⟩, hb8⟩
          have HB8 := Lib.hid (bt HB7.out hb8)
          obtain ⟨zi, zf, za, zv, zs, zu⟩ := z
          obtain ⟨zva, zvc, hzq, -, -⟩ := hzv.form
          simp only at hzq hzv hzo
          subst hzq
          have HZ := Lib.hid hz; have HZV := Lib.hid hzv
          have HKS := Lib.hid (show ∀ b, K b → b < w5.heap.size from fun b hb => (HQ.out.os.ov.hK b hb).2)
          have HZO := Lib.hid (show ∀ b, Value.ownBlock (.slice zva zs.length zvc) = some b → ¬ K b from fun b hb e => by have := hzo b hb; have := HB7.out.size; have := HK6.out.lt; have := HBX.out; have := HKS.out b e; omega)
          have HZL := Lib.hid (got_len HQ.out.vr hz)
          clear hzo
          have hb89 := ba (Below.refl w8.heap.size w8) (.cells #[.int .i64 zi, .int .i64 zf, .int .i64 za, .slice zva zs.length zvc, .int .i64 zu] 61)
          have HKY := Lib.hid (OfB.made w8 zi zf za (.slice zva zs.length zvc) zu)
          have HB9 := Lib.hid (bt HB8.out hb89)
          have HB89 := Lib.hid hb89
          obtain ⟨yb, hyb⟩ : ∃ k, k = w8.heap.size := ⟨_, rfl⟩
          rw [← hyb] at HKY
          have HNY := Lib.hid (show ¬ K yb from fun e => by have := HKS.out _ e; have := HB8.out.size; have := HK6.out.lt; have := HBX.out; omega)
          have HYB := Lib.hid hyb
          clear k0 k1 k2 k3 k4 k5 k6 hb8 hz hzv hb89 hyb
          cases ho : fndP P xi with
          | none =>
            have hr0 : decide (0 ≤ Srt.pl Ofr.id L xi) = false := by rw [HLOOK.out, ho]; rfl
            have HO := Lib.hid ho
            clear ho
            generalize Srt.pl Ofr.id L xi = r at *
            have hr1 : (0 ≤ r) = False := eq_false (of_decide_eq_false hr0)
            go_wp2_with fail
            generalize w8.alloc (.cells #[.int .i64 zi, .int .i64 zf, .int .i64 za, .slice zva zs.length zvc, .int .i64 zu] 61) = w9 at *
            rw [← HYB.out]
            refine wp_region_pure (by kernel_rfl) (by kernel_rfl) ?_
            repeat (first | go_big_quiet_step ((fail)) | (quiet_step ((fail))))
            refine wpQuiet_nil ?_
            rintro w10 ⟨x10, hx10⟩
            have hb10 := ext_below _ x10
            rw [← hx10] at hb10
            clear hx10 x10
            have hs10 : w9.heap.size + 0 ≤ w10.heap.size := (by have h := hb10.size; first | omega | (simp at h; omega))
            obtain ⟨hc10, hf10, hl10⟩ := bcell hb10
            clear hl10
            have HB910 := Lib.hid hb10
            have HQ10 := Lib.hid (HQ6.out.on (bt HB9.out hb10))
            have HKX10 := Lib.hid (HK6.out.below (bt HB9.out hb10))
            have HKY10 := Lib.hid (HKY.out.below hb10)
            have HZV10 := Lib.hid (HZV.out.on (bt HB89.out hb10))
            clear hb10
            obtain ⟨k0, k1, k2, k3, k4, k5⟩ := HKX10.out.cells
            have k6 := HKX10.out.lt
            cases xe with
            | true =>
              go_wp2_with fail
              refine (voclose HQ10.out.os.ov (by have := HQ10.out.os.len; omega) HGO.out.1).mono ?_
              rintro e w11 ⟨⟨z2, rfl, hz2, hzv2, hzo2⟩, h11, hc11⟩
              rw [HO.out]
              obtain ⟨gi, gf, ga, gv, gs, gu⟩ := z2
              obtain ⟨gva, gvc, hgq, -, -⟩ := hzv2.form
              simp only at hgq hzv2
              subst hgq
              have HACT := Lib.hid (HQ10.out.act hc11)
              have HKX11 := Lib.hid (HKX10.out.chg hc11 HNX.out)
              have HKY11 := Lib.hid (HKY10.out.chg hc11 HNY.out)
              have HZV11 := Lib.hid (show Vc w11 (.slice zva zs.length zvc) zs from HZV10.out.keep hc11 (.inr HZO.out))
              have HG2 := Lib.hid hzv2
              have HGL := Lib.hid (got_len HQ10.out.vr hz2)
              have HGP := Lib.hid (show [(⟨gi, gf, ga, .slice gva gs.length gvc, gs, gu⟩ : Ofr)].map Ofr.pl = [(⟨zi, zf, za, .slice zva zs.length zvc, zs, zu⟩ : Ofr)].map Ofr.pl from by
                simp only [List.map_cons, List.map_nil]; rw [hz2, HZ.out])
              have HTV := Lib.hid h11
              have hb12 := ba (Below.refl w11.heap.size w11) (.cells #[.int .i64 gi, .int .i64 gf, .int .i64 ga, .slice gva gs.length gvc, .int .i64 gu] 61)
              have HKG := Lib.hid (OfB.made w11 gi gf ga (.slice gva gs.length gvc) gu)
              have HB12 := Lib.hid hb12
              clear hzv2 hb12 hz2 h11 hc11 hzo2 k0 k1 k2 k3 k4 k5 k6
              have hk13 := OfB.made (w11.alloc (.cells #[.int .i64 gi, .int .i64 gf, .int .i64 ga, .slice gva gs.length gvc, .int .i64 gu] 61)) gi gf ga (.slice gva gs.length gvc) gu
              have hk14 := OfB.made ((w11.alloc (.cells #[.int .i64 gi, .int .i64 gf, .int .i64 ga, .slice gva gs.length gvc, .int .i64 gu] 61)).alloc (.cells #[.int .i64 gi, .int .i64 gf, .int .i64 ga, .slice gva gs.length gvc, .int .i64 gu] 61)) zi zf za (.slice zva zs.length zvc) zu
              rw [size_all'] at hk13
              rw [size_all', size_all'] at hk14
              have hb13 := ba HB12.out (.cells #[.int .i64 gi, .int .i64 gf, .int .i64 ga, .slice gva gs.length gvc, .int .i64 gu] 61)
              have hky13 := HKY11.out.below hb13
              obtain ⟨k0, k1, k2, k3, k4⟩ := hky13.cells
              have k5 := hky13.lt
              have HK13 := Lib.hid (hk13.below (ba (Below.refl _ _) (.cells #[.int .i64 zi, .int .i64 zf, .int .i64 za, .slice zva zs.length zvc, .int .i64 zu] 61)))
              have HK14 := Lib.hid hk14
              have HB14 := Lib.hid (ba hb13 (.cells #[.int .i64 zi, .int .i64 zf, .int .i64 za, .slice zva zs.length zvc, .int .i64 zu] 61))
              clear hk13 hk14 hb13 hky13
              go_wp2_with fail
              clear k0 k1 k2 k3 k4 k5
              generalize ((w11.alloc (.cells #[.int .i64 gi, .int .i64 gf, .int .i64 ga, .slice gva gs.length gvc, .int .i64 gu] 61)).alloc (.cells #[.int .i64 gi, .int .i64 gf, .int .i64 ga, .slice gva gs.length gvc, .int .i64 gu] 61)).alloc (.cells #[.int .i64 zi, .int .i64 zf, .int .i64 za, .slice zva zs.length zvc, .int .i64 zu] 61) = w14 at *
              refine (sameO_yes (.slice (some ⟨w11.heap.size + 1, 0, none⟩) 1 1) (.slice (some ⟨w11.heap.size + 1 + 1, 0, none⟩) 1 1) [⟨gi, gf, ga, .slice gva gs.length gvc, gs, gu⟩] [⟨zi, zf, za, .slice zva zs.length zvc, zs, zu⟩] (fun y hy => by
                rw [List.mem_singleton.1 hy]; exact HGL.out) HGP.out w14 (FL.made HK13.out (HG2.out.on HB14.out)) (FL.made HK14.out (HZV11.out.on HB14.out))).mono ?_
              rintro e w15 ⟨rfl, hb15⟩
              have HB15 := Lib.hid (bt HB14.out hb15)
              clear hb15
              have hmb := HACT.out.1.below HB15.out
              have hml := HACT.out.2.1.below HB15.out
              obtain ⟨z0, z1, z2⟩ := hmb.cells
              have z3 := hmb.lt
              have hkx := HKX11.out.below HB15.out
              obtain ⟨k0, k1, k2, k3, k4, k5⟩ := hkx.cells
              have k6 := hkx.lt
              have HMB := Lib.hid hmb; have HML := Lib.hid hml
              clear hmb hml hkx
              go_wp2_with fail
              refine (mclose HML.out (fun y hy => (HQ10.out.vec y hy).on (HACT.out.2.2.trans (HB15.out.mono HACT.out.2.2.size))) (by have := HQ10.out.llen; omega) xi).mono ?_
              rintro e w16 ⟨v', rfl, hq⟩
              obtain ⟨na, nn, nc, rfl, -, -, -, -⟩ := hq.rs.at_
              have hmb := HMB.out.below hq.bel
              have HI := Lib.hid (HQ10.out.both (v' := .slice na nn nc) (L' := delO L xi) (l' := last) ((HTV.out.below HB15.out).below hq.bel) hmb hq.rs (by rw [pl_delO, HQ10.out.pl]) (fun y hy => HQ10.out.vec y (Srt.mem_del.1 hy).1) (fun b hb => by
                have h1 := hq.own b hb; have h2 := HB15.out.size; have h3 := HACT.out.2.2.size
                exact ⟨fun e => by have := (HTV.out.hK b e).2; omega, by have := HMB.out.lt; omega, h1.2⟩) HQ10.out.nK (HACT.out.2.2.trans ((HB15.out.mono HACT.out.2.2.size).trans (hq.bel.mono (Nat.le_trans HACT.out.2.2.size HB15.out.size)))) (Nat.le_trans delP_len (Nat.le_succ_of_le HQ10.out.os.len)))
              obtain ⟨y0, y1, y2⟩ := hmb.cells
              have y3 := hmb.lt
              have y4 := hmb.fz 0; have y5 := hmb.fz 1; have y6 := hmb.fz 2
              clear hmb hq z0 z1 z2 z3 k0 k1 k2 k3 k4 k5 k6
              go_wp2
              go_roundw
              case rel => exact ⟨t + 1, _, _, _, _, _, by omega, by go_num, HI⟩
              case measure => simp [intOf]; omega
            | false =>
              have HFL := Lib.hid HQ10.out.fl
              obtain ⟨z0, z1, z2⟩ := HQ10.out.m.cells
              have z3 := HQ10.out.m.lt
              have HG10 := Lib.hid (HGO.out.2.on (bt HB9.out HB910.out))
              have HCN := Lib.hid HQ10.out.os.ov.cnt
              go_wp2_with fail
              refine (missue HFL.out (by have := HQ10.out.llen; omega) HCN.out ⟨xi, xf, xa, .slice va xs.length vc, xs, xu⟩ HG10.out.vc HG10.out.len).mono ?_
              rintro e w11 ⟨v', rfl, hrs, hown, hb11⟩
              obtain ⟨na, nn, nc, rfl, -, -, -, -⟩ := hrs.at_
              have HRS := Lib.hid hrs; have HOWN := Lib.hid hown; have HB11 := Lib.hid hb11
              clear k0 k1 k2 k3 k4 k5 k6 z0 z1 z2 z3 hrs hown hb11
              generalize hlq : issL great last (Ofr.pl ⟨xi, xf, xa, .slice va xs.length vc, xs, xu⟩) = l' at *
              have hb12 := ba (Below.refl w11.heap.size w11) (.cells #[.int .i64 great, .int .i64 l', .slice na nn nc] 56)
              have HMN := Lib.hid (MB.made w11 great l' (.slice na nn nc))
              have HB12 := Lib.hid (bt HB11.out hb12)
              have HRS12 := Lib.hid (HRS.out.below hb12)
              have hk12 := HKX10.out.below HB12.out
              have HLQ := Lib.hid hlq
              clear hb12 hlq
              obtain ⟨k0, k1, k2, k3, k4, k5⟩ := hk12.cells
              have k6 := hk12.lt
              clear hk12
              go_wp2_with fail
              generalize w11.alloc (.cells #[.int .i64 great, .int .i64 l', .slice na nn nc] 56) = w12 at *
              obtain ⟨nb, hnb⟩ : ∃ k, k = w11.heap.size := ⟨_, rfl⟩
              rw [← hnb] at HMN ⊢
              have HNB := Lib.hid (show w10.heap.size ≤ nb from by rw [hnb]; exact HB11.out.size)
              have HNS := Lib.hid hnb
              clear hnb
              refine (voissue (HQ10.out.on HB12.out).os.ov (HQ10.out.on HB12.out).os.bel.size ⟨xi, xf, xa, .slice va xs.length vc, xs, xu⟩ (HG10.out.on HB12.out)).mono ?_
              rintro e w13 ⟨rfl, K', h13, hc13, hk13⟩
              rw [HLQ.out] at h13
              have hact := (HQ10.out.on HB12.out).act hc13
              have hKl := (HQ10.out.os.ov.hK)
              have hMN := HMN.out.chg hc13 (fun e => by have := (hKl nb e).2; have := HNB.out; omega)
              have hmlt := HQ10.out.m.lt
              have HI := Lib.hid ((HQ10.out.on HB12.out).both (v' := .slice na nn nc) (L' := if PfOk (Ofr.pl ⟨xi, xf, xa, .slice va xs.length vc, xs, xu⟩) ∧ last < great then L ++ [⟨last + 1, xf, xa, .slice va xs.length vc, xs, xu⟩] else L) (l' := l') h13 hact.1 (HRS12.out.chg hc13 (fun b hb e => by
                  rcases HOWN.out b hb with h | h
                  · exact (HQ10.out.own b h).1 e
                  · have := (hKl b e).2; omega)) (by
                  unfold issP
                  split
                  · rw [List.map_append, HQ10.out.pl]; rfl
                  · exact HQ10.out.pl) (fun y hy => by
                  split at hy
                  · rcases List.mem_append.1 hy with h | h
                    · exact HQ10.out.vec y h
                    · rw [List.mem_singleton.1 h]; exact HXV.out
                  · exact HQ10.out.vec y hy) (fun b hb => by
                  have hs := HB12.out.size; have hs2 := hc13.size
                  rcases HOWN.out b hb with h | h
                  · have h1 := HQ10.out.own b h
                    exact ⟨fun e => (hk13 b e).elim h1.1 fun e => by omega, h1.2.1, by omega⟩
                  · have hb12 : b < w12.heap.size := by have := HNS.out; have := HMN.out.lt; omega
                    exact ⟨fun e => (hk13 b e).elim (fun e => by have := (hKl b e).2; omega) fun e => by omega, by omega, by omega⟩) (fun e => (hk13 mb e).elim HQ10.out.nK fun e => by have := HB12.out.size; omega) hact.2.2 (Nat.le_trans issP_len (Nat.succ_le_succ HQ10.out.os.len)))
              obtain ⟨y0, y1, y2⟩ := hMN.cells
              have y3 := hMN.lt
              obtain ⟨z0, z1, z2⟩ := hact.1.cells
              have z3 := hact.1.lt
              have z4 := hact.1.fz 0; have z5 := hact.1.fz 1; have z6 := hact.1.fz 2
              clear h13 hc13 hact hMN hmlt hk13 hKl k0 k1 k2 k3 k4 k5 k6
              generalize issE great last (Ofr.pl ⟨xi, xf, xa, .slice va xs.length vc, xs, xu⟩) = er at *
              generalize issN great last (Ofr.pl ⟨xi, xf, xa, .slice va xs.length vc, xs, xu⟩) = nr at *
              go_wp2
              go_roundw
              case rel => exact ⟨t + 1, _, _, _, _, _, by omega, by go_num, HI⟩
              case measure => simp [intOf]; omega
          | some yk =>
            have HO := Lib.hid ho
            have hfn : (fndO L xi).map Ofr.pl = some yk := by rw [← HQ.out.fnd, ho]
            obtain ⟨y', hy', hyp⟩ : ∃ y', fndO L xi = some y' ∧ y'.pl = yk := by
              cases h : fndO L xi with
              | none => rw [h] at hfn; cases hfn
              | some y' => rw [h] at hfn; exact ⟨y', rfl, Option.some.inj hfn⟩
            obtain ⟨ki, hki, hLk⟩ := Srt.pl_at hy'
            have HYP := Lib.hid hyp
            have hkn : ki < 1000 := by have := HQ.out.llen; have := (List.getElem?_eq_some_iff.1 hLk).1; omega
            obtain ⟨v1, hr1, ht1⟩ := (HQ6.out.on HB9.out).fl.one hLk (q := (ki : Int) + 1) (by simp)
            have HT1 := Lib.hid ht1
            have hk9 : IntKind.i64.wrap ((ki : Int) + 1) = (ki : Int) + 1 := IntWalk.i64_in _ (by omega)
            have hk0 : decide (0 ≤ (ki : Int)) = true := decide_eq_true (by omega)
            obtain ⟨z0, z1, z2⟩ := (HQ6.out.on HB9.out).m.cells
            have z3 := (HQ6.out.on HB9.out).m.lt
            clear ho hfn hy' hyp hLk ht1
            rw [hki]
            clear hki
            go_wp2_with fail
            generalize w8.alloc (.cells #[.int .i64 zi, .int .i64 zf, .int .i64 za, .slice zva zs.length zvc, .int .i64 zu] 61) = w9 at *
            rw [← HYB.out]
            obtain ⟨k0, k1, k2, k3, k4⟩ := HKY.out.cells
            have k5 := HKY.out.lt
            refine Mix.regionC (fun _ => False) (by kernel_rfl) ?_
            intro w30 hb30
            refine Mix.take_exC _ _ 0 rfl (by kernel_rfl) (by kernel_rfl) (by kernel_rfl) (by kernel_rfl) (fun K hK => ?_)
            go_simp
            first | (refine hK _ ?_; clear hK K) | (apply Exists.intro; refine ⟨fun x => ?_, hK _ ?_⟩; (fail); clear hK K)
            refine Mix.take_exC _ _ 1 rfl (by kernel_rfl) (by kernel_rfl) (by kernel_rfl) (by kernel_rfl) (fun K hK => ?_)
            go_simp
            first | (refine hK _ ?_; clear hK K) | (apply Exists.intro; refine ⟨fun x => ?_, hK _ ?_⟩; (fail); clear hK K)
            refine Mix.take_exC _ _ 2 rfl (by kernel_rfl) (by kernel_rfl) (by kernel_rfl) (by kernel_rfl) (fun K hK => ?_)
            go_simp
            first | (refine hK _ ?_; clear hK K) | (apply Exists.intro; refine ⟨fun x => ?_, hK _ ?_⟩; (fail); clear hK K)
            refine Mix.take_exC _ _ 3 rfl (by kernel_rfl) (by kernel_rfl) (by kernel_rfl) (by kernel_rfl) (fun K hK => ?_)
            go_simp
            first | (refine hK _ ?_; clear hK K) | (apply Exists.intro; refine ⟨fun x => ?_, hK _ ?_⟩; (fail); clear hK K)
            refine Mix.take_exC _ _ 4 rfl (by kernel_rfl) (by kernel_rfl) (by kernel_rfl) (by kernel_rfl) (fun K hK => ?_)
            go_simp
            first | (refine hK _ ?_; clear hK K) | (apply Exists.intro; refine ⟨fun x => ?_, hK _ ?_⟩; (fail); clear hK K)
            refine Mix.take_exC _ _ 5 rfl (by kernel_rfl) (by kernel_rfl) (by kernel_rfl) (by kernel_rfl) (fun K hK => ?_)
            go_simp
            first | (refine hK _ ?_; clear hK K) | (apply Exists.intro; refine ⟨fun x => ?_, hK _ ?_⟩; (fail); clear hK K)
            refine Mix.take_exC _ _ 6 rfl (by kernel_rfl) (by kernel_rfl) (by kernel_rfl) (by kernel_rfl) (fun K hK => ?_)
            go_simp
            first | (refine hK _ ?_; clear hK K) | (apply Exists.intro; refine ⟨fun x => ?_, hK _ ?_⟩; (fail); clear hK K)
            refine Mix.take_exC _ _ 7 rfl (by kernel_rfl) (by kernel_rfl) (by kernel_rfl) (by kernel_rfl) (fun K hK => ?_)
            go_simp
            first | (refine hK _ ?_; clear hK K) | (apply Exists.intro; refine ⟨fun x => ?_, hK _ ?_⟩; (fail); clear hK K)
            refine Mix.take_exC _ _ 9 rfl (by kernel_rfl) (by kernel_rfl) (by kernel_rfl) (by kernel_rfl) (fun K hK => ?_)
            go_simp
            first | (refine hK _ ?_; clear hK K) | (apply Exists.intro; refine ⟨fun x => ?_, hK _ ?_⟩; (fail); clear hK K)
            refine Mix.take_exC _ _ 10 rfl (by kernel_rfl) (by kernel_rfl) (by kernel_rfl) (by kernel_rfl) (fun K hK => ?_)
            go_simp
            first | (refine hK _ ?_; clear hK K) | (apply Exists.intro; refine ⟨fun x => ?_, hK _ ?_⟩; (fail); clear hK K)
            refine Mix.take_exC _ _ 11 rfl (by kernel_rfl) (by kernel_rfl) (by kernel_rfl) (by kernel_rfl) (fun K hK => ?_)
            go_simp
            first | (refine hK _ ?_; clear hK K) | (apply Exists.intro; refine ⟨fun x => ?_, hK _ ?_⟩; (fail); clear hK K)
            refine Mix.take_exC _ _ 12 rfl (by kernel_rfl) (by kernel_rfl) (by kernel_rfl) (by kernel_rfl) (fun K hK => ?_)
            go_simp
            first | (refine hK _ ?_; clear hK K) | (apply Exists.intro; refine ⟨fun x => ?_, hK _ ?_⟩; (fail); clear hK K)
            refine Mix.take_exC _ _ 13 rfl (by kernel_rfl) (by kernel_rfl) (by kernel_rfl) (by kernel_rfl) (fun K hK => ?_)
            go_simp
            first | (refine hK _ ?_; clear hK K) | (apply Exists.intro; refine ⟨fun x => ?_, hK _ ?_⟩; (fail); clear hK K)
            refine Mix.take_exC _ _ 14 rfl (by kernel_rfl) (by kernel_rfl) (by kernel_rfl) (by kernel_rfl) (fun K hK => ?_)
            go_simp
            first | (refine hK _ ?_; clear hK K) | (apply Exists.intro; refine ⟨fun x => ?_, hK _ ?_⟩; (fail); clear hK K)
            refine Mix.all (rs := [8]) (by kernel_rfl) (by simp) (.of_below _ hb30) ?_
            intro i31 hi31 w31 hb31 hC31
            simp only [List.mem_cons, List.not_mem_nil, or_false] at hi31
            subst hi31
            have HB31 := Lib.hid (bt hb30 hb31)
            clear hC31 hb30 hb31
            refine Mix.op rfl (by kernel_rfl) ?_
            go_simp
            have hb32 := ba HB31.out (.cells #[.int .i64 zi, .int .i64 zf, .int .i64 za, .slice zva zs.length zvc, .int .i64 zu] 61)
            have HK32 := Lib.hid (OfB.made w31 zi zf za (.slice zva zs.length zvc) zu)
            have HB32 := Lib.hid hb32
            clear hb32
            generalize w31.alloc (.cells #[.int .i64 zi, .int .i64 zf, .int .i64 za, .slice zva zs.length zvc, .int .i64 zu] 61) = w32 at *
            generalize w31.heap.size = q32 at *
            refine Mix.all (rs := [15]) (by kernel_rfl) (by simp) (.of_below _ HB32.out) ?_
            intro i33 hi33 w33 hb33 hC33
            simp only [List.mem_cons, List.not_mem_nil, or_false] at hi33
            subst hi33
            have HSM := Lib.hid (sameO_yes (.slice (some ⟨q32, 0, none⟩) 1 1) v1 [⟨zi, zf, za, .slice zva zs.length zvc, zs, zu⟩] [y'] (fun y hy => by
              rw [List.mem_singleton.1 hy]; exact HZL.out) (by
              simp only [List.map_cons, List.map_nil]
              rw [HYP.out]
              have h2 := HZ.out
              rw [HO.out] at h2
              exact congrArg (fun p => [p]) h2) w33 (FL.made (x := ⟨zi, zf, za, .slice zva zs.length zvc, zs, zu⟩) (HK32.out.below hb33) (HZV.out.on (bt HB89.out (bt HB32.out hb33)))) (HT1.out.below (bt HB32.out hb33)))
            have HB33 := Lib.hid (bt HB32.out hb33)
            clear hC33 hb33
            refine Mix.op rfl (by kernel_rfl) ?_
            go_simp
            refine HSM.out.mono ?_
            rintro e w34 ⟨rfl, hb34⟩
            refine ⟨_, rfl, ?_⟩
            have HB34 := Lib.hid (bt HB33.out hb34)
            clear hb34
            refine Mix.take_exC _ _ 16 rfl (by kernel_rfl) (by kernel_rfl) (by kernel_rfl) (by kernel_rfl) (fun K hK => ?_)
            go_simp
            first | (refine hK _ ?_; clear hK K) | (apply Exists.intro; refine ⟨fun x => ?_, hK _ ?_⟩; (fail); clear hK K)
            refine Mix.take_exC _ _ 17 rfl (by kernel_rfl) (by kernel_rfl) (by kernel_rfl) (by kernel_rfl) (fun K hK => ?_)
            go_simp
            first | (refine hK _ ?_; clear hK K) | (apply Exists.intro; refine ⟨fun x => ?_, hK _ ?_⟩; (fail); clear hK K)
            refine Mix.take_exC _ _ 18 rfl (by kernel_rfl) (by kernel_rfl) (by kernel_rfl) (by kernel_rfl) (fun K hK => ?_)
            go_simp
            first | (refine hK _ ?_; clear hK K) | (apply Exists.intro; refine ⟨fun x => ?_, hK _ ?_⟩; (fail); clear hK K)
            refine Mix.done (by kernel_rfl) (.of_below _ HB34.out) ?_
            intro w10 hb35
            have hb10 : Below w9.heap.size w9 w10 := bt HB34.out hb35
            clear hb35 z0 z1 z2 z3 k0 k1 k2 k3 k4 k5 hr1 hk9 hk0 hkn
            have HB910 := Lib.hid hb10
            have HQ10 := Lib.hid (HQ6.out.on (bt HB9.out hb10))
            have HKX10 := Lib.hid (HK6.out.below (bt HB9.out hb10))
            have HKY10 := Lib.hid (HKY.out.below hb10)
            have HZV10 := Lib.hid (HZV.out.on (bt HB89.out hb10))
            clear hb10
            obtain ⟨k0, k1, k2, k3, k4, k5⟩ := HKX10.out.cells
            have k6 := HKX10.out.lt
            cases xe with
            | true =>
              go_wp2_with fail
              refine (voclose HQ10.out.os.ov (by have := HQ10.out.os.len; omega) HGO.out.1).mono ?_
              rintro e w11 ⟨⟨z2, rfl, hz2, hzv2, hzo2⟩, h11, hc11⟩
              rw [HO.out]
              obtain ⟨gi, gf, ga, gv, gs, gu⟩ := z2
              obtain ⟨gva, gvc, hgq, -, -⟩ := hzv2.form
              simp only at hgq hzv2
              subst hgq
              have HACT := Lib.hid (HQ10.out.act hc11)
              have HKX11 := Lib.hid (HKX10.out.chg hc11 HNX.out)
              have HKY11 := Lib.hid (HKY10.out.chg hc11 HNY.out)
              have HZV11 := Lib.hid (show Vc w11 (.slice zva zs.length zvc) zs from HZV10.out.keep hc11 (.inr HZO.out))
              have HG2 := Lib.hid hzv2
              have HGL := Lib.hid (got_len HQ10.out.vr hz2)
              have HGP := Lib.hid (show [(⟨gi, gf, ga, .slice gva gs.length gvc, gs, gu⟩ : Ofr)].map Ofr.pl = [(⟨zi, zf, za, .slice zva zs.length zvc, zs, zu⟩ : Ofr)].map Ofr.pl from by
                simp only [List.map_cons, List.map_nil]; rw [hz2, HZ.out])
              have HTV := Lib.hid h11
              have hb12 := ba (Below.refl w11.heap.size w11) (.cells #[.int .i64 gi, .int .i64 gf, .int .i64 ga, .slice gva gs.length gvc, .int .i64 gu] 61)
              have HKG := Lib.hid (OfB.made w11 gi gf ga (.slice gva gs.length gvc) gu)
              have HB12 := Lib.hid hb12
              clear hzv2 hb12 hz2 h11 hc11 hzo2 k0 k1 k2 k3 k4 k5 k6
              have hk13 := OfB.made (w11.alloc (.cells #[.int .i64 gi, .int .i64 gf, .int .i64 ga, .slice gva gs.length gvc, .int .i64 gu] 61)) gi gf ga (.slice gva gs.length gvc) gu
              have hk14 := OfB.made ((w11.alloc (.cells #[.int .i64 gi, .int .i64 gf, .int .i64 ga, .slice gva gs.length gvc, .int .i64 gu] 61)).alloc (.cells #[.int .i64 gi, .int .i64 gf, .int .i64 ga, .slice gva gs.length gvc, .int .i64 gu] 61)) zi zf za (.slice zva zs.length zvc) zu
              rw [size_all'] at hk13
              rw [size_all', size_all'] at hk14
              have hb13 := ba HB12.out (.cells #[.int .i64 gi, .int .i64 gf, .int .i64 ga, .slice gva gs.length gvc, .int .i64 gu] 61)
              have hky13 := HKY11.out.below hb13
              obtain ⟨k0, k1, k2, k3, k4⟩ := hky13.cells
              have k5 := hky13.lt
              have HK13 := Lib.hid (hk13.below (ba (Below.refl _ _) (.cells #[.int .i64 zi, .int .i64 zf, .int .i64 za, .slice zva zs.length zvc, .int .i64 zu] 61)))
              have HK14 := Lib.hid hk14
              have HB14 := Lib.hid (ba hb13 (.cells #[.int .i64 zi, .int .i64 zf, .int .i64 za, .slice zva zs.length zvc, .int .i64 zu] 61))
              clear hk13 hk14 hb13 hky13
              go_wp2_with fail
              clear k0 k1 k2 k3 k4 k5
              generalize ((w11.alloc (.cells #[.int .i64 gi, .int .i64 gf, .int .i64 ga, .slice gva gs.length gvc, .int .i64 gu] 61)).alloc (.cells #[.int .i64 gi, .int .i64 gf, .int .i64 ga, .slice gva gs.length gvc, .int .i64 gu] 61)).alloc (.cells #[.int .i64 zi, .int .i64 zf, .int .i64 za, .slice zva zs.length zvc, .int .i64 zu] 61) = w14 at *
              refine (sameO_yes (.slice (some ⟨w11.heap.size + 1, 0, none⟩) 1 1) (.slice (some ⟨w11.heap.size + 1 + 1, 0, none⟩) 1 1) [⟨gi, gf, ga, .slice gva gs.length gvc, gs, gu⟩] [⟨zi, zf, za, .slice zva zs.length zvc, zs, zu⟩] (fun y hy => by
                rw [List.mem_singleton.1 hy]; exact HGL.out) HGP.out w14 (FL.made HK13.out (HG2.out.on HB14.out)) (FL.made HK14.out (HZV11.out.on HB14.out))).mono ?_
              rintro e w15 ⟨rfl, hb15⟩
              have HB15 := Lib.hid (bt HB14.out hb15)
              clear hb15
              have hmb := HACT.out.1.below HB15.out
              have hml := HACT.out.2.1.below HB15.out
              obtain ⟨z0, z1, z2⟩ := hmb.cells
              have z3 := hmb.lt
              have hkx := HKX11.out.below HB15.out
              obtain ⟨k0, k1, k2, k3, k4, k5⟩ := hkx.cells
              have k6 := hkx.lt
              have HMB := Lib.hid hmb; have HML := Lib.hid hml
              clear hmb hml hkx
              go_wp2_with fail
              refine (mclose HML.out (fun y hy => (HQ10.out.vec y hy).on (HACT.out.2.2.trans (HB15.out.mono HACT.out.2.2.size))) (by have := HQ10.out.llen; omega) xi).mono ?_
              rintro e w16 ⟨v', rfl, hq⟩
              obtain ⟨na, nn, nc, rfl, -, -, -, -⟩ := hq.rs.at_
              have hmb := HMB.out.below hq.bel
              have HI := Lib.hid (HQ10.out.both (v' := .slice na nn nc) (L' := delO L xi) (l' := last) ((HTV.out.below HB15.out).below hq.bel) hmb hq.rs (by rw [pl_delO, HQ10.out.pl]) (fun y hy => HQ10.out.vec y (Srt.mem_del.1 hy).1) (fun b hb => by
                have h1 := hq.own b hb; have h2 := HB15.out.size; have h3 := HACT.out.2.2.size
                exact ⟨fun e => by have := (HTV.out.hK b e).2; omega, by have := HMB.out.lt; omega, h1.2⟩) HQ10.out.nK (HACT.out.2.2.trans ((HB15.out.mono HACT.out.2.2.size).trans (hq.bel.mono (Nat.le_trans HACT.out.2.2.size HB15.out.size)))) (Nat.le_trans delP_len (Nat.le_succ_of_le HQ10.out.os.len)))
              obtain ⟨y0, y1, y2⟩ := hmb.cells
              have y3 := hmb.lt
              have y4 := hmb.fz 0; have y5 := hmb.fz 1; have y6 := hmb.fz 2
              clear hmb hq z0 z1 z2 z3 k0 k1 k2 k3 k4 k5 k6
              go_wp2
              go_roundw
              case rel => exact ⟨t + 1, _, _, _, _, _, by omega, by go_num, HI⟩
              case measure => simp [intOf]; omega
            | false =>
              have HFL := Lib.hid HQ10.out.fl
              obtain ⟨z0, z1, z2⟩ := HQ10.out.m.cells
              have z3 := HQ10.out.m.lt
              have HG10 := Lib.hid (HGO.out.2.on (bt HB9.out HB910.out))
              have HCN := Lib.hid HQ10.out.os.ov.cnt
              go_wp2_with fail
              refine (missue HFL.out (by have := HQ10.out.llen; omega) HCN.out ⟨xi, xf, xa, .slice va xs.length vc, xs, xu⟩ HG10.out.vc HG10.out.len).mono ?_
              rintro e w11 ⟨v', rfl, hrs, hown, hb11⟩
              obtain ⟨na, nn, nc, rfl, -, -, -, -⟩ := hrs.at_
              have HRS := Lib.hid hrs; have HOWN := Lib.hid hown; have HB11 := Lib.hid hb11
              clear k0 k1 k2 k3 k4 k5 k6 z0 z1 z2 z3 hrs hown hb11
              generalize hlq : issL great last (Ofr.pl ⟨xi, xf, xa, .slice va xs.length vc, xs, xu⟩) = l' at *
              have hb12 := ba (Below.refl w11.heap.size w11) (.cells #[.int .i64 great, .int .i64 l', .slice na nn nc] 56)
              have HMN := Lib.hid (MB.made w11 great l' (.slice na nn nc))
              have HB12 := Lib.hid (bt HB11.out hb12)
              have HRS12 := Lib.hid (HRS.out.below hb12)
              have hk12 := HKX10.out.below HB12.out
              have HLQ := Lib.hid hlq
              clear hb12 hlq
              obtain ⟨k0, k1, k2, k3, k4, k5⟩ := hk12.cells
              have k6 := hk12.lt
              clear hk12
              go_wp2_with fail
              generalize w11.alloc (.cells #[.int .i64 great, .int .i64 l', .slice na nn nc] 56) = w12 at *
              obtain ⟨nb, hnb⟩ : ∃ k, k = w11.heap.size := ⟨_, rfl⟩
              rw [← hnb] at HMN ⊢
              have HNB := Lib.hid (show w10.heap.size ≤ nb from by rw [hnb]; exact HB11.out.size)
              have HNS := Lib.hid hnb
              clear hnb
              refine (voissue (HQ10.out.on HB12.out).os.ov (HQ10.out.on HB12.out).os.bel.size ⟨xi, xf, xa, .slice va xs.length vc, xs, xu⟩ (HG10.out.on HB12.out)).mono ?_
              rintro e w13 ⟨rfl, K', h13, hc13, hk13⟩
              rw [HLQ.out] at h13
              have hact := (HQ10.out.on HB12.out).act hc13
              have hKl := (HQ10.out.os.ov.hK)
              have hMN := HMN.out.chg hc13 (fun e => by have := (hKl nb e).2; have := HNB.out; omega)
              have hmlt := HQ10.out.m.lt
              have HI := Lib.hid ((HQ10.out.on HB12.out).both (v' := .slice na nn nc) (L' := if PfOk (Ofr.pl ⟨xi, xf, xa, .slice va xs.length vc, xs, xu⟩) ∧ last < great then L ++ [⟨last + 1, xf, xa, .slice va xs.length vc, xs, xu⟩] else L) (l' := l') h13 hact.1 (HRS12.out.chg hc13 (fun b hb e => by
                  rcases HOWN.out b hb with h | h
                  · exact (HQ10.out.own b h).1 e
                  · have := (hKl b e).2; omega)) (by
                  unfold issP
                  split
                  · rw [List.map_append, HQ10.out.pl]; rfl
                  · exact HQ10.out.pl) (fun y hy => by
                  split at hy
                  · rcases List.mem_append.1 hy with h | h
                    · exact HQ10.out.vec y h
                    · rw [List.mem_singleton.1 h]; exact HXV.out
                  · exact HQ10.out.vec y hy) (fun b hb => by
                  have hs := HB12.out.size; have hs2 := hc13.size
                  rcases HOWN.out b hb with h | h
                  · have h1 := HQ10.out.own b h
                    exact ⟨fun e => (hk13 b e).elim h1.1 fun e => by omega, h1.2.1, by omega⟩
                  · have hb12 : b < w12.heap.size := by have := HNS.out; have := HMN.out.lt; omega
                    exact ⟨fun e => (hk13 b e).elim (fun e => by have := (hKl b e).2; omega) fun e => by omega, by omega, by omega⟩) (fun e => (hk13 mb e).elim HQ10.out.nK fun e => by have := HB12.out.size; omega) hact.2.2 (Nat.le_trans issP_len (Nat.succ_le_succ HQ10.out.os.len)))
              obtain ⟨y0, y1, y2⟩ := hMN.cells
              have y3 := hMN.lt
              obtain ⟨z0, z1, z2⟩ := hact.1.cells
              have z3 := hact.1.lt
              have z4 := hact.1.fz 0; have z5 := hact.1.fz 1; have z6 := hact.1.fz 2
              clear h13 hc13 hact hMN hmlt hk13 hKl k0 k1 k2 k3 k4 k5 k6
              generalize issE great last (Ofr.pl ⟨xi, xf, xa, .slice va xs.length vc, xs, xu⟩) = er at *
              generalize issN great last (Ofr.pl ⟨xi, xf, xa, .slice va xs.length vc, xs, xu⟩) = nr at *
              go_wp2
              go_roundw
              case rel => exact ⟨t + 1, _, _, _, _, _, by omega, by go_num, HI⟩
              case measure => simp [intOf]; omega
        · obtain rfl : n = t := by omega
          have hPl : P.length < 1000000 := by have := HQ.out.os.len; omega
          have HLG := Lib.hid fun x : ExtC w5 (fun _ => False) => (volast (HQ.out.on ((extC_chg w5 _ x).below (Nat.le_refl _) fun k h => h.elim)).os.ov).mono (fun e w' ⟨h1, h2⟩ => (⟨h1, by rw [h2]; exact Below.refl _ _⟩ : e = Ending.returned (.int .i64 last) ∧ Below (extC w5 (fun _ => False) x).heap.size (extC w5 (fun _ => False) x) w'))
          obtain ⟨z0, z1, z2⟩ := HQ.out.m.cells
          have z3 := HQ.out.m.lt
          have hi3 : ib < w5.heap.size := by have := HIB.out; have := HQ.out.os.bel.size; omega
          have hcI := (HQ.out.os.bel.block ib HIB.out).trans HCI.out
          have hi0c : w5.cell? ⟨ib, 0, none⟩ = some (.int .i64 i0) := by simp [World.cell?, hcI]
          have hi1c : w5.cell? ⟨ib, 1, none⟩ = some (.int .i64 i1) := by simp [World.cell?, hcI]
          have HFIN := Lib.hid (show ∀ w', Below w5.heap.size w5 w' → Below W.heap.size W w' from fun w' hb => by
            rw [← HIQ.out]
            exact HBI.out.trans ((HQ.out.os.bel.trans (hb.mono HQ.out.os.bel.size)).mono (Nat.le_of_lt HIB.out)))
          have HCC := Lib.hid (And.intro hi0c (And.intro hi1c hi3))
          clear hcI
          by_cases h0 : i0 = 0
          · have h0b : (i0 == 0) = true := by simpa using h0
            clear h0
            go_wp2_with fail
            refine Mix.regionC (fun _ => False) (by kernel_rfl) ?_
            intro w30 hb30
            refine Mix.take_exC _ _ 0 rfl (by kernel_rfl) (by kernel_rfl) (by kernel_rfl) (by kernel_rfl) (fun K hK => ?_)
            go_simp
            first | (refine hK _ ?_; clear hK K) | (apply Exists.intro; refine ⟨fun x => ?_, hK _ ?_⟩; (fail); clear hK K)
            refine Mix.take_exC _ _ 2 rfl (by kernel_rfl) (by kernel_rfl) (by kernel_rfl) (by kernel_rfl) (fun K hK => ?_)
            go_simp
            first | (refine hK _ ?_; clear hK K) | (apply Exists.intro; refine ⟨fun x => ?_, hK _ ?_⟩; (fail); clear hK K)
            refine Mix.take_exC _ _ 3 rfl (by kernel_rfl) (by kernel_rfl) (by kernel_rfl) (by kernel_rfl) (fun K hK => ?_)
            go_simp
            first | (refine hK _ ?_; clear hK K) | (apply Exists.intro; refine ⟨fun x => ?_, hK _ ?_⟩; (fail); clear hK K)
            refine Mix.all (rs := [1]) (by kernel_rfl) (by simp) (.of_below _ hb30) ?_
            intro i31 hi31 w31 hb31 hC31
            simp only [List.mem_cons, List.not_mem_nil, or_false] at hi31
            subst hi31
            have HB31 := Lib.hid (bt hb30 hb31)
            clear hC31 hb30 hb31
            refine Mix.op rfl (by kernel_rfl) ?_
            go_simp
            refine (voall (HQ.out.on HB31.out).os.ov hPl).mono ?_
            rintro e w32 ⟨va2, la, rfl, hla, hpa, -, -, hb32⟩
            refine ⟨_, rfl, ?_⟩
            have HLA := Lib.hid hla; have HPA := Lib.hid hpa
            have HB32 := Lib.hid (bt HB31.out hb32)
            clear hla hpa hb32
            refine Mix.all (rs := [4]) (by kernel_rfl) (by simp) (.of_below _ HB32.out) ?_
            intro i33 hi33 w33 hb33 hC33
            simp only [List.mem_cons, List.not_mem_nil, or_false] at hi33
            subst hi33
            have HB33 := Lib.hid (bt HB32.out hb33)
            have HSM := Lib.hid (sameO_yes va2 (.slice ma mn mc) la L (fun y hy => by
              have h1 := HQ.out.vr y.pl (by rw [← HPA.out]; exact List.mem_map.2 ⟨y, hy, rfl⟩)
              have h2 : y.ps.length ≤ 132 := vr_len h1
              omega) (by rw [HPA.out, HQ.out.pl]) w33 (HLA.out.below hb33) (HQ.out.on HB33.out).fl)
            clear hC33 hb33
            refine Mix.op rfl (by kernel_rfl) ?_
            go_simp
            refine HSM.out.mono ?_
            rintro e w34 ⟨rfl, hb34⟩
            refine ⟨_, rfl, ?_⟩
            have HB34 := Lib.hid (bt HB33.out hb34)
            clear hb34
            refine Mix.take_exC _ _ 5 rfl (by kernel_rfl) (by kernel_rfl) (by kernel_rfl) (by kernel_rfl) (fun K hK => ?_)
            go_simp
            first | (refine hK _ ?_; clear hK K) | (apply Exists.intro; refine ⟨fun x => ?_, hK _ ?_⟩; (fail); clear hK K)
            refine Mix.take_exC _ _ 6 rfl (by kernel_rfl) (by kernel_rfl) (by kernel_rfl) (by kernel_rfl) (fun K hK => ?_)
            go_simp
            first | (refine hK _ ?_; clear hK K) | (apply Exists.intro; refine ⟨fun x => ?_, hK _ ?_⟩; (fail); clear hK K)
            refine Mix.take_exC _ _ 7 rfl (by kernel_rfl) (by kernel_rfl) (by kernel_rfl) (by kernel_rfl) (fun K hK => ?_)
            go_simp
            first | (refine hK _ ?_; clear hK K) | (apply Exists.intro; refine ⟨fun x => ?_, hK _ ?_⟩; (fail); clear hK K)
            refine Mix.take_exC _ _ 8 rfl (by kernel_rfl) (by kernel_rfl) (by kernel_rfl) (by kernel_rfl) (fun K hK => ?_)
            go_simp
            first | (refine hK _ ?_; clear hK K) | (apply Exists.intro; refine ⟨fun x => ?_, hK _ ?_⟩; (((go_at_call 40; with_reducible exact HLG.out _))); clear hK K)
            refine Mix.take_exC _ _ 9 rfl (by kernel_rfl) (by kernel_rfl) (by kernel_rfl) (by kernel_rfl) (fun K hK => ?_)
            go_simp
            first | (refine hK _ ?_; clear hK K) | (apply Exists.intro; refine ⟨fun x => ?_, hK _ ?_⟩; (fail); clear hK K)
            refine Mix.take_exC _ _ 10 rfl (by kernel_rfl) (by kernel_rfl) (by kernel_rfl) (by kernel_rfl) (fun K hK => ?_)
            go_simp
            first | (refine hK _ ?_; clear hK K) | (apply Exists.intro; refine ⟨fun x => ?_, hK _ ?_⟩; (fail); clear hK K)
            refine Mix.take_exC _ _ 11 rfl (by kernel_rfl) (by kernel_rfl) (by kernel_rfl) (by kernel_rfl) (fun K hK => ?_)
            go_simp
            first | (refine hK _ ?_; clear hK K) | (apply Exists.intro; refine ⟨fun x => ?_, hK _ ?_⟩; (fail); clear hK K)
            refine Mix.take_exC _ _ 12 rfl (by kernel_rfl) (by kernel_rfl) (by kernel_rfl) (by kernel_rfl) (fun K hK => ?_)
            go_simp
            first | (refine hK _ ?_; clear hK K) | (apply Exists.intro; refine ⟨fun x => ?_, hK _ ?_⟩; (fail); clear hK K)
            refine Mix.take_exC _ _ 13 rfl (by kernel_rfl) (by kernel_rfl) (by kernel_rfl) (by kernel_rfl) (fun K hK => ?_)
            go_simp
            first | (refine hK _ ?_; clear hK K) | (apply Exists.intro; refine ⟨fun x => ?_, hK _ ?_⟩; (fail); clear hK K)
            refine Mix.take_exC _ _ 14 rfl (by kernel_rfl) (by kernel_rfl) (by kernel_rfl) (by kernel_rfl) (fun K hK => ?_)
            go_simp
            first | (refine hK _ ?_; clear hK K) | (apply Exists.intro; refine ⟨fun x => ?_, hK _ ?_⟩; (fail); clear hK K)
            refine Mix.take_exC _ _ 15 rfl (by kernel_rfl) (by kernel_rfl) (by kernel_rfl) (by kernel_rfl) (fun K hK => ?_)
            go_simp
            first | (refine hK _ ?_; clear hK K) | (apply Exists.intro; refine ⟨fun x => ?_, hK _ ?_⟩; (fail); clear hK K)
            refine Mix.take_exC _ _ 16 rfl (by kernel_rfl) (by kernel_rfl) (by kernel_rfl) (by kernel_rfl) (fun K hK => ?_)
            go_simp
            first | (refine hK _ ?_; clear hK K) | (apply Exists.intro; refine ⟨fun x => ?_, hK _ ?_⟩; (fail); clear hK K)
            refine Mix.take_exC _ _ 17 rfl (by kernel_rfl) (by kernel_rfl) (by kernel_rfl) (by kernel_rfl) (fun K hK => ?_)
            go_simp
            first | (refine hK _ ?_; clear hK K) | (apply Exists.intro; refine ⟨fun x => ?_, hK _ ?_⟩; (fail); clear hK K)
            refine Mix.take_exC _ _ 18 rfl (by kernel_rfl) (by kernel_rfl) (by kernel_rfl) (by kernel_rfl) (fun K hK => ?_)
            go_simp
            first | (refine hK _ ?_; clear hK K) | (apply Exists.intro; refine ⟨fun x => ?_, hK _ ?_⟩; (fail); clear hK K)
            refine Mix.skip_C _ _ 19 rfl (by kernel_rfl) (by kernel_rfl) (by kernel_rfl) (by kernel_rfl) ?_
            go_simp
            refine Mix.skip_C _ _ 20 rfl (by kernel_rfl) (by kernel_rfl) (by kernel_rfl) (by kernel_rfl) ?_
            go_simp
            refine Mix.skip_C _ _ 21 rfl (by kernel_rfl) (by kernel_rfl) (by kernel_rfl) (by kernel_rfl) ?_
            go_simp
            refine Mix.take_exC _ _ 22 rfl (by kernel_rfl) (by kernel_rfl) (by kernel_rfl) (by kernel_rfl) (fun K hK => ?_)
            go_simp
            first | (refine hK _ ?_; clear hK K) | (apply Exists.intro; refine ⟨fun x => ?_, hK _ ?_⟩; (fail); clear hK K)
            refine Mix.done (by kernel_rfl) (.of_below _ HB34.out) ?_
            intro w36 hb36
            have HB36 := Lib.hid (bt HB34.out hb36)
            clear hb36 z0 z1 z2 z3 hi0c hi1c hi3
            have HQ36 := Lib.hid (HQ.out.on HB36.out)
            obtain ⟨z0, z1, z2⟩ := HQ36.out.m.cells
            have z3 := HQ36.out.m.lt
            have HLH := Lib.hid fun x : ExtC w36 (fun _ => False) => (volast (HQ36.out.on ((extC_chg w36 _ x).below (Nat.le_refl _) fun k h => h.elim)).os.ov).mono (fun e w' ⟨h1, h2⟩ => (⟨h1, by rw [h2]; exact Below.refl _ _⟩ : e = Ending.returned (.int .i64 last) ∧ Below (extC w36 (fun _ => False) x).heap.size (extC w36 (fun _ => False) x) w'))
            go_wp2_with fail
            refine Mix.regionC (fun _ => False) (by kernel_rfl) ?_
            intro w40 hb40
            refine Mix.take_exC _ _ 0 rfl (by kernel_rfl) (by kernel_rfl) (by kernel_rfl) (by kernel_rfl) (fun K hK => ?_)
            go_simp
            first | (refine hK _ ?_; clear hK K) | (apply Exists.intro; refine ⟨fun x => ?_, hK _ ?_⟩; (fail); clear hK K)
            refine Mix.take_exC _ _ 2 rfl (by kernel_rfl) (by kernel_rfl) (by kernel_rfl) (by kernel_rfl) (fun K hK => ?_)
            go_simp
            first | (refine hK _ ?_; clear hK K) | (apply Exists.intro; refine ⟨fun x => ?_, hK _ ?_⟩; (fail); clear hK K)
            refine Mix.take_exC _ _ 3 rfl (by kernel_rfl) (by kernel_rfl) (by kernel_rfl) (by kernel_rfl) (fun K hK => ?_)
            go_simp
            first | (refine hK _ ?_; clear hK K) | (apply Exists.intro; refine ⟨fun x => ?_, hK _ ?_⟩; (fail); clear hK K)
            refine Mix.all (rs := [1]) (by kernel_rfl) (by simp) (.of_below _ hb40) ?_
            intro i41 hi41 w41 hb41 hC41
            simp only [List.mem_cons, List.not_mem_nil, or_false] at hi41
            subst hi41
            have HB41 := Lib.hid (bt hb40 hb41)
            clear hC41 hb40 hb41
            refine Mix.op rfl (by kernel_rfl) ?_
            go_simp
            refine (voall (HQ36.out.on HB41.out).os.ov hPl).mono ?_
            rintro e w42 ⟨va3, lb, rfl, hla, hpa, -, -, hb42⟩
            refine ⟨_, rfl, ?_⟩
            have HLB := Lib.hid hla; have HPB := Lib.hid hpa
            have HB42 := Lib.hid (bt HB41.out hb42)
            clear hla hpa hb42
            refine Mix.all (rs := [4]) (by kernel_rfl) (by simp) (.of_below _ HB42.out) ?_
            intro i43 hi43 w43 hb43 hC43
            simp only [List.mem_cons, List.not_mem_nil, or_false] at hi43
            subst hi43
            have HB43 := Lib.hid (bt HB42.out hb43)
            have HSN := Lib.hid (sameO_yes va3 (.slice ma mn mc) lb L (fun y hy => by
              have h1 := HQ.out.vr y.pl (by rw [← HPB.out]; exact List.mem_map.2 ⟨y, hy, rfl⟩)
              have h2 : y.ps.length ≤ 132 := vr_len h1
              omega) (by rw [HPB.out, HQ.out.pl]) w43 (HLB.out.below hb43) (HQ36.out.on HB43.out).fl)
            clear hC43 hb43
            refine Mix.op rfl (by kernel_rfl) ?_
            go_simp
            refine HSN.out.mono ?_
            rintro e w44 ⟨rfl, hb44⟩
            refine ⟨_, rfl, ?_⟩
            have HB44 := Lib.hid (bt HB43.out hb44)
            clear hb44
            refine Mix.take_exC _ _ 5 rfl (by kernel_rfl) (by kernel_rfl) (by kernel_rfl) (by kernel_rfl) (fun K hK => ?_)
            go_simp
            first | (refine hK _ ?_; clear hK K) | (apply Exists.intro; refine ⟨fun x => ?_, hK _ ?_⟩; (fail); clear hK K)
            refine Mix.take_exC _ _ 6 rfl (by kernel_rfl) (by kernel_rfl) (by kernel_rfl) (by kernel_rfl) (fun K hK => ?_)
            go_simp
            first | (refine hK _ ?_; clear hK K) | (apply Exists.intro; refine ⟨fun x => ?_, hK _ ?_⟩; (fail); clear hK K)
            refine Mix.take_exC _ _ 7 rfl (by kernel_rfl) (by kernel_rfl) (by kernel_rfl) (by kernel_rfl) (fun K hK => ?_)
            go_simp
            first | (refine hK _ ?_; clear hK K) | (apply Exists.intro; refine ⟨fun x => ?_, hK _ ?_⟩; (((go_at_call 40; with_reducible exact HLH.out _))); clear hK K)
            refine Mix.take_exC _ _ 8 rfl (by kernel_rfl) (by kernel_rfl) (by kernel_rfl) (by kernel_rfl) (fun K hK => ?_)
            go_simp
            first | (refine hK _ ?_; clear hK K) | (apply Exists.intro; refine ⟨fun x => ?_, hK _ ?_⟩; (fail); clear hK K)
            refine Mix.take_exC _ _ 9 rfl (by kernel_rfl) (by kernel_rfl) (by kernel_rfl) (by kernel_rfl) (fun K hK => ?_)
            go_simp
            first | (refine hK _ ?_; clear hK K) | (apply Exists.intro; refine ⟨fun x => ?_, hK _ ?_⟩; (fail); clear hK K)
            refine Mix.take_exC _ _ 10 rfl (by kernel_rfl) (by kernel_rfl) (by kernel_rfl) (by kernel_rfl) (fun K hK => ?_)
            go_simp
            first | (refine hK _ ?_; clear hK K) | (apply Exists.intro; refine ⟨fun x => ?_, hK _ ?_⟩; (fail); clear hK K)
            refine Mix.take_exC _ _ 11 rfl (by kernel_rfl) (by kernel_rfl) (by kernel_rfl) (by kernel_rfl) (fun K hK => ?_)
            go_simp
            first | (refine hK _ ?_; clear hK K) | (apply Exists.intro; refine ⟨fun x => ?_, hK _ ?_⟩; (fail); clear hK K)
            refine Mix.take_exC _ _ 12 rfl (by kernel_rfl) (by kernel_rfl) (by kernel_rfl) (by kernel_rfl) (fun K hK => ?_)
            go_simp
            first | (refine hK _ ?_; clear hK K) | (apply Exists.intro; refine ⟨fun x => ?_, hK _ ?_⟩; (fail); clear hK K)
            refine Mix.take_exC _ _ 13 rfl (by kernel_rfl) (by kernel_rfl) (by kernel_rfl) (by kernel_rfl) (fun K hK => ?_)
            go_simp
            first | (refine hK _ ?_; clear hK K) | (apply Exists.intro; refine ⟨fun x => ?_, hK _ ?_⟩; (((go_at_call 31; with_reducible exact works24 _))); clear hK K)
            refine Mix.take_exC _ _ 14 rfl (by kernel_rfl) (by kernel_rfl) (by kernel_rfl) (by kernel_rfl) (fun K hK => ?_)
            go_simp
            first | (refine hK _ ?_; clear hK K) | (apply Exists.intro; refine ⟨fun x => ?_, hK _ ?_⟩; (fail); clear hK K)
            refine Mix.take_exC _ _ 15 rfl (by kernel_rfl) (by kernel_rfl) (by kernel_rfl) (by kernel_rfl) (fun K hK => ?_)
            go_simp
            first | (refine hK _ ?_; clear hK K) | (apply Exists.intro; refine ⟨fun x => ?_, hK _ ?_⟩; (fail); clear hK K)
            refine Mix.done (by kernel_rfl) (.of_below _ HB44.out) ?_
            intro w46 hb46
            have HB46 := Lib.hid (bt HB36.out (bt HB44.out hb46))
            clear hb46
            go_wp2
            go_ret
            exact ⟨rfl, HFIN.out _ HB46.out⟩
          · have h0b : (i0 == 0) = false := by simpa using h0
            by_cases h1 : i1 = 0
            · have h1b : (i1 == 0) = true := by simpa using h1
              clear h0 h1
              go_wp2_with fail
              refine Mix.regionC (fun _ => False) (by kernel_rfl) ?_
              intro w30 hb30
              refine Mix.take_exC _ _ 0 rfl (by kernel_rfl) (by kernel_rfl) (by kernel_rfl) (by kernel_rfl) (fun K hK => ?_)
              go_simp
              first | (refine hK _ ?_; clear hK K) | (apply Exists.intro; refine ⟨fun x => ?_, hK _ ?_⟩; (fail); clear hK K)
              refine Mix.take_exC _ _ 2 rfl (by kernel_rfl) (by kernel_rfl) (by kernel_rfl) (by kernel_rfl) (fun K hK => ?_)
              go_simp
              first | (refine hK _ ?_; clear hK K) | (apply Exists.intro; refine ⟨fun x => ?_, hK _ ?_⟩; (fail); clear hK K)
              refine Mix.take_exC _ _ 3 rfl (by kernel_rfl) (by kernel_rfl) (by kernel_rfl) (by kernel_rfl) (fun K hK => ?_)
              go_simp
              first | (refine hK _ ?_; clear hK K) | (apply Exists.intro; refine ⟨fun x => ?_, hK _ ?_⟩; (fail); clear hK K)
              refine Mix.all (rs := [1]) (by kernel_rfl) (by simp) (.of_below _ hb30) ?_
              intro i31 hi31 w31 hb31 hC31
              simp only [List.mem_cons, List.not_mem_nil, or_false] at hi31
              subst hi31
              have HB31 := Lib.hid (bt hb30 hb31)
              clear hC31 hb30 hb31
              refine Mix.op rfl (by kernel_rfl) ?_
              go_simp
              refine (voall (HQ.out.on HB31.out).os.ov hPl).mono ?_
              rintro e w32 ⟨va2, la, rfl, hla, hpa, -, -, hb32⟩
              refine ⟨_, rfl, ?_⟩
              have HLA := Lib.hid hla; have HPA := Lib.hid hpa
              have HB32 := Lib.hid (bt HB31.out hb32)
              clear hla hpa hb32
              refine Mix.all (rs := [4]) (by kernel_rfl) (by simp) (.of_below _ HB32.out) ?_
              intro i33 hi33 w33 hb33 hC33
              simp only [List.mem_cons, List.not_mem_nil, or_false] at hi33
              subst hi33
              have HB33 := Lib.hid (bt HB32.out hb33)
              have HSM := Lib.hid (sameO_yes va2 (.slice ma mn mc) la L (fun y hy => by
                have h1 := HQ.out.vr y.pl (by rw [← HPA.out]; exact List.mem_map.2 ⟨y, hy, rfl⟩)
                have h2 : y.ps.length ≤ 132 := vr_len h1
                omega) (by rw [HPA.out, HQ.out.pl]) w33 (HLA.out.below hb33) (HQ.out.on HB33.out).fl)
              clear hC33 hb33
              refine Mix.op rfl (by kernel_rfl) ?_
              go_simp
              refine HSM.out.mono ?_
              rintro e w34 ⟨rfl, hb34⟩
              refine ⟨_, rfl, ?_⟩
              have HB34 := Lib.hid (bt HB33.out hb34)
              clear hb34
              refine Mix.take_exC _ _ 5 rfl (by kernel_rfl) (by kernel_rfl) (by kernel_rfl) (by kernel_rfl) (fun K hK => ?_)
              go_simp
              first | (refine hK _ ?_; clear hK K) | (apply Exists.intro; refine ⟨fun x => ?_, hK _ ?_⟩; (fail); clear hK K)
              refine Mix.take_exC _ _ 6 rfl (by kernel_rfl) (by kernel_rfl) (by kernel_rfl) (by kernel_rfl) (fun K hK => ?_)
              go_simp
              first | (refine hK _ ?_; clear hK K) | (apply Exists.intro; refine ⟨fun x => ?_, hK _ ?_⟩; (fail); clear hK K)
              refine Mix.take_exC _ _ 7 rfl (by kernel_rfl) (by kernel_rfl) (by kernel_rfl) (by kernel_rfl) (fun K hK => ?_)
              go_simp
              first | (refine hK _ ?_; clear hK K) | (apply Exists.intro; refine ⟨fun x => ?_, hK _ ?_⟩; (fail); clear hK K)
              refine Mix.take_exC _ _ 8 rfl (by kernel_rfl) (by kernel_rfl) (by kernel_rfl) (by kernel_rfl) (fun K hK => ?_)
              go_simp
              first | (refine hK _ ?_; clear hK K) | (apply Exists.intro; refine ⟨fun x => ?_, hK _ ?_⟩; (((go_at_call 40; with_reducible exact HLG.out _))); clear hK K)
              refine Mix.take_exC _ _ 9 rfl (by kernel_rfl) (by kernel_rfl) (by kernel_rfl) (by kernel_rfl) (fun K hK => ?_)
              go_simp
              first | (refine hK _ ?_; clear hK K) | (apply Exists.intro; refine ⟨fun x => ?_, hK _ ?_⟩; (fail); clear hK K)
              refine Mix.take_exC _ _ 10 rfl (by kernel_rfl) (by kernel_rfl) (by kernel_rfl) (by kernel_rfl) (fun K hK => ?_)
              go_simp
              first | (refine hK _ ?_; clear hK K) | (apply Exists.intro; refine ⟨fun x => ?_, hK _ ?_⟩; (fail); clear hK K)
              refine Mix.take_exC _ _ 11 rfl (by kernel_rfl) (by kernel_rfl) (by kernel_rfl) (by kernel_rfl) (fun K hK => ?_)
              go_simp
              first | (refine hK _ ?_; clear hK K) | (apply Exists.intro; refine ⟨fun x => ?_, hK _ ?_⟩; (fail); clear hK K)
              refine Mix.take_exC _ _ 12 rfl (by kernel_rfl) (by kernel_rfl) (by kernel_rfl) (by kernel_rfl) (fun K hK => ?_)
              go_simp
              first | (refine hK _ ?_; clear hK K) | (apply Exists.intro; refine ⟨fun x => ?_, hK _ ?_⟩; (fail); clear hK K)
              refine Mix.take_exC _ _ 13 rfl (by kernel_rfl) (by kernel_rfl) (by kernel_rfl) (by kernel_rfl) (fun K hK => ?_)
              go_simp
              first | (refine hK _ ?_; clear hK K) | (apply Exists.intro; refine ⟨fun x => ?_, hK _ ?_⟩; (fail); clear hK K)
              refine Mix.take_exC _ _ 14 rfl (by kernel_rfl) (by kernel_rfl) (by kernel_rfl) (by kernel_rfl) (fun K hK => ?_)
              go_simp
              first | (refine hK _ ?_; clear hK K) | (apply Exists.intro; refine ⟨fun x => ?_, hK _ ?_⟩; (fail); clear hK K)
              refine Mix.take_exC _ _ 15 rfl (by kernel_rfl) (by kernel_rfl) (by kernel_rfl) (by kernel_rfl) (fun K hK => ?_)
              go_simp
              first | (refine hK _ ?_; clear hK K) | (apply Exists.intro; refine ⟨fun x => ?_, hK _ ?_⟩; (fail); clear hK K)
              refine Mix.take_exC _ _ 16 rfl (by kernel_rfl) (by kernel_rfl) (by kernel_rfl) (by kernel_rfl) (fun K hK => ?_)
              go_simp
              first | (refine hK _ ?_; clear hK K) | (apply Exists.intro; refine ⟨fun x => ?_, hK _ ?_⟩; (fail); clear hK K)
              refine Mix.take_exC _ _ 17 rfl (by kernel_rfl) (by kernel_rfl) (by kernel_rfl) (by kernel_rfl) (fun K hK => ?_)
              go_simp
              first | (refine hK _ ?_; clear hK K) | (apply Exists.intro; refine ⟨fun x => ?_, hK _ ?_⟩; (fail); clear hK K)
              refine Mix.take_exC _ _ 18 rfl (by kernel_rfl) (by kernel_rfl) (by kernel_rfl) (by kernel_rfl) (fun K hK => ?_)
              go_simp
              first | (refine hK _ ?_; clear hK K) | (apply Exists.intro; refine ⟨fun x => ?_, hK _ ?_⟩; (fail); clear hK K)
              refine Mix.take_exC _ _ 19 rfl (by kernel_rfl) (by kernel_rfl) (by kernel_rfl) (by kernel_rfl) (fun K hK => ?_)
              go_simp
              first | (refine hK _ ?_; clear hK K) | (apply Exists.intro; refine ⟨fun x => ?_, hK _ ?_⟩; (fail); clear hK K)
              refine Mix.take_exC _ _ 20 rfl (by kernel_rfl) (by kernel_rfl) (by kernel_rfl) (by kernel_rfl) (fun K hK => ?_)
              go_simp
              first | (refine hK _ ?_; clear hK K) | (apply Exists.intro; refine ⟨fun x => ?_, hK _ ?_⟩; (fail); clear hK K)
              refine Mix.take_exC _ _ 21 rfl (by kernel_rfl) (by kernel_rfl) (by kernel_rfl) (by kernel_rfl) (fun K hK => ?_)
              go_simp
              first | (refine hK _ ?_; clear hK K) | (apply Exists.intro; refine ⟨fun x => ?_, hK _ ?_⟩; (fail); clear hK K)
              refine Mix.take_exC _ _ 22 rfl (by kernel_rfl) (by kernel_rfl) (by kernel_rfl) (by kernel_rfl) (fun K hK => ?_)
              go_simp
              first | (refine hK _ ?_; clear hK K) | (apply Exists.intro; refine ⟨fun x => ?_, hK _ ?_⟩; (fail); clear hK K)
              refine Mix.done (by kernel_rfl) (.of_below _ HB34.out) ?_
              intro w36 hb36
              have HB36 := Lib.hid (bt HB34.out hb36)
              clear hb36 z0 z1 z2 z3 hi0c hi1c hi3
              have HQ36 := Lib.hid (HQ.out.on HB36.out)
              obtain ⟨z0, z1, z2⟩ := HQ36.out.m.cells
              have z3 := HQ36.out.m.lt
              have HLH := Lib.hid fun x : ExtC w36 (fun _ => False) => (volast (HQ36.out.on ((extC_chg w36 _ x).below (Nat.le_refl _) fun k h => h.elim)).os.ov).mono (fun e w' ⟨h1, h2⟩ => (⟨h1, by rw [h2]; exact Below.refl _ _⟩ : e = Ending.returned (.int .i64 last) ∧ Below (extC w36 (fun _ => False) x).heap.size (extC w36 (fun _ => False) x) w'))
              go_wp2_with fail
              refine Mix.regionC (fun _ => False) (by kernel_rfl) ?_
              intro w40 hb40
              refine Mix.take_exC _ _ 0 rfl (by kernel_rfl) (by kernel_rfl) (by kernel_rfl) (by kernel_rfl) (fun K hK => ?_)
              go_simp
              first | (refine hK _ ?_; clear hK K) | (apply Exists.intro; refine ⟨fun x => ?_, hK _ ?_⟩; (fail); clear hK K)
              refine Mix.take_exC _ _ 2 rfl (by kernel_rfl) (by kernel_rfl) (by kernel_rfl) (by kernel_rfl) (fun K hK => ?_)
              go_simp
              first | (refine hK _ ?_; clear hK K) | (apply Exists.intro; refine ⟨fun x => ?_, hK _ ?_⟩; (fail); clear hK K)
              refine Mix.take_exC _ _ 3 rfl (by kernel_rfl) (by kernel_rfl) (by kernel_rfl) (by kernel_rfl) (fun K hK => ?_)
              go_simp
              first | (refine hK _ ?_; clear hK K) | (apply Exists.intro; refine ⟨fun x => ?_, hK _ ?_⟩; (fail); clear hK K)
              refine Mix.all (rs := [1]) (by kernel_rfl) (by simp) (.of_below _ hb40) ?_
              intro i41 hi41 w41 hb41 hC41
              simp only [List.mem_cons, List.not_mem_nil, or_false] at hi41
              subst hi41
              have HB41 := Lib.hid (bt hb40 hb41)
              clear hC41 hb40 hb41
              refine Mix.op rfl (by kernel_rfl) ?_
              go_simp
              refine (voall (HQ36.out.on HB41.out).os.ov hPl).mono ?_
              rintro e w42 ⟨va3, lb, rfl, hla, hpa, -, -, hb42⟩
              refine ⟨_, rfl, ?_⟩
              have HLB := Lib.hid hla; have HPB := Lib.hid hpa
              have HB42 := Lib.hid (bt HB41.out hb42)
              clear hla hpa hb42
              refine Mix.all (rs := [4]) (by kernel_rfl) (by simp) (.of_below _ HB42.out) ?_
              intro i43 hi43 w43 hb43 hC43
              simp only [List.mem_cons, List.not_mem_nil, or_false] at hi43
              subst hi43
              have HB43 := Lib.hid (bt HB42.out hb43)
              have HSN := Lib.hid (sameO_yes va3 (.slice ma mn mc) lb L (fun y hy => by
                have h1 := HQ.out.vr y.pl (by rw [← HPB.out]; exact List.mem_map.2 ⟨y, hy, rfl⟩)
                have h2 : y.ps.length ≤ 132 := vr_len h1
                omega) (by rw [HPB.out, HQ.out.pl]) w43 (HLB.out.below hb43) (HQ36.out.on HB43.out).fl)
              clear hC43 hb43
              refine Mix.op rfl (by kernel_rfl) ?_
              go_simp
              refine HSN.out.mono ?_
              rintro e w44 ⟨rfl, hb44⟩
              refine ⟨_, rfl, ?_⟩
              have HB44 := Lib.hid (bt HB43.out hb44)
              clear hb44
              refine Mix.take_exC _ _ 5 rfl (by kernel_rfl) (by kernel_rfl) (by kernel_rfl) (by kernel_rfl) (fun K hK => ?_)
              go_simp
              first | (refine hK _ ?_; clear hK K) | (apply Exists.intro; refine ⟨fun x => ?_, hK _ ?_⟩; (fail); clear hK K)
              refine Mix.take_exC _ _ 6 rfl (by kernel_rfl) (by kernel_rfl) (by kernel_rfl) (by kernel_rfl) (fun K hK => ?_)
              go_simp
              first | (refine hK _ ?_; clear hK K) | (apply Exists.intro; refine ⟨fun x => ?_, hK _ ?_⟩; (fail); clear hK K)
              refine Mix.take_exC _ _ 7 rfl (by kernel_rfl) (by kernel_rfl) (by kernel_rfl) (by kernel_rfl) (fun K hK => ?_)
              go_simp
              first | (refine hK _ ?_; clear hK K) | (apply Exists.intro; refine ⟨fun x => ?_, hK _ ?_⟩; (((go_at_call 40; with_reducible exact HLH.out _))); clear hK K)
              refine Mix.take_exC _ _ 8 rfl (by kernel_rfl) (by kernel_rfl) (by kernel_rfl) (by kernel_rfl) (fun K hK => ?_)
              go_simp
              first | (refine hK _ ?_; clear hK K) | (apply Exists.intro; refine ⟨fun x => ?_, hK _ ?_⟩; (fail); clear hK K)
              refine Mix.take_exC _ _ 9 rfl (by kernel_rfl) (by kernel_rfl) (by kernel_rfl) (by kernel_rfl) (fun K hK => ?_)
              go_simp
              first | (refine hK _ ?_; clear hK K) | (apply Exists.intro; refine ⟨fun x => ?_, hK _ ?_⟩; (fail); clear hK K)
              refine Mix.take_exC _ _ 10 rfl (by kernel_rfl) (by kernel_rfl) (by kernel_rfl) (by kernel_rfl) (fun K hK => ?_)
              go_simp
              first | (refine hK _ ?_; clear hK K) | (apply Exists.intro; refine ⟨fun x => ?_, hK _ ?_⟩; (fail); clear hK K)
              refine Mix.take_exC _ _ 11 rfl (by kernel_rfl) (by kernel_rfl) (by kernel_rfl) (by kernel_rfl) (fun K hK => ?_)
              go_simp
              first | (refine hK _ ?_; clear hK K) | (apply Exists.intro; refine ⟨fun x => ?_, hK _ ?_⟩; (fail); clear hK K)
              refine Mix.take_exC _ _ 12 rfl (by kernel_rfl) (by kernel_rfl) (by kernel_rfl) (by kernel_rfl) (fun K hK => ?_)
              go_simp
              first | (refine hK _ ?_; clear hK K) | (apply Exists.intro; refine ⟨fun x => ?_, hK _ ?_⟩; (fail); clear hK K)
              refine Mix.take_exC _ _ 13 rfl (by kernel_rfl) (by kernel_rfl) (by kernel_rfl) (by kernel_rfl) (fun K hK => ?_)
              go_simp
              first | (refine hK _ ?_; clear hK K) | (apply Exists.intro; refine ⟨fun x => ?_, hK _ ?_⟩; (((go_at_call 31; with_reducible exact works24 _))); clear hK K)
              refine Mix.take_exC _ _ 14 rfl (by kernel_rfl) (by kernel_rfl) (by kernel_rfl) (by kernel_rfl) (fun K hK => ?_)
              go_simp
              first | (refine hK _ ?_; clear hK K) | (apply Exists.intro; refine ⟨fun x => ?_, hK _ ?_⟩; (fail); clear hK K)
              refine Mix.take_exC _ _ 15 rfl (by kernel_rfl) (by kernel_rfl) (by kernel_rfl) (by kernel_rfl) (fun K hK => ?_)
              go_simp
              first | (refine hK _ ?_; clear hK K) | (apply Exists.intro; refine ⟨fun x => ?_, hK _ ?_⟩; (fail); clear hK K)
              refine Mix.done (by kernel_rfl) (.of_below _ HB44.out) ?_
              intro w46 hb46
              have HB46 := Lib.hid (bt HB36.out (bt HB44.out hb46))
              clear hb46
              go_wp2
              go_ret
              exact ⟨rfl, HFIN.out _ HB46.out⟩
            · have h1b : (i1 == 0) = false := by simpa using h1
              clear h0 h1
              go_wp2_with fail
              refine Mix.regionC (fun _ => False) (by kernel_rfl) ?_
              intro w30 hb30
              refine Mix.take_exC _ _ 0 rfl (by kernel_rfl) (by kernel_rfl) (by kernel_rfl) (by kernel_rfl) (fun K hK => ?_)
              go_simp
              first | (refine hK _ ?_; clear hK K) | (apply Exists.intro; refine ⟨fun x => ?_, hK _ ?_⟩; (fail); clear hK K)
              refine Mix.take_exC _ _ 2 rfl (by kernel_rfl) (by kernel_rfl) (by kernel_rfl) (by kernel_rfl) (fun K hK => ?_)
              go_simp
              first | (refine hK _ ?_; clear hK K) | (apply Exists.intro; refine ⟨fun x => ?_, hK _ ?_⟩; (fail); clear hK K)
              refine Mix.take_exC _ _ 3 rfl (by kernel_rfl) (by kernel_rfl) (by kernel_rfl) (by kernel_rfl) (fun K hK => ?_)
              go_simp
              first | (refine hK _ ?_; clear hK K) | (apply Exists.intro; refine ⟨fun x => ?_, hK _ ?_⟩; (fail); clear hK K)
              refine Mix.all (rs := [1]) (by kernel_rfl) (by simp) (.of_below _ hb30) ?_
              intro i31 hi31 w31 hb31 hC31
              simp only [List.mem_cons, List.not_mem_nil, or_false] at hi31
              subst hi31
              have HB31 := Lib.hid (bt hb30 hb31)
              clear hC31 hb30 hb31
              refine Mix.op rfl (by kernel_rfl) ?_
              go_simp
              refine (voall (HQ.out.on HB31.out).os.ov hPl).mono ?_
              rintro e w32 ⟨va2, la, rfl, hla, hpa, -, -, hb32⟩
              refine ⟨_, rfl, ?_⟩
              have HLA := Lib.hid hla; have HPA := Lib.hid hpa
              have HB32 := Lib.hid (bt HB31.out hb32)
              clear hla hpa hb32
              refine Mix.all (rs := [4]) (by kernel_rfl) (by simp) (.of_below _ HB32.out) ?_
              intro i33 hi33 w33 hb33 hC33
              simp only [List.mem_cons, List.not_mem_nil, or_false] at hi33
              subst hi33
              have HB33 := Lib.hid (bt HB32.out hb33)
              have HSM := Lib.hid (sameO_yes va2 (.slice ma mn mc) la L (fun y hy => by
                have h1 := HQ.out.vr y.pl (by rw [← HPA.out]; exact List.mem_map.2 ⟨y, hy, rfl⟩)
                have h2 : y.ps.length ≤ 132 := vr_len h1
                omega) (by rw [HPA.out, HQ.out.pl]) w33 (HLA.out.below hb33) (HQ.out.on HB33.out).fl)
              clear hC33 hb33
              refine Mix.op rfl (by kernel_rfl) ?_
              go_simp
              refine HSM.out.mono ?_
              rintro e w34 ⟨rfl, hb34⟩
              refine ⟨_, rfl, ?_⟩
              have HB34 := Lib.hid (bt HB33.out hb34)
              clear hb34
              refine Mix.take_exC _ _ 5 rfl (by kernel_rfl) (by kernel_rfl) (by kernel_rfl) (by kernel_rfl) (fun K hK => ?_)
              go_simp
              first | (refine hK _ ?_; clear hK K) | (apply Exists.intro; refine ⟨fun x => ?_, hK _ ?_⟩; (fail); clear hK K)
              refine Mix.take_exC _ _ 6 rfl (by kernel_rfl) (by kernel_rfl) (by kernel_rfl) (by kernel_rfl) (fun K hK => ?_)
              go_simp
              first | (refine hK _ ?_; clear hK K) | (apply Exists.intro; refine ⟨fun x => ?_, hK _ ?_⟩; (fail); clear hK K)
              refine Mix.take_exC _ _ 7 rfl (by kernel_rfl) (by kernel_rfl) (by kernel_rfl) (by kernel_rfl) (fun K hK => ?_)
              go_simp
              first | (refine hK _ ?_; clear hK K) | (apply Exists.intro; refine ⟨fun x => ?_, hK _ ?_⟩; (fail); clear hK K)
              refine Mix.take_exC _ _ 8 rfl (by kernel_rfl) (by kernel_rfl) (by kernel_rfl) (by kernel_rfl) (fun K hK => ?_)
              go_simp
              first | (refine hK _ ?_; clear hK K) | (apply Exists.intro; refine ⟨fun x => ?_, hK _ ?_⟩; (((go_at_call 40; with_reducible exact HLG.out _))); clear hK K)
              refine Mix.take_exC _ _ 9 rfl (by kernel_rfl) (by kernel_rfl) (by kernel_rfl) (by kernel_rfl) (fun K hK => ?_)
              go_simp
              first | (refine hK _ ?_; clear hK K) | (apply Exists.intro; refine ⟨fun x => ?_, hK _ ?_⟩; (fail); clear hK K)
              refine Mix.take_exC _ _ 10 rfl (by kernel_rfl) (by kernel_rfl) (by kernel_rfl) (by kernel_rfl) (fun K hK => ?_)
              go_simp
              first | (refine hK _ ?_; clear hK K) | (apply Exists.intro; refine ⟨fun x => ?_, hK _ ?_⟩; (fail); clear hK K)
              refine Mix.take_exC _ _ 11 rfl (by kernel_rfl) (by kernel_rfl) (by kernel_rfl) (by kernel_rfl) (fun K hK => ?_)
              go_simp
              first | (refine hK _ ?_; clear hK K) | (apply Exists.intro; refine ⟨fun x => ?_, hK _ ?_⟩; (fail); clear hK K)
              refine Mix.take_exC _ _ 12 rfl (by kernel_rfl) (by kernel_rfl) (by kernel_rfl) (by kernel_rfl) (fun K hK => ?_)
              go_simp
              first | (refine hK _ ?_; clear hK K) | (apply Exists.intro; refine ⟨fun x => ?_, hK _ ?_⟩; (fail); clear hK K)
              refine Mix.take_exC _ _ 13 rfl (by kernel_rfl) (by kernel_rfl) (by kernel_rfl) (by kernel_rfl) (fun K hK => ?_)
              go_simp
              first | (refine hK _ ?_; clear hK K) | (apply Exists.intro; refine ⟨fun x => ?_, hK _ ?_⟩; (fail); clear hK K)
              refine Mix.take_exC _ _ 14 rfl (by kernel_rfl) (by kernel_rfl) (by kernel_rfl) (by kernel_rfl) (fun K hK => ?_)
              go_simp
              first | (refine hK _ ?_; clear hK K) | (apply Exists.intro; refine ⟨fun x => ?_, hK _ ?_⟩; (fail); clear hK K)
              refine Mix.take_exC _ _ 15 rfl (by kernel_rfl) (by kernel_rfl) (by kernel_rfl) (by kernel_rfl) (fun K hK => ?_)
              go_simp
              first | (refine hK _ ?_; clear hK K) | (apply Exists.intro; refine ⟨fun x => ?_, hK _ ?_⟩; (fail); clear hK K)
              refine Mix.take_exC _ _ 16 rfl (by kernel_rfl) (by kernel_rfl) (by kernel_rfl) (by kernel_rfl) (fun K hK => ?_)
              go_simp
              first | (refine hK _ ?_; clear hK K) | (apply Exists.intro; refine ⟨fun x => ?_, hK _ ?_⟩; (fail); clear hK K)
              refine Mix.take_exC _ _ 17 rfl (by kernel_rfl) (by kernel_rfl) (by kernel_rfl) (by kernel_rfl) (fun K hK => ?_)
              go_simp
              first | (refine hK _ ?_; clear hK K) | (apply Exists.intro; refine ⟨fun x => ?_, hK _ ?_⟩; (fail); clear hK K)
              refine Mix.take_exC _ _ 18 rfl (by kernel_rfl) (by kernel_rfl) (by kernel_rfl) (by kernel_rfl) (fun K hK => ?_)
              go_simp
              first | (refine hK _ ?_; clear hK K) | (apply Exists.intro; refine ⟨fun x => ?_, hK _ ?_⟩; (fail); clear hK K)
              refine Mix.take_exC _ _ 19 rfl (by kernel_rfl) (by kernel_rfl) (by kernel_rfl) (by kernel_rfl) (fun K hK => ?_)
              go_simp
              first | (refine hK _ ?_; clear hK K) | (apply Exists.intro; refine ⟨fun x => ?_, hK _ ?_⟩; (fail); clear hK K)
              refine Mix.take_exC _ _ 20 rfl (by kernel_rfl) (by kernel_rfl) (by kernel_rfl) (by kernel_rfl) (fun K hK => ?_)
              go_simp
              first | (refine hK _ ?_; clear hK K) | (apply Exists.intro; refine ⟨fun x => ?_, hK _ ?_⟩; (fail); clear hK K)
              refine Mix.take_exC _ _ 21 rfl (by kernel_rfl) (by kernel_rfl) (by kernel_rfl) (by kernel_rfl) (fun K hK => ?_)
              go_simp
              first | (refine hK _ ?_; clear hK K) | (apply Exists.intro; refine ⟨fun x => ?_, hK _ ?_⟩; (fail); clear hK K)
              refine Mix.take_exC _ _ 22 rfl (by kernel_rfl) (by kernel_rfl) (by kernel_rfl) (by kernel_rfl) (fun K hK => ?_)
              go_simp
              first | (refine hK _ ?_; clear hK K) | (apply Exists.intro; refine ⟨fun x => ?_, hK _ ?_⟩; (fail); clear hK K)
              refine Mix.done (by kernel_rfl) (.of_below _ HB34.out) ?_
              intro w36 hb36
              have HB36 := Lib.hid (bt HB34.out hb36)
              clear hb36 z0 z1 z2 z3 hi0c hi1c hi3
              have HQ36 := Lib.hid (HQ.out.on HB36.out)
              have i0c := (HB36.out.cell (p := ⟨ib, 0, none⟩) HCC.out.2.2).trans HCC.out.1
              have i1c := (HB36.out.cell (p := ⟨ib, 1, none⟩) HCC.out.2.2).trans HCC.out.2.1
              have ilt : ib < w36.heap.size := Nat.lt_of_lt_of_le HCC.out.2.2 HB36.out.size
              have hf1 : (P.filter fun x => x.2.1 == i0 || x.2.2.1 == (0 : Int)) = P.filter fun x => x.2.1 == i0 := List.filter_congr fun x hx => by
                have h1 := (HQ36.out.os.ov.num x hx).2.2.1.1
                have h2 : (x.2.2.1 == (0 : Int)) = false := by simp; omega
                rw [h2, Bool.or_false]
              have hf2 : (P.filter fun x => x.2.1 == (0 : Int) || x.2.2.1 == i1) = P.filter fun x => x.2.2.1 == i1 := List.filter_congr fun x hx => by
                have h1 := (HQ36.out.os.ov.num x hx).2.1.1
                have h2 : (x.2.1 == (0 : Int)) = false := by simp; omega
                rw [h2, Bool.false_or]
              have HF1 := Lib.hid hf1; have HF2 := Lib.hid hf2
              have HOKL := Lib.hid (show ∀ x ∈ L, VR x.ps ∧ x.ps ≠ [] from fun x hx => by
                have h1 := HQ36.out.os.ov.num x.pl (by rw [← HQ36.out.pl]; exact List.mem_map.2 ⟨x, hx, rfl⟩)
                exact ⟨h1.2.2.2.2.1, h1.2.2.2.1⟩)
              have hLL : L.length < 900000 := by have := HQ36.out.llen; omega
              have hfl : ∀ q : Pf → Bool, ((P.filter q).map (·.1)).length < 1000000 := fun q => by rw [List.length_map]; exact Nat.lt_of_le_of_lt (List.length_filter_le _ _) hPl
              have HFL := Lib.hid hfl
              obtain ⟨z0, z1, z2⟩ := HQ36.out.m.cells
              have z3 := HQ36.out.m.lt
              have HSU := Lib.hid fun x : ExtC w36 (fun _ => False) => vosum (HQ36.out.on ((extC_chg w36 _ x).below (Nat.le_refl _) fun k h => h.elim)).os.ov hPl hi0
              have hms := fun x : ExtC w36 (fun _ => False) => msum (g := great) (l := last) (HQ36.out.on ((extC_chg w36 _ x).below (Nat.le_refl _) fun k h => h.elim)).fl HOKL.out i0
              rw [HQ36.out.pl] at hms
              have HMS := Lib.hid hms
              generalize sumP P i0 = gs at *
              clear hf1 hf2 hms hfl
              go_wp2_with fail
              refine Mix.regionC (fun _ => False) (by kernel_rfl) ?_
              intro w40 hb40
              refine Mix.take_exC _ _ 0 rfl (by kernel_rfl) (by kernel_rfl) (by kernel_rfl) (by kernel_rfl) (fun K hK => ?_)
              go_simp
              first | (refine hK _ ?_; clear hK K) | (apply Exists.intro; refine ⟨fun x => ?_, hK _ ?_⟩; (fail); clear hK K)
              refine Mix.take_exC _ _ 1 rfl (by kernel_rfl) (by kernel_rfl) (by kernel_rfl) (by kernel_rfl) (fun K hK => ?_)
              go_simp
              first | (refine hK _ ?_; clear hK K) | (apply Exists.intro; refine ⟨fun x => ?_, hK _ ?_⟩; (fail); clear hK K)
              refine Mix.take_exC _ _ 2 rfl (by kernel_rfl) (by kernel_rfl) (by kernel_rfl) (by kernel_rfl) (fun K hK => ?_)
              go_simp
              first | (refine hK _ ?_; clear hK K) | (apply Exists.intro; refine ⟨fun x => ?_, hK _ ?_⟩; (fail); clear hK K)
              refine Mix.take_exC _ _ 4 rfl (by kernel_rfl) (by kernel_rfl) (by kernel_rfl) (by kernel_rfl) (fun K hK => ?_)
              go_simp
              first | (refine hK _ ?_; clear hK K) | (apply Exists.intro; refine ⟨fun x => ?_, hK _ ?_⟩; (fail); clear hK K)
              refine Mix.take_exC _ _ 5 rfl (by kernel_rfl) (by kernel_rfl) (by kernel_rfl) (by kernel_rfl) (fun K hK => ?_)
              go_simp
              first | (refine hK _ ?_; clear hK K) | (apply Exists.intro; refine ⟨fun x => ?_, hK _ ?_⟩; (fail); clear hK K)
              refine Mix.take_exC _ _ 6 rfl (by kernel_rfl) (by kernel_rfl) (by kernel_rfl) (by kernel_rfl) (fun K hK => ?_)
              go_simp
              first | (refine hK _ ?_; clear hK K) | (apply Exists.intro; refine ⟨fun x => ?_, hK _ ?_⟩; (fail); clear hK K)
              refine Mix.all (rs := [3]) (by kernel_rfl) (by simp) (.of_below _ hb40) ?_
              intro i41 hi41 w41 hb41 hC41
              simp only [List.mem_cons, List.not_mem_nil, or_false] at hi41
              subst hi41
              have HB41 := Lib.hid (bt hb40 hb41)
              clear hC41 hb40 hb41
              refine Mix.op rfl (by kernel_rfl) ?_
              go_simp
              refine (voof (HQ36.out.on HB41.out).os.ov hPl hi0).mono ?_
              rintro e w42 ⟨v3, rfl, hl3, -, hb42⟩
              refine ⟨_, rfl, ?_⟩
              have HL3 := Lib.hid hl3
              have HB42 := Lib.hid (bt HB41.out hb42)
              clear hl3 hb42
              refine Mix.all (rs := [7]) (by kernel_rfl) (by simp) (.of_below _ HB42.out) ?_
              intro i43 hi43 w43 hb43 hC43
              simp only [List.mem_cons, List.not_mem_nil, or_false] at hi43
              subst hi43
              have HB43 := Lib.hid (bt HB42.out hb43)
              have HL3' := Lib.hid (HL3.out.below hb43)
              clear hC43 hb43
              refine Mix.op rfl (by kernel_rfl) ?_
              go_simp
              refine (mof (g := great) (l := last) (HQ36.out.on HB43.out).fl hLL i0 0).mono ?_
              rintro e w44 ⟨v4, rfl, hl4, -, hb44⟩
              refine ⟨_, rfl, ?_⟩
              rw [HQ36.out.pl, HF1.out] at hl4
              have HL3 := Lib.hid (HL3'.out.below hb44)
              have HL4 := Lib.hid hl4
              have HB44 := Lib.hid (bt HB43.out hb44)
              clear hl4 hb44 HL3'
              refine Mix.all (rs := [8]) (by kernel_rfl) (by simp) (.of_below _ HB44.out) ?_
              intro i45 hi45 w45 hb45 hC45
              simp only [List.mem_cons, List.not_mem_nil, or_false] at hi45
              subst hi45
              have HB45 := Lib.hid (bt HB44.out hb45)
              have HSM := Lib.hid (msame_ids (HL3.out.below hb45) (HL4.out.below hb45) (HFL.out _))
              clear hC45 hb45
              refine Mix.op rfl (by kernel_rfl) ?_
              go_simp
              refine HSM.out.mono ?_
              rintro e w46 ⟨rfl, hb46⟩
              refine ⟨_, rfl, ?_⟩
              have HB46 := Lib.hid (bt HB45.out hb46)
              clear hb46 HSM HL3 HL4
              refine Mix.take_exC _ _ 9 rfl (by kernel_rfl) (by kernel_rfl) (by kernel_rfl) (by kernel_rfl) (fun K hK => ?_)
              go_simp
              first | (refine hK _ ?_; clear hK K) | (apply Exists.intro; refine ⟨fun x => ?_, hK _ ?_⟩; (fail); clear hK K)
              refine Mix.take_exC _ _ 10 rfl (by kernel_rfl) (by kernel_rfl) (by kernel_rfl) (by kernel_rfl) (fun K hK => ?_)
              go_simp
              first | (refine hK _ ?_; clear hK K) | (apply Exists.intro; refine ⟨fun x => ?_, hK _ ?_⟩; (fail); clear hK K)
              refine Mix.take_exC _ _ 11 rfl (by kernel_rfl) (by kernel_rfl) (by kernel_rfl) (by kernel_rfl) (fun K hK => ?_)
              go_simp
              first | (refine hK _ ?_; clear hK K) | (apply Exists.intro; refine ⟨fun x => ?_, hK _ ?_⟩; (fail); clear hK K)
              refine Mix.take_exC _ _ 12 rfl (by kernel_rfl) (by kernel_rfl) (by kernel_rfl) (by kernel_rfl) (fun K hK => ?_)
              go_simp
              first | (refine hK _ ?_; clear hK K) | (apply Exists.intro; refine ⟨fun x => ?_, hK _ ?_⟩; (fail); clear hK K)
              refine Mix.take_exC _ _ 14 rfl (by kernel_rfl) (by kernel_rfl) (by kernel_rfl) (by kernel_rfl) (fun K hK => ?_)
              go_simp
              first | (refine hK _ ?_; clear hK K) | (apply Exists.intro; refine ⟨fun x => ?_, hK _ ?_⟩; (fail); clear hK K)
              refine Mix.take_exC _ _ 15 rfl (by kernel_rfl) (by kernel_rfl) (by kernel_rfl) (by kernel_rfl) (fun K hK => ?_)
              go_simp
              first | (refine hK _ ?_; clear hK K) | (apply Exists.intro; refine ⟨fun x => ?_, hK _ ?_⟩; (fail); clear hK K)
              refine Mix.take_exC _ _ 16 rfl (by kernel_rfl) (by kernel_rfl) (by kernel_rfl) (by kernel_rfl) (fun K hK => ?_)
              go_simp
              first | (refine hK _ ?_; clear hK K) | (apply Exists.intro; refine ⟨fun x => ?_, hK _ ?_⟩; (fail); clear hK K)
              refine Mix.all (rs := [13]) (by kernel_rfl) (by simp) (.of_below _ HB46.out) ?_
              intro i47 hi47 w47 hb47 hC47
              simp only [List.mem_cons, List.not_mem_nil, or_false] at hi47
              subst hi47
              have HB47 := Lib.hid (bt HB46.out hb47)
              clear hC47 hb47
              refine Mix.op rfl (by kernel_rfl) ?_
              go_simp
              refine (voon (HQ36.out.on HB47.out).os.ov hPl hi1).mono ?_
              rintro e w48 ⟨v5, rfl, hl5, -, hb48⟩
              refine ⟨_, rfl, ?_⟩
              have HL5 := Lib.hid hl5
              have HB48 := Lib.hid (bt HB47.out hb48)
              clear hl5 hb48
              refine Mix.all (rs := [17]) (by kernel_rfl) (by simp) (.of_below _ HB48.out) ?_
              intro i49 hi49 w49 hb49 hC49
              simp only [List.mem_cons, List.not_mem_nil, or_false] at hi49
              subst hi49
              have HB49 := Lib.hid (bt HB48.out hb49)
              have HL5' := Lib.hid (HL5.out.below hb49)
              clear hC49 hb49
              refine Mix.op rfl (by kernel_rfl) ?_
              go_simp
              refine (mof (g := great) (l := last) (HQ36.out.on HB49.out).fl hLL 0 i1).mono ?_
              rintro e w50 ⟨v6, rfl, hl6, -, hb50⟩
              refine ⟨_, rfl, ?_⟩
              rw [HQ36.out.pl, HF2.out] at hl6
              have HL5 := Lib.hid (HL5'.out.below hb50)
              have HL6 := Lib.hid hl6
              have HB50 := Lib.hid (bt HB49.out hb50)
              clear hl6 hb50 HL5'
              refine Mix.all (rs := [18]) (by kernel_rfl) (by simp) (.of_below _ HB50.out) ?_
              intro i51 hi51 w51 hb51 hC51
              simp only [List.mem_cons, List.not_mem_nil, or_false] at hi51
              subst hi51
              have HB51 := Lib.hid (bt HB50.out hb51)
              have HSM := Lib.hid (msame_ids (HL5.out.below hb51) (HL6.out.below hb51) (HFL.out _))
              clear hC51 hb51
              refine Mix.op rfl (by kernel_rfl) ?_
              go_simp
              refine HSM.out.mono ?_
              rintro e w52 ⟨rfl, hb52⟩
              refine ⟨_, rfl, ?_⟩
              have HB52 := Lib.hid (bt HB51.out hb52)
              clear hb52 HSM HL5 HL6
              refine Mix.take_exC _ _ 19 rfl (by kernel_rfl) (by kernel_rfl) (by kernel_rfl) (by kernel_rfl) (fun K hK => ?_)
              go_simp
              first | (refine hK _ ?_; clear hK K) | (apply Exists.intro; refine ⟨fun x => ?_, hK _ ?_⟩; (fail); clear hK K)
              refine Mix.take_exC _ _ 20 rfl (by kernel_rfl) (by kernel_rfl) (by kernel_rfl) (by kernel_rfl) (fun K hK => ?_)
              go_simp
              first | (refine hK _ ?_; clear hK K) | (apply Exists.intro; refine ⟨fun x => ?_, hK _ ?_⟩; (fail); clear hK K)
              refine Mix.take_exC _ _ 21 rfl (by kernel_rfl) (by kernel_rfl) (by kernel_rfl) (by kernel_rfl) (fun K hK => ?_)
              go_simp
              first | (refine hK _ ?_; clear hK K) | (apply Exists.intro; refine ⟨fun x => ?_, hK _ ?_⟩; (fail); clear hK K)
              refine Mix.take_exC _ _ 22 rfl (by kernel_rfl) (by kernel_rfl) (by kernel_rfl) (by kernel_rfl) (fun K hK => ?_)
              go_simp
              first | (refine hK _ ?_; clear hK K) | (apply Exists.intro; refine ⟨fun x => ?_, hK _ ?_⟩; (fail); clear hK K)
              refine Mix.take_exC _ _ 23 rfl (by kernel_rfl) (by kernel_rfl) (by kernel_rfl) (by kernel_rfl) (fun K hK => ?_)
              go_simp
              first | (refine hK _ ?_; clear hK K) | (apply Exists.intro; refine ⟨fun x => ?_, hK _ ?_⟩; (fail); clear hK K)
              refine Mix.take_exC _ _ 25 rfl (by kernel_rfl) (by kernel_rfl) (by kernel_rfl) (by kernel_rfl) (fun K hK => ?_)
              go_simp
              first | (refine hK _ ?_; clear hK K) | (apply Exists.intro; refine ⟨fun x => ?_, hK _ ?_⟩; (fail); clear hK K)
              refine Mix.take_exC _ _ 26 rfl (by kernel_rfl) (by kernel_rfl) (by kernel_rfl) (by kernel_rfl) (fun K hK => ?_)
              go_simp
              first | (refine hK _ ?_; clear hK K) | (apply Exists.intro; refine ⟨fun x => ?_, hK _ ?_⟩; (fail); clear hK K)
              refine Mix.take_exC _ _ 27 rfl (by kernel_rfl) (by kernel_rfl) (by kernel_rfl) (by kernel_rfl) (fun K hK => ?_)
              go_simp
              first | (refine hK _ ?_; clear hK K) | (apply Exists.intro; refine ⟨fun x => ?_, hK _ ?_⟩; (fail); clear hK K)
              refine Mix.take_exC _ _ 24 rfl (by kernel_rfl) (by kernel_rfl) (by kernel_rfl) (by kernel_rfl) (fun K hK => ?_)
              go_simp
              first | (refine hK _ ?_; clear hK K) | (apply Exists.intro; refine ⟨fun x => ?_, hK _ ?_⟩; (((go_at_call 45; with_reducible exact HSU.out _))); clear hK K)
              refine Mix.take_exC _ _ 28 rfl (by kernel_rfl) (by kernel_rfl) (by kernel_rfl) (by kernel_rfl) (fun K hK => ?_)
              go_simp
              first | (refine hK _ ?_; clear hK K) | (apply Exists.intro; refine ⟨fun x => ?_, hK _ ?_⟩; (((go_at_call 46; with_reducible exact HMS.out _))); clear hK K)
              refine Mix.take_exC _ _ 29 rfl (by kernel_rfl) (by kernel_rfl) (by kernel_rfl) (by kernel_rfl) (fun K hK => ?_)
              go_simp
              first | (refine hK _ ?_; clear hK K) | (apply Exists.intro; refine ⟨fun x => ?_, hK _ ?_⟩; (fail); clear hK K)
              refine Mix.take_exC _ _ 30 rfl (by kernel_rfl) (by kernel_rfl) (by kernel_rfl) (by kernel_rfl) (fun K hK => ?_)
              go_simp
              first | (refine hK _ ?_; clear hK K) | (apply Exists.intro; refine ⟨fun x => ?_, hK _ ?_⟩; (fail); clear hK K)
              refine Mix.take_exC _ _ 31 rfl (by kernel_rfl) (by kernel_rfl) (by kernel_rfl) (by kernel_rfl) (fun K hK => ?_)
              go_simp
              first | (refine hK _ ?_; clear hK K) | (apply Exists.intro; refine ⟨fun x => ?_, hK _ ?_⟩; (fail); clear hK K)
              refine Mix.take_exC _ _ 32 rfl (by kernel_rfl) (by kernel_rfl) (by kernel_rfl) (by kernel_rfl) (fun K hK => ?_)
              go_simp
              first | (refine hK _ ?_; clear hK K) | (apply Exists.intro; refine ⟨fun x => ?_, hK _ ?_⟩; (((go_at_call 31; with_reducible exact works24 _))); clear hK K)
              refine Mix.take_exC _ _ 33 rfl (by kernel_rfl) (by kernel_rfl) (by kernel_rfl) (by kernel_rfl) (fun K hK => ?_)
              go_simp
              first | (refine hK _ ?_; clear hK K) | (apply Exists.intro; refine ⟨fun x => ?_, hK _ ?_⟩; (fail); clear hK K)
              refine Mix.take_exC _ _ 34 rfl (by kernel_rfl) (by kernel_rfl) (by kernel_rfl) (by kernel_rfl) (fun K hK => ?_)
              go_simp
              first | (refine hK _ ?_; clear hK K) | (apply Exists.intro; refine ⟨fun x => ?_, hK _ ?_⟩; (fail); clear hK K)
              refine Mix.done (by kernel_rfl) (.of_below _ HB52.out) ?_
              intro w54 hb54
              have HB54 := Lib.hid (bt HB36.out (bt HB52.out hb54))
              clear hb54 z0 z1 z2 z3
              go_wp2
              go_ret
              exact ⟨rfl, HFIN.out _ HB54.out⟩
  · have hFF : decide (l.length ≤ 100 ∧ (l.map oaW).sum ≤ 400) = false := decide_eq_false hfew
    go_enter Try.func6, Try.ntmps6
    go_wp2_with fail
    refine HF.out.mono ?_
    rintro e w1 ⟨rfl, rfl⟩
    rw [hFF]
    clear hfew
    go_wp2
    go_ret
    exact ⟨rfl, HBI.out⟩
end Go.Proofs.Ytnckjacbkhoppaa

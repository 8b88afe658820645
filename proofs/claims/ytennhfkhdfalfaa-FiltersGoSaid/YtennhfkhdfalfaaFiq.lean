/- filters: the walk of FiltersGo. -/
import Derived.Test.YtennhfkhdfalfaaFgA
import Derived.Test.YtennhfkhdfalfaaFik
namespace Go.Proofs.Ytennhfkhdfalfaa
open Go.RowKit Go.Maps
attribute [local go_sem] ext_cell ext_frozen extC_cell extC_frozen Mix.calmUpon Mix.mUpon
theorem FlIn.on2 {W w : World} {x : Fl} (h : FlIn W x) (hb : Below W.heap.size W w) : FlIn w x := ⟨h.i1, h.i2, h.i3, h.vc.on hb, h.vi, h.vl⟩
theorem kind3 (kd : Int) : ∃ mk ak : Int, min 3 kd = mk ∧ max 1 mk = ak ∧ ((kd ≤ 1 ∧ ak = 1) ∨ (kd = 2 ∧ ak = 2) ∨ (3 ≤ kd ∧ ak = 3)) := by
  refine ⟨_, _, rfl, rfl, ?_⟩
  by_cases h1 : kd ≤ 1
  · exact .inl ⟨h1, by omega⟩
  · by_cases h2 : kd = 2
    · exact .inr (.inl ⟨h2, by omega⟩)
    · exact .inr (.inr ⟨by omega, by omega⟩)
-- the filter at hand goes
-- it stays
set_option maxRecDepth 100000 in
set_option maxHeartbeats 8000000 in
theorem go26 (v : Value) (l : List Fa) (kd n : Int) (W : World) (hr : RS 6 faenc W v l) (ha : ∀ x ∈ l, FlIn W x.f) :
    Calls Try.prog 8 #[v, .int .i64 kd, .int .i64 n] W fun e w' => e = .returned (.bool true) ∧ Below W.heap.size W w' := by
  have HFW := Lib.hid (few26 v l W hr ha)
  have HR := Lib.hid hr; have HA := Lib.hid ha
  obtain ⟨a, n0, c, rfl, hn, -, -, -⟩ := hr.at_
  have HN := Lib.hid hn
  clear ha hr hn
  by_cases hfew : l.length ≤ 100 ∧ (l.map faW).sum ≤ 400
  · have HFT := Lib.hid (show decide (l.length ≤ 100 ∧ (l.map faW).sum ≤ 400) = true from decide_eq_true hfew)
    have HLE := Lib.hid (few_each hfew.2)
    have hn100 : n0 ≤ 100 := by rw [HN.out]; exact hfew.1
    clear hfew
    go_enter Try.func8, Try.ntmps8
    go_wp2_with fail
    refine HFW.out.mono ?_
    rintro e w1 ⟨rfl, hb1⟩
    rw [HFT.out]
    have HB1 := Lib.hid hb1
    have HAT : Hid (∀ i x, l[i]? = some x → ∃ b off, a = some ⟨b, off, none⟩ ∧ b < w1.heap.size ∧ ∀ j u, (faenc x)[j]? = some u → w1.cell? ⟨b, off + i * 6 + j, none⟩ = some u) := Lib.hid (by
      obtain ⟨a', n', c', he, _, _, _, h⟩ := (HR.out.below hb1).at_
      cases he; exact h)
    have HA1 := Lib.hid (show ∀ x ∈ l, FlIn w1 x.f from fun x hx => (HA.out x hx).on2 hb1)
    clear hb1 HR HA HFW
    go_wp2_with fail
    refine (fnew w1 w1 (Below.refl _ _) (cap := 1000) (by decide)).mono ?_
    rintro e w2 ⟨rfl, h2, -⟩
    obtain ⟨tp, htp⟩ : ∃ tp, tp = w1.heap.size + 1 := ⟨_, rfl⟩
    obtain ⟨M, hM⟩ : ∃ M, M = w1.heap.size := ⟨_, rfl⟩
    have h2 : FT w1 w2 tp M 1000 (fun _ => none) [] := by rw [htp, hM]; exact h2
    rw [← htp]
    have HI := Lib.hid (show FP w1 w2 tp M 1000 [] ∧ ([] : List Pf).length ≤ 0 ∧ ([] : List Pf).Nodup from ⟨⟨_, h2⟩, Nat.le_refl _, List.nodup_nil⟩)
    clear h2 htp hM
    go_wp2
    go_loopw [8] (fun iv wr => ∃ (k : Nat) (S : List Pf), k ≤ n0 ∧ iv = .int .i64 k ∧ Hid (FP w1 wr tp M 1000 S ∧ S.length ≤ k ∧ S.Nodup)) (fun iv _ => n0 - (intOf iv).toNat)
    case atStart => exact ⟨0, [], Nat.zero_le _, rfl, HI⟩
    case round =>
      clear HI
      obtain ⟨k, S, hk, rfl, HQ⟩ := hrel
      obtain ⟨w4, rfl⟩ : ∃ w4, w4 = wr := ⟨_, rfl⟩
      obtain ⟨F, hF⟩ := HQ.out.1
      have H4 := Lib.hid hF
      have HSL := Lib.hid (show S.length < 900000 by have := HQ.out.2.1; omega)
      clear hF
      by_cases hlt : k < n0
      · have hts : (k : Int) < (n0 : Int) := by omega
        obtain ⟨x, hx⟩ := at_lt (l := l) (i := k) (by rw [← HN.out]; exact hlt)
        obtain ⟨bs, off, rfl, hbs, hcell⟩ := HAT.out k x hx
        have hxi := HA1.out x (mem_at hx)
        have hxl := HLE.out x (mem_at hx)
        have hbw := H4.out.bel
        have c0 := (hbw.cell (p := ⟨bs, _, none⟩) hbs).trans (hcell 0 _ rfl)
        have c1 := (hbw.cell (p := ⟨bs, _, none⟩) hbs).trans (hcell 1 _ rfl)
        have c2 := (hbw.cell (p := ⟨bs, _, none⟩) hbs).trans (hcell 2 _ rfl)
        have c3 := (hbw.cell (p := ⟨bs, _, none⟩) hbs).trans (hcell 3 _ rfl)
        have c4 := (hbw.cell (p := ⟨bs, _, none⟩) hbs).trans (hcell 4 _ rfl)
        have c5 := (hbw.cell (p := ⟨bs, _, none⟩) hbs).trans (hcell 5 _ rfl)
        simp only [Nat.add_zero] at c0
        have hbs4 : bs < w4.heap.size := Nat.lt_of_lt_of_le hbs hbw.size
        have HDO := Lib.hid (fdo H4.out x (hxi.vc.on hbw) hxl HSL.out ⟨hxi.i1, hxi.i2, hxi.i3⟩)
        have HDL := Lib.hid (dof_len' (cap := 1000) (S := S) x)
        have HDN := Lib.hid (dof_nodup (cap := 1000) HQ.out.2.2 x)
        obtain ⟨xk, xn, ⟨xi, xg, xt, xv, xs⟩⟩ := x
        obtain ⟨va, vc, hvv, -, -⟩ := hxi.vc.form
        simp only at hvv c0 c1 c2 c3 c4 c5 HDO
        subst hvv
        clear hcell hxi hxl hbw hx hbs
        go_wp2_with fail
        refine HDO.out.mono ?_
        rintro e w5 ⟨rfl, h5, hc5⟩
        have H5 := Lib.hid h5
        clear h5 hc5 c0 c1 c2 c3 c4 c5 hbs4
        go_wp2
        go_roundw
        case rel => exact ⟨k + 1, _, by omega, by go_num, Lib.hid ⟨H5.out, by have := HDL.out; have := HQ.out.2.1; omega, HDN.out⟩⟩
        case measure => simp [intOf]; omega
      · obtain rfl : n0 = k := by omega
        clear hlt hk
        have HND := Lib.hid HQ.out.2.2
        go_wp2_with fail
        refine (fall H4.out (by have := HSL.out; omega) HND.out).mono ?_
        rintro e w5 ⟨v1, l1, rfl, hrs1, hv1, hin1, hpm1, hnb1, hb5⟩
        have H5 := Lib.hid (H4.out.below hb5)
        obtain ⟨mk, ak, hmk, hak, hk3⟩ := kind3 kd
        have HK3 := Lib.hid hk3
        obtain ⟨q, hq⟩ : ∃ q : Pf → Bool, q = fun f => !unwP ⟨ak, n, ⟨0, 0, 0, .slice none 0 0, []⟩⟩ f := ⟨_, rfl⟩
        have HQQ := Lib.hid hq
        have hDO := fdoB H5.out ⟨ak, n, ⟨0, 0, 0, .slice none 0 0, []⟩⟩ (Vc.nil _) (show (0 : Nat) < 1000000 by decide) HSL.out ⟨show I64 0 by unfold I64; decide, show I64 0 by unfold I64; decide, show I64 0 by unfold I64; decide⟩
        have hak0 : ¬ ak = 0 := by omega
        unfold dofE dofP at hDO
        simp only [if_neg hak0] at hDO
        rw [← hq] at hDO
        have HDO := Lib.hid hDO
        have HRS1 := Lib.hid hrs1; have HV1 := Lib.hid hv1; have HIN1 := Lib.hid hin1; have HPM1 := Lib.hid hpm1; have HNB1 := Lib.hid hnb1; have HB5 := Lib.hid hb5
        have HTL := Lib.hid fun z e => H4.out.tbLt z e
        clear hDO hrs1 hv1 hin1 hpm1 hnb1 hb5 hak0 hk3 hq
        go_wp2_with fail
        clear hmk hak
        refine HDO.out.mono ?_
        rintro e w6 ⟨rfl, F6, h6, ht6, hc6⟩
        have H6 := Lib.hid h6
        have hsz5 := HB5.out.size
        have hrs1 : RS 4 flenc w6 v1 l1 := HRS1.out.chg hc6 fun b hb e => by have := HTL.out b e; have := HNB1.out b hb; omega
        have HV1' := Lib.hid (show ∀ x ∈ l1, OwnP w6 w4.heap.size x.vv x.ps from fun x hx => ownsRow_chg (HV1.out x hx) hc6 fun z hz e => by have := HTL.out z e; have := ((HV1.out x hx).lt z hz).1; omega)
        have HRS1' := Lib.hid hrs1
        have HN2' := Lib.hid (show (S.filter q).Nodup from HND.out.filter _)
        have HLE2 := Lib.hid (show (S.filter q).length ≤ S.length from List.length_filter_le _ _)
        clear h6 ht6 hc6 hsz5 hrs1 HRS1 HV1 HDO H5
        go_wp2_with fail
        refine (fall H6.out (by have := HSL.out; have := HLE2.out; omega) HN2'.out).mono ?_
        rintro e w7 ⟨v2, l2, rfl, hrs2, hv2, hin2, hpm2, hnb2, hb7⟩
        have HB7W := Lib.hid (show Below w1.heap.size w1 w7 from H6.out.bel.trans (hb7.mono H6.out.bel.size))
        obtain ⟨P, hP⟩ : ∃ P, P = l1.map Fl.pl := ⟨_, rfl⟩
        have hq2 : l2.map Fl.pl = P.filter q := Srt.In.ext ordF hin2 (by rw [hP]; exact List.Pairwise.filter _ HIN1.out) fun x => by rw [hpm2.mem_iff, List.mem_filter, List.mem_filter, hP, HPM1.out.mem_iff]
        have HQ := Lib.hid hq2
        have HPE := Lib.hid hP
        obtain ⟨a1, n1, c1, rfl, hn1, hnc1, hcm1, hat1⟩ := (HRS1'.out.below hb7).at_
        obtain ⟨a2, n2, c2, rfl, hn2, hnc2, hcm2, hat2⟩ := hrs2.at_
        have hn1l : n1 = S.length := by rw [hn1, ← HPM1.out.length_eq, List.length_map]
        have hn2l : n2 = (S.filter q).length := by rw [hn2, ← hpm2.length_eq, List.length_map]
        have hnm1 : n1 < 900000 := by rw [hn1l]; exact HSL.out
        have hnm2 : n2 ≤ n1 := by rw [hn1l, hn2l]; exact HLE2.out
        have HN1 := Lib.hid hn1; have HN2 := Lib.hid hn2; have HAT1 := Lib.hid hat1; have HAT2 := Lib.hid hat2
        have HVV1 := Lib.hid (show ∀ x ∈ l1, OwnP w7 w4.heap.size x.vv x.ps from fun x hx => ownsRow_chg (HV1'.out x hx) (.of_below (fun _ => False) hb7) fun _ _ => id)
        have HV2 := Lib.hid hv2
        have HVR := Lib.hid (show ∀ x ∈ l1, x.ps.length ≤ 132 from fun x hx => by
          have h1 : x.pl ∈ S := HPM1.out.subset (List.mem_map.2 ⟨x, hx, rfl⟩)
          exact vr_len (H4.out.ok _ h1).vr)
        have HD := Lib.hid (show ((S.length : Int) - ((S.filter q).length : Int)) = (n1 : Int) - (n2 : Int) from by rw [hn1l, hn2l])
        rw [HD.out]
        have HC0 := Lib.hid (show cntF q P 0 = 0 from rfl)
        have HCA := Lib.hid (show cntF q P n1 = n2 from by
          have h1 := cntF_all q P
          rw [hP, List.length_map, ← hn1] at h1
          rw [hP, h1, ← hP, ← hq2, List.length_map, hn2])
        clear hrs2 hv2 hin2 hpm2 hnb2 hb7 hP hq2 hn1 hnc1 hcm1 hat1 hn2 hnc2 hcm2 hat2 HPM1 HIN1 HNB1 hn1l hn2l
        go_wp2
        go_loopw [10, 12, 13] (fun gv kv iv wr => ∃ t : Nat, t ≤ n1 ∧ iv = .int .i64 t ∧ kv = .int .i64 (cntF q P t : Nat) ∧ gv = .int .i64 ((n1 : Int) - (n2 : Int) - ((t : Int) - (cntF q P t : Nat))) ∧ Hid (Below w7.heap.size w7 wr)) (fun _ _ iv _ => n1 - (intOf iv).toNat)
        case atStart => exact ⟨0, Nat.zero_le _, rfl, by rw [HC0.out]; rfl, by rw [HC0.out]; congr 1; omega, Lib.hid (Below.refl _ _)⟩
        case round =>
          obtain ⟨t, ht, rfl, rfl, rfl, HB8⟩ := hrel
          obtain ⟨w8, rfl⟩ : ∃ w8, w8 = wr := ⟨_, rfl⟩
          by_cases hlt : t < n1
          · have hts : (t : Int) < (n1 : Int) := by omega
            obtain ⟨x, hx⟩ := at_lt (l := l1) (i := t) (by have := HN1.out; omega)
            obtain ⟨bs, off, rfl, hbs, hcell⟩ := HAT1.out t x hx
            have hbw := HB8.out
            have c0 := (hbw.cell (p := ⟨bs, _, none⟩) hbs).trans (hcell 0 _ rfl)
            have c1 := (hbw.cell (p := ⟨bs, _, none⟩) hbs).trans (hcell 1 _ rfl)
            have c2 := (hbw.cell (p := ⟨bs, _, none⟩) hbs).trans (hcell 2 _ rfl)
            have c3 := (hbw.cell (p := ⟨bs, _, none⟩) hbs).trans (hcell 3 _ rfl)
            simp only [Nat.add_zero] at c0
            have hbs8 : bs < w8.heap.size := Nat.lt_of_lt_of_le hbs hbw.size
            have hvx := (HVV1.out x (mem_at hx)).vc.on hbw
            have hvl := HVR.out x (mem_at hx)
            have hpx : P[t]? = some x.pl := by rw [HPE.out, List.getElem?_map, hx]; rfl
            obtain ⟨xi, xg, xt, xv, xs⟩ := x
            obtain ⟨va, vc, hxv, -, -⟩ := hvx.form
            simp only at hxv hvx hvl c0 c1 c2 c3
            subst hxv
            obtain ⟨m, hm⟩ : ∃ m, m = xs.length := ⟨_, rfl⟩
            rw [← hm] at c3 hvx hvl
            have HPX := Lib.hid (show P[t]? = some (xi, xg, xt, xs) from hpx)
            have HVX := Lib.hid hvx
            have HM := Lib.hid (And.intro hm hvl)
            have hle := cntF_le q P t
            obtain ⟨G, hG⟩ : ∃ G : Int, G = (n1 : Int) - (n2 : Int) - ((t : Int) - (cntF q P t : Nat)) := ⟨_, rfl⟩
            rw [← hG]
            have HGG := Lib.hid hG
            have hwr : IntKind.i64.wrap (G - 1) = G - 1 := IntWalk.i64_in _ (by omega)
            have hb9 := ba (Below.refl w8.heap.size w8) (.cells #[.int .i64 xi, .int .i64 xg, .int .i64 xt, .slice va m vc] 72)
            have HB9s := Lib.hid hb9
            have HB9 := Lib.hid (hbw.trans (hb9.mono hbw.size))
            have HK9 := Lib.hid (FB.made w8 xi xg xt (.slice va m vc))
            clear hcell hvx hx hbs hbw hpx hm hvl hb9 hG hle
            go_upto_region 16 with (fail)
            clear c0 c1 c2 c3 hbs8
            generalize w8.alloc (.cells #[.int .i64 xi, .int .i64 xg, .int .i64 xt, .slice va m vc] 72) = w9 at *
            obtain ⟨fb, hfb⟩ : ∃ b, b = w8.heap.size := ⟨_, rfl⟩
            rw [← hfb] at HK9 ⊢
            clear hfb
            obtain ⟨c0, c1, c2, c3⟩ := HK9.out.cells
            have c4 := HK9.out.lt
            rcases HK3.out with ⟨hkd, hak⟩ | ⟨hkd, hak⟩ | ⟨hkd, hak⟩
            · have hU := Lib.hid (show q (xi, xg, xt, xs) = !(xi == n) from by rw [HQQ.out]; show (!unwP _ _) = _; unfold unwP; simp only [hak, if_true])
              have k1 : decide (kd ≤ 1) = true := decide_eq_true hkd
              have k2 : (kd == 2) = false := by simp; omega
              have k3 : decide (3 ≤ kd) = false := decide_eq_false (by omega)
              clear hak hkd
              by_cases hxn : xi = n
              · have HUX := Lib.hid (show q (xi, xg, xt, xs) = false from by rw [hU.out, hxn]; simp)
                have hxb : (xi == n) = true := by simpa using hxn
                clear hU hxn
                have HC := Lib.hid (show cntF q P (t + 1) = cntF q P t from by rw [cntF_next HPX.out, if_neg (by rw [HUX.out]; simp)]; rfl)
                go_upto_region 17 with (fail)
                clear c0 c1 c2 c3
                go_wp2
                go_roundw
                case rel => exact ⟨t + 1, by omega, by go_num, by rw [HC.out], by rw [HC.out, HGG.out]; congr 1; omega, HB9⟩
                case measure => simp [intOf]; omega
              · have HUX := Lib.hid (show q (xi, xg, xt, xs) = true from by rw [hU.out]; simpa using hxn)
                have hxb : (xi == n) = false := by simpa using hxn
                clear hU hxn
                go_upto_region 18 with (fail)
                have hcl := cntF_at HPX.out HUX.out
                rw [← HQ.out, List.getElem?_map] at hcl
                obtain ⟨y, hy, hyx⟩ : ∃ y, l2[cntF q P t]? = some y ∧ y.pl = (⟨xi, xg, xt, .slice va m vc, xs⟩ : Fl).pl := by
                  cases hh : l2[cntF q P t]? with
                  | none => rw [hh] at hcl; cases hcl
                  | some y => rw [hh] at hcl; exact ⟨y, rfl, Option.some.inj hcl⟩
                clear hcl
                obtain ⟨k, hk⟩ : ∃ k, k = cntF q P t := ⟨_, rfl⟩
                rw [← hk] at hy ⊢
                have hk2 : k < n2 := by rw [HN2.out]; exact (List.getElem?_eq_some_iff.1 hy).1
                have hk2i : ¬ (n2 : Int) ≤ (k : Int) := by omega
                have hk2j : (k : Int) < (n2 : Int) := by omega
                obtain ⟨b2, off2, rfl, hbs2, hcell2⟩ := HAT2.out k y hy
                have hb8 := HB8.out
                have hvy := ((HV2.out y (mem_at hy)).vc.on hb8)
                obtain ⟨yi, yg, yt, yv, ys⟩ := y
                obtain ⟨ua, uc, hyv, -, -⟩ := hvy.form
                simp only at hyv hvy
                subst hyv
                obtain ⟨e1, e2, e3, e4⟩ : yi = xi ∧ yg = xg ∧ yt = xt ∧ ys = xs := by
                  have := hyx
                  simp only [Fl.pl, Prod.mk.injEq] at this
                  exact this
                subst e1 e2 e3 e4
                have d0 := (hb8.cell (p := ⟨b2, _, none⟩) hbs2).trans (hcell2 0 _ rfl)
                have d1 := (hb8.cell (p := ⟨b2, _, none⟩) hbs2).trans (hcell2 1 _ rfl)
                have d2 := (hb8.cell (p := ⟨b2, _, none⟩) hbs2).trans (hcell2 2 _ rfl)
                have d3 := (hb8.cell (p := ⟨b2, _, none⟩) hbs2).trans (hcell2 3 _ rfl)
                simp only [Nat.add_zero] at d0
                have hb9 := HB9s.out
                have d0 := (hb9.cell (p := ⟨b2, _, none⟩) (Nat.lt_of_lt_of_le hbs2 hb8.size)).trans d0
                have d1 := (hb9.cell (p := ⟨b2, _, none⟩) (Nat.lt_of_lt_of_le hbs2 hb8.size)).trans d1
                have d2 := (hb9.cell (p := ⟨b2, _, none⟩) (Nat.lt_of_lt_of_le hbs2 hb8.size)).trans d2
                have d3 := (hb9.cell (p := ⟨b2, _, none⟩) (Nat.lt_of_lt_of_le hbs2 hb8.size)).trans d3
                have hbl2 := Nat.lt_of_lt_of_le hbs2 (Nat.le_trans hb8.size hb9.size)
                have HH := Lib.hid fun z : Ext w9 => quiet_extF z (same_any (.slice ua ys.length uc) (.slice va m vc) ys ys (by have := HM.out; omega) (ext w9 z) ⟨(hvy.on hb9).on (ext_below _ z), (HVX.out.on hb9).on (ext_below _ z)⟩)
                have hdd : decide (ys = ys) = true := decide_eq_true rfl
                simp only [hdd] at HH
                have HC := Lib.hid (show cntF q P (t + 1) = k + 1 from by rw [cntF_next HPX.out, if_pos HUX.out, ← hk])
                have HK := Lib.hid hk
                obtain ⟨yn, hyn⟩ : ∃ yn, yn = ys.length := ⟨_, rfl⟩
                rw [← hyn] at HH d3
                clear hvy hcell2 hy hyx hb8 hb9 hbs2 hdd hk hyn
                refine wp_region_pure (by kernel_rfl) (by kernel_rfl) ?_
                repeat (first | go_big_quiet_step ((go_at_call 46; with_reducible exact HH.out _)) | (quiet_step ((go_at_call 46; with_reducible exact HH.out _))))
                refine wpQuiet_nil ?_
                rintro w10 ⟨x10, hx10⟩
                have hb10 := ext_below _ x10
                rw [← hx10] at hb10
                have HB10 := Lib.hid (HB9.out.trans (hb10.mono HB9.out.size))
                clear hx10 x10 hb10 c0 c1 c2 c3 d0 d1 d2 d3 hbl2 HH
                go_wp2
                go_roundw
                case rel => exact ⟨t + 1, by omega, by go_num, by rw [HC.out]; go_num, by rw [HC.out, HGG.out, HK.out]; congr 1; omega, HB10⟩
                case measure => simp [intOf]; omega
            · have hU := Lib.hid (show q (xi, xg, xt, xs) = !(xg == n) from by rw [HQQ.out]; show (!unwP _ _) = _; unfold unwP; simp only [hak]; rfl)
              have k1 : decide (kd ≤ 1) = false := decide_eq_false (by omega)
              have k2 : (kd == 2) = true := by simpa using hkd
              have k3 : decide (3 ≤ kd) = false := decide_eq_false (by omega)
              clear hak hkd
              by_cases hxn : xg = n
              · have HUX := Lib.hid (show q (xi, xg, xt, xs) = false from by rw [hU.out, hxn]; simp)
                have hxb : (xg == n) = true := by simpa using hxn
                clear hU hxn
                have HC := Lib.hid (show cntF q P (t + 1) = cntF q P t from by rw [cntF_next HPX.out, if_neg (by rw [HUX.out]; simp)]; rfl)
                go_upto_region 17 with (fail)
                clear c0 c1 c2 c3
                go_wp2
                go_roundw
                case rel => exact ⟨t + 1, by omega, by go_num, by rw [HC.out], by rw [HC.out, HGG.out]; congr 1; omega, HB9⟩
                case measure => simp [intOf]; omega
              · have HUX := Lib.hid (show q (xi, xg, xt, xs) = true from by rw [hU.out]; simpa using hxn)
                have hxb : (xg == n) = false := by simpa using hxn
                clear hU hxn
                go_upto_region 18 with (fail)
                have hcl := cntF_at HPX.out HUX.out
                rw [← HQ.out, List.getElem?_map] at hcl
                obtain ⟨y, hy, hyx⟩ : ∃ y, l2[cntF q P t]? = some y ∧ y.pl = (⟨xi, xg, xt, .slice va m vc, xs⟩ : Fl).pl := by
                  cases hh : l2[cntF q P t]? with
                  | none => rw [hh] at hcl; cases hcl
                  | some y => rw [hh] at hcl; exact ⟨y, rfl, Option.some.inj hcl⟩
                clear hcl
                obtain ⟨k, hk⟩ : ∃ k, k = cntF q P t := ⟨_, rfl⟩
                rw [← hk] at hy ⊢
                have hk2 : k < n2 := by rw [HN2.out]; exact (List.getElem?_eq_some_iff.1 hy).1
                have hk2i : ¬ (n2 : Int) ≤ (k : Int) := by omega
                have hk2j : (k : Int) < (n2 : Int) := by omega
                obtain ⟨b2, off2, rfl, hbs2, hcell2⟩ := HAT2.out k y hy
                have hb8 := HB8.out
                have hvy := ((HV2.out y (mem_at hy)).vc.on hb8)
                obtain ⟨yi, yg, yt, yv, ys⟩ := y
                obtain ⟨ua, uc, hyv, -, -⟩ := hvy.form
                simp only at hyv hvy
                subst hyv
                obtain ⟨e1, e2, e3, e4⟩ : yi = xi ∧ yg = xg ∧ yt = xt ∧ ys = xs := by
                  have := hyx
                  simp only [Fl.pl, Prod.mk.injEq] at this
                  exact this
                subst e1 e2 e3 e4
                have d0 := (hb8.cell (p := ⟨b2, _, none⟩) hbs2).trans (hcell2 0 _ rfl)
                have d1 := (hb8.cell (p := ⟨b2, _, none⟩) hbs2).trans (hcell2 1 _ rfl)
                have d2 := (hb8.cell (p := ⟨b2, _, none⟩) hbs2).trans (hcell2 2 _ rfl)
                have d3 := (hb8.cell (p := ⟨b2, _, none⟩) hbs2).trans (hcell2 3 _ rfl)
                simp only [Nat.add_zero] at d0
                have hb9 := HB9s.out
                have d0 := (hb9.cell (p := ⟨b2, _, none⟩) (Nat.lt_of_lt_of_le hbs2 hb8.size)).trans d0
                have d1 := (hb9.cell (p := ⟨b2, _, none⟩) (Nat.lt_of_lt_of_le hbs2 hb8.size)).trans d1
                have d2 := (hb9.cell (p := ⟨b2, _, none⟩) (Nat.lt_of_lt_of_le hbs2 hb8.size)).trans d2
                have d3 := (hb9.cell (p := ⟨b2, _, none⟩) (Nat.lt_of_lt_of_le hbs2 hb8.size)).trans d3
                have hbl2 := Nat.lt_of_lt_of_le hbs2 (Nat.le_trans hb8.size hb9.size)
                have HH := Lib.hid fun z : Ext w9 => quiet_extF z (same_any (.slice ua ys.length uc) (.slice va m vc) ys ys (by have := HM.out; omega) (ext w9 z) ⟨(hvy.on hb9).on (ext_below _ z), (HVX.out.on hb9).on (ext_below _ z)⟩)
                have hdd : decide (ys = ys) = true := decide_eq_true rfl
                simp only [hdd] at HH
                have HC := Lib.hid (show cntF q P (t + 1) = k + 1 from by rw [cntF_next HPX.out, if_pos HUX.out, ← hk])
                have HK := Lib.hid hk
                obtain ⟨yn, hyn⟩ : ∃ yn, yn = ys.length := ⟨_, rfl⟩
                rw [← hyn] at HH d3
                clear hvy hcell2 hy hyx hb8 hb9 hbs2 hdd hk hyn
                refine wp_region_pure (by kernel_rfl) (by kernel_rfl) ?_
                repeat (first | go_big_quiet_step ((go_at_call 46; with_reducible exact HH.out _)) | (quiet_step ((go_at_call 46; with_reducible exact HH.out _))))
                refine wpQuiet_nil ?_
                rintro w10 ⟨x10, hx10⟩
                have hb10 := ext_below _ x10
                rw [← hx10] at hb10
                have HB10 := Lib.hid (HB9.out.trans (hb10.mono HB9.out.size))
                clear hx10 x10 hb10 c0 c1 c2 c3 d0 d1 d2 d3 hbl2 HH
                go_wp2
                go_roundw
                case rel => exact ⟨t + 1, by omega, by go_num, by rw [HC.out]; go_num, by rw [HC.out, HGG.out, HK.out]; congr 1; omega, HB10⟩
                case measure => simp [intOf]; omega
            · have hU := Lib.hid (show q (xi, xg, xt, xs) = !decide (xt ≤ n) from by rw [HQQ.out]; show (!unwP _ _) = _; unfold unwP; simp only [hak]; rfl)
              have k1 : decide (kd ≤ 1) = false := decide_eq_false (by omega)
              have k2 : (kd == 2) = false := by simp; omega
              have k3 : decide (3 ≤ kd) = true := decide_eq_true hkd
              clear hak hkd
              by_cases hxn : xt ≤ n
              · have HUX := Lib.hid (show q (xi, xg, xt, xs) = false from by rw [hU.out, decide_eq_true hxn]; rfl)
                have hxb : decide (xt ≤ n) = true := decide_eq_true hxn
                clear hU hxn
                have HC := Lib.hid (show cntF q P (t + 1) = cntF q P t from by rw [cntF_next HPX.out, if_neg (by rw [HUX.out]; simp)]; rfl)
                go_upto_region 17 with (fail)
                clear c0 c1 c2 c3
                go_wp2
                go_roundw
                case rel => exact ⟨t + 1, by omega, by go_num, by rw [HC.out], by rw [HC.out, HGG.out]; congr 1; omega, HB9⟩
                case measure => simp [intOf]; omega
              · have HUX := Lib.hid (show q (xi, xg, xt, xs) = true from by rw [hU.out, decide_eq_false hxn]; rfl)
                have hxb : decide (xt ≤ n) = false := decide_eq_false hxn
                clear hU hxn
                go_upto_region 18 with (fail)
                have hcl := cntF_at HPX.out HUX.out
                rw [← HQ.out, List.getElem?_map] at hcl
                obtain ⟨y, hy, hyx⟩ : ∃ y, l2[cntF q P t]? = some y ∧ y.pl = (⟨xi, xg, xt, .slice va m vc, xs⟩ : Fl).pl := by
                  cases hh : l2[cntF q P t]? with
                  | none => rw [hh] at hcl; cases hcl
                  | some y => rw [hh] at hcl; exact ⟨y, rfl, Option.some.inj hcl⟩
                clear hcl
                obtain ⟨k, hk⟩ : ∃ k, k = cntF q P t := ⟨_, rfl⟩
                rw [← hk] at hy ⊢
                have hk2 : k < n2 := by rw [HN2.out]; exact (List.getElem?_eq_some_iff.1 hy).1
                have hk2i : ¬ (n2 : Int) ≤ (k : Int) := by omega
                have hk2j : (k : Int) < (n2 : Int) := by omega
                obtain ⟨b2, off2, rfl, hbs2, hcell2⟩ := HAT2.out k y hy
                have hb8 := HB8.out
                have hvy := ((HV2.out y (mem_at hy)).vc.on hb8)
                obtain ⟨yi, yg, yt, yv, ys⟩ := y
                obtain ⟨ua, uc, hyv, -, -⟩ := hvy.form
                simp only at hyv hvy
                subst hyv
                obtain ⟨e1, e2, e3, e4⟩ : yi = xi ∧ yg = xg ∧ yt = xt ∧ ys = xs := by
                  have := hyx
                  simp only [Fl.pl, Prod.mk.injEq] at this
                  exact this
                subst e1 e2 e3 e4
                have d0 := (hb8.cell (p := ⟨b2, _, none⟩) hbs2).trans (hcell2 0 _ rfl)
                have d1 := (hb8.cell (p := ⟨b2, _, none⟩) hbs2).trans (hcell2 1 _ rfl)
                have d2 := (hb8.cell (p := ⟨b2, _, none⟩) hbs2).trans (hcell2 2 _ rfl)
                have d3 := (hb8.cell (p := ⟨b2, _, none⟩) hbs2).trans (hcell2 3 _ rfl)
                simp only [Nat.add_zero] at d0
                have hb9 := HB9s.out
                have d0 := (hb9.cell (p := ⟨b2, _, none⟩) (Nat.lt_of_lt_of_le hbs2 hb8.size)).trans d0
                have d1 := (hb9.cell (p := ⟨b2, _, none⟩) (Nat.lt_of_lt_of_le hbs2 hb8.size)).trans d1
                have d2 := (hb9.cell (p := ⟨b2, _, none⟩) (Nat.lt_of_lt_of_le hbs2 hb8.size)).trans d2
                have d3 := (hb9.cell (p := ⟨b2, _, none⟩) (Nat.lt_of_lt_of_le hbs2 hb8.size)).trans d3
                have hbl2 := Nat.lt_of_lt_of_le hbs2 (Nat.le_trans hb8.size hb9.size)
                have HH := Lib.hid fun z : Ext w9 => quiet_extF z (same_any (.slice ua ys.length uc) (.slice va m vc) ys ys (by have := HM.out; omega) (ext w9 z) ⟨(hvy.on hb9).on (ext_below _ z), (HVX.out.on hb9).on (ext_below _ z)⟩)
                have hdd : decide (ys = ys) = true := decide_eq_true rfl
                simp only [hdd] at HH
                have HC := Lib.hid (show cntF q P (t + 1) = k + 1 from by rw [cntF_next HPX.out, if_pos HUX.out, ← hk])
                have HK := Lib.hid hk
                obtain ⟨yn, hyn⟩ : ∃ yn, yn = ys.length := ⟨_, rfl⟩
                rw [← hyn] at HH d3
                clear hvy hcell2 hy hyx hb8 hb9 hbs2 hdd hk hyn
                refine wp_region_pure (by kernel_rfl) (by kernel_rfl) ?_
                repeat (first | go_big_quiet_step ((go_at_call 46; with_reducible exact HH.out _)) | (quiet_step ((go_at_call 46; with_reducible exact HH.out _))))
                refine wpQuiet_nil ?_
                rintro w10 ⟨x10, hx10⟩
                have hb10 := ext_below _ x10
                rw [← hx10] at hb10
                have HB10 := Lib.hid (HB9.out.trans (hb10.mono HB9.out.size))
                clear hx10 x10 hb10 c0 c1 c2 c3 d0 d1 d2 d3 hbl2 HH
                go_wp2
                go_roundw
                case rel => exact ⟨t + 1, by omega, by go_num, by rw [HC.out]; go_num, by rw [HC.out, HGG.out, HK.out]; congr 1; omega, HB10⟩
                case measure => simp [intOf]; omega
          · obtain rfl : n1 = t := by omega
            rw [HCA.out]
            have hz : (n1 : Int) - (n2 : Int) - ((n1 : Int) - (n2 : Int)) = 0 := by omega
            rw [hz]
            clear hz hlt ht
            have hb9 := ba (Below.refl w8.heap.size w8) (.cells #[.int .i64 0, .int .i64 0, .map none] 92)
            have hp9 := heap_alloc_new w8 (.cells #[.int .i64 0, .int .i64 0, .map none] 92)
            have HP9 := Lib.hid (show FPL (w8.alloc (.cells #[.int .i64 0, .int .i64 0, .map none] 92)) w8.heap.size from hp9)
            have HB9 := Lib.hid (HB8.out.trans (hb9.mono HB8.out.size))
            clear hb9 hp9
            go_upto_region 23 with (fail)
            generalize w8.alloc (.cells #[.int .i64 0, .int .i64 0, .map none] 92) = w9 at *
            obtain ⟨pb, hpb⟩ : ∃ b, b = w8.heap.size := ⟨_, rfl⟩
            rw [← hpb] at HP9 ⊢
            clear hpb
            have hb10 := ba (Below.refl w9.heap.size w9) (.cells #[.int .i64 0, .int .i64 0, .int .i64 1] 57)
            have e10 : (w9.alloc (.cells #[.int .i64 0, .int .i64 0, .int .i64 1] 57)).heap.size = w9.heap.size + 1 := by simp
            have hb11 := ba hb10 (.cells #[.int .i64 1, .int .i64 1, .int .i64 1, .slice (some ⟨w9.heap.size, 0, none⟩) 1 1] 72)
            have HB11 := Lib.hid (HB9.out.trans (hb11.mono HB9.out.size))
            have HP11 := Lib.hid (HP9.out.below hb11)
            have hk11 := FB.made (w9.alloc (.cells #[.int .i64 0, .int .i64 0, .int .i64 1] 57)) 1 1 1 (.slice (some ⟨w9.heap.size, 0, none⟩) 1 1)
            rw [e10] at hk11
            have HK11 := Lib.hid hk11
            clear hb10 hb11 hk11
            go_upto_region 24 with (fail)
            clear e10
            generalize (w9.alloc (.cells #[.int .i64 0, .int .i64 0, .int .i64 1] 57)).alloc (.cells #[.int .i64 1, .int .i64 1, .int .i64 1, .slice (some ⟨w9.heap.size, 0, none⟩) 1 1] 72) = w11 at *
            generalize w9.heap.size = ob at *
            obtain ⟨c0, c1, c2, c3⟩ := HK11.out.cells
            have c4 := HK11.out.lt
            go_wp2_with fail
            clear c0 c1 c2 c3 c4
            refine (nfput (nof_nil w11) 1 1 1 _ _ _).mono ?_
            rintro e w12 ⟨rfl, hb12⟩
            have HB12 := Lib.hid (HB11.out.trans (hb12.mono HB11.out.size))
            have HP12 := Lib.hid (HP11.out.below hb12)
            have HK12 := Lib.hid (HK11.out.below hb12)
            obtain ⟨c0, c1, c2, c3⟩ := HK12.out.cells
            have c4 := HK12.out.lt
            clear hb12
            go_wp2_with fail
            clear c0 c1 c2 c3 c4
            refine (nfput (nof_plain HP12.out) 1 1 1 _ _ _).mono ?_
            rintro e w13 ⟨rfl, hb13⟩
            have HB13 := Lib.hid (HB12.out.trans (hb13.mono HB12.out.size))
            have HP13 := Lib.hid (HP12.out.below hb13)
            clear hb13
            go_wp2_with fail
            refine (nfblocks (nof_nil w13) 1 1 _ _ _).mono ?_
            rintro e w14 ⟨rfl, hb14⟩
            have HB14 := Lib.hid (HB13.out.trans (hb14.mono HB13.out.size))
            have HP14 := Lib.hid (HP13.out.below hb14)
            clear hb14
            go_wp2_with fail
            refine (nfforget (nof_plain HP14.out) 1).mono ?_
            rintro e w15 ⟨rfl, hb15⟩
            have HB15 := Lib.hid (HB14.out.trans (hb15.mono HB14.out.size))
            clear hb15
            go_wp2_with fail
            refine (works26 w15).mono ?_
            rintro e w16 ⟨rfl, hb16⟩
            have HB16 := Lib.hid (HB15.out.trans (hb16.mono HB15.out.size))
            clear hb16
            go_wp2
            go_ret
            exact ⟨rfl, HB1.out.trans ((HB7W.out.trans (HB16.out.mono HB7W.out.size)).mono HB1.out.size)⟩
  · have HFT := Lib.hid (show decide (l.length ≤ 100 ∧ (l.map faW).sum ≤ 400) = false from decide_eq_false hfew)
    clear hfew
    go_enter Try.func8, Try.ntmps8
    go_wp2_with fail
    refine HFW.out.mono ?_
    rintro e w1 ⟨rfl, hb1⟩
    rw [HFT.out]
    have HB1 := Lib.hid hb1
    clear hb1
    go_wp2
    go_ret
    exact ⟨rfl, HB1.out⟩
end Go.Proofs.Ytennhfkhdfalfaa

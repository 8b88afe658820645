/- The walk of SorterStands. -/
import Derived.Test.YtgfjmafdfbghnaaSgP
namespace Go.Proofs.Ytgfjmafdfbghnaa
open Go.RowKit Go.Maps
attribute [local go_sem] ext_cell ext_frozen extC_cell extC_frozen Mix.calmUpon Mix.mUpon
set_option maxRecDepth 100000 in
set_option maxHeartbeats 4000000 in
theorem stands9 (v : Value) (l : List A9) (W : World) (hr : RS 7 a9enc W v l) (ha : ∀ x ∈ l, I64 x.i) : Calls Try.prog 4 #[v] W fun e w' => e = .returned (.bool true) ∧ Below W.heap.size W w' := by
  obtain ⟨a, m, c, rfl, hn, hc, hm, hat⟩ := hr.at_
  have HN := Lib.hid hn; have HAT := Lib.hid hat; have HA := Lib.hid ha
  clear hr hn hat ha hm hc
  by_cases hbig : m ≤ 200
  · go_enter Try.func4, Try.ntmps4
    go_wp2_with fail
    refine (snew W).mono ?_
    rintro e w1 ⟨sp, M, tp, rfl, h, hb, h1, h2, h3⟩
    have HR := Lib.hid (show RB W sp M (fun _ => 0) (fun _ => none) w1 from ⟨tp, [], h, s9_nil, hb, h1, h2, h3⟩)
    clear h hb h1 h2 h3
    go_wp2
    go_loopw [4] (fun iv wr => ∃ (t : Nat) (T : Nat → Int) (G : Int → Option Cl), t ≤ m ∧ iv = .int .i64 t ∧ Hid (RB W sp M T G wr ∧ KS9 G t)) (fun iv _ => m - (intOf iv).toNat)
    case atStart => exact ⟨0, _, _, Nat.zero_le _, rfl, Lib.hid ⟨HR.out, KS9.nil⟩⟩
    case round =>
      obtain ⟨t, T, G, ht, rfl, HQ⟩ := hrel
      obtain ⟨w2, rfl⟩ : ∃ w2, w2 = wr := ⟨_, rfl⟩
      by_cases hlt : t < m
      · have hts : (t : Int) < (m : Int) := by omega
        obtain ⟨x, hx⟩ := at_lt (l := l) (i := t) (by rw [← HN.out]; exact hlt)
        have hxi := HA.out x (mem_at hx)
        obtain ⟨b, off, rfl, hb, hcell⟩ := HAT.out t x hx
        obtain ⟨tp, X, h, h9, hbw, h1, h2, h3⟩ := HQ.out.1
        have hl : X.length < 1000000 := Nat.lt_of_le_of_lt (h9.few HQ.out.2.few) (by omega)
        have e0 := (hbw.cell (p := ⟨b, off + t * 7 + 0, none⟩) hb).trans (hcell 0 _ rfl)
        have e1 := (hbw.cell (p := ⟨b, off + t * 7 + 1, none⟩) hb).trans (hcell 1 _ rfl)
        have e2 := (hbw.cell (p := ⟨b, off + t * 7 + 2, none⟩) hb).trans (hcell 2 _ rfl)
        have e3 := (hbw.cell (p := ⟨b, off + t * 7 + 3, none⟩) hb).trans (hcell 3 _ rfl)
        have e4 := (hbw.cell (p := ⟨b, off + t * 7 + 4, none⟩) hb).trans (hcell 4 _ rfl)
        have e5 := (hbw.cell (p := ⟨b, off + t * 7 + 5, none⟩) hb).trans (hcell 5 _ rfl)
        have e6 := (hbw.cell (p := ⟨b, off + t * 7 + 6, none⟩) hb).trans (hcell 6 _ rfl)
        simp only [Nat.add_zero] at e0
        have hb2 : b < w2.heap.size := Nat.lt_of_lt_of_le hb hbw.size
        have HD := Lib.hid (sdo h h9 x hxi hl)
        have HB := Lib.hid hbw
        have HS := Lib.hid (And.intro h1 (And.intro h2 h3))
        have HKS := Lib.hid (HQ.out.2.stp (T := T) x)
        clear h h9 hbw h1 h2 h3 hl hcell hx hxi
        go_wp2_with fail
        refine HD.out.mono ?_
        rintro e w3 hr
        have hr' := hr.rb HB.out HS.out.1 HS.out.2.1 HS.out.2.2
        obtain ⟨rfl, hr3⟩ := hr'
        have HR3 := Lib.hid hr3
        clear hr hr3 e0 e1 e2 e3 e4 e5 e6 hb hb2
        go_wp2
        go_roundw
        case rel => exact ⟨t + 1, _, _, by omega, by go_num, Lib.hid ⟨HR3.out, HKS.out⟩⟩
        case measure => simp [intOf]; omega
      · obtain rfl : m = t := by omega
        have HR := Lib.hid HQ.out.1; have HKS := Lib.hid HQ.out.2
        clear HQ
        obtain ⟨tp, X, h, h9, hbw, h1, h2, h3⟩ := HR.out
        have hlX : X.length < 1000000 := Nat.lt_of_le_of_lt (h9.few HKS.out.few) (by omega)
        go_wp2_with fail
        refine (sorder h hlX).mono ?_
        rintro e w3 ⟨v, rfl, ho, hb3⟩
        have HR3 := Lib.hid (show RB W sp M T G w3 from RB.below ⟨tp, X, h, h9, hbw, h1, h2, h3⟩ hb3)
        have H3 := Lib.hid (h.below hb3); have H9 := Lib.hid h9; have HB3 := Lib.hid (bt hbw hb3)
        obtain ⟨a2, q, cp, rfl, hq, hqc, hqm, hat2⟩ := (ho.rs (fun _ => rfl)).at_
        have h9few : X.length ≤ m := h9.few HKS.out.few
        have HAT2 := Lib.hid hat2; have HQL := Lib.hid (show q = X.length from hq.trans (by simp [ids]))
        clear ho hat2 hq h h9 hbw h1 h2 h3 hb3 HR
        go_wp2
        go_loopw [6, 7, 8, 9, 10] (fun iv _ _ _ _ wr => ∃ t : Nat, 1 ≤ t ∧ (t ≤ q ∨ t = 1) ∧ iv = .int .i64 t ∧ Hid (Below w3.heap.size w3 wr)) (fun iv _ _ _ _ _ => q - (intOf iv).toNat)
        case atStart => exact ⟨1, Nat.le_refl _, .inr rfl, rfl, Lib.hid (Below.refl _ _)⟩
        case round =>
          obtain ⟨t, ht1, ht2, rfl, HQ⟩ := hrel
          obtain ⟨w4, rfl⟩ : ∃ w2, w2 = wr := ⟨_, rfl⟩
          by_cases hlt : t < q
          · have hts : (t : Int) < (q : Int) := by omega
            obtain ⟨t', rfl⟩ : ∃ t', t = t' + 1 := ⟨t - 1, by omega⟩
            obtain ⟨x, hx⟩ := at_lt (l := X) (i := t') (by have := HQL.out; omega)
            obtain ⟨y, hy⟩ := at_lt (l := X) (i := t' + 1) (by have := HQL.out; omega)
            obtain ⟨cx, gx, _, px⟩ := (H9.out.mem x).1 (mem_at hx)
            obtain ⟨cy, gy, _, py⟩ := (H9.out.mem y).1 (mem_at hy)
            obtain ⟨b, off, rfl, hb, hcell⟩ := HAT2.out t' x.i (by simp [ids, hx])
            obtain ⟨b', off', eb, _, hcell'⟩ := HAT2.out (t' + 1) y.i (by simp [ids, hy])
            cases eb
            have HXC := Lib.hid (hcell 0 _ rfl); have HYC := Lib.hid (hcell' 0 _ rfl)
            have e0 := (HQ.out.cell (p := ⟨b, off + t' * 1 + 0, none⟩) hb).trans HXC.out
            simp only [Nat.mul_one, Nat.add_zero] at e0
            have hsub : ((t' + 1 : Nat) : Int) - 1 = (t' : Int) := by omega
            have hb4 : b < w4.heap.size := Nat.lt_of_lt_of_le hb HQ.out.size
            have HBB := Lib.hid hb
            have HSX := Lib.hid (sshare_some (c := cx) (H3.out.below HQ.out) (H9.out.ok _ _ gx).i64 gx)
            have HSY := Lib.hid fun w' (hw : Below w3.heap.size w3 w') => sshare_some (c := cy) (H3.out.below hw) (H9.out.ok _ _ gy).i64 gy
            have HPX := Lib.hid px; have HPY := Lib.hid py
            have HPL := Lib.hid (show plo x y < 0 from by
              have := List.pairwise_iff_getElem.1 H9.out.sl.2 t' (t' + 1) (List.getElem?_eq_some_iff.1 hx).1 (List.getElem?_eq_some_iff.1 hy).1 (by omega)
              rw [(List.getElem?_eq_some_iff.1 hx).2, (List.getElem?_eq_some_iff.1 hy).2] at this
              exact this)
            have hq2 : X.length ≤ m := h9few
            have hw64 : wrap64 (t' : Int) = (t' : Int) := IntWalk.wrap64_in _ ⟨by omega, by have := HQL.out; omega⟩
            have HW65 := Lib.hid (show wrap64 ((t' : Int) + 1 + 1) = (t' : Int) + 1 + 1 from IntWalk.wrap64_in _ ⟨by omega, by have := HQL.out; omega⟩)
            clear hx hy hcell hcell' hb gx gy px py hq2
            go_wp2_with fail
            refine HSX.out.mono ?_
            rintro e w5 ⟨rfl, hb5⟩
            have hba := ba (Below.refl w5.heap.size w5) (.cells #[.int .i64 (domV cx.s T).2.1, .int .i64 (domV cx.s T).2.2, .int .i64 cx.wt] 46)
            have HB6 := Lib.hid (bt (bt HQ.out hb5) hba)
            have HK6 := Lib.hid (_root_.Go.Proofs.Ytgfjmafdfbghnaa.HB3.made w5 (domV cx.s T).2.1 (domV cx.s T).2.2 cx.wt)
            clear hb5 hba e0 hb4
            go_upto_region 13 with (fail)
            generalize w5.alloc (.cells #[.int .i64 (domV cx.s T).2.1, .int .i64 (domV cx.s T).2.2, .int .i64 cx.wt] 46) = w6 at *
            generalize w5.heap.size = k6 at *
            have e0 := (HB6.out.cell (p := ⟨b, off + (t' + 1) * 1 + 0, none⟩) HBB.out).trans HYC.out
            simp only [Nat.mul_one, Nat.add_zero] at e0
            have hb6 : b < w6.heap.size := Nat.lt_of_lt_of_le HBB.out HB6.out.size
            go_wp2_with fail
            refine (HSY.out w6 HB6.out).mono ?_
            rintro e w7 ⟨rfl, hb7⟩
            have hba := ba (Below.refl w7.heap.size w7) (.cells #[.int .i64 (domV cy.s T).2.1, .int .i64 (domV cy.s T).2.2, .int .i64 cy.wt] 46)
            have HB8 := Lib.hid (bt (bt HB6.out hb7) hba)
            have HK7 := Lib.hid (HK6.out.below (bt hb7 hba))
            have HK8 := Lib.hid (_root_.Go.Proofs.Ytgfjmafdfbghnaa.HB3.made w7 (domV cy.s T).2.1 (domV cy.s T).2.2 cy.wt)
            clear hb7 hba e0 hb6
            go_upto_region 14 with (fail)
            generalize w7.alloc (.cells #[.int .i64 (domV cy.s T).2.1, .int .i64 (domV cy.s T).2.2, .int .i64 cy.wt] 46) = w8 at *
            generalize w7.heap.size = k8 at *
            have e0 := (HB8.out.cell (p := ⟨b, off + t' * 1 + 0, none⟩) HBB.out).trans HXC.out
            have e1 := (HB8.out.cell (p := ⟨b, off + (t' + 1) * 1 + 0, none⟩) HBB.out).trans HYC.out
            simp only [Nat.mul_one, Nat.add_zero] at e0 e1
            have hb8 : b < w8.heap.size := Nat.lt_of_lt_of_le HBB.out HB8.out.size
            obtain ⟨x0, x1, x2⟩ := HK7.out.cells
            have xl := HK7.out.lt
            obtain ⟨y0, y1, y2⟩ := HK8.out.cells
            have yl := HK8.out.lt
            have HSC := Lib.hid (scmp_any (domV cx.s T).2.1 (domV cx.s T).2.2 cx.wt (domV cy.s T).2.1 (domV cy.s T).2.2 cy.wt)
            have hpl := HPL.out
            rw [plo_lt] at hpl
            have hpl2 : scmp (domV cx.s T).2.1 (domV cx.s T).2.2 cx.wt (domV cy.s T).2.1 (domV cy.s T).2.2 cy.wt < 0 ∨ scmp (domV cx.s T).2.1 (domV cx.s T).2.2 cx.wt (domV cy.s T).2.1 (domV cy.s T).2.2 cy.wt = 0 ∧ x.i < y.i := by
              have h1 := HPX.out; have h2 := HPY.out
              rw [h1, h2] at hpl
              have h3 : (plOf T x.i cx).i = x.i := rfl
              rw [← h1, ← h2] at hpl
              rw [h1] at hpl
              rw [h2] at hpl
              exact hpl
            generalize scmp (domV cx.s T).2.1 (domV cx.s T).2.2 cx.wt (domV cy.s T).2.1 (domV cy.s T).2.2 cy.wt = z at HSC hpl2
            clear hpl
            rcases hpl2 with hz | ⟨hz, hlt2⟩
            · have hz1 : ¬ 0 < z := by omega
              have hz2 : (z == 0) = false := by simp; omega
              refine wp_region_pure (by kernel_rfl) (by kernel_rfl) ?_
              repeat (first | go_big_quiet_step (first | (go_at_call 19; with_reducible exact HSC.out.quiet)) | (quiet_step (first | (go_at_call 19; with_reducible exact HSC.out.quiet))))
              refine wpQuiet_nil ?_
              rintro w9 ⟨x9, hx9⟩
              have hb9 := ext_below _ x9
              rw [← hx9] at hb9
              have HB9 := Lib.hid (bt HB8.out hb9)
              clear hx9 x9 hb9 e0 e1 hb8 x0 x1 x2 xl y0 y1 y2 yl
              go_wp2
              rw [HW65.out]
              go_roundw
              case rel => exact ⟨t' + 2, by omega, .inl (by omega), by go_num, HB9⟩
              case measure => simp [intOf]; omega
            · subst hz
              have hz1 : ¬ y.i ≤ x.i := by omega
              refine wp_region_pure (by kernel_rfl) (by kernel_rfl) ?_
              repeat (first | go_big_quiet_step (first | (go_at_call 19; with_reducible exact HSC.out.quiet)) | (quiet_step (first | (go_at_call 19; with_reducible exact HSC.out.quiet))))
              refine wpQuiet_nil ?_
              rintro w9 ⟨x9, hx9⟩
              have hb9 := ext_below _ x9
              rw [← hx9] at hb9
              have HB9 := Lib.hid (bt HB8.out hb9)
              clear hx9 x9 hb9 e0 e1 hb8 x0 x1 x2 xl y0 y1 y2 yl
              go_wp2
              rw [HW65.out]
              go_roundw
              case rel => exact ⟨t' + 2, by omega, .inl (by omega), by go_num, HB9⟩
              case measure => simp [intOf]; omega
          · have hts : ¬ ((t : Int) < (q : Int)) := by omega
            obtain ⟨S, s1, s2, s3⟩ := HKS.out
            have HSS := Lib.hid (And.intro s1 s2)
            have HLE := Lib.hid (show q ≤ S.length by
              have := nodup_le H9.out.ids (B := S) fun i hi => by
                obtain ⟨p, hp, rfl⟩ := List.mem_map.1 hi
                obtain ⟨c, hc, _⟩ := (H9.out.mem p).1 hp
                exact (s2 _).2 (by simp [hc])
              have h2 := HQL.out
              simp at this; omega)
            have HS4 := Lib.hid (slong (H3.out.below HQ.out) s1 s2)
            have HB4 := Lib.hid (bt HB3.out HQ.out)
            obtain ⟨k, hk⟩ : ∃ k, S.length = k := ⟨_, rfl⟩
            rw [hk] at HS4 HLE
            have hle : (q : Int) ≤ (k : Int) := by have := HLE.out; omega
            clear s1 s2 s3 hk HSS HKS
            go_wp2_with fail
            refine HS4.out.mono ?_
            rintro e w5 ⟨rfl, rfl⟩
            go_wp2_with fail
            refine (works9 _).mono ?_
            rintro e w6 ⟨rfl, hb6⟩
            have HB6 := Lib.hid (bt HB4.out hb6)
            clear hb6
            go_wp2
            go_ret
            exact ⟨rfl, HB6.out⟩
  · go_enter Try.func4, Try.ntmps4
    go_wp2
    go_ret
    exact ⟨rfl, Below.refl _ _⟩
end Go.Proofs.Ytgfjmafdfbghnaa

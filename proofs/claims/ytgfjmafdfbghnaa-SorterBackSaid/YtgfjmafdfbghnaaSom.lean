/- The walk of SorterBack. -/
import Derived.Test.YtgfjmafdfbghnaaSol
import Derived.Test.YtgfjmafdfbghnaaSok
namespace Go.Proofs.Ytgfjmafdfbghnaa
open Go.RowKit Go.Maps
attribute [local go_sem] ext_cell ext_frozen extC_cell extC_frozen Mix.calmUpon Mix.mUpon
theorem few_up {G : Int → Option Cl} {n m : Nat} (h : Few G n) (hm : n ≤ m) : Few G m := by obtain ⟨S, h1, h2⟩ := h; exact ⟨S, h1, Nat.le_trans h2 hm⟩
/-- What is given, and taken again where it was given. -/
def gk (T : Nat → Int) (G : Int → Option Cl) (i : Int) (n : Nat → Int) : St := if (stG T G i n).1 = 0 then stK (stG T G i n).2.1 (stG T G i n).2.2 i n else stG T G i n
theorem stG_same {T n : Nat → Int} {G : Int → Option Cl} {i : Int} (h : (stG T G i n).1 ≠ 0) : (stG T G i n).2 = (T, G) := by
  unfold stG at *
  split
  · split
    · rename_i h1 h2; rw [h1] at h; simp [h2] at h
    · rfl
  · rfl
theorem few_stG {T : Nat → Int} {G : Int → Option Cl} {m : Nat} (h : Few G m) (i : Int) (n : Nat → Int) : Few (stG T G i n).2.2 (m + 1) := by
  unfold stG
  split
  · split
    · exact h.upd _ _
    · exact few_up h (by omega)
  · exact few_up h (by omega)
-- the end: the sorter stands as before at w5
set_option maxRecDepth 100000 in
set_option maxHeartbeats 4000000 in
theorem back9 (v : Value) (l : List A9) (W : World) (hr : RS 7 a9enc W v l) (ha : ∀ x ∈ l, I64 x.i) (i : Int) (hi : I64 i) (n : Nat → Int) : Calls Try.prog 5 #[v, .int .i64 i, S4 n] W fun e w' => e = .returned (.bool true) ∧ Below W.heap.size W w' := by
  have HB0 := Lib.hid (ba (Below.refl W.heap.size W) (.cells (C4 n) 40))
  have HNB := Lib.hid (NB.made W n)
  obtain ⟨a, m, c, rfl, hn, hc, hm, hat⟩ := (hr.below HB0.out).at_
  have HN := Lib.hid hn; have HAT := Lib.hid hat; have HA := Lib.hid ha; have HI := Lib.hid hi
  clear hr hn hat ha hm hc hi
  by_cases hbig : m ≤ 60
  · go_enter Try.func5, Try.ntmps5
    go_upto_region 1 with (fail)
    generalize W.alloc (.cells (C4 n) 40) = w0 at *
    obtain ⟨nb, hnb⟩ : ∃ b, b = W.heap.size := ⟨_, rfl⟩
    rw [← hnb] at HNB ⊢
    clear hnb
    go_wp2_with fail
    refine (snew w0).mono ?_
    rintro e w1 ⟨sp, M, tp, rfl, h, hb, h1, h2, h3⟩
    have HR := Lib.hid (show RB w0 sp M (fun _ => 0) (fun _ => none) w1 from ⟨tp, [], h, s9_nil, hb, h1, h2, h3⟩)
    clear h hb h1 h2 h3
    go_wp2
    go_loopw [8] (fun iv wr => ∃ (t : Nat) (T : Nat → Int) (G : Int → Option Cl), t ≤ m ∧ iv = .int .i64 t ∧ Hid (RB w0 sp M T G wr ∧ KS9 G t)) (fun iv _ => m - (intOf iv).toNat)
    case atStart => exact ⟨0, _, _, Nat.zero_le _, rfl, Lib.hid ⟨HR.out, KS9.nil⟩⟩
    case round =>
      obtain ⟨t, T, G, ht, rfl, HQ⟩ := hrel
      obtain ⟨w2, rfl⟩ : ∃ w2, w2 = wr := ⟨_, rfl⟩
      by_cases hlt : t < m
      · have hts : (t : Int) < (m : Int) := by omega
        obtain ⟨x, hx⟩ := at_lt (l := l) (i := t) (by rw [← HN.out]; exact hlt)
        have hxi := HA.out x (mem_at hx)
        obtain ⟨b, off, rfl, hb, hcell⟩ := HAT.out t x hx
        obtain ⟨tp, X, h, h9, hbw, h1, h2, h3⟩ := HQ.out.1
        have hl : X.length < 1000000 := Nat.lt_of_le_of_lt (h9.few HQ.out.2.few) (by omega)
        have e0 := (hbw.cell (p := ⟨b, off + t * 7 + 0, none⟩) hb).trans (hcell 0 _ rfl)
        have e1 := (hbw.cell (p := ⟨b, off + t * 7 + 1, none⟩) hb).trans (hcell 1 _ rfl)
        have e2 := (hbw.cell (p := ⟨b, off + t * 7 + 2, none⟩) hb).trans (hcell 2 _ rfl)
        have e3 := (hbw.cell (p := ⟨b, off + t * 7 + 3, none⟩) hb).trans (hcell 3 _ rfl)
        have e4 := (hbw.cell (p := ⟨b, off + t * 7 + 4, none⟩) hb).trans (hcell 4 _ rfl)
        have e5 := (hbw.cell (p := ⟨b, off + t * 7 + 5, none⟩) hb).trans (hcell 5 _ rfl)
        have e6 := (hbw.cell (p := ⟨b, off + t * 7 + 6, none⟩) hb).trans (hcell 6 _ rfl)
        simp only [Nat.add_zero] at e0
        have hb2 : b < w2.heap.size := Nat.lt_of_lt_of_le hb hbw.size
        have HD := Lib.hid (sdo h h9 x hxi hl)
        have HB := Lib.hid hbw
        have HS := Lib.hid (And.intro h1 (And.intro h2 h3))
        have HKS := Lib.hid (HQ.out.2.stp (T := T) x)
        clear h h9 hbw h1 h2 h3 hl hcell hx hxi
        go_wp2_with fail
        refine HD.out.mono ?_
        rintro e w3 hr
        have hr' := hr.rb HB.out HS.out.1 HS.out.2.1 HS.out.2.2
        obtain ⟨rfl, hr3⟩ := hr'
        have HR3 := Lib.hid hr3
        clear hr hr3 e0 e1 e2 e3 e4 e5 e6 hb hb2
        go_wp2
        go_roundw
        case rel => exact ⟨t + 1, _, _, by omega, by go_num, Lib.hid ⟨HR3.out, HKS.out⟩⟩
        case measure => simp [intOf]; omega
      · obtain rfl : m = t := by omega
        have HR := Lib.hid HQ.out.1; have HKS := Lib.hid HQ.out.2
        clear HQ
        obtain ⟨tp, X, h, h9, hbw, h1, h2, h3⟩ := HR.out
        have hlX : X.length < 1000000 := Nat.lt_of_le_of_lt (h9.few HKS.out.few) (by omega)
        go_wp2_with fail
        refine (sorder h hlX).mono ?_
        rintro e w3 ⟨v, rfl, ho, hb3⟩
        have H3 := Lib.hid (h.below hb3)
        have H9 := Lib.hid h9
        have HB3 := Lib.hid (bt hbw hb3)
        have HSZ := Lib.hid (And.intro h1 (And.intro h2 h3))
        have HOL := Lib.hid (show ∀ b, v.ownBlock = some b → ¬ SF sp M tp b ∧ b < w3.heap.size from fun b hb => by
          have q := ho.lt b hb
          have q1 := h.o.lt; have q2 := h.m.lt; have q3 := h.t.lt
          exact ⟨fun e => by rcases e with e | e | e <;> omega, q.2⟩)
        have HV3 := Lib.hid (ho.rs (fun _ => rfl))
        obtain ⟨va, vn, vc, hv, -⟩ := HV3.out.at_
        subst hv
        have HNB3 := HNB.out.below HB3.out
        obtain ⟨n0, n1', n2, n3⟩ := HNB3.cells
        have nl := HNB3.lt
        have HG3 := Lib.hid (rG (n := n) H3.out H9.out HI.out hlX)
        clear ho h h9 hbw h1 h2 h3 hb3 HR HNB3 hlX
        go_wp2_with fail
        refine HG3.out.mono ?_
        rintro e w4 hr
        obtain ⟨rfl, tq, X4, h4, h94, hc4, ht4⟩ := hr
        by_cases hz : (stG T G i n).1 = 0
        · have hz' : ((0 : Int) == 0) = true := rfl
          have hk := give_back (n := n) H9.out hz
          have hr4 : RB w0 sp M (stG T G i n).2.1 (stG T G i n).2.2 w4 := (RD.rb HB3.out HSZ.out.1 HSZ.out.2.1 HSZ.out.2.2 (show RD sp M tp (stG T G i n) w3 (.returned (.int .i64 (stG T G i n).1)) w4 from ⟨rfl, tq, X4, h4, h94, hc4, ht4⟩)).2
          have hfx : Few (stG T G i n).2.2 (m + 1) := few_stG HKS.out.few i n
          have hl4 : X4.length < 1000000 := Nat.lt_of_le_of_lt (h94.few hfx) (by omega)
          have hk4 := rK (n := n) h4 h94 HI.out hl4
          rw [hk] at hk4
          have hV4 := HV3.out.chg hc4 fun b hb => (HOL.out b hb).1
          have HV4 := Lib.hid hV4
          have HT4 := Lib.hid ht4
          have HC4 := Lib.hid hc4
          obtain ⟨_, _, _, _, hb4, _⟩ := hr4
          have HB4 := Lib.hid hb4
          have HK4 := Lib.hid hk4
          rw [hz]
          clear n0 n1' n2 n3 nl hk hk4 hV4 h4 h94 hc4 ht4 hb4 hfx hl4 HG3
          have HNB4 := HNB.out.below HB4.out
          obtain ⟨n0, n1', n2, n3⟩ := HNB4.cells
          have nl := HNB4.lt
          clear HNB4 hz
          go_wp2_with fail
          refine HK4.out.mono ?_
          rintro e w5 hr
          obtain ⟨rfl, tq5, X5, h5, h95, hc5, ht5⟩ := hr
          have HR5 := Lib.hid (show RB w0 sp M T G w5 from (RD.rb HB4.out HSZ.out.1 HSZ.out.2.1 (by have := HSZ.out; have := HT4.out; have := HB3.out.size; omega) (show RD sp M tq (0, T, G) w4 (.returned (.int .i64 0)) w5 from ⟨rfl, tq5, X5, h5, h95, hc5, ht5⟩)).2)
          have HV5 := Lib.hid (HV4.out.chg hc5 fun b hb e => by
            have q := HOL.out b hb
            rcases e with e | e | e
            · exact q.1 (.inl e)
            · exact q.1 (.inr (.inl e))
            · rcases HT4.out with h | h
              · exact q.1 (.inr (.inr (e.trans h)))
              · omega)
          clear h5 h95 hc5 ht5 n0 n1' n2 n3 nl HK4
          go_upto_region 13 with (fail)
          have HNB5 := Lib.hid (show NB w5 nb n from by
            obtain ⟨_, _, _, _, hb5, _⟩ := HR5.out
            exact HNB.out.below hb5)
          obtain ⟨tp5, X5, h5, h95, hb5, _, _, _⟩ := HR5.out
          have hl5 : X5.length < 1000000 := Nat.lt_of_le_of_lt (h95.few HKS.out.few) (by omega)
          have HXX := Lib.hid (h95.uniq H9.out)
          have HB5 := Lib.hid hb5
          have HB56 := Lib.hid (ba (Below.refl w5.heap.size w5) (.cells #[.int .i64 0, .int .i64 0, .int .i64 0, .int .i64 0, .map none, .pointer none] 62))
          have HO6 := Lib.hid (sorder (h5.below HB56.out) hl5)
          have HNB6 := Lib.hid (HNB5.out.below HB56.out)
          have HV6 := Lib.hid (HV5.out.below HB56.out)
          have HPL := Lib.hid (show SPL (w5.alloc (.cells #[.int .i64 0, .int .i64 0, .int .i64 0, .int .i64 0, .map none, .pointer none] 62)) w5.heap.size from heap_alloc_new w5 _)
          have HB6 := Lib.hid (bt HB0.out (bt hb5 HB56.out))
          clear h5 h95 hb5 hl5 HR5 HNB5 HV5 HB5 HB56
          generalize w5.alloc (.cells #[.int .i64 0, .int .i64 0, .int .i64 0, .int .i64 0, .map none, .pointer none] 62) = w6 at *
          generalize w5.heap.size = pb at *
          go_wp2_with fail
          refine HO6.out.mono ?_
          rintro e w7 ⟨v2, rfl, ho7, hb7⟩
          rw [HXX.out] at ho7
          have HV7 := Lib.hid (ho7.rs (fun _ => rfl))
          obtain ⟨va2, vn2, vc2, hv2, -⟩ := HV7.out.at_
          subst hv2
          have HB7 := Lib.hid hb7
          clear ho7 hb7
          go_wp2_with fail
          refine (same9 _ _ (ids X) w7 HV7.out (HV6.out.below HB7.out)).mono ?_
          rintro e w8 ⟨rfl, hb8⟩
          have HB8 := Lib.hid (bt HB7.out hb8)
          clear hb8
          go_wp2_with fail
          refine (noput (nos_nil w8) 1 1).mono ?_
          rintro e w9 ⟨rfl, hb9⟩
          have HB9 := Lib.hid (bt HB8.out hb9)
          clear hb9
          have hn9 := HNB6.out.below HB9.out
          obtain ⟨n0, n1', n2, n3⟩ := hn9.cells
          have nl := hn9.lt
          clear hn9
          go_wp2_with fail
          refine (nototal (nos_nil w9) n).mono ?_
          rintro e w10 ⟨rfl, hb10⟩
          have HB10 := Lib.hid (bt HB9.out hb10)
          clear hb10 n0 n1' n2 n3 nl
          go_wp2_with fail
          refine (noorder (nos_nil w10)).mono ?_
          rintro e w11 ⟨rfl, hb11⟩
          have HB11 := Lib.hid (bt HB10.out hb11)
          clear hb11
          go_wp2_with fail
          refine (noput (nos_plain (HPL.out.below HB11.out)) 1 1).mono ?_
          rintro e w12 ⟨rfl, hb12⟩
          have HB12 := Lib.hid (bt HB11.out hb12)
          clear hb12
          go_wp2_with fail
          refine (nolong (nos_nil w12)).mono ?_
          rintro e w13 ⟨rfl, hb13⟩
          have HB13 := Lib.hid (bt HB12.out hb13)
          clear hb13
          go_wp2_with fail
          refine (works9 w13).mono ?_
          rintro e w14 ⟨rfl, hb14⟩
          have HB14 := Lib.hid (bt HB13.out hb14)
          clear hb14
          go_wp2
          go_ret
          exact ⟨rfl, bt HB6.out HB14.out⟩
        · have hz' : ((stG T G i n).1 == 0) = false := by simpa using hz
          have hst := stG_same hz
          rw [hst] at h4 h94
          have HR5 := Lib.hid (show RB w0 sp M T G w4 from (RD.rb HB3.out HSZ.out.1 HSZ.out.2.1 HSZ.out.2.2 (show RD sp M tp ((stG T G i n).1, T, G) w3 (.returned (.int .i64 (stG T G i n).1)) w4 from ⟨rfl, tq, X4, h4, h94, hc4, ht4⟩)).2)
          have HV5 := Lib.hid (HV3.out.chg hc4 fun b hb => (HOL.out b hb).1)
          clear h4 h94 hc4 ht4 hst hz n0 n1' n2 n3 nl HG3
          generalize (stG T G i n).1 = z at *
          go_upto_region 13 with (fail)
          generalize w4 = w5 at *
          have HNB5 := Lib.hid (show NB w5 nb n from by
            obtain ⟨_, _, _, _, hb5, _⟩ := HR5.out
            exact HNB.out.below hb5)
          obtain ⟨tp5, X5, h5, h95, hb5, _, _, _⟩ := HR5.out
          have hl5 : X5.length < 1000000 := Nat.lt_of_le_of_lt (h95.few HKS.out.few) (by omega)
          have HXX := Lib.hid (h95.uniq H9.out)
          have HB5 := Lib.hid hb5
          have HB56 := Lib.hid (ba (Below.refl w5.heap.size w5) (.cells #[.int .i64 0, .int .i64 0, .int .i64 0, .int .i64 0, .map none, .pointer none] 62))
          have HO6 := Lib.hid (sorder (h5.below HB56.out) hl5)
          have HNB6 := Lib.hid (HNB5.out.below HB56.out)
          have HV6 := Lib.hid (HV5.out.below HB56.out)
          have HPL := Lib.hid (show SPL (w5.alloc (.cells #[.int .i64 0, .int .i64 0, .int .i64 0, .int .i64 0, .map none, .pointer none] 62)) w5.heap.size from heap_alloc_new w5 _)
          have HB6 := Lib.hid (bt HB0.out (bt hb5 HB56.out))
          clear h5 h95 hb5 hl5 HR5 HNB5 HV5 HB5 HB56
          generalize w5.alloc (.cells #[.int .i64 0, .int .i64 0, .int .i64 0, .int .i64 0, .map none, .pointer none] 62) = w6 at *
          generalize w5.heap.size = pb at *
          go_wp2_with fail
          refine HO6.out.mono ?_
          rintro e w7 ⟨v2, rfl, ho7, hb7⟩
          rw [HXX.out] at ho7
          have HV7 := Lib.hid (ho7.rs (fun _ => rfl))
          obtain ⟨va2, vn2, vc2, hv2, -⟩ := HV7.out.at_
          subst hv2
          have HB7 := Lib.hid hb7
          clear ho7 hb7
          go_wp2_with fail
          refine (same9 _ _ (ids X) w7 HV7.out (HV6.out.below HB7.out)).mono ?_
          rintro e w8 ⟨rfl, hb8⟩
          have HB8 := Lib.hid (bt HB7.out hb8)
          clear hb8
          go_wp2_with fail
          refine (noput (nos_nil w8) 1 1).mono ?_
          rintro e w9 ⟨rfl, hb9⟩
          have HB9 := Lib.hid (bt HB8.out hb9)
          clear hb9
          have hn9 := HNB6.out.below HB9.out
          obtain ⟨n0, n1', n2, n3⟩ := hn9.cells
          have nl := hn9.lt
          clear hn9
          go_wp2_with fail
          refine (nototal (nos_nil w9) n).mono ?_
          rintro e w10 ⟨rfl, hb10⟩
          have HB10 := Lib.hid (bt HB9.out hb10)
          clear hb10 n0 n1' n2 n3 nl
          go_wp2_with fail
          refine (noorder (nos_nil w10)).mono ?_
          rintro e w11 ⟨rfl, hb11⟩
          have HB11 := Lib.hid (bt HB10.out hb11)
          clear hb11
          go_wp2_with fail
          refine (noput (nos_plain (HPL.out.below HB11.out)) 1 1).mono ?_
          rintro e w12 ⟨rfl, hb12⟩
          have HB12 := Lib.hid (bt HB11.out hb12)
          clear hb12
          go_wp2_with fail
          refine (nolong (nos_nil w12)).mono ?_
          rintro e w13 ⟨rfl, hb13⟩
          have HB13 := Lib.hid (bt HB12.out hb13)
          clear hb13
          go_wp2_with fail
          refine (works9 w13).mono ?_
          rintro e w14 ⟨rfl, hb14⟩
          have HB14 := Lib.hid (bt HB13.out hb14)
          clear hb14
          go_wp2
          go_ret
          exact ⟨rfl, bt HB6.out HB14.out⟩
  · go_enter Try.func5, Try.ntmps5
    go_wp2
    go_ret
    exact ⟨rfl, HB0.out⟩
end Go.Proofs.Ytgfjmafdfbghnaa

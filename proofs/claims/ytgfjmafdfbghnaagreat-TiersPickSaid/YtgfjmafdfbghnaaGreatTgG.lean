/- Texts laid together: Tis,Tit. -/
import Derived.Test.YtgfjmafdfbghnaaGreatTgF
namespace Go.Proofs.YtgfjmafdfbghnaaGreat
section
open Go.RowKit Go.Maps
attribute [local go_sem] ext_cell ext_frozen extC_cell extC_frozen Mix.calmUpon Mix.mUpon
-- what is read at the world wq; HBq : Below w1.heap.size w1 wq
-- the answer: the total TT and the value VV are laid into the block b2 at the world wq
-- the list is answered as it came in, at the world wq
-- a list that a call made is answered: HO : OwnL .. w9 base (.slice ao mo co) D, HWC : w1.heap.size ≤ base
-- a call of F begins: its three variables
-- what a round reads at the world wq, in the state HQ
-- the element x of the list that came in is appended: state HQ at w2

-- the framework x is found at the place t, and laid into the variable b4: world w3
-- the framework XX in b4 at w5 takes its place in the list
section
variable {w : World} {v : Value} {A B : List Fd} {T : Nat → Int} {a : A10} {x : Fd}
set_option maxRecDepth 100000 in
set_option maxHeartbeats 4000000 in
theorem rdo_wake (h : RS 8 fdenc w v (A ++ x :: B)) (hvb : ∀ b, v.ownBlock = some b → b < w.heap.size) (hln : (A ++ x :: B).length < 800000) (hok : TOk (A ++ x :: B)) (k : a.k = 3) (hxi : x.id = a.i) : Calls Tryz.prog 7 #[mvx T v, av10 a] w (RetD10 w v (0, T, A ++ { x with aw := true } :: B)) := by
  have k0 := key_non (c := 0) k rfl; have k1 := key_non (c := 1) k rfl; have k2 := key_non (c := 2) k rfl; have k3 := key_is k
  clear k
  obtain ⟨t, ht⟩ : ∃ t : Nat, t = A.length := ⟨_, rfl⟩
  have HTL := Lib.hid ht; have HXI := Lib.hid hxi
  have HTA := Lib.hid (show (A ++ x :: B)[t]? = some x from by rw [ht]; exact mid_at A B x)
  clear ht hxi
  obtain ⟨a0', n, cp, rfl, hn, hc, hm, hat⟩ := h.at_
  have HC := Lib.hid h; have HVB := Lib.hid hvb; have HOK := Lib.hid hok; have HAT := Lib.hid hat; have HN := Lib.hid hn
  have hn9 : n < 800000 := by omega
  obtain ⟨b0, hb0⟩ : ∃ b, b = w.heap.size := ⟨_, rfl⟩
  obtain ⟨b1, hb1⟩ : ∃ b, b = b0 + 1 := ⟨_, rfl⟩
  obtain ⟨b2, hb2⟩ : ∃ b, b = b1 + 1 := ⟨_, rfl⟩
  obtain ⟨w1, hw1⟩ : ∃ w1, w1 = ((w.alloc (.cells (mcellsx T (.slice a0' n cp)) 28)).alloc (.cells (acells10 a) 32)).alloc (.cells (mcellsx (fun _ => 0) (.slice none 0 0)) 28) := ⟨_, rfl⟩
  have s1 : (w.alloc (.cells (mcellsx T (.slice a0' n cp)) 28)).heap.size = b1 := by rw [hb1, hb0]; simp
  have s2 : ((w.alloc (.cells (mcellsx T (.slice a0' n cp)) 28)).alloc (.cells (acells10 a) 32)).heap.size = b2 := by rw [hb2, hb1, hb0]; simp
  have HM := Lib.hid (show MBx w1 b0 T (.slice a0' n cp) from by rw [hw1, hb0]; exact (MBx.made w T _).below (ba (ba (Below.refl _ _) _) _))
  have HA := Lib.hid (show QBx w1 b1 a from by rw [hw1, ← s1]; exact (QBx.made _ a).below (ba (Below.refl _ _) _))
  have H2 := Lib.hid (show MBx w1 b2 (fun _ => 0) (.slice none 0 0) from by rw [hw1, ← s2]; exact MBx.made _ (fun _ => 0) _)
  have HB := Lib.hid (show Below w.heap.size w w1 from by rw [hw1]; exact ba (ba (ba (Below.refl _ _) _) _) _)
  have HBB := Lib.hid (And.intro hb0 (And.intro hb1 hb2))
  have HB1 := Lib.hid (Below.refl w1.heap.size w1)
  clear h hat hn hm hc hvb hok s1 s2
  go_enter Tryz.func7, Tryz.ntmps7
  go_upto_region 1 with (fail)
  rw [← hb0, ← hb1, ← hb2, ← hw1]
  clear hb0 hb1 hb2 hw1
  obtain ⟨m0, m1, m2, m3, m4⟩ := (HM.out.below HB1.out).cells
  have ml := (HM.out.below HB1.out).lt
  obtain ⟨a0, a1, a2, a3, a4, a5, a6, a7⟩ := (HA.out.below HB1.out).cells
  have al := (HA.out.below HB1.out).lt
  obtain ⟨s0, s1, s2, s3, s4⟩ := (H2.out.below HB1.out).cells
  have f0 := (H2.out.below HB1.out).fz 0; have f1 := (H2.out.below HB1.out).fz 1; have f2 := (H2.out.below HB1.out).fz 2; have f3 := (H2.out.below HB1.out).fz 3; have f4 := (H2.out.below HB1.out).fz 4
  have sl := (H2.out.below HB1.out).lt
  go_wp2_with fail
  clear m0 m1 m2 m3 m4 ml a0 a1 a2 a3 a4 a5 a6 a7 al s0 s1 s2 s3 s4 f0 f1 f2 f3 f4 sl
  refine (ratx (T := T) (HC.out.below HB.out) a.i).mono ?_
  rintro e w2 ⟨z, rfl, hz, hb2⟩
  rw [← HXI.out] at hz
  obtain rfl : z = (t : Int) := by rw [HTL.out]; exact at_is HOK.out hz
  have HB2 := Lib.hid hb2
  clear hb2 hz
  obtain ⟨m0, m1, m2, m3, m4⟩ := (HM.out.below HB2.out).cells
  have ml := (HM.out.below HB2.out).lt
  obtain ⟨a0, a1, a2, a3, a4, a5, a6, a7⟩ := (HA.out.below HB2.out).cells
  have al := (HA.out.below HB2.out).lt
  obtain ⟨s0, s1, s2, s3, s4⟩ := (H2.out.below HB2.out).cells
  have f0 := (H2.out.below HB2.out).fz 0; have f1 := (H2.out.below HB2.out).fz 1; have f2 := (H2.out.below HB2.out).fz 2; have f3 := (H2.out.below HB2.out).fz 3; have f4 := (H2.out.below HB2.out).fz 4
  have sl := (H2.out.below HB2.out).lt
  obtain ⟨bs, off, rfl, hbs, hcell⟩ := HAT.out t x HTA.out
  have HBS := Lib.hid hbs; have HCX := Lib.hid hcell
  have hbw := bt HB.out HB2.out
  have e0 := (hbw.cell (p := ⟨bs, off + t * 8 + 0, none⟩) hbs).trans (hcell 0 _ rfl)
  have e1 := (hbw.cell (p := ⟨bs, off + t * 8 + 1, none⟩) hbs).trans (hcell 1 _ rfl)
  have e2 := (hbw.cell (p := ⟨bs, off + t * 8 + 2, none⟩) hbs).trans (hcell 2 _ rfl)
  have e3 := (hbw.cell (p := ⟨bs, off + t * 8 + 3, none⟩) hbs).trans (hcell 3 _ rfl)
  have e4 := (hbw.cell (p := ⟨bs, off + t * 8 + 4, none⟩) hbs).trans (hcell 4 _ rfl)
  have e5 := (hbw.cell (p := ⟨bs, off + t * 8 + 5, none⟩) hbs).trans (hcell 5 _ rfl)
  have e6 := (hbw.cell (p := ⟨bs, off + t * 8 + 6, none⟩) hbs).trans (hcell 6 _ rfl)
  have e7 := (hbw.cell (p := ⟨bs, off + t * 8 + 7, none⟩) hbs).trans (hcell 7 _ rfl)
  simp only [Nat.add_zero] at e0 e1 e2 e3 e4 e5 e6 e7
  have hbs2 : bs < w2.heap.size := Nat.lt_of_lt_of_le hbs hbw.size
  have htn : t < n := by have q1 := HN.out; have q2 := (List.getElem?_eq_some_iff.1 HTA.out).1; omega
  have hti2 : (t : Int) < (n : Int) := by omega
  have hnn : ¬ (t : Int) < 0 := by omega
  have hb3 := ba (Below.refl w2.heap.size w2) (.cells (fdcells x) 49)
  have HD3 := Lib.hid (DBx.made w2 x)
  have HB3 := Lib.hid (bt HB2.out hb3)
  clear hcell hbs hbw hb3
  go_upto_region 16 with (fail)
  clear m0 m1 m2 m3 m4 ml a0 a1 a2 a3 a4 a5 a6 a7 al s0 s1 s2 s3 s4 f0 f1 f2 f3 f4 sl
  clear e0 e1 e2 e3 e4 e5 e6 e7 hbs2
  generalize w2.alloc (.cells (fdcells x) 49) = w3 at *
  obtain ⟨b4, hb4⟩ : ∃ b, b = w2.heap.size := ⟨_, rfl⟩
  rw [← hb4] at HD3 ⊢
  have HW4 := Lib.hid (show w1.heap.size ≤ b4 from by rw [hb4]; exact HB2.out.size)
  clear hb4
  have HWC := Lib.hid (show w1.heap.size ≤ w3.heap.size from HB3.out.size)
  have HB4 := Lib.hid (show Below w1.heap.size w1 (w3.setCell ⟨b4, 7, none⟩ (.bool true)) from HB3.out.setCell (p := ⟨b4, 7, none⟩) HW4.out (.bool true))
  have HD4 := Lib.hid (HD3.out.seta true)
  obtain ⟨m0, m1, m2, m3, m4⟩ := (HM.out.below HB3.out).cells
  have ml := (HM.out.below HB3.out).lt
  obtain ⟨a0, a1, a2, a3, a4, a5, a6, a7⟩ := (HA.out.below HB3.out).cells
  have al := (HA.out.below HB3.out).lt
  obtain ⟨s0, s1, s2, s3, s4⟩ := (H2.out.below HB3.out).cells
  have f0 := (H2.out.below HB3.out).fz 0; have f1 := (H2.out.below HB3.out).fz 1; have f2 := (H2.out.below HB3.out).fz 2; have f3 := (H2.out.below HB3.out).fz 3; have f4 := (H2.out.below HB3.out).fz 4
  have sl := (H2.out.below HB3.out).lt
  obtain ⟨d0, d1, d2, d3, d4, d5, d6, d7⟩ := HD3.out.cells
  have dl := HD3.out.lt
  have df3 := HD3.out.fz 3; have df4 := HD3.out.fz 4; have df5 := HD3.out.fz 5; have df6 := HD3.out.fz 6; have df7 := HD3.out.fz 7
  go_upto_region 35 with (fail)
  clear m0 m1 m2 m3 m4 ml a0 a1 a2 a3 a4 a5 a6 a7 al s0 s1 s2 s3 s4 f0 f1 f2 f3 f4 sl
  clear d0 d1 d2 d3 d4 d5 d6 d7 dl df3 df4 df5 df6 df7
  generalize w3.setCell ⟨b4, 7, none⟩ (.bool true) = w4 at *
  have HW := Lib.hid (rwithx (T := T) (w := w4) (HC.out.below (bt HB.out HB4.out)) (by have := HN.out; omega) (t : Int) ({ x with aw := true }) (A ++ ({ x with aw := true }) :: B) (by simp) (by rw [HTL.out]; exact set_mid A B x _))
  rw [if_neg (by omega)] at HW
  have HWC := Lib.hid (show w1.heap.size ≤ w4.heap.size from HB4.out.size)
  obtain ⟨m0, m1, m2, m3, m4⟩ := (HM.out.below HB4.out).cells
  have ml := (HM.out.below HB4.out).lt
  obtain ⟨a0, a1, a2, a3, a4, a5, a6, a7⟩ := (HA.out.below HB4.out).cells
  have al := (HA.out.below HB4.out).lt
  obtain ⟨s0, s1, s2, s3, s4⟩ := (H2.out.below HB4.out).cells
  have f0 := (H2.out.below HB4.out).fz 0; have f1 := (H2.out.below HB4.out).fz 1; have f2 := (H2.out.below HB4.out).fz 2; have f3 := (H2.out.below HB4.out).fz 3; have f4 := (H2.out.below HB4.out).fz 4
  have sl := (H2.out.below HB4.out).lt
  obtain ⟨d0, d1, d2, d3, d4, d5, d6, d7⟩ := HD4.out.cells
  have dl := HD4.out.lt
  have df3 := HD4.out.fz 3; have df4 := HD4.out.fz 4; have df5 := HD4.out.fz 5; have df6 := HD4.out.fz 6; have df7 := HD4.out.fz 7
  go_wp2_with fail
  clear m0 m1 m2 m3 m4 ml a0 a1 a2 a3 a4 a5 a6 a7 al s0 s1 s2 s3 s4 f0 f1 f2 f3 f4 sl
  clear d0 d1 d2 d3 d4 d5 d6 d7 dl df3 df4 df5 df6 df7
  refine HW.out.mono ?_
  rintro e w9 ⟨v9, rfl, ho9, hb9⟩
  have HB9 := Lib.hid (bt HB4.out hb9)
  have HO9 := Lib.hid ho9
  clear ho9 hb9 HW
  obtain ⟨ao, mo, co, hvo⟩ : ∃ ao mo co, v9 = .slice ao mo co := by
    rcases HO9.out.2 with ⟨hv, h0⟩ | ⟨g', cap', cur', hv, _⟩
    · exact ⟨_, _, _, hv⟩
    · exact ⟨_, _, _, hv⟩
  subst hvo
  have HR := Lib.hid ((H2.out.below HB9.out).set5 (T) (.slice ao mo co))
  have HST := Lib.hid (show Chg (fun k => k = b2) w9 (set5x w9 b2 (T) (.slice ao mo co)) from
    ((((((Chg.refl (fun k => k = b2) w9).setCell (p := ⟨b2, 0, none⟩) (.inl rfl) _).setCell (p := ⟨b2, 1, none⟩) (.inl rfl) _).setCell (p := ⟨b2, 2, none⟩) (.inl rfl) _).setCell (p := ⟨b2, 3, none⟩) (.inl rfl) _).setCell (p := ⟨b2, 4, none⟩) (.inl rfl) _))
  have HBE := Lib.hid (show Below w.heap.size w (set5x w9 b2 (T) (.slice ao mo co)) from (bt HB.out HB9.out).trans (HST.out.below (by have := (bt HB.out HB9.out).size; omega) fun k e => by have e : k = b2 := e; have := HBB.out; omega))
  obtain ⟨m0, m1, m2, m3, m4⟩ := (HM.out.below HB9.out).cells
  have ml := (HM.out.below HB9.out).lt
  obtain ⟨a0, a1, a2, a3, a4, a5, a6, a7⟩ := (HA.out.below HB9.out).cells
  have al := (HA.out.below HB9.out).lt
  obtain ⟨s0, s1, s2, s3, s4⟩ := (H2.out.below HB9.out).cells
  have f0 := (H2.out.below HB9.out).fz 0; have f1 := (H2.out.below HB9.out).fz 1; have f2 := (H2.out.below HB9.out).fz 2; have f3 := (H2.out.below HB9.out).fz 3; have f4 := (H2.out.below HB9.out).fz 4
  have sl := (H2.out.below HB9.out).lt
  go_wp2
  refine bodyPost_ret (res_mxe Tryz.results7 rfl rfl HR.out) rfl ?_
  have hol := HO9.out.lt
  have hbb := HBB.out
  refine ⟨.slice ao mo co, rfl, (HO9.out.chg HST.out fun b hb e => ?_).rs (fun _ => rfl), fun b hb => .inr ?_, HBE.out⟩
  · have e : b = b2 := e
    have := (hol b hb).1
    have := H2.out.lt
    have := HWC.out
    omega
  · have q := hol b hb
    have := HWC.out
    have := HB.out.size
    exact ⟨by omega, Nat.lt_of_lt_of_le q.2 HST.out.size⟩
set_option maxRecDepth 100000 in
set_option maxHeartbeats 4000000 in
theorem rdo_sleep (h : RS 8 fdenc w v (A ++ x :: B)) (hvb : ∀ b, v.ownBlock = some b → b < w.heap.size) (hln : (A ++ x :: B).length < 800000) (hok : TOk (A ++ x :: B)) (k : a.k = 4) (hxi : x.id = a.i) : Calls Tryz.prog 7 #[mvx T v, av10 a] w (RetD10 w v (0, T, A ++ { x with aw := false } :: B)) := by
  have k0 := key_non (c := 0) k rfl; have k1 := key_non (c := 1) k rfl; have k2 := key_non (c := 2) k rfl; have k3 := key_non (c := 3) k rfl; have k4 := key_is k
  clear k
  obtain ⟨t, ht⟩ : ∃ t : Nat, t = A.length := ⟨_, rfl⟩
  have HTL := Lib.hid ht; have HXI := Lib.hid hxi
  have HTA := Lib.hid (show (A ++ x :: B)[t]? = some x from by rw [ht]; exact mid_at A B x)
  clear ht hxi
  obtain ⟨a0', n, cp, rfl, hn, hc, hm, hat⟩ := h.at_
  have HC := Lib.hid h; have HVB := Lib.hid hvb; have HOK := Lib.hid hok; have HAT := Lib.hid hat; have HN := Lib.hid hn
  have hn9 : n < 800000 := by omega
  obtain ⟨b0, hb0⟩ : ∃ b, b = w.heap.size := ⟨_, rfl⟩
  obtain ⟨b1, hb1⟩ : ∃ b, b = b0 + 1 := ⟨_, rfl⟩
  obtain ⟨b2, hb2⟩ : ∃ b, b = b1 + 1 := ⟨_, rfl⟩
  obtain ⟨w1, hw1⟩ : ∃ w1, w1 = ((w.alloc (.cells (mcellsx T (.slice a0' n cp)) 28)).alloc (.cells (acells10 a) 32)).alloc (.cells (mcellsx (fun _ => 0) (.slice none 0 0)) 28) := ⟨_, rfl⟩
  have s1 : (w.alloc (.cells (mcellsx T (.slice a0' n cp)) 28)).heap.size = b1 := by rw [hb1, hb0]; simp
  have s2 : ((w.alloc (.cells (mcellsx T (.slice a0' n cp)) 28)).alloc (.cells (acells10 a) 32)).heap.size = b2 := by rw [hb2, hb1, hb0]; simp
  have HM := Lib.hid (show MBx w1 b0 T (.slice a0' n cp) from by rw [hw1, hb0]; exact (MBx.made w T _).below (ba (ba (Below.refl _ _) _) _))
  have HA := Lib.hid (show QBx w1 b1 a from by rw [hw1, ← s1]; exact (QBx.made _ a).below (ba (Below.refl _ _) _))
  have H2 := Lib.hid (show MBx w1 b2 (fun _ => 0) (.slice none 0 0) from by rw [hw1, ← s2]; exact MBx.made _ (fun _ => 0) _)
  have HB := Lib.hid (show Below w.heap.size w w1 from by rw [hw1]; exact ba (ba (ba (Below.refl _ _) _) _) _)
  have HBB := Lib.hid (And.intro hb0 (And.intro hb1 hb2))
  have HB1 := Lib.hid (Below.refl w1.heap.size w1)
  clear h hat hn hm hc hvb hok s1 s2
  go_enter Tryz.func7, Tryz.ntmps7
  go_upto_region 1 with (fail)
  rw [← hb0, ← hb1, ← hb2, ← hw1]
  clear hb0 hb1 hb2 hw1
  obtain ⟨m0, m1, m2, m3, m4⟩ := (HM.out.below HB1.out).cells
  have ml := (HM.out.below HB1.out).lt
  obtain ⟨a0, a1, a2, a3, a4, a5, a6, a7⟩ := (HA.out.below HB1.out).cells
  have al := (HA.out.below HB1.out).lt
  obtain ⟨s0, s1, s2, s3, s4⟩ := (H2.out.below HB1.out).cells
  have f0 := (H2.out.below HB1.out).fz 0; have f1 := (H2.out.below HB1.out).fz 1; have f2 := (H2.out.below HB1.out).fz 2; have f3 := (H2.out.below HB1.out).fz 3; have f4 := (H2.out.below HB1.out).fz 4
  have sl := (H2.out.below HB1.out).lt
  go_wp2_with fail
  clear m0 m1 m2 m3 m4 ml a0 a1 a2 a3 a4 a5 a6 a7 al s0 s1 s2 s3 s4 f0 f1 f2 f3 f4 sl
  refine (ratx (T := T) (HC.out.below HB.out) a.i).mono ?_
  rintro e w2 ⟨z, rfl, hz, hb2⟩
  rw [← HXI.out] at hz
  obtain rfl : z = (t : Int) := by rw [HTL.out]; exact at_is HOK.out hz
  have HB2 := Lib.hid hb2
  clear hb2 hz
  obtain ⟨m0, m1, m2, m3, m4⟩ := (HM.out.below HB2.out).cells
  have ml := (HM.out.below HB2.out).lt
  obtain ⟨a0, a1, a2, a3, a4, a5, a6, a7⟩ := (HA.out.below HB2.out).cells
  have al := (HA.out.below HB2.out).lt
  obtain ⟨s0, s1, s2, s3, s4⟩ := (H2.out.below HB2.out).cells
  have f0 := (H2.out.below HB2.out).fz 0; have f1 := (H2.out.below HB2.out).fz 1; have f2 := (H2.out.below HB2.out).fz 2; have f3 := (H2.out.below HB2.out).fz 3; have f4 := (H2.out.below HB2.out).fz 4
  have sl := (H2.out.below HB2.out).lt
  obtain ⟨bs, off, rfl, hbs, hcell⟩ := HAT.out t x HTA.out
  have HBS := Lib.hid hbs; have HCX := Lib.hid hcell
  have hbw := bt HB.out HB2.out
  have e0 := (hbw.cell (p := ⟨bs, off + t * 8 + 0, none⟩) hbs).trans (hcell 0 _ rfl)
  have e1 := (hbw.cell (p := ⟨bs, off + t * 8 + 1, none⟩) hbs).trans (hcell 1 _ rfl)
  have e2 := (hbw.cell (p := ⟨bs, off + t * 8 + 2, none⟩) hbs).trans (hcell 2 _ rfl)
  have e3 := (hbw.cell (p := ⟨bs, off + t * 8 + 3, none⟩) hbs).trans (hcell 3 _ rfl)
  have e4 := (hbw.cell (p := ⟨bs, off + t * 8 + 4, none⟩) hbs).trans (hcell 4 _ rfl)
  have e5 := (hbw.cell (p := ⟨bs, off + t * 8 + 5, none⟩) hbs).trans (hcell 5 _ rfl)
  have e6 := (hbw.cell (p := ⟨bs, off + t * 8 + 6, none⟩) hbs).trans (hcell 6 _ rfl)
  have e7 := (hbw.cell (p := ⟨bs, off + t * 8 + 7, none⟩) hbs).trans (hcell 7 _ rfl)
  simp only [Nat.add_zero] at e0 e1 e2 e3 e4 e5 e6 e7
  have hbs2 : bs < w2.heap.size := Nat.lt_of_lt_of_le hbs hbw.size
  have htn : t < n := by have q1 := HN.out; have q2 := (List.getElem?_eq_some_iff.1 HTA.out).1; omega
  have hti2 : (t : Int) < (n : Int) := by omega
  have hnn : ¬ (t : Int) < 0 := by omega
  have hb3 := ba (Below.refl w2.heap.size w2) (.cells (fdcells x) 49)
  have HD3 := Lib.hid (DBx.made w2 x)
  have HB3 := Lib.hid (bt HB2.out hb3)
  clear hcell hbs hbw hb3
  go_upto_region 16 with (fail)
  clear m0 m1 m2 m3 m4 ml a0 a1 a2 a3 a4 a5 a6 a7 al s0 s1 s2 s3 s4 f0 f1 f2 f3 f4 sl
  clear e0 e1 e2 e3 e4 e5 e6 e7 hbs2
  generalize w2.alloc (.cells (fdcells x) 49) = w3 at *
  obtain ⟨b4, hb4⟩ : ∃ b, b = w2.heap.size := ⟨_, rfl⟩
  rw [← hb4] at HD3 ⊢
  have HW4 := Lib.hid (show w1.heap.size ≤ b4 from by rw [hb4]; exact HB2.out.size)
  clear hb4
  have HWC := Lib.hid (show w1.heap.size ≤ w3.heap.size from HB3.out.size)
  have HB4 := Lib.hid (show Below w1.heap.size w1 (w3.setCell ⟨b4, 7, none⟩ (.bool false)) from HB3.out.setCell (p := ⟨b4, 7, none⟩) HW4.out (.bool false))
  have HD4 := Lib.hid (HD3.out.seta false)
  obtain ⟨m0, m1, m2, m3, m4⟩ := (HM.out.below HB3.out).cells
  have ml := (HM.out.below HB3.out).lt
  obtain ⟨a0, a1, a2, a3, a4, a5, a6, a7⟩ := (HA.out.below HB3.out).cells
  have al := (HA.out.below HB3.out).lt
  obtain ⟨s0, s1, s2, s3, s4⟩ := (H2.out.below HB3.out).cells
  have f0 := (H2.out.below HB3.out).fz 0; have f1 := (H2.out.below HB3.out).fz 1; have f2 := (H2.out.below HB3.out).fz 2; have f3 := (H2.out.below HB3.out).fz 3; have f4 := (H2.out.below HB3.out).fz 4
  have sl := (H2.out.below HB3.out).lt
  obtain ⟨d0, d1, d2, d3, d4, d5, d6, d7⟩ := HD3.out.cells
  have dl := HD3.out.lt
  have df3 := HD3.out.fz 3; have df4 := HD3.out.fz 4; have df5 := HD3.out.fz 5; have df6 := HD3.out.fz 6; have df7 := HD3.out.fz 7
  go_upto_region 35 with (fail)
  clear m0 m1 m2 m3 m4 ml a0 a1 a2 a3 a4 a5 a6 a7 al s0 s1 s2 s3 s4 f0 f1 f2 f3 f4 sl
  clear d0 d1 d2 d3 d4 d5 d6 d7 dl df3 df4 df5 df6 df7
  generalize w3.setCell ⟨b4, 7, none⟩ (.bool false) = w4 at *
  have HW := Lib.hid (rwithx (T := T) (w := w4) (HC.out.below (bt HB.out HB4.out)) (by have := HN.out; omega) (t : Int) ({ x with aw := false }) (A ++ ({ x with aw := false }) :: B) (by simp) (by rw [HTL.out]; exact set_mid A B x _))
  rw [if_neg (by omega)] at HW
  have HWC := Lib.hid (show w1.heap.size ≤ w4.heap.size from HB4.out.size)
  obtain ⟨m0, m1, m2, m3, m4⟩ := (HM.out.below HB4.out).cells
  have ml := (HM.out.below HB4.out).lt
  obtain ⟨a0, a1, a2, a3, a4, a5, a6, a7⟩ := (HA.out.below HB4.out).cells
  have al := (HA.out.below HB4.out).lt
  obtain ⟨s0, s1, s2, s3, s4⟩ := (H2.out.below HB4.out).cells
  have f0 := (H2.out.below HB4.out).fz 0; have f1 := (H2.out.below HB4.out).fz 1; have f2 := (H2.out.below HB4.out).fz 2; have f3 := (H2.out.below HB4.out).fz 3; have f4 := (H2.out.below HB4.out).fz 4
  have sl := (H2.out.below HB4.out).lt
  obtain ⟨d0, d1, d2, d3, d4, d5, d6, d7⟩ := HD4.out.cells
  have dl := HD4.out.lt
  have df3 := HD4.out.fz 3; have df4 := HD4.out.fz 4; have df5 := HD4.out.fz 5; have df6 := HD4.out.fz 6; have df7 := HD4.out.fz 7
  go_wp2_with fail
  clear m0 m1 m2 m3 m4 ml a0 a1 a2 a3 a4 a5 a6 a7 al s0 s1 s2 s3 s4 f0 f1 f2 f3 f4 sl
  clear d0 d1 d2 d3 d4 d5 d6 d7 dl df3 df4 df5 df6 df7
  refine HW.out.mono ?_
  rintro e w9 ⟨v9, rfl, ho9, hb9⟩
  have HB9 := Lib.hid (bt HB4.out hb9)
  have HO9 := Lib.hid ho9
  clear ho9 hb9 HW
  obtain ⟨ao, mo, co, hvo⟩ : ∃ ao mo co, v9 = .slice ao mo co := by
    rcases HO9.out.2 with ⟨hv, h0⟩ | ⟨g', cap', cur', hv, _⟩
    · exact ⟨_, _, _, hv⟩
    · exact ⟨_, _, _, hv⟩
  subst hvo
  have HR := Lib.hid ((H2.out.below HB9.out).set5 (T) (.slice ao mo co))
  have HST := Lib.hid (show Chg (fun k => k = b2) w9 (set5x w9 b2 (T) (.slice ao mo co)) from
    ((((((Chg.refl (fun k => k = b2) w9).setCell (p := ⟨b2, 0, none⟩) (.inl rfl) _).setCell (p := ⟨b2, 1, none⟩) (.inl rfl) _).setCell (p := ⟨b2, 2, none⟩) (.inl rfl) _).setCell (p := ⟨b2, 3, none⟩) (.inl rfl) _).setCell (p := ⟨b2, 4, none⟩) (.inl rfl) _))
  have HBE := Lib.hid (show Below w.heap.size w (set5x w9 b2 (T) (.slice ao mo co)) from (bt HB.out HB9.out).trans (HST.out.below (by have := (bt HB.out HB9.out).size; omega) fun k e => by have e : k = b2 := e; have := HBB.out; omega))
  obtain ⟨m0, m1, m2, m3, m4⟩ := (HM.out.below HB9.out).cells
  have ml := (HM.out.below HB9.out).lt
  obtain ⟨a0, a1, a2, a3, a4, a5, a6, a7⟩ := (HA.out.below HB9.out).cells
  have al := (HA.out.below HB9.out).lt
  obtain ⟨s0, s1, s2, s3, s4⟩ := (H2.out.below HB9.out).cells
  have f0 := (H2.out.below HB9.out).fz 0; have f1 := (H2.out.below HB9.out).fz 1; have f2 := (H2.out.below HB9.out).fz 2; have f3 := (H2.out.below HB9.out).fz 3; have f4 := (H2.out.below HB9.out).fz 4
  have sl := (H2.out.below HB9.out).lt
  go_wp2
  refine bodyPost_ret (res_mxe Tryz.results7 rfl rfl HR.out) rfl ?_
  have hol := HO9.out.lt
  have hbb := HBB.out
  refine ⟨.slice ao mo co, rfl, (HO9.out.chg HST.out fun b hb e => ?_).rs (fun _ => rfl), fun b hb => .inr ?_, HBE.out⟩
  · have e : b = b2 := e
    have := (hol b hb).1
    have := H2.out.lt
    have := HWC.out
    omega
  · have q := hol b hb
    have := HWC.out
    have := HB.out.size
    exact ⟨by omega, Nat.lt_of_lt_of_le q.2 HST.out.size⟩
set_option maxRecDepth 100000 in
set_option maxHeartbeats 4000000 in
theorem rdo_take (h : RS 8 fdenc w v (A ++ x :: B)) (hvb : ∀ b, v.ownBlock = some b → b < w.heap.size) (hln : (A ++ x :: B).length < 800000) (hok : TOk (A ++ x :: B)) (n0 : a.k ≠ 0) (n1 : a.k ≠ 1) (n2 : a.k ≠ 2) (n3 : a.k ≠ 3) (n4 : a.k ≠ 4) (n5 : a.k ≠ 5) (hxi : x.id = a.i) (hh : HOk x.s a.n) : Calls Tryz.prog 7 #[mvx T v, av10 a] w (RetD10 w v (0, T, A ++ { x with s := fun k => x.s k - a.n k } :: B)) := by
  have k0 := not_key n0; have k1 := not_key n1; have k2 := not_key n2; have k3 := not_key n3; have k4 := not_key n4; have k5 := not_key n5
  clear n0 n1 n2 n3 n4 n5
  have hsub := refsub_yes x.s a.n hh
  obtain ⟨r, hr⟩ : ∃ r, r = fun k => x.s k - a.n k := ⟨_, rfl⟩
  rw [← hr] at hsub ⊢
  have HSB := Lib.hid hsub
  clear hsub hr hh
  obtain ⟨t, ht⟩ : ∃ t : Nat, t = A.length := ⟨_, rfl⟩
  have HTL := Lib.hid ht; have HXI := Lib.hid hxi
  have HTA := Lib.hid (show (A ++ x :: B)[t]? = some x from by rw [ht]; exact mid_at A B x)
  clear ht hxi
  obtain ⟨a0', n, cp, rfl, hn, hc, hm, hat⟩ := h.at_
  have HC := Lib.hid h; have HVB := Lib.hid hvb; have HOK := Lib.hid hok; have HAT := Lib.hid hat; have HN := Lib.hid hn
  have hn9 : n < 800000 := by omega
  obtain ⟨b0, hb0⟩ : ∃ b, b = w.heap.size := ⟨_, rfl⟩
  obtain ⟨b1, hb1⟩ : ∃ b, b = b0 + 1 := ⟨_, rfl⟩
  obtain ⟨b2, hb2⟩ : ∃ b, b = b1 + 1 := ⟨_, rfl⟩
  obtain ⟨w1, hw1⟩ : ∃ w1, w1 = ((w.alloc (.cells (mcellsx T (.slice a0' n cp)) 28)).alloc (.cells (acells10 a) 32)).alloc (.cells (mcellsx (fun _ => 0) (.slice none 0 0)) 28) := ⟨_, rfl⟩
  have s1 : (w.alloc (.cells (mcellsx T (.slice a0' n cp)) 28)).heap.size = b1 := by rw [hb1, hb0]; simp
  have s2 : ((w.alloc (.cells (mcellsx T (.slice a0' n cp)) 28)).alloc (.cells (acells10 a) 32)).heap.size = b2 := by rw [hb2, hb1, hb0]; simp
  have HM := Lib.hid (show MBx w1 b0 T (.slice a0' n cp) from by rw [hw1, hb0]; exact (MBx.made w T _).below (ba (ba (Below.refl _ _) _) _))
  have HA := Lib.hid (show QBx w1 b1 a from by rw [hw1, ← s1]; exact (QBx.made _ a).below (ba (Below.refl _ _) _))
  have H2 := Lib.hid (show MBx w1 b2 (fun _ => 0) (.slice none 0 0) from by rw [hw1, ← s2]; exact MBx.made _ (fun _ => 0) _)
  have HB := Lib.hid (show Below w.heap.size w w1 from by rw [hw1]; exact ba (ba (ba (Below.refl _ _) _) _) _)
  have HBB := Lib.hid (And.intro hb0 (And.intro hb1 hb2))
  have HB1 := Lib.hid (Below.refl w1.heap.size w1)
  clear h hat hn hm hc hvb hok s1 s2
  go_enter Tryz.func7, Tryz.ntmps7
  go_upto_region 1 with (fail)
  rw [← hb0, ← hb1, ← hb2, ← hw1]
  clear hb0 hb1 hb2 hw1
  obtain ⟨m0, m1, m2, m3, m4⟩ := (HM.out.below HB1.out).cells
  have ml := (HM.out.below HB1.out).lt
  obtain ⟨a0, a1, a2, a3, a4, a5, a6, a7⟩ := (HA.out.below HB1.out).cells
  have al := (HA.out.below HB1.out).lt
  obtain ⟨s0, s1, s2, s3, s4⟩ := (H2.out.below HB1.out).cells
  have f0 := (H2.out.below HB1.out).fz 0; have f1 := (H2.out.below HB1.out).fz 1; have f2 := (H2.out.below HB1.out).fz 2; have f3 := (H2.out.below HB1.out).fz 3; have f4 := (H2.out.below HB1.out).fz 4
  have sl := (H2.out.below HB1.out).lt
  go_wp2_with fail
  clear m0 m1 m2 m3 m4 ml a0 a1 a2 a3 a4 a5 a6 a7 al s0 s1 s2 s3 s4 f0 f1 f2 f3 f4 sl
  refine (ratx (T := T) (HC.out.below HB.out) a.i).mono ?_
  rintro e w2 ⟨z, rfl, hz, hb2⟩
  rw [← HXI.out] at hz
  obtain rfl : z = (t : Int) := by rw [HTL.out]; exact at_is HOK.out hz
  have HB2 := Lib.hid hb2
  clear hb2 hz
  obtain ⟨m0, m1, m2, m3, m4⟩ := (HM.out.below HB2.out).cells
  have ml := (HM.out.below HB2.out).lt
  obtain ⟨a0, a1, a2, a3, a4, a5, a6, a7⟩ := (HA.out.below HB2.out).cells
  have al := (HA.out.below HB2.out).lt
  obtain ⟨s0, s1, s2, s3, s4⟩ := (H2.out.below HB2.out).cells
  have f0 := (H2.out.below HB2.out).fz 0; have f1 := (H2.out.below HB2.out).fz 1; have f2 := (H2.out.below HB2.out).fz 2; have f3 := (H2.out.below HB2.out).fz 3; have f4 := (H2.out.below HB2.out).fz 4
  have sl := (H2.out.below HB2.out).lt
  obtain ⟨bs, off, rfl, hbs, hcell⟩ := HAT.out t x HTA.out
  have HBS := Lib.hid hbs; have HCX := Lib.hid hcell
  have hbw := bt HB.out HB2.out
  have e0 := (hbw.cell (p := ⟨bs, off + t * 8 + 0, none⟩) hbs).trans (hcell 0 _ rfl)
  have e1 := (hbw.cell (p := ⟨bs, off + t * 8 + 1, none⟩) hbs).trans (hcell 1 _ rfl)
  have e2 := (hbw.cell (p := ⟨bs, off + t * 8 + 2, none⟩) hbs).trans (hcell 2 _ rfl)
  have e3 := (hbw.cell (p := ⟨bs, off + t * 8 + 3, none⟩) hbs).trans (hcell 3 _ rfl)
  have e4 := (hbw.cell (p := ⟨bs, off + t * 8 + 4, none⟩) hbs).trans (hcell 4 _ rfl)
  have e5 := (hbw.cell (p := ⟨bs, off + t * 8 + 5, none⟩) hbs).trans (hcell 5 _ rfl)
  have e6 := (hbw.cell (p := ⟨bs, off + t * 8 + 6, none⟩) hbs).trans (hcell 6 _ rfl)
  have e7 := (hbw.cell (p := ⟨bs, off + t * 8 + 7, none⟩) hbs).trans (hcell 7 _ rfl)
  simp only [Nat.add_zero] at e0 e1 e2 e3 e4 e5 e6 e7
  have hbs2 : bs < w2.heap.size := Nat.lt_of_lt_of_le hbs hbw.size
  have htn : t < n := by have q1 := HN.out; have q2 := (List.getElem?_eq_some_iff.1 HTA.out).1; omega
  have hti2 : (t : Int) < (n : Int) := by omega
  have hnn : ¬ (t : Int) < 0 := by omega
  have hb3 := ba (Below.refl w2.heap.size w2) (.cells (fdcells x) 49)
  have HD3 := Lib.hid (DBx.made w2 x)
  have HB3 := Lib.hid (bt HB2.out hb3)
  clear hcell hbs hbw hb3
  go_upto_region 16 with (fail)
  clear m0 m1 m2 m3 m4 ml a0 a1 a2 a3 a4 a5 a6 a7 al s0 s1 s2 s3 s4 f0 f1 f2 f3 f4 sl
  clear e0 e1 e2 e3 e4 e5 e6 e7 hbs2
  generalize w2.alloc (.cells (fdcells x) 49) = w3 at *
  obtain ⟨b4, hb4⟩ : ∃ b, b = w2.heap.size := ⟨_, rfl⟩
  rw [← hb4] at HD3 ⊢
  have HW4 := Lib.hid (show w1.heap.size ≤ b4 from by rw [hb4]; exact HB2.out.size)
  clear hb4
  have HWC := Lib.hid (show w1.heap.size ≤ w3.heap.size from HB3.out.size)
  obtain ⟨m0, m1, m2, m3, m4⟩ := (HM.out.below HB3.out).cells
  have ml := (HM.out.below HB3.out).lt
  obtain ⟨a0, a1, a2, a3, a4, a5, a6, a7⟩ := (HA.out.below HB3.out).cells
  have al := (HA.out.below HB3.out).lt
  obtain ⟨s0, s1, s2, s3, s4⟩ := (H2.out.below HB3.out).cells
  have f0 := (H2.out.below HB3.out).fz 0; have f1 := (H2.out.below HB3.out).fz 1; have f2 := (H2.out.below HB3.out).fz 2; have f3 := (H2.out.below HB3.out).fz 3; have f4 := (H2.out.below HB3.out).fz 4
  have sl := (H2.out.below HB3.out).lt
  obtain ⟨d0, d1, d2, d3, d4, d5, d6, d7⟩ := HD3.out.cells
  have dl := HD3.out.lt
  have df3 := HD3.out.fz 3; have df4 := HD3.out.fz 4; have df5 := HD3.out.fz 5; have df6 := HD3.out.fz 6; have df7 := HD3.out.fz 7
  go_wp2_with fail
  clear m0 m1 m2 m3 m4 ml a0 a1 a2 a3 a4 a5 a6 a7 al s0 s1 s2 s3 s4 f0 f1 f2 f3 f4 sl
  clear d0 d1 d2 d3 d4 d5 d6 d7 dl df3 df4 df5 df6 df7
  refine (HSB.out w3).mono ?_
  rintro e w4 ⟨rfl, hb4⟩
  clear HSB
  have hb5 := ba (Below.refl w4.heap.size w4) (.cells (C4 r) 25)
  have HB5 := Lib.hid (bt (bt HB3.out hb4) hb5)
  have HD5 := Lib.hid (HD3.out.below (bt hb4 hb5))
  have HP5 := Lib.hid (PBx.made w4 r)
  clear hb4 hb5
  go_upto_region 13 with (fail)
  generalize w4.alloc (.cells (C4 r) 25) = w5 at *
  generalize w4.heap.size = b5 at *
  have HB7 := Lib.hid (show Below w1.heap.size w1 ((((w5.setCell ⟨b4, 3, none⟩ (.int .i64 (r 0))).setCell ⟨b4, 4, none⟩ (.int .i64 (r 1))).setCell ⟨b4, 5, none⟩ (.int .i64 (r 2))).setCell ⟨b4, 6, none⟩ (.int .i64 (r 3))) from (((HB5.out.setCell (p := ⟨b4, 3, none⟩) HW4.out _).setCell (p := ⟨b4, 4, none⟩) HW4.out _).setCell (p := ⟨b4, 5, none⟩) HW4.out _).setCell (p := ⟨b4, 6, none⟩) HW4.out _)
  have HD7 := Lib.hid (HD5.out.sets r)
  obtain ⟨p0, p1, p2, p3⟩ := HP5.out.cells
  have pl := HP5.out.lt
  obtain ⟨d0, d1, d2, d3, d4, d5, d6, d7⟩ := HD5.out.cells
  have dl := HD5.out.lt
  have df3 := HD5.out.fz 3; have df4 := HD5.out.fz 4; have df5 := HD5.out.fz 5; have df6 := HD5.out.fz 6; have df7 := HD5.out.fz 7
  go_upto_region 35 with (fail)
  clear d0 d1 d2 d3 d4 d5 d6 d7 dl df3 df4 df5 df6 df7
  clear p0 p1 p2 p3 pl
  generalize (((w5.setCell ⟨b4, 3, none⟩ (.int .i64 (r 0))).setCell ⟨b4, 4, none⟩ (.int .i64 (r 1))).setCell ⟨b4, 5, none⟩ (.int .i64 (r 2))).setCell ⟨b4, 6, none⟩ (.int .i64 (r 3)) = w7 at *
  have HW := Lib.hid (rwithx (T := T) (w := w7) (HC.out.below (bt HB.out HB7.out)) (by have := HN.out; omega) (t : Int) ({ x with s := r }) (A ++ ({ x with s := r }) :: B) (by simp) (by rw [HTL.out]; exact set_mid A B x _))
  rw [if_neg (by omega)] at HW
  have HWC := Lib.hid (show w1.heap.size ≤ w7.heap.size from HB7.out.size)
  obtain ⟨m0, m1, m2, m3, m4⟩ := (HM.out.below HB7.out).cells
  have ml := (HM.out.below HB7.out).lt
  obtain ⟨a0, a1, a2, a3, a4, a5, a6, a7⟩ := (HA.out.below HB7.out).cells
  have al := (HA.out.below HB7.out).lt
  obtain ⟨s0, s1, s2, s3, s4⟩ := (H2.out.below HB7.out).cells
  have f0 := (H2.out.below HB7.out).fz 0; have f1 := (H2.out.below HB7.out).fz 1; have f2 := (H2.out.below HB7.out).fz 2; have f3 := (H2.out.below HB7.out).fz 3; have f4 := (H2.out.below HB7.out).fz 4
  have sl := (H2.out.below HB7.out).lt
  obtain ⟨d0, d1, d2, d3, d4, d5, d6, d7⟩ := HD7.out.cells
  have dl := HD7.out.lt
  have df3 := HD7.out.fz 3; have df4 := HD7.out.fz 4; have df5 := HD7.out.fz 5; have df6 := HD7.out.fz 6; have df7 := HD7.out.fz 7
  go_wp2_with fail
  clear m0 m1 m2 m3 m4 ml a0 a1 a2 a3 a4 a5 a6 a7 al s0 s1 s2 s3 s4 f0 f1 f2 f3 f4 sl
  clear d0 d1 d2 d3 d4 d5 d6 d7 dl df3 df4 df5 df6 df7
  refine HW.out.mono ?_
  rintro e w9 ⟨v9, rfl, ho9, hb9⟩
  have HB9 := Lib.hid (bt HB7.out hb9)
  have HO9 := Lib.hid ho9
  clear ho9 hb9 HW
  obtain ⟨ao, mo, co, hvo⟩ : ∃ ao mo co, v9 = .slice ao mo co := by
    rcases HO9.out.2 with ⟨hv, h0⟩ | ⟨g', cap', cur', hv, _⟩
    · exact ⟨_, _, _, hv⟩
    · exact ⟨_, _, _, hv⟩
  subst hvo
  have HR := Lib.hid ((H2.out.below HB9.out).set5 (T) (.slice ao mo co))
  have HST := Lib.hid (show Chg (fun k => k = b2) w9 (set5x w9 b2 (T) (.slice ao mo co)) from
    ((((((Chg.refl (fun k => k = b2) w9).setCell (p := ⟨b2, 0, none⟩) (.inl rfl) _).setCell (p := ⟨b2, 1, none⟩) (.inl rfl) _).setCell (p := ⟨b2, 2, none⟩) (.inl rfl) _).setCell (p := ⟨b2, 3, none⟩) (.inl rfl) _).setCell (p := ⟨b2, 4, none⟩) (.inl rfl) _))
  have HBE := Lib.hid (show Below w.heap.size w (set5x w9 b2 (T) (.slice ao mo co)) from (bt HB.out HB9.out).trans (HST.out.below (by have := (bt HB.out HB9.out).size; omega) fun k e => by have e : k = b2 := e; have := HBB.out; omega))
  obtain ⟨m0, m1, m2, m3, m4⟩ := (HM.out.below HB9.out).cells
  have ml := (HM.out.below HB9.out).lt
  obtain ⟨a0, a1, a2, a3, a4, a5, a6, a7⟩ := (HA.out.below HB9.out).cells
  have al := (HA.out.below HB9.out).lt
  obtain ⟨s0, s1, s2, s3, s4⟩ := (H2.out.below HB9.out).cells
  have f0 := (H2.out.below HB9.out).fz 0; have f1 := (H2.out.below HB9.out).fz 1; have f2 := (H2.out.below HB9.out).fz 2; have f3 := (H2.out.below HB9.out).fz 3; have f4 := (H2.out.below HB9.out).fz 4
  have sl := (H2.out.below HB9.out).lt
  go_wp2
  refine bodyPost_ret (res_mxe Tryz.results7 rfl rfl HR.out) rfl ?_
  have hol := HO9.out.lt
  have hbb := HBB.out
  refine ⟨.slice ao mo co, rfl, (HO9.out.chg HST.out fun b hb e => ?_).rs (fun _ => rfl), fun b hb => .inr ?_, HBE.out⟩
  · have e : b = b2 := e
    have := (hol b hb).1
    have := H2.out.lt
    have := HWC.out
    omega
  · have q := hol b hb
    have := HWC.out
    have := HB.out.size
    exact ⟨by omega, Nat.lt_of_lt_of_le q.2 HST.out.size⟩
set_option maxRecDepth 100000 in
set_option maxHeartbeats 4000000 in
theorem rdo_takeN (h : RS 8 fdenc w v (A ++ x :: B)) (hvb : ∀ b, v.ownBlock = some b → b < w.heap.size) (hln : (A ++ x :: B).length < 800000) (hok : TOk (A ++ x :: B)) (n0 : a.k ≠ 0) (n1 : a.k ≠ 1) (n2 : a.k ≠ 2) (n3 : a.k ≠ 3) (n4 : a.k ≠ 4) (n5 : a.k ≠ 5) (hxi : x.id = a.i) (hh : ¬ HOk x.s a.n) : Calls Tryz.prog 7 #[mvx T v, av10 a] w (RetD10 w v (30, T, A ++ x :: B)) := by
  have k0 := not_key n0; have k1 := not_key n1; have k2 := not_key n2; have k3 := not_key n3; have k4 := not_key n4; have k5 := not_key n5
  clear n0 n1 n2 n3 n4 n5
  have hsub := refsub_no x.s a.n hh
  obtain ⟨r, hr⟩ : ∃ r, r = Z4 := ⟨_, rfl⟩
  rw [← hr] at hsub
  have HSB := Lib.hid hsub
  clear hsub hr hh
  obtain ⟨t, ht⟩ : ∃ t : Nat, t = A.length := ⟨_, rfl⟩
  have HTL := Lib.hid ht; have HXI := Lib.hid hxi
  have HTA := Lib.hid (show (A ++ x :: B)[t]? = some x from by rw [ht]; exact mid_at A B x)
  clear ht hxi
  obtain ⟨a0', n, cp, rfl, hn, hc, hm, hat⟩ := h.at_
  have HC := Lib.hid h; have HVB := Lib.hid hvb; have HOK := Lib.hid hok; have HAT := Lib.hid hat; have HN := Lib.hid hn
  have hn9 : n < 800000 := by omega
  obtain ⟨b0, hb0⟩ : ∃ b, b = w.heap.size := ⟨_, rfl⟩
  obtain ⟨b1, hb1⟩ : ∃ b, b = b0 + 1 := ⟨_, rfl⟩
  obtain ⟨b2, hb2⟩ : ∃ b, b = b1 + 1 := ⟨_, rfl⟩
  obtain ⟨w1, hw1⟩ : ∃ w1, w1 = ((w.alloc (.cells (mcellsx T (.slice a0' n cp)) 28)).alloc (.cells (acells10 a) 32)).alloc (.cells (mcellsx (fun _ => 0) (.slice none 0 0)) 28) := ⟨_, rfl⟩
  have s1 : (w.alloc (.cells (mcellsx T (.slice a0' n cp)) 28)).heap.size = b1 := by rw [hb1, hb0]; simp
  have s2 : ((w.alloc (.cells (mcellsx T (.slice a0' n cp)) 28)).alloc (.cells (acells10 a) 32)).heap.size = b2 := by rw [hb2, hb1, hb0]; simp
  have HM := Lib.hid (show MBx w1 b0 T (.slice a0' n cp) from by rw [hw1, hb0]; exact (MBx.made w T _).below (ba (ba (Below.refl _ _) _) _))
  have HA := Lib.hid (show QBx w1 b1 a from by rw [hw1, ← s1]; exact (QBx.made _ a).below (ba (Below.refl _ _) _))
  have H2 := Lib.hid (show MBx w1 b2 (fun _ => 0) (.slice none 0 0) from by rw [hw1, ← s2]; exact MBx.made _ (fun _ => 0) _)
  have HB := Lib.hid (show Below w.heap.size w w1 from by rw [hw1]; exact ba (ba (ba (Below.refl _ _) _) _) _)
  have HBB := Lib.hid (And.intro hb0 (And.intro hb1 hb2))
  have HB1 := Lib.hid (Below.refl w1.heap.size w1)
  clear h hat hn hm hc hvb hok s1 s2
  go_enter Tryz.func7, Tryz.ntmps7
  go_upto_region 1 with (fail)
  rw [← hb0, ← hb1, ← hb2, ← hw1]
  clear hb0 hb1 hb2 hw1
  obtain ⟨m0, m1, m2, m3, m4⟩ := (HM.out.below HB1.out).cells
  have ml := (HM.out.below HB1.out).lt
  obtain ⟨a0, a1, a2, a3, a4, a5, a6, a7⟩ := (HA.out.below HB1.out).cells
  have al := (HA.out.below HB1.out).lt
  obtain ⟨s0, s1, s2, s3, s4⟩ := (H2.out.below HB1.out).cells
  have f0 := (H2.out.below HB1.out).fz 0; have f1 := (H2.out.below HB1.out).fz 1; have f2 := (H2.out.below HB1.out).fz 2; have f3 := (H2.out.below HB1.out).fz 3; have f4 := (H2.out.below HB1.out).fz 4
  have sl := (H2.out.below HB1.out).lt
  go_wp2_with fail
  clear m0 m1 m2 m3 m4 ml a0 a1 a2 a3 a4 a5 a6 a7 al s0 s1 s2 s3 s4 f0 f1 f2 f3 f4 sl
  refine (ratx (T := T) (HC.out.below HB.out) a.i).mono ?_
  rintro e w2 ⟨z, rfl, hz, hb2⟩
  rw [← HXI.out] at hz
  obtain rfl : z = (t : Int) := by rw [HTL.out]; exact at_is HOK.out hz
  have HB2 := Lib.hid hb2
  clear hb2 hz
  obtain ⟨m0, m1, m2, m3, m4⟩ := (HM.out.below HB2.out).cells
  have ml := (HM.out.below HB2.out).lt
  obtain ⟨a0, a1, a2, a3, a4, a5, a6, a7⟩ := (HA.out.below HB2.out).cells
  have al := (HA.out.below HB2.out).lt
  obtain ⟨s0, s1, s2, s3, s4⟩ := (H2.out.below HB2.out).cells
  have f0 := (H2.out.below HB2.out).fz 0; have f1 := (H2.out.below HB2.out).fz 1; have f2 := (H2.out.below HB2.out).fz 2; have f3 := (H2.out.below HB2.out).fz 3; have f4 := (H2.out.below HB2.out).fz 4
  have sl := (H2.out.below HB2.out).lt
  obtain ⟨bs, off, rfl, hbs, hcell⟩ := HAT.out t x HTA.out
  have HBS := Lib.hid hbs; have HCX := Lib.hid hcell
  have hbw := bt HB.out HB2.out
  have e0 := (hbw.cell (p := ⟨bs, off + t * 8 + 0, none⟩) hbs).trans (hcell 0 _ rfl)
  have e1 := (hbw.cell (p := ⟨bs, off + t * 8 + 1, none⟩) hbs).trans (hcell 1 _ rfl)
  have e2 := (hbw.cell (p := ⟨bs, off + t * 8 + 2, none⟩) hbs).trans (hcell 2 _ rfl)
  have e3 := (hbw.cell (p := ⟨bs, off + t * 8 + 3, none⟩) hbs).trans (hcell 3 _ rfl)
  have e4 := (hbw.cell (p := ⟨bs, off + t * 8 + 4, none⟩) hbs).trans (hcell 4 _ rfl)
  have e5 := (hbw.cell (p := ⟨bs, off + t * 8 + 5, none⟩) hbs).trans (hcell 5 _ rfl)
  have e6 := (hbw.cell (p := ⟨bs, off + t * 8 + 6, none⟩) hbs).trans (hcell 6 _ rfl)
  have e7 := (hbw.cell (p := ⟨bs, off + t * 8 + 7, none⟩) hbs).trans (hcell 7 _ rfl)
  simp only [Nat.add_zero] at e0 e1 e2 e3 e4 e5 e6 e7
  have hbs2 : bs < w2.heap.size := Nat.lt_of_lt_of_le hbs hbw.size
  have htn : t < n := by have q1 := HN.out; have q2 := (List.getElem?_eq_some_iff.1 HTA.out).1; omega
  have hti2 : (t : Int) < (n : Int) := by omega
  have hnn : ¬ (t : Int) < 0 := by omega
  have hb3 := ba (Below.refl w2.heap.size w2) (.cells (fdcells x) 49)
  have HD3 := Lib.hid (DBx.made w2 x)
  have HB3 := Lib.hid (bt HB2.out hb3)
  clear hcell hbs hbw hb3
  go_upto_region 16 with (fail)
  clear m0 m1 m2 m3 m4 ml a0 a1 a2 a3 a4 a5 a6 a7 al s0 s1 s2 s3 s4 f0 f1 f2 f3 f4 sl
  clear e0 e1 e2 e3 e4 e5 e6 e7 hbs2
  generalize w2.alloc (.cells (fdcells x) 49) = w3 at *
  obtain ⟨b4, hb4⟩ : ∃ b, b = w2.heap.size := ⟨_, rfl⟩
  rw [← hb4] at HD3 ⊢
  have HW4 := Lib.hid (show w1.heap.size ≤ b4 from by rw [hb4]; exact HB2.out.size)
  clear hb4
  have HWC := Lib.hid (show w1.heap.size ≤ w3.heap.size from HB3.out.size)
  obtain ⟨m0, m1, m2, m3, m4⟩ := (HM.out.below HB3.out).cells
  have ml := (HM.out.below HB3.out).lt
  obtain ⟨a0, a1, a2, a3, a4, a5, a6, a7⟩ := (HA.out.below HB3.out).cells
  have al := (HA.out.below HB3.out).lt
  obtain ⟨s0, s1, s2, s3, s4⟩ := (H2.out.below HB3.out).cells
  have f0 := (H2.out.below HB3.out).fz 0; have f1 := (H2.out.below HB3.out).fz 1; have f2 := (H2.out.below HB3.out).fz 2; have f3 := (H2.out.below HB3.out).fz 3; have f4 := (H2.out.below HB3.out).fz 4
  have sl := (H2.out.below HB3.out).lt
  obtain ⟨d0, d1, d2, d3, d4, d5, d6, d7⟩ := HD3.out.cells
  have dl := HD3.out.lt
  have df3 := HD3.out.fz 3; have df4 := HD3.out.fz 4; have df5 := HD3.out.fz 5; have df6 := HD3.out.fz 6; have df7 := HD3.out.fz 7
  go_wp2_with fail
  clear m0 m1 m2 m3 m4 ml a0 a1 a2 a3 a4 a5 a6 a7 al s0 s1 s2 s3 s4 f0 f1 f2 f3 f4 sl
  clear d0 d1 d2 d3 d4 d5 d6 d7 dl df3 df4 df5 df6 df7
  refine (HSB.out w3).mono ?_
  rintro e w4 ⟨rfl, hb4⟩
  clear HSB
  have hb5 := ba (Below.refl w4.heap.size w4) (.cells (C4 r) 25)
  have HB5 := Lib.hid (bt (bt HB3.out hb4) hb5)
  have HD5 := Lib.hid (HD3.out.below (bt hb4 hb5))
  have HP5 := Lib.hid (PBx.made w4 r)
  clear hb4 hb5
  go_upto_region 13 with (fail)
  generalize w4.alloc (.cells (C4 r) 25) = w5 at *
  generalize w4.heap.size = b5 at *
  have HR := Lib.hid ((H2.out.below HB5.out).set5 (T) (.slice (some ⟨bs, off, none⟩) n cp))
  have HST := Lib.hid (show Chg (fun k => k = b2) w5 (set5x w5 b2 (T) (.slice (some ⟨bs, off, none⟩) n cp)) from
    ((((((Chg.refl (fun k => k = b2) w5).setCell (p := ⟨b2, 0, none⟩) (.inl rfl) _).setCell (p := ⟨b2, 1, none⟩) (.inl rfl) _).setCell (p := ⟨b2, 2, none⟩) (.inl rfl) _).setCell (p := ⟨b2, 3, none⟩) (.inl rfl) _).setCell (p := ⟨b2, 4, none⟩) (.inl rfl) _))
  have HBE := Lib.hid (show Below w.heap.size w (set5x w5 b2 (T) (.slice (some ⟨bs, off, none⟩) n cp)) from (bt HB.out HB5.out).trans (HST.out.below (by have := (bt HB.out HB5.out).size; omega) fun k e => by have e : k = b2 := e; have := HBB.out; omega))
  obtain ⟨m0, m1, m2, m3, m4⟩ := (HM.out.below HB5.out).cells
  have ml := (HM.out.below HB5.out).lt
  obtain ⟨a0, a1, a2, a3, a4, a5, a6, a7⟩ := (HA.out.below HB5.out).cells
  have al := (HA.out.below HB5.out).lt
  obtain ⟨s0, s1, s2, s3, s4⟩ := (H2.out.below HB5.out).cells
  have f0 := (H2.out.below HB5.out).fz 0; have f1 := (H2.out.below HB5.out).fz 1; have f2 := (H2.out.below HB5.out).fz 2; have f3 := (H2.out.below HB5.out).fz 3; have f4 := (H2.out.below HB5.out).fz 4
  have sl := (H2.out.below HB5.out).lt
  go_wp2
  refine bodyPost_ret (res_mxe Tryz.results7 rfl rfl HR.out) rfl ?_
  refine ⟨_, rfl, (HC.out.below (bt HB.out HB5.out)).chg HST.out fun b hb e => ?_, fun b hb => .inl hb, HBE.out⟩
  have e : b = b2 := e
  have := HVB.out b hb
  have := HBB.out
  omega
set_option maxRecDepth 100000 in
set_option maxHeartbeats 4000000 in
theorem rdo_giveN (h : RS 8 fdenc w v (A ++ x :: B)) (hvb : ∀ b, v.ownBlock = some b → b < w.heap.size) (hln : (A ++ x :: B).length < 800000) (hok : TOk (A ++ x :: B)) (k : a.k = 5) (hxi : x.id = a.i) (hg : ¬ Gv (SU (inR (A ++ x :: B) x.role)) a.n) : Calls Tryz.prog 7 #[mvx T v, av10 a] w (RetD10 w v (41, T, A ++ x :: B)) := by
  have k0 := key_non (c := 0) k rfl; have k1 := key_non (c := 1) k rfl; have k2 := key_non (c := 2) k rfl; have k3 := key_non (c := 3) k rfl; have k4 := key_non (c := 4) k rfl; have k5 := key_is k
  clear k
  obtain ⟨t, ht⟩ : ∃ t : Nat, t = A.length := ⟨_, rfl⟩
  have HTL := Lib.hid ht; have HXI := Lib.hid hxi
  have HTA := Lib.hid (show (A ++ x :: B)[t]? = some x from by rw [ht]; exact mid_at A B x)
  clear ht hxi
  obtain ⟨a0', n, cp, rfl, hn, hc, hm, hat⟩ := h.at_
  have HC := Lib.hid h; have HVB := Lib.hid hvb; have HOK := Lib.hid hok; have HAT := Lib.hid hat; have HN := Lib.hid hn
  have hn9 : n < 800000 := by omega
  obtain ⟨b0, hb0⟩ : ∃ b, b = w.heap.size := ⟨_, rfl⟩
  obtain ⟨b1, hb1⟩ : ∃ b, b = b0 + 1 := ⟨_, rfl⟩
  obtain ⟨b2, hb2⟩ : ∃ b, b = b1 + 1 := ⟨_, rfl⟩
  obtain ⟨w1, hw1⟩ : ∃ w1, w1 = ((w.alloc (.cells (mcellsx T (.slice a0' n cp)) 28)).alloc (.cells (acells10 a) 32)).alloc (.cells (mcellsx (fun _ => 0) (.slice none 0 0)) 28) := ⟨_, rfl⟩
  have s1 : (w.alloc (.cells (mcellsx T (.slice a0' n cp)) 28)).heap.size = b1 := by rw [hb1, hb0]; simp
  have s2 : ((w.alloc (.cells (mcellsx T (.slice a0' n cp)) 28)).alloc (.cells (acells10 a) 32)).heap.size = b2 := by rw [hb2, hb1, hb0]; simp
  have HM := Lib.hid (show MBx w1 b0 T (.slice a0' n cp) from by rw [hw1, hb0]; exact (MBx.made w T _).below (ba (ba (Below.refl _ _) _) _))
  have HA := Lib.hid (show QBx w1 b1 a from by rw [hw1, ← s1]; exact (QBx.made _ a).below (ba (Below.refl _ _) _))
  have H2 := Lib.hid (show MBx w1 b2 (fun _ => 0) (.slice none 0 0) from by rw [hw1, ← s2]; exact MBx.made _ (fun _ => 0) _)
  have HB := Lib.hid (show Below w.heap.size w w1 from by rw [hw1]; exact ba (ba (ba (Below.refl _ _) _) _) _)
  have HBB := Lib.hid (And.intro hb0 (And.intro hb1 hb2))
  have HB1 := Lib.hid (Below.refl w1.heap.size w1)
  clear h hat hn hm hc hvb hok s1 s2
  go_enter Tryz.func7, Tryz.ntmps7
  go_upto_region 1 with (fail)
  rw [← hb0, ← hb1, ← hb2, ← hw1]
  clear hb0 hb1 hb2 hw1
  obtain ⟨m0, m1, m2, m3, m4⟩ := (HM.out.below HB1.out).cells
  have ml := (HM.out.below HB1.out).lt
  obtain ⟨a0, a1, a2, a3, a4, a5, a6, a7⟩ := (HA.out.below HB1.out).cells
  have al := (HA.out.below HB1.out).lt
  obtain ⟨s0, s1, s2, s3, s4⟩ := (H2.out.below HB1.out).cells
  have f0 := (H2.out.below HB1.out).fz 0; have f1 := (H2.out.below HB1.out).fz 1; have f2 := (H2.out.below HB1.out).fz 2; have f3 := (H2.out.below HB1.out).fz 3; have f4 := (H2.out.below HB1.out).fz 4
  have sl := (H2.out.below HB1.out).lt
  go_wp2_with fail
  clear m0 m1 m2 m3 m4 ml a0 a1 a2 a3 a4 a5 a6 a7 al s0 s1 s2 s3 s4 f0 f1 f2 f3 f4 sl
  refine (ratx (T := T) (HC.out.below HB.out) a.i).mono ?_
  rintro e w2 ⟨z, rfl, hz, hb2⟩
  rw [← HXI.out] at hz
  obtain rfl : z = (t : Int) := by rw [HTL.out]; exact at_is HOK.out hz
  have HB2 := Lib.hid hb2
  clear hb2 hz
  obtain ⟨m0, m1, m2, m3, m4⟩ := (HM.out.below HB2.out).cells
  have ml := (HM.out.below HB2.out).lt
  obtain ⟨a0, a1, a2, a3, a4, a5, a6, a7⟩ := (HA.out.below HB2.out).cells
  have al := (HA.out.below HB2.out).lt
  obtain ⟨s0, s1, s2, s3, s4⟩ := (H2.out.below HB2.out).cells
  have f0 := (H2.out.below HB2.out).fz 0; have f1 := (H2.out.below HB2.out).fz 1; have f2 := (H2.out.below HB2.out).fz 2; have f3 := (H2.out.below HB2.out).fz 3; have f4 := (H2.out.below HB2.out).fz 4
  have sl := (H2.out.below HB2.out).lt
  obtain ⟨bs, off, rfl, hbs, hcell⟩ := HAT.out t x HTA.out
  have HBS := Lib.hid hbs; have HCX := Lib.hid hcell
  have hbw := bt HB.out HB2.out
  have e0 := (hbw.cell (p := ⟨bs, off + t * 8 + 0, none⟩) hbs).trans (hcell 0 _ rfl)
  have e1 := (hbw.cell (p := ⟨bs, off + t * 8 + 1, none⟩) hbs).trans (hcell 1 _ rfl)
  have e2 := (hbw.cell (p := ⟨bs, off + t * 8 + 2, none⟩) hbs).trans (hcell 2 _ rfl)
  have e3 := (hbw.cell (p := ⟨bs, off + t * 8 + 3, none⟩) hbs).trans (hcell 3 _ rfl)
  have e4 := (hbw.cell (p := ⟨bs, off + t * 8 + 4, none⟩) hbs).trans (hcell 4 _ rfl)
  have e5 := (hbw.cell (p := ⟨bs, off + t * 8 + 5, none⟩) hbs).trans (hcell 5 _ rfl)
  have e6 := (hbw.cell (p := ⟨bs, off + t * 8 + 6, none⟩) hbs).trans (hcell 6 _ rfl)
  have e7 := (hbw.cell (p := ⟨bs, off + t * 8 + 7, none⟩) hbs).trans (hcell 7 _ rfl)
  simp only [Nat.add_zero] at e0 e1 e2 e3 e4 e5 e6 e7
  have hbs2 : bs < w2.heap.size := Nat.lt_of_lt_of_le hbs hbw.size
  have htn : t < n := by have q1 := HN.out; have q2 := (List.getElem?_eq_some_iff.1 HTA.out).1; omega
  have hti2 : (t : Int) < (n : Int) := by omega
  have hnn : ¬ (t : Int) < 0 := by omega
  have hb3 := ba (Below.refl w2.heap.size w2) (.cells (fdcells x) 49)
  have HD3 := Lib.hid (DBx.made w2 x)
  have HB3 := Lib.hid (bt HB2.out hb3)
  clear hcell hbs hbw hb3
  go_upto_region 16 with (fail)
  clear m0 m1 m2 m3 m4 ml a0 a1 a2 a3 a4 a5 a6 a7 al s0 s1 s2 s3 s4 f0 f1 f2 f3 f4 sl
  clear e0 e1 e2 e3 e4 e5 e6 e7 hbs2
  generalize w2.alloc (.cells (fdcells x) 49) = w3 at *
  obtain ⟨b4, hb4⟩ : ∃ b, b = w2.heap.size := ⟨_, rfl⟩
  rw [← hb4] at HD3 ⊢
  have HW4 := Lib.hid (show w1.heap.size ≤ b4 from by rw [hb4]; exact HB2.out.size)
  clear hb4
  have HWC := Lib.hid (show w1.heap.size ≤ w3.heap.size from HB3.out.size)
  have HSX := Lib.hid (HOK.out.sm x (by simp)); have HSU := Lib.hid (HOK.out.su x.role)
  have HRL := Lib.hid (rrolex (T := T) (HC.out.below (bt HB.out HB3.out)) HOK.out (by have := HN.out; omega) x.role)
  obtain ⟨S, hS⟩ : ∃ S, S = SU (inR (A ++ x :: B) x.role) := ⟨_, rfl⟩
  rw [← hS] at HRL HSU hg
  have HSQ := Lib.hid hS; have HG := Lib.hid hg
  have HLE := Lib.hid (show ∀ k, k < 4 → 0 ≤ x.s k ∧ x.s k ≤ S k from fun k hk => ⟨(HSX.out k hk).1, by rw [hS]; exact le_SU HOK.out (by simp) hk⟩)
  obtain ⟨r1, q1, hadd1, hrq1, hq1⟩ := refadd9 x.s a.n HSX.out.ok
  obtain ⟨r2, q2, hadd2, hrq2, hq2⟩ := refadd9 S a.n HSU.out.ok
  have HA1 := Lib.hid hadd1; have HA2 := Lib.hid hadd2; have HQ1 := Lib.hid hq1; have HQ2 := Lib.hid hq2; have HR1 := Lib.hid hrq1
  clear hadd1 hadd2 hq1 hq2 hrq1 hrq2 hS hg
  obtain ⟨lw, hlw⟩ : ∃ y, y = lastW (inR (A ++ x :: B) x.role) := ⟨_, rfl⟩
  obtain ⟨th, hth⟩ : ∃ y, y = decide (inR (A ++ x :: B) x.role ≠ []) := ⟨_, rfl⟩
  rw [← hlw, ← hth] at HRL
  clear hlw hth
  obtain ⟨m0, m1, m2, m3, m4⟩ := (HM.out.below HB3.out).cells
  have ml := (HM.out.below HB3.out).lt
  obtain ⟨a0, a1, a2, a3, a4, a5, a6, a7⟩ := (HA.out.below HB3.out).cells
  have al := (HA.out.below HB3.out).lt
  obtain ⟨s0, s1, s2, s3, s4⟩ := (H2.out.below HB3.out).cells
  have f0 := (H2.out.below HB3.out).fz 0; have f1 := (H2.out.below HB3.out).fz 1; have f2 := (H2.out.below HB3.out).fz 2; have f3 := (H2.out.below HB3.out).fz 3; have f4 := (H2.out.below HB3.out).fz 4
  have sl := (H2.out.below HB3.out).lt
  obtain ⟨d0, d1, d2, d3, d4, d5, d6, d7⟩ := HD3.out.cells
  have dl := HD3.out.lt
  have df3 := HD3.out.fz 3; have df4 := HD3.out.fz 4; have df5 := HD3.out.fz 5; have df6 := HD3.out.fz 6; have df7 := HD3.out.fz 7
  go_wp2_with fail
  clear m0 m1 m2 m3 m4 ml a0 a1 a2 a3 a4 a5 a6 a7 al s0 s1 s2 s3 s4 f0 f1 f2 f3 f4 sl
  clear d0 d1 d2 d3 d4 d5 d6 d7 dl df3 df4 df5 df6 df7
  refine HRL.out.mono ?_
  rintro e w4 ⟨rfl, hb4⟩
  clear HRL
  have hb5 := ba (Below.refl w4.heap.size w4) (.cells (C4 S) 25)
  have HB5 := Lib.hid (bt (bt HB3.out hb4) hb5)
  have HD5 := Lib.hid (HD3.out.below (bt hb4 hb5))
  have HP5 := Lib.hid (PBx.made w4 S)
  clear hb4 hb5
  go_upto_region 30 with (fail)
  generalize w4.alloc (.cells (C4 S) 25) = w5 at *
  generalize w4.heap.size = b5 at *
  obtain ⟨m0, m1, m2, m3, m4⟩ := (HM.out.below HB5.out).cells
  have ml := (HM.out.below HB5.out).lt
  obtain ⟨a0, a1, a2, a3, a4, a5, a6, a7⟩ := (HA.out.below HB5.out).cells
  have al := (HA.out.below HB5.out).lt
  obtain ⟨s0, s1, s2, s3, s4⟩ := (H2.out.below HB5.out).cells
  have f0 := (H2.out.below HB5.out).fz 0; have f1 := (H2.out.below HB5.out).fz 1; have f2 := (H2.out.below HB5.out).fz 2; have f3 := (H2.out.below HB5.out).fz 3; have f4 := (H2.out.below HB5.out).fz 4
  have sl := (H2.out.below HB5.out).lt
  obtain ⟨d0, d1, d2, d3, d4, d5, d6, d7⟩ := HD5.out.cells
  have dl := HD5.out.lt
  have df3 := HD5.out.fz 3; have df4 := HD5.out.fz 4; have df5 := HD5.out.fz 5; have df6 := HD5.out.fz 6; have df7 := HD5.out.fz 7
  go_wp2_with fail
  clear m0 m1 m2 m3 m4 ml a0 a1 a2 a3 a4 a5 a6 a7 al s0 s1 s2 s3 s4 f0 f1 f2 f3 f4 sl
  clear d0 d1 d2 d3 d4 d5 d6 d7 dl df3 df4 df5 df6 df7
  refine (HA1.out w5).mono ?_
  rintro e w6 ⟨rfl, hb6⟩
  clear HA1
  have hb7 := ba (Below.refl w6.heap.size w6) (.cells (C4 r1) 25)
  have HB7 := Lib.hid (bt (bt HB5.out hb6) hb7)
  have HD7 := Lib.hid (HD5.out.below (bt hb6 hb7))
  have HP7 := Lib.hid (HP5.out.below (bt hb6 hb7))
  have HO7 := Lib.hid (PBx.made w6 r1)
  clear hb6 hb7
  go_upto_region 31 with (fail)
  generalize w6.alloc (.cells (C4 r1) 25) = w7 at *
  generalize w6.heap.size = b7 at *
  obtain ⟨m0, m1, m2, m3, m4⟩ := (HM.out.below HB7.out).cells
  have ml := (HM.out.below HB7.out).lt
  obtain ⟨a0, a1, a2, a3, a4, a5, a6, a7⟩ := (HA.out.below HB7.out).cells
  have al := (HA.out.below HB7.out).lt
  obtain ⟨s0, s1, s2, s3, s4⟩ := (H2.out.below HB7.out).cells
  have f0 := (H2.out.below HB7.out).fz 0; have f1 := (H2.out.below HB7.out).fz 1; have f2 := (H2.out.below HB7.out).fz 2; have f3 := (H2.out.below HB7.out).fz 3; have f4 := (H2.out.below HB7.out).fz 4
  have sl := (H2.out.below HB7.out).lt
  obtain ⟨p0, p1, p2, p3⟩ := HP7.out.cells
  have pl := HP7.out.lt
  go_wp2_with fail
  clear m0 m1 m2 m3 m4 ml a0 a1 a2 a3 a4 a5 a6 a7 al s0 s1 s2 s3 s4 f0 f1 f2 f3 f4 sl
  clear p0 p1 p2 p3 pl
  refine (HA2.out w7).mono ?_
  rintro e w8 ⟨rfl, hb8⟩
  clear HA2
  have hb9 := ba (Below.refl w8.heap.size w8) (.cells (C4 r2) 25)
  have HB9 := Lib.hid (bt (bt HB7.out hb8) hb9)
  have HD9 := Lib.hid (HD7.out.below (bt hb8 hb9))
  have HO9 := Lib.hid (HO7.out.below (bt hb8 hb9))
  have HQ9 := Lib.hid (PBx.made w8 r2)
  clear hb8 hb9
  go_upto_region 32 with (fail)
  generalize w8.alloc (.cells (C4 r2) 25) = w9 at *
  generalize w8.heap.size = b9 at *
  cases q1 with
  | false =>
    have HR := Lib.hid ((H2.out.below HB9.out).set5 (T) (.slice (some ⟨bs, off, none⟩) n cp))
    have HST := Lib.hid (show Chg (fun k => k = b2) w9 (set5x w9 b2 (T) (.slice (some ⟨bs, off, none⟩) n cp)) from
      ((((((Chg.refl (fun k => k = b2) w9).setCell (p := ⟨b2, 0, none⟩) (.inl rfl) _).setCell (p := ⟨b2, 1, none⟩) (.inl rfl) _).setCell (p := ⟨b2, 2, none⟩) (.inl rfl) _).setCell (p := ⟨b2, 3, none⟩) (.inl rfl) _).setCell (p := ⟨b2, 4, none⟩) (.inl rfl) _))
    have HBE := Lib.hid (show Below w.heap.size w (set5x w9 b2 (T) (.slice (some ⟨bs, off, none⟩) n cp)) from (bt HB.out HB9.out).trans (HST.out.below (by have := (bt HB.out HB9.out).size; omega) fun k e => by have e : k = b2 := e; have := HBB.out; omega))
    obtain ⟨m0, m1, m2, m3, m4⟩ := (HM.out.below HB9.out).cells
    have ml := (HM.out.below HB9.out).lt
    obtain ⟨a0, a1, a2, a3, a4, a5, a6, a7⟩ := (HA.out.below HB9.out).cells
    have al := (HA.out.below HB9.out).lt
    obtain ⟨s0, s1, s2, s3, s4⟩ := (H2.out.below HB9.out).cells
    have f0 := (H2.out.below HB9.out).fz 0; have f1 := (H2.out.below HB9.out).fz 1; have f2 := (H2.out.below HB9.out).fz 2; have f3 := (H2.out.below HB9.out).fz 3; have f4 := (H2.out.below HB9.out).fz 4
    have sl := (H2.out.below HB9.out).lt
    go_wp2
    refine bodyPost_ret (res_mxe Tryz.results7 rfl rfl HR.out) rfl ?_
    refine ⟨_, rfl, (HC.out.below (bt HB.out HB9.out)).chg HST.out fun b hb e => ?_, fun b hb => .inl hb, HBE.out⟩
    have e : b = b2 := e
    have := HVB.out b hb
    have := HBB.out
    omega
  | true =>
    cases q2 with
    | false =>
      have HR := Lib.hid ((H2.out.below HB9.out).set5 (T) (.slice (some ⟨bs, off, none⟩) n cp))
      have HST := Lib.hid (show Chg (fun k => k = b2) w9 (set5x w9 b2 (T) (.slice (some ⟨bs, off, none⟩) n cp)) from
        ((((((Chg.refl (fun k => k = b2) w9).setCell (p := ⟨b2, 0, none⟩) (.inl rfl) _).setCell (p := ⟨b2, 1, none⟩) (.inl rfl) _).setCell (p := ⟨b2, 2, none⟩) (.inl rfl) _).setCell (p := ⟨b2, 3, none⟩) (.inl rfl) _).setCell (p := ⟨b2, 4, none⟩) (.inl rfl) _))
      have HBE := Lib.hid (show Below w.heap.size w (set5x w9 b2 (T) (.slice (some ⟨bs, off, none⟩) n cp)) from (bt HB.out HB9.out).trans (HST.out.below (by have := (bt HB.out HB9.out).size; omega) fun k e => by have e : k = b2 := e; have := HBB.out; omega))
      obtain ⟨m0, m1, m2, m3, m4⟩ := (HM.out.below HB9.out).cells
      have ml := (HM.out.below HB9.out).lt
      obtain ⟨a0, a1, a2, a3, a4, a5, a6, a7⟩ := (HA.out.below HB9.out).cells
      have al := (HA.out.below HB9.out).lt
      obtain ⟨s0, s1, s2, s3, s4⟩ := (H2.out.below HB9.out).cells
      have f0 := (H2.out.below HB9.out).fz 0; have f1 := (H2.out.below HB9.out).fz 1; have f2 := (H2.out.below HB9.out).fz 2; have f3 := (H2.out.below HB9.out).fz 3; have f4 := (H2.out.below HB9.out).fz 4
      have sl := (H2.out.below HB9.out).lt
      go_wp2
      refine bodyPost_ret (res_mxe Tryz.results7 rfl rfl HR.out) rfl ?_
      refine ⟨_, rfl, (HC.out.below (bt HB.out HB9.out)).chg HST.out fun b hb e => ?_, fun b hb => .inl hb, HBE.out⟩
      have e : b = b2 := e
      have := HVB.out b hb
      have := HBB.out
      omega
    | true =>
      obtain ⟨p0, p1, p2, p3⟩ := HO9.out.cells
      have pl := HO9.out.lt
      go_wp2_with fail
      clear p0 p1 p2 p3 pl
      refine (rsmall9 r1 w9).mono ?_
      rintro e w10 ⟨rfl, hb10⟩
      have HB10 := Lib.hid (bt HB9.out hb10)
      have HD10 := Lib.hid (HD9.out.below hb10)
      have HO10 := Lib.hid (HO9.out.below hb10)
      have HQ10 := Lib.hid (HQ9.out.below hb10)
      clear hb10
      by_cases s1 : Sm4 r1
      · rw [decide_eq_true s1]
        clear s1
        obtain ⟨p0, p1, p2, p3⟩ := HQ10.out.cells
        have pl := HQ10.out.lt
        go_wp2_with fail
        clear p0 p1 p2 p3 pl
        refine (rsmall9 r2 w10).mono ?_
        rintro e w11 ⟨rfl, hb11⟩
        have HB11 := Lib.hid (bt HB10.out hb11)
        have HD11 := Lib.hid (HD10.out.below hb11)
        have HO11 := Lib.hid (HO10.out.below hb11)
        clear hb11
        rw [decide_eq_false (fun s2 => HG.out (HQ2.out.2 ⟨by simp, s2⟩))]
        have HR := Lib.hid ((H2.out.below HB11.out).set5 (T) (.slice (some ⟨bs, off, none⟩) n cp))
        have HST := Lib.hid (show Chg (fun k => k = b2) w11 (set5x w11 b2 (T) (.slice (some ⟨bs, off, none⟩) n cp)) from
          ((((((Chg.refl (fun k => k = b2) w11).setCell (p := ⟨b2, 0, none⟩) (.inl rfl) _).setCell (p := ⟨b2, 1, none⟩) (.inl rfl) _).setCell (p := ⟨b2, 2, none⟩) (.inl rfl) _).setCell (p := ⟨b2, 3, none⟩) (.inl rfl) _).setCell (p := ⟨b2, 4, none⟩) (.inl rfl) _))
        have HBE := Lib.hid (show Below w.heap.size w (set5x w11 b2 (T) (.slice (some ⟨bs, off, none⟩) n cp)) from (bt HB.out HB11.out).trans (HST.out.below (by have := (bt HB.out HB11.out).size; omega) fun k e => by have e : k = b2 := e; have := HBB.out; omega))
        obtain ⟨m0, m1, m2, m3, m4⟩ := (HM.out.below HB11.out).cells
        have ml := (HM.out.below HB11.out).lt
        obtain ⟨a0, a1, a2, a3, a4, a5, a6, a7⟩ := (HA.out.below HB11.out).cells
        have al := (HA.out.below HB11.out).lt
        obtain ⟨s0, s1, s2, s3, s4⟩ := (H2.out.below HB11.out).cells
        have f0 := (H2.out.below HB11.out).fz 0; have f1 := (H2.out.below HB11.out).fz 1; have f2 := (H2.out.below HB11.out).fz 2; have f3 := (H2.out.below HB11.out).fz 3; have f4 := (H2.out.below HB11.out).fz 4
        have sl := (H2.out.below HB11.out).lt
        go_wp2
        refine bodyPost_ret (res_mxe Tryz.results7 rfl rfl HR.out) rfl ?_
        refine ⟨_, rfl, (HC.out.below (bt HB.out HB11.out)).chg HST.out fun b hb e => ?_, fun b hb => .inl hb, HBE.out⟩
        have e : b = b2 := e
        have := HVB.out b hb
        have := HBB.out
        omega
      · rw [decide_eq_false s1]
        clear s1
        have HR := Lib.hid ((H2.out.below HB10.out).set5 (T) (.slice (some ⟨bs, off, none⟩) n cp))
        have HST := Lib.hid (show Chg (fun k => k = b2) w10 (set5x w10 b2 (T) (.slice (some ⟨bs, off, none⟩) n cp)) from
          ((((((Chg.refl (fun k => k = b2) w10).setCell (p := ⟨b2, 0, none⟩) (.inl rfl) _).setCell (p := ⟨b2, 1, none⟩) (.inl rfl) _).setCell (p := ⟨b2, 2, none⟩) (.inl rfl) _).setCell (p := ⟨b2, 3, none⟩) (.inl rfl) _).setCell (p := ⟨b2, 4, none⟩) (.inl rfl) _))
        have HBE := Lib.hid (show Below w.heap.size w (set5x w10 b2 (T) (.slice (some ⟨bs, off, none⟩) n cp)) from (bt HB.out HB10.out).trans (HST.out.below (by have := (bt HB.out HB10.out).size; omega) fun k e => by have e : k = b2 := e; have := HBB.out; omega))
        obtain ⟨m0, m1, m2, m3, m4⟩ := (HM.out.below HB10.out).cells
        have ml := (HM.out.below HB10.out).lt
        obtain ⟨a0, a1, a2, a3, a4, a5, a6, a7⟩ := (HA.out.below HB10.out).cells
        have al := (HA.out.below HB10.out).lt
        obtain ⟨s0, s1, s2, s3, s4⟩ := (H2.out.below HB10.out).cells
        have f0 := (H2.out.below HB10.out).fz 0; have f1 := (H2.out.below HB10.out).fz 1; have f2 := (H2.out.below HB10.out).fz 2; have f3 := (H2.out.below HB10.out).fz 3; have f4 := (H2.out.below HB10.out).fz 4
        have sl := (H2.out.below HB10.out).lt
        go_wp2
        refine bodyPost_ret (res_mxe Tryz.results7 rfl rfl HR.out) rfl ?_
        refine ⟨_, rfl, (HC.out.below (bt HB.out HB10.out)).chg HST.out fun b hb e => ?_, fun b hb => .inl hb, HBE.out⟩
        have e : b = b2 := e
        have := HVB.out b hb
        have := HBB.out
        omega
set_option maxRecDepth 100000 in
set_option maxHeartbeats 4000000 in
theorem rdo_give (h : RS 8 fdenc w v (A ++ x :: B)) (hvb : ∀ b, v.ownBlock = some b → b < w.heap.size) (hln : (A ++ x :: B).length < 800000) (hok : TOk (A ++ x :: B)) (k : a.k = 5) (hxi : x.id = a.i) (hg : Gv (SU (inR (A ++ x :: B) x.role)) a.n) : Calls Tryz.prog 7 #[mvx T v, av10 a] w (RetD10 w v (0, T, A ++ { x with s := fun k => x.s k + a.n k } :: B)) := by
  have k0 := key_non (c := 0) k rfl; have k1 := key_non (c := 1) k rfl; have k2 := key_non (c := 2) k rfl; have k3 := key_non (c := 3) k rfl; have k4 := key_non (c := 4) k rfl; have k5 := key_is k
  clear k
  obtain ⟨R, hRe⟩ : ∃ R, R = fun k => x.s k + a.n k := ⟨_, rfl⟩
  rw [← hRe]
  have HRE := Lib.hid hRe
  clear hRe
  obtain ⟨t, ht⟩ : ∃ t : Nat, t = A.length := ⟨_, rfl⟩
  have HTL := Lib.hid ht; have HXI := Lib.hid hxi
  have HTA := Lib.hid (show (A ++ x :: B)[t]? = some x from by rw [ht]; exact mid_at A B x)
  clear ht hxi
  obtain ⟨a0', n, cp, rfl, hn, hc, hm, hat⟩ := h.at_
  have HC := Lib.hid h; have HVB := Lib.hid hvb; have HOK := Lib.hid hok; have HAT := Lib.hid hat; have HN := Lib.hid hn
  have hn9 : n < 800000 := by omega
  obtain ⟨b0, hb0⟩ : ∃ b, b = w.heap.size := ⟨_, rfl⟩
  obtain ⟨b1, hb1⟩ : ∃ b, b = b0 + 1 := ⟨_, rfl⟩
  obtain ⟨b2, hb2⟩ : ∃ b, b = b1 + 1 := ⟨_, rfl⟩
  obtain ⟨w1, hw1⟩ : ∃ w1, w1 = ((w.alloc (.cells (mcellsx T (.slice a0' n cp)) 28)).alloc (.cells (acells10 a) 32)).alloc (.cells (mcellsx (fun _ => 0) (.slice none 0 0)) 28) := ⟨_, rfl⟩
  have s1 : (w.alloc (.cells (mcellsx T (.slice a0' n cp)) 28)).heap.size = b1 := by rw [hb1, hb0]; simp
  have s2 : ((w.alloc (.cells (mcellsx T (.slice a0' n cp)) 28)).alloc (.cells (acells10 a) 32)).heap.size = b2 := by rw [hb2, hb1, hb0]; simp
  have HM := Lib.hid (show MBx w1 b0 T (.slice a0' n cp) from by rw [hw1, hb0]; exact (MBx.made w T _).below (ba (ba (Below.refl _ _) _) _))
  have HA := Lib.hid (show QBx w1 b1 a from by rw [hw1, ← s1]; exact (QBx.made _ a).below (ba (Below.refl _ _) _))
  have H2 := Lib.hid (show MBx w1 b2 (fun _ => 0) (.slice none 0 0) from by rw [hw1, ← s2]; exact MBx.made _ (fun _ => 0) _)
  have HB := Lib.hid (show Below w.heap.size w w1 from by rw [hw1]; exact ba (ba (ba (Below.refl _ _) _) _) _)
  have HBB := Lib.hid (And.intro hb0 (And.intro hb1 hb2))
  have HB1 := Lib.hid (Below.refl w1.heap.size w1)
  clear h hat hn hm hc hvb hok s1 s2
  go_enter Tryz.func7, Tryz.ntmps7
  go_upto_region 1 with (fail)
  rw [← hb0, ← hb1, ← hb2, ← hw1]
  clear hb0 hb1 hb2 hw1
  obtain ⟨m0, m1, m2, m3, m4⟩ := (HM.out.below HB1.out).cells
  have ml := (HM.out.below HB1.out).lt
  obtain ⟨a0, a1, a2, a3, a4, a5, a6, a7⟩ := (HA.out.below HB1.out).cells
  have al := (HA.out.below HB1.out).lt
  obtain ⟨s0, s1, s2, s3, s4⟩ := (H2.out.below HB1.out).cells
  have f0 := (H2.out.below HB1.out).fz 0; have f1 := (H2.out.below HB1.out).fz 1; have f2 := (H2.out.below HB1.out).fz 2; have f3 := (H2.out.below HB1.out).fz 3; have f4 := (H2.out.below HB1.out).fz 4
  have sl := (H2.out.below HB1.out).lt
  go_wp2_with fail
  clear m0 m1 m2 m3 m4 ml a0 a1 a2 a3 a4 a5 a6 a7 al s0 s1 s2 s3 s4 f0 f1 f2 f3 f4 sl
  refine (ratx (T := T) (HC.out.below HB.out) a.i).mono ?_
  rintro e w2 ⟨z, rfl, hz, hb2⟩
  rw [← HXI.out] at hz
  obtain rfl : z = (t : Int) := by rw [HTL.out]; exact at_is HOK.out hz
  have HB2 := Lib.hid hb2
  clear hb2 hz
  obtain ⟨m0, m1, m2, m3, m4⟩ := (HM.out.below HB2.out).cells
  have ml := (HM.out.below HB2.out).lt
  obtain ⟨a0, a1, a2, a3, a4, a5, a6, a7⟩ := (HA.out.below HB2.out).cells
  have al := (HA.out.below HB2.out).lt
  obtain ⟨s0, s1, s2, s3, s4⟩ := (H2.out.below HB2.out).cells
  have f0 := (H2.out.below HB2.out).fz 0; have f1 := (H2.out.below HB2.out).fz 1; have f2 := (H2.out.below HB2.out).fz 2; have f3 := (H2.out.below HB2.out).fz 3; have f4 := (H2.out.below HB2.out).fz 4
  have sl := (H2.out.below HB2.out).lt
  obtain ⟨bs, off, rfl, hbs, hcell⟩ := HAT.out t x HTA.out
  have HBS := Lib.hid hbs; have HCX := Lib.hid hcell
  have hbw := bt HB.out HB2.out
  have e0 := (hbw.cell (p := ⟨bs, off + t * 8 + 0, none⟩) hbs).trans (hcell 0 _ rfl)
  have e1 := (hbw.cell (p := ⟨bs, off + t * 8 + 1, none⟩) hbs).trans (hcell 1 _ rfl)
  have e2 := (hbw.cell (p := ⟨bs, off + t * 8 + 2, none⟩) hbs).trans (hcell 2 _ rfl)
  have e3 := (hbw.cell (p := ⟨bs, off + t * 8 + 3, none⟩) hbs).trans (hcell 3 _ rfl)
  have e4 := (hbw.cell (p := ⟨bs, off + t * 8 + 4, none⟩) hbs).trans (hcell 4 _ rfl)
  have e5 := (hbw.cell (p := ⟨bs, off + t * 8 + 5, none⟩) hbs).trans (hcell 5 _ rfl)
  have e6 := (hbw.cell (p := ⟨bs, off + t * 8 + 6, none⟩) hbs).trans (hcell 6 _ rfl)
  have e7 := (hbw.cell (p := ⟨bs, off + t * 8 + 7, none⟩) hbs).trans (hcell 7 _ rfl)
  simp only [Nat.add_zero] at e0 e1 e2 e3 e4 e5 e6 e7
  have hbs2 : bs < w2.heap.size := Nat.lt_of_lt_of_le hbs hbw.size
  have htn : t < n := by have q1 := HN.out; have q2 := (List.getElem?_eq_some_iff.1 HTA.out).1; omega
  have hti2 : (t : Int) < (n : Int) := by omega
  have hnn : ¬ (t : Int) < 0 := by omega
  have hb3 := ba (Below.refl w2.heap.size w2) (.cells (fdcells x) 49)
  have HD3 := Lib.hid (DBx.made w2 x)
  have HB3 := Lib.hid (bt HB2.out hb3)
  clear hcell hbs hbw hb3
  go_upto_region 16 with (fail)
  clear m0 m1 m2 m3 m4 ml a0 a1 a2 a3 a4 a5 a6 a7 al s0 s1 s2 s3 s4 f0 f1 f2 f3 f4 sl
  clear e0 e1 e2 e3 e4 e5 e6 e7 hbs2
  generalize w2.alloc (.cells (fdcells x) 49) = w3 at *
  obtain ⟨b4, hb4⟩ : ∃ b, b = w2.heap.size := ⟨_, rfl⟩
  rw [← hb4] at HD3 ⊢
  have HW4 := Lib.hid (show w1.heap.size ≤ b4 from by rw [hb4]; exact HB2.out.size)
  clear hb4
  have HWC := Lib.hid (show w1.heap.size ≤ w3.heap.size from HB3.out.size)
  have HSX := Lib.hid (HOK.out.sm x (by simp)); have HSU := Lib.hid (HOK.out.su x.role)
  have HRL := Lib.hid (rrolex (T := T) (HC.out.below (bt HB.out HB3.out)) HOK.out (by have := HN.out; omega) x.role)
  obtain ⟨S, hS⟩ : ∃ S, S = SU (inR (A ++ x :: B) x.role) := ⟨_, rfl⟩
  rw [← hS] at HRL HSU hg
  have HSQ := Lib.hid hS; have HG := Lib.hid hg
  have HLE := Lib.hid (show ∀ k, k < 4 → 0 ≤ x.s k ∧ x.s k ≤ S k from fun k hk => ⟨(HSX.out k hk).1, by rw [hS]; exact le_SU HOK.out (by simp) hk⟩)
  obtain ⟨r1, q1, hadd1, hrq1, hq1⟩ := refadd9 x.s a.n HSX.out.ok
  obtain ⟨r2, q2, hadd2, hrq2, hq2⟩ := refadd9 S a.n HSU.out.ok
  have HA1 := Lib.hid hadd1; have HA2 := Lib.hid hadd2; have HQ1 := Lib.hid hq1; have HQ2 := Lib.hid hq2; have HR1 := Lib.hid hrq1
  clear hadd1 hadd2 hq1 hq2 hrq1 hrq2 hS hg
  obtain ⟨lw, hlw⟩ : ∃ y, y = lastW (inR (A ++ x :: B) x.role) := ⟨_, rfl⟩
  obtain ⟨th, hth⟩ : ∃ y, y = decide (inR (A ++ x :: B) x.role ≠ []) := ⟨_, rfl⟩
  rw [← hlw, ← hth] at HRL
  clear hlw hth
  obtain ⟨m0, m1, m2, m3, m4⟩ := (HM.out.below HB3.out).cells
  have ml := (HM.out.below HB3.out).lt
  obtain ⟨a0, a1, a2, a3, a4, a5, a6, a7⟩ := (HA.out.below HB3.out).cells
  have al := (HA.out.below HB3.out).lt
  obtain ⟨s0, s1, s2, s3, s4⟩ := (H2.out.below HB3.out).cells
  have f0 := (H2.out.below HB3.out).fz 0; have f1 := (H2.out.below HB3.out).fz 1; have f2 := (H2.out.below HB3.out).fz 2; have f3 := (H2.out.below HB3.out).fz 3; have f4 := (H2.out.below HB3.out).fz 4
  have sl := (H2.out.below HB3.out).lt
  obtain ⟨d0, d1, d2, d3, d4, d5, d6, d7⟩ := HD3.out.cells
  have dl := HD3.out.lt
  have df3 := HD3.out.fz 3; have df4 := HD3.out.fz 4; have df5 := HD3.out.fz 5; have df6 := HD3.out.fz 6; have df7 := HD3.out.fz 7
  go_wp2_with fail
  clear m0 m1 m2 m3 m4 ml a0 a1 a2 a3 a4 a5 a6 a7 al s0 s1 s2 s3 s4 f0 f1 f2 f3 f4 sl
  clear d0 d1 d2 d3 d4 d5 d6 d7 dl df3 df4 df5 df6 df7
  refine HRL.out.mono ?_
  rintro e w4 ⟨rfl, hb4⟩
  clear HRL
  have hb5 := ba (Below.refl w4.heap.size w4) (.cells (C4 S) 25)
  have HB5 := Lib.hid (bt (bt HB3.out hb4) hb5)
  have HD5 := Lib.hid (HD3.out.below (bt hb4 hb5))
  have HP5 := Lib.hid (PBx.made w4 S)
  clear hb4 hb5
  go_upto_region 30 with (fail)
  generalize w4.alloc (.cells (C4 S) 25) = w5 at *
  generalize w4.heap.size = b5 at *
  obtain ⟨m0, m1, m2, m3, m4⟩ := (HM.out.below HB5.out).cells
  have ml := (HM.out.below HB5.out).lt
  obtain ⟨a0, a1, a2, a3, a4, a5, a6, a7⟩ := (HA.out.below HB5.out).cells
  have al := (HA.out.below HB5.out).lt
  obtain ⟨s0, s1, s2, s3, s4⟩ := (H2.out.below HB5.out).cells
  have f0 := (H2.out.below HB5.out).fz 0; have f1 := (H2.out.below HB5.out).fz 1; have f2 := (H2.out.below HB5.out).fz 2; have f3 := (H2.out.below HB5.out).fz 3; have f4 := (H2.out.below HB5.out).fz 4
  have sl := (H2.out.below HB5.out).lt
  obtain ⟨d0, d1, d2, d3, d4, d5, d6, d7⟩ := HD5.out.cells
  have dl := HD5.out.lt
  have df3 := HD5.out.fz 3; have df4 := HD5.out.fz 4; have df5 := HD5.out.fz 5; have df6 := HD5.out.fz 6; have df7 := HD5.out.fz 7
  go_wp2_with fail
  clear m0 m1 m2 m3 m4 ml a0 a1 a2 a3 a4 a5 a6 a7 al s0 s1 s2 s3 s4 f0 f1 f2 f3 f4 sl
  clear d0 d1 d2 d3 d4 d5 d6 d7 dl df3 df4 df5 df6 df7
  refine (HA1.out w5).mono ?_
  rintro e w6 ⟨rfl, hb6⟩
  clear HA1
  have hb7 := ba (Below.refl w6.heap.size w6) (.cells (C4 r1) 25)
  have HB7 := Lib.hid (bt (bt HB5.out hb6) hb7)
  have HD7 := Lib.hid (HD5.out.below (bt hb6 hb7))
  have HP7 := Lib.hid (HP5.out.below (bt hb6 hb7))
  have HO7 := Lib.hid (PBx.made w6 r1)
  clear hb6 hb7
  go_upto_region 31 with (fail)
  generalize w6.alloc (.cells (C4 r1) 25) = w7 at *
  generalize w6.heap.size = b7 at *
  obtain ⟨m0, m1, m2, m3, m4⟩ := (HM.out.below HB7.out).cells
  have ml := (HM.out.below HB7.out).lt
  obtain ⟨a0, a1, a2, a3, a4, a5, a6, a7⟩ := (HA.out.below HB7.out).cells
  have al := (HA.out.below HB7.out).lt
  obtain ⟨s0, s1, s2, s3, s4⟩ := (H2.out.below HB7.out).cells
  have f0 := (H2.out.below HB7.out).fz 0; have f1 := (H2.out.below HB7.out).fz 1; have f2 := (H2.out.below HB7.out).fz 2; have f3 := (H2.out.below HB7.out).fz 3; have f4 := (H2.out.below HB7.out).fz 4
  have sl := (H2.out.below HB7.out).lt
  obtain ⟨p0, p1, p2, p3⟩ := HP7.out.cells
  have pl := HP7.out.lt
  go_wp2_with fail
  clear m0 m1 m2 m3 m4 ml a0 a1 a2 a3 a4 a5 a6 a7 al s0 s1 s2 s3 s4 f0 f1 f2 f3 f4 sl
  clear p0 p1 p2 p3 pl
  refine (HA2.out w7).mono ?_
  rintro e w8 ⟨rfl, hb8⟩
  clear HA2
  have hb9 := ba (Below.refl w8.heap.size w8) (.cells (C4 r2) 25)
  have HB9 := Lib.hid (bt (bt HB7.out hb8) hb9)
  have HD9 := Lib.hid (HD7.out.below (bt hb8 hb9))
  have HO9 := Lib.hid (HO7.out.below (bt hb8 hb9))
  have HQ9 := Lib.hid (PBx.made w8 r2)
  clear hb8 hb9
  go_upto_region 32 with (fail)
  generalize w8.alloc (.cells (C4 r2) 25) = w9 at *
  generalize w8.heap.size = b9 at *
  obtain ⟨rfl, hs2⟩ := HQ2.out.1 HG.out
  obtain ⟨rfl, hs1⟩ := HQ1.out.1 (gv_less HLE.out HG.out)
  obtain rfl : r1 = R := by rw [HRE.out]; exact HR1.out rfl
  have HS1 := Lib.hid hs1; have HS2 := Lib.hid hs2
  clear hs1 hs2
  obtain ⟨p0, p1, p2, p3⟩ := HO9.out.cells
  have pl := HO9.out.lt
  go_wp2_with fail
  clear p0 p1 p2 p3 pl
  refine (rsmall9 r1 w9).mono ?_
  rintro e w10 ⟨rfl, hb10⟩
  have HB10 := Lib.hid (bt HB9.out hb10)
  have HD10 := Lib.hid (HD9.out.below hb10)
  have HO10 := Lib.hid (HO9.out.below hb10)
  have HQ10 := Lib.hid (HQ9.out.below hb10)
  clear hb10
  rw [decide_eq_true HS1.out]
  obtain ⟨p0, p1, p2, p3⟩ := HQ10.out.cells
  have pl := HQ10.out.lt
  go_wp2_with fail
  clear p0 p1 p2 p3 pl
  refine (rsmall9 r2 w10).mono ?_
  rintro e w11 ⟨rfl, hb11⟩
  have HB11 := Lib.hid (bt HB10.out hb11)
  have HD11 := Lib.hid (HD10.out.below hb11)
  have HO11 := Lib.hid (HO10.out.below hb11)
  clear hb11
  rw [decide_eq_true HS2.out]
  have HB7 := Lib.hid (show Below w1.heap.size w1 ((((w11.setCell ⟨b4, 3, none⟩ (.int .i64 (r1 0))).setCell ⟨b4, 4, none⟩ (.int .i64 (r1 1))).setCell ⟨b4, 5, none⟩ (.int .i64 (r1 2))).setCell ⟨b4, 6, none⟩ (.int .i64 (r1 3))) from (((HB11.out.setCell (p := ⟨b4, 3, none⟩) HW4.out _).setCell (p := ⟨b4, 4, none⟩) HW4.out _).setCell (p := ⟨b4, 5, none⟩) HW4.out _).setCell (p := ⟨b4, 6, none⟩) HW4.out _)
  have HD7 := Lib.hid (HD11.out.sets r1)
  obtain ⟨p0, p1, p2, p3⟩ := HO11.out.cells
  have pl := HO11.out.lt
  obtain ⟨d0, d1, d2, d3, d4, d5, d6, d7⟩ := HD11.out.cells
  have dl := HD11.out.lt
  have df3 := HD11.out.fz 3; have df4 := HD11.out.fz 4; have df5 := HD11.out.fz 5; have df6 := HD11.out.fz 6; have df7 := HD11.out.fz 7
  go_upto_region 35 with (fail)
  clear d0 d1 d2 d3 d4 d5 d6 d7 dl df3 df4 df5 df6 df7
  clear p0 p1 p2 p3 pl
  generalize (((w11.setCell ⟨b4, 3, none⟩ (.int .i64 (r1 0))).setCell ⟨b4, 4, none⟩ (.int .i64 (r1 1))).setCell ⟨b4, 5, none⟩ (.int .i64 (r1 2))).setCell ⟨b4, 6, none⟩ (.int .i64 (r1 3)) = w7 at *
  have HW := Lib.hid (rwithx (T := T) (w := w7) (HC.out.below (bt HB.out HB7.out)) (by have := HN.out; omega) (t : Int) ({ x with s := r1 }) (A ++ ({ x with s := r1 }) :: B) (by simp) (by rw [HTL.out]; exact set_mid A B x _))
  rw [if_neg (by omega)] at HW
  have HWC := Lib.hid (show w1.heap.size ≤ w7.heap.size from HB7.out.size)
  obtain ⟨m0, m1, m2, m3, m4⟩ := (HM.out.below HB7.out).cells
  have ml := (HM.out.below HB7.out).lt
  obtain ⟨a0, a1, a2, a3, a4, a5, a6, a7⟩ := (HA.out.below HB7.out).cells
  have al := (HA.out.below HB7.out).lt
  obtain ⟨s0, s1, s2, s3, s4⟩ := (H2.out.below HB7.out).cells
  have f0 := (H2.out.below HB7.out).fz 0; have f1 := (H2.out.below HB7.out).fz 1; have f2 := (H2.out.below HB7.out).fz 2; have f3 := (H2.out.below HB7.out).fz 3; have f4 := (H2.out.below HB7.out).fz 4
  have sl := (H2.out.below HB7.out).lt
  obtain ⟨d0, d1, d2, d3, d4, d5, d6, d7⟩ := HD7.out.cells
  have dl := HD7.out.lt
  have df3 := HD7.out.fz 3; have df4 := HD7.out.fz 4; have df5 := HD7.out.fz 5; have df6 := HD7.out.fz 6; have df7 := HD7.out.fz 7
  go_wp2_with fail
  clear m0 m1 m2 m3 m4 ml a0 a1 a2 a3 a4 a5 a6 a7 al s0 s1 s2 s3 s4 f0 f1 f2 f3 f4 sl
  clear d0 d1 d2 d3 d4 d5 d6 d7 dl df3 df4 df5 df6 df7
  refine HW.out.mono ?_
  rintro e w9 ⟨v9, rfl, ho9, hb9⟩
  have HB9 := Lib.hid (bt HB7.out hb9)
  have HO9 := Lib.hid ho9
  clear ho9 hb9 HW
  obtain ⟨ao, mo, co, hvo⟩ : ∃ ao mo co, v9 = .slice ao mo co := by
    rcases HO9.out.2 with ⟨hv, h0⟩ | ⟨g', cap', cur', hv, _⟩
    · exact ⟨_, _, _, hv⟩
    · exact ⟨_, _, _, hv⟩
  subst hvo
  have HR := Lib.hid ((H2.out.below HB9.out).set5 (T) (.slice ao mo co))
  have HST := Lib.hid (show Chg (fun k => k = b2) w9 (set5x w9 b2 (T) (.slice ao mo co)) from
    ((((((Chg.refl (fun k => k = b2) w9).setCell (p := ⟨b2, 0, none⟩) (.inl rfl) _).setCell (p := ⟨b2, 1, none⟩) (.inl rfl) _).setCell (p := ⟨b2, 2, none⟩) (.inl rfl) _).setCell (p := ⟨b2, 3, none⟩) (.inl rfl) _).setCell (p := ⟨b2, 4, none⟩) (.inl rfl) _))
  have HBE := Lib.hid (show Below w.heap.size w (set5x w9 b2 (T) (.slice ao mo co)) from (bt HB.out HB9.out).trans (HST.out.below (by have := (bt HB.out HB9.out).size; omega) fun k e => by have e : k = b2 := e; have := HBB.out; omega))
  obtain ⟨m0, m1, m2, m3, m4⟩ := (HM.out.below HB9.out).cells
  have ml := (HM.out.below HB9.out).lt
  obtain ⟨a0, a1, a2, a3, a4, a5, a6, a7⟩ := (HA.out.below HB9.out).cells
  have al := (HA.out.below HB9.out).lt
  obtain ⟨s0, s1, s2, s3, s4⟩ := (H2.out.below HB9.out).cells
  have f0 := (H2.out.below HB9.out).fz 0; have f1 := (H2.out.below HB9.out).fz 1; have f2 := (H2.out.below HB9.out).fz 2; have f3 := (H2.out.below HB9.out).fz 3; have f4 := (H2.out.below HB9.out).fz 4
  have sl := (H2.out.below HB9.out).lt
  go_wp2
  refine bodyPost_ret (res_mxe Tryz.results7 rfl rfl HR.out) rfl ?_
  have hol := HO9.out.lt
  have hbb := HBB.out
  refine ⟨.slice ao mo co, rfl, (HO9.out.chg HST.out fun b hb e => ?_).rs (fun _ => rfl), fun b hb => .inr ?_, HBE.out⟩
  · have e : b = b2 := e
    have := (hol b hb).1
    have := H2.out.lt
    have := HWC.out
    omega
  · have q := hol b hb
    have := HWC.out
    have := HB.out.size
    exact ⟨by omega, Nat.lt_of_lt_of_le q.2 HST.out.size⟩
end
end
section
open Go.RowKit Go.Maps
attribute [local go_sem] ext_cell ext_frozen extC_cell extC_frozen Mix.calmUpon Mix.mUpon
-- what is read at the world wq; HBq : Below w1.heap.size w1 wq
-- the answer: the total TT and the value VV are laid into the block b2 at the world wq
-- the list is answered as it came in, at the world wq
-- a list that a call made is answered: HO : OwnL .. w9 base (.slice ao mo co) D, HWC : w1.heap.size ≤ base
-- a call of F begins: its three variables
-- what a round reads at the world wq, in the state HQ
-- the element x of the list that came in is appended: state HQ at w2

-- the framework x is found at the place t, and laid into the variable b4: world w3
-- the framework XX in b4 at w5 takes its place in the list
theorem take_erasex {C : List Fd} {x : Fd} {t k : Nat} (hx : C[t]? = some x) : (C.take (t + 1)).eraseIdx k = if t = k then (C.take t).eraseIdx k else (C.take t).eraseIdx k ++ [x] := by
  have hl : (C.take t).length = t := by rw [List.length_take]; have := (List.getElem?_eq_some_iff.1 hx).1; omega
  rw [take_at hx]
  by_cases h1 : t < k
  · rw [if_neg (by omega), List.eraseIdx_of_length_le (by simp; omega), List.eraseIdx_of_length_le (by omega)]
  · by_cases h2 : t = k
    · subst h2
      rw [if_pos rfl, List.eraseIdx_append_of_length_le (by omega), hl, Nat.sub_self, List.eraseIdx_of_length_le (l := C.take t) (by omega)]; simp
    · rw [if_neg h2, List.eraseIdx_append_of_lt_length (by omega)]
theorem erase_mid (A B : List Fd) (x : Fd) : (A ++ x :: B).eraseIdx A.length = A ++ B := by
  rw [List.eraseIdx_append_of_length_le (Nat.le_refl _), Nat.sub_self]; rfl
section
variable {w : World} {v : Value} {A B : List Fd} {T : Nat → Int} {a : A10} {x : Fd}
set_option maxRecDepth 100000 in
set_option maxHeartbeats 4000000 in
theorem rdo_drop (h : RS 8 fdenc w v (A ++ x :: B)) (hvb : ∀ b, v.ownBlock = some b → b < w.heap.size) (hln : (A ++ x :: B).length < 800000) (hok : TOk (A ++ x :: B)) (k : a.k = 2) (hxi : x.id = a.i) : Calls Tryz.prog 7 #[mvx T v, av10 a] w (RetD10 w v (0, T, A ++ B)) := by
  have k0 := key_non (c := 0) k rfl; have k1 := key_non (c := 1) k rfl; have k2 := key_is k
  clear k
  obtain ⟨R, hRq⟩ : ∃ R, R = A ++ B := ⟨_, rfl⟩
  rw [← hRq]
  have HRQ := Lib.hid hRq
  clear hRq
  obtain ⟨t, ht⟩ : ∃ t : Nat, t = A.length := ⟨_, rfl⟩
  have HTL := Lib.hid ht; have HXI := Lib.hid hxi
  have HTA := Lib.hid (show (A ++ x :: B)[t]? = some x from by rw [ht]; exact mid_at A B x)
  clear ht hxi
  obtain ⟨a0', n, cp, rfl, hn, hc, hm, hat⟩ := h.at_
  have HC := Lib.hid h; have HVB := Lib.hid hvb; have HOK := Lib.hid hok; have HAT := Lib.hid hat; have HN := Lib.hid hn
  have hn9 : n < 800000 := by omega
  obtain ⟨b0, hb0⟩ : ∃ b, b = w.heap.size := ⟨_, rfl⟩
  obtain ⟨b1, hb1⟩ : ∃ b, b = b0 + 1 := ⟨_, rfl⟩
  obtain ⟨b2, hb2⟩ : ∃ b, b = b1 + 1 := ⟨_, rfl⟩
  obtain ⟨w1, hw1⟩ : ∃ w1, w1 = ((w.alloc (.cells (mcellsx T (.slice a0' n cp)) 28)).alloc (.cells (acells10 a) 32)).alloc (.cells (mcellsx (fun _ => 0) (.slice none 0 0)) 28) := ⟨_, rfl⟩
  have s1 : (w.alloc (.cells (mcellsx T (.slice a0' n cp)) 28)).heap.size = b1 := by rw [hb1, hb0]; simp
  have s2 : ((w.alloc (.cells (mcellsx T (.slice a0' n cp)) 28)).alloc (.cells (acells10 a) 32)).heap.size = b2 := by rw [hb2, hb1, hb0]; simp
  have HM := Lib.hid (show MBx w1 b0 T (.slice a0' n cp) from by rw [hw1, hb0]; exact (MBx.made w T _).below (ba (ba (Below.refl _ _) _) _))
  have HA := Lib.hid (show QBx w1 b1 a from by rw [hw1, ← s1]; exact (QBx.made _ a).below (ba (Below.refl _ _) _))
  have H2 := Lib.hid (show MBx w1 b2 (fun _ => 0) (.slice none 0 0) from by rw [hw1, ← s2]; exact MBx.made _ (fun _ => 0) _)
  have HB := Lib.hid (show Below w.heap.size w w1 from by rw [hw1]; exact ba (ba (ba (Below.refl _ _) _) _) _)
  have HBB := Lib.hid (And.intro hb0 (And.intro hb1 hb2))
  have HB1 := Lib.hid (Below.refl w1.heap.size w1)
  clear h hat hn hm hc hvb hok s1 s2
  go_enter Tryz.func7, Tryz.ntmps7
  go_upto_region 1 with (fail)
  rw [← hb0, ← hb1, ← hb2, ← hw1]
  clear hb0 hb1 hb2 hw1
  obtain ⟨m0, m1, m2, m3, m4⟩ := (HM.out.below HB1.out).cells
  have ml := (HM.out.below HB1.out).lt
  obtain ⟨a0, a1, a2, a3, a4, a5, a6, a7⟩ := (HA.out.below HB1.out).cells
  have al := (HA.out.below HB1.out).lt
  obtain ⟨s0, s1, s2, s3, s4⟩ := (H2.out.below HB1.out).cells
  have f0 := (H2.out.below HB1.out).fz 0; have f1 := (H2.out.below HB1.out).fz 1; have f2 := (H2.out.below HB1.out).fz 2; have f3 := (H2.out.below HB1.out).fz 3; have f4 := (H2.out.below HB1.out).fz 4
  have sl := (H2.out.below HB1.out).lt
  go_wp2_with fail
  clear m0 m1 m2 m3 m4 ml a0 a1 a2 a3 a4 a5 a6 a7 al s0 s1 s2 s3 s4 f0 f1 f2 f3 f4 sl
  refine (ratx (T := T) (HC.out.below HB.out) a.i).mono ?_
  rintro e w2 ⟨z, rfl, hz, hb2⟩
  rw [← HXI.out] at hz
  obtain rfl : z = (t : Int) := by rw [HTL.out]; exact at_is HOK.out hz
  have HB2 := Lib.hid hb2
  clear hb2 hz
  obtain ⟨m0, m1, m2, m3, m4⟩ := (HM.out.below HB2.out).cells
  have ml := (HM.out.below HB2.out).lt
  obtain ⟨a0, a1, a2, a3, a4, a5, a6, a7⟩ := (HA.out.below HB2.out).cells
  have al := (HA.out.below HB2.out).lt
  obtain ⟨s0, s1, s2, s3, s4⟩ := (H2.out.below HB2.out).cells
  have f0 := (H2.out.below HB2.out).fz 0; have f1 := (H2.out.below HB2.out).fz 1; have f2 := (H2.out.below HB2.out).fz 2; have f3 := (H2.out.below HB2.out).fz 3; have f4 := (H2.out.below HB2.out).fz 4
  have sl := (H2.out.below HB2.out).lt
  obtain ⟨bs, off, rfl, hbs, hcell⟩ := HAT.out t x HTA.out
  have HBS := Lib.hid hbs; have HCX := Lib.hid hcell
  have hbw := bt HB.out HB2.out
  have e0 := (hbw.cell (p := ⟨bs, off + t * 8 + 0, none⟩) hbs).trans (hcell 0 _ rfl)
  have e1 := (hbw.cell (p := ⟨bs, off + t * 8 + 1, none⟩) hbs).trans (hcell 1 _ rfl)
  have e2 := (hbw.cell (p := ⟨bs, off + t * 8 + 2, none⟩) hbs).trans (hcell 2 _ rfl)
  have e3 := (hbw.cell (p := ⟨bs, off + t * 8 + 3, none⟩) hbs).trans (hcell 3 _ rfl)
  have e4 := (hbw.cell (p := ⟨bs, off + t * 8 + 4, none⟩) hbs).trans (hcell 4 _ rfl)
  have e5 := (hbw.cell (p := ⟨bs, off + t * 8 + 5, none⟩) hbs).trans (hcell 5 _ rfl)
  have e6 := (hbw.cell (p := ⟨bs, off + t * 8 + 6, none⟩) hbs).trans (hcell 6 _ rfl)
  have e7 := (hbw.cell (p := ⟨bs, off + t * 8 + 7, none⟩) hbs).trans (hcell 7 _ rfl)
  simp only [Nat.add_zero] at e0 e1 e2 e3 e4 e5 e6 e7
  have hbs2 : bs < w2.heap.size := Nat.lt_of_lt_of_le hbs hbw.size
  have htn : t < n := by have q1 := HN.out; have q2 := (List.getElem?_eq_some_iff.1 HTA.out).1; omega
  have hti2 : (t : Int) < (n : Int) := by omega
  have hnn : ¬ (t : Int) < 0 := by omega
  have hb3 := ba (Below.refl w2.heap.size w2) (.cells (fdcells x) 49)
  have HD3 := Lib.hid (DBx.made w2 x)
  have HB3 := Lib.hid (bt HB2.out hb3)
  clear hcell hbs hbw hb3
  go_upto_region 16 with (fail)
  clear m0 m1 m2 m3 m4 ml a0 a1 a2 a3 a4 a5 a6 a7 al s0 s1 s2 s3 s4 f0 f1 f2 f3 f4 sl
  clear e0 e1 e2 e3 e4 e5 e6 e7 hbs2
  generalize w2.alloc (.cells (fdcells x) 49) = w3 at *
  obtain ⟨b4, hb4⟩ : ∃ b, b = w2.heap.size := ⟨_, rfl⟩
  rw [← hb4] at HD3 ⊢
  have HW4 := Lib.hid (show w1.heap.size ≤ b4 from by rw [hb4]; exact HB2.out.size)
  clear hb4
  have HWC := Lib.hid (show w1.heap.size ≤ w3.heap.size from HB3.out.size)
  have HER := Lib.hid (show (A ++ x :: B).eraseIdx t = R from by rw [HTL.out, HRQ.out]; exact erase_mid A B x)
  generalize hCC : A ++ x :: B = C at *
  clear hCC
  have hb5 := ba (Below.refl w3.heap.size w3) (.cells (mcellsx T (.slice none 0 0)) 28)
  have HM5 := Lib.hid (MBx.made w3 T (.slice none 0 0))
  have HB4 := Lib.hid (bt HB3.out hb5)
  clear hb5
  obtain ⟨m0, m1, m2, m3, m4⟩ := (HM.out.below HB3.out).cells
  have ml := (HM.out.below HB3.out).lt
  obtain ⟨a0, a1, a2, a3, a4, a5, a6, a7⟩ := (HA.out.below HB3.out).cells
  have al := (HA.out.below HB3.out).lt
  obtain ⟨s0, s1, s2, s3, s4⟩ := (H2.out.below HB3.out).cells
  have f0 := (H2.out.below HB3.out).fz 0; have f1 := (H2.out.below HB3.out).fz 1; have f2 := (H2.out.below HB3.out).fz 2; have f3 := (H2.out.below HB3.out).fz 3; have f4 := (H2.out.below HB3.out).fz 4
  have sl := (H2.out.below HB3.out).lt
  go_upto_region 18 with (fail)
  clear m0 m1 m2 m3 m4 ml a0 a1 a2 a3 a4 a5 a6 a7 al s0 s1 s2 s3 s4 f0 f1 f2 f3 f4 sl
  obtain ⟨w4, hw4⟩ : ∃ x, x = w3.alloc (.cells (mcellsx T (.slice none 0 0)) 28) := ⟨_, rfl⟩
  obtain ⟨bo, hbo⟩ : ∃ b, b = w3.heap.size := ⟨_, rfl⟩
  have HM4 := Lib.hid (show MBx w4 bo T (.slice none 0 0) from by rw [hw4, hbo]; exact HM5.out)
  rw [← hw4] at HB4
  have HBK := Lib.hid (show w.heap.size ≤ b0 ∧ b0 < bo ∧ w1.heap.size ≤ bo ∧ w.heap.size ≤ bo from by
    have q1 := HBB.out; have q2 := HWC.out; have q3 := HM.out.lt; have q4 := HB.out.size; omega)
  have H0 := Lib.hid (show MBx w4 b0 T (.slice (some ⟨bs, off, none⟩) n cp) from HM.out.below HB4.out)
  have HBL := Lib.hid (bt HB.out HB4.out)
  have HI := Lib.hid (show OCx w4 w4 bo T (.slice none 0 0) ((C.take 0).eraseIdx t) from by simp; exact ⟨Below.refl _ _, HM4.out.lt, HM4.out, OwnL.nil _ _ _ _ _⟩)
  change Code.wp _ _ _ _ (w3.alloc (.cells (mcellsx T (.slice none 0 0)) 28))
  rw [← hw4, ← hbo]
  clear hw4 hbo HM5 htn hti2 hnn
  go_wp2
  go_loopw [9] (fun iv wr => ∃ (i : Nat) (vo : Value), i ≤ n ∧ iv = .int .i64 i ∧ Hid (OCx w4 wr bo T vo ((C.take i).eraseIdx t))) (fun iv _ => n - (intOf iv).toNat)
  case atStart => exact ⟨0, _, Nat.zero_le _, rfl, HI⟩
  case round =>
    clear HI
    obtain ⟨i, vo, hi, rfl, HQ⟩ := hrel
    obtain ⟨w5, rfl⟩ : ∃ x, x = wr := ⟨_, rfl⟩
    by_cases hlt : i < n
    · have hts : (i : Int) < (n : Int) := by omega
      obtain ⟨y, hy⟩ := at_lt (l := C) (i := i) (by rw [← HN.out]; exact hlt)
      obtain ⟨bs', off', he, hbs, hcell⟩ := HAT.out i y hy
      cases he
      have HCY := Lib.hid hcell
      have HCL := Lib.hid (show ((C.take i).eraseIdx t).length < 1000000 by
        have h1 := List.length_take_le i C
        have h2 := List.length_eraseIdx_le (C.take i) t
        omega)
      have hdx := take_erasex (k := t) hy
      clear hcell hy hbs
      by_cases htk : i = t
      · have hb : ((i : Int) != (t : Int)) = false := by simp; omega
        rw [if_pos htk] at hdx
        have HW := Lib.hid hdx
        clear htk hdx
        have hm0 : MBx w5 b0 T (.slice (some ⟨bs, off, none⟩) n cp) := (HQ.out.bel.block b0 (by have := HBK.out; omega)).trans H0.out
        obtain ⟨m0, m1, m2, m3, m4⟩ := hm0.cells
        have ml := hm0.lt
        clear hm0 m0 m1 m2 m3
        obtain ⟨y0, y1, y2, y3, y4⟩ := HQ.out.m.cells
        have yl := HQ.out.m.lt
        clear y0 y1 y2 y3
        have hbw := HBL.out.trans (HQ.out.bel.mono (show w.heap.size ≤ bo by have := HBK.out; omega))
        have e0 := (hbw.cell (p := ⟨bs, off + i * 8 + 0, none⟩) HBS.out).trans (HCY.out 0 _ rfl)
        have e1 := (hbw.cell (p := ⟨bs, off + i * 8 + 1, none⟩) HBS.out).trans (HCY.out 1 _ rfl)
        have e2 := (hbw.cell (p := ⟨bs, off + i * 8 + 2, none⟩) HBS.out).trans (HCY.out 2 _ rfl)
        have e3 := (hbw.cell (p := ⟨bs, off + i * 8 + 3, none⟩) HBS.out).trans (HCY.out 3 _ rfl)
        have e4 := (hbw.cell (p := ⟨bs, off + i * 8 + 4, none⟩) HBS.out).trans (HCY.out 4 _ rfl)
        have e5 := (hbw.cell (p := ⟨bs, off + i * 8 + 5, none⟩) HBS.out).trans (HCY.out 5 _ rfl)
        have e6 := (hbw.cell (p := ⟨bs, off + i * 8 + 6, none⟩) HBS.out).trans (HCY.out 6 _ rfl)
        have e7 := (hbw.cell (p := ⟨bs, off + i * 8 + 7, none⟩) HBS.out).trans (HCY.out 7 _ rfl)
        simp only [Nat.add_zero] at e0
        have qs : bs < w5.heap.size := by have := HBS.out; have := HBK.out; omega
        clear hbw
        go_wp2
        clear m4 ml y4 yl e0 e1 e2 e3 e4 e5 e6 e7 qs
        go_roundw
        case rel => exact ⟨i + 1, _, by omega, by go_num, Lib.hid (by rw [HW.out]; exact HQ.out)⟩
        case measure => simp [intOf]; omega
      · have hb : ((i : Int) != (t : Int)) = true := by simp; omega
        rw [if_neg htk] at hdx
        have HW := Lib.hid hdx
        clear htk hdx
        have hm0 : MBx w5 b0 T (.slice (some ⟨bs, off, none⟩) n cp) := (HQ.out.bel.block b0 (by have := HBK.out; omega)).trans H0.out
        obtain ⟨m0, m1, m2, m3, m4⟩ := hm0.cells
        have ml := hm0.lt
        clear hm0 m0 m1 m2 m3
        obtain ⟨y0, y1, y2, y3, y4⟩ := HQ.out.m.cells
        have yl := HQ.out.m.lt
        clear y0 y1 y2 y3
        have hbw := HBL.out.trans (HQ.out.bel.mono (show w.heap.size ≤ bo by have := HBK.out; omega))
        have e0 := (hbw.cell (p := ⟨bs, off + i * 8 + 0, none⟩) HBS.out).trans (HCY.out 0 _ rfl)
        have e1 := (hbw.cell (p := ⟨bs, off + i * 8 + 1, none⟩) HBS.out).trans (HCY.out 1 _ rfl)
        have e2 := (hbw.cell (p := ⟨bs, off + i * 8 + 2, none⟩) HBS.out).trans (HCY.out 2 _ rfl)
        have e3 := (hbw.cell (p := ⟨bs, off + i * 8 + 3, none⟩) HBS.out).trans (HCY.out 3 _ rfl)
        have e4 := (hbw.cell (p := ⟨bs, off + i * 8 + 4, none⟩) HBS.out).trans (HCY.out 4 _ rfl)
        have e5 := (hbw.cell (p := ⟨bs, off + i * 8 + 5, none⟩) HBS.out).trans (HCY.out 5 _ rfl)
        have e6 := (hbw.cell (p := ⟨bs, off + i * 8 + 6, none⟩) HBS.out).trans (HCY.out 6 _ rfl)
        have e7 := (hbw.cell (p := ⟨bs, off + i * 8 + 7, none⟩) HBS.out).trans (HCY.out 7 _ rfl)
        simp only [Nat.add_zero] at e0
        have qs : bs < w5.heap.size := by have := HBS.out; have := HBK.out; omega
        clear hbw
        go_upto_region 22 with (fail)
        have n3 : ¬ OBx vo bo := HQ.out.no (Nat.le_refl _)
        have n0 : ¬ OBx vo b0 := HQ.out.no (by have := HBK.out; omega)
        have ns : ¬ OBx vo bs := HQ.out.no (by have := HBK.out; have := HBS.out; omega)
        refine Mix.regionL (OBx vo) (by kernel_rfl) ?_
        intro w5 hb5
        refine Mix.take_exL _ _ 0 rfl (by kernel_rfl) (by kernel_rfl) (by kernel_rfl) (by kernel_rfl) (by kernel_rfl) (by kernel_rfl) (fun K hK => ?_)
        go_simp
        first | (refine hK _ ?_; clear hK K) | (apply Exists.intro; refine ⟨fun x => ?_, hK _ ?_⟩; (fail); clear hK K)
        refine Mix.take_exL _ _ 1 rfl (by kernel_rfl) (by kernel_rfl) (by kernel_rfl) (by kernel_rfl) (by kernel_rfl) (by kernel_rfl) (fun K hK => ?_)
        go_simp
        first | (refine hK _ ?_; clear hK K) | (apply Exists.intro; refine ⟨fun x => ?_, hK _ ?_⟩; (fail); clear hK K)
        refine Mix.take_exL _ _ 2 rfl (by kernel_rfl) (by kernel_rfl) (by kernel_rfl) (by kernel_rfl) (by kernel_rfl) (by kernel_rfl) (fun K hK => ?_)
        go_simp
        first | (refine hK _ ?_; clear hK K) | (apply Exists.intro; refine ⟨fun x => ?_, hK _ ?_⟩; (fail); clear hK K)
        refine Mix.take_exL _ _ 3 rfl (by kernel_rfl) (by kernel_rfl) (by kernel_rfl) (by kernel_rfl) (by kernel_rfl) (by kernel_rfl) (fun K hK => ?_)
        go_simp
        first | (refine hK _ ?_; clear hK K) | (apply Exists.intro; refine ⟨fun x => ?_, hK _ ?_⟩; (fail); clear hK K)
        refine Mix.take_exL _ _ 4 rfl (by kernel_rfl) (by kernel_rfl) (by kernel_rfl) (by kernel_rfl) (by kernel_rfl) (by kernel_rfl) (fun K hK => ?_)
        go_simp
        first | (refine hK _ ?_; clear hK K) | (apply Exists.intro; refine ⟨fun x => ?_, hK _ ?_⟩; (fail); clear hK K)
        refine Mix.take_exL _ _ 5 rfl (by kernel_rfl) (by kernel_rfl) (by kernel_rfl) (by kernel_rfl) (by kernel_rfl) (by kernel_rfl) (fun K hK => ?_)
        go_simp
        first | (refine hK _ ?_; clear hK K) | (apply Exists.intro; refine ⟨fun x => ?_, hK _ ?_⟩; (fail); clear hK K)
        refine Mix.take_exL _ _ 6 rfl (by kernel_rfl) (by kernel_rfl) (by kernel_rfl) (by kernel_rfl) (by kernel_rfl) (by kernel_rfl) (fun K hK => ?_)
        go_simp
        first | (refine hK _ ?_; clear hK K) | (apply Exists.intro; refine ⟨fun x => ?_, hK _ ?_⟩; (fail); clear hK K)
        refine Mix.allL (rs := [7]) (by kernel_rfl) (by simp) (.of_below _ hb5) (by kernel_rfl) ?_
        intro i6 hi6 w6 hb6 hC6
        simp only [List.mem_cons, List.not_mem_nil, or_false] at hi6
        subst hi6
        have HB6 := Lib.hid (bt hb5 hb6)
        clear hC6 hb5 hb6
        refine Mix.op rfl (by kernel_rfl) ?_
        go_simp
        refine Mix.allL (rs := [8]) (by kernel_rfl) (by simp) (.of_below _ (ba HB6.out _)) (by kernel_rfl) ?_
        intro i7 hi7 w7 hb7 hC7
        simp only [List.mem_cons, List.not_mem_nil, or_false] at hi7
        subst hi7
        have HB7 := Lib.hid (bt (ba HB6.out (.cells (fdcells y) 49)) hb7)
        have hFX := (DBx.made w6 y).below hb7
        clear hC7 hb7
        obtain ⟨a', m', c', w8, hrun, hch, hnx⟩ := HQ.out.app (x := y) (by have := HCL.out; omega) HB7.out hFX
        have HCH := Lib.hid hch; have HNX := Lib.hid hnx; have HRA := Lib.hid hrun
        clear hch hnx hrun hFX
        refine Mix.opApp rfl (by kernel_rfl) _ _ _ rfl rfl rfl HRA.out ?_
        go_simp
        refine Mix.take_exL _ _ 9 rfl (by kernel_rfl) (by kernel_rfl) (by kernel_rfl) (by kernel_rfl) (by kernel_rfl) (by kernel_rfl) (fun K hK => ?_)
        go_simp
        first | (refine hK _ ?_; clear hK K) | (apply Exists.intro; refine ⟨fun x => ?_, hK _ ?_⟩; (fail); clear hK K)
        refine Mix.allL (rs := [10]) (by kernel_rfl) (by simp) ((Chg.of_below _ HB7.out).same HCH.out) (by kernel_rfl) ?_
        intro i9 hi9 w9 hb9 hC9
        simp only [List.mem_cons, List.not_mem_nil, or_false] at hi9
        subst hi9
        have hp9 := HNX.out w9 (HCH.out.then_below hb9) hb9
        have y9 : w9.cell? ⟨bo, 4, none⟩ = some vo := ((HCH.out.then_below hb9).cell (b := bo) (by have := HB7.out.size; omega) n3 4).trans ((HB7.out.cell (p := ⟨bo, 4, none⟩) yl).trans y4)
        have y8 : w9.frozen? ⟨bo, 4, none⟩ = false := ((HCH.out.then_below hb9).frozen (b := bo) (by have := HB7.out.size; omega) n3 4).trans ((World.frozen?_of_block (a := ⟨bo, 4, none⟩) (HB7.out.block bo yl)).trans (HQ.out.m.fz 4))
        have q9 : bo < w9.heap.size := by have := HB7.out.size; have := HCH.out.size; have := hb9.size; omega
        have HP9 := Lib.hid hp9
        clear m4 ml y4 yl e0 e1 e2 e3 e4 e5 e6 e7 qs
        clear hC9 hp9 hb9 n3 n0 ns
        refine Mix.op rfl (by kernel_rfl) ?_
        go_simp
        refine Mix.doneL (by kernel_rfl) (by kernel_rfl) ?_
        intro w10 hb10
        have HP10 := Lib.hid (HP9.out.on hb10)
        clear hb10 y9 y8 q9
        go_wp2
        go_roundw
        case rel => exact ⟨i + 1, _, by omega, by go_num, Lib.hid (by rw [HW.out]; exact HP10.out)⟩
        case measure => simp [intOf]; omega
    · obtain rfl : n = i := by omega
      have hq := HQ.out
      rw [List.take_of_length_le (by rw [HN.out]; exact Nat.le_refl _), HER.out] at hq
      have HQ := Lib.hid hq
      clear hq
      have HB9 := Lib.hid (show Below w1.heap.size w1 w5 from HB4.out.trans (HQ.out.bel.mono HBK.out.2.2.1))
      have HO9 := Lib.hid HQ.out.own
      have HWC := Lib.hid (show w1.heap.size ≤ bo + 1 from by have := HBK.out; omega)
      have hm0 := H0.out
      obtain ⟨y0, y1, y2, y3, y4⟩ := HQ.out.m.cells
      have yl := HQ.out.m.lt
      have hm : MBx w5 b0 T (.slice (some ⟨bs, off, none⟩) n cp) := (HQ.out.bel.block b0 (by have := HBK.out; omega)).trans H0.out
      obtain ⟨m0, m1, m2, m3, m4⟩ := hm.cells
      have ml := hm.lt
      clear hm hm0 hlt
      go_upto_region 23 with (fail)
      clear m0 m1 m2 m3 m4 ml
      obtain ⟨ao, mo, co, hvo⟩ : ∃ ao mo co, vo = .slice ao mo co := by
        rcases HO9.out.2 with ⟨hv, h0⟩ | ⟨g', cap', cur', hv, _⟩
        · exact ⟨_, _, _, hv⟩
        · exact ⟨_, _, _, hv⟩
      subst hvo
      have HR := Lib.hid ((H2.out.below HB9.out).set5 (T) (.slice ao mo co))
      have HST := Lib.hid (show Chg (fun k => k = b2) w5 (set5x w5 b2 (T) (.slice ao mo co)) from
        ((((((Chg.refl (fun k => k = b2) w5).setCell (p := ⟨b2, 0, none⟩) (.inl rfl) _).setCell (p := ⟨b2, 1, none⟩) (.inl rfl) _).setCell (p := ⟨b2, 2, none⟩) (.inl rfl) _).setCell (p := ⟨b2, 3, none⟩) (.inl rfl) _).setCell (p := ⟨b2, 4, none⟩) (.inl rfl) _))
      have HBE := Lib.hid (show Below w.heap.size w (set5x w5 b2 (T) (.slice ao mo co)) from (bt HB.out HB9.out).trans (HST.out.below (by have := (bt HB.out HB9.out).size; omega) fun k e => by have e : k = b2 := e; have := HBB.out; omega))
      obtain ⟨m0, m1, m2, m3, m4⟩ := (HM.out.below HB9.out).cells
      have ml := (HM.out.below HB9.out).lt
      obtain ⟨a0, a1, a2, a3, a4, a5, a6, a7⟩ := (HA.out.below HB9.out).cells
      have al := (HA.out.below HB9.out).lt
      obtain ⟨s0, s1, s2, s3, s4⟩ := (H2.out.below HB9.out).cells
      have f0 := (H2.out.below HB9.out).fz 0; have f1 := (H2.out.below HB9.out).fz 1; have f2 := (H2.out.below HB9.out).fz 2; have f3 := (H2.out.below HB9.out).fz 3; have f4 := (H2.out.below HB9.out).fz 4
      have sl := (H2.out.below HB9.out).lt
      go_wp2
      refine bodyPost_ret (res_mxe Tryz.results7 rfl rfl HR.out) rfl ?_
      have hol := HO9.out.lt
      have hbb := HBB.out
      refine ⟨.slice ao mo co, rfl, (HO9.out.chg HST.out fun b hb e => ?_).rs (fun _ => rfl), fun b hb => .inr ?_, HBE.out⟩
      · have e : b = b2 := e
        have := (hol b hb).1
        have := H2.out.lt
        have := HWC.out
        omega
      · have q := hol b hb
        have := HWC.out
        have := HB.out.size
        exact ⟨by omega, Nat.lt_of_lt_of_le q.2 HST.out.size⟩
end
end
end Go.Proofs.YtgfjmafdfbghnaaGreat

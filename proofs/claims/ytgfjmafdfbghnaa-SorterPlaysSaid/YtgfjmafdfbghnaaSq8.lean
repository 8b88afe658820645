/- The walk of SorterPlays. -/
import Derived.Test.YtgfjmafdfbghnaaSq7
namespace Go.Proofs.Ytgfjmafdfbghnaa
open Go.RowKit Go.Maps
attribute [local go_sem] ext_cell ext_frozen extC_cell extC_frozen Mix.calmUpon Mix.mUpon
-- the document's Do, called at the world wi: wo behind it
-- the answer is stored into nb at the world wz; w12: behind the region
-- behind the region: w12
set_option maxRecDepth 100000 in
theorem eqF9 (k r k' r' : Int) (w : World) : (Op.equalIn 10000 44 (.agg #[.int .i64 k, .int .i64 r]) (.agg #[.int .i64 k', .int .i64 r'])).run Try.prog w = .ok (k == k' && r == r') w := by
  have u4 := Try.underlying2
  have a4' := Try.isAgg2
  have z4 := Try.sizeOf2
  rw [show (10000 : Nat) = 9999 + 1 from rfl, Op.equalIn]
  simp only [Sem.run_bind, run_underlying Try.underlying44, Result.andThen_ok]
  go_simp
  by_cases e1 : k = k' <;> by_cases e2 : r = r' <;> simp [e1, e2]
attribute [local go_sem] eq4 eqF9
theorem pworks9 : Pure Try.prog 17 #[] (.bool true) := fun W => works9 W
set_option maxRecDepth 100000 in
set_option maxHeartbeats 8000000 in
theorem plays9 (v : Value) (l : List A9) (W : World) (hr : RS 7 a9enc W v l) (ha : ∀ x ∈ l, I64 x.i) (i : Int) (hi : I64 i) : Calls Try.prog 3 #[v, .int .i64 i] W fun e w' => e = .returned (.bool true) ∧ Below W.heap.size W w' := by
  obtain ⟨a, m, c, rfl, hn, hc, hm, hat⟩ := hr.at_
  have HN := Lib.hid hn; have HAT := Lib.hid hat; have HA := Lib.hid ha; have HI := Lib.hid hi
  clear hr hn hat ha hm hc hi
  by_cases hbig : m ≤ 60
  · go_enter Try.func3, Try.ntmps3
    go_wp2_with fail
    refine (snew W).mono ?_
    rintro e w1 ⟨sp, M, tp, rfl, h, hb, h1, h2, h3⟩
    have hb2 := ba (Below.refl w1.heap.size w1) (.cells (mcells9 (fun _ => 0) (.slice none 0 0)) 28)
    have HI0 := Lib.hid (show PS9 W (w1.alloc (.cells (mcells9 (fun _ => 0) (.slice none 0 0)) 28)) sp M tp w1.heap.size (fun _ => 0) (fun _ => none) [] (.slice none 0 0) [] ∧ ([] : List Dc).length ≤ 0 from
      ⟨⟨h.below hb2, s9_nil, bt hb hb2, h1, h2, h3, hb.size, fun e => by
        have q1 := h.o.lt; have q2 := h.m.lt; have q3 := h.t.lt
        rcases e with e | e | e <;> omega, MB9.made w1 (fun _ => 0) _, RS.nil _ _ _, DC.nil, fun b e => by cases e⟩, Nat.le_refl _⟩)
    clear h hb h1 h2 h3 hb2
    go_upto_region 5 with (fail)
    change Code.wp _ _ _ _ (w1.alloc (.cells (mcells9 (fun _ => 0) (.slice none 0 0)) 28))
    generalize w1.alloc (.cells (mcells9 (fun _ => 0) (.slice none 0 0)) 28) = w2 at *
    generalize w1.heap.size = mb at *
    go_wp2
    go_loopw [7, 8, 9, 10, 11, 12] (fun iv _ _ _ _ _ wr => ∃ (t tp : Nat) (T : Nat → Int) (G : Int → Option Cl) (X : List Pl) (v : Value) (C : List Dc), t ≤ m ∧ iv = .int .i64 t ∧ Hid (PS9 W wr sp M tp mb T G X v C ∧ C.length ≤ t)) (fun iv _ _ _ _ _ _ => m - (intOf iv).toNat)
    case atStart => exact ⟨0, _, _, _, _, _, _, Nat.zero_le _, rfl, HI0⟩
    case round =>
      clear HI0
      obtain ⟨t, tp, T, G, X, v, C, ht, rfl, HQ⟩ := hrel
      obtain ⟨w3, rfl⟩ : ∃ w2, w2 = wr := ⟨_, rfl⟩
      have HP3 := Lib.hid HQ.out.1
      have hlc : C.length ≤ t := HQ.out.2
      obtain ⟨va, vn, vc, hv, hvn, -, -, -⟩ := HP3.out.rs.at_
      subst hv
      have HVN := Lib.hid hvn
      clear HQ hvn
      by_cases hlt : t < m
      · have hts : (t : Int) < (m : Int) := by omega
        obtain ⟨x, hx⟩ := at_lt (l := l) (i := t) (by rw [← HN.out]; exact hlt)
        have hxi := HA.out x (mem_at hx)
        obtain ⟨b, off, rfl, hb, hcell⟩ := HAT.out t x hx
        have HXB := Lib.hid hb; have HXC := Lib.hid hcell; have HXI := Lib.hid hxi
        clear hx hb hcell hxi
        have hlc8 : C.length < 800000 := by omega
        have hdo := fun w' (hb : Below w3.heap.size w3 w') => rdo9 (T := T) (HP3.out.rs.below hb) (fun b e => Nat.lt_of_lt_of_le (HP3.out.vb b e).2.2 hb.size) hlc8 HP3.out.dc HP3.out.sml x
        have hsd := fun w' (h' : PS9 W w' sp M tp mb T G X (.slice va vn vc) C) => sdo h'.sm h'.s9 x HXI.out (Nat.lt_of_le_of_lt h'.few (by omega))
        obtain ⟨⟨q, T5, G5⟩, hs⟩ : ∃ s, s = stp T G x := ⟨_, rfl⟩
        rw [← hs] at hdo hsd
        have HDO := Lib.hid hdo; have HSD := Lib.hid hsd
        clear hdo hsd hs
        have e0 := (HP3.out.bel.cell (p := ⟨b, off + t * 7 + 0, none⟩) HXB.out).trans (HXC.out 0 _ rfl)
        have e1 := (HP3.out.bel.cell (p := ⟨b, off + t * 7 + 1, none⟩) HXB.out).trans (HXC.out 1 _ rfl)
        have e2 := (HP3.out.bel.cell (p := ⟨b, off + t * 7 + 2, none⟩) HXB.out).trans (HXC.out 2 _ rfl)
        have e3 := (HP3.out.bel.cell (p := ⟨b, off + t * 7 + 3, none⟩) HXB.out).trans (HXC.out 3 _ rfl)
        have e4 := (HP3.out.bel.cell (p := ⟨b, off + t * 7 + 4, none⟩) HXB.out).trans (HXC.out 4 _ rfl)
        have e5 := (HP3.out.bel.cell (p := ⟨b, off + t * 7 + 5, none⟩) HXB.out).trans (HXC.out 5 _ rfl)
        have e6 := (HP3.out.bel.cell (p := ⟨b, off + t * 7 + 6, none⟩) HXB.out).trans (HXC.out 6 _ rfl)
        simp only [Nat.add_zero] at e0
        have el : b < w3.heap.size := Nat.lt_of_lt_of_le HXB.out HP3.out.bel.size
        obtain ⟨m0, m1, m2, m3, m4⟩ := HP3.out.m.cells
        have ml := HP3.out.m.lt
        go_wp2_with fail
        refine Mix.regionC (fun _ => False) (by kernel_rfl) ?_
        intro w30 hb30
        refine Mix.take_exC _ _ 0 rfl (by kernel_rfl) (by kernel_rfl) (by kernel_rfl) (by kernel_rfl) (fun K hK => ?_)
        go_simp
        first | (refine hK _ ?_; clear hK K) | (apply Exists.intro; refine ⟨fun x => ?_, hK _ ?_⟩; (fail); clear hK K)
        refine Mix.take_exC _ _ 1 rfl (by kernel_rfl) (by kernel_rfl) (by kernel_rfl) (by kernel_rfl) (fun K hK => ?_)
        go_simp
        first | (refine hK _ ?_; clear hK K) | (apply Exists.intro; refine ⟨fun x => ?_, hK _ ?_⟩; (fail); clear hK K)
        refine Mix.take_exC _ _ 2 rfl (by kernel_rfl) (by kernel_rfl) (by kernel_rfl) (by kernel_rfl) (fun K hK => ?_)
        go_simp
        first | (refine hK _ ?_; clear hK K) | (apply Exists.intro; refine ⟨fun x => ?_, hK _ ?_⟩; (fail); clear hK K)
        refine Mix.take_exC _ _ 3 rfl (by kernel_rfl) (by kernel_rfl) (by kernel_rfl) (by kernel_rfl) (fun K hK => ?_)
        go_simp
        first | (refine hK _ ?_; clear hK K) | (apply Exists.intro; refine ⟨fun x => ?_, hK _ ?_⟩; (fail); clear hK K)
        refine Mix.take_exC _ _ 4 rfl (by kernel_rfl) (by kernel_rfl) (by kernel_rfl) (by kernel_rfl) (fun K hK => ?_)
        go_simp
        first | (refine hK _ ?_; clear hK K) | (apply Exists.intro; refine ⟨fun x => ?_, hK _ ?_⟩; (fail); clear hK K)
        refine Mix.all (rs := [5, 9]) (by kernel_rfl) (by simp) (.of_below _ hb30) ?_
        intro i6 hi6 w6 hb6 hC6
        have HB := Lib.hid (bt hb30 hb6)
        simp only [List.mem_cons, List.not_mem_nil, or_false] at hi6
        clear hb30 hb6 hC6
        clear e0 e1 e2 e3 e4 e5 e6 el
        clear m0 m1 m2 m3 m4 ml
        rcases hi6 with rfl | rfl
        · skip
          have HGE := Lib.hid HB.out.size
          have HWI := Lib.hid HB.out.size
          refine Mix.op rfl (by kernel_rfl) ?_
          go_simp
          refine (HDO.out w6 HB.out).mono ?_
          rintro e w7 ⟨v', C5, rfl, hrs, hdc, hlen, hvb, hbd⟩
          refine ⟨_, rfl, ?_⟩
          obtain ⟨va5, vn5, vc5, hv5, hvn5, -, -, -⟩ := hrs.at_
          subst hv5
          have HRS := Lib.hid hrs; have HDC5 := Lib.hid hdc; have HVN5 := Lib.hid hvn5; have HVB := Lib.hid hvb
          have HLE5 := Lib.hid (show C5.length ≤ t + 1 by omega)
          have HBD := Lib.hid hbd
          have HVL := Lib.hid (show ∀ b, (Value.slice va5 vn5 vc5).ownBlock = some b → b < w7.heap.size from fun b e => by
            rcases hvb b e with h | h
            · have q := (HP3.out.vb b h).2.2; have q2 := HB.out.size; have q3 := hbd.size; omega
            · exact h.2)
          have HVS := Lib.hid (show w7.heap.size ≤ w7.heap.size from Nat.le_refl _)
          have HB := Lib.hid (bt HB.out hbd)
          clear hrs hdc hlen hvb hbd hvn5 HDO
          refine Mix.take_exC _ _ 6 rfl (by kernel_rfl) (by kernel_rfl) (by kernel_rfl) (by kernel_rfl) (fun K hK => ?_)
          go_simp
          first | (refine hK _ ?_; clear hK K) | (apply Exists.intro; refine ⟨fun x => ?_, hK _ ?_⟩; (fail); clear hK K)
          refine Mix.take_exC _ _ 7 rfl (by kernel_rfl) (by kernel_rfl) (by kernel_rfl) (by kernel_rfl) (fun K hK => ?_)
          go_simp
          first | (refine hK _ ?_; clear hK K) | (apply Exists.intro; refine ⟨fun x => ?_, hK _ ?_⟩; (fail); clear hK K)
          refine Mix.take_exC _ _ 8 rfl (by kernel_rfl) (by kernel_rfl) (by kernel_rfl) (by kernel_rfl) (fun K hK => ?_)
          go_simp
          first | (refine hK _ ?_; clear hK K) | (apply Exists.intro; refine ⟨fun x => ?_, hK _ ?_⟩; (fail); clear hK K)
          refine Mix.all (rs := [9]) (by kernel_rfl) (by simp) (.of_below _ HB.out) ?_
          intro i8 hi8 w8 hb8 hC8
          simp only [List.mem_cons, List.not_mem_nil, or_false] at hi8
          subst hi8
          have HB := Lib.hid (bt HB.out hb8)
          have HRS := Lib.hid (HRS.out.below hb8)
          have HH := Lib.hid (show w7.heap.size ≤ w8.heap.size from hb8.size)
          have HVS := Lib.hid (Nat.le_trans HVS.out hb8.size)
          clear hC8 hb8
          have hb89 := ba (Below.refl w8.heap.size w8) (.cells (mcells9 (fun _ => 0) (.slice none 0 0)) 28)
          have HM9 := Lib.hid (MB9.made w8 (fun _ => 0) (.slice none 0 0))
          refine Mix.op rfl (by kernel_rfl) ?_
          go_simp
          have HB := Lib.hid (bt HB.out hb89)
          have HRS := Lib.hid (HRS.out.below hb89)
          have HVS := Lib.hid (Nat.le_trans HVS.out hb89.size)
          generalize w8.alloc (.cells (mcells9 (fun _ => 0) (.slice none 0 0)) 28) = w9 at *
          obtain ⟨nb, hnb⟩ : ∃ b, b = w8.heap.size := ⟨_, rfl⟩
          rw [← hnb] at HM9 ⊢
          have HNB := Lib.hid (show ∀ b, (Value.slice va5 vn5 vc5).ownBlock = some b → b ≠ nb from fun b e => by
            have q1 := HH.out; have q2 := HBD.out.size; have q3 := HGE.out
            rcases HVB.out b e with h | h
            · have := (HP3.out.vb b h).2.2; omega
            · omega)
          have HNB2 := Lib.hid (show w3.heap.size ≤ nb from by have := HH.out; have := HBD.out.size; have := HGE.out; omega)
          clear hb89 hnb
          refine Mix.all (rs := [10]) (by kernel_rfl) (by simp) (.of_below _ HB.out) ?_
          intro i10 hi10 w10 hb10 hC10
          simp only [List.mem_cons, List.not_mem_nil, or_false] at hi10
          subst hi10
          have HB := Lib.hid (bt HB.out hb10)
          have HMZ := Lib.hid (HM9.out.below hb10)
          have HRS := Lib.hid (HRS.out.below hb10)
          have HVS := Lib.hid (Nat.le_trans HVS.out hb10.size)
          clear hb10 hC10
          have hs := HMZ.out
          obtain ⟨s0, s1, s2, s3, s4⟩ := hs.cells
          have f0 := hs.fz 0; have f1 := hs.fz 1; have f2 := hs.fz 2; have f3 := hs.fz 3; have f4 := hs.fz 4
          have sq := hs.lt
          have hst : Chg (fun k => k = nb) w10 (set5w w10 nb T5 (.slice va5 vn5 vc5)) := (((((Chg.refl (fun k => k = nb) w10).setCell (p := ⟨nb, 0, none⟩) (.inl rfl) _).setCell (p := ⟨nb, 1, none⟩) (.inl rfl) _).setCell (p := ⟨nb, 2, none⟩) (.inl rfl) _).setCell (p := ⟨nb, 3, none⟩) (.inl rfl) _).setCell (p := ⟨nb, 4, none⟩) (.inl rfl) _
          have HBx := Lib.hid (HB.out.trans (hst.below HB.out.size fun k e => by have e : k = nb := e; have := HNB2.out; omega))
          have HMx := Lib.hid (hs.set5 T5 (.slice va5 vn5 vc5))
          have HRx := Lib.hid (HRS.out.chg hst fun b e => HNB.out b e)
          have HVx := Lib.hid (show ∀ b, (Value.slice va5 vn5 vc5).ownBlock = some b → ¬ SF sp M tp b ∧ b ≠ mb ∧ b < w10.heap.size from fun b e => by
            have q1 := HP3.out.sm.o.lt; have q2 := HP3.out.sm.m.lt; have q3 := HP3.out.sm.t.lt; have q4 := HP3.out.m.lt; have q5 := HB.out.size; have q6 := HWI.out
            rcases HVB.out b e with h | h
            · have q := HP3.out.vb b h
              exact ⟨q.1, q.2.1, by omega⟩
            · have q7 := HVL.out b e; have q8 := HVS.out
              exact ⟨fun e => by rcases e with e | e | e <;> omega, by omega, by omega⟩)
          have HSZ := Lib.hid hst.size
          clear hs hst
          refine Mix.op rfl (by kernel_rfl) ?_
          go_simp
          clear s0 s1 s2 s3 s4 f0 f1 f2 f3 f4 sq
          refine Mix.take_exC _ _ 11 rfl (by kernel_rfl) (by kernel_rfl) (by kernel_rfl) (by kernel_rfl) (fun K hK => ?_)
          go_simp
          first | (refine hK _ ?_; clear hK K) | (apply Exists.intro; refine ⟨fun x => ?_, hK _ ?_⟩; (fail); clear hK K)
          refine Mix.done (by kernel_rfl) (.of_below _ HBx.out) ?_
          intro w12 hb12
          have HN5 := Lib.hid (HMx.out.below hb12)
          have HRS5 := Lib.hid (HRx.out.below hb12)
          have HP5 := Lib.hid (HP3.out.on (bt HBx.out hb12))
          have HVB5 := Lib.hid (show ∀ b, (Value.slice va5 vn5 vc5).ownBlock = some b → ¬ SF sp M tp b ∧ b ≠ mb ∧ b < w12.heap.size from fun b e => by
            have q := HVx.out b e; exact ⟨q.1, q.2.1, Nat.lt_of_lt_of_le (Nat.lt_of_lt_of_le q.2.2 HSZ.out) hb12.size⟩)
          have HNF := Lib.hid (show ¬ SF sp M tp nb ∧ nb ≠ mb from by
            have q1 := HP3.out.sm.o.lt; have q2 := HP3.out.sm.m.lt; have q3 := HP3.out.sm.t.lt; have q4 := HP3.out.m.lt; have q5 := HNB2.out
            exact ⟨fun e => by rcases e with e | e | e <;> omega, by omega⟩)
          clear hb12 HMx HRx HVx HBx HSZ HMZ HRS HNB HVB HB HBD
          have e0 := (HP5.out.bel.cell (p := ⟨b, off + t * 7 + 0, none⟩) HXB.out).trans (HXC.out 0 _ rfl)
          have e1 := (HP5.out.bel.cell (p := ⟨b, off + t * 7 + 1, none⟩) HXB.out).trans (HXC.out 1 _ rfl)
          have e2 := (HP5.out.bel.cell (p := ⟨b, off + t * 7 + 2, none⟩) HXB.out).trans (HXC.out 2 _ rfl)
          have e3 := (HP5.out.bel.cell (p := ⟨b, off + t * 7 + 3, none⟩) HXB.out).trans (HXC.out 3 _ rfl)
          have e4 := (HP5.out.bel.cell (p := ⟨b, off + t * 7 + 4, none⟩) HXB.out).trans (HXC.out 4 _ rfl)
          have e5 := (HP5.out.bel.cell (p := ⟨b, off + t * 7 + 5, none⟩) HXB.out).trans (HXC.out 5 _ rfl)
          have e6 := (HP5.out.bel.cell (p := ⟨b, off + t * 7 + 6, none⟩) HXB.out).trans (HXC.out 6 _ rfl)
          simp only [Nat.add_zero] at e0
          have el : b < w12.heap.size := Nat.lt_of_lt_of_le HXB.out HP5.out.bel.size
          have hs2 := HN5.out.cells
          obtain ⟨n0, n1', n2, n3, n4⟩ := hs2
          have nl := HN5.out.lt
          have hne : (q != q) = false := by simp
          go_wp2_with fail
          clear e0 e1 e2 e3 e4 e5 e6 el
          clear n0 n1' n2 n3 n4 nl
          refine (HSD.out _ HP5.out).mono ?_
          rintro e w13 hr
          have hc13 : Chg (SF sp M tp) w12 w13 := by obtain ⟨_, _, _, _, _, h, _⟩ := hr; exact h
          have hn13 := HN5.out.chg hc13 HNF.out.1
          have hm13 := HP5.out.m.chg hc13 HP5.out.nb
          obtain ⟨rfl, tq, X6, hp14⟩ := HP5.out.next hr HRS5.out HDC5.out HVB5.out
          have HP14 := Lib.hid hp14
          obtain ⟨n0, n1', n2, n3, n4⟩ := hn13.cells
          have nl := hn13.lt
          obtain ⟨m0, m1, m2, m3, m4⟩ := hm13.cells
          have mf0 := hm13.fz 0; have mf1 := hm13.fz 1; have mf2 := hm13.fz 2; have mf3 := hm13.fz 3; have mf4 := hm13.fz 4
          have ml := hm13.lt
          clear hr hc13 hn13 hm13 hp14
          unfold set5w at HP14
          go_upto_region 12 with (fail)
          clear n0 n1' n2 n3 n4 nl m0 m1 m2 m3 m4 mf0 mf1 mf2 mf3 mf4 ml hne
          generalize ((((w13.setCell ⟨mb, 0, none⟩ (.int .i64 (T5 0))).setCell ⟨mb, 1, none⟩ (.int .i64 (T5 1))).setCell ⟨mb, 2, none⟩ (.int .i64 (T5 2))).setCell ⟨mb, 3, none⟩ (.int .i64 (T5 3))).setCell ⟨mb, 4, none⟩ (.slice va5 vn5 vc5) = w14 at *
          have hl6 : C5.length < 900 := by have := HLE5.out; omega
          have ho := rorder9 (T := T5) HP14.out.rs hl6
          rw [ord_eq HP14.out.dc HP14.out.s9] at ho
          have HO := Lib.hid ho
          have HFW := Lib.hid (show X6.length < 1000000 from Nat.lt_of_le_of_lt HP14.out.few (by omega))
          have hlg := fun w' (h : PS9 W w' sp M tq mb T5 G5 X6 (.slice va5 vn5 vc5) C5) => slong h.sm h.dc.nd fun i => (show i ∈ C5.map (·.id) ↔ (G5 i).isSome = true from by rw [← h.dc.look]; simp)
          rw [List.length_map, ← HVN5.out] at hlg
          have HLG := Lib.hid hlg
          clear ho hlg hl6
          obtain ⟨m0, m1, m2, m3, m4⟩ := HP14.out.m.cells
          have ml := HP14.out.m.lt
          go_wp2_with fail
          clear m0 m1 m2 m3 m4 ml
          refine HO.out.mono ?_
          rintro e w15 ⟨ov, rfl, hov, hb15⟩
          have HP15 := Lib.hid (HP14.out.on hb15)
          have HOV := Lib.hid (show RS 1 n1 w15 ov (ids X6) from hov.rs (fun _ => rfl))
          obtain ⟨oa, on, oc, hv, hon, -, -, hoat⟩ := HOV.out.at_
          subst hv
          have HON := Lib.hid hon; have HOA := Lib.hid hoat
          clear hov hb15 hon hoat HO
          go_wp2_with fail
          refine (sfirst HP15.out.sm HFW.out).mono ?_
          rintro e w16 ⟨rfl, hb16⟩
          have HP16 := Lib.hid (HP15.out.on hb16)
          have HOV16 := Lib.hid (HOV.out.below hb16)
          have HB16 := Lib.hid hb16
          clear hb16
          obtain ⟨fi, hfi⟩ : ∃ fi, fi = fid X6 := ⟨_, rfl⟩
          obtain ⟨fo, hfo⟩ : ∃ fo, fo = fok X6 := ⟨_, rfl⟩
          rw [← hfi, ← hfo]
          cases X6 with
          | nil =>
            obtain rfl : on = 0 := HON.out
            obtain rfl : fi = 0 := hfi
            obtain rfl : fo = false := hfo
            obtain ⟨m0, m1, m2, m3, m4⟩ := HP16.out.m.cells
            have ml := HP16.out.m.lt
            go_upto_region 14 with (fail)
            refine Mix.regionC (fun _ => False) (by kernel_rfl) ?_
            intro w17 hb17
            refine Mix.take_exC _ _ 0 rfl (by kernel_rfl) (by kernel_rfl) (by kernel_rfl) (by kernel_rfl) (fun K hK => ?_)
            go_simp
            first | (refine hK _ ?_; clear hK K) | (apply Exists.intro; refine ⟨fun x => ?_, hK _ ?_⟩; (fail); clear hK K)
            refine Mix.take_exC _ _ 2 rfl (by kernel_rfl) (by kernel_rfl) (by kernel_rfl) (by kernel_rfl) (fun K hK => ?_)
            go_simp
            first | (refine hK _ ?_; clear hK K) | (apply Exists.intro; refine ⟨fun x => ?_, hK _ ?_⟩; (fail); clear hK K)
            refine Mix.all (rs := [1]) (by kernel_rfl) (by simp) (.of_below _ hb17) ?_
            intro i18 hi18 w18 hb18 hC18
            simp only [List.mem_cons, List.not_mem_nil, or_false] at hi18
            subst hi18
            have HB := Lib.hid (bt hb17 hb18)
            clear hC18 hb17 hb18
            refine Mix.op rfl (by kernel_rfl) ?_
            go_simp
            refine (sorder (HP16.out.on HB.out).sm HFW.out).mono ?_
            rintro e w19 ⟨v2, rfl, hv2, hb19⟩
            refine ⟨_, rfl, ?_⟩
            have hrs2 := hv2.rs (fun _ => rfl)
            obtain ⟨pa, pn, pc, hpv, -⟩ := hrs2.at_
            subst hpv
            have HV2 := Lib.hid hrs2
            have HB := Lib.hid (bt HB.out hb19)
            clear hv2 hb19 hrs2
            refine Mix.all (rs := [3]) (by kernel_rfl) (by simp) (.of_below _ HB.out) ?_
            intro i20 hi20 w20 hb20 hC20
            simp only [List.mem_cons, List.not_mem_nil, or_false] at hi20
            subst hi20
            have HB := Lib.hid (bt HB.out hb20)
            have HV2 := Lib.hid (HV2.out.below hb20)
            clear hC20 hb20
            refine Mix.op rfl (by kernel_rfl) ?_
            go_simp
            refine (same9 _ _ _ w20 HV2.out (HOV16.out.below HB.out)).mono ?_
            rintro e w21 ⟨rfl, hb21⟩
            refine ⟨_, rfl, ?_⟩
            have HB := Lib.hid (bt HB.out hb21)
            clear hb21
            refine Mix.take_exC _ _ 4 rfl (by kernel_rfl) (by kernel_rfl) (by kernel_rfl) (by kernel_rfl) (fun K hK => ?_)
            go_simp
            first | (refine hK _ ?_; clear hK K) | (apply Exists.intro; refine ⟨fun x => ?_, hK _ ?_⟩; (fail); clear hK K)
            refine Mix.take_exC _ _ 5 rfl (by kernel_rfl) (by kernel_rfl) (by kernel_rfl) (by kernel_rfl) (fun K hK => ?_)
            go_simp
            first | (refine hK _ ?_; clear hK K) | (apply Exists.intro; refine ⟨fun x => ?_, hK _ ?_⟩; (fail); clear hK K)
            refine Mix.take_exC _ _ 6 rfl (by kernel_rfl) (by kernel_rfl) (by kernel_rfl) (by kernel_rfl) (fun K hK => ?_)
            go_simp
            first | (refine hK _ ?_; clear hK K) | (apply Exists.intro; refine ⟨fun x => ?_, hK _ ?_⟩; (fail); clear hK K)
            refine Mix.take_exC _ _ 8 rfl (by kernel_rfl) (by kernel_rfl) (by kernel_rfl) (by kernel_rfl) (fun K hK => ?_)
            go_simp
            first | (refine hK _ ?_; clear hK K) | (apply Exists.intro; refine ⟨fun x => ?_, hK _ ?_⟩; (fail); clear hK K)
            refine Mix.take_exC _ _ 9 rfl (by kernel_rfl) (by kernel_rfl) (by kernel_rfl) (by kernel_rfl) (fun K hK => ?_)
            go_simp
            first | (refine hK _ ?_; clear hK K) | (apply Exists.intro; refine ⟨fun x => ?_, hK _ ?_⟩; (fail); clear hK K)
            refine Mix.take_exC _ _ 10 rfl (by kernel_rfl) (by kernel_rfl) (by kernel_rfl) (by kernel_rfl) (fun K hK => ?_)
            go_simp
            first | (refine hK _ ?_; clear hK K) | (apply Exists.intro; refine ⟨fun x => ?_, hK _ ?_⟩; (fail); clear hK K)
            refine Mix.all (rs := [7]) (by kernel_rfl) (by simp) (.of_below _ HB.out) ?_
            intro i22 hi22 w22 hb22 hC22
            simp only [List.mem_cons, List.not_mem_nil, or_false] at hi22
            subst hi22
            have HB := Lib.hid (bt HB.out hb22)
            clear hC22 hb22
            refine Mix.op rfl (by kernel_rfl) ?_
            go_simp
            refine (HLG.out _ (HP16.out.on HB.out)).mono ?_
            rintro e w23 ⟨rfl, hw23⟩
            refine ⟨_, rfl, ?_⟩
            rw [hw23]
            clear hw23 w23
            refine Mix.take_exC _ _ 11 rfl (by kernel_rfl) (by kernel_rfl) (by kernel_rfl) (by kernel_rfl) (fun K hK => ?_)
            go_simp
            first | (refine hK _ ?_; clear hK K) | (apply Exists.intro; refine ⟨fun x => ?_, hK _ ?_⟩; (fail); clear hK K)
            refine Mix.take_exC _ _ 12 rfl (by kernel_rfl) (by kernel_rfl) (by kernel_rfl) (by kernel_rfl) (fun K hK => ?_)
            go_simp
            first | (refine hK _ ?_; clear hK K) | (apply Exists.intro; refine ⟨fun x => ?_, hK _ ?_⟩; (fail); clear hK K)
            refine Mix.take_exC _ _ 13 rfl (by kernel_rfl) (by kernel_rfl) (by kernel_rfl) (by kernel_rfl) (fun K hK => ?_)
            go_simp
            first | (refine hK _ ?_; clear hK K) | (apply Exists.intro; refine ⟨fun x => ?_, hK _ ?_⟩; (fail); clear hK K)
            refine Mix.take_exC _ _ 14 rfl (by kernel_rfl) (by kernel_rfl) (by kernel_rfl) (by kernel_rfl) (fun K hK => ?_)
            go_simp
            first | (refine hK _ ?_; clear hK K) | (apply Exists.intro; refine ⟨fun x => ?_, hK _ ?_⟩; (fail); clear hK K)
            refine Mix.take_exC _ _ 15 rfl (by kernel_rfl) (by kernel_rfl) (by kernel_rfl) (by kernel_rfl) (fun K hK => ?_)
            go_simp
            first | (refine hK _ ?_; clear hK K) | (apply Exists.intro; refine ⟨fun x => ?_, hK _ ?_⟩; (fail); clear hK K)
            refine Mix.take_exC _ _ 16 rfl (by kernel_rfl) (by kernel_rfl) (by kernel_rfl) (by kernel_rfl) (fun K hK => ?_)
            go_simp
            first | (refine hK _ ?_; clear hK K) | (apply Exists.intro; refine ⟨fun x => ?_, hK _ ?_⟩; (fail); clear hK K)
            refine Mix.take_exC _ _ 17 rfl (by kernel_rfl) (by kernel_rfl) (by kernel_rfl) (by kernel_rfl) (fun K hK => ?_)
            go_simp
            first | (refine hK _ ?_; clear hK K) | (apply Exists.intro; refine ⟨fun x => ?_, hK _ ?_⟩; (fail); clear hK K)
            refine Mix.take_exC _ _ 18 rfl (by kernel_rfl) (by kernel_rfl) (by kernel_rfl) (by kernel_rfl) (fun K hK => ?_)
            go_simp
            first | (refine hK _ ?_; clear hK K) | (apply Exists.intro; refine ⟨fun x => ?_, hK _ ?_⟩; (fail); clear hK K)
            refine Mix.take_exC _ _ 19 rfl (by kernel_rfl) (by kernel_rfl) (by kernel_rfl) (by kernel_rfl) (fun K hK => ?_)
            go_simp
            first | (refine hK _ ?_; clear hK K) | (apply Exists.intro; refine ⟨fun x => ?_, hK _ ?_⟩; (fail); clear hK K)
            refine Mix.take_exC _ _ 20 rfl (by kernel_rfl) (by kernel_rfl) (by kernel_rfl) (by kernel_rfl) (fun K hK => ?_)
            go_simp
            first | (refine hK _ ?_; clear hK K) | (apply Exists.intro; refine ⟨fun x => ?_, hK _ ?_⟩; (fail); clear hK K)
            refine Mix.take_exC _ _ 21 rfl (by kernel_rfl) (by kernel_rfl) (by kernel_rfl) (by kernel_rfl) (fun K hK => ?_)
            go_simp
            first | (refine hK _ ?_; clear hK K) | (apply Exists.intro; refine ⟨fun x => ?_, hK _ ?_⟩; (fail); clear hK K)
            refine Mix.take_exC _ _ 22 rfl (by kernel_rfl) (by kernel_rfl) (by kernel_rfl) (by kernel_rfl) (fun K hK => ?_)
            go_simp
            first | (refine hK _ ?_; clear hK K) | (apply Exists.intro; refine ⟨fun x => ?_, hK _ ?_⟩; (fail); clear hK K)
            refine Mix.skip_C _ _ 23 rfl (by kernel_rfl) (by kernel_rfl) (by kernel_rfl) (by kernel_rfl) ?_
            go_simp
            refine Mix.skip_C _ _ 24 rfl (by kernel_rfl) (by kernel_rfl) (by kernel_rfl) (by kernel_rfl) ?_
            go_simp
            refine Mix.skip_C _ _ 25 rfl (by kernel_rfl) (by kernel_rfl) (by kernel_rfl) (by kernel_rfl) ?_
            go_simp
            refine Mix.skip_C _ _ 26 rfl (by kernel_rfl) (by kernel_rfl) (by kernel_rfl) (by kernel_rfl) ?_
            go_simp
            refine Mix.skip_C _ _ 27 rfl (by kernel_rfl) (by kernel_rfl) (by kernel_rfl) (by kernel_rfl) ?_
            go_simp
            refine Mix.take_exC _ _ 28 rfl (by kernel_rfl) (by kernel_rfl) (by kernel_rfl) (by kernel_rfl) (fun K hK => ?_)
            go_simp
            first | (refine hK _ ?_; clear hK K) | (apply Exists.intro; refine ⟨fun x => ?_, hK _ ?_⟩; (fail); clear hK K)
            refine Mix.take_exC _ _ 29 rfl (by kernel_rfl) (by kernel_rfl) (by kernel_rfl) (by kernel_rfl) (fun K hK => ?_)
            go_simp
            first | (refine hK _ ?_; clear hK K) | (apply Exists.intro; refine ⟨fun x => ?_, hK _ ?_⟩; (fail); clear hK K)
            refine Mix.take_exC _ _ 30 rfl (by kernel_rfl) (by kernel_rfl) (by kernel_rfl) (by kernel_rfl) (fun K hK => ?_)
            go_simp
            first | (refine hK _ ?_; clear hK K) | (apply Exists.intro; refine ⟨fun x => ?_, hK _ ?_⟩; (fail); clear hK K)
            refine Mix.take_exC _ _ 31 rfl (by kernel_rfl) (by kernel_rfl) (by kernel_rfl) (by kernel_rfl) (fun K hK => ?_)
            go_simp
            first | (refine hK _ ?_; clear hK K) | (apply Exists.intro; refine ⟨fun x => ?_, hK _ ?_⟩; (fail); clear hK K)
            refine Mix.take_exC _ _ 32 rfl (by kernel_rfl) (by kernel_rfl) (by kernel_rfl) (by kernel_rfl) (fun K hK => ?_)
            go_simp
            first | (refine hK _ ?_; clear hK K) | (apply Exists.intro; refine ⟨fun x => ?_, hK _ ?_⟩; (fail); clear hK K)
            refine Mix.take_exC _ _ 33 rfl (by kernel_rfl) (by kernel_rfl) (by kernel_rfl) (by kernel_rfl) (fun K hK => ?_)
            go_simp
            first | (refine hK _ ?_; clear hK K) | (apply Exists.intro; refine ⟨fun x => ?_, hK _ ?_⟩; (fail); clear hK K)
            refine Mix.take_exC _ _ 34 rfl (by kernel_rfl) (by kernel_rfl) (by kernel_rfl) (by kernel_rfl) (fun K hK => ?_)
            go_simp
            first | (refine hK _ ?_; clear hK K) | (apply Exists.intro; refine ⟨fun x => ?_, hK _ ?_⟩; (fail); clear hK K)
            refine Mix.take_exC _ _ 35 rfl (by kernel_rfl) (by kernel_rfl) (by kernel_rfl) (by kernel_rfl) (fun K hK => ?_)
            go_simp
            first | (refine hK _ ?_; clear hK K) | (apply Exists.intro; refine ⟨fun x => ?_, hK _ ?_⟩; (fail); clear hK K)
            refine Mix.take_exC _ _ 36 rfl (by kernel_rfl) (by kernel_rfl) (by kernel_rfl) (by kernel_rfl) (fun K hK => ?_)
            go_simp
            first | (refine hK _ ?_; clear hK K) | (apply Exists.intro; refine ⟨fun x => ?_, hK _ ?_⟩; (fail); clear hK K)
            refine Mix.take_exC _ _ 37 rfl (by kernel_rfl) (by kernel_rfl) (by kernel_rfl) (by kernel_rfl) (fun K hK => ?_)
            go_simp
            first | (refine hK _ ?_; clear hK K) | (apply Exists.intro; refine ⟨fun x => ?_, hK _ ?_⟩; (fail); clear hK K)
            refine Mix.done (by kernel_rfl) (.of_below _ HB.out) ?_
            intro w24 hb24
            have HP24 := Lib.hid (HP16.out.on (bt HB.out hb24))
            clear hb24
            clear m0 m1 m2 m3 m4 ml
            go_wp2
            go_roundw
            case rel => exact ⟨t + 1, _, _, _, _, _, _, by omega, by go_num, Lib.hid ⟨HP24.out, HLE5.out⟩⟩
            case measure => simp [intOf]; omega
          | cons p X7 =>
            obtain rfl : on = X7.length + 1 := by have := HON.out; simpa [ids] using this
            obtain rfl : fi = p.i := hfi
            obtain rfl : fo = true := hfo
            have hpos : (0 : Int) < ((X7.length + 1 : Nat) : Int) := by omega
            obtain ⟨ob, ooff, rfl, hob, hoc⟩ := HOA.out 0 p.i rfl
            have o0 := (HB16.out.cell (p := ⟨ob, ooff + 0 * 1 + 0, none⟩) hob).trans (hoc 0 _ rfl)
            simp only [Nat.zero_mul, Nat.add_zero] at o0
            have ol : ob < w16.heap.size := Nat.lt_of_lt_of_le hob HB16.out.size
            have hpp : (p.i != p.i) = false := by simp
            clear hob hoc
            obtain ⟨m0, m1, m2, m3, m4⟩ := HP16.out.m.cells
            have ml := HP16.out.m.lt
            go_upto_region 14 with (fail)
            refine Mix.regionC (fun _ => False) (by kernel_rfl) ?_
            intro w17 hb17
            refine Mix.take_exC _ _ 0 rfl (by kernel_rfl) (by kernel_rfl) (by kernel_rfl) (by kernel_rfl) (fun K hK => ?_)
            go_simp
            first | (refine hK _ ?_; clear hK K) | (apply Exists.intro; refine ⟨fun x => ?_, hK _ ?_⟩; (fail); clear hK K)
            refine Mix.take_exC _ _ 2 rfl (by kernel_rfl) (by kernel_rfl) (by kernel_rfl) (by kernel_rfl) (fun K hK => ?_)
            go_simp
            first | (refine hK _ ?_; clear hK K) | (apply Exists.intro; refine ⟨fun x => ?_, hK _ ?_⟩; (fail); clear hK K)
            refine Mix.all (rs := [1]) (by kernel_rfl) (by simp) (.of_below _ hb17) ?_
            intro i18 hi18 w18 hb18 hC18
            simp only [List.mem_cons, List.not_mem_nil, or_false] at hi18
            subst hi18
            have HB := Lib.hid (bt hb17 hb18)
            clear hC18 hb17 hb18
            refine Mix.op rfl (by kernel_rfl) ?_
            go_simp
            refine (sorder (HP16.out.on HB.out).sm HFW.out).mono ?_
            rintro e w19 ⟨v2, rfl, hv2, hb19⟩
            refine ⟨_, rfl, ?_⟩
            have hrs2 := hv2.rs (fun _ => rfl)
            obtain ⟨pa, pn, pc, hpv, -⟩ := hrs2.at_
            subst hpv
            have HV2 := Lib.hid hrs2
            have HB := Lib.hid (bt HB.out hb19)
            clear hv2 hb19 hrs2
            refine Mix.all (rs := [3]) (by kernel_rfl) (by simp) (.of_below _ HB.out) ?_
            intro i20 hi20 w20 hb20 hC20
            simp only [List.mem_cons, List.not_mem_nil, or_false] at hi20
            subst hi20
            have HB := Lib.hid (bt HB.out hb20)
            have HV2 := Lib.hid (HV2.out.below hb20)
            clear hC20 hb20
            refine Mix.op rfl (by kernel_rfl) ?_
            go_simp
            refine (same9 _ _ _ w20 HV2.out (HOV16.out.below HB.out)).mono ?_
            rintro e w21 ⟨rfl, hb21⟩
            refine ⟨_, rfl, ?_⟩
            have HB := Lib.hid (bt HB.out hb21)
            clear hb21
            refine Mix.take_exC _ _ 4 rfl (by kernel_rfl) (by kernel_rfl) (by kernel_rfl) (by kernel_rfl) (fun K hK => ?_)
            go_simp
            first | (refine hK _ ?_; clear hK K) | (apply Exists.intro; refine ⟨fun x => ?_, hK _ ?_⟩; (fail); clear hK K)
            refine Mix.take_exC _ _ 5 rfl (by kernel_rfl) (by kernel_rfl) (by kernel_rfl) (by kernel_rfl) (fun K hK => ?_)
            go_simp
            first | (refine hK _ ?_; clear hK K) | (apply Exists.intro; refine ⟨fun x => ?_, hK _ ?_⟩; (fail); clear hK K)
            refine Mix.take_exC _ _ 6 rfl (by kernel_rfl) (by kernel_rfl) (by kernel_rfl) (by kernel_rfl) (fun K hK => ?_)
            go_simp
            first | (refine hK _ ?_; clear hK K) | (apply Exists.intro; refine ⟨fun x => ?_, hK _ ?_⟩; (fail); clear hK K)
            refine Mix.take_exC _ _ 8 rfl (by kernel_rfl) (by kernel_rfl) (by kernel_rfl) (by kernel_rfl) (fun K hK => ?_)
            go_simp
            first | (refine hK _ ?_; clear hK K) | (apply Exists.intro; refine ⟨fun x => ?_, hK _ ?_⟩; (fail); clear hK K)
            refine Mix.take_exC _ _ 9 rfl (by kernel_rfl) (by kernel_rfl) (by kernel_rfl) (by kernel_rfl) (fun K hK => ?_)
            go_simp
            first | (refine hK _ ?_; clear hK K) | (apply Exists.intro; refine ⟨fun x => ?_, hK _ ?_⟩; (fail); clear hK K)
            refine Mix.take_exC _ _ 10 rfl (by kernel_rfl) (by kernel_rfl) (by kernel_rfl) (by kernel_rfl) (fun K hK => ?_)
            go_simp
            first | (refine hK _ ?_; clear hK K) | (apply Exists.intro; refine ⟨fun x => ?_, hK _ ?_⟩; (fail); clear hK K)
            refine Mix.all (rs := [7]) (by kernel_rfl) (by simp) (.of_below _ HB.out) ?_
            intro i22 hi22 w22 hb22 hC22
            simp only [List.mem_cons, List.not_mem_nil, or_false] at hi22
            subst hi22
            have HB := Lib.hid (bt HB.out hb22)
            clear hC22 hb22
            refine Mix.op rfl (by kernel_rfl) ?_
            go_simp
            refine (HLG.out _ (HP16.out.on HB.out)).mono ?_
            rintro e w23 ⟨rfl, hw23⟩
            refine ⟨_, rfl, ?_⟩
            rw [hw23]
            clear hw23 w23
            refine Mix.take_exC _ _ 11 rfl (by kernel_rfl) (by kernel_rfl) (by kernel_rfl) (by kernel_rfl) (fun K hK => ?_)
            go_simp
            first | (refine hK _ ?_; clear hK K) | (apply Exists.intro; refine ⟨fun x => ?_, hK _ ?_⟩; (fail); clear hK K)
            refine Mix.take_exC _ _ 12 rfl (by kernel_rfl) (by kernel_rfl) (by kernel_rfl) (by kernel_rfl) (fun K hK => ?_)
            go_simp
            first | (refine hK _ ?_; clear hK K) | (apply Exists.intro; refine ⟨fun x => ?_, hK _ ?_⟩; (fail); clear hK K)
            refine Mix.take_exC _ _ 13 rfl (by kernel_rfl) (by kernel_rfl) (by kernel_rfl) (by kernel_rfl) (fun K hK => ?_)
            go_simp
            first | (refine hK _ ?_; clear hK K) | (apply Exists.intro; refine ⟨fun x => ?_, hK _ ?_⟩; (fail); clear hK K)
            refine Mix.take_exC _ _ 14 rfl (by kernel_rfl) (by kernel_rfl) (by kernel_rfl) (by kernel_rfl) (fun K hK => ?_)
            go_simp
            first | (refine hK _ ?_; clear hK K) | (apply Exists.intro; refine ⟨fun x => ?_, hK _ ?_⟩; (fail); clear hK K)
            refine Mix.take_exC _ _ 15 rfl (by kernel_rfl) (by kernel_rfl) (by kernel_rfl) (by kernel_rfl) (fun K hK => ?_)
            go_simp
            first | (refine hK _ ?_; clear hK K) | (apply Exists.intro; refine ⟨fun x => ?_, hK _ ?_⟩; (fail); clear hK K)
            refine Mix.take_exC _ _ 16 rfl (by kernel_rfl) (by kernel_rfl) (by kernel_rfl) (by kernel_rfl) (fun K hK => ?_)
            go_simp
            first | (refine hK _ ?_; clear hK K) | (apply Exists.intro; refine ⟨fun x => ?_, hK _ ?_⟩; (fail); clear hK K)
            refine Mix.take_exC _ _ 17 rfl (by kernel_rfl) (by kernel_rfl) (by kernel_rfl) (by kernel_rfl) (fun K hK => ?_)
            go_simp
            first | (refine hK _ ?_; clear hK K) | (apply Exists.intro; refine ⟨fun x => ?_, hK _ ?_⟩; (fail); clear hK K)
            refine Mix.take_exC _ _ 18 rfl (by kernel_rfl) (by kernel_rfl) (by kernel_rfl) (by kernel_rfl) (fun K hK => ?_)
            go_simp
            first | (refine hK _ ?_; clear hK K) | (apply Exists.intro; refine ⟨fun x => ?_, hK _ ?_⟩; (fail); clear hK K)
            refine Mix.take_exC _ _ 19 rfl (by kernel_rfl) (by kernel_rfl) (by kernel_rfl) (by kernel_rfl) (fun K hK => ?_)
            go_simp
            first | (refine hK _ ?_; clear hK K) | (apply Exists.intro; refine ⟨fun x => ?_, hK _ ?_⟩; (fail); clear hK K)
            refine Mix.take_exC _ _ 20 rfl (by kernel_rfl) (by kernel_rfl) (by kernel_rfl) (by kernel_rfl) (fun K hK => ?_)
            go_simp
            first | (refine hK _ ?_; clear hK K) | (apply Exists.intro; refine ⟨fun x => ?_, hK _ ?_⟩; (fail); clear hK K)
            refine Mix.take_exC _ _ 21 rfl (by kernel_rfl) (by kernel_rfl) (by kernel_rfl) (by kernel_rfl) (fun K hK => ?_)
            go_simp
            first | (refine hK _ ?_; clear hK K) | (apply Exists.intro; refine ⟨fun x => ?_, hK _ ?_⟩; (fail); clear hK K)
            refine Mix.take_exC _ _ 22 rfl (by kernel_rfl) (by kernel_rfl) (by kernel_rfl) (by kernel_rfl) (fun K hK => ?_)
            go_simp
            first | (refine hK _ ?_; clear hK K) | (apply Exists.intro; refine ⟨fun x => ?_, hK _ ?_⟩; (fail); clear hK K)
            refine Mix.take_exC _ _ 23 rfl (by kernel_rfl) (by kernel_rfl) (by kernel_rfl) (by kernel_rfl) (fun K hK => ?_)
            go_simp
            first | (refine hK _ ?_; clear hK K) | (apply Exists.intro; refine ⟨fun x => ?_, hK _ ?_⟩; (fail); clear hK K)
            refine Mix.take_exC _ _ 24 rfl (by kernel_rfl) (by kernel_rfl) (by kernel_rfl) (by kernel_rfl) (fun K hK => ?_)
            go_simp
            first | (refine hK _ ?_; clear hK K) | (apply Exists.intro; refine ⟨fun x => ?_, hK _ ?_⟩; (fail); clear hK K)
            refine Mix.take_exC _ _ 25 rfl (by kernel_rfl) (by kernel_rfl) (by kernel_rfl) (by kernel_rfl) (fun K hK => ?_)
            go_simp
            first | (refine hK _ ?_; clear hK K) | (apply Exists.intro; refine ⟨fun x => ?_, hK _ ?_⟩; (fail); clear hK K)
            refine Mix.take_exC _ _ 26 rfl (by kernel_rfl) (by kernel_rfl) (by kernel_rfl) (by kernel_rfl) (fun K hK => ?_)
            go_simp
            first | (refine hK _ ?_; clear hK K) | (apply Exists.intro; refine ⟨fun x => ?_, hK _ ?_⟩; (fail); clear hK K)
            refine Mix.take_exC _ _ 27 rfl (by kernel_rfl) (by kernel_rfl) (by kernel_rfl) (by kernel_rfl) (fun K hK => ?_)
            go_simp
            first | (refine hK _ ?_; clear hK K) | (apply Exists.intro; refine ⟨fun x => ?_, hK _ ?_⟩; (fail); clear hK K)
            refine Mix.take_exC _ _ 28 rfl (by kernel_rfl) (by kernel_rfl) (by kernel_rfl) (by kernel_rfl) (fun K hK => ?_)
            go_simp
            first | (refine hK _ ?_; clear hK K) | (apply Exists.intro; refine ⟨fun x => ?_, hK _ ?_⟩; (fail); clear hK K)
            refine Mix.take_exC _ _ 29 rfl (by kernel_rfl) (by kernel_rfl) (by kernel_rfl) (by kernel_rfl) (fun K hK => ?_)
            go_simp
            first | (refine hK _ ?_; clear hK K) | (apply Exists.intro; refine ⟨fun x => ?_, hK _ ?_⟩; (fail); clear hK K)
            refine Mix.take_exC _ _ 30 rfl (by kernel_rfl) (by kernel_rfl) (by kernel_rfl) (by kernel_rfl) (fun K hK => ?_)
            go_simp
            first | (refine hK _ ?_; clear hK K) | (apply Exists.intro; refine ⟨fun x => ?_, hK _ ?_⟩; (fail); clear hK K)
            refine Mix.take_exC _ _ 31 rfl (by kernel_rfl) (by kernel_rfl) (by kernel_rfl) (by kernel_rfl) (fun K hK => ?_)
            go_simp
            first | (refine hK _ ?_; clear hK K) | (apply Exists.intro; refine ⟨fun x => ?_, hK _ ?_⟩; (fail); clear hK K)
            refine Mix.take_exC _ _ 32 rfl (by kernel_rfl) (by kernel_rfl) (by kernel_rfl) (by kernel_rfl) (fun K hK => ?_)
            go_simp
            first | (refine hK _ ?_; clear hK K) | (apply Exists.intro; refine ⟨fun x => ?_, hK _ ?_⟩; (fail); clear hK K)
            refine Mix.take_exC _ _ 33 rfl (by kernel_rfl) (by kernel_rfl) (by kernel_rfl) (by kernel_rfl) (fun K hK => ?_)
            go_simp
            first | (refine hK _ ?_; clear hK K) | (apply Exists.intro; refine ⟨fun x => ?_, hK _ ?_⟩; (fail); clear hK K)
            refine Mix.skip_C _ _ 34 rfl (by kernel_rfl) (by kernel_rfl) (by kernel_rfl) (by kernel_rfl) ?_
            go_simp
            refine Mix.skip_C _ _ 35 rfl (by kernel_rfl) (by kernel_rfl) (by kernel_rfl) (by kernel_rfl) ?_
            go_simp
            refine Mix.take_exC _ _ 36 rfl (by kernel_rfl) (by kernel_rfl) (by kernel_rfl) (by kernel_rfl) (fun K hK => ?_)
            go_simp
            first | (refine hK _ ?_; clear hK K) | (apply Exists.intro; refine ⟨fun x => ?_, hK _ ?_⟩; (fail); clear hK K)
            refine Mix.take_exC _ _ 37 rfl (by kernel_rfl) (by kernel_rfl) (by kernel_rfl) (by kernel_rfl) (fun K hK => ?_)
            go_simp
            first | (refine hK _ ?_; clear hK K) | (apply Exists.intro; refine ⟨fun x => ?_, hK _ ?_⟩; (fail); clear hK K)
            clear o0 ol hpp hpos
            refine Mix.done (by kernel_rfl) (.of_below _ HB.out) ?_
            intro w24 hb24
            have HP24 := Lib.hid (HP16.out.on (bt HB.out hb24))
            clear hb24
            clear m0 m1 m2 m3 m4 ml
            go_wp2
            go_roundw
            case rel => exact ⟨t + 1, _, _, _, _, _, _, by omega, by go_num, Lib.hid ⟨HP24.out, HLE5.out⟩⟩
            case measure => simp [intOf]; omega
        · have HGE := Lib.hid HB.out.size
          have hb67 := ba (Below.refl w6.heap.size w6) (.cells (mcells9 (fun _ => 0) (.slice none 0 0)) 28)
          have HM7 := Lib.hid (MB9.made w6 (fun _ => 0) (.slice none 0 0))
          refine Mix.op rfl (by kernel_rfl) ?_
          go_simp
          have HB := Lib.hid (bt HB.out hb67)
          generalize w6.alloc (.cells (mcells9 (fun _ => 0) (.slice none 0 0)) 28) = w7 at *
          obtain ⟨nb, hnb⟩ : ∃ b, b = w6.heap.size := ⟨_, rfl⟩
          rw [← hnb] at HM7 HGE ⊢
          have HNB2 := Lib.hid (show w3.heap.size ≤ nb from HGE.out)
          clear hb67 hnb
          refine Mix.all (rs := [5]) (by kernel_rfl) (by simp) (.of_below _ HB.out) ?_
          intro i8 hi8 w8 hb8 hC8
          simp only [List.mem_cons, List.not_mem_nil, or_false] at hi8
          subst hi8
          have HB := Lib.hid (bt HB.out hb8)
          have HM8 := Lib.hid (HM7.out.below hb8)
          clear hC8 hb8
          have HWI := Lib.hid HB.out.size
          refine Mix.op rfl (by kernel_rfl) ?_
          go_simp
          refine (HDO.out w8 HB.out).mono ?_
          rintro e w9 ⟨v', C5, rfl, hrs, hdc, hlen, hvb, hbd⟩
          refine ⟨_, rfl, ?_⟩
          obtain ⟨va5, vn5, vc5, hv5, hvn5, -, -, -⟩ := hrs.at_
          subst hv5
          have HRS := Lib.hid hrs; have HDC5 := Lib.hid hdc; have HVN5 := Lib.hid hvn5; have HVB := Lib.hid hvb
          have HLE5 := Lib.hid (show C5.length ≤ t + 1 by omega)
          have HBD := Lib.hid hbd
          have HVL := Lib.hid (show ∀ b, (Value.slice va5 vn5 vc5).ownBlock = some b → b < w9.heap.size from fun b e => by
            rcases hvb b e with h | h
            · have q := (HP3.out.vb b h).2.2; have q2 := HB.out.size; have q3 := hbd.size; omega
            · exact h.2)
          have HVS := Lib.hid (show w9.heap.size ≤ w9.heap.size from Nat.le_refl _)
          have HB := Lib.hid (bt HB.out hbd)
          clear hrs hdc hlen hvb hbd hvn5 HDO
          have HNB := Lib.hid (show ∀ b, (Value.slice va5 vn5 vc5).ownBlock = some b → b ≠ nb from fun b e => by
            have q1 := HNB2.out; have q2 := HM8.out.lt
            rcases HVB.out b e with h | h
            · have := (HP3.out.vb b h).2.2; omega
            · omega)
          have HM9 := Lib.hid (HM8.out.below HBD.out)
          refine Mix.take_exC _ _ 6 rfl (by kernel_rfl) (by kernel_rfl) (by kernel_rfl) (by kernel_rfl) (fun K hK => ?_)
          go_simp
          first | (refine hK _ ?_; clear hK K) | (apply Exists.intro; refine ⟨fun x => ?_, hK _ ?_⟩; (fail); clear hK K)
          refine Mix.take_exC _ _ 7 rfl (by kernel_rfl) (by kernel_rfl) (by kernel_rfl) (by kernel_rfl) (fun K hK => ?_)
          go_simp
          first | (refine hK _ ?_; clear hK K) | (apply Exists.intro; refine ⟨fun x => ?_, hK _ ?_⟩; (fail); clear hK K)
          refine Mix.take_exC _ _ 8 rfl (by kernel_rfl) (by kernel_rfl) (by kernel_rfl) (by kernel_rfl) (fun K hK => ?_)
          go_simp
          first | (refine hK _ ?_; clear hK K) | (apply Exists.intro; refine ⟨fun x => ?_, hK _ ?_⟩; (fail); clear hK K)
          refine Mix.all (rs := [10]) (by kernel_rfl) (by simp) (.of_below _ HB.out) ?_
          intro i10 hi10 w10 hb10 hC10
          simp only [List.mem_cons, List.not_mem_nil, or_false] at hi10
          subst hi10
          have HB := Lib.hid (bt HB.out hb10)
          have HMZ := Lib.hid (HM9.out.below hb10)
          have HRS := Lib.hid (HRS.out.below hb10)
          have HVS := Lib.hid (Nat.le_trans HVS.out hb10.size)
          clear hb10 hC10
          have hs := HMZ.out
          obtain ⟨s0, s1, s2, s3, s4⟩ := hs.cells
          have f0 := hs.fz 0; have f1 := hs.fz 1; have f2 := hs.fz 2; have f3 := hs.fz 3; have f4 := hs.fz 4
          have sq := hs.lt
          have hst : Chg (fun k => k = nb) w10 (set5w w10 nb T5 (.slice va5 vn5 vc5)) := (((((Chg.refl (fun k => k = nb) w10).setCell (p := ⟨nb, 0, none⟩) (.inl rfl) _).setCell (p := ⟨nb, 1, none⟩) (.inl rfl) _).setCell (p := ⟨nb, 2, none⟩) (.inl rfl) _).setCell (p := ⟨nb, 3, none⟩) (.inl rfl) _).setCell (p := ⟨nb, 4, none⟩) (.inl rfl) _
          have HBx := Lib.hid (HB.out.trans (hst.below HB.out.size fun k e => by have e : k = nb := e; have := HNB2.out; omega))
          have HMx := Lib.hid (hs.set5 T5 (.slice va5 vn5 vc5))
          have HRx := Lib.hid (HRS.out.chg hst fun b e => HNB.out b e)
          have HVx := Lib.hid (show ∀ b, (Value.slice va5 vn5 vc5).ownBlock = some b → ¬ SF sp M tp b ∧ b ≠ mb ∧ b < w10.heap.size from fun b e => by
            have q1 := HP3.out.sm.o.lt; have q2 := HP3.out.sm.m.lt; have q3 := HP3.out.sm.t.lt; have q4 := HP3.out.m.lt; have q5 := HB.out.size; have q6 := HWI.out
            rcases HVB.out b e with h | h
            · have q := HP3.out.vb b h
              exact ⟨q.1, q.2.1, by omega⟩
            · have q7 := HVL.out b e; have q8 := HVS.out
              exact ⟨fun e => by rcases e with e | e | e <;> omega, by omega, by omega⟩)
          have HSZ := Lib.hid hst.size
          clear hs hst
          refine Mix.op rfl (by kernel_rfl) ?_
          go_simp
          clear s0 s1 s2 s3 s4 f0 f1 f2 f3 f4 sq
          refine Mix.take_exC _ _ 11 rfl (by kernel_rfl) (by kernel_rfl) (by kernel_rfl) (by kernel_rfl) (fun K hK => ?_)
          go_simp
          first | (refine hK _ ?_; clear hK K) | (apply Exists.intro; refine ⟨fun x => ?_, hK _ ?_⟩; (fail); clear hK K)
          refine Mix.done (by kernel_rfl) (.of_below _ HBx.out) ?_
          intro w12 hb12
          have HN5 := Lib.hid (HMx.out.below hb12)
          have HRS5 := Lib.hid (HRx.out.below hb12)
          have HP5 := Lib.hid (HP3.out.on (bt HBx.out hb12))
          have HVB5 := Lib.hid (show ∀ b, (Value.slice va5 vn5 vc5).ownBlock = some b → ¬ SF sp M tp b ∧ b ≠ mb ∧ b < w12.heap.size from fun b e => by
            have q := HVx.out b e; exact ⟨q.1, q.2.1, Nat.lt_of_lt_of_le (Nat.lt_of_lt_of_le q.2.2 HSZ.out) hb12.size⟩)
          have HNF := Lib.hid (show ¬ SF sp M tp nb ∧ nb ≠ mb from by
            have q1 := HP3.out.sm.o.lt; have q2 := HP3.out.sm.m.lt; have q3 := HP3.out.sm.t.lt; have q4 := HP3.out.m.lt; have q5 := HNB2.out
            exact ⟨fun e => by rcases e with e | e | e <;> omega, by omega⟩)
          clear hb12 HMx HRx HVx HBx HSZ HMZ HRS HNB HVB HB HBD
          have e0 := (HP5.out.bel.cell (p := ⟨b, off + t * 7 + 0, none⟩) HXB.out).trans (HXC.out 0 _ rfl)
          have e1 := (HP5.out.bel.cell (p := ⟨b, off + t * 7 + 1, none⟩) HXB.out).trans (HXC.out 1 _ rfl)
          have e2 := (HP5.out.bel.cell (p := ⟨b, off + t * 7 + 2, none⟩) HXB.out).trans (HXC.out 2 _ rfl)
          have e3 := (HP5.out.bel.cell (p := ⟨b, off + t * 7 + 3, none⟩) HXB.out).trans (HXC.out 3 _ rfl)
          have e4 := (HP5.out.bel.cell (p := ⟨b, off + t * 7 + 4, none⟩) HXB.out).trans (HXC.out 4 _ rfl)
          have e5 := (HP5.out.bel.cell (p := ⟨b, off + t * 7 + 5, none⟩) HXB.out).trans (HXC.out 5 _ rfl)
          have e6 := (HP5.out.bel.cell (p := ⟨b, off + t * 7 + 6, none⟩) HXB.out).trans (HXC.out 6 _ rfl)
          simp only [Nat.add_zero] at e0
          have el : b < w12.heap.size := Nat.lt_of_lt_of_le HXB.out HP5.out.bel.size
          have hs2 := HN5.out.cells
          obtain ⟨n0, n1', n2, n3, n4⟩ := hs2
          have nl := HN5.out.lt
          have hne : (q != q) = false := by simp
          go_wp2_with fail
          clear e0 e1 e2 e3 e4 e5 e6 el
          clear n0 n1' n2 n3 n4 nl
          refine (HSD.out _ HP5.out).mono ?_
          rintro e w13 hr
          have hc13 : Chg (SF sp M tp) w12 w13 := by obtain ⟨_, _, _, _, _, h, _⟩ := hr; exact h
          have hn13 := HN5.out.chg hc13 HNF.out.1
          have hm13 := HP5.out.m.chg hc13 HP5.out.nb
          obtain ⟨rfl, tq, X6, hp14⟩ := HP5.out.next hr HRS5.out HDC5.out HVB5.out
          have HP14 := Lib.hid hp14
          obtain ⟨n0, n1', n2, n3, n4⟩ := hn13.cells
          have nl := hn13.lt
          obtain ⟨m0, m1, m2, m3, m4⟩ := hm13.cells
          have mf0 := hm13.fz 0; have mf1 := hm13.fz 1; have mf2 := hm13.fz 2; have mf3 := hm13.fz 3; have mf4 := hm13.fz 4
          have ml := hm13.lt
          clear hr hc13 hn13 hm13 hp14
          unfold set5w at HP14
          go_upto_region 12 with (fail)
          clear n0 n1' n2 n3 n4 nl m0 m1 m2 m3 m4 mf0 mf1 mf2 mf3 mf4 ml hne
          generalize ((((w13.setCell ⟨mb, 0, none⟩ (.int .i64 (T5 0))).setCell ⟨mb, 1, none⟩ (.int .i64 (T5 1))).setCell ⟨mb, 2, none⟩ (.int .i64 (T5 2))).setCell ⟨mb, 3, none⟩ (.int .i64 (T5 3))).setCell ⟨mb, 4, none⟩ (.slice va5 vn5 vc5) = w14 at *
          have hl6 : C5.length < 900 := by have := HLE5.out; omega
          have ho := rorder9 (T := T5) HP14.out.rs hl6
          rw [ord_eq HP14.out.dc HP14.out.s9] at ho
          have HO := Lib.hid ho
          have HFW := Lib.hid (show X6.length < 1000000 from Nat.lt_of_le_of_lt HP14.out.few (by omega))
          have hlg := fun w' (h : PS9 W w' sp M tq mb T5 G5 X6 (.slice va5 vn5 vc5) C5) => slong h.sm h.dc.nd fun i => (show i ∈ C5.map (·.id) ↔ (G5 i).isSome = true from by rw [← h.dc.look]; simp)
          rw [List.length_map, ← HVN5.out] at hlg
          have HLG := Lib.hid hlg
          clear ho hlg hl6
          obtain ⟨m0, m1, m2, m3, m4⟩ := HP14.out.m.cells
          have ml := HP14.out.m.lt
          go_wp2_with fail
          clear m0 m1 m2 m3 m4 ml
          refine HO.out.mono ?_
          rintro e w15 ⟨ov, rfl, hov, hb15⟩
          have HP15 := Lib.hid (HP14.out.on hb15)
          have HOV := Lib.hid (show RS 1 n1 w15 ov (ids X6) from hov.rs (fun _ => rfl))
          obtain ⟨oa, on, oc, hv, hon, -, -, hoat⟩ := HOV.out.at_
          subst hv
          have HON := Lib.hid hon; have HOA := Lib.hid hoat
          clear hov hb15 hon hoat HO
          go_wp2_with fail
          refine (sfirst HP15.out.sm HFW.out).mono ?_
          rintro e w16 ⟨rfl, hb16⟩
          have HP16 := Lib.hid (HP15.out.on hb16)
          have HOV16 := Lib.hid (HOV.out.below hb16)
          have HB16 := Lib.hid hb16
          clear hb16
          obtain ⟨fi, hfi⟩ : ∃ fi, fi = fid X6 := ⟨_, rfl⟩
          obtain ⟨fo, hfo⟩ : ∃ fo, fo = fok X6 := ⟨_, rfl⟩
          rw [← hfi, ← hfo]
          cases X6 with
          | nil =>
            obtain rfl : on = 0 := HON.out
            obtain rfl : fi = 0 := hfi
            obtain rfl : fo = false := hfo
            obtain ⟨m0, m1, m2, m3, m4⟩ := HP16.out.m.cells
            have ml := HP16.out.m.lt
            go_upto_region 14 with (fail)
            refine Mix.regionC (fun _ => False) (by kernel_rfl) ?_
            intro w17 hb17
            refine Mix.take_exC _ _ 0 rfl (by kernel_rfl) (by kernel_rfl) (by kernel_rfl) (by kernel_rfl) (fun K hK => ?_)
            go_simp
            first | (refine hK _ ?_; clear hK K) | (apply Exists.intro; refine ⟨fun x => ?_, hK _ ?_⟩; (fail); clear hK K)
            refine Mix.take_exC _ _ 2 rfl (by kernel_rfl) (by kernel_rfl) (by kernel_rfl) (by kernel_rfl) (fun K hK => ?_)
            go_simp
            first | (refine hK _ ?_; clear hK K) | (apply Exists.intro; refine ⟨fun x => ?_, hK _ ?_⟩; (fail); clear hK K)
            refine Mix.all (rs := [1]) (by kernel_rfl) (by simp) (.of_below _ hb17) ?_
            intro i18 hi18 w18 hb18 hC18
            simp only [List.mem_cons, List.not_mem_nil, or_false] at hi18
            subst hi18
            have HB := Lib.hid (bt hb17 hb18)
            clear hC18 hb17 hb18
            refine Mix.op rfl (by kernel_rfl) ?_
            go_simp
            refine (sorder (HP16.out.on HB.out).sm HFW.out).mono ?_
            rintro e w19 ⟨v2, rfl, hv2, hb19⟩
            refine ⟨_, rfl, ?_⟩
            have hrs2 := hv2.rs (fun _ => rfl)
            obtain ⟨pa, pn, pc, hpv, -⟩ := hrs2.at_
            subst hpv
            have HV2 := Lib.hid hrs2
            have HB := Lib.hid (bt HB.out hb19)
            clear hv2 hb19 hrs2
            refine Mix.all (rs := [3]) (by kernel_rfl) (by simp) (.of_below _ HB.out) ?_
            intro i20 hi20 w20 hb20 hC20
            simp only [List.mem_cons, List.not_mem_nil, or_false] at hi20
            subst hi20
            have HB := Lib.hid (bt HB.out hb20)
            have HV2 := Lib.hid (HV2.out.below hb20)
            clear hC20 hb20
            refine Mix.op rfl (by kernel_rfl) ?_
            go_simp
            refine (same9 _ _ _ w20 HV2.out (HOV16.out.below HB.out)).mono ?_
            rintro e w21 ⟨rfl, hb21⟩
            refine ⟨_, rfl, ?_⟩
            have HB := Lib.hid (bt HB.out hb21)
            clear hb21
            refine Mix.take_exC _ _ 4 rfl (by kernel_rfl) (by kernel_rfl) (by kernel_rfl) (by kernel_rfl) (fun K hK => ?_)
            go_simp
            first | (refine hK _ ?_; clear hK K) | (apply Exists.intro; refine ⟨fun x => ?_, hK _ ?_⟩; (fail); clear hK K)
            refine Mix.take_exC _ _ 5 rfl (by kernel_rfl) (by kernel_rfl) (by kernel_rfl) (by kernel_rfl) (fun K hK => ?_)
            go_simp
            first | (refine hK _ ?_; clear hK K) | (apply Exists.intro; refine ⟨fun x => ?_, hK _ ?_⟩; (fail); clear hK K)
            refine Mix.take_exC _ _ 6 rfl (by kernel_rfl) (by kernel_rfl) (by kernel_rfl) (by kernel_rfl) (fun K hK => ?_)
            go_simp
            first | (refine hK _ ?_; clear hK K) | (apply Exists.intro; refine ⟨fun x => ?_, hK _ ?_⟩; (fail); clear hK K)
            refine Mix.take_exC _ _ 8 rfl (by kernel_rfl) (by kernel_rfl) (by kernel_rfl) (by kernel_rfl) (fun K hK => ?_)
            go_simp
            first | (refine hK _ ?_; clear hK K) | (apply Exists.intro; refine ⟨fun x => ?_, hK _ ?_⟩; (fail); clear hK K)
            refine Mix.take_exC _ _ 9 rfl (by kernel_rfl) (by kernel_rfl) (by kernel_rfl) (by kernel_rfl) (fun K hK => ?_)
            go_simp
            first | (refine hK _ ?_; clear hK K) | (apply Exists.intro; refine ⟨fun x => ?_, hK _ ?_⟩; (fail); clear hK K)
            refine Mix.take_exC _ _ 10 rfl (by kernel_rfl) (by kernel_rfl) (by kernel_rfl) (by kernel_rfl) (fun K hK => ?_)
            go_simp
            first | (refine hK _ ?_; clear hK K) | (apply Exists.intro; refine ⟨fun x => ?_, hK _ ?_⟩; (fail); clear hK K)
            refine Mix.all (rs := [7]) (by kernel_rfl) (by simp) (.of_below _ HB.out) ?_
            intro i22 hi22 w22 hb22 hC22
            simp only [List.mem_cons, List.not_mem_nil, or_false] at hi22
            subst hi22
            have HB := Lib.hid (bt HB.out hb22)
            clear hC22 hb22
            refine Mix.op rfl (by kernel_rfl) ?_
            go_simp
            refine (HLG.out _ (HP16.out.on HB.out)).mono ?_
            rintro e w23 ⟨rfl, hw23⟩
            refine ⟨_, rfl, ?_⟩
            rw [hw23]
            clear hw23 w23
            refine Mix.take_exC _ _ 11 rfl (by kernel_rfl) (by kernel_rfl) (by kernel_rfl) (by kernel_rfl) (fun K hK => ?_)
            go_simp
            first | (refine hK _ ?_; clear hK K) | (apply Exists.intro; refine ⟨fun x => ?_, hK _ ?_⟩; (fail); clear hK K)
            refine Mix.take_exC _ _ 12 rfl (by kernel_rfl) (by kernel_rfl) (by kernel_rfl) (by kernel_rfl) (fun K hK => ?_)
            go_simp
            first | (refine hK _ ?_; clear hK K) | (apply Exists.intro; refine ⟨fun x => ?_, hK _ ?_⟩; (fail); clear hK K)
            refine Mix.take_exC _ _ 13 rfl (by kernel_rfl) (by kernel_rfl) (by kernel_rfl) (by kernel_rfl) (fun K hK => ?_)
            go_simp
            first | (refine hK _ ?_; clear hK K) | (apply Exists.intro; refine ⟨fun x => ?_, hK _ ?_⟩; (fail); clear hK K)
            refine Mix.take_exC _ _ 14 rfl (by kernel_rfl) (by kernel_rfl) (by kernel_rfl) (by kernel_rfl) (fun K hK => ?_)
            go_simp
            first | (refine hK _ ?_; clear hK K) | (apply Exists.intro; refine ⟨fun x => ?_, hK _ ?_⟩; (fail); clear hK K)
            refine Mix.take_exC _ _ 15 rfl (by kernel_rfl) (by kernel_rfl) (by kernel_rfl) (by kernel_rfl) (fun K hK => ?_)
            go_simp
            first | (refine hK _ ?_; clear hK K) | (apply Exists.intro; refine ⟨fun x => ?_, hK _ ?_⟩; (fail); clear hK K)
            refine Mix.take_exC _ _ 16 rfl (by kernel_rfl) (by kernel_rfl) (by kernel_rfl) (by kernel_rfl) (fun K hK => ?_)
            go_simp
            first | (refine hK _ ?_; clear hK K) | (apply Exists.intro; refine ⟨fun x => ?_, hK _ ?_⟩; (fail); clear hK K)
            refine Mix.take_exC _ _ 17 rfl (by kernel_rfl) (by kernel_rfl) (by kernel_rfl) (by kernel_rfl) (fun K hK => ?_)
            go_simp
            first | (refine hK _ ?_; clear hK K) | (apply Exists.intro; refine ⟨fun x => ?_, hK _ ?_⟩; (fail); clear hK K)
            refine Mix.take_exC _ _ 18 rfl (by kernel_rfl) (by kernel_rfl) (by kernel_rfl) (by kernel_rfl) (fun K hK => ?_)
            go_simp
            first | (refine hK _ ?_; clear hK K) | (apply Exists.intro; refine ⟨fun x => ?_, hK _ ?_⟩; (fail); clear hK K)
            refine Mix.take_exC _ _ 19 rfl (by kernel_rfl) (by kernel_rfl) (by kernel_rfl) (by kernel_rfl) (fun K hK => ?_)
            go_simp
            first | (refine hK _ ?_; clear hK K) | (apply Exists.intro; refine ⟨fun x => ?_, hK _ ?_⟩; (fail); clear hK K)
            refine Mix.take_exC _ _ 20 rfl (by kernel_rfl) (by kernel_rfl) (by kernel_rfl) (by kernel_rfl) (fun K hK => ?_)
            go_simp
            first | (refine hK _ ?_; clear hK K) | (apply Exists.intro; refine ⟨fun x => ?_, hK _ ?_⟩; (fail); clear hK K)
            refine Mix.take_exC _ _ 21 rfl (by kernel_rfl) (by kernel_rfl) (by kernel_rfl) (by kernel_rfl) (fun K hK => ?_)
            go_simp
            first | (refine hK _ ?_; clear hK K) | (apply Exists.intro; refine ⟨fun x => ?_, hK _ ?_⟩; (fail); clear hK K)
            refine Mix.take_exC _ _ 22 rfl (by kernel_rfl) (by kernel_rfl) (by kernel_rfl) (by kernel_rfl) (fun K hK => ?_)
            go_simp
            first | (refine hK _ ?_; clear hK K) | (apply Exists.intro; refine ⟨fun x => ?_, hK _ ?_⟩; (fail); clear hK K)
            refine Mix.skip_C _ _ 23 rfl (by kernel_rfl) (by kernel_rfl) (by kernel_rfl) (by kernel_rfl) ?_
            go_simp
            refine Mix.skip_C _ _ 24 rfl (by kernel_rfl) (by kernel_rfl) (by kernel_rfl) (by kernel_rfl) ?_
            go_simp
            refine Mix.skip_C _ _ 25 rfl (by kernel_rfl) (by kernel_rfl) (by kernel_rfl) (by kernel_rfl) ?_
            go_simp
            refine Mix.skip_C _ _ 26 rfl (by kernel_rfl) (by kernel_rfl) (by kernel_rfl) (by kernel_rfl) ?_
            go_simp
            refine Mix.skip_C _ _ 27 rfl (by kernel_rfl) (by kernel_rfl) (by kernel_rfl) (by kernel_rfl) ?_
            go_simp
            refine Mix.take_exC _ _ 28 rfl (by kernel_rfl) (by kernel_rfl) (by kernel_rfl) (by kernel_rfl) (fun K hK => ?_)
            go_simp
            first | (refine hK _ ?_; clear hK K) | (apply Exists.intro; refine ⟨fun x => ?_, hK _ ?_⟩; (fail); clear hK K)
            refine Mix.take_exC _ _ 29 rfl (by kernel_rfl) (by kernel_rfl) (by kernel_rfl) (by kernel_rfl) (fun K hK => ?_)
            go_simp
            first | (refine hK _ ?_; clear hK K) | (apply Exists.intro; refine ⟨fun x => ?_, hK _ ?_⟩; (fail); clear hK K)
            refine Mix.take_exC _ _ 30 rfl (by kernel_rfl) (by kernel_rfl) (by kernel_rfl) (by kernel_rfl) (fun K hK => ?_)
            go_simp
            first | (refine hK _ ?_; clear hK K) | (apply Exists.intro; refine ⟨fun x => ?_, hK _ ?_⟩; (fail); clear hK K)
            refine Mix.take_exC _ _ 31 rfl (by kernel_rfl) (by kernel_rfl) (by kernel_rfl) (by kernel_rfl) (fun K hK => ?_)
            go_simp
            first | (refine hK _ ?_; clear hK K) | (apply Exists.intro; refine ⟨fun x => ?_, hK _ ?_⟩; (fail); clear hK K)
            refine Mix.take_exC _ _ 32 rfl (by kernel_rfl) (by kernel_rfl) (by kernel_rfl) (by kernel_rfl) (fun K hK => ?_)
            go_simp
            first | (refine hK _ ?_; clear hK K) | (apply Exists.intro; refine ⟨fun x => ?_, hK _ ?_⟩; (fail); clear hK K)
            refine Mix.take_exC _ _ 33 rfl (by kernel_rfl) (by kernel_rfl) (by kernel_rfl) (by kernel_rfl) (fun K hK => ?_)
            go_simp
            first | (refine hK _ ?_; clear hK K) | (apply Exists.intro; refine ⟨fun x => ?_, hK _ ?_⟩; (fail); clear hK K)
            refine Mix.take_exC _ _ 34 rfl (by kernel_rfl) (by kernel_rfl) (by kernel_rfl) (by kernel_rfl) (fun K hK => ?_)
            go_simp
            first | (refine hK _ ?_; clear hK K) | (apply Exists.intro; refine ⟨fun x => ?_, hK _ ?_⟩; (fail); clear hK K)
            refine Mix.take_exC _ _ 35 rfl (by kernel_rfl) (by kernel_rfl) (by kernel_rfl) (by kernel_rfl) (fun K hK => ?_)
            go_simp
            first | (refine hK _ ?_; clear hK K) | (apply Exists.intro; refine ⟨fun x => ?_, hK _ ?_⟩; (fail); clear hK K)
            refine Mix.take_exC _ _ 36 rfl (by kernel_rfl) (by kernel_rfl) (by kernel_rfl) (by kernel_rfl) (fun K hK => ?_)
            go_simp
            first | (refine hK _ ?_; clear hK K) | (apply Exists.intro; refine ⟨fun x => ?_, hK _ ?_⟩; (fail); clear hK K)
            refine Mix.take_exC _ _ 37 rfl (by kernel_rfl) (by kernel_rfl) (by kernel_rfl) (by kernel_rfl) (fun K hK => ?_)
            go_simp
            first | (refine hK _ ?_; clear hK K) | (apply Exists.intro; refine ⟨fun x => ?_, hK _ ?_⟩; (fail); clear hK K)
            refine Mix.done (by kernel_rfl) (.of_below _ HB.out) ?_
            intro w24 hb24
            have HP24 := Lib.hid (HP16.out.on (bt HB.out hb24))
            clear hb24
            clear m0 m1 m2 m3 m4 ml
            go_wp2
            go_roundw
            case rel => exact ⟨t + 1, _, _, _, _, _, _, by omega, by go_num, Lib.hid ⟨HP24.out, HLE5.out⟩⟩
            case measure => simp [intOf]; omega
          | cons p X7 =>
            obtain rfl : on = X7.length + 1 := by have := HON.out; simpa [ids] using this
            obtain rfl : fi = p.i := hfi
            obtain rfl : fo = true := hfo
            have hpos : (0 : Int) < ((X7.length + 1 : Nat) : Int) := by omega
            obtain ⟨ob, ooff, rfl, hob, hoc⟩ := HOA.out 0 p.i rfl
            have o0 := (HB16.out.cell (p := ⟨ob, ooff + 0 * 1 + 0, none⟩) hob).trans (hoc 0 _ rfl)
            simp only [Nat.zero_mul, Nat.add_zero] at o0
            have ol : ob < w16.heap.size := Nat.lt_of_lt_of_le hob HB16.out.size
            have hpp : (p.i != p.i) = false := by simp
            clear hob hoc
            obtain ⟨m0, m1, m2, m3, m4⟩ := HP16.out.m.cells
            have ml := HP16.out.m.lt
            go_upto_region 14 with (fail)
            refine Mix.regionC (fun _ => False) (by kernel_rfl) ?_
            intro w17 hb17
            refine Mix.take_exC _ _ 0 rfl (by kernel_rfl) (by kernel_rfl) (by kernel_rfl) (by kernel_rfl) (fun K hK => ?_)
            go_simp
            first | (refine hK _ ?_; clear hK K) | (apply Exists.intro; refine ⟨fun x => ?_, hK _ ?_⟩; (fail); clear hK K)
            refine Mix.take_exC _ _ 2 rfl (by kernel_rfl) (by kernel_rfl) (by kernel_rfl) (by kernel_rfl) (fun K hK => ?_)
            go_simp
            first | (refine hK _ ?_; clear hK K) | (apply Exists.intro; refine ⟨fun x => ?_, hK _ ?_⟩; (fail); clear hK K)
            refine Mix.all (rs := [1]) (by kernel_rfl) (by simp) (.of_below _ hb17) ?_
            intro i18 hi18 w18 hb18 hC18
            simp only [List.mem_cons, List.not_mem_nil, or_false] at hi18
            subst hi18
            have HB := Lib.hid (bt hb17 hb18)
            clear hC18 hb17 hb18
            refine Mix.op rfl (by kernel_rfl) ?_
            go_simp
            refine (sorder (HP16.out.on HB.out).sm HFW.out).mono ?_
            rintro e w19 ⟨v2, rfl, hv2, hb19⟩
            refine ⟨_, rfl, ?_⟩
            have hrs2 := hv2.rs (fun _ => rfl)
            obtain ⟨pa, pn, pc, hpv, -⟩ := hrs2.at_
            subst hpv
            have HV2 := Lib.hid hrs2
            have HB := Lib.hid (bt HB.out hb19)
            clear hv2 hb19 hrs2
            refine Mix.all (rs := [3]) (by kernel_rfl) (by simp) (.of_below _ HB.out) ?_
            intro i20 hi20 w20 hb20 hC20
            simp only [List.mem_cons, List.not_mem_nil, or_false] at hi20
            subst hi20
            have HB := Lib.hid (bt HB.out hb20)
            have HV2 := Lib.hid (HV2.out.below hb20)
            clear hC20 hb20
            refine Mix.op rfl (by kernel_rfl) ?_
            go_simp
            refine (same9 _ _ _ w20 HV2.out (HOV16.out.below HB.out)).mono ?_
            rintro e w21 ⟨rfl, hb21⟩
            refine ⟨_, rfl, ?_⟩
            have HB := Lib.hid (bt HB.out hb21)
            clear hb21
            refine Mix.take_exC _ _ 4 rfl (by kernel_rfl) (by kernel_rfl) (by kernel_rfl) (by kernel_rfl) (fun K hK => ?_)
            go_simp
            first | (refine hK _ ?_; clear hK K) | (apply Exists.intro; refine ⟨fun x => ?_, hK _ ?_⟩; (fail); clear hK K)
            refine Mix.take_exC _ _ 5 rfl (by kernel_rfl) (by kernel_rfl) (by kernel_rfl) (by kernel_rfl) (fun K hK => ?_)
            go_simp
            first | (refine hK _ ?_; clear hK K) | (apply Exists.intro; refine ⟨fun x => ?_, hK _ ?_⟩; (fail); clear hK K)
            refine Mix.take_exC _ _ 6 rfl (by kernel_rfl) (by kernel_rfl) (by kernel_rfl) (by kernel_rfl) (fun K hK => ?_)
            go_simp
            first | (refine hK _ ?_; clear hK K) | (apply Exists.intro; refine ⟨fun x => ?_, hK _ ?_⟩; (fail); clear hK K)
            refine Mix.take_exC _ _ 8 rfl (by kernel_rfl) (by kernel_rfl) (by kernel_rfl) (by kernel_rfl) (fun K hK => ?_)
            go_simp
            first | (refine hK _ ?_; clear hK K) | (apply Exists.intro; refine ⟨fun x => ?_, hK _ ?_⟩; (fail); clear hK K)
            refine Mix.take_exC _ _ 9 rfl (by kernel_rfl) (by kernel_rfl) (by kernel_rfl) (by kernel_rfl) (fun K hK => ?_)
            go_simp
            first | (refine hK _ ?_; clear hK K) | (apply Exists.intro; refine ⟨fun x => ?_, hK _ ?_⟩; (fail); clear hK K)
            refine Mix.take_exC _ _ 10 rfl (by kernel_rfl) (by kernel_rfl) (by kernel_rfl) (by kernel_rfl) (fun K hK => ?_)
            go_simp
            first | (refine hK _ ?_; clear hK K) | (apply Exists.intro; refine ⟨fun x => ?_, hK _ ?_⟩; (fail); clear hK K)
            refine Mix.all (rs := [7]) (by kernel_rfl) (by simp) (.of_below _ HB.out) ?_
            intro i22 hi22 w22 hb22 hC22
            simp only [List.mem_cons, List.not_mem_nil, or_false] at hi22
            subst hi22
            have HB := Lib.hid (bt HB.out hb22)
            clear hC22 hb22
            refine Mix.op rfl (by kernel_rfl) ?_
            go_simp
            refine (HLG.out _ (HP16.out.on HB.out)).mono ?_
            rintro e w23 ⟨rfl, hw23⟩
            refine ⟨_, rfl, ?_⟩
            rw [hw23]
            clear hw23 w23
            refine Mix.take_exC _ _ 11 rfl (by kernel_rfl) (by kernel_rfl) (by kernel_rfl) (by kernel_rfl) (fun K hK => ?_)
            go_simp
            first | (refine hK _ ?_; clear hK K) | (apply Exists.intro; refine ⟨fun x => ?_, hK _ ?_⟩; (fail); clear hK K)
            refine Mix.take_exC _ _ 12 rfl (by kernel_rfl) (by kernel_rfl) (by kernel_rfl) (by kernel_rfl) (fun K hK => ?_)
            go_simp
            first | (refine hK _ ?_; clear hK K) | (apply Exists.intro; refine ⟨fun x => ?_, hK _ ?_⟩; (fail); clear hK K)
            refine Mix.take_exC _ _ 13 rfl (by kernel_rfl) (by kernel_rfl) (by kernel_rfl) (by kernel_rfl) (fun K hK => ?_)
            go_simp
            first | (refine hK _ ?_; clear hK K) | (apply Exists.intro; refine ⟨fun x => ?_, hK _ ?_⟩; (fail); clear hK K)
            refine Mix.take_exC _ _ 14 rfl (by kernel_rfl) (by kernel_rfl) (by kernel_rfl) (by kernel_rfl) (fun K hK => ?_)
            go_simp
            first | (refine hK _ ?_; clear hK K) | (apply Exists.intro; refine ⟨fun x => ?_, hK _ ?_⟩; (fail); clear hK K)
            refine Mix.take_exC _ _ 15 rfl (by kernel_rfl) (by kernel_rfl) (by kernel_rfl) (by kernel_rfl) (fun K hK => ?_)
            go_simp
            first | (refine hK _ ?_; clear hK K) | (apply Exists.intro; refine ⟨fun x => ?_, hK _ ?_⟩; (fail); clear hK K)
            refine Mix.take_exC _ _ 16 rfl (by kernel_rfl) (by kernel_rfl) (by kernel_rfl) (by kernel_rfl) (fun K hK => ?_)
            go_simp
            first | (refine hK _ ?_; clear hK K) | (apply Exists.intro; refine ⟨fun x => ?_, hK _ ?_⟩; (fail); clear hK K)
            refine Mix.take_exC _ _ 17 rfl (by kernel_rfl) (by kernel_rfl) (by kernel_rfl) (by kernel_rfl) (fun K hK => ?_)
            go_simp
            first | (refine hK _ ?_; clear hK K) | (apply Exists.intro; refine ⟨fun x => ?_, hK _ ?_⟩; (fail); clear hK K)
            refine Mix.take_exC _ _ 18 rfl (by kernel_rfl) (by kernel_rfl) (by kernel_rfl) (by kernel_rfl) (fun K hK => ?_)
            go_simp
            first | (refine hK _ ?_; clear hK K) | (apply Exists.intro; refine ⟨fun x => ?_, hK _ ?_⟩; (fail); clear hK K)
            refine Mix.take_exC _ _ 19 rfl (by kernel_rfl) (by kernel_rfl) (by kernel_rfl) (by kernel_rfl) (fun K hK => ?_)
            go_simp
            first | (refine hK _ ?_; clear hK K) | (apply Exists.intro; refine ⟨fun x => ?_, hK _ ?_⟩; (fail); clear hK K)
            refine Mix.take_exC _ _ 20 rfl (by kernel_rfl) (by kernel_rfl) (by kernel_rfl) (by kernel_rfl) (fun K hK => ?_)
            go_simp
            first | (refine hK _ ?_; clear hK K) | (apply Exists.intro; refine ⟨fun x => ?_, hK _ ?_⟩; (fail); clear hK K)
            refine Mix.take_exC _ _ 21 rfl (by kernel_rfl) (by kernel_rfl) (by kernel_rfl) (by kernel_rfl) (fun K hK => ?_)
            go_simp
            first | (refine hK _ ?_; clear hK K) | (apply Exists.intro; refine ⟨fun x => ?_, hK _ ?_⟩; (fail); clear hK K)
            refine Mix.take_exC _ _ 22 rfl (by kernel_rfl) (by kernel_rfl) (by kernel_rfl) (by kernel_rfl) (fun K hK => ?_)
            go_simp
            first | (refine hK _ ?_; clear hK K) | (apply Exists.intro; refine ⟨fun x => ?_, hK _ ?_⟩; (fail); clear hK K)
            refine Mix.take_exC _ _ 23 rfl (by kernel_rfl) (by kernel_rfl) (by kernel_rfl) (by kernel_rfl) (fun K hK => ?_)
            go_simp
            first | (refine hK _ ?_; clear hK K) | (apply Exists.intro; refine ⟨fun x => ?_, hK _ ?_⟩; (fail); clear hK K)
            refine Mix.take_exC _ _ 24 rfl (by kernel_rfl) (by kernel_rfl) (by kernel_rfl) (by kernel_rfl) (fun K hK => ?_)
            go_simp
            first | (refine hK _ ?_; clear hK K) | (apply Exists.intro; refine ⟨fun x => ?_, hK _ ?_⟩; (fail); clear hK K)
            refine Mix.take_exC _ _ 25 rfl (by kernel_rfl) (by kernel_rfl) (by kernel_rfl) (by kernel_rfl) (fun K hK => ?_)
            go_simp
            first | (refine hK _ ?_; clear hK K) | (apply Exists.intro; refine ⟨fun x => ?_, hK _ ?_⟩; (fail); clear hK K)
            refine Mix.take_exC _ _ 26 rfl (by kernel_rfl) (by kernel_rfl) (by kernel_rfl) (by kernel_rfl) (fun K hK => ?_)
            go_simp
            first | (refine hK _ ?_; clear hK K) | (apply Exists.intro; refine ⟨fun x => ?_, hK _ ?_⟩; (fail); clear hK K)
            refine Mix.take_exC _ _ 27 rfl (by kernel_rfl) (by kernel_rfl) (by kernel_rfl) (by kernel_rfl) (fun K hK => ?_)
            go_simp
            first | (refine hK _ ?_; clear hK K) | (apply Exists.intro; refine ⟨fun x => ?_, hK _ ?_⟩; (fail); clear hK K)
            refine Mix.take_exC _ _ 28 rfl (by kernel_rfl) (by kernel_rfl) (by kernel_rfl) (by kernel_rfl) (fun K hK => ?_)
            go_simp
            first | (refine hK _ ?_; clear hK K) | (apply Exists.intro; refine ⟨fun x => ?_, hK _ ?_⟩; (fail); clear hK K)
            refine Mix.take_exC _ _ 29 rfl (by kernel_rfl) (by kernel_rfl) (by kernel_rfl) (by kernel_rfl) (fun K hK => ?_)
            go_simp
            first | (refine hK _ ?_; clear hK K) | (apply Exists.intro; refine ⟨fun x => ?_, hK _ ?_⟩; (fail); clear hK K)
            refine Mix.take_exC _ _ 30 rfl (by kernel_rfl) (by kernel_rfl) (by kernel_rfl) (by kernel_rfl) (fun K hK => ?_)
            go_simp
            first | (refine hK _ ?_; clear hK K) | (apply Exists.intro; refine ⟨fun x => ?_, hK _ ?_⟩; (fail); clear hK K)
            refine Mix.take_exC _ _ 31 rfl (by kernel_rfl) (by kernel_rfl) (by kernel_rfl) (by kernel_rfl) (fun K hK => ?_)
            go_simp
            first | (refine hK _ ?_; clear hK K) | (apply Exists.intro; refine ⟨fun x => ?_, hK _ ?_⟩; (fail); clear hK K)
            refine Mix.take_exC _ _ 32 rfl (by kernel_rfl) (by kernel_rfl) (by kernel_rfl) (by kernel_rfl) (fun K hK => ?_)
            go_simp
            first | (refine hK _ ?_; clear hK K) | (apply Exists.intro; refine ⟨fun x => ?_, hK _ ?_⟩; (fail); clear hK K)
            refine Mix.take_exC _ _ 33 rfl (by kernel_rfl) (by kernel_rfl) (by kernel_rfl) (by kernel_rfl) (fun K hK => ?_)
            go_simp
            first | (refine hK _ ?_; clear hK K) | (apply Exists.intro; refine ⟨fun x => ?_, hK _ ?_⟩; (fail); clear hK K)
            refine Mix.skip_C _ _ 34 rfl (by kernel_rfl) (by kernel_rfl) (by kernel_rfl) (by kernel_rfl) ?_
            go_simp
            refine Mix.skip_C _ _ 35 rfl (by kernel_rfl) (by kernel_rfl) (by kernel_rfl) (by kernel_rfl) ?_
            go_simp
            refine Mix.take_exC _ _ 36 rfl (by kernel_rfl) (by kernel_rfl) (by kernel_rfl) (by kernel_rfl) (fun K hK => ?_)
            go_simp
            first | (refine hK _ ?_; clear hK K) | (apply Exists.intro; refine ⟨fun x => ?_, hK _ ?_⟩; (fail); clear hK K)
            refine Mix.take_exC _ _ 37 rfl (by kernel_rfl) (by kernel_rfl) (by kernel_rfl) (by kernel_rfl) (fun K hK => ?_)
            go_simp
            first | (refine hK _ ?_; clear hK K) | (apply Exists.intro; refine ⟨fun x => ?_, hK _ ?_⟩; (fail); clear hK K)
            clear o0 ol hpp hpos
            refine Mix.done (by kernel_rfl) (.of_below _ HB.out) ?_
            intro w24 hb24
            have HP24 := Lib.hid (HP16.out.on (bt HB.out hb24))
            clear hb24
            clear m0 m1 m2 m3 m4 ml
            go_wp2
            go_roundw
            case rel => exact ⟨t + 1, _, _, _, _, _, _, by omega, by go_num, Lib.hid ⟨HP24.out, HLE5.out⟩⟩
            case measure => simp [intOf]; omega
      · obtain rfl : m = t := by omega
        cases hg : G i with
        | none =>
          have hno : ∀ d ∈ C, d.id ≠ i := fun d hd e => by
            have := (HP3.out.dc.mem d).1 hd
            rw [e, hg] at this; cases this
          have hs1 := ssum HP3.out.sm HI.out
          have hs2 := fun w' (h : PS9 W w' sp M tp mb T G X (.slice va vn vc) C) => sshare_none h.sm HI.out hg
          unfold sumQ at hs1
          simp only [hg] at hs1
          have HS1 := Lib.hid hs1; have HS2 := Lib.hid hs2; have HNO := Lib.hid hno
          clear hs1 hs2 hno hg
          go_wp2_with fail
          refine HS1.out.mono ?_
          rintro e w4 ⟨rfl, hb4⟩
          have HB4 := Lib.hid hb4
          clear hb4
          have hb5 := ba (Below.refl w4.heap.size w4) (.cells (C4 (fun _ => 0)) 40)
          have HP5 := Lib.hid (HP3.out.on (bt HB4.out hb5))
          have HN5 := Lib.hid (NB.made w4 (fun _ => 0))
          clear hb5
          go_upto_region 17 with (fail)
          generalize w4.alloc (.cells (C4 (fun _ => 0)) 40) = w5 at *
          generalize w4.heap.size = sb at *
          go_wp2_with fail
          refine (HS2.out _ HP5.out).mono ?_
          rintro e w6 ⟨rfl, hb6⟩
          have hb7 := ba (Below.refl w6.heap.size w6) (.cells #[.int .i64 0, .int .i64 0, .int .i64 0] 46)
          have HP7 := Lib.hid (HP5.out.on (bt hb6 hb7))
          have HN7 := Lib.hid (HN5.out.below (bt hb6 hb7))
          clear hb6 hb7
          go_upto_region 18 with (fail)
          generalize w6.alloc (.cells #[.int .i64 0, .int .i64 0, .int .i64 0] 46) = w7 at *
          generalize w6.heap.size = hb at *
          obtain ⟨m0, m1, m2, m3, m4⟩ := HP7.out.m.cells
          have ml := HP7.out.m.lt
          go_wp2_with fail
          clear m0 m1 m2 m3 m4 ml
          refine (rat9 (T := T) HP7.out.rs i).mono ?_
          rintro e w8 ⟨z, rfl, hz, hb8⟩
          obtain rfl : z = -1 := by
            rcases hz with ⟨k, d, _, hk, hi⟩ | ⟨h, _⟩
            · exact absurd hi (HNO.out d (mem_at hk))
            · exact h
          have HP8 := Lib.hid (HP7.out.on hb8)
          have hn8 := HN7.out.below hb8
          obtain ⟨n0, n1', n2, n3⟩ := hn8.cells
          have nl := hn8.lt
          clear hz hb8 hn8
          go_wp2_with fail
          refine (works9 _).mono ?_
          rintro e w9 ⟨rfl, hb9⟩
          have HP9 := Lib.hid (HP8.out.on hb9)
          clear hb9 n0 n1' n2 n3 nl
          go_wp2
          go_ret
          exact ⟨rfl, HP9.out.bel⟩
        | some cl =>
          have hs1 := ssum HP3.out.sm HI.out
          have hs2 := fun w' (h : PS9 W w' sp M tp mb T G X (.slice va vn vc) C) => sshare_some h.sm HI.out hg
          have hpt := fun a0 => rpart9 T a0 vn vc ⟨i, cl⟩
          unfold sumQ at hs1
          simp only [hg] at hs1
          obtain ⟨pn, hpn⟩ : ∃ x, (domV cl.s T).2.1 = x := ⟨_, rfl⟩
          obtain ⟨pd, hpd⟩ : ∃ x, (domV cl.s T).2.2 = x := ⟨_, rfl⟩
          rw [show (dpl T ⟨i, cl⟩).n = pn from hpn, show (dpl T ⟨i, cl⟩).d = pd from hpd] at hpt
          simp only [hpn, hpd] at hs2
          have HS1 := Lib.hid hs1; have HS2 := Lib.hid hs2; have HPT := Lib.hid hpt; have HG := Lib.hid hg
          clear hs1 hs2 hpt hg hpn hpd
          go_wp2_with fail
          refine HS1.out.mono ?_
          rintro e w4 ⟨rfl, hb4⟩
          have HB4 := Lib.hid hb4
          clear hb4
          have hb5 := ba (Below.refl w4.heap.size w4) (.cells (C4 cl.s) 40)
          have HP5 := Lib.hid (HP3.out.on (bt HB4.out hb5))
          have HN5 := Lib.hid (NB.made w4 cl.s)
          clear hb5
          go_upto_region 17 with (fail)
          generalize w4.alloc (.cells (C4 cl.s) 40) = w5 at *
          generalize w4.heap.size = sb at *
          go_wp2_with fail
          refine (HS2.out _ HP5.out).mono ?_
          rintro e w6 ⟨rfl, hb6⟩
          have hb7 := ba (Below.refl w6.heap.size w6) (.cells #[.int .i64 pn, .int .i64 pd, .int .i64 cl.wt] 46)
          have HP7 := Lib.hid (HP5.out.on (bt hb6 hb7))
          have HN7 := Lib.hid (HN5.out.below (bt hb6 hb7))
          have HH7 := Lib.hid (HB3.made w6 pn pd cl.wt)
          clear hb6 hb7
          go_upto_region 18 with (fail)
          generalize w6.alloc (.cells #[.int .i64 pn, .int .i64 pd, .int .i64 cl.wt] 46) = w7 at *
          generalize w6.heap.size = hb at *
          obtain ⟨m0, m1, m2, m3, m4⟩ := HP7.out.m.cells
          have ml := HP7.out.m.lt
          go_wp2_with fail
          clear m0 m1 m2 m3 m4 ml
          refine (rat9 (T := T) HP7.out.rs i).mono ?_
          rintro e w8 ⟨z, rfl, hz, hb8⟩
          have hin := (HP7.out.dc.mem (⟨i, cl⟩ : Dc)).2 HG.out
          obtain ⟨k, rfl, hk⟩ : ∃ k : Nat, z = k ∧ C[k]? = some (⟨i, cl⟩ : Dc) := by
            rcases hz with ⟨k, d, hz, hk, hi⟩ | ⟨_, hno⟩
            · exact ⟨k, hz, by rw [hk, HP7.out.dc.inj (mem_at hk) hin hi]⟩
            · exact absurd rfl (hno _ hin)
          have HP8 := Lib.hid (HP7.out.on hb8)
          have HN8 := Lib.hid (HN7.out.below hb8)
          have HH8 := Lib.hid (HH7.out.below hb8)
          obtain ⟨_, _, _, hve, hvn, -, -, hat⟩ := HP8.out.rs.at_
          cases hve
          obtain ⟨eb, eoff, rfl, heb, hec⟩ := hat k _ hk
          have hkn : (k : Int) < (vn : Int) := by have := (List.getElem?_eq_some_iff.1 hk).1; omega
          have hk0 : ¬ (k : Int) < 0 := by omega
          have c0 := hec 0 _ rfl; have c1 := hec 1 _ rfl; have c2 := hec 2 _ rfl; have c3 := hec 3 _ rfl; have c4 := hec 4 _ rfl; have c5 := hec 5 _ rfl; have c6 := hec 6 _ rfl
          simp only [Nat.add_zero] at c0 c1 c2 c3 c4 c5 c6
          have HPA := Lib.hid (HPT.out (some ⟨eb, eoff, none⟩))
          obtain ⟨n0, n1', n2, n3⟩ := HN8.out.cells
          have nl := HN8.out.lt
          obtain ⟨h0, h1, h2⟩ := HH8.out.cells
          have hl := HH8.out.lt
          obtain ⟨m0, m1, m2, m3, m4⟩ := HP8.out.m.cells
          have ml := HP8.out.m.lt
          clear hz hb8 hin hk hvn hat hec HPT
          go_upto_region 21 with (fail)
          refine wp_region_pure (by kernel_rfl) (by kernel_rfl) ?_
          repeat (first | go_big_quiet_step (first | (go_at_call 18; with_reducible exact HPA.out.quiet) | (go_at_call 17; with_reducible exact pworks9.quiet)) | (quiet_step (first | (go_at_call 18; with_reducible exact HPA.out.quiet) | (go_at_call 17; with_reducible exact pworks9.quiet))))
          refine wpQuiet_nil ?_
          rintro w9 ⟨x9, hx9⟩
          have hb9 := ext_below _ x9
          rw [← hx9] at hb9
          have HP9 := Lib.hid (HP8.out.on hb9)
          clear hx9 x9 hb9 c0 c1 c2 c3 c4 c5 c6 n0 n1' n2 n3 nl h0 h1 h2 hl
          clear m0 m1 m2 m3 m4 ml
          go_wp2
          go_ret
          exact ⟨rfl, HP9.out.bel⟩
  · go_enter Try.func3, Try.ntmps3
    go_wp2
    go_ret
    exact ⟨rfl, Below.refl _ _⟩
end Go.Proofs.Ytgfjmafdfbghnaa

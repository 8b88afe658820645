/- The walk of TiersTells. -/
import Derived.Test.YtgfjmafdfbghnaaGreatTix
namespace Go.Proofs.YtgfjmafdfbghnaaGreat
open Go.RowKit Go.Maps
attribute [local go_sem] ext_cell ext_frozen extC_cell extC_frozen Mix.calmUpon Mix.mUpon eqF10
-- the document's Do, called at the world wi: wo behind it
-- the loop of the acts: FF the function, SLOT the loop's variable, MAX the bound; behind it: world w3, HP3 : PZ .., hlc
-- one act: done by the document and by the program; world w3 at its start
-- a frame's share into a variable: behind it world w6, share (n1 d1 x1) in the block sb
-- behind region 13: the role's weight and share; world w8, HP8
set_option maxRecDepth 100000 in
set_option maxHeartbeats 8000000 in
theorem tells10 (v : Value) (l : List A10) (W : World) (hr : RS 8 a10enc W v l) (ha : ∀ x ∈ l, I64 x.i) (i r : Int) (hi : I64 i) (hri : I64 r) : Calls Tryz.prog 4 #[v, .int .i64 i, .int .i64 r] W fun e w' => e = .returned (.bool true) ∧ Below W.heap.size W w' := by
  obtain ⟨a, m, c, rfl, hn, hc, hm, hat⟩ := hr.at_
  have HN := Lib.hid hn; have HAT := Lib.hid hat; have HA := Lib.hid ha; have HI := Lib.hid hi; have HRI := Lib.hid hri
  clear hr hn hat ha hm hc hi hri
  by_cases hbig : m ≤ 100
  · go_enter Tryz.func4, Tryz.ntmps4
    go_wp2_with fail
    refine (pxnew W).mono ?_
    rintro e w1 ⟨p, rfl, hx⟩
    have hb2 := ba (Below.refl w1.heap.size w1) (.cells (mcellsx (fun _ => 0) (.slice none 0 0)) 28)
    have HI0 := Lib.hid (show PZ W (w1.alloc (.cells (mcellsx (fun _ => 0) (.slice none 0 0)) 28)) p w1.heap.size (fun _ => 0) [] (.slice none 0 0) ∧ ([] : List Fd).length ≤ 0 from
      ⟨⟨hx.on hb2 (fun b hb => by
        rcases hb with rfl | hb
        · exact .inr ⟨Nat.le_refl _, by simp⟩
        · (cases hb)), MBx.made w1 (fun _ => 0) _, RS.nil _ _ _, hx.bel.size, fun e => by cases e⟩, Nat.le_refl _⟩)
    clear hx hb2
    go_upto_region 5 with (fail)
    change Code.wp _ _ _ _ (w1.alloc (.cells (mcellsx (fun _ => 0) (.slice none 0 0)) 28))
    generalize w1.alloc (.cells (mcellsx (fun _ => 0) (.slice none 0 0)) 28) = w2 at *
    generalize w1.heap.size = mb at *
    go_wp2
    go_loopw [9] (fun iv wr => ∃ (t : Nat) (T : Nat → Int) (D : List Fd) (v : Value), t ≤ m ∧ iv = .int .i64 t ∧ Hid (PZ W wr p mb T D v ∧ D.length ≤ t)) (fun iv _ => m - (intOf iv).toNat)
    case atStart => exact ⟨0, _, _, _, Nat.zero_le _, rfl, HI0⟩
    case round =>
      clear HI0
      obtain ⟨t, T, D, v, ht, rfl, HQ⟩ := hrel
      obtain ⟨w3, rfl⟩ : ∃ w2, w2 = wr := ⟨_, rfl⟩
      have HP3 := Lib.hid HQ.out.1
      have hlc : D.length ≤ t := HQ.out.2
      obtain ⟨va, vn, vc, hv, -⟩ := HP3.out.rs.at_
      subst hv
      clear HQ
      by_cases hlt : t < m
      · skip
        have hts : (t : Int) < (m : Int) := by omega
        obtain ⟨x, hx⟩ := at_lt (l := l) (i := t) (by rw [← HN.out]; exact hlt)
        have hxi := HA.out x (mem_at hx)
        obtain ⟨b, off, rfl, hb, hcell⟩ := HAT.out t x hx
        have HXB := Lib.hid hb; have HXC := Lib.hid hcell; have HXI := Lib.hid hxi
        clear hx hb hcell hxi
        obtain ⟨⟨q, T5, D5⟩, hts5⟩ := tst_any HP3.out.px.ok T x
        have HTS := Lib.hid hts5
        have HTL := Lib.hid (show D5.length ≤ t + 1 from by have := hts5.len; simp only at this; omega)
        have hdo := fun w' (hb : Below w3.heap.size w3 w') => rdo10 (HP3.out.rs.below hb) (fun b e => Nat.lt_of_lt_of_le (HP3.out.vb b e) hb.size) (by omega) HP3.out.px.ok hts5
        have HDO := Lib.hid hdo
        clear hdo hts5
        have e0 := (HP3.out.px.bel.cell (p := ⟨b, off + t * 8 + 0, none⟩) HXB.out).trans (HXC.out 0 _ rfl)
        have e1 := (HP3.out.px.bel.cell (p := ⟨b, off + t * 8 + 1, none⟩) HXB.out).trans (HXC.out 1 _ rfl)
        have e2 := (HP3.out.px.bel.cell (p := ⟨b, off + t * 8 + 2, none⟩) HXB.out).trans (HXC.out 2 _ rfl)
        have e3 := (HP3.out.px.bel.cell (p := ⟨b, off + t * 8 + 3, none⟩) HXB.out).trans (HXC.out 3 _ rfl)
        have e4 := (HP3.out.px.bel.cell (p := ⟨b, off + t * 8 + 4, none⟩) HXB.out).trans (HXC.out 4 _ rfl)
        have e5 := (HP3.out.px.bel.cell (p := ⟨b, off + t * 8 + 5, none⟩) HXB.out).trans (HXC.out 5 _ rfl)
        have e6 := (HP3.out.px.bel.cell (p := ⟨b, off + t * 8 + 6, none⟩) HXB.out).trans (HXC.out 6 _ rfl)
        have e7 := (HP3.out.px.bel.cell (p := ⟨b, off + t * 8 + 7, none⟩) HXB.out).trans (HXC.out 7 _ rfl)
        simp only [Nat.add_zero] at e0
        have el : b < w3.heap.size := Nat.lt_of_lt_of_le HXB.out HP3.out.px.bel.size
        obtain ⟨m0, m1, m2, m3, m4⟩ := (HP3.out.m).cells
        have ml := (HP3.out.m).lt
        have hbm : ¬ b = mb := by have := HXB.out; have := HP3.out.b4; omega
        go_upto_region 8 with (fail)
        refine Mix.regionC (fun k => k = mb) (by kernel_rfl) ?_
        intro w30 hb30
        refine Mix.take_exC _ _ 1 rfl (by kernel_rfl) (by kernel_rfl) (by kernel_rfl) (by kernel_rfl) (fun K hK => ?_)
        go_simp
        first | (refine hK _ ?_; clear hK K) | (apply Exists.intro; refine ⟨fun x => ?_, hK _ ?_⟩; (fail); clear hK K)
        refine Mix.take_exC _ _ 2 rfl (by kernel_rfl) (by kernel_rfl) (by kernel_rfl) (by kernel_rfl) (fun K hK => ?_)
        go_simp
        first | (refine hK _ ?_; clear hK K) | (apply Exists.intro; refine ⟨fun x => ?_, hK _ ?_⟩; (fail); clear hK K)
        refine Mix.take_exC _ _ 3 rfl (by kernel_rfl) (by kernel_rfl) (by kernel_rfl) (by kernel_rfl) (fun K hK => ?_)
        go_simp
        first | (refine hK _ ?_; clear hK K) | (apply Exists.intro; refine ⟨fun x => ?_, hK _ ?_⟩; (fail); clear hK K)
        refine Mix.take_exC _ _ 4 rfl (by kernel_rfl) (by kernel_rfl) (by kernel_rfl) (by kernel_rfl) (fun K hK => ?_)
        go_simp
        first | (refine hK _ ?_; clear hK K) | (apply Exists.intro; refine ⟨fun x => ?_, hK _ ?_⟩; (fail); clear hK K)
        clear e0 e1 e2 e3 e4 e5 e6 e7 el
        clear m0 m1 m2 m3 m4 ml
        clear hbm
        refine Mix.all (rs := [0]) (by kernel_rfl) (by simp) (.of_below _ hb30) ?_
        intro i31 hi31 w31 hb31 hC31
        simp only [List.mem_cons, List.not_mem_nil, or_false] at hi31
        subst hi31
        have HB := Lib.hid (bt hb30 hb31)
        clear hC31 hb30 hb31
        obtain ⟨m0, m1, m2, m3, m4⟩ := ((HP3.out.m.below HB.out)).cells
        have ml := ((HP3.out.m.below HB.out)).lt
        refine Mix.op rfl (by kernel_rfl) ?_
        go_simp
        clear m0 m1 m2 m3 m4 ml
        refine Mix.all (rs := [5]) (by kernel_rfl) (by simp) (.of_below _ HB.out) ?_
        intro i6 hi6 w6 hb6 hC6
        simp only [List.mem_cons, List.not_mem_nil, or_false] at hi6
        subst hi6
        have HB := Lib.hid (bt HB.out hb6)
        clear hC6 hb6
        refine Mix.op rfl (by kernel_rfl) ?_
        go_simp
        refine (HDO.out w6 HB.out).mono ?_
        rintro e w7 ⟨v', rfl, hrs, hvb, hbd⟩
        refine ⟨_, rfl, ?_⟩
        obtain ⟨va5, vn5, vc5, hv5, -⟩ := hrs.at_
        subst hv5
        have HRS := Lib.hid hrs
        have HVB8 := Lib.hid (show ∀ b, (Value.slice va5 vn5 vc5).ownBlock = some b → (Value.slice va vn vc).ownBlock = some b ∨ w6.heap.size ≤ b from fun b e => by
          rcases hvb b e with h | h
          · exact .inl h
          · exact .inr h.1)
        have HBD := Lib.hid hbd
        have HVB := Lib.hid (show ∀ b, (Value.slice va5 vn5 vc5).ownBlock = some b → (Value.slice va vn vc).ownBlock = some b ∨ w3.heap.size ≤ b ∧ b < w7.heap.size from fun b e => by
          rcases hvb b e with h | h
          · exact .inl h
          · have := HB.out.size; exact .inr ⟨by omega, h.2⟩)
        have HB := Lib.hid (bt HB.out hbd)
        clear hrs hvb hbd HDO
        refine Mix.take_exC _ _ 6 rfl (by kernel_rfl) (by kernel_rfl) (by kernel_rfl) (by kernel_rfl) (fun K hK => ?_)
        go_simp
        first | (refine hK _ ?_; clear hK K) | (apply Exists.intro; refine ⟨fun x => ?_, hK _ ?_⟩; (fail); clear hK K)
        refine Mix.take_exC _ _ 7 rfl (by kernel_rfl) (by kernel_rfl) (by kernel_rfl) (by kernel_rfl) (fun K hK => ?_)
        go_simp
        first | (refine hK _ ?_; clear hK K) | (apply Exists.intro; refine ⟨fun x => ?_, hK _ ?_⟩; (fail); clear hK K)
        refine Mix.take_exC _ _ 8 rfl (by kernel_rfl) (by kernel_rfl) (by kernel_rfl) (by kernel_rfl) (fun K hK => ?_)
        go_simp
        first | (refine hK _ ?_; clear hK K) | (apply Exists.intro; refine ⟨fun x => ?_, hK _ ?_⟩; (fail); clear hK K)
        refine Mix.all (rs := [9]) (by kernel_rfl) (by simp) (.of_below _ HB.out) ?_
        intro i8 hi8 w8 hb8 hC8
        simp only [List.mem_cons, List.not_mem_nil, or_false] at hi8
        subst hi8
        have HB := Lib.hid (bt HB.out hb8)
        have HRS := Lib.hid (HRS.out.below hb8)
        have HVB := Lib.hid (show ∀ b, (Value.slice va5 vn5 vc5).ownBlock = some b → (Value.slice va vn vc).ownBlock = some b ∨ w3.heap.size ≤ b ∧ b < w8.heap.size from fun b e => by
          rcases HVB.out b e with h | h
          · exact .inl h
          · exact .inr ⟨h.1, Nat.lt_of_lt_of_le h.2 hb8.size⟩)
        clear hC8 hb8
        have hm8 := HP3.out.m.below HB.out
        have hpx8 := HP3.out.px.on (P' := fun b => b = mb ∨ (Value.slice va5 vn5 vc5).ownBlock = some b) HB.out (fun b hb => by
          rcases hb with hb | hb
          · exact .inl (.inl hb)
          · rcases HVB.out b hb with h | h
            · exact .inl (.inr h)
            · exact .inr h)
        have hne8 : (Value.slice va5 vn5 vc5).ownBlock ≠ some mb := fun e => by
          rcases HVB.out mb e with h | h
          · exact HP3.out.nb h
          · have := HP3.out.m.lt; omega
        have hst := set5x_chg w8 mb T5 (.slice va5 vn5 vc5)
        have HM9 := Lib.hid (hm8.set5 T5 (.slice va5 vn5 vc5))
        have HR9 := Lib.hid (HRS.out.chg hst fun b e e' => by have e' : b = mb := e'; subst e'; exact hne8 e)
        have HX9 := Lib.hid (hpx8.turn hst (fun b e => .inl e) hm8.nonode fun b e => by have e : b = mb := e; have := HP3.out.b4; omega)
        have HC9 := Lib.hid ((Chg.of_below (fun k => k = mb) HB.out).same hst)
        have HNE := Lib.hid hne8
        obtain ⟨m0, m1, m2, m3, m4⟩ := hm8.cells
        have mf0 := hm8.fz 0; have mf1 := hm8.fz 1; have mf2 := hm8.fz 2; have mf3 := hm8.fz 3; have mf4 := hm8.fz 4
        have ml := hm8.lt
        clear hm8 hpx8 hne8 hst
        refine Mix.op rfl (by kernel_rfl) ?_
        go_simp
        clear m0 m1 m2 m3 m4 mf0 mf1 mf2 mf3 mf4 ml
        refine Mix.done (by kernel_rfl) HC9.out ?_
        intro w12 hb12
        have HX12 := Lib.hid (HX9.out.below hb12)
        have HM12 := Lib.hid (HM9.out.below hb12)
        have HR12 := Lib.hid (HR9.out.below hb12)
        have HBW := Lib.hid HX12.out.bel
        clear hb12 HX9 HM9 HR9 HC9 HB HRS HVB
        have e0 := (HBW.out.cell (p := ⟨b, off + t * 8 + 0, none⟩) HXB.out).trans (HXC.out 0 _ rfl)
        have e1 := (HBW.out.cell (p := ⟨b, off + t * 8 + 1, none⟩) HXB.out).trans (HXC.out 1 _ rfl)
        have e2 := (HBW.out.cell (p := ⟨b, off + t * 8 + 2, none⟩) HXB.out).trans (HXC.out 2 _ rfl)
        have e3 := (HBW.out.cell (p := ⟨b, off + t * 8 + 3, none⟩) HXB.out).trans (HXC.out 3 _ rfl)
        have e4 := (HBW.out.cell (p := ⟨b, off + t * 8 + 4, none⟩) HXB.out).trans (HXC.out 4 _ rfl)
        have e5 := (HBW.out.cell (p := ⟨b, off + t * 8 + 5, none⟩) HXB.out).trans (HXC.out 5 _ rfl)
        have e6 := (HBW.out.cell (p := ⟨b, off + t * 8 + 6, none⟩) HXB.out).trans (HXC.out 6 _ rfl)
        have e7 := (HBW.out.cell (p := ⟨b, off + t * 8 + 7, none⟩) HXB.out).trans (HXC.out 7 _ rfl)
        simp only [Nat.add_zero] at e0
        have el : b < w12.heap.size := Nat.lt_of_lt_of_le HXB.out HBW.out.size
        go_wp2_with fail
        clear e0 e1 e2 e3 e4 e5 e6 e7 el
        refine (px_do HX12.out HXI.out (by omega) HTS.out).mono ?_
        rintro e w13 ⟨rfl, hp13, hc13⟩
        have HP13 := Lib.hid (show PZ W w13 p mb T5 D5 (.slice va5 vn5 vc5) from ⟨hp13, HM12.out.chg hc13 fun e => e (.inl rfl), HR12.out.chg hc13 fun b hb e => e (.inr hb), HP3.out.b4, HNE.out⟩)
        clear hc13 hp13 HX12 HM12 HR12
        go_wp2
        go_roundw
        case rel => exact ⟨t + 1, T5, D5, _, by omega, by go_num, Lib.hid ⟨HP13.out, HTL.out⟩⟩
        case measure => simp [intOf]; omega
      · obtain rfl : m = t := by omega
        cases hf : FR D i with
        | none =>
          have HF := Lib.hid hf
          clear hf
          go_wp2_with fail
          refine (px_role_no HP3.out.px HI.out HF.out).mono ?_
          rintro e w4 ⟨rfl, hb4⟩
          have HP4 := Lib.hid (HP3.out.on hb4)
          clear hb4
          go_wp2_with fail
          refine (px_own_no HP4.out.px HI.out HF.out).mono ?_
          rintro e w5 ⟨rfl, hb5⟩
          have HP6 := Lib.hid (HP4.out.on (ba hb5 (.cells #[.int .i64 0, .int .i64 0, .int .i64 0] 44)))
          have HH6 := Lib.hid (HBx.made w5 0 0 0)
          clear hb5
          go_upto_region 12 with (fail)
          generalize w5.alloc (.cells #[.int .i64 0, .int .i64 0, .int .i64 0] 44) = w6 at *
          generalize w5.heap.size = sb at *
          obtain ⟨m0, m1, m2, m3, m4⟩ := (HP6.out.m).cells
          have ml := (HP6.out.m).lt
          go_wp2_with fail
          clear m0 m1 m2 m3 m4 ml
          refine (ratx (T := T) HP6.out.rs i).mono ?_
          rintro e w7 ⟨z, rfl, hz, hb7⟩
          obtain rfl : z = -1 := at_none HP6.out.px.ok hz HF.out
          have HP7 := Lib.hid (HP6.out.on hb7)
          clear hz hb7
          go_upto_region 13 with (fail)
          refine Mix.regionC (fun _ => False) (by kernel_rfl) ?_
          intro w70 hb70
          refine Mix.take_exC _ _ 0 rfl (by kernel_rfl) (by kernel_rfl) (by kernel_rfl) (by kernel_rfl) (fun K hK => ?_)
          go_simp
          first | (refine hK _ ?_; clear hK K) | (apply Exists.intro; refine ⟨fun x => ?_, hK _ ?_⟩; (fail); clear hK K)
          refine Mix.take_exC _ _ 1 rfl (by kernel_rfl) (by kernel_rfl) (by kernel_rfl) (by kernel_rfl) (fun K hK => ?_)
          go_simp
          first | (refine hK _ ?_; clear hK K) | (apply Exists.intro; refine ⟨fun x => ?_, hK _ ?_⟩; (fail); clear hK K)
          refine Mix.take_exC _ _ 2 rfl (by kernel_rfl) (by kernel_rfl) (by kernel_rfl) (by kernel_rfl) (fun K hK => ?_)
          go_simp
          first | (refine hK _ ?_; clear hK K) | (apply Exists.intro; refine ⟨fun x => ?_, hK _ ?_⟩; (fail); clear hK K)
          refine Mix.take_exC _ _ 3 rfl (by kernel_rfl) (by kernel_rfl) (by kernel_rfl) (by kernel_rfl) (fun K hK => ?_)
          go_simp
          first | (refine hK _ ?_; clear hK K) | (apply Exists.intro; refine ⟨fun x => ?_, hK _ ?_⟩; (fail); clear hK K)
          refine Mix.take_exC _ _ 4 rfl (by kernel_rfl) (by kernel_rfl) (by kernel_rfl) (by kernel_rfl) (fun K hK => ?_)
          go_simp
          first | (refine hK _ ?_; clear hK K) | (apply Exists.intro; refine ⟨fun x => ?_, hK _ ?_⟩; (fail); clear hK K)
          refine Mix.take_exC _ _ 5 rfl (by kernel_rfl) (by kernel_rfl) (by kernel_rfl) (by kernel_rfl) (fun K hK => ?_)
          go_simp
          first | (refine hK _ ?_; clear hK K) | (apply Exists.intro; refine ⟨fun x => ?_, hK _ ?_⟩; (fail); clear hK K)
          refine Mix.take_exC _ _ 6 rfl (by kernel_rfl) (by kernel_rfl) (by kernel_rfl) (by kernel_rfl) (fun K hK => ?_)
          go_simp
          first | (refine hK _ ?_; clear hK K) | (apply Exists.intro; refine ⟨fun x => ?_, hK _ ?_⟩; (fail); clear hK K)
          refine Mix.take_exC _ _ 7 rfl (by kernel_rfl) (by kernel_rfl) (by kernel_rfl) (by kernel_rfl) (fun K hK => ?_)
          go_simp
          first | (refine hK _ ?_; clear hK K) | (apply Exists.intro; refine ⟨fun x => ?_, hK _ ?_⟩; (fail); clear hK K)
          refine Mix.take_exC _ _ 8 rfl (by kernel_rfl) (by kernel_rfl) (by kernel_rfl) (by kernel_rfl) (fun K hK => ?_)
          go_simp
          first | (refine hK _ ?_; clear hK K) | (apply Exists.intro; refine ⟨fun x => ?_, hK _ ?_⟩; (fail); clear hK K)
          refine Mix.take_exC _ _ 9 rfl (by kernel_rfl) (by kernel_rfl) (by kernel_rfl) (by kernel_rfl) (fun K hK => ?_)
          go_simp
          first | (refine hK _ ?_; clear hK K) | (apply Exists.intro; refine ⟨fun x => ?_, hK _ ?_⟩; (fail); clear hK K)
          refine Mix.take_exC _ _ 10 rfl (by kernel_rfl) (by kernel_rfl) (by kernel_rfl) (by kernel_rfl) (fun K hK => ?_)
          go_simp
          first | (refine hK _ ?_; clear hK K) | (apply Exists.intro; refine ⟨fun x => ?_, hK _ ?_⟩; (fail); clear hK K)
          refine Mix.take_exC _ _ 11 rfl (by kernel_rfl) (by kernel_rfl) (by kernel_rfl) (by kernel_rfl) (fun K hK => ?_)
          go_simp
          first | (refine hK _ ?_; clear hK K) | (apply Exists.intro; refine ⟨fun x => ?_, hK _ ?_⟩; (fail); clear hK K)
          refine Mix.skip_C _ _ 12 rfl (by kernel_rfl) (by kernel_rfl) (by kernel_rfl) (by kernel_rfl) ?_
          go_simp
          refine Mix.skip_C _ _ 13 rfl (by kernel_rfl) (by kernel_rfl) (by kernel_rfl) (by kernel_rfl) ?_
          go_simp
          refine Mix.skip_C _ _ 14 rfl (by kernel_rfl) (by kernel_rfl) (by kernel_rfl) (by kernel_rfl) ?_
          go_simp
          refine Mix.skip_C _ _ 15 rfl (by kernel_rfl) (by kernel_rfl) (by kernel_rfl) (by kernel_rfl) ?_
          go_simp
          refine Mix.skip_C _ _ 16 rfl (by kernel_rfl) (by kernel_rfl) (by kernel_rfl) (by kernel_rfl) ?_
          go_simp
          refine Mix.skip_C _ _ 17 rfl (by kernel_rfl) (by kernel_rfl) (by kernel_rfl) (by kernel_rfl) ?_
          go_simp
          refine Mix.skip_C _ _ 18 rfl (by kernel_rfl) (by kernel_rfl) (by kernel_rfl) (by kernel_rfl) ?_
          go_simp
          refine Mix.skip_C _ _ 19 rfl (by kernel_rfl) (by kernel_rfl) (by kernel_rfl) (by kernel_rfl) ?_
          go_simp
          refine Mix.skip_C _ _ 20 rfl (by kernel_rfl) (by kernel_rfl) (by kernel_rfl) (by kernel_rfl) ?_
          go_simp
          refine Mix.skip_C _ _ 21 rfl (by kernel_rfl) (by kernel_rfl) (by kernel_rfl) (by kernel_rfl) ?_
          go_simp
          refine Mix.skip_C _ _ 22 rfl (by kernel_rfl) (by kernel_rfl) (by kernel_rfl) (by kernel_rfl) ?_
          go_simp
          refine Mix.skip_C _ _ 23 rfl (by kernel_rfl) (by kernel_rfl) (by kernel_rfl) (by kernel_rfl) ?_
          go_simp
          refine Mix.skip_C _ _ 24 rfl (by kernel_rfl) (by kernel_rfl) (by kernel_rfl) (by kernel_rfl) ?_
          go_simp
          refine Mix.skip_C _ _ 25 rfl (by kernel_rfl) (by kernel_rfl) (by kernel_rfl) (by kernel_rfl) ?_
          go_simp
          refine Mix.skip_C _ _ 26 rfl (by kernel_rfl) (by kernel_rfl) (by kernel_rfl) (by kernel_rfl) ?_
          go_simp
          refine Mix.skip_C _ _ 27 rfl (by kernel_rfl) (by kernel_rfl) (by kernel_rfl) (by kernel_rfl) ?_
          go_simp
          refine Mix.skip_C _ _ 28 rfl (by kernel_rfl) (by kernel_rfl) (by kernel_rfl) (by kernel_rfl) ?_
          go_simp
          refine Mix.skip_C _ _ 29 rfl (by kernel_rfl) (by kernel_rfl) (by kernel_rfl) (by kernel_rfl) ?_
          go_simp
          refine Mix.skip_C _ _ 30 rfl (by kernel_rfl) (by kernel_rfl) (by kernel_rfl) (by kernel_rfl) ?_
          go_simp
          refine Mix.skip_C _ _ 31 rfl (by kernel_rfl) (by kernel_rfl) (by kernel_rfl) (by kernel_rfl) ?_
          go_simp
          refine Mix.skip_C _ _ 32 rfl (by kernel_rfl) (by kernel_rfl) (by kernel_rfl) (by kernel_rfl) ?_
          go_simp
          refine Mix.skip_C _ _ 33 rfl (by kernel_rfl) (by kernel_rfl) (by kernel_rfl) (by kernel_rfl) ?_
          go_simp
          refine Mix.skip_C _ _ 34 rfl (by kernel_rfl) (by kernel_rfl) (by kernel_rfl) (by kernel_rfl) ?_
          go_simp
          refine Mix.skip_C _ _ 35 rfl (by kernel_rfl) (by kernel_rfl) (by kernel_rfl) (by kernel_rfl) ?_
          go_simp
          refine Mix.skip_C _ _ 36 rfl (by kernel_rfl) (by kernel_rfl) (by kernel_rfl) (by kernel_rfl) ?_
          go_simp
          refine Mix.skip_C _ _ 37 rfl (by kernel_rfl) (by kernel_rfl) (by kernel_rfl) (by kernel_rfl) ?_
          go_simp
          refine Mix.take_exC _ _ 38 rfl (by kernel_rfl) (by kernel_rfl) (by kernel_rfl) (by kernel_rfl) (fun K hK => ?_)
          go_simp
          first | (refine hK _ ?_; clear hK K) | (apply Exists.intro; refine ⟨fun x => ?_, hK _ ?_⟩; (fail); clear hK K)
          refine Mix.take_exC _ _ 39 rfl (by kernel_rfl) (by kernel_rfl) (by kernel_rfl) (by kernel_rfl) (fun K hK => ?_)
          go_simp
          first | (refine hK _ ?_; clear hK K) | (apply Exists.intro; refine ⟨fun x => ?_, hK _ ?_⟩; (fail); clear hK K)
          refine Mix.take_exC _ _ 40 rfl (by kernel_rfl) (by kernel_rfl) (by kernel_rfl) (by kernel_rfl) (fun K hK => ?_)
          go_simp
          first | (refine hK _ ?_; clear hK K) | (apply Exists.intro; refine ⟨fun x => ?_, hK _ ?_⟩; (fail); clear hK K)
          refine Mix.take_exC _ _ 41 rfl (by kernel_rfl) (by kernel_rfl) (by kernel_rfl) (by kernel_rfl) (fun K hK => ?_)
          go_simp
          first | (refine hK _ ?_; clear hK K) | (apply Exists.intro; refine ⟨fun x => ?_, hK _ ?_⟩; (fail); clear hK K)
          refine Mix.take_exC _ _ 42 rfl (by kernel_rfl) (by kernel_rfl) (by kernel_rfl) (by kernel_rfl) (fun K hK => ?_)
          go_simp
          first | (refine hK _ ?_; clear hK K) | (apply Exists.intro; refine ⟨fun x => ?_, hK _ ?_⟩; (fail); clear hK K)
          refine Mix.take_exC _ _ 43 rfl (by kernel_rfl) (by kernel_rfl) (by kernel_rfl) (by kernel_rfl) (fun K hK => ?_)
          go_simp
          first | (refine hK _ ?_; clear hK K) | (apply Exists.intro; refine ⟨fun x => ?_, hK _ ?_⟩; (fail); clear hK K)
          refine Mix.take_exC _ _ 44 rfl (by kernel_rfl) (by kernel_rfl) (by kernel_rfl) (by kernel_rfl) (fun K hK => ?_)
          go_simp
          first | (refine hK _ ?_; clear hK K) | (apply Exists.intro; refine ⟨fun x => ?_, hK _ ?_⟩; (fail); clear hK K)
          refine Mix.take_exC _ _ 45 rfl (by kernel_rfl) (by kernel_rfl) (by kernel_rfl) (by kernel_rfl) (fun K hK => ?_)
          go_simp
          first | (refine hK _ ?_; clear hK K) | (apply Exists.intro; refine ⟨fun x => ?_, hK _ ?_⟩; (fail); clear hK K)
          refine Mix.take_exC _ _ 46 rfl (by kernel_rfl) (by kernel_rfl) (by kernel_rfl) (by kernel_rfl) (fun K hK => ?_)
          go_simp
          first | (refine hK _ ?_; clear hK K) | (apply Exists.intro; refine ⟨fun x => ?_, hK _ ?_⟩; (fail); clear hK K)
          refine Mix.take_exC _ _ 47 rfl (by kernel_rfl) (by kernel_rfl) (by kernel_rfl) (by kernel_rfl) (fun K hK => ?_)
          go_simp
          first | (refine hK _ ?_; clear hK K) | (apply Exists.intro; refine ⟨fun x => ?_, hK _ ?_⟩; (fail); clear hK K)
          refine Mix.done (by kernel_rfl) (.of_below _ hb70) ?_
          intro w8 hb8
          have HP8 := Lib.hid (HP7.out.on (bt hb70 hb8))
          clear hb70 hb8
          cases hg : GT D r with
          | none =>
            have HG := Lib.hid hg
            have hnil := role_none hg
            have HRR := Lib.hid fun w' (h : PZ W w' p mb T D (.slice va vn vc)) => rrolex (T := T) h.rs h.px.ok (by omega) r
            rw [hnil] at HRR
            clear hg hnil
            go_wp2_with fail
            refine (px_weight_no HP8.out.px HRI.out HG.out).mono ?_
            rintro e w9 ⟨rfl, hb9⟩
            have HP9 := Lib.hid (HP8.out.on hb9)
            clear hb9
            go_wp2_with fail
            refine (px_share_no HP9.out.px HRI.out HG.out).mono ?_
            rintro e w10 ⟨rfl, hb10⟩
            have HP11 := Lib.hid (HP9.out.on (ba hb10 (.cells #[.int .i64 0, .int .i64 0, .int .i64 0] 44)))
            clear hb10
            go_upto_region 17 with (fail)
            generalize w10.alloc (.cells #[.int .i64 0, .int .i64 0, .int .i64 0] 44) = w11 at *
            obtain ⟨m0, m1, m2, m3, m4⟩ := (HP11.out.m).cells
            have ml := (HP11.out.m).lt
            go_wp2_with fail
            clear m0 m1 m2 m3 m4 ml
            refine (HRR.out w11 HP11.out).mono ?_
            rintro e w12 ⟨rfl, hb12⟩
            have HP13 := Lib.hid (HP11.out.on (ba hb12 (.cells (C4 (SU [])) 25)))
            have hl0 : lastW [] = 0 := rfl
            rw [hl0]
            have hdn : decide (([] : List Fd) ≠ []) = false := by simp
            rw [hdn]
            clear hb12 hl0 hdn
            go_upto_region 18 with (fail)
            generalize w12.alloc (.cells (C4 (SU [])) 25) = w13 at *
            refine Mix.regionC (fun _ => False) (by kernel_rfl) ?_
            intro w14 hb14
            refine Mix.take_exC _ _ 0 rfl (by kernel_rfl) (by kernel_rfl) (by kernel_rfl) (by kernel_rfl) (fun K hK => ?_)
            go_simp
            first | (refine hK _ ?_; clear hK K) | (apply Exists.intro; refine ⟨fun x => ?_, hK _ ?_⟩; (fail); clear hK K)
            refine Mix.take_exC _ _ 1 rfl (by kernel_rfl) (by kernel_rfl) (by kernel_rfl) (by kernel_rfl) (fun K hK => ?_)
            go_simp
            first | (refine hK _ ?_; clear hK K) | (apply Exists.intro; refine ⟨fun x => ?_, hK _ ?_⟩; (fail); clear hK K)
            refine Mix.take_exC _ _ 2 rfl (by kernel_rfl) (by kernel_rfl) (by kernel_rfl) (by kernel_rfl) (fun K hK => ?_)
            go_simp
            first | (refine hK _ ?_; clear hK K) | (apply Exists.intro; refine ⟨fun x => ?_, hK _ ?_⟩; (fail); clear hK K)
            refine Mix.take_exC _ _ 3 rfl (by kernel_rfl) (by kernel_rfl) (by kernel_rfl) (by kernel_rfl) (fun K hK => ?_)
            go_simp
            first | (refine hK _ ?_; clear hK K) | (apply Exists.intro; refine ⟨fun x => ?_, hK _ ?_⟩; (fail); clear hK K)
            refine Mix.take_exC _ _ 4 rfl (by kernel_rfl) (by kernel_rfl) (by kernel_rfl) (by kernel_rfl) (fun K hK => ?_)
            go_simp
            first | (refine hK _ ?_; clear hK K) | (apply Exists.intro; refine ⟨fun x => ?_, hK _ ?_⟩; (fail); clear hK K)
            refine Mix.take_exC _ _ 5 rfl (by kernel_rfl) (by kernel_rfl) (by kernel_rfl) (by kernel_rfl) (fun K hK => ?_)
            go_simp
            first | (refine hK _ ?_; clear hK K) | (apply Exists.intro; refine ⟨fun x => ?_, hK _ ?_⟩; (fail); clear hK K)
            refine Mix.take_exC _ _ 6 rfl (by kernel_rfl) (by kernel_rfl) (by kernel_rfl) (by kernel_rfl) (fun K hK => ?_)
            go_simp
            first | (refine hK _ ?_; clear hK K) | (apply Exists.intro; refine ⟨fun x => ?_, hK _ ?_⟩; (fail); clear hK K)
            refine Mix.take_exC _ _ 7 rfl (by kernel_rfl) (by kernel_rfl) (by kernel_rfl) (by kernel_rfl) (fun K hK => ?_)
            go_simp
            first | (refine hK _ ?_; clear hK K) | (apply Exists.intro; refine ⟨fun x => ?_, hK _ ?_⟩; (fail); clear hK K)
            refine Mix.take_exC _ _ 8 rfl (by kernel_rfl) (by kernel_rfl) (by kernel_rfl) (by kernel_rfl) (fun K hK => ?_)
            go_simp
            first | (refine hK _ ?_; clear hK K) | (apply Exists.intro; refine ⟨fun x => ?_, hK _ ?_⟩; (fail); clear hK K)
            refine Mix.take_exC _ _ 9 rfl (by kernel_rfl) (by kernel_rfl) (by kernel_rfl) (by kernel_rfl) (fun K hK => ?_)
            go_simp
            first | (refine hK _ ?_; clear hK K) | (apply Exists.intro; refine ⟨fun x => ?_, hK _ ?_⟩; (fail); clear hK K)
            refine Mix.take_exC _ _ 10 rfl (by kernel_rfl) (by kernel_rfl) (by kernel_rfl) (by kernel_rfl) (fun K hK => ?_)
            go_simp
            first | (refine hK _ ?_; clear hK K) | (apply Exists.intro; refine ⟨fun x => ?_, hK _ ?_⟩; (fail); clear hK K)
            refine Mix.take_exC _ _ 11 rfl (by kernel_rfl) (by kernel_rfl) (by kernel_rfl) (by kernel_rfl) (fun K hK => ?_)
            go_simp
            first | (refine hK _ ?_; clear hK K) | (apply Exists.intro; refine ⟨fun x => ?_, hK _ ?_⟩; (fail); clear hK K)
            refine Mix.take_exC _ _ 12 rfl (by kernel_rfl) (by kernel_rfl) (by kernel_rfl) (by kernel_rfl) (fun K hK => ?_)
            go_simp
            first | (refine hK _ ?_; clear hK K) | (apply Exists.intro; refine ⟨fun x => ?_, hK _ ?_⟩; (fail); clear hK K)
            refine Mix.take_exC _ _ 13 rfl (by kernel_rfl) (by kernel_rfl) (by kernel_rfl) (by kernel_rfl) (fun K hK => ?_)
            go_simp
            first | (refine hK _ ?_; clear hK K) | (apply Exists.intro; refine ⟨fun x => ?_, hK _ ?_⟩; (fail); clear hK K)
            refine Mix.take_exC _ _ 14 rfl (by kernel_rfl) (by kernel_rfl) (by kernel_rfl) (by kernel_rfl) (fun K hK => ?_)
            go_simp
            first | (refine hK _ ?_; clear hK K) | (apply Exists.intro; refine ⟨fun x => ?_, hK _ ?_⟩; (fail); clear hK K)
            refine Mix.take_exC _ _ 15 rfl (by kernel_rfl) (by kernel_rfl) (by kernel_rfl) (by kernel_rfl) (fun K hK => ?_)
            go_simp
            first | (refine hK _ ?_; clear hK K) | (apply Exists.intro; refine ⟨fun x => ?_, hK _ ?_⟩; (fail); clear hK K)
            refine Mix.take_exC _ _ 16 rfl (by kernel_rfl) (by kernel_rfl) (by kernel_rfl) (by kernel_rfl) (fun K hK => ?_)
            go_simp
            first | (refine hK _ ?_; clear hK K) | (apply Exists.intro; refine ⟨fun x => ?_, hK _ ?_⟩; (fail); clear hK K)
            refine Mix.skip_C _ _ 17 rfl (by kernel_rfl) (by kernel_rfl) (by kernel_rfl) (by kernel_rfl) ?_
            go_simp
            refine Mix.skip_C _ _ 18 rfl (by kernel_rfl) (by kernel_rfl) (by kernel_rfl) (by kernel_rfl) ?_
            go_simp
            refine Mix.skip_C _ _ 19 rfl (by kernel_rfl) (by kernel_rfl) (by kernel_rfl) (by kernel_rfl) ?_
            go_simp
            refine Mix.skip_C _ _ 20 rfl (by kernel_rfl) (by kernel_rfl) (by kernel_rfl) (by kernel_rfl) ?_
            go_simp
            refine Mix.skip_C _ _ 21 rfl (by kernel_rfl) (by kernel_rfl) (by kernel_rfl) (by kernel_rfl) ?_
            go_simp
            refine Mix.skip_C _ _ 22 rfl (by kernel_rfl) (by kernel_rfl) (by kernel_rfl) (by kernel_rfl) ?_
            go_simp
            refine Mix.skip_C _ _ 23 rfl (by kernel_rfl) (by kernel_rfl) (by kernel_rfl) (by kernel_rfl) ?_
            go_simp
            refine Mix.skip_C _ _ 24 rfl (by kernel_rfl) (by kernel_rfl) (by kernel_rfl) (by kernel_rfl) ?_
            go_simp
            refine Mix.skip_C _ _ 25 rfl (by kernel_rfl) (by kernel_rfl) (by kernel_rfl) (by kernel_rfl) ?_
            go_simp
            refine Mix.skip_C _ _ 26 rfl (by kernel_rfl) (by kernel_rfl) (by kernel_rfl) (by kernel_rfl) ?_
            go_simp
            refine Mix.skip_C _ _ 27 rfl (by kernel_rfl) (by kernel_rfl) (by kernel_rfl) (by kernel_rfl) ?_
            go_simp
            refine Mix.skip_C _ _ 28 rfl (by kernel_rfl) (by kernel_rfl) (by kernel_rfl) (by kernel_rfl) ?_
            go_simp
            refine Mix.take_exC _ _ 29 rfl (by kernel_rfl) (by kernel_rfl) (by kernel_rfl) (by kernel_rfl) (fun K hK => ?_)
            go_simp
            first | (refine hK _ ?_; clear hK K) | (apply Exists.intro; refine ⟨fun x => ?_, hK _ ?_⟩; (fail); clear hK K)
            refine Mix.take_exC _ _ 30 rfl (by kernel_rfl) (by kernel_rfl) (by kernel_rfl) (by kernel_rfl) (fun K hK => ?_)
            go_simp
            first | (refine hK _ ?_; clear hK K) | (apply Exists.intro; refine ⟨fun x => ?_, hK _ ?_⟩; (fail); clear hK K)
            refine Mix.take_exC _ _ 31 rfl (by kernel_rfl) (by kernel_rfl) (by kernel_rfl) (by kernel_rfl) (fun K hK => ?_)
            go_simp
            first | (refine hK _ ?_; clear hK K) | (apply Exists.intro; refine ⟨fun x => ?_, hK _ ?_⟩; (fail); clear hK K)
            refine Mix.take_exC _ _ 32 rfl (by kernel_rfl) (by kernel_rfl) (by kernel_rfl) (by kernel_rfl) (fun K hK => ?_)
            go_simp
            first | (refine hK _ ?_; clear hK K) | (apply Exists.intro; refine ⟨fun x => ?_, hK _ ?_⟩; (exact pworks10 _); clear hK K)
            refine Mix.take_exC _ _ 33 rfl (by kernel_rfl) (by kernel_rfl) (by kernel_rfl) (by kernel_rfl) (fun K hK => ?_)
            go_simp
            first | (refine hK _ ?_; clear hK K) | (apply Exists.intro; refine ⟨fun x => ?_, hK _ ?_⟩; (fail); clear hK K)
            refine Mix.take_exC _ _ 34 rfl (by kernel_rfl) (by kernel_rfl) (by kernel_rfl) (by kernel_rfl) (fun K hK => ?_)
            go_simp
            first | (refine hK _ ?_; clear hK K) | (apply Exists.intro; refine ⟨fun x => ?_, hK _ ?_⟩; (fail); clear hK K)
            refine Mix.done (by kernel_rfl) (.of_below _ hb14) ?_
            intro w15 hb15
            have HP15 := Lib.hid (HP13.out.on (bt hb14 hb15))
            clear hb14 hb15
            go_wp2
            go_ret
            exact ⟨rfl, HP15.out.px.bel⟩
          | some c =>
            have HG := Lib.hid hg
            have HRR := Lib.hid fun w' (h : PZ W w' p mb T D (.slice va vn vc)) => rrolex (T := T) h.rs h.px.ok (by omega) r
            have hcs : c.s = SU (inR D r) := by obtain ⟨d, -, -, rfl⟩ := (GT_some HP8.out.px.ok).1 hg; rfl
            have hrs := role_some HP8.out.px.ok hg
            rw [hrs.1, decide_eq_true hrs.2, ← hcs] at HRR
            have HWG := Lib.hid fun w' (h : PZ W w' p mb T D (.slice va vn vc)) => px_weight h.px HRI.out hg
            have HSH := Lib.hid fun w' (h : PZ W w' p mb T D (.slice va vn vc)) => px_share h.px HRI.out hg
            have HPA := Lib.hid (rpartx T va vn vc c.s)
            obtain ⟨cn, hcn⟩ : ∃ y, y = (domV c.s T).2.1 := ⟨_, rfl⟩
            obtain ⟨cd, hcd⟩ : ∃ y, y = (domV c.s T).2.2 := ⟨_, rfl⟩
            rw [← hcn, ← hcd] at HSH HPA
            obtain ⟨cs, hcs2⟩ : ∃ y, y = c.s := ⟨_, rfl⟩
            rw [← hcs2] at HRR HPA
            obtain ⟨cw, hcw⟩ : ∃ y, y = c.wt := ⟨_, rfl⟩
            rw [← hcw] at HRR HWG HSH
            clear hg hcs hrs hcn hcd hcs2 hcw HG
            go_wp2_with fail
            refine (HWG.out w8 HP8.out).mono ?_
            rintro e w9 ⟨rfl, hb9⟩
            have HP9 := Lib.hid (HP8.out.on hb9)
            clear hb9
            go_wp2_with fail
            refine (HSH.out w9 HP9.out).mono ?_
            rintro e w10 ⟨rfl, hb10⟩
            have HP11 := Lib.hid (HP9.out.on (ba hb10 (.cells #[.int .i64 cn, .int .i64 cd, .int .i64 cw] 44)))
            have HH11 := Lib.hid (HBx.made w10 cn cd cw)
            clear hb10
            go_upto_region 17 with (fail)
            generalize w10.alloc (.cells #[.int .i64 cn, .int .i64 cd, .int .i64 cw] 44) = w11 at *
            generalize w10.heap.size = hb at *
            obtain ⟨m0, m1, m2, m3, m4⟩ := (HP11.out.m).cells
            have ml := (HP11.out.m).lt
            go_wp2_with fail
            clear m0 m1 m2 m3 m4 ml
            refine (HRR.out w11 HP11.out).mono ?_
            rintro e w12 ⟨rfl, hb12⟩
            have hb13 := ba hb12 (.cells (C4 cs) 25)
            have HP13 := Lib.hid (HP11.out.on hb13)
            have HH13 := Lib.hid (HH11.out.below hb13)
            have HS13 := Lib.hid (PBx.made w12 cs)
            clear hb12 hb13
            go_upto_region 18 with (fail)
            generalize w12.alloc (.cells (C4 cs) 25) = w13 at *
            generalize w12.heap.size = pb at *
            obtain ⟨m0, m1, m2, m3, m4⟩ := (HP13.out.m).cells
            have ml := (HP13.out.m).lt
            obtain ⟨g0, g1, g2⟩ := HH13.out.cells
            have gl := HH13.out.lt
            obtain ⟨p0, p1, p2, p3⟩ := HS13.out.cells
            have pl := HS13.out.lt
            refine Mix.regionC (fun _ => False) (by kernel_rfl) ?_
            intro w14 hb14
            refine Mix.take_exC _ _ 0 rfl (by kernel_rfl) (by kernel_rfl) (by kernel_rfl) (by kernel_rfl) (fun K hK => ?_)
            go_simp
            first | (refine hK _ ?_; clear hK K) | (apply Exists.intro; refine ⟨fun x => ?_, hK _ ?_⟩; (fail); clear hK K)
            refine Mix.take_exC _ _ 1 rfl (by kernel_rfl) (by kernel_rfl) (by kernel_rfl) (by kernel_rfl) (fun K hK => ?_)
            go_simp
            first | (refine hK _ ?_; clear hK K) | (apply Exists.intro; refine ⟨fun x => ?_, hK _ ?_⟩; (fail); clear hK K)
            refine Mix.take_exC _ _ 2 rfl (by kernel_rfl) (by kernel_rfl) (by kernel_rfl) (by kernel_rfl) (fun K hK => ?_)
            go_simp
            first | (refine hK _ ?_; clear hK K) | (apply Exists.intro; refine ⟨fun x => ?_, hK _ ?_⟩; (fail); clear hK K)
            refine Mix.take_exC _ _ 3 rfl (by kernel_rfl) (by kernel_rfl) (by kernel_rfl) (by kernel_rfl) (fun K hK => ?_)
            go_simp
            first | (refine hK _ ?_; clear hK K) | (apply Exists.intro; refine ⟨fun x => ?_, hK _ ?_⟩; (fail); clear hK K)
            refine Mix.take_exC _ _ 4 rfl (by kernel_rfl) (by kernel_rfl) (by kernel_rfl) (by kernel_rfl) (fun K hK => ?_)
            go_simp
            first | (refine hK _ ?_; clear hK K) | (apply Exists.intro; refine ⟨fun x => ?_, hK _ ?_⟩; (fail); clear hK K)
            refine Mix.take_exC _ _ 5 rfl (by kernel_rfl) (by kernel_rfl) (by kernel_rfl) (by kernel_rfl) (fun K hK => ?_)
            go_simp
            first | (refine hK _ ?_; clear hK K) | (apply Exists.intro; refine ⟨fun x => ?_, hK _ ?_⟩; (fail); clear hK K)
            refine Mix.take_exC _ _ 6 rfl (by kernel_rfl) (by kernel_rfl) (by kernel_rfl) (by kernel_rfl) (fun K hK => ?_)
            go_simp
            first | (refine hK _ ?_; clear hK K) | (apply Exists.intro; refine ⟨fun x => ?_, hK _ ?_⟩; (fail); clear hK K)
            refine Mix.take_exC _ _ 7 rfl (by kernel_rfl) (by kernel_rfl) (by kernel_rfl) (by kernel_rfl) (fun K hK => ?_)
            go_simp
            first | (refine hK _ ?_; clear hK K) | (apply Exists.intro; refine ⟨fun x => ?_, hK _ ?_⟩; (fail); clear hK K)
            refine Mix.take_exC _ _ 8 rfl (by kernel_rfl) (by kernel_rfl) (by kernel_rfl) (by kernel_rfl) (fun K hK => ?_)
            go_simp
            first | (refine hK _ ?_; clear hK K) | (apply Exists.intro; refine ⟨fun x => ?_, hK _ ?_⟩; (fail); clear hK K)
            refine Mix.take_exC _ _ 9 rfl (by kernel_rfl) (by kernel_rfl) (by kernel_rfl) (by kernel_rfl) (fun K hK => ?_)
            go_simp
            first | (refine hK _ ?_; clear hK K) | (apply Exists.intro; refine ⟨fun x => ?_, hK _ ?_⟩; (fail); clear hK K)
            refine Mix.take_exC _ _ 10 rfl (by kernel_rfl) (by kernel_rfl) (by kernel_rfl) (by kernel_rfl) (fun K hK => ?_)
            go_simp
            first | (refine hK _ ?_; clear hK K) | (apply Exists.intro; refine ⟨fun x => ?_, hK _ ?_⟩; (fail); clear hK K)
            refine Mix.take_exC _ _ 11 rfl (by kernel_rfl) (by kernel_rfl) (by kernel_rfl) (by kernel_rfl) (fun K hK => ?_)
            go_simp
            first | (refine hK _ ?_; clear hK K) | (apply Exists.intro; refine ⟨fun x => ?_, hK _ ?_⟩; (fail); clear hK K)
            refine Mix.take_exC _ _ 12 rfl (by kernel_rfl) (by kernel_rfl) (by kernel_rfl) (by kernel_rfl) (fun K hK => ?_)
            go_simp
            first | (refine hK _ ?_; clear hK K) | (apply Exists.intro; refine ⟨fun x => ?_, hK _ ?_⟩; (fail); clear hK K)
            refine Mix.take_exC _ _ 13 rfl (by kernel_rfl) (by kernel_rfl) (by kernel_rfl) (by kernel_rfl) (fun K hK => ?_)
            go_simp
            first | (refine hK _ ?_; clear hK K) | (apply Exists.intro; refine ⟨fun x => ?_, hK _ ?_⟩; (fail); clear hK K)
            refine Mix.take_exC _ _ 14 rfl (by kernel_rfl) (by kernel_rfl) (by kernel_rfl) (by kernel_rfl) (fun K hK => ?_)
            go_simp
            first | (refine hK _ ?_; clear hK K) | (apply Exists.intro; refine ⟨fun x => ?_, hK _ ?_⟩; (fail); clear hK K)
            refine Mix.take_exC _ _ 15 rfl (by kernel_rfl) (by kernel_rfl) (by kernel_rfl) (by kernel_rfl) (fun K hK => ?_)
            go_simp
            first | (refine hK _ ?_; clear hK K) | (apply Exists.intro; refine ⟨fun x => ?_, hK _ ?_⟩; (fail); clear hK K)
            refine Mix.take_exC _ _ 16 rfl (by kernel_rfl) (by kernel_rfl) (by kernel_rfl) (by kernel_rfl) (fun K hK => ?_)
            go_simp
            first | (refine hK _ ?_; clear hK K) | (apply Exists.intro; refine ⟨fun x => ?_, hK _ ?_⟩; (fail); clear hK K)
            refine Mix.take_exC _ _ 17 rfl (by kernel_rfl) (by kernel_rfl) (by kernel_rfl) (by kernel_rfl) (fun K hK => ?_)
            go_simp
            first | (refine hK _ ?_; clear hK K) | (apply Exists.intro; refine ⟨fun x => ?_, hK _ ?_⟩; (fail); clear hK K)
            refine Mix.take_exC _ _ 18 rfl (by kernel_rfl) (by kernel_rfl) (by kernel_rfl) (by kernel_rfl) (fun K hK => ?_)
            go_simp
            first | (refine hK _ ?_; clear hK K) | (apply Exists.intro; refine ⟨fun x => ?_, hK _ ?_⟩; (fail); clear hK K)
            refine Mix.take_exC _ _ 19 rfl (by kernel_rfl) (by kernel_rfl) (by kernel_rfl) (by kernel_rfl) (fun K hK => ?_)
            go_simp
            first | (refine hK _ ?_; clear hK K) | (apply Exists.intro; refine ⟨fun x => ?_, hK _ ?_⟩; (fail); clear hK K)
            refine Mix.take_exC _ _ 20 rfl (by kernel_rfl) (by kernel_rfl) (by kernel_rfl) (by kernel_rfl) (fun K hK => ?_)
            go_simp
            first | (refine hK _ ?_; clear hK K) | (apply Exists.intro; refine ⟨fun x => ?_, hK _ ?_⟩; (fail); clear hK K)
            refine Mix.take_exC _ _ 21 rfl (by kernel_rfl) (by kernel_rfl) (by kernel_rfl) (by kernel_rfl) (fun K hK => ?_)
            go_simp
            first | (refine hK _ ?_; clear hK K) | (apply Exists.intro; refine ⟨fun x => ?_, hK _ ?_⟩; (exact HPA.out _); clear hK K)
            refine Mix.take_exC _ _ 22 rfl (by kernel_rfl) (by kernel_rfl) (by kernel_rfl) (by kernel_rfl) (fun K hK => ?_)
            go_simp
            first | (refine hK _ ?_; clear hK K) | (apply Exists.intro; refine ⟨fun x => ?_, hK _ ?_⟩; (fail); clear hK K)
            refine Mix.take_exC _ _ 23 rfl (by kernel_rfl) (by kernel_rfl) (by kernel_rfl) (by kernel_rfl) (fun K hK => ?_)
            go_simp
            first | (refine hK _ ?_; clear hK K) | (apply Exists.intro; refine ⟨fun x => ?_, hK _ ?_⟩; (fail); clear hK K)
            refine Mix.take_exC _ _ 24 rfl (by kernel_rfl) (by kernel_rfl) (by kernel_rfl) (by kernel_rfl) (fun K hK => ?_)
            go_simp
            first | (refine hK _ ?_; clear hK K) | (apply Exists.intro; refine ⟨fun x => ?_, hK _ ?_⟩; (fail); clear hK K)
            refine Mix.take_exC _ _ 25 rfl (by kernel_rfl) (by kernel_rfl) (by kernel_rfl) (by kernel_rfl) (fun K hK => ?_)
            go_simp
            first | (refine hK _ ?_; clear hK K) | (apply Exists.intro; refine ⟨fun x => ?_, hK _ ?_⟩; (fail); clear hK K)
            refine Mix.take_exC _ _ 26 rfl (by kernel_rfl) (by kernel_rfl) (by kernel_rfl) (by kernel_rfl) (fun K hK => ?_)
            go_simp
            first | (refine hK _ ?_; clear hK K) | (apply Exists.intro; refine ⟨fun x => ?_, hK _ ?_⟩; (fail); clear hK K)
            refine Mix.take_exC _ _ 27 rfl (by kernel_rfl) (by kernel_rfl) (by kernel_rfl) (by kernel_rfl) (fun K hK => ?_)
            go_simp
            first | (refine hK _ ?_; clear hK K) | (apply Exists.intro; refine ⟨fun x => ?_, hK _ ?_⟩; (fail); clear hK K)
            refine Mix.take_exC _ _ 28 rfl (by kernel_rfl) (by kernel_rfl) (by kernel_rfl) (by kernel_rfl) (fun K hK => ?_)
            go_simp
            first | (refine hK _ ?_; clear hK K) | (apply Exists.intro; refine ⟨fun x => ?_, hK _ ?_⟩; (fail); clear hK K)
            refine Mix.take_exC _ _ 29 rfl (by kernel_rfl) (by kernel_rfl) (by kernel_rfl) (by kernel_rfl) (fun K hK => ?_)
            go_simp
            first | (refine hK _ ?_; clear hK K) | (apply Exists.intro; refine ⟨fun x => ?_, hK _ ?_⟩; (fail); clear hK K)
            refine Mix.take_exC _ _ 30 rfl (by kernel_rfl) (by kernel_rfl) (by kernel_rfl) (by kernel_rfl) (fun K hK => ?_)
            go_simp
            first | (refine hK _ ?_; clear hK K) | (apply Exists.intro; refine ⟨fun x => ?_, hK _ ?_⟩; (fail); clear hK K)
            refine Mix.take_exC _ _ 31 rfl (by kernel_rfl) (by kernel_rfl) (by kernel_rfl) (by kernel_rfl) (fun K hK => ?_)
            go_simp
            first | (refine hK _ ?_; clear hK K) | (apply Exists.intro; refine ⟨fun x => ?_, hK _ ?_⟩; (fail); clear hK K)
            refine Mix.take_exC _ _ 32 rfl (by kernel_rfl) (by kernel_rfl) (by kernel_rfl) (by kernel_rfl) (fun K hK => ?_)
            go_simp
            first | (refine hK _ ?_; clear hK K) | (apply Exists.intro; refine ⟨fun x => ?_, hK _ ?_⟩; (exact pworks10 _); clear hK K)
            refine Mix.take_exC _ _ 33 rfl (by kernel_rfl) (by kernel_rfl) (by kernel_rfl) (by kernel_rfl) (fun K hK => ?_)
            go_simp
            first | (refine hK _ ?_; clear hK K) | (apply Exists.intro; refine ⟨fun x => ?_, hK _ ?_⟩; (fail); clear hK K)
            refine Mix.take_exC _ _ 34 rfl (by kernel_rfl) (by kernel_rfl) (by kernel_rfl) (by kernel_rfl) (fun K hK => ?_)
            go_simp
            first | (refine hK _ ?_; clear hK K) | (apply Exists.intro; refine ⟨fun x => ?_, hK _ ?_⟩; (fail); clear hK K)
            refine Mix.done (by kernel_rfl) (.of_below _ hb14) ?_
            intro w15 hb15
            have HP15 := Lib.hid (HP13.out.on (bt hb14 hb15))
            clear hb14 hb15 g0 g1 g2 gl p0 p1 p2 p3 pl
            clear m0 m1 m2 m3 m4 ml
            go_wp2
            go_ret
            exact ⟨rfl, HP15.out.px.bel⟩
        | some q =>
          obtain ⟨x, hx, hxr, hxi⟩ := (FR_some HP3.out.px.ok).1 hf
          obtain ⟨A, B, hD⟩ := parted hx
          subst hxi
          have hrl := fun w' (h : PZ W w' p mb T D (.slice va vn vc)) => px_role (x := x) (A := A) (B := B) (T := T) (W := W) (p := p) (P := fun b => b = mb ∨ (Value.slice va vn vc).ownBlock = some b) (w := w') (by rw [← hD]; exact h.px)
          have how := fun w' (h : PZ W w' p mb T D (.slice va vn vc)) => px_own (x := x) (A := A) (B := B) (T := T) (W := W) (p := p) (P := fun b => b = mb ∨ (Value.slice va vn vc).ownBlock = some b) (w := w') (by rw [← hD]; exact h.px)
          have hta : D[A.length]? = some x := by rw [hD]; exact mid_at A B x
          have hat0 : ∀ z, AtX D x.id z → z = (A.length : Int) := fun z hz => at_is (A := A) (B := B) (x := x) (by rw [← hD]; exact HP3.out.px.ok) (by rw [← hD]; exact hz)
          obtain ⟨k, hk⟩ : ∃ k : Nat, k = A.length := ⟨_, rfl⟩
          rw [← hk] at hta hat0
          have HAX := Lib.hid hat0; have HTA := Lib.hid hta
          have HPB := Lib.hid (rpartx T va vn vc x.s)
          obtain ⟨xn, hxn⟩ : ∃ y, y = (domV x.s T).2.1 := ⟨_, rfl⟩
          obtain ⟨xd, hxd⟩ : ∃ y, y = (domV x.s T).2.2 := ⟨_, rfl⟩
          rw [← hxn, ← hxd] at HPB how
          have HRL := Lib.hid hrl; have HOW := Lib.hid how
          clear hf hx hxr hD hrl how hta hat0 hk hxn hxd
          go_wp2_with fail
          refine (HRL.out w3 HP3.out).mono ?_
          rintro e w4 ⟨rfl, hb4⟩
          have HP4 := Lib.hid (HP3.out.on hb4)
          clear hb4
          go_wp2_with fail
          refine (HOW.out w4 HP4.out).mono ?_
          rintro e w5 ⟨rfl, hb5⟩
          have HP6 := Lib.hid (HP4.out.on (ba hb5 (.cells #[.int .i64 xn, .int .i64 xd, .int .i64 1] 44)))
          have HH6 := Lib.hid (HBx.made w5 xn xd 1)
          clear hb5
          go_upto_region 12 with (fail)
          generalize w5.alloc (.cells #[.int .i64 xn, .int .i64 xd, .int .i64 1] 44) = w6 at *
          generalize w5.heap.size = sb at *
          obtain ⟨m0, m1, m2, m3, m4⟩ := (HP6.out.m).cells
          have ml := (HP6.out.m).lt
          go_wp2_with fail
          clear m0 m1 m2 m3 m4 ml
          refine (ratx (T := T) HP6.out.rs x.id).mono ?_
          rintro e w7 ⟨z, rfl, hz, hb7⟩
          obtain rfl : z = (k : Int) := HAX.out z hz
          have HP7 := Lib.hid (HP6.out.on hb7)
          have HH7 := Lib.hid (HH6.out.below hb7)
          clear hz hb7
          obtain ⟨g0, g1, g2⟩ := HH7.out.cells
          have gl := HH7.out.lt
          obtain ⟨a7, n7, c7, he7, hn7, -, -, hat7⟩ := HP7.out.rs.at_
          obtain ⟨bs, off, hva, hbs, hcell⟩ := hat7 k x HTA.out
          have hnk : k < vn := by
            have h1 := (List.getElem?_eq_some_iff.1 HTA.out).1
            cases he7; omega
          obtain rfl : va = some ⟨bs, off, none⟩ := by cases he7; exact hva
          have f2 := hcell 2 _ rfl
          have f3 := hcell 3 _ rfl
          have f4 := hcell 4 _ rfl
          have f5 := hcell 5 _ rfl
          have f6 := hcell 6 _ rfl
          clear he7 hn7 hat7 hva hcell
          obtain ⟨m0, m1, m2, m3, m4⟩ := (HP7.out.m).cells
          have ml := (HP7.out.m).lt
          have hki : (k : Int) < (vn : Int) := by omega
          have hk0 : (0 : Int) ≤ (k : Int) := by omega
          go_upto_region 13 with (fail)
          refine Mix.regionC (fun _ => False) (by kernel_rfl) ?_
          intro w70 hb70
          refine Mix.take_exC _ _ 0 rfl (by kernel_rfl) (by kernel_rfl) (by kernel_rfl) (by kernel_rfl) (fun K hK => ?_)
          go_simp
          first | (refine hK _ ?_; clear hK K) | (apply Exists.intro; refine ⟨fun x => ?_, hK _ ?_⟩; (fail); clear hK K)
          refine Mix.take_exC _ _ 1 rfl (by kernel_rfl) (by kernel_rfl) (by kernel_rfl) (by kernel_rfl) (fun K hK => ?_)
          go_simp
          first | (refine hK _ ?_; clear hK K) | (apply Exists.intro; refine ⟨fun x => ?_, hK _ ?_⟩; (fail); clear hK K)
          refine Mix.take_exC _ _ 2 rfl (by kernel_rfl) (by kernel_rfl) (by kernel_rfl) (by kernel_rfl) (fun K hK => ?_)
          go_simp
          first | (refine hK _ ?_; clear hK K) | (apply Exists.intro; refine ⟨fun x => ?_, hK _ ?_⟩; (fail); clear hK K)
          refine Mix.take_exC _ _ 3 rfl (by kernel_rfl) (by kernel_rfl) (by kernel_rfl) (by kernel_rfl) (fun K hK => ?_)
          go_simp
          first | (refine hK _ ?_; clear hK K) | (apply Exists.intro; refine ⟨fun x => ?_, hK _ ?_⟩; (fail); clear hK K)
          refine Mix.take_exC _ _ 4 rfl (by kernel_rfl) (by kernel_rfl) (by kernel_rfl) (by kernel_rfl) (fun K hK => ?_)
          go_simp
          first | (refine hK _ ?_; clear hK K) | (apply Exists.intro; refine ⟨fun x => ?_, hK _ ?_⟩; (fail); clear hK K)
          refine Mix.take_exC _ _ 5 rfl (by kernel_rfl) (by kernel_rfl) (by kernel_rfl) (by kernel_rfl) (fun K hK => ?_)
          go_simp
          first | (refine hK _ ?_; clear hK K) | (apply Exists.intro; refine ⟨fun x => ?_, hK _ ?_⟩; (fail); clear hK K)
          refine Mix.take_exC _ _ 6 rfl (by kernel_rfl) (by kernel_rfl) (by kernel_rfl) (by kernel_rfl) (fun K hK => ?_)
          go_simp
          first | (refine hK _ ?_; clear hK K) | (apply Exists.intro; refine ⟨fun x => ?_, hK _ ?_⟩; (fail); clear hK K)
          refine Mix.take_exC _ _ 7 rfl (by kernel_rfl) (by kernel_rfl) (by kernel_rfl) (by kernel_rfl) (fun K hK => ?_)
          go_simp
          first | (refine hK _ ?_; clear hK K) | (apply Exists.intro; refine ⟨fun x => ?_, hK _ ?_⟩; (fail); clear hK K)
          refine Mix.take_exC _ _ 8 rfl (by kernel_rfl) (by kernel_rfl) (by kernel_rfl) (by kernel_rfl) (fun K hK => ?_)
          go_simp
          first | (refine hK _ ?_; clear hK K) | (apply Exists.intro; refine ⟨fun x => ?_, hK _ ?_⟩; (fail); clear hK K)
          refine Mix.take_exC _ _ 9 rfl (by kernel_rfl) (by kernel_rfl) (by kernel_rfl) (by kernel_rfl) (fun K hK => ?_)
          go_simp
          first | (refine hK _ ?_; clear hK K) | (apply Exists.intro; refine ⟨fun x => ?_, hK _ ?_⟩; (fail); clear hK K)
          refine Mix.take_exC _ _ 10 rfl (by kernel_rfl) (by kernel_rfl) (by kernel_rfl) (by kernel_rfl) (fun K hK => ?_)
          go_simp
          first | (refine hK _ ?_; clear hK K) | (apply Exists.intro; refine ⟨fun x => ?_, hK _ ?_⟩; (fail); clear hK K)
          refine Mix.take_exC _ _ 11 rfl (by kernel_rfl) (by kernel_rfl) (by kernel_rfl) (by kernel_rfl) (fun K hK => ?_)
          go_simp
          first | (refine hK _ ?_; clear hK K) | (apply Exists.intro; refine ⟨fun x => ?_, hK _ ?_⟩; (fail); clear hK K)
          refine Mix.take_exC _ _ 12 rfl (by kernel_rfl) (by kernel_rfl) (by kernel_rfl) (by kernel_rfl) (fun K hK => ?_)
          go_simp
          first | (refine hK _ ?_; clear hK K) | (apply Exists.intro; refine ⟨fun x => ?_, hK _ ?_⟩; (fail); clear hK K)
          refine Mix.take_exC _ _ 13 rfl (by kernel_rfl) (by kernel_rfl) (by kernel_rfl) (by kernel_rfl) (fun K hK => ?_)
          go_simp
          first | (refine hK _ ?_; clear hK K) | (apply Exists.intro; refine ⟨fun x => ?_, hK _ ?_⟩; (fail); clear hK K)
          refine Mix.take_exC _ _ 14 rfl (by kernel_rfl) (by kernel_rfl) (by kernel_rfl) (by kernel_rfl) (fun K hK => ?_)
          go_simp
          first | (refine hK _ ?_; clear hK K) | (apply Exists.intro; refine ⟨fun x => ?_, hK _ ?_⟩; (fail); clear hK K)
          refine Mix.take_exC _ _ 15 rfl (by kernel_rfl) (by kernel_rfl) (by kernel_rfl) (by kernel_rfl) (fun K hK => ?_)
          go_simp
          first | (refine hK _ ?_; clear hK K) | (apply Exists.intro; refine ⟨fun x => ?_, hK _ ?_⟩; (fail); clear hK K)
          refine Mix.take_exC _ _ 16 rfl (by kernel_rfl) (by kernel_rfl) (by kernel_rfl) (by kernel_rfl) (fun K hK => ?_)
          go_simp
          first | (refine hK _ ?_; clear hK K) | (apply Exists.intro; refine ⟨fun x => ?_, hK _ ?_⟩; (fail); clear hK K)
          refine Mix.take_exC _ _ 17 rfl (by kernel_rfl) (by kernel_rfl) (by kernel_rfl) (by kernel_rfl) (fun K hK => ?_)
          go_simp
          first | (refine hK _ ?_; clear hK K) | (apply Exists.intro; refine ⟨fun x => ?_, hK _ ?_⟩; (fail); clear hK K)
          refine Mix.take_exC _ _ 18 rfl (by kernel_rfl) (by kernel_rfl) (by kernel_rfl) (by kernel_rfl) (fun K hK => ?_)
          go_simp
          first | (refine hK _ ?_; clear hK K) | (apply Exists.intro; refine ⟨fun x => ?_, hK _ ?_⟩; (fail); clear hK K)
          refine Mix.take_exC _ _ 19 rfl (by kernel_rfl) (by kernel_rfl) (by kernel_rfl) (by kernel_rfl) (fun K hK => ?_)
          go_simp
          first | (refine hK _ ?_; clear hK K) | (apply Exists.intro; refine ⟨fun x => ?_, hK _ ?_⟩; (fail); clear hK K)
          refine Mix.take_exC _ _ 20 rfl (by kernel_rfl) (by kernel_rfl) (by kernel_rfl) (by kernel_rfl) (fun K hK => ?_)
          go_simp
          first | (refine hK _ ?_; clear hK K) | (apply Exists.intro; refine ⟨fun x => ?_, hK _ ?_⟩; (fail); clear hK K)
          refine Mix.take_exC _ _ 21 rfl (by kernel_rfl) (by kernel_rfl) (by kernel_rfl) (by kernel_rfl) (fun K hK => ?_)
          go_simp
          first | (refine hK _ ?_; clear hK K) | (apply Exists.intro; refine ⟨fun x => ?_, hK _ ?_⟩; (fail); clear hK K)
          refine Mix.take_exC _ _ 22 rfl (by kernel_rfl) (by kernel_rfl) (by kernel_rfl) (by kernel_rfl) (fun K hK => ?_)
          go_simp
          first | (refine hK _ ?_; clear hK K) | (apply Exists.intro; refine ⟨fun x => ?_, hK _ ?_⟩; (fail); clear hK K)
          refine Mix.take_exC _ _ 23 rfl (by kernel_rfl) (by kernel_rfl) (by kernel_rfl) (by kernel_rfl) (fun K hK => ?_)
          go_simp
          first | (refine hK _ ?_; clear hK K) | (apply Exists.intro; refine ⟨fun x => ?_, hK _ ?_⟩; (fail); clear hK K)
          refine Mix.take_exC _ _ 24 rfl (by kernel_rfl) (by kernel_rfl) (by kernel_rfl) (by kernel_rfl) (fun K hK => ?_)
          go_simp
          first | (refine hK _ ?_; clear hK K) | (apply Exists.intro; refine ⟨fun x => ?_, hK _ ?_⟩; (fail); clear hK K)
          refine Mix.take_exC _ _ 25 rfl (by kernel_rfl) (by kernel_rfl) (by kernel_rfl) (by kernel_rfl) (fun K hK => ?_)
          go_simp
          first | (refine hK _ ?_; clear hK K) | (apply Exists.intro; refine ⟨fun x => ?_, hK _ ?_⟩; (fail); clear hK K)
          refine Mix.take_exC _ _ 26 rfl (by kernel_rfl) (by kernel_rfl) (by kernel_rfl) (by kernel_rfl) (fun K hK => ?_)
          go_simp
          first | (refine hK _ ?_; clear hK K) | (apply Exists.intro; refine ⟨fun x => ?_, hK _ ?_⟩; (fail); clear hK K)
          refine Mix.take_exC _ _ 27 rfl (by kernel_rfl) (by kernel_rfl) (by kernel_rfl) (by kernel_rfl) (fun K hK => ?_)
          go_simp
          first | (refine hK _ ?_; clear hK K) | (apply Exists.intro; refine ⟨fun x => ?_, hK _ ?_⟩; (fail); clear hK K)
          refine Mix.take_exC _ _ 28 rfl (by kernel_rfl) (by kernel_rfl) (by kernel_rfl) (by kernel_rfl) (fun K hK => ?_)
          go_simp
          first | (refine hK _ ?_; clear hK K) | (apply Exists.intro; refine ⟨fun x => ?_, hK _ ?_⟩; (fail); clear hK K)
          refine Mix.take_exC _ _ 29 rfl (by kernel_rfl) (by kernel_rfl) (by kernel_rfl) (by kernel_rfl) (fun K hK => ?_)
          go_simp
          first | (refine hK _ ?_; clear hK K) | (apply Exists.intro; refine ⟨fun x => ?_, hK _ ?_⟩; (fail); clear hK K)
          refine Mix.take_exC _ _ 30 rfl (by kernel_rfl) (by kernel_rfl) (by kernel_rfl) (by kernel_rfl) (fun K hK => ?_)
          go_simp
          first | (refine hK _ ?_; clear hK K) | (apply Exists.intro; refine ⟨fun x => ?_, hK _ ?_⟩; (exact HPB.out _); clear hK K)
          refine Mix.take_exC _ _ 31 rfl (by kernel_rfl) (by kernel_rfl) (by kernel_rfl) (by kernel_rfl) (fun K hK => ?_)
          go_simp
          first | (refine hK _ ?_; clear hK K) | (apply Exists.intro; refine ⟨fun x => ?_, hK _ ?_⟩; (fail); clear hK K)
          refine Mix.take_exC _ _ 32 rfl (by kernel_rfl) (by kernel_rfl) (by kernel_rfl) (by kernel_rfl) (fun K hK => ?_)
          go_simp
          first | (refine hK _ ?_; clear hK K) | (apply Exists.intro; refine ⟨fun x => ?_, hK _ ?_⟩; (fail); clear hK K)
          refine Mix.take_exC _ _ 33 rfl (by kernel_rfl) (by kernel_rfl) (by kernel_rfl) (by kernel_rfl) (fun K hK => ?_)
          go_simp
          first | (refine hK _ ?_; clear hK K) | (apply Exists.intro; refine ⟨fun x => ?_, hK _ ?_⟩; (fail); clear hK K)
          refine Mix.take_exC _ _ 34 rfl (by kernel_rfl) (by kernel_rfl) (by kernel_rfl) (by kernel_rfl) (fun K hK => ?_)
          go_simp
          first | (refine hK _ ?_; clear hK K) | (apply Exists.intro; refine ⟨fun x => ?_, hK _ ?_⟩; (fail); clear hK K)
          refine Mix.take_exC _ _ 35 rfl (by kernel_rfl) (by kernel_rfl) (by kernel_rfl) (by kernel_rfl) (fun K hK => ?_)
          go_simp
          first | (refine hK _ ?_; clear hK K) | (apply Exists.intro; refine ⟨fun x => ?_, hK _ ?_⟩; (fail); clear hK K)
          refine Mix.take_exC _ _ 36 rfl (by kernel_rfl) (by kernel_rfl) (by kernel_rfl) (by kernel_rfl) (fun K hK => ?_)
          go_simp
          first | (refine hK _ ?_; clear hK K) | (apply Exists.intro; refine ⟨fun x => ?_, hK _ ?_⟩; (fail); clear hK K)
          refine Mix.take_exC _ _ 37 rfl (by kernel_rfl) (by kernel_rfl) (by kernel_rfl) (by kernel_rfl) (fun K hK => ?_)
          go_simp
          first | (refine hK _ ?_; clear hK K) | (apply Exists.intro; refine ⟨fun x => ?_, hK _ ?_⟩; (fail); clear hK K)
          refine Mix.take_exC _ _ 38 rfl (by kernel_rfl) (by kernel_rfl) (by kernel_rfl) (by kernel_rfl) (fun K hK => ?_)
          go_simp
          first | (refine hK _ ?_; clear hK K) | (apply Exists.intro; refine ⟨fun x => ?_, hK _ ?_⟩; (fail); clear hK K)
          refine Mix.take_exC _ _ 39 rfl (by kernel_rfl) (by kernel_rfl) (by kernel_rfl) (by kernel_rfl) (fun K hK => ?_)
          go_simp
          first | (refine hK _ ?_; clear hK K) | (apply Exists.intro; refine ⟨fun x => ?_, hK _ ?_⟩; (fail); clear hK K)
          refine Mix.take_exC _ _ 40 rfl (by kernel_rfl) (by kernel_rfl) (by kernel_rfl) (by kernel_rfl) (fun K hK => ?_)
          go_simp
          first | (refine hK _ ?_; clear hK K) | (apply Exists.intro; refine ⟨fun x => ?_, hK _ ?_⟩; (fail); clear hK K)
          refine Mix.take_exC _ _ 41 rfl (by kernel_rfl) (by kernel_rfl) (by kernel_rfl) (by kernel_rfl) (fun K hK => ?_)
          go_simp
          first | (refine hK _ ?_; clear hK K) | (apply Exists.intro; refine ⟨fun x => ?_, hK _ ?_⟩; (fail); clear hK K)
          refine Mix.take_exC _ _ 42 rfl (by kernel_rfl) (by kernel_rfl) (by kernel_rfl) (by kernel_rfl) (fun K hK => ?_)
          go_simp
          first | (refine hK _ ?_; clear hK K) | (apply Exists.intro; refine ⟨fun x => ?_, hK _ ?_⟩; (fail); clear hK K)
          refine Mix.take_exC _ _ 43 rfl (by kernel_rfl) (by kernel_rfl) (by kernel_rfl) (by kernel_rfl) (fun K hK => ?_)
          go_simp
          first | (refine hK _ ?_; clear hK K) | (apply Exists.intro; refine ⟨fun x => ?_, hK _ ?_⟩; (fail); clear hK K)
          refine Mix.skip_C _ _ 44 rfl (by kernel_rfl) (by kernel_rfl) (by kernel_rfl) (by kernel_rfl) ?_
          go_simp
          refine Mix.skip_C _ _ 45 rfl (by kernel_rfl) (by kernel_rfl) (by kernel_rfl) (by kernel_rfl) ?_
          go_simp
          refine Mix.take_exC _ _ 46 rfl (by kernel_rfl) (by kernel_rfl) (by kernel_rfl) (by kernel_rfl) (fun K hK => ?_)
          go_simp
          first | (refine hK _ ?_; clear hK K) | (apply Exists.intro; refine ⟨fun x => ?_, hK _ ?_⟩; (fail); clear hK K)
          refine Mix.take_exC _ _ 47 rfl (by kernel_rfl) (by kernel_rfl) (by kernel_rfl) (by kernel_rfl) (fun K hK => ?_)
          go_simp
          first | (refine hK _ ?_; clear hK K) | (apply Exists.intro; refine ⟨fun x => ?_, hK _ ?_⟩; (fail); clear hK K)
          refine Mix.done (by kernel_rfl) (.of_below _ hb70) ?_
          intro w8 hb8
          have HP8 := Lib.hid (HP7.out.on (bt hb70 hb8))
          clear hb70 hb8 g0 g1 g2 gl f2 f3 f4 f5 f6 hbs hki hk0 hnk
          clear m0 m1 m2 m3 m4 ml
          generalize (some (⟨bs, off, none⟩ : Addr)) = va at *
          cases hg : GT D r with
          | none =>
            have HG := Lib.hid hg
            have hnil := role_none hg
            have HRR := Lib.hid fun w' (h : PZ W w' p mb T D (.slice va vn vc)) => rrolex (T := T) h.rs h.px.ok (by omega) r
            rw [hnil] at HRR
            clear hg hnil
            go_wp2_with fail
            refine (px_weight_no HP8.out.px HRI.out HG.out).mono ?_
            rintro e w9 ⟨rfl, hb9⟩
            have HP9 := Lib.hid (HP8.out.on hb9)
            clear hb9
            go_wp2_with fail
            refine (px_share_no HP9.out.px HRI.out HG.out).mono ?_
            rintro e w10 ⟨rfl, hb10⟩
            have HP11 := Lib.hid (HP9.out.on (ba hb10 (.cells #[.int .i64 0, .int .i64 0, .int .i64 0] 44)))
            clear hb10
            go_upto_region 17 with (fail)
            generalize w10.alloc (.cells #[.int .i64 0, .int .i64 0, .int .i64 0] 44) = w11 at *
            obtain ⟨m0, m1, m2, m3, m4⟩ := (HP11.out.m).cells
            have ml := (HP11.out.m).lt
            go_wp2_with fail
            clear m0 m1 m2 m3 m4 ml
            refine (HRR.out w11 HP11.out).mono ?_
            rintro e w12 ⟨rfl, hb12⟩
            have HP13 := Lib.hid (HP11.out.on (ba hb12 (.cells (C4 (SU [])) 25)))
            have hl0 : lastW [] = 0 := rfl
            rw [hl0]
            have hdn : decide (([] : List Fd) ≠ []) = false := by simp
            rw [hdn]
            clear hb12 hl0 hdn
            go_upto_region 18 with (fail)
            generalize w12.alloc (.cells (C4 (SU [])) 25) = w13 at *
            refine Mix.regionC (fun _ => False) (by kernel_rfl) ?_
            intro w14 hb14
            refine Mix.take_exC _ _ 0 rfl (by kernel_rfl) (by kernel_rfl) (by kernel_rfl) (by kernel_rfl) (fun K hK => ?_)
            go_simp
            first | (refine hK _ ?_; clear hK K) | (apply Exists.intro; refine ⟨fun x => ?_, hK _ ?_⟩; (fail); clear hK K)
            refine Mix.take_exC _ _ 1 rfl (by kernel_rfl) (by kernel_rfl) (by kernel_rfl) (by kernel_rfl) (fun K hK => ?_)
            go_simp
            first | (refine hK _ ?_; clear hK K) | (apply Exists.intro; refine ⟨fun x => ?_, hK _ ?_⟩; (fail); clear hK K)
            refine Mix.take_exC _ _ 2 rfl (by kernel_rfl) (by kernel_rfl) (by kernel_rfl) (by kernel_rfl) (fun K hK => ?_)
            go_simp
            first | (refine hK _ ?_; clear hK K) | (apply Exists.intro; refine ⟨fun x => ?_, hK _ ?_⟩; (fail); clear hK K)
            refine Mix.take_exC _ _ 3 rfl (by kernel_rfl) (by kernel_rfl) (by kernel_rfl) (by kernel_rfl) (fun K hK => ?_)
            go_simp
            first | (refine hK _ ?_; clear hK K) | (apply Exists.intro; refine ⟨fun x => ?_, hK _ ?_⟩; (fail); clear hK K)
            refine Mix.take_exC _ _ 4 rfl (by kernel_rfl) (by kernel_rfl) (by kernel_rfl) (by kernel_rfl) (fun K hK => ?_)
            go_simp
            first | (refine hK _ ?_; clear hK K) | (apply Exists.intro; refine ⟨fun x => ?_, hK _ ?_⟩; (fail); clear hK K)
            refine Mix.take_exC _ _ 5 rfl (by kernel_rfl) (by kernel_rfl) (by kernel_rfl) (by kernel_rfl) (fun K hK => ?_)
            go_simp
            first | (refine hK _ ?_; clear hK K) | (apply Exists.intro; refine ⟨fun x => ?_, hK _ ?_⟩; (fail); clear hK K)
            refine Mix.take_exC _ _ 6 rfl (by kernel_rfl) (by kernel_rfl) (by kernel_rfl) (by kernel_rfl) (fun K hK => ?_)
            go_simp
            first | (refine hK _ ?_; clear hK K) | (apply Exists.intro; refine ⟨fun x => ?_, hK _ ?_⟩; (fail); clear hK K)
            refine Mix.take_exC _ _ 7 rfl (by kernel_rfl) (by kernel_rfl) (by kernel_rfl) (by kernel_rfl) (fun K hK => ?_)
            go_simp
            first | (refine hK _ ?_; clear hK K) | (apply Exists.intro; refine ⟨fun x => ?_, hK _ ?_⟩; (fail); clear hK K)
            refine Mix.take_exC _ _ 8 rfl (by kernel_rfl) (by kernel_rfl) (by kernel_rfl) (by kernel_rfl) (fun K hK => ?_)
            go_simp
            first | (refine hK _ ?_; clear hK K) | (apply Exists.intro; refine ⟨fun x => ?_, hK _ ?_⟩; (fail); clear hK K)
            refine Mix.take_exC _ _ 9 rfl (by kernel_rfl) (by kernel_rfl) (by kernel_rfl) (by kernel_rfl) (fun K hK => ?_)
            go_simp
            first | (refine hK _ ?_; clear hK K) | (apply Exists.intro; refine ⟨fun x => ?_, hK _ ?_⟩; (fail); clear hK K)
            refine Mix.take_exC _ _ 10 rfl (by kernel_rfl) (by kernel_rfl) (by kernel_rfl) (by kernel_rfl) (fun K hK => ?_)
            go_simp
            first | (refine hK _ ?_; clear hK K) | (apply Exists.intro; refine ⟨fun x => ?_, hK _ ?_⟩; (fail); clear hK K)
            refine Mix.take_exC _ _ 11 rfl (by kernel_rfl) (by kernel_rfl) (by kernel_rfl) (by kernel_rfl) (fun K hK => ?_)
            go_simp
            first | (refine hK _ ?_; clear hK K) | (apply Exists.intro; refine ⟨fun x => ?_, hK _ ?_⟩; (fail); clear hK K)
            refine Mix.take_exC _ _ 12 rfl (by kernel_rfl) (by kernel_rfl) (by kernel_rfl) (by kernel_rfl) (fun K hK => ?_)
            go_simp
            first | (refine hK _ ?_; clear hK K) | (apply Exists.intro; refine ⟨fun x => ?_, hK _ ?_⟩; (fail); clear hK K)
            refine Mix.take_exC _ _ 13 rfl (by kernel_rfl) (by kernel_rfl) (by kernel_rfl) (by kernel_rfl) (fun K hK => ?_)
            go_simp
            first | (refine hK _ ?_; clear hK K) | (apply Exists.intro; refine ⟨fun x => ?_, hK _ ?_⟩; (fail); clear hK K)
            refine Mix.take_exC _ _ 14 rfl (by kernel_rfl) (by kernel_rfl) (by kernel_rfl) (by kernel_rfl) (fun K hK => ?_)
            go_simp
            first | (refine hK _ ?_; clear hK K) | (apply Exists.intro; refine ⟨fun x => ?_, hK _ ?_⟩; (fail); clear hK K)
            refine Mix.take_exC _ _ 15 rfl (by kernel_rfl) (by kernel_rfl) (by kernel_rfl) (by kernel_rfl) (fun K hK => ?_)
            go_simp
            first | (refine hK _ ?_; clear hK K) | (apply Exists.intro; refine ⟨fun x => ?_, hK _ ?_⟩; (fail); clear hK K)
            refine Mix.take_exC _ _ 16 rfl (by kernel_rfl) (by kernel_rfl) (by kernel_rfl) (by kernel_rfl) (fun K hK => ?_)
            go_simp
            first | (refine hK _ ?_; clear hK K) | (apply Exists.intro; refine ⟨fun x => ?_, hK _ ?_⟩; (fail); clear hK K)
            refine Mix.skip_C _ _ 17 rfl (by kernel_rfl) (by kernel_rfl) (by kernel_rfl) (by kernel_rfl) ?_
            go_simp
            refine Mix.skip_C _ _ 18 rfl (by kernel_rfl) (by kernel_rfl) (by kernel_rfl) (by kernel_rfl) ?_
            go_simp
            refine Mix.skip_C _ _ 19 rfl (by kernel_rfl) (by kernel_rfl) (by kernel_rfl) (by kernel_rfl) ?_
            go_simp
            refine Mix.skip_C _ _ 20 rfl (by kernel_rfl) (by kernel_rfl) (by kernel_rfl) (by kernel_rfl) ?_
            go_simp
            refine Mix.skip_C _ _ 21 rfl (by kernel_rfl) (by kernel_rfl) (by kernel_rfl) (by kernel_rfl) ?_
            go_simp
            refine Mix.skip_C _ _ 22 rfl (by kernel_rfl) (by kernel_rfl) (by kernel_rfl) (by kernel_rfl) ?_
            go_simp
            refine Mix.skip_C _ _ 23 rfl (by kernel_rfl) (by kernel_rfl) (by kernel_rfl) (by kernel_rfl) ?_
            go_simp
            refine Mix.skip_C _ _ 24 rfl (by kernel_rfl) (by kernel_rfl) (by kernel_rfl) (by kernel_rfl) ?_
            go_simp
            refine Mix.skip_C _ _ 25 rfl (by kernel_rfl) (by kernel_rfl) (by kernel_rfl) (by kernel_rfl) ?_
            go_simp
            refine Mix.skip_C _ _ 26 rfl (by kernel_rfl) (by kernel_rfl) (by kernel_rfl) (by kernel_rfl) ?_
            go_simp
            refine Mix.skip_C _ _ 27 rfl (by kernel_rfl) (by kernel_rfl) (by kernel_rfl) (by kernel_rfl) ?_
            go_simp
            refine Mix.skip_C _ _ 28 rfl (by kernel_rfl) (by kernel_rfl) (by kernel_rfl) (by kernel_rfl) ?_
            go_simp
            refine Mix.take_exC _ _ 29 rfl (by kernel_rfl) (by kernel_rfl) (by kernel_rfl) (by kernel_rfl) (fun K hK => ?_)
            go_simp
            first | (refine hK _ ?_; clear hK K) | (apply Exists.intro; refine ⟨fun x => ?_, hK _ ?_⟩; (fail); clear hK K)
            refine Mix.take_exC _ _ 30 rfl (by kernel_rfl) (by kernel_rfl) (by kernel_rfl) (by kernel_rfl) (fun K hK => ?_)
            go_simp
            first | (refine hK _ ?_; clear hK K) | (apply Exists.intro; refine ⟨fun x => ?_, hK _ ?_⟩; (fail); clear hK K)
            refine Mix.take_exC _ _ 31 rfl (by kernel_rfl) (by kernel_rfl) (by kernel_rfl) (by kernel_rfl) (fun K hK => ?_)
            go_simp
            first | (refine hK _ ?_; clear hK K) | (apply Exists.intro; refine ⟨fun x => ?_, hK _ ?_⟩; (fail); clear hK K)
            refine Mix.take_exC _ _ 32 rfl (by kernel_rfl) (by kernel_rfl) (by kernel_rfl) (by kernel_rfl) (fun K hK => ?_)
            go_simp
            first | (refine hK _ ?_; clear hK K) | (apply Exists.intro; refine ⟨fun x => ?_, hK _ ?_⟩; (exact pworks10 _); clear hK K)
            refine Mix.take_exC _ _ 33 rfl (by kernel_rfl) (by kernel_rfl) (by kernel_rfl) (by kernel_rfl) (fun K hK => ?_)
            go_simp
            first | (refine hK _ ?_; clear hK K) | (apply Exists.intro; refine ⟨fun x => ?_, hK _ ?_⟩; (fail); clear hK K)
            refine Mix.take_exC _ _ 34 rfl (by kernel_rfl) (by kernel_rfl) (by kernel_rfl) (by kernel_rfl) (fun K hK => ?_)
            go_simp
            first | (refine hK _ ?_; clear hK K) | (apply Exists.intro; refine ⟨fun x => ?_, hK _ ?_⟩; (fail); clear hK K)
            refine Mix.done (by kernel_rfl) (.of_below _ hb14) ?_
            intro w15 hb15
            have HP15 := Lib.hid (HP13.out.on (bt hb14 hb15))
            clear hb14 hb15
            go_wp2
            go_ret
            exact ⟨rfl, HP15.out.px.bel⟩
          | some c =>
            have HG := Lib.hid hg
            have HRR := Lib.hid fun w' (h : PZ W w' p mb T D (.slice va vn vc)) => rrolex (T := T) h.rs h.px.ok (by omega) r
            have hcs : c.s = SU (inR D r) := by obtain ⟨d, -, -, rfl⟩ := (GT_some HP8.out.px.ok).1 hg; rfl
            have hrs := role_some HP8.out.px.ok hg
            rw [hrs.1, decide_eq_true hrs.2, ← hcs] at HRR
            have HWG := Lib.hid fun w' (h : PZ W w' p mb T D (.slice va vn vc)) => px_weight h.px HRI.out hg
            have HSH := Lib.hid fun w' (h : PZ W w' p mb T D (.slice va vn vc)) => px_share h.px HRI.out hg
            have HPA := Lib.hid (rpartx T va vn vc c.s)
            obtain ⟨cn, hcn⟩ : ∃ y, y = (domV c.s T).2.1 := ⟨_, rfl⟩
            obtain ⟨cd, hcd⟩ : ∃ y, y = (domV c.s T).2.2 := ⟨_, rfl⟩
            rw [← hcn, ← hcd] at HSH HPA
            obtain ⟨cs, hcs2⟩ : ∃ y, y = c.s := ⟨_, rfl⟩
            rw [← hcs2] at HRR HPA
            obtain ⟨cw, hcw⟩ : ∃ y, y = c.wt := ⟨_, rfl⟩
            rw [← hcw] at HRR HWG HSH
            clear hg hcs hrs hcn hcd hcs2 hcw HG
            go_wp2_with fail
            refine (HWG.out w8 HP8.out).mono ?_
            rintro e w9 ⟨rfl, hb9⟩
            have HP9 := Lib.hid (HP8.out.on hb9)
            clear hb9
            go_wp2_with fail
            refine (HSH.out w9 HP9.out).mono ?_
            rintro e w10 ⟨rfl, hb10⟩
            have HP11 := Lib.hid (HP9.out.on (ba hb10 (.cells #[.int .i64 cn, .int .i64 cd, .int .i64 cw] 44)))
            have HH11 := Lib.hid (HBx.made w10 cn cd cw)
            clear hb10
            go_upto_region 17 with (fail)
            generalize w10.alloc (.cells #[.int .i64 cn, .int .i64 cd, .int .i64 cw] 44) = w11 at *
            generalize w10.heap.size = hb at *
            obtain ⟨m0, m1, m2, m3, m4⟩ := (HP11.out.m).cells
            have ml := (HP11.out.m).lt
            go_wp2_with fail
            clear m0 m1 m2 m3 m4 ml
            refine (HRR.out w11 HP11.out).mono ?_
            rintro e w12 ⟨rfl, hb12⟩
            have hb13 := ba hb12 (.cells (C4 cs) 25)
            have HP13 := Lib.hid (HP11.out.on hb13)
            have HH13 := Lib.hid (HH11.out.below hb13)
            have HS13 := Lib.hid (PBx.made w12 cs)
            clear hb12 hb13
            go_upto_region 18 with (fail)
            generalize w12.alloc (.cells (C4 cs) 25) = w13 at *
            generalize w12.heap.size = pb at *
            obtain ⟨m0, m1, m2, m3, m4⟩ := (HP13.out.m).cells
            have ml := (HP13.out.m).lt
            obtain ⟨g0, g1, g2⟩ := HH13.out.cells
            have gl := HH13.out.lt
            obtain ⟨p0, p1, p2, p3⟩ := HS13.out.cells
            have pl := HS13.out.lt
            refine Mix.regionC (fun _ => False) (by kernel_rfl) ?_
            intro w14 hb14
            refine Mix.take_exC _ _ 0 rfl (by kernel_rfl) (by kernel_rfl) (by kernel_rfl) (by kernel_rfl) (fun K hK => ?_)
            go_simp
            first | (refine hK _ ?_; clear hK K) | (apply Exists.intro; refine ⟨fun x => ?_, hK _ ?_⟩; (fail); clear hK K)
            refine Mix.take_exC _ _ 1 rfl (by kernel_rfl) (by kernel_rfl) (by kernel_rfl) (by kernel_rfl) (fun K hK => ?_)
            go_simp
            first | (refine hK _ ?_; clear hK K) | (apply Exists.intro; refine ⟨fun x => ?_, hK _ ?_⟩; (fail); clear hK K)
            refine Mix.take_exC _ _ 2 rfl (by kernel_rfl) (by kernel_rfl) (by kernel_rfl) (by kernel_rfl) (fun K hK => ?_)
            go_simp
            first | (refine hK _ ?_; clear hK K) | (apply Exists.intro; refine ⟨fun x => ?_, hK _ ?_⟩; (fail); clear hK K)
            refine Mix.take_exC _ _ 3 rfl (by kernel_rfl) (by kernel_rfl) (by kernel_rfl) (by kernel_rfl) (fun K hK => ?_)
            go_simp
            first | (refine hK _ ?_; clear hK K) | (apply Exists.intro; refine ⟨fun x => ?_, hK _ ?_⟩; (fail); clear hK K)
            refine Mix.take_exC _ _ 4 rfl (by kernel_rfl) (by kernel_rfl) (by kernel_rfl) (by kernel_rfl) (fun K hK => ?_)
            go_simp
            first | (refine hK _ ?_; clear hK K) | (apply Exists.intro; refine ⟨fun x => ?_, hK _ ?_⟩; (fail); clear hK K)
            refine Mix.take_exC _ _ 5 rfl (by kernel_rfl) (by kernel_rfl) (by kernel_rfl) (by kernel_rfl) (fun K hK => ?_)
            go_simp
            first | (refine hK _ ?_; clear hK K) | (apply Exists.intro; refine ⟨fun x => ?_, hK _ ?_⟩; (fail); clear hK K)
            refine Mix.take_exC _ _ 6 rfl (by kernel_rfl) (by kernel_rfl) (by kernel_rfl) (by kernel_rfl) (fun K hK => ?_)
            go_simp
            first | (refine hK _ ?_; clear hK K) | (apply Exists.intro; refine ⟨fun x => ?_, hK _ ?_⟩; (fail); clear hK K)
            refine Mix.take_exC _ _ 7 rfl (by kernel_rfl) (by kernel_rfl) (by kernel_rfl) (by kernel_rfl) (fun K hK => ?_)
            go_simp
            first | (refine hK _ ?_; clear hK K) | (apply Exists.intro; refine ⟨fun x => ?_, hK _ ?_⟩; (fail); clear hK K)
            refine Mix.take_exC _ _ 8 rfl (by kernel_rfl) (by kernel_rfl) (by kernel_rfl) (by kernel_rfl) (fun K hK => ?_)
            go_simp
            first | (refine hK _ ?_; clear hK K) | (apply Exists.intro; refine ⟨fun x => ?_, hK _ ?_⟩; (fail); clear hK K)
            refine Mix.take_exC _ _ 9 rfl (by kernel_rfl) (by kernel_rfl) (by kernel_rfl) (by kernel_rfl) (fun K hK => ?_)
            go_simp
            first | (refine hK _ ?_; clear hK K) | (apply Exists.intro; refine ⟨fun x => ?_, hK _ ?_⟩; (fail); clear hK K)
            refine Mix.take_exC _ _ 10 rfl (by kernel_rfl) (by kernel_rfl) (by kernel_rfl) (by kernel_rfl) (fun K hK => ?_)
            go_simp
            first | (refine hK _ ?_; clear hK K) | (apply Exists.intro; refine ⟨fun x => ?_, hK _ ?_⟩; (fail); clear hK K)
            refine Mix.take_exC _ _ 11 rfl (by kernel_rfl) (by kernel_rfl) (by kernel_rfl) (by kernel_rfl) (fun K hK => ?_)
            go_simp
            first | (refine hK _ ?_; clear hK K) | (apply Exists.intro; refine ⟨fun x => ?_, hK _ ?_⟩; (fail); clear hK K)
            refine Mix.take_exC _ _ 12 rfl (by kernel_rfl) (by kernel_rfl) (by kernel_rfl) (by kernel_rfl) (fun K hK => ?_)
            go_simp
            first | (refine hK _ ?_; clear hK K) | (apply Exists.intro; refine ⟨fun x => ?_, hK _ ?_⟩; (fail); clear hK K)
            refine Mix.take_exC _ _ 13 rfl (by kernel_rfl) (by kernel_rfl) (by kernel_rfl) (by kernel_rfl) (fun K hK => ?_)
            go_simp
            first | (refine hK _ ?_; clear hK K) | (apply Exists.intro; refine ⟨fun x => ?_, hK _ ?_⟩; (fail); clear hK K)
            refine Mix.take_exC _ _ 14 rfl (by kernel_rfl) (by kernel_rfl) (by kernel_rfl) (by kernel_rfl) (fun K hK => ?_)
            go_simp
            first | (refine hK _ ?_; clear hK K) | (apply Exists.intro; refine ⟨fun x => ?_, hK _ ?_⟩; (fail); clear hK K)
            refine Mix.take_exC _ _ 15 rfl (by kernel_rfl) (by kernel_rfl) (by kernel_rfl) (by kernel_rfl) (fun K hK => ?_)
            go_simp
            first | (refine hK _ ?_; clear hK K) | (apply Exists.intro; refine ⟨fun x => ?_, hK _ ?_⟩; (fail); clear hK K)
            refine Mix.take_exC _ _ 16 rfl (by kernel_rfl) (by kernel_rfl) (by kernel_rfl) (by kernel_rfl) (fun K hK => ?_)
            go_simp
            first | (refine hK _ ?_; clear hK K) | (apply Exists.intro; refine ⟨fun x => ?_, hK _ ?_⟩; (fail); clear hK K)
            refine Mix.take_exC _ _ 17 rfl (by kernel_rfl) (by kernel_rfl) (by kernel_rfl) (by kernel_rfl) (fun K hK => ?_)
            go_simp
            first | (refine hK _ ?_; clear hK K) | (apply Exists.intro; refine ⟨fun x => ?_, hK _ ?_⟩; (fail); clear hK K)
            refine Mix.take_exC _ _ 18 rfl (by kernel_rfl) (by kernel_rfl) (by kernel_rfl) (by kernel_rfl) (fun K hK => ?_)
            go_simp
            first | (refine hK _ ?_; clear hK K) | (apply Exists.intro; refine ⟨fun x => ?_, hK _ ?_⟩; (fail); clear hK K)
            refine Mix.take_exC _ _ 19 rfl (by kernel_rfl) (by kernel_rfl) (by kernel_rfl) (by kernel_rfl) (fun K hK => ?_)
            go_simp
            first | (refine hK _ ?_; clear hK K) | (apply Exists.intro; refine ⟨fun x => ?_, hK _ ?_⟩; (fail); clear hK K)
            refine Mix.take_exC _ _ 20 rfl (by kernel_rfl) (by kernel_rfl) (by kernel_rfl) (by kernel_rfl) (fun K hK => ?_)
            go_simp
            first | (refine hK _ ?_; clear hK K) | (apply Exists.intro; refine ⟨fun x => ?_, hK _ ?_⟩; (fail); clear hK K)
            refine Mix.take_exC _ _ 21 rfl (by kernel_rfl) (by kernel_rfl) (by kernel_rfl) (by kernel_rfl) (fun K hK => ?_)
            go_simp
            first | (refine hK _ ?_; clear hK K) | (apply Exists.intro; refine ⟨fun x => ?_, hK _ ?_⟩; (exact HPA.out _); clear hK K)
            refine Mix.take_exC _ _ 22 rfl (by kernel_rfl) (by kernel_rfl) (by kernel_rfl) (by kernel_rfl) (fun K hK => ?_)
            go_simp
            first | (refine hK _ ?_; clear hK K) | (apply Exists.intro; refine ⟨fun x => ?_, hK _ ?_⟩; (fail); clear hK K)
            refine Mix.take_exC _ _ 23 rfl (by kernel_rfl) (by kernel_rfl) (by kernel_rfl) (by kernel_rfl) (fun K hK => ?_)
            go_simp
            first | (refine hK _ ?_; clear hK K) | (apply Exists.intro; refine ⟨fun x => ?_, hK _ ?_⟩; (fail); clear hK K)
            refine Mix.take_exC _ _ 24 rfl (by kernel_rfl) (by kernel_rfl) (by kernel_rfl) (by kernel_rfl) (fun K hK => ?_)
            go_simp
            first | (refine hK _ ?_; clear hK K) | (apply Exists.intro; refine ⟨fun x => ?_, hK _ ?_⟩; (fail); clear hK K)
            refine Mix.take_exC _ _ 25 rfl (by kernel_rfl) (by kernel_rfl) (by kernel_rfl) (by kernel_rfl) (fun K hK => ?_)
            go_simp
            first | (refine hK _ ?_; clear hK K) | (apply Exists.intro; refine ⟨fun x => ?_, hK _ ?_⟩; (fail); clear hK K)
            refine Mix.take_exC _ _ 26 rfl (by kernel_rfl) (by kernel_rfl) (by kernel_rfl) (by kernel_rfl) (fun K hK => ?_)
            go_simp
            first | (refine hK _ ?_; clear hK K) | (apply Exists.intro; refine ⟨fun x => ?_, hK _ ?_⟩; (fail); clear hK K)
            refine Mix.take_exC _ _ 27 rfl (by kernel_rfl) (by kernel_rfl) (by kernel_rfl) (by kernel_rfl) (fun K hK => ?_)
            go_simp
            first | (refine hK _ ?_; clear hK K) | (apply Exists.intro; refine ⟨fun x => ?_, hK _ ?_⟩; (fail); clear hK K)
            refine Mix.take_exC _ _ 28 rfl (by kernel_rfl) (by kernel_rfl) (by kernel_rfl) (by kernel_rfl) (fun K hK => ?_)
            go_simp
            first | (refine hK _ ?_; clear hK K) | (apply Exists.intro; refine ⟨fun x => ?_, hK _ ?_⟩; (fail); clear hK K)
            refine Mix.take_exC _ _ 29 rfl (by kernel_rfl) (by kernel_rfl) (by kernel_rfl) (by kernel_rfl) (fun K hK => ?_)
            go_simp
            first | (refine hK _ ?_; clear hK K) | (apply Exists.intro; refine ⟨fun x => ?_, hK _ ?_⟩; (fail); clear hK K)
            refine Mix.take_exC _ _ 30 rfl (by kernel_rfl) (by kernel_rfl) (by kernel_rfl) (by kernel_rfl) (fun K hK => ?_)
            go_simp
            first | (refine hK _ ?_; clear hK K) | (apply Exists.intro; refine ⟨fun x => ?_, hK _ ?_⟩; (fail); clear hK K)
            refine Mix.take_exC _ _ 31 rfl (by kernel_rfl) (by kernel_rfl) (by kernel_rfl) (by kernel_rfl) (fun K hK => ?_)
            go_simp
            first | (refine hK _ ?_; clear hK K) | (apply Exists.intro; refine ⟨fun x => ?_, hK _ ?_⟩; (fail); clear hK K)
            refine Mix.take_exC _ _ 32 rfl (by kernel_rfl) (by kernel_rfl) (by kernel_rfl) (by kernel_rfl) (fun K hK => ?_)
            go_simp
            first | (refine hK _ ?_; clear hK K) | (apply Exists.intro; refine ⟨fun x => ?_, hK _ ?_⟩; (exact pworks10 _); clear hK K)
            refine Mix.take_exC _ _ 33 rfl (by kernel_rfl) (by kernel_rfl) (by kernel_rfl) (by kernel_rfl) (fun K hK => ?_)
            go_simp
            first | (refine hK _ ?_; clear hK K) | (apply Exists.intro; refine ⟨fun x => ?_, hK _ ?_⟩; (fail); clear hK K)
            refine Mix.take_exC _ _ 34 rfl (by kernel_rfl) (by kernel_rfl) (by kernel_rfl) (by kernel_rfl) (fun K hK => ?_)
            go_simp
            first | (refine hK _ ?_; clear hK K) | (apply Exists.intro; refine ⟨fun x => ?_, hK _ ?_⟩; (fail); clear hK K)
            refine Mix.done (by kernel_rfl) (.of_below _ hb14) ?_
            intro w15 hb15
            have HP15 := Lib.hid (HP13.out.on (bt hb14 hb15))
            clear hb14 hb15 g0 g1 g2 gl p0 p1 p2 p3 pl
            clear m0 m1 m2 m3 m4 ml
            go_wp2
            go_ret
            exact ⟨rfl, HP15.out.px.bel⟩
  · have hb : 100 < (m : Int) := by omega
    go_enter Tryz.func4, Tryz.ntmps4
    go_wp2
    go_ret
    exact ⟨rfl, Below.refl _ _⟩
end Go.Proofs.YtgfjmafdfbghnaaGreat

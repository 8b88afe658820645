/- Texts laid together: Tia,Tib,Tic,Til,Tim. -/
import Derived.Test.YtgfjmafdfbghnaaGreatTgB
namespace Go.Proofs.YtgfjmafdfbghnaaGreat
section
open Go.RowKit Go.Maps
attribute [local go_sem] ext_cell ext_frozen extC_cell extC_frozen Mix.calmUpon Mix.mUpon
section
variable {W w w' : World} {p MR MF : Nat} {lab lab' : Nat → Int} {T n : Nat → Int} {t t' d d' : Hd} {Q : Int → Option Hd} {fr : Int → Option Int} {D D' A B : List Fd} {i r x q : Int} {c : Cl} {F : Nat → Prop}
-- the framework i is laid into the role r: H6 : TN at w6 (lab6, t6, Q6); HQ6 : Q6 r = some d6; D9: that all of it stands then
theorem look_q' (h : MapF KI w MR Q (fun h => ptr h.sp)) (hr : I64 r) (hq : Q r = some d) : (Instr.lookup 65 (.map (some MR)) (.int .i64 r) false).run Tryz.prog w = .ok (ptr d.sp) w := by
  have hz : (zeroValue 63).run Tryz.prog w = .ok (.pointer none) w := Tryz.zeroValue63 w
  have := h.look keyI Tryz.underlying65 hz (x := r) hr false
  rw [hq] at this
  exact this
set_option maxRecDepth 100000 in
set_option maxHeartbeats 2000000 in
theorem tiput_new (h : TN W w p MR MF lab T t Q fr) (hd : TD T D t Q fr) (hl : D.length < 900000) (hi : I64 i) (hp : PArg r x) (hf : fr i = none) (hg : t.g r = none) : Calls Tryz.prog 21 #[ptr p, .int .i64 i, .int .i64 r, .int .i64 x] w (RT W p MR MF lab (0, T, D ++ [⟨i, x, r, fun _ => 0, true⟩]) w) := by
  have hlook := look_f h hi true
  rw [hf] at hlook
  replace hlook := hlook.trans (show _ = .ok (.tuple #[.int .i64 0, .bool false]) w from rfl)
  have H := Lib.hid h; have HD := Lib.hid hd; have HP := Lib.hid hp; have HI := Lib.hid hi
  have hr64 : I64 r := i64_role ⟨hp.1, hp.2.1⟩
  have HR := Lib.hid hr64
  obtain ⟨x0, x1, x2, x3, x4, x5, x6⟩ := h.b.cells
  have xl := h.b.lt
  have HW := Lib.hid (tiweight_none h hr64 hg)
  have hqn : Q r = none := by
    have := hd.dom r
    rw [← hd.tg, hg] at this
    cases hq : Q r with
    | none => rfl
    | some d => rw [hq] at this; cases this
  have hfn : ∀ d ∈ D, d.id ≠ i := (FR_none hd.ok).1 (hd.fr ▸ hf)
  have hgr : ∀ d ∈ D, d.role ≠ r := GT_none.1 (hd.tg ▸ hg)
  have hin : inR D r = [] := List.eq_nil_iff_forall_not_mem.2 fun d hd => hgr d (mem_inR.1 hd).1 (mem_inR.1 hd).2
  have hgo : GO D r = fun _ => none := by funext j; unfold GO; rw [hin]; rfl
  have hnew : New D ⟨i, x, r, fun _ => 0, true⟩ := ⟨hfn, ⟨hp.1, hp.2.1⟩, ⟨hp.2.2.1, hp.2.2.2⟩, fun d hdd hdr => absurd hdr (hgr d hdd), hi, rfl⟩
  have hT4 : Sm4 T := hd.tT ▸ h.t.s9.t
  obtain ⟨s1, hs1⟩ : ∃ s : St, s = stP t.T t.g r x := ⟨_, rfl⟩
  have e1 : s1 = (0, T, GT (D ++ [⟨i, x, r, fun _ => 0, true⟩])) := by
    rw [hs1]; unfold stP; rw [if_pos ⟨hp.2.2.1, hp.2.2.2⟩, hg, hd.tT, GT_put hd.ok hnew, hin, hd.tg]; rfl
  have hc1 := fun (w' : World) (lab' : Nat → Int) (h' : TN W w' p MR MF lab' T t Q fr) => rP (x := x) h'.t.sm h'.t.s9 hr64 (Nat.lt_of_le_of_lt (hd.lenT h') (Nat.lt_trans hl (show 900000 < 1000000 by decide)))
  rw [← hs1] at hc1
  have HC1 := Lib.hid hc1; have HE1 := Lib.hid e1; have HZ1 := Lib.hid (show s1.1 = 0 by rw [e1]); have HT4 := Lib.hid hT4
  have HDP := Lib.hid fun (t6 d' : Hd) (Q' : Int → Option Hd) (tT : t6.T = T) (tg : t6.g = GT (D ++ [⟨i, x, r, fun _ => 0, true⟩])) (hQ : ∀ q, q ≠ r → Q' q = Q q) (hq : Q' r = some d') (dT : d'.T = T) (dg : d'.g = upd (GO D r) i (some (clF ⟨i, x, r, fun _ => 0, true⟩))) => hd.put (t' := t6) (Q' := Q') (fr' := upd fr i (some r)) hnew tT tg hQ hq dT dg rfl
  have HLQ := Lib.hid fun (w' : World) (hb : Below w.heap.size w w') => (show (Instr.lookup 65 (.map (some MR)) (.int .i64 r) true).run Tryz.prog w' = .ok (.tuple #[.pointer none, .bool false]) w' from by
    have := look_q (h.below hb) hr64 true
    rw [hqn] at this; exact this)
  have HGO := Lib.hid hgo
  clear h hd hl hi hf hp hg hr64 hqn hfn hgr hin hgo hnew hs1 e1 hc1 hT4
  go_enter Tryz.func21, Tryz.ntmps21
  go_wp2_with fail
  refine (timade H.out.b).mono ?_
  rintro e w1 ⟨rfl, hw1⟩
  rw [hw1]
  clear hw1 w1
  obtain ⟨p1, p2, p3, p4⟩ := HP.out
  have g1 : ¬ r < 1 := by omega
  have g2 : ¬ 32 < r := by omega
  have g3 : ¬ x < 1 := by omega
  have g4 : ¬ 1000 < x := by omega
  clear p1 p2 p3 p4
  go_wp2_with fail
  refine HW.out.mono ?_
  rintro e w2 ⟨rfl, hb2⟩
  have H2 := Lib.hid (H.out.below hb2)
  have HCH2 := Lib.hid (Chg.of_below (fun b => -1 ≤ lab b) hb2)
  have hlk := HLQ.out w2 hb2
  clear hb2 hlook x0 x1 x2 x3 x4 x5 x6 xl
  obtain ⟨x0, x1, x2, x3, x4, x5, x6⟩ := H2.out.b.cells
  have xl := H2.out.b.lt
  go_wp2_with fail
  refine (HC1.out w2 lab H2.out).mono ?_
  rintro e w3 hr3
  obtain ⟨rfl, t6, lab3, hT3, hg3, hTN3, hlab3, hchg3⟩ := H2.out.tier hr3
  have HTT := Lib.hid hT3; have HTG := Lib.hid hg3; have H3 := Lib.hid hTN3
  have HL3 := Lib.hid (show ∀ b, b < w.heap.size → lab3 b = lab b from fun b hb => hlab3 b (Nat.lt_of_lt_of_le hb HCH2.out.size))
  have HCH3 := Lib.hid (HCH2.out.lab (fun _ _ => rfl) (fun b e => by have e : lab b = 0 := e; omega) hchg3)
  rw [HZ1.out]
  clear hr3 hT3 hg3 hTN3 hlab3 hchg3 hlk x0 x1 x2 x3 x4 x5 x6 xl
  -- the new sorter
  obtain ⟨F, hF⟩ : ∃ F : Nat → Prop, F = fun b => b = MR := ⟨_, rfl⟩
  have q1 : ¬ F p := by
    rw [hF]; intro e
    have e : p = MR := e
    have hb := H3.out.b
    obtain ⟨L, ⟨es, m, hb', _⟩, _⟩ := H3.out.q
    rw [← e] at hb'
    unfold TB at hb; rw [hb'] at hb; cases hb
  have HFQ := Lib.hid hF
  clear hF
  obtain ⟨x0, x1, x2, x3, x4, x5, x6⟩ := H3.out.b.cells
  have xl := H3.out.b.lt
  go_upto_region 14 with (fail)
  refine Mix.regionC F (by kernel_rfl) ?_
  intro w4 hb4
  refine Mix.take_exC _ _ 0 rfl (by kernel_rfl) (by kernel_rfl) (by kernel_rfl) (by kernel_rfl) (fun K hK => ?_)
  go_simp
  first | (refine hK _ ?_; clear hK K) | (apply Exists.intro; refine ⟨fun x => ?_, hK _ ?_⟩; (fail); clear hK K)
  refine Mix.take_exC _ _ 1 rfl (by kernel_rfl) (by kernel_rfl) (by kernel_rfl) (by kernel_rfl) (fun K hK => ?_)
  go_simp
  first | (refine hK _ ?_; clear hK K) | (apply Exists.intro; refine ⟨fun x => ?_, hK _ ?_⟩; (fail); clear hK K)
  refine Mix.take_exC _ _ 2 rfl (by kernel_rfl) (by kernel_rfl) (by kernel_rfl) (by kernel_rfl) (fun K hK => ?_)
  go_simp
  first | (refine hK _ ?_; clear hK K) | (apply Exists.intro; refine ⟨fun x => ?_, hK _ ?_⟩; (fail); clear hK K)
  refine Mix.take_exC _ _ 3 rfl (by kernel_rfl) (by kernel_rfl) (by kernel_rfl) (by kernel_rfl) (fun K hK => ?_)
  go_simp
  first | (refine hK _ ?_; clear hK K) | (apply Exists.intro; refine ⟨fun x => ?_, hK _ ?_⟩; (fail); clear hK K)
  refine Mix.take_exC _ _ 4 rfl (by kernel_rfl) (by kernel_rfl) (by kernel_rfl) (by kernel_rfl) (fun K hK => ?_)
  go_simp
  first | (refine hK _ ?_; clear hK K) | (apply Exists.intro; refine ⟨fun x => ?_, hK _ ?_⟩; (fail); clear hK K)
  refine Mix.all (rs := [5]) (by kernel_rfl) (by simp) (.of_below _ hb4) ?_
  intro i5 hi5 w5 hb5 hC5
  simp only [List.mem_cons, List.not_mem_nil, or_false] at hi5
  subst hi5
  have HB5 := Lib.hid (bt hb4 hb5)
  clear hC5 hb4 hb5
  refine Mix.op rfl (by kernel_rfl) ?_
  go_simp
  refine (snew w5).mono ?_
  rintro e w6 ⟨sp, M, tp, rfl, hs, hb6, h1, h2, h3⟩
  refine ⟨_, rfl, ?_⟩
  have HS := Lib.hid hs; have HG := Lib.hid (And.intro h1 (And.intro h2 h3))
  have HB56 := Lib.hid hb6
  clear hs hb6 h1 h2 h3
  refine Mix.all (rs := [6]) (by kernel_rfl) (by simp) (.of_below _ (bt HB5.out HB56.out)) ?_
  intro i7 hi7 w7 hb7 hC7
  simp only [List.mem_cons, List.not_mem_nil, or_false] at hi7
  subst hi7
  have HB37 := Lib.hid (bt (bt HB5.out HB56.out) hb7)
  have hw5 : w3.heap.size ≤ w5.heap.size := HB5.out.size
  have hg := HG.out
  have hwW := H3.out.bel.size
  obtain ⟨lab7, hl7⟩ : ∃ l : Nat → Int, l = fun b => if b < w5.heap.size then lab3 b else r := ⟨_, rfl⟩
  have hlp : ∀ b, b < w5.heap.size → lab7 b = lab3 b := fun b hb => by rw [hl7]; exact if_pos hb
  have hln : ∀ b, w5.heap.size ≤ b → lab7 b = r := fun b hb => by rw [hl7]; exact if_neg (by omega)
  have htn := (H3.out.relab (lab' := lab7) fun b hb => hlp b (by omega)).below HB37.out
  have hd0 : HM W w7 lab7 r ⟨sp, M, tp, fun _ => 0, fun _ => none, []⟩ := ⟨HS.out.below hb7, s9_nil, hln _ hg.1, hln _ hg.2.1, hln _ hg.2.2, by have := hg.1; show W.heap.size ≤ sp; omega, by have := hg.2.1; show W.heap.size ≤ M; omega, by have := hg.2.2; show W.heap.size ≤ tp; omega⟩
  obtain ⟨w8, hrun, htn8, hch8⟩ := htn.qput HR.out HP.out.1 hd0
  replace hrun : (Instr.mapUpdate 65 (.map (some MR)) (.int .i64 r) (ptr sp)).run Tryz.prog w7 = .ok () w8 := hrun
  have HL7 := Lib.hid (show ∀ b, b < w.heap.size → lab7 b = lab b from fun b hb => (hlp b (by have := HCH3.out.size; omega)).trans (HL3.out b hb))
  have HCH8 := Lib.hid ((HCH3.out.same (Chg.of_below _ HB37.out)).lab HL7.out (fun b e => by have e : b = MR := e; rw [e]; have := htn.l0.2.1; omega) hch8)
  have HQ8 := Lib.hid htn8
  have HC8 := Lib.hid (show Chg F w7 w8 by rw [HFQ.out]; exact hch8)
  clear htn hd0 htn8 hch8 hw5 hg hwW hl7 hlp hln hb7 hC7
  refine Mix.op rfl (by kernel_rfl) ?_
  go_simp
  refine Mix.done (by kernel_rfl) ((Chg.of_below _ HB37.out).same HC8.out) ?_
  intro w9 hb9
  have H9 := Lib.hid (HQ8.out.below hb9)
  have HCH9 := Lib.hid (HCH8.out.same (Chg.of_below _ hb9))
  clear hb9 hrun q1 x0 x1 x2 x3 x4 x5 x6 xl HQ8 HC8 HCH8 HFQ HB37 HB56 HB5 HCH3
  -- its total
  obtain ⟨d1, hd1⟩ : ∃ d : Hd, d = ⟨sp, M, tp, fun _ => 0, fun _ => none, []⟩ := ⟨_, rfl⟩
  rw [← hd1] at H9
  have hsp : d1.sp = sp := by rw [hd1]
  have HQ1 := Lib.hid (show upd Q r (some d1) r = some d1 by unfold upd; rw [if_pos rfl])
  obtain ⟨F2, hF2⟩ : ∃ F : Nat → Prop, F = fun b => lab7 b = r := ⟨_, rfl⟩
  have q1 : ¬ F2 p := by rw [hF2]; intro e; have e : lab7 p = r := e; have := H9.out.l0.1; have := HP.out.1; omega
  have q2 : ¬ F2 MR := by rw [hF2]; intro e; have e : lab7 MR = r := e; have := H9.out.l0.2.1; have := HP.out.1; omega
  have hlk : ∀ y : ExtC w9 F2, (Instr.lookup 65 (.map (some MR)) (.int .i64 r) false).run Tryz.prog (extC w9 F2 y) = .ok (ptr sp) (extC w9 F2 y) := fun y => by
    have := look_q' (H9.out.q.chg (extC_chg _ _ y) q2) HR.out HQ1.out
    rw [hsp] at this; exact this
  have hrt := rT (n := T) (H9.out.each r d1 HQ1.out).1.sm (H9.out.each r d1 HQ1.out).1.s9 (by rw [hd1]; show ([] : List Pl).length < 1000000; decide)
  obtain ⟨s3, hs3⟩ : ∃ s : St, s = stT d1.T d1.g T := ⟨_, rfl⟩
  have e3 : s3 = (0, T, fun _ => none) := by rw [hs3]; unfold stT; rw [if_pos HT4.out, hd1]
  have HRT := Lib.hid fun w' (hb : Below w9.heap.size w9 w') => (show Calls Tryz.prog 47 #[ptr sp, S4 T] w' (RD d1.sp d1.M d1.tp s3 w') from by
    have := rT (n := T) ((H9.out.below hb).each r d1 HQ1.out).1.sm ((H9.out.below hb).each r d1 HQ1.out).1.s9 (by rw [hd1]; show ([] : List Pl).length < 1000000; decide)
    rw [← hs3, hsp] at this
    rw [hsp]; exact this)
  have HE3 := Lib.hid e3
  have HFQ2 := Lib.hid hF2
  obtain ⟨x0, x1, x2, x3, x4, x5, x6⟩ := H9.out.b.cells
  have xl := H9.out.b.lt
  clear hd1 hsp hrt hs3 e3 hF2
  go_upto_region 15 with (fail)
  refine Mix.regionC F2 (by kernel_rfl) ?_
  intro w10 hb10
  refine Mix.take_exC _ _ 0 rfl (by kernel_rfl) (by kernel_rfl) (by kernel_rfl) (by kernel_rfl) (fun K hK => ?_)
  go_simp
  first | (refine hK _ ?_; clear hK K) | (apply Exists.intro; refine ⟨fun x => ?_, hK _ ?_⟩; (fail); clear hK K)
  refine Mix.take_exC _ _ 1 rfl (by kernel_rfl) (by kernel_rfl) (by kernel_rfl) (by kernel_rfl) (fun K hK => ?_)
  go_simp
  first | (refine hK _ ?_; clear hK K) | (apply Exists.intro; refine ⟨fun x => ?_, hK _ ?_⟩; (fail); clear hK K)
  refine Mix.take_exC _ _ 2 rfl (by kernel_rfl) (by kernel_rfl) (by kernel_rfl) (by kernel_rfl) (fun K hK => ?_)
  go_simp
  first | (refine hK _ ?_; clear hK K) | (apply Exists.intro; refine ⟨fun x => ?_, hK _ ?_⟩; (fail); clear hK K)
  refine Mix.take_exC _ _ 3 rfl (by kernel_rfl) (by kernel_rfl) (by kernel_rfl) (by kernel_rfl) (fun K hK => ?_)
  go_simp
  first | (refine hK _ ?_; clear hK K) | (apply Exists.intro; refine ⟨fun x => ?_, hK _ ?_⟩; (fail); clear hK K)
  refine Mix.take_exC _ _ 4 rfl (by kernel_rfl) (by kernel_rfl) (by kernel_rfl) (by kernel_rfl) (fun K hK => ?_)
  go_simp
  first | (refine hK _ ?_; clear hK K) | (apply Exists.intro; refine ⟨fun x => ?_, hK _ ?_⟩; (fail); clear hK K)
  refine Mix.take_exC _ _ 5 rfl (by kernel_rfl) (by kernel_rfl) (by kernel_rfl) (by kernel_rfl) (fun K hK => ?_)
  go_simp
  first | (refine hK _ ?_; clear hK K) | (apply Exists.intro; refine ⟨fun x => ?_, hK _ ?_⟩; (fail); clear hK K)
  refine Mix.take_exC _ _ 6 rfl (by kernel_rfl) (by kernel_rfl) (by kernel_rfl) (by kernel_rfl) (fun K hK => ?_)
  go_simp
  first | (refine hK _ ?_; clear hK K) | (apply Exists.intro; refine ⟨fun x => ?_, hK _ ?_⟩; (fail); clear hK K)
  refine Mix.take_exC _ _ 7 rfl (by kernel_rfl) (by kernel_rfl) (by kernel_rfl) (by kernel_rfl) (fun K hK => ?_)
  go_simp
  first | (refine hK _ ?_; clear hK K) | (apply Exists.intro; refine ⟨fun x => ?_, hK _ ?_⟩; (fail); clear hK K)
  refine Mix.take_exC _ _ 8 rfl (by kernel_rfl) (by kernel_rfl) (by kernel_rfl) (by kernel_rfl) (fun K hK => ?_)
  go_simp
  first | (refine hK _ ?_; clear hK K) | (apply Exists.intro; refine ⟨fun x => ?_, hK _ ?_⟩; (fail); clear hK K)
  refine Mix.take_exC _ _ 9 rfl (by kernel_rfl) (by kernel_rfl) (by kernel_rfl) (by kernel_rfl) (fun K hK => ?_)
  go_simp
  first | (refine hK _ ?_; clear hK K) | (apply Exists.intro; refine ⟨fun x => ?_, hK _ ?_⟩; (fail); clear hK K)
  refine Mix.all (rs := [10]) (by kernel_rfl) (by simp) (.of_below _ hb10) ?_
  intro i11 hi11 w11 hb11 hC11
  simp only [List.mem_cons, List.not_mem_nil, or_false] at hi11
  subst hi11
  have HB11 := Lib.hid (bt hb10 hb11)
  have H11 := Lib.hid (H9.out.below HB11.out)
  clear hC11 hb10 hb11
  refine Mix.op rfl (by kernel_rfl) ?_
  go_simp
  refine (HRT.out w11 HB11.out).mono ?_
  rintro e w12 hr12
  obtain ⟨rfl, d6, lab6, hT12, hg12, hTN12, hlab12, hchg12⟩ := H11.out.role HQ1.out hr12
  refine ⟨_, rfl, ?_⟩
  have HC12 := Lib.hid (show Chg F2 w11 w12 by rw [HFQ2.out]; exact hchg12)
  have HT6 := Lib.hid (show d6.T = T by rw [hT12, HE3.out])
  have HG6 := Lib.hid (show d6.g = GO D r by rw [hg12, HE3.out, HGO.out])
  have HTN := Lib.hid hTN12
  have HL6 := Lib.hid (show ∀ b, b < w.heap.size → lab6 b = lab b from fun b hb => (hlab12 b (by have := HCH9.out.size; have := HB11.out.size; omega)).trans (HL7.out b hb))
  have HCH12 := Lib.hid ((HCH9.out.same (Chg.of_below _ HB11.out)).lab HL7.out (fun b e => by have e : lab7 b = r := e; have := HP.out.1; omega) hchg12)
  clear hr12 hT12 hg12 hTN12 hlab12 hchg12
  refine Mix.done (by kernel_rfl) ((Chg.of_below _ HB11.out).same HC12.out) ?_
  intro w13 hb13
  have H6 := Lib.hid (HTN.out.below hb13)
  have HCH6 := Lib.hid (HCH12.out.same (Chg.of_below _ hb13))
  clear hb13 q1 q2 hlk x0 x1 x2 x3 x4 x5 x6 xl HTN HC12 HCH12 HCH9 H9 H11 HB11 HFQ2 HRT
  have HQ6 := Lib.hid (show upd (upd Q r (some d1)) r (some d6) r = some d6 by unfold upd; rw [if_pos rfl])
  obtain ⟨s2, hs2⟩ : ∃ s : St, s = stP d6.T d6.g i 1 := ⟨_, rfl⟩
  have e2 : s2 = (0, T, upd (GO D r) i (some (clF ⟨i, x, r, fun _ => 0, true⟩))) := by
    rw [hs2]; unfold stP; rw [if_pos ⟨by decide, by decide⟩, HG6.out, HGO.out, HT6.out]; rfl
  have HE2 := Lib.hid e2
  have HZ2 := Lib.hid (show s2.1 = 0 by rw [e2])
  have HP7 := Lib.hid fun (w' : World) (lab' : Nat → Int) (t' : Hd) (fr' : Int → Option Int) (h' : TN W w' p MR MF lab' T t' (upd (upd Q r (some d1)) r (some d6)) fr') => (show Calls Tryz.prog 46 #[ptr d6.sp, .int .i64 i, .int .i64 1] w' (RD d6.sp d6.M d6.tp s2 w') from by
    have hh := h'.each r d6 HQ6.out
    have hfew : d6.L.length ≤ 0 := hh.1.s9.few (by rw [HG6.out, HGO.out]; exact ⟨[], fun j hj => by simp at hj, Nat.le_refl _⟩)
    have := rP (x := 1) hh.1.sm hh.1.s9 HI.out (by omega)
    rw [← hs2] at this
    exact this)
  have HD9 := Lib.hid fun (d' : Hd) (dT : d'.T = T) (dg : d'.g = upd (GO D r) i (some (clF ⟨i, x, r, fun _ => 0, true⟩))) => HDP.out t6 d' (upd (upd (upd Q r (some d1)) r (some d6)) r (some d')) (by rw [HTT.out, HE1.out]) (by rw [HTG.out, HE1.out]) (fun q e => by unfold upd; rw [if_neg e, if_neg e, if_neg e]) (by unfold upd; rw [if_pos rfl]) dT dg
  clear hs2 e2
  obtain ⟨w7, hrun7, htn7, hch7⟩ := H6.out.fput HI.out r
  have hlk7 := look_q htn7 HR.out false
  rw [HQ6.out] at hlk7
  replace hlk7 := hlk7.trans (show _ = .ok (ptr d6.sp) w7 from rfl)
  have H7 := Lib.hid htn7; have HC7 := Lib.hid hch7
  have hp7 := HP7.out w7 lab6 t6 _ htn7
  obtain ⟨x0, x1, x2, x3, x4, x5, x6⟩ := H6.out.b.cells
  have xl := H6.out.b.lt
  obtain ⟨y0, y1, y2, y3, y4, y5, y6⟩ := htn7.b.cells
  have yl := htn7.b.lt
  have HPC := Lib.hid hp7
  clear htn7 hch7 hp7
  go_wp2_with fail
  refine HPC.out.mono ?_
  rintro e w8 hr8
  obtain ⟨rfl, d', lab8, hT8, hg8, hTN8, hlab8, hchg8⟩ := H7.out.role HQ6.out hr8
  have HE := Lib.hid (show RT W p MR MF lab (0, T, D ++ [⟨i, x, r, fun _ => 0, true⟩]) w (.returned (.int .i64 0)) w8 from
    ⟨rfl, lab8, t6, _, _, hTN8, HD9.out d' (by rw [hT8, HE2.out]) (by rw [hg8, HE2.out]), fun b hb => (hlab8 b (by have := HCH6.out.size; have := HC7.out.size; omega)).trans (HL6.out b hb),
     ((HCH6.out.lab HL6.out (fun b e => by have e : b = MF := e; rw [e]; have := H6.out.l0.2.2.1; omega) HC7.out).lab HL6.out (fun b e => by have e : lab6 b = r := e; have := HP.out.1; omega) hchg8)⟩)
  rw [HZ2.out]
  clear hr8 hT8 hg8 hTN8 hlab8 hchg8 hrun7 hlk7 x0 x1 x2 x3 x4 x5 x6 xl y0 y1 y2 y3 y4 y5 y6 yl
  go_wp2
  go_ret
  exact HE.out
end
end
section
open Go.RowKit Go.Maps
attribute [local go_sem] ext_cell ext_frozen extC_cell extC_frozen Mix.calmUpon Mix.mUpon
section
variable {W w w' : World} {p MR MF : Nat} {lab lab' : Nat → Int} {T n : Nat → Int} {t t' d d' : Hd} {Q Q' : Int → Option Hd} {fr fr' : Int → Option Int} {D D' A B : List Fd} {i r q : Int} {c : Cl} {x : Fd} {F : Nat → Prop}
set_option maxRecDepth 100000 in
set_option maxHeartbeats 1000000 in
theorem tidrop_none (h : TN W w p MR MF lab T t Q fr) (hd : TD T D t Q fr) (hi : I64 i) (hf : fr i = none) : Calls Tryz.prog 29 #[ptr p, .int .i64 i] w (RT W p MR MF lab (43, T, D) w) := by
  have HF := Lib.hid (tifind_none h hi hf)
  have H := Lib.hid h; have HD := Lib.hid hd
  clear h hi hf hd
  go_enter Tryz.func29, Tryz.ntmps29
  go_wp2_with fail
  refine HF.out.mono ?_
  rintro e w1 ⟨rfl, hb1⟩
  have HB1 := Lib.hid hb1
  clear hb1
  go_wp2
  go_ret
  exact ⟨rfl, lab, t, Q, fr, H.out.below HB1.out, HD.out, fun _ _ => rfl, .of_below _ HB1.out⟩
/-- A framework has gone, and its role stands or goes with it. -/
theorem TD.del (h : TD T (A ++ x :: B) t Q fr) (tT : t'.T = T) (tg : t'.g = GT (A ++ B)) (hQ : ∀ q, q ≠ x.role → Q' q = Q q) (hq : (Q' x.role).isSome = (GT (A ++ B) x.role).isSome) (hd : ∀ a, Q' x.role = some a → a.T = T ∧ a.g = GO (A ++ B) x.role) (hfr : fr' = upd fr x.id none) : TD T (A ++ B) t' Q' fr' where
  ok := h.ok.del
  tT := tT
  tg := tg
  dom := fun q => by
    by_cases e : q = x.role
    · rw [e]; exact hq
    · rw [hQ q e, GT_del_ne (x := x) e]; exact h.dom q
  each := fun q a ha => by
    by_cases e : q = x.role
    · subst e; exact hd a ha
    · rw [hQ q e] at ha
      have := h.each q a ha
      exact ⟨this.1, by rw [this.2, GO_del h.ok, if_neg e]⟩
  fr := by rw [hfr, h.fr, FR_del h.ok]
theorem ids_GO (h : TOk D) : ∀ i, i ∈ (inR D r).map (·.id) ↔ (GO D r i).isSome = true := fun i => by
  constructor
  · intro hi
    obtain ⟨d, hd, rfl⟩ := List.mem_map.1 hi
    obtain ⟨h1, h2⟩ := mem_inR.1 hd
    rw [(GO_some h).2 ⟨d, h1, h2, rfl, rfl⟩]; rfl
  · intro hi
    obtain ⟨c, hc⟩ := Option.isSome_iff_exists.1 hi
    obtain ⟨d, h1, h2, rfl, _⟩ := (GO_some h).1 hc
    exact List.mem_map_of_mem (mem_inR.2 ⟨h1, h2⟩)
-- (as in XTi7, where nothing stands behind the call)
set_option maxRecDepth 100000 in
set_option maxHeartbeats 2000000 in
theorem tidrop_ok (h : TN W w p MR MF lab T t Q fr) (hd : TD T (A ++ x :: B) t Q fr) (hl : (A ++ x :: B).length < 900000) : Calls Tryz.prog 29 #[ptr p, .int .i64 x.id] w (RT W p MR MF lab (0, T, A ++ B) w) := by
  obtain ⟨hf, hi, hr, hr1, d, hq, dT, dg, dgx, htg⟩ := hd.here
  have hle := hd.le
  have hsx := hd.ok.sm x (by simp)
  have hsu := hd.ok.su x.role
  have hok : HOk (SU (inR (A ++ x :: B) x.role)) x.s := ⟨hsu.ok, hsx.ok, (hle 0 (by decide)).2, (hle 1 (by decide)).2, (hle 2 (by decide)).2, (hle 3 (by decide)).2⟩
  obtain ⟨s1, hs1⟩ : ∃ s : St, s = stK t.T t.g x.role x.s := ⟨_, rfl⟩
  obtain ⟨s2, hs2⟩ : ∃ s : St, s = stD d.T d.g x.id := ⟨_, rfl⟩
  have hgt : upd (GT (A ++ x :: B)) x.role (some (⟨x.wt, SU (inR (A ++ B) x.role), true⟩ : Cl)) = upd (GT (A ++ x :: B)) x.role (some ⟨x.wt, fun k => SU (inR (A ++ x :: B) x.role) k - x.s k, true⟩) := by
    have : SU (inR (A ++ B) x.role) = fun k => SU (inR (A ++ x :: B) x.role) k - x.s k := by funext k; rw [SU_del (x := x) k, if_pos rfl]
    rw [this]
  have e1 : s1 = (0, T, upd (GT (A ++ x :: B)) x.role (some ⟨x.wt, SU (inR (A ++ B) x.role), true⟩)) := by
    rw [hs1, hgt]; unfold stK; rw [htg]; simp only [if_pos hok]; rw [hd.tT, hd.tg]
  have e2 : s2 = (0, T, GO (A ++ B) x.role) := by
    rw [hs2]; unfold stD; rw [dgx, dT, dg, GO_del hd.ok, if_pos rfl]
  have hlt := fun (w' : World) (lab' : Nat → Int) (h' : TN W w' p MR MF lab' T t Q fr) => rK (n := x.s) h'.t.sm h'.t.s9 hr (Nat.lt_of_le_of_lt (h'.t.s9.few (hd.tg ▸ few_GT hd.ok)) (Nat.lt_trans hl (show 900000 < 1000000 by decide)))
  have hlr := fun (w' : World) (lab' : Nat → Int) (t' : Hd) (h' : TN W w' p MR MF lab' T t' Q fr) => rD (h'.each x.role d hq).1.sm (h'.each x.role d hq).1.s9 hi (Nat.lt_of_le_of_lt ((h'.each x.role d hq).1.s9.few ((hd.each x.role d hq).2 ▸ few_GO hd.ok)) (Nat.lt_trans hl (show 900000 < 1000000 by decide)))
  rw [← hs1] at hlt
  rw [← hs2] at hlr
  have hss := fun (w' : World) (h' : TN W w' p MR MF lab T t Q fr) => ssum (h'.each x.role d hq).1.sm hi
  unfold sumQ at hss
  simp only [dgx, Option.isSome_some, clF] at hss
  have HF := Lib.hid (tifind_some h hi hf hq hr)
  have H := Lib.hid h; have HC := Lib.hid hlt; have HC2 := Lib.hid hlr; have HSS := Lib.hid hss; have HQ := Lib.hid hq; have HR1 := Lib.hid hr1; have HTD := Lib.hid hd; have HI := Lib.hid hi; have HR := Lib.hid hr
  have HE1 := Lib.hid e1; have HE2 := Lib.hid e2
  have HLEN := Lib.hid hl
  clear h hd hl hf hi hr hr1 hq dT dg dgx htg hle hsx hsu hok hs1 hs2 hgt e1 e2 hlt hlr hss
  go_enter Tryz.func29, Tryz.ntmps29
  go_wp2_with fail
  refine HF.out.mono ?_
  rintro e w1 ⟨rfl, hb1⟩
  have H1 := Lib.hid (H.out.below hb1)
  have HB1 := Lib.hid hb1
  clear hb1 HF H
  go_wp2_with fail
  refine (HSS.out w1 H1.out).mono ?_
  rintro e w2 ⟨rfl, hb2⟩
  have hb3 := ba (Below.refl w2.heap.size w2) (.cells (C4 x.s) 67)
  obtain ⟨lb, hlb⟩ : ∃ lb : Nat → Int, lb = fun b => if b < w2.heap.size then lab b else -5 := ⟨_, rfl⟩
  have H2 := Lib.hid (show TN W (w2.alloc (.cells (C4 x.s) 67)) p MR MF lb T t Q fr from ((H1.out.below hb2).relab fun b hb => by rw [hlb]; exact if_pos hb).below hb3)
  have HN2 := Lib.hid (NB.made w2 x.s)
  have HL1 := Lib.hid (show lb w2.heap.size = -5 from by rw [hlb]; exact if_neg (Nat.lt_irrefl _))
  have HL0 := Lib.hid (show ∀ b, b < w.heap.size → lb b = lab b from fun b hb => by rw [hlb]; exact if_pos (Nat.lt_of_lt_of_le hb (Nat.le_trans HB1.out.size hb2.size)))
  have HCH2 := Lib.hid (Chg.of_below (fun b => -1 ≤ lab b) (bt HB1.out (bt hb2 hb3)))
  clear hb2 hb3 hlb H1 HB1 HSS
  go_upto_region 5 with (fail)
  generalize w2.alloc (.cells (C4 x.s) 67) = w3 at *
  generalize w2.heap.size = nb at *
  obtain ⟨F, hF⟩ : ∃ F : Nat → Prop, F = fun b => lb b = 0 := ⟨_, rfl⟩
  have q1 : ¬ F p := by rw [hF]; have := H2.out.l0.1; intro e; have e : lb p = 0 := e; omega
  have q2 : ¬ F nb := by rw [hF]; have := HL1.out; intro e; have e : lb nb = 0 := e; omega
  have HFQ := Lib.hid hF
  clear hF
  obtain ⟨x0, x1, x2, x3, x4, x5, x6⟩ := H2.out.b.cells
  have xl := H2.out.b.lt
  obtain ⟨n0, n1', n2, n3⟩ := HN2.out.cells
  have nl := HN2.out.lt
  go_wp2_with fail
  refine Mix.regionC F (by kernel_rfl) ?_
  intro w3 hb3
  refine Mix.take_exC _ _ 0 rfl (by kernel_rfl) (by kernel_rfl) (by kernel_rfl) (by kernel_rfl) (fun K hK => ?_)
  go_simp
  first | (refine hK _ ?_; clear hK K) | (apply Exists.intro; refine ⟨fun x => ?_, hK _ ?_⟩; (fail); clear hK K)
  refine Mix.take_exC _ _ 1 rfl (by kernel_rfl) (by kernel_rfl) (by kernel_rfl) (by kernel_rfl) (fun K hK => ?_)
  go_simp
  first | (refine hK _ ?_; clear hK K) | (apply Exists.intro; refine ⟨fun x => ?_, hK _ ?_⟩; (fail); clear hK K)
  refine Mix.take_exC _ _ 2 rfl (by kernel_rfl) (by kernel_rfl) (by kernel_rfl) (by kernel_rfl) (fun K hK => ?_)
  go_simp
  first | (refine hK _ ?_; clear hK K) | (apply Exists.intro; refine ⟨fun x => ?_, hK _ ?_⟩; (fail); clear hK K)
  refine Mix.take_exC _ _ 3 rfl (by kernel_rfl) (by kernel_rfl) (by kernel_rfl) (by kernel_rfl) (fun K hK => ?_)
  go_simp
  first | (refine hK _ ?_; clear hK K) | (apply Exists.intro; refine ⟨fun x => ?_, hK _ ?_⟩; (fail); clear hK K)
  refine Mix.take_exC _ _ 4 rfl (by kernel_rfl) (by kernel_rfl) (by kernel_rfl) (by kernel_rfl) (fun K hK => ?_)
  go_simp
  first | (refine hK _ ?_; clear hK K) | (apply Exists.intro; refine ⟨fun x => ?_, hK _ ?_⟩; (fail); clear hK K)
  refine Mix.take_exC _ _ 5 rfl (by kernel_rfl) (by kernel_rfl) (by kernel_rfl) (by kernel_rfl) (fun K hK => ?_)
  go_simp
  first | (refine hK _ ?_; clear hK K) | (apply Exists.intro; refine ⟨fun x => ?_, hK _ ?_⟩; (fail); clear hK K)
  refine Mix.all (rs := [6]) (by kernel_rfl) (by simp) (.of_below _ hb3) ?_
  intro i4 hi4 w4 hb4 hC4
  simp only [List.mem_cons, List.not_mem_nil, or_false] at hi4
  subst hi4
  have HB4 := Lib.hid (bt hb3 hb4)
  have H4 := Lib.hid (H2.out.below HB4.out)
  have HN4 := Lib.hid (HN2.out.below HB4.out)
  clear hC4 hb3 hb4
  refine Mix.op rfl (by kernel_rfl) ?_
  go_simp
  refine (HC.out w4 lb H4.out).mono ?_
  rintro e w5 hr5
  obtain ⟨rfl, t', lab5, hT5, hg5, hTN5, hlab5, hchg5⟩ := H4.out.tier hr5
  refine ⟨_, rfl, ?_⟩
  have hchF : Chg F w4 w5 := by rw [HFQ.out]; exact hchg5
  have HCF := Lib.hid hchF
  have HN5 := Lib.hid (HN4.out.chg hchF q2)
  have HT5 := Lib.hid hT5; have HG5 := Lib.hid hg5; have HTN5 := Lib.hid hTN5; have HLB5 := Lib.hid hlab5; have HCH5 := Lib.hid hchg5
  clear hr5 hchF hT5 hg5 hTN5 hlab5 hchg5
  refine Mix.done (by kernel_rfl) ((Chg.of_below _ HB4.out).same HCF.out) ?_
  intro w6 hb6
  have H6 := Lib.hid (HTN5.out.below hb6)
  have HN6 := Lib.hid (HN5.out.below hb6)
  have HL6 := Lib.hid (show ∀ b, b < w.heap.size → lab5 b = lab b from fun b hb => (HLB5.out b (by have := HCH2.out.size; have := HB4.out.size; omega)).trans (HL0.out b hb))
  have HCH6 := Lib.hid (((HCH2.out.same (Chg.of_below _ HB4.out)).lab HL0.out (fun b e => by have e : lb b = 0 := e; omega) HCH5.out).same (Chg.of_below _ hb6))
  clear hb6 x0 x1 x2 x3 x4 x5 x6 xl n0 n1' n2 n3 nl q1 q2 HCF HFQ HB4 H4 HN4 HN5 HTN5 HCH5
  go_wp2_with fail
  refine (HC2.out w6 lab5 t' H6.out).mono ?_
  rintro e w7 hr7
  obtain ⟨rfl, d', lab7, hT7, hg7, hTN7, hlab7, hchg7, hsp⟩ := H6.out.role' HQ.out hr7
  have HL7 := Lib.hid (show ∀ b, b < w.heap.size → lab7 b = lab b from fun b hb => (hlab7 b (by have := HCH6.out.size; omega)).trans (HL6.out b hb))
  have HCH7 := Lib.hid (HCH6.out.lab HL6.out (fun b e => by have e : lab5 b = x.role := e; have := HR1.out; omega) hchg7)
  have HDG := Lib.hid (show d'.g = GO (A ++ B) x.role by rw [hg7, HE2.out])
  have HDT := Lib.hid (show d'.T = T by rw [hT7, HE2.out])
  obtain ⟨w8, hdel, htn8, hch8⟩ := hTN7.fdel HI.out 0
  have HCH8 := Lib.hid (HCH7.out.lab HL7.out (fun b e => by have e : b = MF := e; rw [e]; have := hTN7.l0.2.2.1; omega) hch8)
  have H8 := Lib.hid htn8
  have hq8 : upd Q x.role (some d') x.role = some d' := by unfold upd; rw [if_pos rfl]
  have HQ8 := Lib.hid hq8
  have hlg := slong (htn8.each x.role d' hq8).1.sm (S := (inR (A ++ B) x.role).map (·.id)) (HTD.out.ok.del.ndR _) (by rw [HDG.out]; exact ids_GO HTD.out.ok.del)
  rw [List.length_map] at hlg
  obtain ⟨k, hk⟩ : ∃ k, k = (inR (A ++ B) x.role).length := ⟨_, rfl⟩
  rw [← hk] at hlg
  obtain ⟨x0, x1, x2, x3, x4, x5, x6⟩ := hTN7.b.cells
  have xl := hTN7.b.lt
  obtain ⟨y0, y1, y2, y3, y4, y5, y6⟩ := htn8.b.cells
  have yl := htn8.b.lt
  rw [hsp] at hlg
  have HLG := Lib.hid hlg
  have HK := Lib.hid hk
  have H7t := Lib.hid hT7
  clear hr7 hT7 hg7 hlab7 hchg7 htn8 hch8 hq8 hlg hk hsp hTN7
  go_wp2_with fail
  refine HLG.out.mono ?_
  rintro e w9 ⟨rfl, hw9⟩
  rw [hw9]
  clear hw9 w9 hdel x0 x1 x2 x3 x4 x5 x6 xl
  have hgd := GT_del HTD.out.ok
  by_cases hk0 : k = 0
  · have hin : inR (A ++ B) x.role = [] := List.eq_nil_of_length_eq_zero (HK.out.symm.trans hk0)
    rw [if_pos hin] at hgd
    subst hk0
    obtain ⟨s3, hs3⟩ : ∃ s : St, s = stD t'.T t'.g x.role := ⟨_, rfl⟩
    have e3 : s3 = (0, T, GT (A ++ B)) := by
      rw [hs3, HG5.out, HT5.out, HE1.out, hgd]; unfold stD; dsimp only
      rw [show upd (GT (A ++ x :: B)) x.role (some (⟨x.wt, SU (inR (A ++ B) x.role), true⟩ : Cl)) x.role = some ⟨x.wt, SU (inR (A ++ B) x.role), true⟩ from upd_at]
      simp only [upd_upd]
    have hrd := rD (i := x.role) H8.out.t.sm H8.out.t.s9 HR.out (by
      have hf : Few t'.g ((A ++ x :: B).length + 1) := by rw [HG5.out, HE1.out]; exact (few_GT HTD.out.ok).upd _ _
      have := H8.out.t.s9.few hf
      have := HLEN.out
      omega)
    rw [← hs3] at hrd
    have HRD := Lib.hid hrd
    have HE3 := Lib.hid e3
    clear hrd hs3 e3 hgd
    go_wp2_with fail
    refine HRD.out.mono ?_
    rintro e w10 hr10
    obtain ⟨rfl, t9, lab10, hT10, hg10, hTN10, hlab10, hchg10⟩ := H8.out.tier hr10
    have HL10 := Lib.hid (show ∀ b, b < w.heap.size → lab10 b = lab b from fun b hb => (hlab10 b (by have := HCH8.out.size; omega)).trans (HL7.out b hb))
    have HCH10 := Lib.hid (HCH8.out.lab HL7.out (fun b e => by have e : lab7 b = 0 := e; omega) hchg10)
    obtain ⟨w11, hdq, htn11, hch11⟩ := hTN10.qdel HR.out 0
    have HE := Lib.hid (show RT W p MR MF lab (0, T, A ++ B) w (.returned (.int .i64 0)) w11 from
      ⟨rfl, lab10, t9, _, _, htn11, HTD.out.del (by rw [hT10, HE3.out]) (by rw [hg10, HE3.out]) (fun q e => by unfold upd; rw [if_neg e, if_neg e]) (by
        rw [show upd (upd Q x.role (some d')) x.role none x.role = none by unfold upd; rw [if_pos rfl]]
        unfold GT; rw [hin]; rfl) (fun a ha => by
        rw [show upd (upd Q x.role (some d')) x.role none x.role = none by unfold upd; rw [if_pos rfl]] at ha; cases ha) rfl,
       HL10.out, HCH10.out.lab HL10.out (fun b e => by have e : b = MR := e; rw [e]; have := hTN10.l0.2.1; omega) hch11⟩)
    obtain ⟨x0, x1, x2, x3, x4, x5, x6⟩ := hTN10.b.cells
    have xl := hTN10.b.lt
    clear y0 y1 y2 y3 y4 y5 y6 yl hr10 hT10 hg10 hTN10 hlab10 hchg10 htn11 hch11 hin
    go_wp2
    go_ret
    exact HE.out
  · have hkb : ((k : Int) == 0) = false := by simp; omega
    have hin : inR (A ++ B) x.role ≠ [] := fun e => hk0 (by rw [HK.out, e]; rfl)
    rw [if_neg hin] at hgd
    have HE := Lib.hid (show RT W p MR MF lab (0, T, A ++ B) w (.returned (.int .i64 0)) w8 from
      ⟨rfl, lab7, t', _, _, H8.out, HTD.out.del (by rw [HT5.out, HE1.out]) (by rw [HG5.out, HE1.out, hgd]) (fun q e => by unfold upd; rw [if_neg e]) (by
        rw [HQ8.out, hgd]
        rw [show upd (GT (A ++ x :: B)) x.role (some (⟨x.wt, SU (inR (A ++ B) x.role), true⟩ : Cl)) x.role = some ⟨x.wt, SU (inR (A ++ B) x.role), true⟩ from upd_at]; rfl) (fun a ha => by
        rw [HQ8.out] at ha; cases ha; exact ⟨HDT.out, HDG.out⟩) rfl, HL7.out, HCH8.out⟩)
    clear hgd hin hk0 y0 y1 y2 y3 y4 y5 y6 yl
    go_wp2
    go_ret
    exact HE.out
end
end
section
open Go.RowKit Go.Maps
attribute [local go_sem] ext_cell ext_frozen extC_cell extC_frozen Mix.calmUpon Mix.mUpon
section
variable {W w w' : World} {p MR MF it nb : Nat} {lab lab' : Nat → Int} {T n : Nat → Int} {t t' d d' : Hd} {Q Q' : Int → Option Hd} {fr fr' : Int → Option Int} {D D' A B : List Fd} {i r q : Int} {c : Cl} {x : Fd} {F : Nat → Prop}
theorem TN.off (h : TN W w p MR MF lab T t Q fr) (hc : Chg F w w') (hn : NoNode F w) (hF : ∀ b, F b → b < w.heap.size → lab b ≤ -2) (hW : ∀ b, F b → W.heap.size ≤ b) : TN W w' p MR MF lab T t Q fr where
  bel := h.bel.trans (hc.below h.bel.size hW)
  b := h.b.chg hc fun e => by have := hF p e h.b.lt; have := h.l0.1; omega
  t := h.t.chg hc (fun b e hb e' => by have := hF b e' hb; omega) hn
  q := h.q.chg hc fun e => by have := hF MR e h.lt.2.1; have := h.l0.2.1; omega
  f := h.f.chg hc fun e => by have := hF MF e h.lt.2.2; have := h.l0.2.2.1; omega
  each := fun r d hq => ⟨(h.each r d hq).1.chg hc (fun b e hb e' => by have := hF b e' hb; have := (h.each r d hq).2; omega) hn, (h.each r d hq).2⟩
  l0 := h.l0
  b0 := h.b0
theorem TB.nonode {T : Nat → Int} {sp : Nat} (h : TB w p T sp MR MF) : NoNode (fun k => k = p) w := fun q hq cs e => by
  have hq : q = p := hq
  subst hq
  unfold TB at h; rw [h] at e; injection e with e; injection e with _ e; cases e
/-- The total is set. -/
theorem TN.tset (h : TN W w p MR MF lab T t Q fr) (n : Nat → Int) : TN W ((((w.setCell ⟨p, 0, none⟩ (.int .i64 (n 0))).setCell ⟨p, 1, none⟩ (.int .i64 (n 1))).setCell ⟨p, 2, none⟩ (.int .i64 (n 2))).setCell ⟨p, 3, none⟩ (.int .i64 (n 3))) p MR MF lab n t Q fr ∧
    Chg (fun k => k = p) w ((((w.setCell ⟨p, 0, none⟩ (.int .i64 (n 0))).setCell ⟨p, 1, none⟩ (.int .i64 (n 1))).setCell ⟨p, 2, none⟩ (.int .i64 (n 2))).setCell ⟨p, 3, none⟩ (.int .i64 (n 3))) := by
  have hc : Chg (fun k => k = p) w ((((w.setCell ⟨p, 0, none⟩ (.int .i64 (n 0))).setCell ⟨p, 1, none⟩ (.int .i64 (n 1))).setCell ⟨p, 2, none⟩ (.int .i64 (n 2))).setCell ⟨p, 3, none⟩ (.int .i64 (n 3))) :=
    ((((Chg.refl (fun k => k = p) w).setCell (p := ⟨p, 0, none⟩) (.inl rfl) _).setCell (p := ⟨p, 1, none⟩) (.inl rfl) _).setCell (p := ⟨p, 2, none⟩) (.inl rfl) _).setCell (p := ⟨p, 3, none⟩) (.inl rfl) _
  have hl := h.l0.1
  have mne : ∀ {κ α : Type} [DecidableEq κ] {k : TypeId} {E : KEnc Tryz.prog k κ} {b : Nat} {f : κ → Option α} {enc : α → Value}, MapF E w b f enc → b ≠ p := fun hm e => by
    subst e
    obtain ⟨L, ⟨es, m, hb', _⟩, _⟩ := hm
    have hb := h.b
    unfold TB at hb; rw [hb'] at hb; cases hb
  refine ⟨⟨h.bel.trans (hc.below h.bel.size fun b e => by have e : b = p := e; rw [e]; exact h.b0.1), h.b.set4 n, h.t.chg hc (fun b e _ e' => by have e' : b = p := e'; rw [e'] at e; omega) h.b.nonode, h.q.chg hc (mne h.q), h.f.chg hc (mne h.f), fun r d hq => ⟨(h.each r d hq).1.chg hc (fun b e _ e' => by have e' : b = p := e'; rw [e'] at e; have := (h.each r d hq).2; omega) h.b.nonode, (h.each r d hq).2⟩, h.l0, h.b0⟩, hc⟩
theorem MapI.nonode {k : TypeId} {E : KEnc Tryz.prog k Int} {L todo : List (Int × Value)} (h : MapI E w MR it L todo) : NoNode (fun b => b = it) w := fun b hb cs e => by
  have hb : b = it := hb
  subst hb
  obtain ⟨es, c, s, c0, seen, _, _, _, _, a5, _⟩ := h
  rw [a5] at e; cases e
set_option maxRecDepth 100000 in
set_option maxHeartbeats 1000000 in
theorem titotal_no (h : TN W w p MR MF lab T t Q fr) (hd : TD T D t Q fr) (hl : D.length < 900000) (hS : ¬ Sm4 n) : Calls Tryz.prog 28 #[ptr p, S4 n] w (RT W p MR MF lab (41, T, D) w) := by
  have hb := ba (Below.refl w.heap.size w) (.cells (C4 n) 67)
  obtain ⟨lb, hlb⟩ : ∃ lb : Nat → Int, lb = fun b => if b < w.heap.size then lab b else -5 := ⟨_, rfl⟩
  have HL0 := Lib.hid (show ∀ b, b < w.heap.size → lb b = lab b from fun b hb => by rw [hlb]; exact if_pos hb)
  have HL1 := Lib.hid (show lb w.heap.size = -5 from by rw [hlb]; exact if_neg (Nat.lt_irrefl _))
  have H2 := Lib.hid (show TN W (w.alloc (.cells (C4 n) 67)) p MR MF lb T t Q fr from (h.relab HL0.out).below hb)
  have HN2 := Lib.hid (NB.made w n)
  have HCH2 := Lib.hid (Chg.of_below (fun b => -1 ≤ lab b) hb)
  have HTD := Lib.hid hd; have HTT := Lib.hid hd.tT; have HTG := Lib.hid hd.tg
  have hc := fun (w' : World) (lab' : Nat → Int) (h' : TN W w' p MR MF lab' T t Q fr) => rT (n := n) h'.t.sm h'.t.s9 (Nat.lt_of_le_of_lt (hd.lenT h') (Nat.lt_trans hl (show 900000 < 1000000 by decide)))
  obtain ⟨s1, hs1⟩ : ∃ s : St, s = stT t.T t.g n := ⟨_, rfl⟩
  rw [← hs1] at hc
  have HC := Lib.hid hc
  clear hc hb hlb
  have e1 : s1 = (41, t.T, t.g) := by rw [hs1]; unfold stT; rw [if_neg hS]
  have HE1 := Lib.hid e1; have HZ1 := Lib.hid (show s1.1 = 41 by rw [e1])
  clear h hd hl hS hs1 e1
  go_enter Tryz.func28, Tryz.ntmps28
  go_upto_region 1 with (fail)
  generalize w.alloc (.cells (C4 n) 67) = w2 at *
  obtain ⟨nb, hnb⟩ : ∃ b, b = w.heap.size := ⟨_, rfl⟩
  rw [← hnb] at HN2 HL1 ⊢
  have HNQ := Lib.hid hnb
  clear hnb
  go_wp2_with fail
  refine (timade H2.out.b).mono ?_
  rintro e w1 ⟨rfl, hw1⟩
  rw [hw1]
  clear hw1 w1
  obtain ⟨F, hF⟩ : ∃ F : Nat → Prop, F = fun b => lb b = 0 := ⟨_, rfl⟩
  have q1 : ¬ F p := by rw [hF]; have := H2.out.l0.1; intro e; have e : lb p = 0 := e; omega
  have q2 : ¬ F nb := by rw [hF]; have := HL1.out; intro e; have e : lb nb = 0 := e; omega
  have HFQ := Lib.hid hF
  clear hF
  obtain ⟨x0, x1, x2, x3, x4, x5, x6⟩ := H2.out.b.cells
  have xl := H2.out.b.lt
  obtain ⟨n0, n1', n2, n3⟩ := HN2.out.cells
  have nl := HN2.out.lt
  go_wp2_with fail
  refine Mix.regionC F (by kernel_rfl) ?_
  intro w3 hb3
  refine Mix.take_exC _ _ 0 rfl (by kernel_rfl) (by kernel_rfl) (by kernel_rfl) (by kernel_rfl) (fun K hK => ?_)
  go_simp
  first | (refine hK _ ?_; clear hK K) | (apply Exists.intro; refine ⟨fun x => ?_, hK _ ?_⟩; (fail); clear hK K)
  refine Mix.take_exC _ _ 1 rfl (by kernel_rfl) (by kernel_rfl) (by kernel_rfl) (by kernel_rfl) (fun K hK => ?_)
  go_simp
  first | (refine hK _ ?_; clear hK K) | (apply Exists.intro; refine ⟨fun x => ?_, hK _ ?_⟩; (fail); clear hK K)
  refine Mix.take_exC _ _ 2 rfl (by kernel_rfl) (by kernel_rfl) (by kernel_rfl) (by kernel_rfl) (fun K hK => ?_)
  go_simp
  first | (refine hK _ ?_; clear hK K) | (apply Exists.intro; refine ⟨fun x => ?_, hK _ ?_⟩; (fail); clear hK K)
  refine Mix.take_exC _ _ 3 rfl (by kernel_rfl) (by kernel_rfl) (by kernel_rfl) (by kernel_rfl) (fun K hK => ?_)
  go_simp
  first | (refine hK _ ?_; clear hK K) | (apply Exists.intro; refine ⟨fun x => ?_, hK _ ?_⟩; (fail); clear hK K)
  refine Mix.take_exC _ _ 4 rfl (by kernel_rfl) (by kernel_rfl) (by kernel_rfl) (by kernel_rfl) (fun K hK => ?_)
  go_simp
  first | (refine hK _ ?_; clear hK K) | (apply Exists.intro; refine ⟨fun x => ?_, hK _ ?_⟩; (fail); clear hK K)
  refine Mix.all (rs := [5]) (by kernel_rfl) (by simp) (.of_below _ hb3) ?_
  intro i4 hi4 w4 hb4 hC4
  simp only [List.mem_cons, List.not_mem_nil, or_false] at hi4
  subst hi4
  have HB4 := Lib.hid (bt hb3 hb4)
  have H4 := Lib.hid (H2.out.below HB4.out)
  have HN4 := Lib.hid (HN2.out.below HB4.out)
  clear hC4 hb3 hb4
  refine Mix.op rfl (by kernel_rfl) ?_
  go_simp
  refine (HC.out w4 lb H4.out).mono ?_
  rintro e w5 hr5
  obtain ⟨rfl, t', lab5, hT5, hg5, hTN5, hlab5, hchg5⟩ := H4.out.tier hr5
  refine ⟨_, rfl, ?_⟩
  have hchF : Chg F w4 w5 := by rw [HFQ.out]; exact hchg5
  have HCF := Lib.hid hchF
  have HN5 := Lib.hid (HN4.out.chg hchF q2)
  have HT5 := Lib.hid hT5; have HG5 := Lib.hid hg5; have HTN5 := Lib.hid hTN5; have HLB5 := Lib.hid hlab5; have HCH5 := Lib.hid hchg5
  clear hr5 hchF hT5 hg5 hTN5 hlab5 hchg5
  refine Mix.take_exC _ _ 6 rfl (by kernel_rfl) (by kernel_rfl) (by kernel_rfl) (by kernel_rfl) (fun K hK => ?_)
  go_simp
  first | (refine hK _ ?_; clear hK K) | (apply Exists.intro; refine ⟨fun x => ?_, hK _ ?_⟩; (fail); clear hK K)
  refine Mix.done (by kernel_rfl) ((Chg.of_below _ HB4.out).same HCF.out) ?_
  intro w6 hb6
  have H6 := Lib.hid (HTN5.out.below hb6)
  have HN6 := Lib.hid (HN5.out.below hb6)
  have HL16 := Lib.hid (show lab5 nb = -5 from (HLB5.out nb HN4.out.lt).trans HL1.out)
  have HL6 := Lib.hid (show ∀ b, b < w.heap.size → lab5 b = lab b from fun b hb => (HLB5.out b (by have := HCH2.out.size; have := HB4.out.size; omega)).trans (HL0.out b hb))
  have HCH6 := Lib.hid (((HCH2.out.same (Chg.of_below _ HB4.out)).lab HL0.out (fun b e => by have e : lb b = 0 := e; omega) HCH5.out).same (Chg.of_below _ hb6))
  clear hb6 x0 x1 x2 x3 x4 x5 x6 xl n0 n1' n2 n3 nl q1 q2 HCF HFQ HB4 H4 HN4 HN5 HTN5 HCH5
  rw [HZ1.out]
  go_wp2
  go_ret
  exact ⟨rfl, lab5, t', Q, fr, H6.out, HTD.out.tier (by rw [HT5.out, HE1.out]; exact HTT.out) (by rw [HG5.out, HE1.out]), HL6.out, HCH6.out⟩
set_option maxRecDepth 100000 in
set_option maxHeartbeats 2000000 in
theorem titotal_ok (h : TN W w p MR MF lab T t Q fr) (hd : TD T D t Q fr) (hl : D.length < 900000) (hS : Sm4 n) : Calls Tryz.prog 28 #[ptr p, S4 n] w (RT W p MR MF lab (0, n, D) w) := by
  have hb := ba (Below.refl w.heap.size w) (.cells (C4 n) 67)
  obtain ⟨lb, hlb⟩ : ∃ lb : Nat → Int, lb = fun b => if b < w.heap.size then lab b else -5 := ⟨_, rfl⟩
  have HL0 := Lib.hid (show ∀ b, b < w.heap.size → lb b = lab b from fun b hb => by rw [hlb]; exact if_pos hb)
  have HL1 := Lib.hid (show lb w.heap.size = -5 from by rw [hlb]; exact if_neg (Nat.lt_irrefl _))
  have H2 := Lib.hid (show TN W (w.alloc (.cells (C4 n) 67)) p MR MF lb T t Q fr from (h.relab HL0.out).below hb)
  have HN2 := Lib.hid (NB.made w n)
  have HCH2 := Lib.hid (Chg.of_below (fun b => -1 ≤ lab b) hb)
  have HTD := Lib.hid hd; have HTT := Lib.hid hd.tT; have HTG := Lib.hid hd.tg
  have hc := fun (w' : World) (lab' : Nat → Int) (h' : TN W w' p MR MF lab' T t Q fr) => rT (n := n) h'.t.sm h'.t.s9 (Nat.lt_of_le_of_lt (hd.lenT h') (Nat.lt_trans hl (show 900000 < 1000000 by decide)))
  obtain ⟨s1, hs1⟩ : ∃ s : St, s = stT t.T t.g n := ⟨_, rfl⟩
  rw [← hs1] at hc
  have HC := Lib.hid hc
  clear hc hb hlb
  have e1 : s1 = (0, n, t.g) := by rw [hs1]; unfold stT; rw [if_pos hS]
  have HE1 := Lib.hid e1; have HZ1 := Lib.hid (show s1.1 = 0 by rw [e1]); have HS := Lib.hid hS; have HLEN := Lib.hid hl
  clear h hd hl hS hs1 e1
  go_enter Tryz.func28, Tryz.ntmps28
  go_upto_region 1 with (fail)
  generalize w.alloc (.cells (C4 n) 67) = w2 at *
  obtain ⟨nb, hnb⟩ : ∃ b, b = w.heap.size := ⟨_, rfl⟩
  rw [← hnb] at HN2 HL1 ⊢
  have HNQ := Lib.hid hnb
  clear hnb
  go_wp2_with fail
  refine (timade H2.out.b).mono ?_
  rintro e w1 ⟨rfl, hw1⟩
  rw [hw1]
  clear hw1 w1
  obtain ⟨F, hF⟩ : ∃ F : Nat → Prop, F = fun b => lb b = 0 := ⟨_, rfl⟩
  have q1 : ¬ F p := by rw [hF]; have := H2.out.l0.1; intro e; have e : lb p = 0 := e; omega
  have q2 : ¬ F nb := by rw [hF]; have := HL1.out; intro e; have e : lb nb = 0 := e; omega
  have HFQ := Lib.hid hF
  clear hF
  obtain ⟨x0, x1, x2, x3, x4, x5, x6⟩ := H2.out.b.cells
  have xl := H2.out.b.lt
  obtain ⟨n0, n1', n2, n3⟩ := HN2.out.cells
  have nl := HN2.out.lt
  go_wp2_with fail
  refine Mix.regionC F (by kernel_rfl) ?_
  intro w3 hb3
  refine Mix.take_exC _ _ 0 rfl (by kernel_rfl) (by kernel_rfl) (by kernel_rfl) (by kernel_rfl) (fun K hK => ?_)
  go_simp
  first | (refine hK _ ?_; clear hK K) | (apply Exists.intro; refine ⟨fun x => ?_, hK _ ?_⟩; (fail); clear hK K)
  refine Mix.take_exC _ _ 1 rfl (by kernel_rfl) (by kernel_rfl) (by kernel_rfl) (by kernel_rfl) (fun K hK => ?_)
  go_simp
  first | (refine hK _ ?_; clear hK K) | (apply Exists.intro; refine ⟨fun x => ?_, hK _ ?_⟩; (fail); clear hK K)
  refine Mix.take_exC _ _ 2 rfl (by kernel_rfl) (by kernel_rfl) (by kernel_rfl) (by kernel_rfl) (fun K hK => ?_)
  go_simp
  first | (refine hK _ ?_; clear hK K) | (apply Exists.intro; refine ⟨fun x => ?_, hK _ ?_⟩; (fail); clear hK K)
  refine Mix.take_exC _ _ 3 rfl (by kernel_rfl) (by kernel_rfl) (by kernel_rfl) (by kernel_rfl) (fun K hK => ?_)
  go_simp
  first | (refine hK _ ?_; clear hK K) | (apply Exists.intro; refine ⟨fun x => ?_, hK _ ?_⟩; (fail); clear hK K)
  refine Mix.take_exC _ _ 4 rfl (by kernel_rfl) (by kernel_rfl) (by kernel_rfl) (by kernel_rfl) (fun K hK => ?_)
  go_simp
  first | (refine hK _ ?_; clear hK K) | (apply Exists.intro; refine ⟨fun x => ?_, hK _ ?_⟩; (fail); clear hK K)
  refine Mix.all (rs := [5]) (by kernel_rfl) (by simp) (.of_below _ hb3) ?_
  intro i4 hi4 w4 hb4 hC4
  simp only [List.mem_cons, List.not_mem_nil, or_false] at hi4
  subst hi4
  have HB4 := Lib.hid (bt hb3 hb4)
  have H4 := Lib.hid (H2.out.below HB4.out)
  have HN4 := Lib.hid (HN2.out.below HB4.out)
  clear hC4 hb3 hb4
  refine Mix.op rfl (by kernel_rfl) ?_
  go_simp
  refine (HC.out w4 lb H4.out).mono ?_
  rintro e w5 hr5
  obtain ⟨rfl, t', lab5, hT5, hg5, hTN5, hlab5, hchg5⟩ := H4.out.tier hr5
  refine ⟨_, rfl, ?_⟩
  have hchF : Chg F w4 w5 := by rw [HFQ.out]; exact hchg5
  have HCF := Lib.hid hchF
  have HN5 := Lib.hid (HN4.out.chg hchF q2)
  have HT5 := Lib.hid hT5; have HG5 := Lib.hid hg5; have HTN5 := Lib.hid hTN5; have HLB5 := Lib.hid hlab5; have HCH5 := Lib.hid hchg5
  clear hr5 hchF hT5 hg5 hTN5 hlab5 hchg5
  refine Mix.take_exC _ _ 6 rfl (by kernel_rfl) (by kernel_rfl) (by kernel_rfl) (by kernel_rfl) (fun K hK => ?_)
  go_simp
  first | (refine hK _ ?_; clear hK K) | (apply Exists.intro; refine ⟨fun x => ?_, hK _ ?_⟩; (fail); clear hK K)
  refine Mix.done (by kernel_rfl) ((Chg.of_below _ HB4.out).same HCF.out) ?_
  intro w6 hb6
  have H6 := Lib.hid (HTN5.out.below hb6)
  have HN6 := Lib.hid (HN5.out.below hb6)
  have HL16 := Lib.hid (show lab5 nb = -5 from (HLB5.out nb HN4.out.lt).trans HL1.out)
  have HL6 := Lib.hid (show ∀ b, b < w.heap.size → lab5 b = lab b from fun b hb => (HLB5.out b (by have := HCH2.out.size; have := HB4.out.size; omega)).trans (HL0.out b hb))
  have HCH6 := Lib.hid (((HCH2.out.same (Chg.of_below _ HB4.out)).lab HL0.out (fun b e => by have e : lb b = 0 := e; omega) HCH5.out).same (Chg.of_below _ hb6))
  clear hb6 x0 x1 x2 x3 x4 x5 x6 xl n0 n1' n2 n3 nl q1 q2 HCF HFQ HB4 H4 HN4 HN5 HTN5 HCH5
  rw [HZ1.out]
  obtain ⟨x0, x1, x2, x3, x4, x5, x6⟩ := H6.out.b.cells
  have xl := H6.out.b.lt
  have xf0 := H6.out.b.fz 0; have xf1 := H6.out.b.fz 1; have xf2 := H6.out.b.fz 2; have xf3 := H6.out.b.fz 3
  obtain ⟨n0, n1', n2, n3⟩ := HN6.out.cells
  have nl := HN6.out.lt
  have HTS := Lib.hid (H6.out.tset n)
  go_upto_region 7 with (fail)
  have HN7 := Lib.hid (HN6.out.chg HTS.out.2 (fun e => by have e : nb = p := e; have h5 := HL16.out; have h6 := H6.out.l0.1; rw [e] at h5; omega))
  have HCH7 := Lib.hid (HCH6.out.lab HL6.out (fun b e => by have e : b = p := e; rw [e]; have := H6.out.l0.1; omega) HTS.out.2)
  have H7 := Lib.hid HTS.out.1
  clear x0 x1 x2 x3 x4 x5 x6 xl xf0 xf1 xf2 xf3 n0 n1' n2 n3 nl HTS
  generalize (((w6.setCell ⟨p, 0, none⟩ (.int .i64 (n 0))).setCell ⟨p, 1, none⟩ (.int .i64 (n 1))).setCell ⟨p, 2, none⟩ (.int .i64 (n 2))).setCell ⟨p, 3, none⟩ (.int .i64 (n 3)) = w7 at *
  obtain ⟨L, hmk, hlk⟩ := H7.out.q
  obtain ⟨o, hrun, hmi⟩ := hmk.range Tryz.underlying65
  obtain ⟨x0, x1, x2, x3, x4, x5, x6⟩ := H7.out.b.cells
  have xl := H7.out.b.lt
  have hb8 := ba (Below.refl w7.heap.size w7) o
  obtain ⟨lab8, hlb8⟩ : ∃ l : Nat → Int, l = fun b => if b < w7.heap.size then lab5 b else -5 := ⟨_, rfl⟩
  have hle8 : ∀ b, b < w7.heap.size → lab8 b = lab5 b := fun b hb => by rw [hlb8]; exact if_pos hb
  have hmem : ∀ q ∈ L, ∃ h, Q q.1 = some h ∧ q.2 = ptr h.sp := fun q hq => by
    have h1 := look_of_mem hmk.nodup (x := q.1) (v := q.2) hq
    rw [hlk] at h1
    obtain ⟨h, h2, h3⟩ := Option.map_eq_some_iff.1 h1
    exact ⟨h, h2, h3.symm⟩
  have hall : ∀ r h, Q r = some h → r ∈ L.map (·.1) := fun r h hq => by
    have h1 := hlk r
    rw [hq] at h1
    exact List.mem_map.2 ⟨_, look_mem h1, rfl⟩
  have HI := Lib.hid (show (TN W (w7.alloc o) p MR MF lab8 n t' Q fr ∧ MapI KI (w7.alloc o) MR w7.heap.size L L ∧ NB (w7.alloc o) nb n) ∧ ((∀ r h, Q r = some h → h.g = GO D r ∧ (h.T = n ∨ r ∈ L.map (·.1))) ∧ (∀ q ∈ L, ∃ h, Q q.1 = some h ∧ q.2 = ptr h.sp) ∧ ∀ r, (Q r).isSome = (GT D r).isSome) ∧ (lab8 w7.heap.size = -5 ∧ lab8 nb = -5 ∧ (∀ b, b < w.heap.size → lab8 b = lab b) ∧ Chg (fun b => -1 ≤ lab b) w (w7.alloc o)) from
    ⟨⟨(H7.out.relab hle8).below hb8, hmi, HN7.out.below hb8⟩, ⟨fun r h hq => ⟨(HTD.out.each r h hq).2, .inr (hall r h hq)⟩, hmem, HTD.out.dom⟩,
     by rw [hlb8]; exact if_neg (Nat.lt_irrefl _), (hle8 nb HN7.out.lt).trans HL16.out, fun b hb => (hle8 b (Nat.lt_of_lt_of_le hb HCH7.out.size)).trans (HL6.out b hb), HCH7.out.same (Chg.of_below _ hb8)⟩)
  have HWI := Lib.hid (show W.heap.size ≤ w7.heap.size from H7.out.bel.size)
  have HWT := Lib.hid (show w.heap.size ≤ w7.heap.size from HCH7.out.size)
  clear hmk hlk hmi hb8 hlb8 hle8 hmem hall
  go_wp2
  clear hrun x0 x1 x2 x3 x4 x5 x6 xl
  generalize w7.alloc o = w8 at *
  generalize w7.heap.size = it at *
  go_loopw [7] (fun _ wr => ∃ (lab' : Nat → Int) (Q' : Int → Option Hd) (todo : List (Int × Value)), Hid ((TN W wr p MR MF lab' n t' Q' fr ∧ MapI KI wr MR it L todo ∧ NB wr nb n) ∧ ((∀ r h, Q' r = some h → h.g = GO D r ∧ (h.T = n ∨ r ∈ todo.map (·.1))) ∧ (∀ q ∈ todo, ∃ h, Q' q.1 = some h ∧ q.2 = ptr h.sp) ∧ ∀ r, (Q' r).isSome = (GT D r).isSome) ∧ (lab' it = -5 ∧ lab' nb = -5 ∧ (∀ b, b < w.heap.size → lab' b = lab b) ∧ Chg (fun b => -1 ≤ lab b) w wr))) (fun _ wr => leftN wr MR it)
  case atStart => exact ⟨lab8, Q, L, HI⟩
  case round =>
    clear HI
    obtain ⟨lab', Q', todo, HQ⟩ := hrel
    obtain ⟨w9, rfl⟩ : ∃ w2, w2 = wr := ⟨_, rfl⟩
    obtain ⟨⟨htn, hmi, hnb⟩, ⟨hall, hmem, hdom⟩, hlit, hlnb, hlab, hch⟩ := HQ.out
    have hleft := hmi.left
    rcases hmi.next 0 with ⟨htd, hrn⟩ | ⟨pe, j, w10, hj, _, hrn, hre, hmi2, hch2⟩
    · subst htd
      have HE := Lib.hid (show RT W p MR MF lab (0, n, D) w (.returned (.int .i64 0)) w9 from
        ⟨rfl, lab', t', Q', fr, htn, ⟨HTD.out.ok, by rw [HT5.out, HE1.out], by rw [HG5.out, HE1.out]; exact HTG.out, hdom, fun r h hq => ⟨(hall r h hq).2.resolve_right (by simp), (hall r h hq).1⟩, HTD.out.fr⟩, hlab, hch⟩)
      clear HQ htn hmi hnb hall hmem hdom hlit hlnb hlab hch hleft
      go_wp2
      go_ret
      exact HE.out
    · obtain ⟨h, hq, hv⟩ := hmem pe (List.mem_of_getElem? hj)
      have htn2 := htn.off hch2 hmi.nonode (fun b e _ => by have e : b = it := e; rw [e, hlit]; decide) (fun b e => by have e : b = it := e; rw [e]; exact HWI.out)
      have hnb2 := hnb.chg hch2 (fun e => by
        have e : nb = it := e
        obtain ⟨es, c, s, c0, seen, _, _, _, _, a5, _⟩ := hmi
        unfold NB at hnb
        rw [e, a5] at hnb; cases hnb)
      obtain ⟨r, v⟩ := pe
      simp only at hq hv
      subst hv
      have hrn' : (Instr.next (.pointer (some ⟨it, 0, none⟩)) false 0).run Tryz.prog w9 = .ok (.tuple #[.bool true, .int .i64 r, ptr h.sp]) w10 := hrn
      have hre' : (Instr.entry (.pointer (some ⟨it, 0, none⟩))).run Tryz.prog w10 = .ok (.tuple #[.int .i64 r, ptr h.sp]) w10 := hre
      have hjl : j < todo.length := (List.getElem?_eq_some_iff.1 hj).1
      obtain ⟨s2, hs2⟩ : ∃ s : St, s = stT h.T h.g n := ⟨_, rfl⟩
      have e2 : s2 = (0, n, h.g) := by rw [hs2]; unfold stT; rw [if_pos HS.out]
      have hrt := rT (n := n) (htn2.each r h hq).1.sm (htn2.each r h hq).1.s9 (Nat.lt_of_le_of_lt ((htn2.each r h hq).1.s9.few ((hall r h hq).1 ▸ few_GO HTD.out.ok)) (Nat.lt_trans HLEN.out (show 900000 < 1000000 by decide)))
      rw [← hs2] at hrt
      have HRT := Lib.hid hrt; have HE2 := Lib.hid e2; have HTN2 := Lib.hid htn2; have HNB2 := Lib.hid hnb2; have HMI2 := Lib.hid hmi2
      have HALL := Lib.hid hall; have HMEM := Lib.hid hmem; have HDOM := Lib.hid hdom; have HLS := Lib.hid (And.intro hlit (And.intro hlnb hlab))
      have HCH2' := Lib.hid (hch.trans hch2 fun b e => .inr (by have e : b = it := e; rw [e]; exact HWT.out))
      have HJ := Lib.hid (And.intro hj hjl); have HLF := Lib.hid hleft; have HQH := Lib.hid hq
      obtain ⟨n0, n1', n2, n3⟩ := hnb2.cells
      have nl := hnb2.lt
      clear HQ htn hmi hnb hall hmem hdom hlit hlnb hlab hch hrn hre hmi2 hch2 htn2 hnb2 hs2 e2 hrt hj hjl hleft hq
      go_wp2_with fail
      clear hrn' hre' n0 n1' n2 n3 nl
      refine HRT.out.mono ?_
      rintro e w11 hr11
      obtain ⟨rfl, d', lab11, hT, hg, hTN, hlb, hchg, hsp⟩ := HTN2.out.role' HQH.out hr11
      have hr1 := (HTN2.out.each r h HQH.out).2
      have hmi11 := HMI2.out.chg hchg (fun e => by have e : lab' MR = r := e; have := HTN2.out.l0.2.1; omega) (fun e => by have e : lab' it = r := e; have := HLS.out.1; omega)
      have hnb11 := HNB2.out.chg hchg (fun e => by have e : lab' nb = r := e; have := HLS.out.2.1; omega)
      have HW := Lib.hid (show (TN W w11 p MR MF lab11 n t' (upd Q' r (some d')) fr ∧ MapI KI w11 MR it L (todo.eraseIdx j) ∧ NB w11 nb n) ∧ ((∀ q a, upd Q' r (some d') q = some a → a.g = GO D q ∧ (a.T = n ∨ q ∈ (todo.eraseIdx j).map (·.1))) ∧ (∀ q ∈ todo.eraseIdx j, ∃ a, upd Q' r (some d') q.1 = some a ∧ q.2 = ptr a.sp) ∧ ∀ q, (upd Q' r (some d') q).isSome = (GT D q).isSome) ∧ (lab11 it = -5 ∧ lab11 nb = -5 ∧ (∀ b, b < w.heap.size → lab11 b = lab b) ∧ Chg (fun b => -1 ≤ lab b) w w11) from by
        refine ⟨⟨hTN, hmi11, hnb11⟩, ⟨fun q a ha => ?_, fun q hq => ?_, fun q => ?_⟩, (hlb it HMI2.out.lt.2).trans HLS.out.1, (hlb nb HNB2.out.lt).trans HLS.out.2.1, fun b hb => (hlb b (by have := HCH2'.out.size; omega)).trans (HLS.out.2.2 b hb), HCH2'.out.lab HLS.out.2.2 (fun b e => by have e : lab' b = r := e; omega) hchg⟩
        · unfold upd at ha
          split at ha
          · rename_i e
            cases ha
            exact ⟨by rw [hg, HE2.out, e]; exact (HALL.out r h HQH.out).1, .inl (by rw [hT, HE2.out])⟩
          · rename_i e
            have := HALL.out q a ha
            refine ⟨this.1, this.2.imp id fun hm => ?_⟩
            obtain ⟨z, hz, rfl⟩ := List.mem_map.1 hm
            obtain ⟨m, hm⟩ := List.getElem?_of_mem hz
            refine List.mem_map_of_mem (List.mem_eraseIdx_iff_getElem?.2 ⟨m, fun e2 => ?_, hm⟩)
            subst e2
            have := HJ.out.1
            rw [hm] at this
            cases this
            exact e rfl
        · obtain ⟨a, h1, h2⟩ := HMEM.out q (List.mem_of_mem_eraseIdx hq)
          unfold upd
          by_cases e : q.1 = r
          · rw [if_pos e]
            rw [e, HQH.out] at h1
            cases h1
            exact ⟨d', rfl, by rw [h2, hsp]⟩
          · rw [if_neg e]; exact ⟨a, h1, h2⟩
        · unfold upd
          split
          · rename_i e
            have := HDOM.out r
            rw [HQH.out] at this
            rw [e, ← this]; rfl
          · exact HDOM.out q)
      have HL11 := Lib.hid hmi11.left
      clear hr11 hT hg hTN hlb hchg hsp hmi11 hnb11
      go_wp2
      go_roundw
      case rel => exact ⟨lab11, _, _, HW⟩
      case measure =>
        have h1 := HL11.out
        have h2 := HLF.out
        rw [List.length_eraseIdx, if_pos HJ.out.2] at h1
        have h3 := HJ.out.2
        show leftN _ MR it < leftN _ MR it
        omega
end
end
section
open Go.RowKit Go.Maps
attribute [local go_sem] ext_cell ext_frozen extC_cell extC_frozen Mix.calmUpon Mix.mUpon
/-- An act: its kind, framework, role, weight, sums. -/
structure A10 where
  k : Int
  i : Int
  r : Int
  x : Int
  n : Nat → Int
abbrev av10 (a : A10) : Value := .agg #[.int .i64 a.k, .int .i64 a.i, .int .i64 a.r, .int .i64 a.x, .int .i64 (a.n 0), .int .i64 (a.n 1), .int .i64 (a.n 2), .int .i64 (a.n 3)]
abbrev acells10 (a : A10) : Array Value := #[.int .i64 a.k, .int .i64 a.i, .int .i64 a.r, .int .i64 a.x, .int .i64 (a.n 0), .int .i64 (a.n 1), .int .i64 (a.n 2), .int .i64 (a.n 3)]
/-- The framework that an act puts in. -/
def newF (a : A10) : Fd := ⟨a.i, a.x, a.r, fun _ => 0, true⟩
/-- What an act does: its answer, the total, the frameworks behind it. -/
inductive Tst (T : Nat → Int) (D : List Fd) (a : A10) : Int × (Nat → Int) × List Fd → Prop
  | tot (k : a.k = 0) (h : Sm4 a.n) : Tst T D a (0, a.n, D)
  | totN (k : a.k = 0) (h : ¬ Sm4 a.n) : Tst T D a (41, T, D)
  | pArg (k : a.k = 1) (h : ¬ PArg a.r a.x) : Tst T D a (41, T, D)
  | pThere (k : a.k = 1) (h : PArg a.r a.x) {q : Int} (hf : FR D a.i = some q) : Tst T D a (42, T, D)
  | pWt (k : a.k = 1) (h : PArg a.r a.x) (hf : FR D a.i = none) {c : Cl} (hg : GT D a.r = some c) (hx : c.wt ≠ a.x) : Tst T D a (22, T, D)
  | pMore (k : a.k = 1) (h : PArg a.r a.x) (hf : FR D a.i = none) {c : Cl} (hg : GT D a.r = some c) (hx : c.wt = a.x) : Tst T D a (0, T, D ++ [newF a])
  | pNew (k : a.k = 1) (h : PArg a.r a.x) (hf : FR D a.i = none) (hg : GT D a.r = none) : Tst T D a (0, T, D ++ [newF a])
  | no (k0 : a.k ≠ 0) (k1 : a.k ≠ 1) (hf : FR D a.i = none) : Tst T D a (43, T, D)
  | drop (k : a.k = 2) {A B : List Fd} {x : Fd} (hd : D = A ++ x :: B) (hi : x.id = a.i) : Tst T D a (0, T, A ++ B)
  | wake (k : a.k = 3) {A B : List Fd} {x : Fd} (hd : D = A ++ x :: B) (hi : x.id = a.i) : Tst T D a (0, T, A ++ { x with aw := true } :: B)
  | sleep (k : a.k = 4) {A B : List Fd} {x : Fd} (hd : D = A ++ x :: B) (hi : x.id = a.i) : Tst T D a (0, T, A ++ { x with aw := false } :: B)
  | give (k : a.k = 5) {A B : List Fd} {x : Fd} (hd : D = A ++ x :: B) (hi : x.id = a.i) (hg : Gv (SU (inR D x.role)) a.n) : Tst T D a (0, T, A ++ { x with s := fun k => x.s k + a.n k } :: B)
  | giveN (k : a.k = 5) {A B : List Fd} {x : Fd} (hd : D = A ++ x :: B) (hi : x.id = a.i) (hg : ¬ Gv (SU (inR D x.role)) a.n) : Tst T D a (41, T, D)
  | take (k0 : a.k ≠ 0) (k1 : a.k ≠ 1) (k2 : a.k ≠ 2) (k3 : a.k ≠ 3) (k4 : a.k ≠ 4) (k5 : a.k ≠ 5) {A B : List Fd} {x : Fd} (hd : D = A ++ x :: B) (hi : x.id = a.i) (hh : HOk x.s a.n) : Tst T D a (0, T, A ++ { x with s := fun k => x.s k - a.n k } :: B)
  | takeN (k0 : a.k ≠ 0) (k1 : a.k ≠ 1) (k2 : a.k ≠ 2) (k3 : a.k ≠ 3) (k4 : a.k ≠ 4) (k5 : a.k ≠ 5) {A B : List Fd} {x : Fd} (hd : D = A ++ x :: B) (hi : x.id = a.i) (hh : ¬ HOk x.s a.n) : Tst T D a (30, T, D)
section
variable {W w : World} {p MR MF : Nat} {lab : Nat → Int} {T : Nat → Int} {t : Hd} {Q : Int → Option Hd} {fr : Int → Option Int} {D : List Fd} {a : A10} {s : Int × (Nat → Int) × List Fd}
theorem Tst.len (h : Tst T D a s) : s.2.2.length ≤ D.length + 1 := by
  cases h <;> simp_all <;> omega
/-- Something is done in any case. -/
theorem tst_any (hok : TOk D) (T : Nat → Int) (a : A10) : ∃ s, Tst T D a s := by
  by_cases k0 : a.k = 0
  · by_cases h : Sm4 a.n
    · exact ⟨_, .tot k0 h⟩
    · exact ⟨_, .totN k0 h⟩
  by_cases k1 : a.k = 1
  · by_cases h : PArg a.r a.x
    · cases hf : FR D a.i with
      | some q => exact ⟨_, .pThere k1 h hf⟩
      | none =>
        cases hg : GT D a.r with
        | none => exact ⟨_, .pNew k1 h hf hg⟩
        | some c =>
          by_cases hx : c.wt = a.x
          · exact ⟨_, .pMore k1 h hf hg hx⟩
          · exact ⟨_, .pWt k1 h hf hg hx⟩
    · exact ⟨_, .pArg k1 h⟩
  cases hf : FR D a.i with
  | none => exact ⟨_, .no k0 k1 hf⟩
  | some r =>
    obtain ⟨x, hx, -, hi⟩ := (FR_some hok).1 hf
    obtain ⟨A, B, hd⟩ := parted hx
    by_cases k2 : a.k = 2
    · exact ⟨_, .drop k2 hd hi⟩
    by_cases k3 : a.k = 3
    · exact ⟨_, .wake k3 hd hi⟩
    by_cases k4 : a.k = 4
    · exact ⟨_, .sleep k4 hd hi⟩
    by_cases k5 : a.k = 5
    · by_cases hg : Gv (SU (inR D x.role)) a.n
      · exact ⟨_, .give k5 hd hi hg⟩
      · exact ⟨_, .giveN k5 hd hi hg⟩
    by_cases hh : HOk x.s a.n
    · exact ⟨_, .take k0 k1 k2 k3 k4 k5 hd hi hh⟩
    · exact ⟨_, .takeN k0 k1 k2 k3 k4 k5 hd hi hh⟩
theorem act10_cells (w : World) (a : A10) : ∀ w', w' = w.alloc (.cells (acells10 a) 32) →
    w'.cell? ⟨w.heap.size, 0, none⟩ = some (.int .i64 a.k) ∧ w'.cell? ⟨w.heap.size, 1, none⟩ = some (.int .i64 a.i) ∧ w'.cell? ⟨w.heap.size, 2, none⟩ = some (.int .i64 a.r) ∧ w'.cell? ⟨w.heap.size, 3, none⟩ = some (.int .i64 a.x) ∧ w'.cell? ⟨w.heap.size, 4, none⟩ = some (.int .i64 (a.n 0)) ∧ w'.cell? ⟨w.heap.size, 5, none⟩ = some (.int .i64 (a.n 1)) ∧ w'.cell? ⟨w.heap.size, 6, none⟩ = some (.int .i64 (a.n 2)) ∧ w'.cell? ⟨w.heap.size, 7, none⟩ = some (.int .i64 (a.n 3)) ∧ w.heap.size < w'.heap.size := by
  intro w' hw
  have hn : w'.heap[w.heap.size]? = some (.cells (acells10 a) 32 (0, 0)) := by rw [hw]; exact heap_alloc_new w _
  refine ⟨?_, ?_, ?_, ?_, ?_, ?_, ?_, ?_, (Array.getElem?_eq_some_iff.1 hn).1⟩ <;> simp [World.cell?, hn]
theorem RT.off {w0 w1 w2 : World} {e : Ending} (hb : Below w0.heap.size w0 w1) (h : RT W p MR MF lab s w1 e w2) : RT W p MR MF lab s w0 e w2 := by
  obtain ⟨he, lab', t', Q', fr', h1, h2, h3, h4⟩ := h
  exact ⟨he, lab', t', Q', fr', h1, h2, fun b hbb => h3 b (Nat.lt_of_lt_of_le hbb hb.size), (Chg.of_below _ hb).same h4⟩
theorem calls_id {i j : Int} {P : Int → Prop} (e : i = j) (h : P i) : P j := e ▸ h
theorem not_key {a b : Int} (h : a ≠ b) : (a == b) = false := by simpa using h
theorem key_is {a b : Int} (h : a = b) : (a == b) = true := by simpa using h
theorem key_non {a b c : Int} (h : a = b) (hb : (b == c) = false) : (a == c) = false := by rw [h]; exact hb
set_option maxRecDepth 100000 in
set_option maxHeartbeats 2000000 in
theorem do10_0 (hk : a.k = 0) (hc : Calls Tryz.prog 28 #[ptr p, S4 a.n] (w.alloc (.cells (acells10 a) 32)) (RT W p MR MF lab s (w.alloc (.cells (acells10 a) 32)))) : Calls Tryz.prog 8 #[ptr p, av10 a] w (RT W p MR MF lab s w) := by
  have HB := Lib.hid (ba (Below.refl w.heap.size w) (.cells (acells10 a) 32))
  obtain ⟨c0, c1, c2, c3, c4, c5, c6, c7, cl⟩ := act10_cells w a _ rfl
  have HC := Lib.hid hc
  clear hc
  have k0 := key_is hk
  clear hk
  go_enter Tryz.func8, Tryz.ntmps8
  go_wp2_with fail
  refine HC.out.mono ?_
  rintro e w2 ⟨rfl, hr⟩
  have HR := Lib.hid hr
  clear hr c0 c1 c2 c3 c4 c5 c6 c7 cl
  go_wp2
  go_ret
  exact RT.off HB.out ⟨rfl, HR.out⟩
set_option maxRecDepth 100000 in
set_option maxHeartbeats 2000000 in
theorem do10_1 (hk : a.k = 1) (hc : Calls Tryz.prog 21 #[ptr p, .int .i64 a.i, .int .i64 a.r, .int .i64 a.x] (w.alloc (.cells (acells10 a) 32)) (RT W p MR MF lab s (w.alloc (.cells (acells10 a) 32)))) : Calls Tryz.prog 8 #[ptr p, av10 a] w (RT W p MR MF lab s w) := by
  have HB := Lib.hid (ba (Below.refl w.heap.size w) (.cells (acells10 a) 32))
  obtain ⟨c0, c1, c2, c3, c4, c5, c6, c7, cl⟩ := act10_cells w a _ rfl
  have HC := Lib.hid hc
  clear hc
  have k0 := key_non (c := 0) hk rfl
  have k1 := key_is hk
  clear hk
  go_enter Tryz.func8, Tryz.ntmps8
  go_wp2_with fail
  refine HC.out.mono ?_
  rintro e w2 ⟨rfl, hr⟩
  have HR := Lib.hid hr
  clear hr c0 c1 c2 c3 c4 c5 c6 c7 cl
  go_wp2
  go_ret
  exact RT.off HB.out ⟨rfl, HR.out⟩
set_option maxRecDepth 100000 in
set_option maxHeartbeats 2000000 in
theorem do10_2 (hk : a.k = 2) (hc : Calls Tryz.prog 29 #[ptr p, .int .i64 a.i] (w.alloc (.cells (acells10 a) 32)) (RT W p MR MF lab s (w.alloc (.cells (acells10 a) 32)))) : Calls Tryz.prog 8 #[ptr p, av10 a] w (RT W p MR MF lab s w) := by
  have HB := Lib.hid (ba (Below.refl w.heap.size w) (.cells (acells10 a) 32))
  obtain ⟨c0, c1, c2, c3, c4, c5, c6, c7, cl⟩ := act10_cells w a _ rfl
  have HC := Lib.hid hc
  clear hc
  have k0 := key_non (c := 0) hk rfl
  have k1 := key_non (c := 1) hk rfl
  have k2 := key_is hk
  clear hk
  go_enter Tryz.func8, Tryz.ntmps8
  go_wp2_with fail
  refine HC.out.mono ?_
  rintro e w2 ⟨rfl, hr⟩
  have HR := Lib.hid hr
  clear hr c0 c1 c2 c3 c4 c5 c6 c7 cl
  go_wp2
  go_ret
  exact RT.off HB.out ⟨rfl, HR.out⟩
set_option maxRecDepth 100000 in
set_option maxHeartbeats 2000000 in
theorem do10_3 (hk : a.k = 3) (hc : Calls Tryz.prog 30 #[ptr p, .int .i64 a.i, .bool true] (w.alloc (.cells (acells10 a) 32)) (RT W p MR MF lab s (w.alloc (.cells (acells10 a) 32)))) : Calls Tryz.prog 8 #[ptr p, av10 a] w (RT W p MR MF lab s w) := by
  have HB := Lib.hid (ba (Below.refl w.heap.size w) (.cells (acells10 a) 32))
  obtain ⟨c0, c1, c2, c3, c4, c5, c6, c7, cl⟩ := act10_cells w a _ rfl
  have HC := Lib.hid hc
  clear hc
  have k0 := key_non (c := 0) hk rfl
  have k1 := key_non (c := 1) hk rfl
  have k2 := key_non (c := 2) hk rfl
  have k3 := key_is hk
  clear hk
  go_enter Tryz.func8, Tryz.ntmps8
  go_wp2_with fail
  refine HC.out.mono ?_
  rintro e w2 ⟨rfl, hr⟩
  have HR := Lib.hid hr
  clear hr c0 c1 c2 c3 c4 c5 c6 c7 cl
  go_wp2
  go_ret
  exact RT.off HB.out ⟨rfl, HR.out⟩
set_option maxRecDepth 100000 in
set_option maxHeartbeats 2000000 in
theorem do10_4 (hk : a.k = 4) (hc : Calls Tryz.prog 30 #[ptr p, .int .i64 a.i, .bool false] (w.alloc (.cells (acells10 a) 32)) (RT W p MR MF lab s (w.alloc (.cells (acells10 a) 32)))) : Calls Tryz.prog 8 #[ptr p, av10 a] w (RT W p MR MF lab s w) := by
  have HB := Lib.hid (ba (Below.refl w.heap.size w) (.cells (acells10 a) 32))
  obtain ⟨c0, c1, c2, c3, c4, c5, c6, c7, cl⟩ := act10_cells w a _ rfl
  have HC := Lib.hid hc
  clear hc
  have k0 := key_non (c := 0) hk rfl
  have k1 := key_non (c := 1) hk rfl
  have k2 := key_non (c := 2) hk rfl
  have k3 := key_non (c := 3) hk rfl
  have k4 := key_is hk
  clear hk
  go_enter Tryz.func8, Tryz.ntmps8
  go_wp2_with fail
  refine HC.out.mono ?_
  rintro e w2 ⟨rfl, hr⟩
  have HR := Lib.hid hr
  clear hr c0 c1 c2 c3 c4 c5 c6 c7 cl
  go_wp2
  go_ret
  exact RT.off HB.out ⟨rfl, HR.out⟩
set_option maxRecDepth 100000 in
set_option maxHeartbeats 2000000 in
theorem do10_5 (hk : a.k = 5) (hc : Calls Tryz.prog 31 #[ptr p, .int .i64 a.i, S4 a.n] (w.alloc (.cells (acells10 a) 32)) (RT W p MR MF lab s (w.alloc (.cells (acells10 a) 32)))) : Calls Tryz.prog 8 #[ptr p, av10 a] w (RT W p MR MF lab s w) := by
  have HB := Lib.hid (ba (Below.refl w.heap.size w) (.cells (acells10 a) 32))
  obtain ⟨c0, c1, c2, c3, c4, c5, c6, c7, cl⟩ := act10_cells w a _ rfl
  have HC := Lib.hid hc
  clear hc
  have k0 := key_non (c := 0) hk rfl
  have k1 := key_non (c := 1) hk rfl
  have k2 := key_non (c := 2) hk rfl
  have k3 := key_non (c := 3) hk rfl
  have k4 := key_non (c := 4) hk rfl
  have k5 := key_is hk
  clear hk
  go_enter Tryz.func8, Tryz.ntmps8
  go_wp2_with fail
  refine HC.out.mono ?_
  rintro e w2 ⟨rfl, hr⟩
  have HR := Lib.hid hr
  clear hr c0 c1 c2 c3 c4 c5 c6 c7 cl
  go_wp2
  go_ret
  exact RT.off HB.out ⟨rfl, HR.out⟩
set_option maxRecDepth 100000 in
set_option maxHeartbeats 2000000 in
theorem do10_6 (n0 : a.k ≠ 0) (n1 : a.k ≠ 1) (n2 : a.k ≠ 2) (n3 : a.k ≠ 3) (n4 : a.k ≠ 4) (n5 : a.k ≠ 5) (hc : Calls Tryz.prog 32 #[ptr p, .int .i64 a.i, S4 a.n] (w.alloc (.cells (acells10 a) 32)) (RT W p MR MF lab s (w.alloc (.cells (acells10 a) 32)))) : Calls Tryz.prog 8 #[ptr p, av10 a] w (RT W p MR MF lab s w) := by
  have HB := Lib.hid (ba (Below.refl w.heap.size w) (.cells (acells10 a) 32))
  obtain ⟨c0, c1, c2, c3, c4, c5, c6, c7, cl⟩ := act10_cells w a _ rfl
  have HC := Lib.hid hc
  clear hc
  have k0 := not_key n0
  have k1 := not_key n1
  have k2 := not_key n2
  have k3 := not_key n3
  have k4 := not_key n4
  have k5 := not_key n5
  clear n0 n1 n2 n3 n4 n5
  go_enter Tryz.func8, Tryz.ntmps8
  go_wp2_with fail
  refine HC.out.mono ?_
  rintro e w2 ⟨rfl, hr⟩
  have HR := Lib.hid hr
  clear hr c0 c1 c2 c3 c4 c5 c6 c7 cl
  go_wp2
  go_ret
  exact RT.off HB.out ⟨rfl, HR.out⟩
theorem tdo (h : TN W w p MR MF lab T t Q fr) (hd : TD T D t Q fr) (hi : I64 a.i) (hl : D.length < 900000) (hs : Tst T D a s) : Calls Tryz.prog 8 #[ptr p, av10 a] w (RT W p MR MF lab s w) := by
  have hn := h.below (ba (Below.refl w.heap.size w) (.cells (acells10 a) 32))
  have hfr : ∀ i, fr i = FR D i := fun i => by rw [hd.fr]
  have htg : ∀ r, t.g r = GT D r := fun r => by rw [hd.tg]
  cases hs with
  | tot k hS => exact do10_0 k (titotal_ok hn hd hl hS)
  | totN k hS => exact do10_0 k (titotal_no hn hd hl hS)
  | pArg k hp => exact do10_1 k (tiput_arg hn hd hp)
  | pThere k hp hf => exact do10_1 k (tiput_there hn hd hi hp ((hfr _).trans hf))
  | pWt k hp hf hg hx => exact do10_1 k (tiput_weight hn hd hi hp ((hfr _).trans hf) ((htg _).trans hg) hx)
  | pMore k hp hf hg hx => exact do10_1 k (tiput_more hn hd hl hi hp ((hfr _).trans hf) ((htg _).trans hg) hx)
  | pNew k hp hf hg => exact do10_1 k (tiput_new hn hd hl hi hp ((hfr _).trans hf) ((htg _).trans hg))
  | no k0 k1 hf =>
    have hf' := (hfr _).trans hf
    by_cases k2 : a.k = 2
    · exact do10_2 k2 (tidrop_none hn hd hi hf')
    by_cases k3 : a.k = 3
    · exact do10_3 k3 (tiwake_no hn hd hi hf' true)
    by_cases k4 : a.k = 4
    · exact do10_4 k4 (tiwake_no hn hd hi hf' false)
    by_cases k5 : a.k = 5
    · exact do10_5 k5 (tigive_none hn hd hi hf')
    exact do10_6 k0 k1 k2 k3 k4 k5 (titake_none hn hd hi hf')
  | @drop k A B x hdd hx =>
    subst hdd
    exact do10_2 k (calls_id (P := fun i => Calls Tryz.prog 29 #[ptr p, .int .i64 i] _ (RT W p MR MF lab (0, T, A ++ B) _)) hx (tidrop_ok hn hd hl))
  | @wake k A B x hdd hx =>
    subst hdd
    exact do10_3 k (calls_id (P := fun i => Calls Tryz.prog 30 #[ptr p, .int .i64 i, .bool true] _ (RT W p MR MF lab (0, T, A ++ { x with aw := true } :: B) _)) hx (tiwake_ok hn hd hl true))
  | @sleep k A B x hdd hx =>
    subst hdd
    exact do10_4 k (calls_id (P := fun i => Calls Tryz.prog 30 #[ptr p, .int .i64 i, .bool false] _ (RT W p MR MF lab (0, T, A ++ { x with aw := false } :: B) _)) hx (tiwake_ok hn hd hl false))
  | @give k A B x hdd hx hg =>
    subst hdd
    exact do10_5 k (calls_id (P := fun i => Calls Tryz.prog 31 #[ptr p, .int .i64 i, S4 a.n] _ (RT W p MR MF lab (0, T, A ++ { x with s := fun k => x.s k + a.n k } :: B) _)) hx (tigive_ok hn hd hl hg))
  | @giveN k A B x hdd hx hg =>
    subst hdd
    exact do10_5 k (calls_id (P := fun i => Calls Tryz.prog 31 #[ptr p, .int .i64 i, S4 a.n] _ (RT W p MR MF lab (41, T, A ++ x :: B) _)) hx (tigive_no hn hd hl hg))
  | @take k0 k1 k2 k3 k4 k5 A B x hdd hx hh =>
    subst hdd
    exact do10_6 k0 k1 k2 k3 k4 k5 (calls_id (P := fun i => Calls Tryz.prog 32 #[ptr p, .int .i64 i, S4 a.n] _ (RT W p MR MF lab (0, T, A ++ { x with s := fun k => x.s k - a.n k } :: B) _)) hx (titake_ok hn hd hl hh))
  | @takeN k0 k1 k2 k3 k4 k5 A B x hdd hx hh =>
    subst hdd
    exact do10_6 k0 k1 k2 k3 k4 k5 (calls_id (P := fun i => Calls Tryz.prog 32 #[ptr p, .int .i64 i, S4 a.n] _ (RT W p MR MF lab (30, T, A ++ x :: B) _)) hx (titake_no hn hd hl hh))
end
end
section
open Go.RowKit Go.Maps
/-- The tiers in p stand as T and D; the blocks P are none of theirs. -/
structure PX (W w : World) (p : Nat) (T : Nat → Int) (D : List Fd) (P : Nat → Prop) : Prop where
  tn : ∃ MR MF lab t Q fr, TN W w p MR MF lab T t Q fr ∧ TD T D t Q fr ∧ ∀ b, P b → lab b ≤ -2
  lt : ∀ b, P b → b < w.heap.size
  st : Sm4 T
section
variable {W w w' : World} {p : Nat} {T T' : Nat → Int} {D D' : List Fd} {P P' : Nat → Prop} {a : A10} {s : Int × (Nat → Int) × List Fd}
theorem PX.bel (h : PX W w p T D P) : Below W.heap.size W w := by obtain ⟨MR, MF, lab, t, Q, fr, h1, _⟩ := h.tn; exact h1.bel
theorem PX.size (h : PX W w p T D P) : p < w.heap.size := by obtain ⟨MR, MF, lab, t, Q, fr, h1, _⟩ := h.tn; exact h1.lt.1
theorem PX.ok (h : PX W w p T D P) : TOk D := by obtain ⟨MR, MF, lab, t, Q, fr, _, h2, _⟩ := h.tn; exact h2.ok
theorem PX.less (h : PX W w p T D P) (hp : ∀ b, P' b → P b) : PX W w p T D P' := by
  obtain ⟨MR, MF, lab, t, Q, fr, h1, h2, h3⟩ := h.tn
  exact ⟨⟨MR, MF, lab, t, Q, fr, h1, h2, fun b hb => h3 b (hp b hb)⟩, fun b hb => h.lt b (hp b hb), h.st⟩
/-- Whatever is new is none of theirs. -/
theorem PX.on (h : PX W w p T D P) (hb : Below w.heap.size w w') (hp : ∀ b, P' b → P b ∨ w.heap.size ≤ b ∧ b < w'.heap.size) : PX W w' p T D P' := by
  obtain ⟨MR, MF, lab, t, Q, fr, h1, h2, h3⟩ := h.tn
  refine ⟨⟨MR, MF, fun b => if b < w.heap.size then lab b else -5, t, Q, fr, (h1.relab fun b hb => if_pos hb).below hb, h2, fun b hb => ?_⟩, fun b hb' => ?_, h.st⟩
  · show (if b < w.heap.size then lab b else -5) ≤ -2
    split
    · rename_i hlt
      rcases hp b hb with q | q
      · exact h3 b q
      · omega
    · omega
  · rcases hp b hb' with q | q
    · exact Nat.lt_of_lt_of_le (h.lt b q) hb.size
    · exact q.2
theorem PX.below (h : PX W w p T D P) (hb : Below w.heap.size w w') : PX W w' p T D P := h.on hb fun _ q => .inl q
/-- The blocks P are turned, where these hold no places. -/
theorem PX.off (h : PX W w p T D P) (hc : Chg P w w') (hn : NoNode P w) (hW : ∀ b, P b → W.heap.size ≤ b) : PX W w' p T D P := by
  obtain ⟨MR, MF, lab, t, Q, fr, h1, h2, h3⟩ := h.tn
  exact ⟨⟨MR, MF, lab, t, Q, fr, h1.off hc hn (fun b hb _ => h3 b hb) hW, h2, h3⟩, fun b hb => Nat.lt_of_lt_of_le (h.lt b hb) hc.size, h.st⟩
theorem PX.act (h : PX W w p T D P) {e : Ending} (hr : ∀ MR MF lab t Q fr, TN W w p MR MF lab T t Q fr → TD T D t Q fr → RT W p MR MF lab s w e w') (hs : Sm4 s.2.1) : e = .returned (.int .i64 s.1) ∧ PX W w' p s.2.1 s.2.2 P ∧ Chg (fun b => ¬ P b) w w' := by
  obtain ⟨MR, MF, lab, t, Q, fr, h1, h2, h3⟩ := h.tn
  obtain ⟨he, lab', t', Q', fr', g1, g2, g3, g4⟩ := hr MR MF lab t Q fr h1 h2
  refine ⟨he, ⟨⟨MR, MF, lab', t', Q', fr', g1, g2, fun b hb => ?_⟩, fun b hb => Nat.lt_of_lt_of_le (h.lt b hb) g4.size, hs⟩, g4.mono fun b hb hp => ?_⟩
  · rw [g3 b (h.lt b hb)]; exact h3 b hb
  · have := h3 b hp; omega
theorem Tst.sm (h : Tst T D a s) (ht : Sm4 T) : Sm4 s.2.1 := by
  cases h <;> assumption
/-- Any act of the law's. -/
theorem px_do (h : PX W w p T D P) (hi : I64 a.i) (hl : D.length < 900000) (hs : Tst T D a s) : Calls Tryz.prog 8 #[ptr p, av10 a] w fun e w' => e = .returned (.int .i64 s.1) ∧ PX W w' p s.2.1 s.2.2 P ∧ Chg (fun b => ¬ P b) w w' := by
  obtain ⟨MR, MF, lab, t, Q, fr, h1, h2, h3⟩ := h.tn
  refine (tdo h1 h2 hi hl hs).mono ?_
  rintro e w' ⟨he, lab', t', Q', fr', g1, g2, g3, g4⟩
  refine ⟨he, ⟨⟨MR, MF, lab', t', Q', fr', g1, g2, fun b hb => ?_⟩, fun b hb => Nat.lt_of_lt_of_le (h.lt b hb) g4.size, hs.sm h.st⟩, g4.mono fun b hb hp => ?_⟩
  · rw [g3 b (h.lt b hb)]; exact h3 b hb
  · have := h3 b hp; omega
end
end
end Go.Proofs.YtgfjmafdfbghnaaGreat

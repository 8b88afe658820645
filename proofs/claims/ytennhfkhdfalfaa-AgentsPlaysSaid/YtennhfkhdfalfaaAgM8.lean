/- The document's agents by a list: the walk of AgentsPlays. -/
import Derived.Test.YtennhfkhdfalfaaAgMb
namespace Go.Proofs.Ytennhfkhdfalfaa
open Go.RowKit Go.Maps
attribute [local go_sem] ext_cell ext_frozen extC_cell extC_frozen Mix.calmUpon Mix.mUpon
attribute [local go_sem] eq4
-- the document's Do called in the world wi; behind it the world wo, with the list v5, L5
-- the answered list stored into nb in the world wz, known by HMZ, HLZ; behind it the world w12
set_option maxRecDepth 100000 in
set_option maxHeartbeats 16000000 in
theorem plays22 (cap most : Int) (v : Value) (l : List Aa) (W : World) (hr : RS 4 aaenc W v l) (ha : ∀ x ∈ l, AaIn W x) :
    Calls Try.prog 3 #[.int .i64 cap, .int .i64 most, v] W fun e w' => e = .returned (.bool true) ∧ Below W.heap.size W w' := by
  have HF := Lib.hid (few22 v l W hr ha)
  by_cases hfew : l.length ≤ 80 ∧ (l.map aaW).sum ≤ 600
  · have hFT : decide (l.length ≤ 80 ∧ (l.map aaW).sum ≤ 600) = true := decide_eq_true hfew
    have HFT := Lib.hid hFT
    have HLE := Lib.hid (few_each hfew.2)
    have HR := Lib.hid hr; have HA0 := Lib.hid ha
    obtain ⟨a, n, c, rfl, hn, hc, hm, -⟩ := hr.at_
    have hn80 : n ≤ 80 := by rw [hn]; exact hfew.1
    have HN := Lib.hid hn
    clear hr hn ha hm hc hfew hFT
    by_cases k1 : cap < 1
    · have HNN := Lib.hid (show cap < 1 ∨ most < 1 ∨ 9007199254740992 < most from .inl k1)
      go_enter Try.func3, Try.ntmps3
      go_wp2_with fail
      refine HF.out.mono ?_
      rintro e w1 ⟨rfl, hb1⟩
      rw [HFT.out]
      have HB1 := Lib.hid hb1
      clear hb1
      go_wp2_with fail
      refine (anew_none w1 HNN.out).mono ?_
      rintro e w2 ⟨rfl, hw2⟩
      rw [hw2]
      clear hw2 w2
      go_wp2_with fail
      refine (works22 w1).mono ?_
      rintro e w3 ⟨rfl, hb3⟩
      have HB3 := Lib.hid (bt HB1.out hb3)
      clear hb3
      go_wp2
      go_ret
      exact ⟨rfl, HB3.out⟩
    by_cases k2 : most < 1
    · have HNN := Lib.hid (show cap < 1 ∨ most < 1 ∨ 9007199254740992 < most from .inr (.inl k2))
      go_enter Try.func3, Try.ntmps3
      go_wp2_with fail
      refine HF.out.mono ?_
      rintro e w1 ⟨rfl, hb1⟩
      rw [HFT.out]
      have HB1 := Lib.hid hb1
      clear hb1
      go_wp2_with fail
      refine (anew_none w1 HNN.out).mono ?_
      rintro e w2 ⟨rfl, hw2⟩
      rw [hw2]
      clear hw2 w2
      go_wp2_with fail
      refine (works22 w1).mono ?_
      rintro e w3 ⟨rfl, hb3⟩
      have HB3 := Lib.hid (bt HB1.out hb3)
      clear hb3
      go_wp2
      go_ret
      exact ⟨rfl, HB3.out⟩
    by_cases k3 : 9007199254740992 < most
    · have HNN := Lib.hid (show cap < 1 ∨ most < 1 ∨ 9007199254740992 < most from .inr (.inr k3))
      go_enter Try.func3, Try.ntmps3
      go_wp2_with fail
      refine HF.out.mono ?_
      rintro e w1 ⟨rfl, hb1⟩
      rw [HFT.out]
      have HB1 := Lib.hid hb1
      clear hb1
      go_wp2_with fail
      refine (anew_none w1 HNN.out).mono ?_
      rintro e w2 ⟨rfl, hw2⟩
      rw [hw2]
      clear hw2 w2
      go_wp2_with fail
      refine (works22 w1).mono ?_
      rintro e w3 ⟨rfl, hb3⟩
      have HB3 := Lib.hid (bt HB1.out hb3)
      clear hb3
      go_wp2
      go_ret
      exact ⟨rfl, HB3.out⟩
    have HCM := Lib.hid (show 1 ≤ cap ∧ 1 ≤ most ∧ most ≤ 9007199254740992 by omega)
    go_enter Try.func3, Try.ntmps3
    go_wp2_with fail
    refine HF.out.mono ?_
    rintro e w1 ⟨rfl, hb1⟩
    rw [HFT.out]
    have HB1 := Lib.hid hb1
    have HAT : Hid (∀ i x, l[i]? = some x → ∃ b off, a = some ⟨b, off, none⟩ ∧ b < w1.heap.size ∧ ∀ j u, (aaenc x)[j]? = some u → w1.cell? ⟨b, off + i * 4 + j, none⟩ = some u) := Lib.hid (by
      obtain ⟨a', n', c', he, _, _, _, h⟩ := (HR.out.below hb1).at_
      cases he; exact h)
    have HA := Lib.hid (show ∀ x ∈ l, AaIn w1 x from fun x hx => (HA0.out x hx).on hb1)
    clear hb1 HR HA0 HF
    go_wp2_with fail
    refine (pnew w1 HCM.out.1 HCM.out.2).mono ?_
    rintro e w2 ⟨rfl, h2, hb2⟩
    obtain ⟨tp, htp⟩ : ∃ tp, tp = w1.heap.size + 1 := ⟨_, rfl⟩
    obtain ⟨M, hM⟩ : ∃ M, M = w1.heap.size := ⟨_, rfl⟩
    have h2 : AP w1 w2 tp M cap most [] := by rw [htp, hM]; exact h2
    rw [← htp]
    have hb23 := ba (Below.refl w2.heap.size w2) (.cells #[.int .i64 cap, .int .i64 most, .slice none 0 0] 29)
    have HI := Lib.hid (show PW w1 (w2.alloc (.cells #[.int .i64 cap, .int .i64 most, .slice none 0 0] 29)) tp M w2.heap.size (cap, most) [] (.slice none 0 0) [] 0 from
      ⟨h2.below hb23, MB.made w2 (cap, most) (.slice none 0 0), ⟨RS.nil _ _ _, fun x hx => by cases hx⟩, rfl, Srt.In.nil, ⟨.inl rfl, fun x hx => by cases hx⟩, Nat.le_refl _, (by have := h2.lt; have : tp < w2.heap.size := this.1; omega), (by have := h2.lt; have : M < w2.heap.size := this.2; omega), hb2.size⟩)
    have HNT := Lib.hid (show w1.heap.size ≤ tp ∧ w1.heap.size ≤ M by omega)
    clear h2 hb2 htp hM hb23
    go_wp2
    clear k1 k2 k3
    generalize w2.alloc (.cells #[.int .i64 cap, .int .i64 most, .slice none 0 0] 29) = w3 at *
    obtain ⟨mb, hmb⟩ : ∃ b, b = w2.heap.size := ⟨_, rfl⟩
    rw [← hmb] at HI ⊢
    clear hmb
    go_loopw [9, 10, 11, 12, 13, 14, 15, 16, 17] (fun iv _ _ _ _ _ _ _ _ wr => ∃ (t : Nat) (S : List Pa) (vl : Value) (L : List Oa), t ≤ n ∧ iv = .int .i64 t ∧ Hid (PW w1 wr tp M mb (cap, most) S vl L t)) (fun iv _ _ _ _ _ _ _ _ _ => n - (intOf iv).toNat)
    case atStart => exact ⟨0, [], _, [], Nat.zero_le _, rfl, HI⟩
    case round =>
      clear HI
      obtain ⟨t, S, vl, L, ht, rfl, HQ⟩ := hrel
      obtain ⟨w4, rfl⟩ : ∃ w4, w4 = wr := ⟨_, rfl⟩
      obtain ⟨la, ln, lc, rfl, -, -, -, -⟩ := HQ.out.ol.rs.at_
      have HSL := Lib.hid (show S.length < 1000000 by have := HQ.out.len; omega)
      by_cases hlt : t < n
      · have hts : (t : Int) < (n : Int) := by omega
        obtain ⟨x, hx⟩ := at_lt (l := l) (i := t) (by rw [← HN.out]; exact hlt)
        obtain ⟨bs, off, rfl, hbs, hcell⟩ := HAT.out t x hx
        have hxi := HA.out x (mem_at hx)
        have hxl := HLE.out x (mem_at hx)
        have hbw := HQ.out.ap.bel
        have d0 := hcell 0 _ rfl
        have d1 := hcell 1 _ rfl
        have d2 := hcell 2 _ rfl
        have d3 := hcell 3 _ rfl
        simp only [Nat.add_zero] at d0
        have hbs4 : bs < w4.heap.size := Nat.lt_of_lt_of_le hbs hbw.size
        have hmd : ∀ w', Below w4.heap.size w4 w' → Calls Try.prog 14 #[.agg #[.int .i64 cap, .int .i64 most, .slice la ln lc], .agg #[.int .i64 x.kind, .int .i64 x.id, x.v, x.u]] w' (RetD w' (cap, most) (.slice la ln lc) L x.v x.vs x.u x.us (doP cap most S x) (doB cap most S x) (doE cap most S x)) := fun w' hb => by
          have := mdo (cap := (cap, most)) (HQ.out.ol.below hb) HQ.out.so (by rw [HQ.out.pl]; exact HQ.out.ap.ain) (by have := HQ.out.len; have h9 := congrArg List.length HQ.out.pl; rw [List.length_map] at h9; omega) x (hxi.vc.on (hbw.trans (hb.mono hbw.size))) (hxi.uc.on (hbw.trans (hb.mono hbw.size))) hxl
          rw [HQ.out.pl] at this
          exact this
        have hdo := fun w' (h : AP w1 w' tp M cap most S) => ado h x hxi hxl
        have hdl := do_len (cap := cap) (most := most) (S := S) x
        obtain ⟨S5, hS5⟩ : ∃ S5, S5 = doP cap most S x := ⟨_, rfl⟩
        obtain ⟨d5, hd5⟩ : ∃ d5, d5 = doB cap most S x := ⟨_, rfl⟩
        obtain ⟨e5, he5⟩ : ∃ e5, e5 = doE cap most S x := ⟨_, rfl⟩
        rw [← hS5] at hmd hdo hdl
        rw [← hd5, ← he5] at hmd hdo
        clear hS5 hd5 he5
        have HBSW := Lib.hid hbs
        have HXI := Lib.hid hxi.id
        have HXV := Lib.hid (And.intro hxi.vc hxi.uc)
        obtain ⟨xk, xi, xv, xs, xu, xt⟩ := x
        obtain ⟨va, vc, hvv, -, -⟩ := hxi.vc.form
        obtain ⟨ua, uc, huv, -, -⟩ := hxi.uc.form
        simp only at hvv huv d0 d1 d2 d3 hmd hdo
        subst hvv huv
        have HXV : Hid (Vc w1 (.slice va xs.length vc) xs ∧ Vc w1 (.slice ua xt.length uc) xt) := HXV
        have HXI : Hid (I64 xi) := HXI
        generalize xs.length = vn at *
        generalize xt.length = un at *
        have HMD := Lib.hid hmd; have HDO := Lib.hid hdo; have HDL := Lib.hid hdl
        have HC := Lib.hid (And.intro (And.intro d0 d1) (And.intro d2 d3))
        have c0 := (hbw.cell (p := ⟨bs, _, none⟩) hbs).trans d0
        have c1 := (hbw.cell (p := ⟨bs, _, none⟩) hbs).trans d1
        have c2 := (hbw.cell (p := ⟨bs, _, none⟩) hbs).trans d2
        have c3 := (hbw.cell (p := ⟨bs, _, none⟩) hbs).trans d3
        obtain ⟨y0, yM, y1⟩ := HQ.out.mq.cells
        simp only at y0 yM
        have yl := HQ.out.mq.lt
        clear hcell hx hxi hxl hbs hbw hmd hdo hdl d0 d1 d2 d3
        go_wp2
        refine Mix.regionC (fun _ => False) (by kernel_rfl) ?_
        intro w5 hb5
        refine Mix.take_exC _ _ 0 rfl (by kernel_rfl) (by kernel_rfl) (by kernel_rfl) (by kernel_rfl) (fun K hK => ?_)
        go_simp
        first | (refine hK _ ?_; clear hK K) | (apply Exists.intro; refine ⟨fun x => ?_, hK _ ?_⟩; (fail); clear hK K)
        refine Mix.take_exC _ _ 1 rfl (by kernel_rfl) (by kernel_rfl) (by kernel_rfl) (by kernel_rfl) (fun K hK => ?_)
        go_simp
        first | (refine hK _ ?_; clear hK K) | (apply Exists.intro; refine ⟨fun x => ?_, hK _ ?_⟩; (fail); clear hK K)
        refine Mix.take_exC _ _ 2 rfl (by kernel_rfl) (by kernel_rfl) (by kernel_rfl) (by kernel_rfl) (fun K hK => ?_)
        go_simp
        first | (refine hK _ ?_; clear hK K) | (apply Exists.intro; refine ⟨fun x => ?_, hK _ ?_⟩; (fail); clear hK K)
        refine Mix.take_exC _ _ 3 rfl (by kernel_rfl) (by kernel_rfl) (by kernel_rfl) (by kernel_rfl) (fun K hK => ?_)
        go_simp
        first | (refine hK _ ?_; clear hK K) | (apply Exists.intro; refine ⟨fun x => ?_, hK _ ?_⟩; (fail); clear hK K)
        refine Mix.take_exC _ _ 4 rfl (by kernel_rfl) (by kernel_rfl) (by kernel_rfl) (by kernel_rfl) (fun K hK => ?_)
        go_simp
        first | (refine hK _ ?_; clear hK K) | (apply Exists.intro; refine ⟨fun x => ?_, hK _ ?_⟩; (fail); clear hK K)
        refine Mix.all (rs := [5, 10]) (by kernel_rfl) (by simp) (.of_below _ hb5) ?_
        intro i6 hi6 w6 hb6 hC6
        have HB := Lib.hid (bt hb5 hb6)
        simp only [List.mem_cons, List.not_mem_nil, or_false] at hi6
        clear hb5 hb6 hC6 c0 c1 c2 c3 hbs4 y0 yM y1 yl
        rcases hi6 with rfl | rfl
        · skip
          have HB6 := HB
          refine Mix.op rfl (by kernel_rfl) ?_
          go_simp
          refine (HMD.out w6 HB.out).mono ?_
          rintro e w7 ⟨v5, L5, rfl, hol, hpl, hso, hod, hb7⟩
          refine ⟨_, rfl, ?_⟩
          obtain ⟨a5, n5, c5, rfl, hn5, -, -, -⟩ := hol.rs.at_
          have HOL := Lib.hid hol; have HPL := Lib.hid hpl; have HSO := Lib.hid hso; have HN5 := Lib.hid hn5
          have HOD := Lib.hid (show ∀ G : Nat → Prop, (∀ k, G k → w4.heap.size ≤ k ∧ k < w6.heap.size ∨ k = tp ∨ k = M ∨ k = mb) → OD G (.slice a5 n5 c5) L5 from fun G hG => by
            have key : ∀ {F : Nat → Prop}, (∀ k, F k → k = tp ∨ k = M ∨ k = mb) ∨ (∀ k, F k → w4.heap.size ≤ k ∧ k < w6.heap.size) → OD F (.slice a5 n5 c5) L5 := fun {F} hF => by
              have hlt := HQ.out.ap.lt; have hmk := HQ.out.mq.lt; have hs := HB.out.size
              have hne := HQ.out.ne
              have hn := HNT.out
              rcases hF with hF | hF
              · refine hod F (fun k hk => by rcases hF k hk with e | e | e <;> omega) (HQ.out.od.mono hF) (HXV.out.1.old fun k hk => by rcases hF k hk with e | e | e <;> omega) (HXV.out.2.old fun k hk => by rcases hF k hk with e | e | e <;> omega)
              · have hw1 := HQ.out.ap.bel.size
                exact hod F (fun k hk => (hF k hk).2) (HQ.out.ol.old fun k hk => (hF k hk).1) (HXV.out.1.old fun k hk => by have := (hF k hk).1; omega) (HXV.out.2.old fun k hk => by have := (hF k hk).1; omega)
            have h1 := key (F := fun k => k = tp ∨ k = M ∨ k = mb) (.inl fun k h => h)
            have h2 := key (F := fun k => w4.heap.size ≤ k ∧ k < w6.heap.size) (.inr fun k h => h)
            refine ⟨?_, fun y hy => ⟨?_, ?_⟩⟩
            · rcases h1.own with e | h1
              · exact .inl e
              · rcases h2.own with e | h2
                · exact .inl e
                · exact .inr fun k hk hg => by
                    rcases hG k hg with e | e
                    · exact h2 k hk e
                    · exact h1 k hk e
            · rcases (h1.vec y hy).1 with e | a1
              · exact .inl e
              · rcases (h2.vec y hy).1 with e | a2
                · exact .inl e
                · exact .inr fun k hk hg => by
                    rcases hG k hg with e | e
                    · exact a2 k hk e
                    · exact a1 k hk e
            · rcases (h1.vec y hy).2 with e | a1
              · exact .inl e
              · rcases (h2.vec y hy).2 with e | a2
                · exact .inl e
                · exact .inr fun k hk hg => by
                    rcases hG k hg with e | e
                    · exact a2 k hk e
                    · exact a1 k hk e)
          have HBD := Lib.hid hb7
          have HB := Lib.hid (bt HB.out hb7)
          clear hol hpl hso hod hb7 hn5
          refine Mix.take_exC _ _ 6 rfl (by kernel_rfl) (by kernel_rfl) (by kernel_rfl) (by kernel_rfl) (fun K hK => ?_)
          go_simp
          first | (refine hK _ ?_; clear hK K) | (apply Exists.intro; refine ⟨fun x => ?_, hK _ ?_⟩; (fail); clear hK K)
          refine Mix.take_exC _ _ 7 rfl (by kernel_rfl) (by kernel_rfl) (by kernel_rfl) (by kernel_rfl) (fun K hK => ?_)
          go_simp
          first | (refine hK _ ?_; clear hK K) | (apply Exists.intro; refine ⟨fun x => ?_, hK _ ?_⟩; (fail); clear hK K)
          refine Mix.take_exC _ _ 8 rfl (by kernel_rfl) (by kernel_rfl) (by kernel_rfl) (by kernel_rfl) (fun K hK => ?_)
          go_simp
          first | (refine hK _ ?_; clear hK K) | (apply Exists.intro; refine ⟨fun x => ?_, hK _ ?_⟩; (fail); clear hK K)
          refine Mix.take_exC _ _ 9 rfl (by kernel_rfl) (by kernel_rfl) (by kernel_rfl) (by kernel_rfl) (fun K hK => ?_)
          go_simp
          first | (refine hK _ ?_; clear hK K) | (apply Exists.intro; refine ⟨fun x => ?_, hK _ ?_⟩; (fail); clear hK K)
          refine Mix.all (rs := [10]) (by kernel_rfl) (by simp) (.of_below _ HB.out) ?_
          intro i8 hi8 w8 hb8 hC8
          simp only [List.mem_cons, List.not_mem_nil, or_false] at hi8
          subst hi8
          have HB := Lib.hid (bt HB.out hb8)
          have HH := Lib.hid (show w7.heap.size ≤ w8.heap.size from hb8.size)
          have HL8 := Lib.hid (HOL.out.below hb8)
          clear hC8 hb8
          have hb89 := ba (Below.refl w8.heap.size w8) (.cells #[.int .i64 0, .int .i64 0, .slice none 0 0] 29)
          have HM9 := Lib.hid (MB.made w8 (0, 0) (.slice none 0 0))
          refine Mix.op rfl (by kernel_rfl) ?_
          go_simp
          have HB := Lib.hid (bt HB.out hb89)
          have HL9 := Lib.hid (HL8.out.below hb89)
          generalize w8.alloc (.cells #[.int .i64 0, .int .i64 0, .slice none 0 0] 29) = w9 at *
          obtain ⟨nb, hnb⟩ : ∃ b, b = w8.heap.size := ⟨_, rfl⟩
          rw [← hnb] at HM9 ⊢
          have HNB := Lib.hid (show OD (fun k => k = nb) (.slice a5 n5 c5) L5 from HOL.out.old fun k e => by have e : k = nb := e; have := HH.out; omega)
          have HNB2 := Lib.hid (show w4.heap.size ≤ nb from by have := HH.out; have := HBD.out.size; have := HB6.out.size; omega)
          clear hb89 hnb HL8
          refine Mix.all (rs := [11]) (by kernel_rfl) (by simp) (.of_below _ HB.out) ?_
          intro i10 hi10 w10 hb10 hC10
          simp only [List.mem_cons, List.not_mem_nil, or_false] at hi10
          subst hi10
          have HB := Lib.hid (bt HB.out hb10)
          have HMZ := Lib.hid (HM9.out.below hb10)
          have HLZ := Lib.hid (HL9.out.below hb10)
          clear hb10 hC10 HM9 HL9
          have hs := HMZ.out
          obtain ⟨s0, sM, s1⟩ := hs.cells
          have s2 := hs.fz 0; have s3 := hs.fz 1; have s4 := hs.fz 2
          have sq := hs.lt
          have HCx := Lib.hid (mb_chg w10 nb (.int .i64 cap) (.int .i64 most) (.slice a5 n5 c5))
          have HBx := Lib.hid (HB.out.trans (HCx.out.below HB.out.size fun k e => by have e : k = nb := e; have := HNB2.out; omega))
          have HMx := Lib.hid (hs.set2 (cap, most) (.slice a5 n5 c5))
          have HLx := Lib.hid (HLZ.out.keep HCx.out HNB.out)
          clear hs
          refine Mix.op rfl (by kernel_rfl) ?_
          go_simp
          clear s0 sM s1 s2 s3 s4 sq
          refine Mix.take_exC _ _ 12 rfl (by kernel_rfl) (by kernel_rfl) (by kernel_rfl) (by kernel_rfl) (fun K hK => ?_)
          go_simp
          first | (refine hK _ ?_; clear hK K) | (apply Exists.intro; refine ⟨fun x => ?_, hK _ ?_⟩; (fail); clear hK K)
          refine Mix.take_exC _ _ 13 rfl (by kernel_rfl) (by kernel_rfl) (by kernel_rfl) (by kernel_rfl) (fun K hK => ?_)
          go_simp
          first | (refine hK _ ?_; clear hK K) | (apply Exists.intro; refine ⟨fun x => ?_, hK _ ?_⟩; (fail); clear hK K)
          refine Mix.done (by kernel_rfl) (.of_below _ HBx.out) ?_
          intro w12 hb12
          have HMB := Lib.hid (HMx.out.below hb12)
          have HLB := Lib.hid (HLx.out.below hb12)
          have HB12 := Lib.hid (bt HBx.out hb12)
          have HODF := Lib.hid (HOD.out (fun k => k = tp ∨ k = M ∨ k = mb) fun k h => .inr h)
          clear HCx HMx HLx HBx hb12 HOD HNB HBD
          -- behind region 10, at w12
          have HT12 := Lib.hid (HQ.out.ap.below HB12.out)
          have hbw := HT12.out.bel
          have c0 := (hbw.cell (p := ⟨bs, _, none⟩) HBSW.out).trans HC.out.1.1
          have c1 := (hbw.cell (p := ⟨bs, _, none⟩) HBSW.out).trans HC.out.1.2
          have c2 := (hbw.cell (p := ⟨bs, _, none⟩) HBSW.out).trans HC.out.2.1
          have c3 := (hbw.cell (p := ⟨bs, _, none⟩) HBSW.out).trans HC.out.2.2
          have hbs4 : bs < w12.heap.size := Nat.lt_of_lt_of_le HBSW.out hbw.size
          clear hbw
          go_wp2_with fail
          refine (HDO.out _ HT12.out).mono ?_
          rintro e w13 ⟨rfl, h13, hc13⟩
          have HT13 := Lib.hid h13
          have HM13 := Lib.hid (HMB.out.chg hc13 (fun e => by have := HQ.out.ap.lt; have := HNB2.out; rcases e with e | e <;> omega))
          have HK13 := Lib.hid ((HQ.out.mq.below HB12.out).chg hc13 (fun e => by have := HQ.out.ne; rcases e with e | e <;> omega))
          have HL13 := Lib.hid (HLB.out.keep hc13 (HODF.out.mono fun k e => by rcases e with e | e; exact .inl e; exact .inr (.inl e)))
          clear h13 hc13 c0 c1 c2 c3 hbs4 HT12 HMB HLB
          obtain ⟨z0, zM, z1⟩ := HM13.out.cells
          have z2 := HM13.out.lt
          obtain ⟨s0, sM, s1⟩ := HK13.out.cells
          have s2 := HK13.out.fz 0; have s3 := HK13.out.fz 1; have s4 := HK13.out.fz 2
          have sq := HK13.out.lt
          simp only at z0 zM s0 sM
          go_upto_region 15 with (fail)
          clear z0 zM z1 z2 s0 sM s1 s2 s3 s4 sq
          have HCy := Lib.hid (mb_chg w13 mb (.int .i64 cap) (.int .i64 most) (.slice a5 n5 c5))
          have HT14 := Lib.hid (HT13.out.apart HK13.out HCy.out HQ.out.ne.2.2 HQ.out.ne.1 HQ.out.ne.2.1)
          have HK14 := Lib.hid (HK13.out.set2 (cap, most) (.slice a5 n5 c5))
          have HL14 := Lib.hid (HL13.out.keep HCy.out (HODF.out.mono fun k e => .inr (.inr e)))
          clear HCy HM13 HK13 HL13 HT13
          generalize ((w13.setCell ⟨mb, 0, none⟩ (.int .i64 cap)).setCell ⟨mb, 1, none⟩ (.int .i64 most)).setCell ⟨mb, 2, none⟩ (.slice a5 n5 c5) = w14 at *
          have hbw := HT14.out.bel
          have c1 := (hbw.cell (p := ⟨bs, _, none⟩) HBSW.out).trans HC.out.1.2
          have hbs4 : bs < w14.heap.size := Nat.lt_of_lt_of_le HBSW.out hbw.size
          have HRND := Lib.hid (show ∀ w', Below w14.heap.size w14 w' → PW w1 w' tp M mb (cap, most) S5 (.slice a5 n5 c5) L5 (t + 1) from fun w' hb => ⟨HT14.out.below hb, HK14.out.below hb, HL14.out.below hb, HPL.out, HSO.out, HODF.out, by have := HDL.out; have := HQ.out.len; omega, HQ.out.ne⟩)
          clear hbw
          cases hf : fndO L5 xi with
          | none =>
            have hfa : fndA S5 xi = none := by rw [← HPL.out, plo_fnd, hf]; rfl
            have hpl : Srt.pl Oa.id L5 xi = -1 := Srt.pl_none (Srt.fnd_none.1 hf)
            go_wp2_with fail
            refine (pget_none HT14.out HXI.out hfa).mono ?_
            rintro e w15 ⟨rfl, hb15⟩
            clear hfa hf
            have hb16 := ba (Below.refl w15.heap.size w15) (.cells #[.int .i64 (0), .slice none 0 0, .slice none 0 0] 38)
            have HG16 := Lib.hid (QB.made w15 (0) (.slice none 0 0) (.slice none 0 0))
            have HB16 := Lib.hid (bt hb15 hb16)
            have HBA := Lib.hid hb16
            clear hb15 hb16
            go_upto_region 16 with (fail)
            clear c1 hbs4
            generalize w15.alloc (.cells #[.int .i64 (0), .slice none 0 0, .slice none 0 0] 38) = w16 at *
            obtain ⟨q, hq⟩ : ∃ q, q = w15.heap.size := ⟨_, rfl⟩
            rw [← hq] at HG16 ⊢
            clear hq
            have hmt := fun z : Ext w16 => quiet_ext z (mat (cap := (cap, most)) ((HL14.out.rs.below HB16.out).below (ext_below _ z)) xi)
            simp only [hpl] at hmt
            have HMT := Lib.hid hmt
            have hbw := (HT14.out.below HB16.out).bel
            have c1 := (hbw.cell (p := ⟨bs, _, none⟩) HBSW.out).trans HC.out.1.2
            have hbs4 : bs < w16.heap.size := Nat.lt_of_lt_of_le HBSW.out hbw.size
            obtain ⟨y0, yM, y1⟩ := (HK14.out.below HB16.out).cells
            simp only at y0 yM
            have yl := (HK14.out.below HB16.out).lt
            clear hmt hbw hpl
            refine wp_region_pure (by kernel_rfl) (by kernel_rfl) ?_
            repeat (first | go_big_quiet_step ((go_at_call 17; with_reducible exact HMT.out _)) | (quiet_step ((go_at_call 17; with_reducible exact HMT.out _))))
            refine wpQuiet_nil ?_
            rintro w17 ⟨x17, hx17⟩
            have hb17 := ext_below _ x17
            rw [← hx17] at hb17
            have HB17 := Lib.hid (bt HB16.out hb17)
            have HG17 := Lib.hid (HG16.out.below hb17)
            have HBA := Lib.hid (bt HBA.out hb17)
            clear hx17 x17 hb17 c1 hbs4 y0 yM y1 yl HG16
            obtain ⟨z0, z1, z2⟩ := HG17.out.cells
            have z3 := HG17.out.lt
            go_wp2_with fail
            refine wp_region_pure (by kernel_rfl) (by kernel_rfl) ?_
            repeat (first | go_big_quiet_step ((fail)) | (quiet_step ((fail))))
            refine wpQuiet_nil ?_
            rintro w18 ⟨x18, hx18⟩
            have hb18 := ext_below _ x18
            rw [← hx18] at hb18
            clear hx18 x18
            have hs18 : w17.heap.size + 0 ≤ w18.heap.size := (by have h := hb18.size; first | omega | (simp at h; omega))
            obtain ⟨hc18, hf18, hl18⟩ := bcell hb18
            clear hl18
            have HB18 := Lib.hid (bt HB17.out hb18)
            clear z0 z1 z2 z3
            go_wp2
            go_roundw
            case rel => exact ⟨t + 1, S5, _, L5, by omega, by go_num, Lib.hid (HRND.out _ HB18.out)⟩
            case measure => simp [intOf]; omega
          | some x5 =>
            have hfa : fndA S5 xi = some (x5.id, x5.tps, x5.fps) := by rw [← HPL.out, plo_fnd, hf]; rfl
            obtain ⟨ki, hki, hLk⟩ := Srt.pl_at hf
            have hpl : Srt.pl Oa.id L5 xi = (ki : Int) := hki
            have HXE := Lib.hid (show x5.id = xi from (Srt.fnd_mem hf).2)
            have HXM := Lib.hid (show x5.pl ∈ S5 from by rw [← HPL.out]; exact List.mem_map.2 ⟨x5, (Srt.fnd_mem hf).1, rfl⟩)
            have hkn : ki < 1000001 := by
              have h1 := (List.getElem?_eq_some_iff.1 hLk).1
              have h2 := congrArg List.length HPL.out
              rw [List.length_map] at h2
              have := HDL.out; have := HSL.out; omega
            have HLK := Lib.hid hLk
            clear hf hki hLk
            go_wp2_with fail
            refine (pget_some HT14.out HXI.out hfa).mono ?_
            rintro e w15 ⟨gu, gv, rfl, hu, hv, hb15⟩
            obtain ⟨ga, gc, rfl, -, -⟩ := hu.form
            obtain ⟨ha, hcc, rfl, -, -⟩ := hv.form
            have HU := Lib.hid (show Vc w15 (.slice ga x5.tps.length gc) x5.tps from hu)
            have HV := Lib.hid (show Vc w15 (.slice ha x5.fps.length hcc) x5.fps from hv)
            clear hfa hu hv
            simp only
            have hb16 := ba (Below.refl w15.heap.size w15) (.cells #[.int .i64 (xi), .slice ga x5.tps.length gc, .slice ha x5.fps.length hcc] 38)
            have HG16 := Lib.hid (QB.made w15 (xi) (.slice ga x5.tps.length gc) (.slice ha x5.fps.length hcc))
            have HB16 := Lib.hid (bt hb15 hb16)
            have HBA := Lib.hid hb16
            clear hb15 hb16
            go_upto_region 16 with (fail)
            clear c1 hbs4
            generalize w15.alloc (.cells #[.int .i64 (xi), .slice ga x5.tps.length gc, .slice ha x5.fps.length hcc] 38) = w16 at *
            obtain ⟨q, hq⟩ : ∃ q, q = w15.heap.size := ⟨_, rfl⟩
            rw [← hq] at HG16 ⊢
            clear hq
            have hmt := fun z : Ext w16 => quiet_ext z (mat (cap := (cap, most)) ((HL14.out.rs.below HB16.out).below (ext_below _ z)) xi)
            simp only [hpl] at hmt
            have HMT := Lib.hid hmt
            have hbw := (HT14.out.below HB16.out).bel
            have c1 := (hbw.cell (p := ⟨bs, _, none⟩) HBSW.out).trans HC.out.1.2
            have hbs4 : bs < w16.heap.size := Nat.lt_of_lt_of_le HBSW.out hbw.size
            obtain ⟨y0, yM, y1⟩ := (HK14.out.below HB16.out).cells
            simp only at y0 yM
            have yl := (HK14.out.below HB16.out).lt
            clear hmt hbw hpl
            refine wp_region_pure (by kernel_rfl) (by kernel_rfl) ?_
            repeat (first | go_big_quiet_step ((go_at_call 17; with_reducible exact HMT.out _)) | (quiet_step ((go_at_call 17; with_reducible exact HMT.out _))))
            refine wpQuiet_nil ?_
            rintro w17 ⟨x17, hx17⟩
            have hb17 := ext_below _ x17
            rw [← hx17] at hb17
            have HB17 := Lib.hid (bt HB16.out hb17)
            have HG17 := Lib.hid (HG16.out.below hb17)
            have HBA := Lib.hid (bt HBA.out hb17)
            clear hx17 x17 hb17 c1 hbs4 y0 yM y1 yl HG16
            have HU17 := Lib.hid (HU.out.on HBA.out)
            have HV17 := Lib.hid (HV.out.on HBA.out)
            obtain ⟨v1, hr1, ht1⟩ := (HL14.out.below HB17.out).one HLK.out (q := (ki : Int) + 1) (by simp)
            have HT1 := Lib.hid ht1
            have hk9 : IntKind.i64.wrap ((ki : Int) + 1) = (ki : Int) + 1 := IntWalk.i64_in _ (by omega)
            have hk0 : decide (0 ≤ (ki : Int)) = true := decide_eq_true (by omega)
            obtain ⟨z0, z1, z2⟩ := HG17.out.cells
            have z3 := HG17.out.lt
            obtain ⟨y0, yM, y1⟩ := (HK14.out.below HB17.out).cells
            simp only at y0 yM
            have yl := (HK14.out.below HB17.out).lt
            clear ht1 HU HV
            go_wp2_with fail
            refine Mix.regionC (fun _ => False) (by kernel_rfl) ?_
            intro w30 hb30
            refine Mix.take_exC _ _ 0 rfl (by kernel_rfl) (by kernel_rfl) (by kernel_rfl) (by kernel_rfl) (fun K hK => ?_)
            go_simp
            first | (refine hK _ ?_; clear hK K) | (apply Exists.intro; refine ⟨fun x => ?_, hK _ ?_⟩; (fail); clear hK K)
            refine Mix.take_exC _ _ 1 rfl (by kernel_rfl) (by kernel_rfl) (by kernel_rfl) (by kernel_rfl) (fun K hK => ?_)
            go_simp
            first | (refine hK _ ?_; clear hK K) | (apply Exists.intro; refine ⟨fun x => ?_, hK _ ?_⟩; (fail); clear hK K)
            refine Mix.take_exC _ _ 2 rfl (by kernel_rfl) (by kernel_rfl) (by kernel_rfl) (by kernel_rfl) (fun K hK => ?_)
            go_simp
            first | (refine hK _ ?_; clear hK K) | (apply Exists.intro; refine ⟨fun x => ?_, hK _ ?_⟩; (fail); clear hK K)
            refine Mix.take_exC _ _ 3 rfl (by kernel_rfl) (by kernel_rfl) (by kernel_rfl) (by kernel_rfl) (fun K hK => ?_)
            go_simp
            first | (refine hK _ ?_; clear hK K) | (apply Exists.intro; refine ⟨fun x => ?_, hK _ ?_⟩; (fail); clear hK K)
            refine Mix.take_exC _ _ 4 rfl (by kernel_rfl) (by kernel_rfl) (by kernel_rfl) (by kernel_rfl) (fun K hK => ?_)
            go_simp
            first | (refine hK _ ?_; clear hK K) | (apply Exists.intro; refine ⟨fun x => ?_, hK _ ?_⟩; (fail); clear hK K)
            refine Mix.take_exC _ _ 5 rfl (by kernel_rfl) (by kernel_rfl) (by kernel_rfl) (by kernel_rfl) (fun K hK => ?_)
            go_simp
            first | (refine hK _ ?_; clear hK K) | (apply Exists.intro; refine ⟨fun x => ?_, hK _ ?_⟩; (fail); clear hK K)
            refine Mix.take_exC _ _ 6 rfl (by kernel_rfl) (by kernel_rfl) (by kernel_rfl) (by kernel_rfl) (fun K hK => ?_)
            go_simp
            first | (refine hK _ ?_; clear hK K) | (apply Exists.intro; refine ⟨fun x => ?_, hK _ ?_⟩; (fail); clear hK K)
            refine Mix.take_exC _ _ 7 rfl (by kernel_rfl) (by kernel_rfl) (by kernel_rfl) (by kernel_rfl) (fun K hK => ?_)
            go_simp
            first | (refine hK _ ?_; clear hK K) | (apply Exists.intro; refine ⟨fun x => ?_, hK _ ?_⟩; (fail); clear hK K)
            refine Mix.take_exC _ _ 9 rfl (by kernel_rfl) (by kernel_rfl) (by kernel_rfl) (by kernel_rfl) (fun K hK => ?_)
            go_simp
            first | (refine hK _ ?_; clear hK K) | (apply Exists.intro; refine ⟨fun x => ?_, hK _ ?_⟩; (fail); clear hK K)
            refine Mix.take_exC _ _ 10 rfl (by kernel_rfl) (by kernel_rfl) (by kernel_rfl) (by kernel_rfl) (fun K hK => ?_)
            go_simp
            first | (refine hK _ ?_; clear hK K) | (apply Exists.intro; refine ⟨fun x => ?_, hK _ ?_⟩; (fail); clear hK K)
            refine Mix.take_exC _ _ 11 rfl (by kernel_rfl) (by kernel_rfl) (by kernel_rfl) (by kernel_rfl) (fun K hK => ?_)
            go_simp
            first | (refine hK _ ?_; clear hK K) | (apply Exists.intro; refine ⟨fun x => ?_, hK _ ?_⟩; (fail); clear hK K)
            refine Mix.take_exC _ _ 12 rfl (by kernel_rfl) (by kernel_rfl) (by kernel_rfl) (by kernel_rfl) (fun K hK => ?_)
            go_simp
            first | (refine hK _ ?_; clear hK K) | (apply Exists.intro; refine ⟨fun x => ?_, hK _ ?_⟩; (fail); clear hK K)
            refine Mix.take_exC _ _ 13 rfl (by kernel_rfl) (by kernel_rfl) (by kernel_rfl) (by kernel_rfl) (fun K hK => ?_)
            go_simp
            first | (refine hK _ ?_; clear hK K) | (apply Exists.intro; refine ⟨fun x => ?_, hK _ ?_⟩; (fail); clear hK K)
            refine Mix.take_exC _ _ 14 rfl (by kernel_rfl) (by kernel_rfl) (by kernel_rfl) (by kernel_rfl) (fun K hK => ?_)
            go_simp
            first | (refine hK _ ?_; clear hK K) | (apply Exists.intro; refine ⟨fun x => ?_, hK _ ?_⟩; (fail); clear hK K)
            refine Mix.all (rs := [8]) (by kernel_rfl) (by simp) (.of_below _ hb30) ?_
            intro i31 hi31 w31 hb31 hC31
            simp only [List.mem_cons, List.not_mem_nil, or_false] at hi31
            subst hi31
            have HB31 := Lib.hid (bt hb30 hb31)
            clear hC31 hb30 hb31
            refine Mix.op rfl (by kernel_rfl) ?_
            go_simp
            have hb32 := ba HB31.out (.cells #[.int .i64 xi, .slice ga x5.tps.length gc, .slice ha x5.fps.length hcc] 38)
            have HK32 := Lib.hid (QB.made w31 xi (.slice ga x5.tps.length gc) (.slice ha x5.fps.length hcc))
            have HB32 := Lib.hid hb32
            clear hb32
            generalize w31.alloc (.cells #[.int .i64 xi, .slice ga x5.tps.length gc, .slice ha x5.fps.length hcc] 38) = w32 at *
            generalize w31.heap.size = q32 at *
            refine Mix.all (rs := [15]) (by kernel_rfl) (by simp) (.of_below _ HB32.out) ?_
            intro i33 hi33 w33 hb33 hC33
            simp only [List.mem_cons, List.not_mem_nil, or_false] at hi33
            subst hi33
            have HB33 := Lib.hid (bt HB32.out hb33)
            have HSM := Lib.hid (sameQ_yes (.slice (some ⟨q32, 0, none⟩) 1 1) v1 [⟨xi, .slice ga x5.tps.length gc, x5.tps, .slice ha x5.fps.length hcc, x5.fps⟩] ([x5].map Oa.q) (fun y hy => by
              rw [List.mem_singleton.1 hy]
              have h2 := HT14.out.ain.ok _ HXM.out
              exact ⟨Nat.lt_of_le_of_lt (vr_len h2.vt) (by decide), Nat.lt_of_le_of_lt (vr_len h2.vf) (by decide)⟩) (by
              show [(xi, x5.tps, x5.fps)] = [(x5.id, x5.tps, x5.fps)]
              rw [HXE.out]) w33 (AL.made (HK32.out.below hb33) (HU17.out.on HB33.out) (HV17.out.on HB33.out)) (HT1.out.below HB33.out).al.1)
            clear hC33 hb33
            refine Mix.op rfl (by kernel_rfl) ?_
            go_simp
            refine HSM.out.mono ?_
            rintro e w34 ⟨rfl, hb34⟩
            refine ⟨_, rfl, ?_⟩
            have HB34 := Lib.hid (bt HB33.out hb34)
            clear hb34
            refine Mix.take_exC _ _ 16 rfl (by kernel_rfl) (by kernel_rfl) (by kernel_rfl) (by kernel_rfl) (fun K hK => ?_)
            go_simp
            first | (refine hK _ ?_; clear hK K) | (apply Exists.intro; refine ⟨fun x => ?_, hK _ ?_⟩; (fail); clear hK K)
            refine Mix.take_exC _ _ 17 rfl (by kernel_rfl) (by kernel_rfl) (by kernel_rfl) (by kernel_rfl) (fun K hK => ?_)
            go_simp
            first | (refine hK _ ?_; clear hK K) | (apply Exists.intro; refine ⟨fun x => ?_, hK _ ?_⟩; (fail); clear hK K)
            refine Mix.take_exC _ _ 18 rfl (by kernel_rfl) (by kernel_rfl) (by kernel_rfl) (by kernel_rfl) (fun K hK => ?_)
            go_simp
            first | (refine hK _ ?_; clear hK K) | (apply Exists.intro; refine ⟨fun x => ?_, hK _ ?_⟩; (fail); clear hK K)
            refine Mix.take_exC _ _ 19 rfl (by kernel_rfl) (by kernel_rfl) (by kernel_rfl) (by kernel_rfl) (fun K hK => ?_)
            go_simp
            first | (refine hK _ ?_; clear hK K) | (apply Exists.intro; refine ⟨fun x => ?_, hK _ ?_⟩; (fail); clear hK K)
            refine Mix.take_exC _ _ 20 rfl (by kernel_rfl) (by kernel_rfl) (by kernel_rfl) (by kernel_rfl) (fun K hK => ?_)
            go_simp
            first | (refine hK _ ?_; clear hK K) | (apply Exists.intro; refine ⟨fun x => ?_, hK _ ?_⟩; (fail); clear hK K)
            refine Mix.take_exC _ _ 21 rfl (by kernel_rfl) (by kernel_rfl) (by kernel_rfl) (by kernel_rfl) (fun K hK => ?_)
            go_simp
            first | (refine hK _ ?_; clear hK K) | (apply Exists.intro; refine ⟨fun x => ?_, hK _ ?_⟩; (fail); clear hK K)
            refine Mix.take_exC _ _ 22 rfl (by kernel_rfl) (by kernel_rfl) (by kernel_rfl) (by kernel_rfl) (fun K hK => ?_)
            go_simp
            first | (refine hK _ ?_; clear hK K) | (apply Exists.intro; refine ⟨fun x => ?_, hK _ ?_⟩; (fail); clear hK K)
            refine Mix.skip_C _ _ 23 rfl (by kernel_rfl) (by kernel_rfl) (by kernel_rfl) (by kernel_rfl) ?_
            go_simp
            refine Mix.skip_C _ _ 24 rfl (by kernel_rfl) (by kernel_rfl) (by kernel_rfl) (by kernel_rfl) ?_
            go_simp
            refine Mix.skip_C _ _ 25 rfl (by kernel_rfl) (by kernel_rfl) (by kernel_rfl) (by kernel_rfl) ?_
            go_simp
            refine Mix.take_exC _ _ 26 rfl (by kernel_rfl) (by kernel_rfl) (by kernel_rfl) (by kernel_rfl) (fun K hK => ?_)
            go_simp
            first | (refine hK _ ?_; clear hK K) | (apply Exists.intro; refine ⟨fun x => ?_, hK _ ?_⟩; (fail); clear hK K)
            refine Mix.take_exC _ _ 27 rfl (by kernel_rfl) (by kernel_rfl) (by kernel_rfl) (by kernel_rfl) (fun K hK => ?_)
            go_simp
            first | (refine hK _ ?_; clear hK K) | (apply Exists.intro; refine ⟨fun x => ?_, hK _ ?_⟩; (fail); clear hK K)
            refine Mix.done (by kernel_rfl) (.of_below _ HB34.out) ?_
            intro w18 hb35
            have HB18 := Lib.hid (bt HB17.out (bt HB34.out hb35))
            clear hb35 z0 z1 z2 z3 y0 yM y1 yl hr1 hk9 hk0 hkn
            go_wp2
            go_roundw
            case rel => exact ⟨t + 1, S5, _, L5, by omega, by go_num, Lib.hid (HRND.out _ HB18.out)⟩
            case measure => simp [intOf]; omega
        · have HGE := Lib.hid (show w4.heap.size ≤ w6.heap.size from HB.out.size)
          have hb67 := ba (Below.refl w6.heap.size w6) (.cells #[.int .i64 0, .int .i64 0, .slice none 0 0] 29)
          have HM7 := Lib.hid (MB.made w6 (0, 0) (.slice none 0 0))
          refine Mix.op rfl (by kernel_rfl) ?_
          go_simp
          have HB := Lib.hid (bt HB.out hb67)
          generalize w6.alloc (.cells #[.int .i64 0, .int .i64 0, .slice none 0 0] 29) = w7 at *
          obtain ⟨nb, hnb⟩ : ∃ b, b = w6.heap.size := ⟨_, rfl⟩
          rw [← hnb] at HM7 HGE ⊢
          have HNB2 := Lib.hid (show w4.heap.size ≤ nb from HGE.out)
          clear hb67 hnb
          refine Mix.all (rs := [5]) (by kernel_rfl) (by simp) (.of_below _ HB.out) ?_
          intro i8 hi8 w8 hb8 hC8
          simp only [List.mem_cons, List.not_mem_nil, or_false] at hi8
          subst hi8
          have HB := Lib.hid (bt HB.out hb8)
          have HM8 := Lib.hid (HM7.out.below hb8)
          clear hC8 hb8
          refine Mix.op rfl (by kernel_rfl) ?_
          go_simp
          refine (HMD.out w8 HB.out).mono ?_
          rintro e w9 ⟨v5, L5, rfl, hol, hpl, hso, hod, hb7⟩
          refine ⟨_, rfl, ?_⟩
          obtain ⟨a5, n5, c5, rfl, hn5, -, -, -⟩ := hol.rs.at_
          have HOL := Lib.hid hol; have HPL := Lib.hid hpl; have HSO := Lib.hid hso; have HN5 := Lib.hid hn5
          have HOD := Lib.hid (show ∀ G : Nat → Prop, (∀ k, G k → w4.heap.size ≤ k ∧ k < w8.heap.size ∨ k = tp ∨ k = M ∨ k = mb) → OD G (.slice a5 n5 c5) L5 from fun G hG => by
            have key : ∀ {F : Nat → Prop}, (∀ k, F k → k = tp ∨ k = M ∨ k = mb) ∨ (∀ k, F k → w4.heap.size ≤ k ∧ k < w8.heap.size) → OD F (.slice a5 n5 c5) L5 := fun {F} hF => by
              have hlt := HQ.out.ap.lt; have hmk := HQ.out.mq.lt; have hs := HB.out.size
              have hne := HQ.out.ne
              have hn := HNT.out
              rcases hF with hF | hF
              · refine hod F (fun k hk => by rcases hF k hk with e | e | e <;> omega) (HQ.out.od.mono hF) (HXV.out.1.old fun k hk => by rcases hF k hk with e | e | e <;> omega) (HXV.out.2.old fun k hk => by rcases hF k hk with e | e | e <;> omega)
              · have hw1 := HQ.out.ap.bel.size
                exact hod F (fun k hk => (hF k hk).2) (HQ.out.ol.old fun k hk => (hF k hk).1) (HXV.out.1.old fun k hk => by have := (hF k hk).1; omega) (HXV.out.2.old fun k hk => by have := (hF k hk).1; omega)
            have h1 := key (F := fun k => k = tp ∨ k = M ∨ k = mb) (.inl fun k h => h)
            have h2 := key (F := fun k => w4.heap.size ≤ k ∧ k < w8.heap.size) (.inr fun k h => h)
            refine ⟨?_, fun y hy => ⟨?_, ?_⟩⟩
            · rcases h1.own with e | h1
              · exact .inl e
              · rcases h2.own with e | h2
                · exact .inl e
                · exact .inr fun k hk hg => by
                    rcases hG k hg with e | e
                    · exact h2 k hk e
                    · exact h1 k hk e
            · rcases (h1.vec y hy).1 with e | a1
              · exact .inl e
              · rcases (h2.vec y hy).1 with e | a2
                · exact .inl e
                · exact .inr fun k hk hg => by
                    rcases hG k hg with e | e
                    · exact a2 k hk e
                    · exact a1 k hk e
            · rcases (h1.vec y hy).2 with e | a1
              · exact .inl e
              · rcases (h2.vec y hy).2 with e | a2
                · exact .inl e
                · exact .inr fun k hk hg => by
                    rcases hG k hg with e | e
                    · exact a2 k hk e
                    · exact a1 k hk e)
          have HBD := Lib.hid hb7
          have HB := Lib.hid (bt HB.out hb7)
          clear hol hpl hso hod hb7 hn5
          have HNB := Lib.hid (HOD.out (fun k => k = nb) fun k e => .inl (by have e : k = nb := e; have := HNB2.out; have := HM8.out.lt; omega))
          have HM9 := Lib.hid (HM8.out.below HBD.out)
          refine Mix.take_exC _ _ 6 rfl (by kernel_rfl) (by kernel_rfl) (by kernel_rfl) (by kernel_rfl) (fun K hK => ?_)
          go_simp
          first | (refine hK _ ?_; clear hK K) | (apply Exists.intro; refine ⟨fun x => ?_, hK _ ?_⟩; (fail); clear hK K)
          refine Mix.take_exC _ _ 7 rfl (by kernel_rfl) (by kernel_rfl) (by kernel_rfl) (by kernel_rfl) (fun K hK => ?_)
          go_simp
          first | (refine hK _ ?_; clear hK K) | (apply Exists.intro; refine ⟨fun x => ?_, hK _ ?_⟩; (fail); clear hK K)
          refine Mix.take_exC _ _ 8 rfl (by kernel_rfl) (by kernel_rfl) (by kernel_rfl) (by kernel_rfl) (fun K hK => ?_)
          go_simp
          first | (refine hK _ ?_; clear hK K) | (apply Exists.intro; refine ⟨fun x => ?_, hK _ ?_⟩; (fail); clear hK K)
          refine Mix.take_exC _ _ 9 rfl (by kernel_rfl) (by kernel_rfl) (by kernel_rfl) (by kernel_rfl) (fun K hK => ?_)
          go_simp
          first | (refine hK _ ?_; clear hK K) | (apply Exists.intro; refine ⟨fun x => ?_, hK _ ?_⟩; (fail); clear hK K)
          refine Mix.all (rs := [11]) (by kernel_rfl) (by simp) (.of_below _ HB.out) ?_
          intro i10 hi10 w10 hb10 hC10
          simp only [List.mem_cons, List.not_mem_nil, or_false] at hi10
          subst hi10
          have HB := Lib.hid (bt HB.out hb10)
          have HMZ := Lib.hid (HM9.out.below hb10)
          have HLZ := Lib.hid (HOL.out.below hb10)
          clear hb10 hC10 HM9 HM8 HM7
          have hs := HMZ.out
          obtain ⟨s0, sM, s1⟩ := hs.cells
          have s2 := hs.fz 0; have s3 := hs.fz 1; have s4 := hs.fz 2
          have sq := hs.lt
          have HCx := Lib.hid (mb_chg w10 nb (.int .i64 cap) (.int .i64 most) (.slice a5 n5 c5))
          have HBx := Lib.hid (HB.out.trans (HCx.out.below HB.out.size fun k e => by have e : k = nb := e; have := HNB2.out; omega))
          have HMx := Lib.hid (hs.set2 (cap, most) (.slice a5 n5 c5))
          have HLx := Lib.hid (HLZ.out.keep HCx.out HNB.out)
          clear hs
          refine Mix.op rfl (by kernel_rfl) ?_
          go_simp
          clear s0 sM s1 s2 s3 s4 sq
          refine Mix.take_exC _ _ 12 rfl (by kernel_rfl) (by kernel_rfl) (by kernel_rfl) (by kernel_rfl) (fun K hK => ?_)
          go_simp
          first | (refine hK _ ?_; clear hK K) | (apply Exists.intro; refine ⟨fun x => ?_, hK _ ?_⟩; (fail); clear hK K)
          refine Mix.take_exC _ _ 13 rfl (by kernel_rfl) (by kernel_rfl) (by kernel_rfl) (by kernel_rfl) (fun K hK => ?_)
          go_simp
          first | (refine hK _ ?_; clear hK K) | (apply Exists.intro; refine ⟨fun x => ?_, hK _ ?_⟩; (fail); clear hK K)
          refine Mix.done (by kernel_rfl) (.of_below _ HBx.out) ?_
          intro w12 hb12
          have HMB := Lib.hid (HMx.out.below hb12)
          have HLB := Lib.hid (HLx.out.below hb12)
          have HB12 := Lib.hid (bt HBx.out hb12)
          have HODF := Lib.hid (HOD.out (fun k => k = tp ∨ k = M ∨ k = mb) fun k h => .inr h)
          clear HCx HMx HLx HBx hb12 HOD HNB HBD
          -- behind region 10, at w12
          have HT12 := Lib.hid (HQ.out.ap.below HB12.out)
          have hbw := HT12.out.bel
          have c0 := (hbw.cell (p := ⟨bs, _, none⟩) HBSW.out).trans HC.out.1.1
          have c1 := (hbw.cell (p := ⟨bs, _, none⟩) HBSW.out).trans HC.out.1.2
          have c2 := (hbw.cell (p := ⟨bs, _, none⟩) HBSW.out).trans HC.out.2.1
          have c3 := (hbw.cell (p := ⟨bs, _, none⟩) HBSW.out).trans HC.out.2.2
          have hbs4 : bs < w12.heap.size := Nat.lt_of_lt_of_le HBSW.out hbw.size
          clear hbw
          go_wp2_with fail
          refine (HDO.out _ HT12.out).mono ?_
          rintro e w13 ⟨rfl, h13, hc13⟩
          have HT13 := Lib.hid h13
          have HM13 := Lib.hid (HMB.out.chg hc13 (fun e => by have := HQ.out.ap.lt; have := HNB2.out; rcases e with e | e <;> omega))
          have HK13 := Lib.hid ((HQ.out.mq.below HB12.out).chg hc13 (fun e => by have := HQ.out.ne; rcases e with e | e <;> omega))
          have HL13 := Lib.hid (HLB.out.keep hc13 (HODF.out.mono fun k e => by rcases e with e | e; exact .inl e; exact .inr (.inl e)))
          clear h13 hc13 c0 c1 c2 c3 hbs4 HT12 HMB HLB
          obtain ⟨z0, zM, z1⟩ := HM13.out.cells
          have z2 := HM13.out.lt
          obtain ⟨s0, sM, s1⟩ := HK13.out.cells
          have s2 := HK13.out.fz 0; have s3 := HK13.out.fz 1; have s4 := HK13.out.fz 2
          have sq := HK13.out.lt
          simp only at z0 zM s0 sM
          go_upto_region 15 with (fail)
          clear z0 zM z1 z2 s0 sM s1 s2 s3 s4 sq
          have HCy := Lib.hid (mb_chg w13 mb (.int .i64 cap) (.int .i64 most) (.slice a5 n5 c5))
          have HT14 := Lib.hid (HT13.out.apart HK13.out HCy.out HQ.out.ne.2.2 HQ.out.ne.1 HQ.out.ne.2.1)
          have HK14 := Lib.hid (HK13.out.set2 (cap, most) (.slice a5 n5 c5))
          have HL14 := Lib.hid (HL13.out.keep HCy.out (HODF.out.mono fun k e => .inr (.inr e)))
          clear HCy HM13 HK13 HL13 HT13
          generalize ((w13.setCell ⟨mb, 0, none⟩ (.int .i64 cap)).setCell ⟨mb, 1, none⟩ (.int .i64 most)).setCell ⟨mb, 2, none⟩ (.slice a5 n5 c5) = w14 at *
          have hbw := HT14.out.bel
          have c1 := (hbw.cell (p := ⟨bs, _, none⟩) HBSW.out).trans HC.out.1.2
          have hbs4 : bs < w14.heap.size := Nat.lt_of_lt_of_le HBSW.out hbw.size
          have HRND := Lib.hid (show ∀ w', Below w14.heap.size w14 w' → PW w1 w' tp M mb (cap, most) S5 (.slice a5 n5 c5) L5 (t + 1) from fun w' hb => ⟨HT14.out.below hb, HK14.out.below hb, HL14.out.below hb, HPL.out, HSO.out, HODF.out, by have := HDL.out; have := HQ.out.len; omega, HQ.out.ne⟩)
          clear hbw
          cases hf : fndO L5 xi with
          | none =>
            have hfa : fndA S5 xi = none := by rw [← HPL.out, plo_fnd, hf]; rfl
            have hpl : Srt.pl Oa.id L5 xi = -1 := Srt.pl_none (Srt.fnd_none.1 hf)
            go_wp2_with fail
            refine (pget_none HT14.out HXI.out hfa).mono ?_
            rintro e w15 ⟨rfl, hb15⟩
            clear hfa hf
            have hb16 := ba (Below.refl w15.heap.size w15) (.cells #[.int .i64 (0), .slice none 0 0, .slice none 0 0] 38)
            have HG16 := Lib.hid (QB.made w15 (0) (.slice none 0 0) (.slice none 0 0))
            have HB16 := Lib.hid (bt hb15 hb16)
            have HBA := Lib.hid hb16
            clear hb15 hb16
            go_upto_region 16 with (fail)
            clear c1 hbs4
            generalize w15.alloc (.cells #[.int .i64 (0), .slice none 0 0, .slice none 0 0] 38) = w16 at *
            obtain ⟨q, hq⟩ : ∃ q, q = w15.heap.size := ⟨_, rfl⟩
            rw [← hq] at HG16 ⊢
            clear hq
            have hmt := fun z : Ext w16 => quiet_ext z (mat (cap := (cap, most)) ((HL14.out.rs.below HB16.out).below (ext_below _ z)) xi)
            simp only [hpl] at hmt
            have HMT := Lib.hid hmt
            have hbw := (HT14.out.below HB16.out).bel
            have c1 := (hbw.cell (p := ⟨bs, _, none⟩) HBSW.out).trans HC.out.1.2
            have hbs4 : bs < w16.heap.size := Nat.lt_of_lt_of_le HBSW.out hbw.size
            obtain ⟨y0, yM, y1⟩ := (HK14.out.below HB16.out).cells
            simp only at y0 yM
            have yl := (HK14.out.below HB16.out).lt
            clear hmt hbw hpl
            refine wp_region_pure (by kernel_rfl) (by kernel_rfl) ?_
            repeat (first | go_big_quiet_step ((go_at_call 17; with_reducible exact HMT.out _)) | (quiet_step ((go_at_call 17; with_reducible exact HMT.out _))))
            refine wpQuiet_nil ?_
            rintro w17 ⟨x17, hx17⟩
            have hb17 := ext_below _ x17
            rw [← hx17] at hb17
            have HB17 := Lib.hid (bt HB16.out hb17)
            have HG17 := Lib.hid (HG16.out.below hb17)
            have HBA := Lib.hid (bt HBA.out hb17)
            clear hx17 x17 hb17 c1 hbs4 y0 yM y1 yl HG16
            obtain ⟨z0, z1, z2⟩ := HG17.out.cells
            have z3 := HG17.out.lt
            go_wp2_with fail
            refine wp_region_pure (by kernel_rfl) (by kernel_rfl) ?_
            repeat (first | go_big_quiet_step ((fail)) | (quiet_step ((fail))))
            refine wpQuiet_nil ?_
            rintro w18 ⟨x18, hx18⟩
            have hb18 := ext_below _ x18
            rw [← hx18] at hb18
            clear hx18 x18
            have hs18 : w17.heap.size + 0 ≤ w18.heap.size := (by have h := hb18.size; first | omega | (simp at h; omega))
            obtain ⟨hc18, hf18, hl18⟩ := bcell hb18
            clear hl18
            have HB18 := Lib.hid (bt HB17.out hb18)
            clear z0 z1 z2 z3
            go_wp2
            go_roundw
            case rel => exact ⟨t + 1, S5, _, L5, by omega, by go_num, Lib.hid (HRND.out _ HB18.out)⟩
            case measure => simp [intOf]; omega
          | some x5 =>
            have hfa : fndA S5 xi = some (x5.id, x5.tps, x5.fps) := by rw [← HPL.out, plo_fnd, hf]; rfl
            obtain ⟨ki, hki, hLk⟩ := Srt.pl_at hf
            have hpl : Srt.pl Oa.id L5 xi = (ki : Int) := hki
            have HXE := Lib.hid (show x5.id = xi from (Srt.fnd_mem hf).2)
            have HXM := Lib.hid (show x5.pl ∈ S5 from by rw [← HPL.out]; exact List.mem_map.2 ⟨x5, (Srt.fnd_mem hf).1, rfl⟩)
            have hkn : ki < 1000001 := by
              have h1 := (List.getElem?_eq_some_iff.1 hLk).1
              have h2 := congrArg List.length HPL.out
              rw [List.length_map] at h2
              have := HDL.out; have := HSL.out; omega
            have HLK := Lib.hid hLk
            clear hf hki hLk
            go_wp2_with fail
            refine (pget_some HT14.out HXI.out hfa).mono ?_
            rintro e w15 ⟨gu, gv, rfl, hu, hv, hb15⟩
            obtain ⟨ga, gc, rfl, -, -⟩ := hu.form
            obtain ⟨ha, hcc, rfl, -, -⟩ := hv.form
            have HU := Lib.hid (show Vc w15 (.slice ga x5.tps.length gc) x5.tps from hu)
            have HV := Lib.hid (show Vc w15 (.slice ha x5.fps.length hcc) x5.fps from hv)
            clear hfa hu hv
            simp only
            have hb16 := ba (Below.refl w15.heap.size w15) (.cells #[.int .i64 (xi), .slice ga x5.tps.length gc, .slice ha x5.fps.length hcc] 38)
            have HG16 := Lib.hid (QB.made w15 (xi) (.slice ga x5.tps.length gc) (.slice ha x5.fps.length hcc))
            have HB16 := Lib.hid (bt hb15 hb16)
            have HBA := Lib.hid hb16
            clear hb15 hb16
            go_upto_region 16 with (fail)
            clear c1 hbs4
            generalize w15.alloc (.cells #[.int .i64 (xi), .slice ga x5.tps.length gc, .slice ha x5.fps.length hcc] 38) = w16 at *
            obtain ⟨q, hq⟩ : ∃ q, q = w15.heap.size := ⟨_, rfl⟩
            rw [← hq] at HG16 ⊢
            clear hq
            have hmt := fun z : Ext w16 => quiet_ext z (mat (cap := (cap, most)) ((HL14.out.rs.below HB16.out).below (ext_below _ z)) xi)
            simp only [hpl] at hmt
            have HMT := Lib.hid hmt
            have hbw := (HT14.out.below HB16.out).bel
            have c1 := (hbw.cell (p := ⟨bs, _, none⟩) HBSW.out).trans HC.out.1.2
            have hbs4 : bs < w16.heap.size := Nat.lt_of_lt_of_le HBSW.out hbw.size
            obtain ⟨y0, yM, y1⟩ := (HK14.out.below HB16.out).cells
            simp only at y0 yM
            have yl := (HK14.out.below HB16.out).lt
            clear hmt hbw hpl
            refine wp_region_pure (by kernel_rfl) (by kernel_rfl) ?_
            repeat (first | go_big_quiet_step ((go_at_call 17; with_reducible exact HMT.out _)) | (quiet_step ((go_at_call 17; with_reducible exact HMT.out _))))
            refine wpQuiet_nil ?_
            rintro w17 ⟨x17, hx17⟩
            have hb17 := ext_below _ x17
            rw [← hx17] at hb17
            have HB17 := Lib.hid (bt HB16.out hb17)
            have HG17 := Lib.hid (HG16.out.below hb17)
            have HBA := Lib.hid (bt HBA.out hb17)
            clear hx17 x17 hb17 c1 hbs4 y0 yM y1 yl HG16
            have HU17 := Lib.hid (HU.out.on HBA.out)
            have HV17 := Lib.hid (HV.out.on HBA.out)
            obtain ⟨v1, hr1, ht1⟩ := (HL14.out.below HB17.out).one HLK.out (q := (ki : Int) + 1) (by simp)
            have HT1 := Lib.hid ht1
            have hk9 : IntKind.i64.wrap ((ki : Int) + 1) = (ki : Int) + 1 := IntWalk.i64_in _ (by omega)
            have hk0 : decide (0 ≤ (ki : Int)) = true := decide_eq_true (by omega)
            obtain ⟨z0, z1, z2⟩ := HG17.out.cells
            have z3 := HG17.out.lt
            obtain ⟨y0, yM, y1⟩ := (HK14.out.below HB17.out).cells
            simp only at y0 yM
            have yl := (HK14.out.below HB17.out).lt
            clear ht1 HU HV
            go_wp2_with fail
            refine Mix.regionC (fun _ => False) (by kernel_rfl) ?_
            intro w30 hb30
            refine Mix.take_exC _ _ 0 rfl (by kernel_rfl) (by kernel_rfl) (by kernel_rfl) (by kernel_rfl) (fun K hK => ?_)
            go_simp
            first | (refine hK _ ?_; clear hK K) | (apply Exists.intro; refine ⟨fun x => ?_, hK _ ?_⟩; (fail); clear hK K)
            refine Mix.take_exC _ _ 1 rfl (by kernel_rfl) (by kernel_rfl) (by kernel_rfl) (by kernel_rfl) (fun K hK => ?_)
            go_simp
            first | (refine hK _ ?_; clear hK K) | (apply Exists.intro; refine ⟨fun x => ?_, hK _ ?_⟩; (fail); clear hK K)
            refine Mix.take_exC _ _ 2 rfl (by kernel_rfl) (by kernel_rfl) (by kernel_rfl) (by kernel_rfl) (fun K hK => ?_)
            go_simp
            first | (refine hK _ ?_; clear hK K) | (apply Exists.intro; refine ⟨fun x => ?_, hK _ ?_⟩; (fail); clear hK K)
            refine Mix.take_exC _ _ 3 rfl (by kernel_rfl) (by kernel_rfl) (by kernel_rfl) (by kernel_rfl) (fun K hK => ?_)
            go_simp
            first | (refine hK _ ?_; clear hK K) | (apply Exists.intro; refine ⟨fun x => ?_, hK _ ?_⟩; (fail); clear hK K)
            refine Mix.take_exC _ _ 4 rfl (by kernel_rfl) (by kernel_rfl) (by kernel_rfl) (by kernel_rfl) (fun K hK => ?_)
            go_simp
            first | (refine hK _ ?_; clear hK K) | (apply Exists.intro; refine ⟨fun x => ?_, hK _ ?_⟩; (fail); clear hK K)
            refine Mix.take_exC _ _ 5 rfl (by kernel_rfl) (by kernel_rfl) (by kernel_rfl) (by kernel_rfl) (fun K hK => ?_)
            go_simp
            first | (refine hK _ ?_; clear hK K) | (apply Exists.intro; refine ⟨fun x => ?_, hK _ ?_⟩; (fail); clear hK K)
            refine Mix.take_exC _ _ 6 rfl (by kernel_rfl) (by kernel_rfl) (by kernel_rfl) (by kernel_rfl) (fun K hK => ?_)
            go_simp
            first | (refine hK _ ?_; clear hK K) | (apply Exists.intro; refine ⟨fun x => ?_, hK _ ?_⟩; (fail); clear hK K)
            refine Mix.take_exC _ _ 7 rfl (by kernel_rfl) (by kernel_rfl) (by kernel_rfl) (by kernel_rfl) (fun K hK => ?_)
            go_simp
            first | (refine hK _ ?_; clear hK K) | (apply Exists.intro; refine ⟨fun x => ?_, hK _ ?_⟩; (fail); clear hK K)
            refine Mix.take_exC _ _ 9 rfl (by kernel_rfl) (by kernel_rfl) (by kernel_rfl) (by kernel_rfl) (fun K hK => ?_)
            go_simp
            first | (refine hK _ ?_; clear hK K) | (apply Exists.intro; refine ⟨fun x => ?_, hK _ ?_⟩; (fail); clear hK K)
            refine Mix.take_exC _ _ 10 rfl (by kernel_rfl) (by kernel_rfl) (by kernel_rfl) (by kernel_rfl) (fun K hK => ?_)
            go_simp
            first | (refine hK _ ?_; clear hK K) | (apply Exists.intro; refine ⟨fun x => ?_, hK _ ?_⟩; (fail); clear hK K)
            refine Mix.take_exC _ _ 11 rfl (by kernel_rfl) (by kernel_rfl) (by kernel_rfl) (by kernel_rfl) (fun K hK => ?_)
            go_simp
            first | (refine hK _ ?_; clear hK K) | (apply Exists.intro; refine ⟨fun x => ?_, hK _ ?_⟩; (fail); clear hK K)
            refine Mix.take_exC _ _ 12 rfl (by kernel_rfl) (by kernel_rfl) (by kernel_rfl) (by kernel_rfl) (fun K hK => ?_)
            go_simp
            first | (refine hK _ ?_; clear hK K) | (apply Exists.intro; refine ⟨fun x => ?_, hK _ ?_⟩; (fail); clear hK K)
            refine Mix.take_exC _ _ 13 rfl (by kernel_rfl) (by kernel_rfl) (by kernel_rfl) (by kernel_rfl) (fun K hK => ?_)
            go_simp
            first | (refine hK _ ?_; clear hK K) | (apply Exists.intro; refine ⟨fun x => ?_, hK _ ?_⟩; (fail); clear hK K)
            refine Mix.take_exC _ _ 14 rfl (by kernel_rfl) (by kernel_rfl) (by kernel_rfl) (by kernel_rfl) (fun K hK => ?_)
            go_simp
            first | (refine hK _ ?_; clear hK K) | (apply Exists.intro; refine ⟨fun x => ?_, hK _ ?_⟩; (fail); clear hK K)
            refine Mix.all (rs := [8]) (by kernel_rfl) (by simp) (.of_below _ hb30) ?_
            intro i31 hi31 w31 hb31 hC31
            simp only [List.mem_cons, List.not_mem_nil, or_false] at hi31
            subst hi31
            have HB31 := Lib.hid (bt hb30 hb31)
            clear hC31 hb30 hb31
            refine Mix.op rfl (by kernel_rfl) ?_
            go_simp
            have hb32 := ba HB31.out (.cells #[.int .i64 xi, .slice ga x5.tps.length gc, .slice ha x5.fps.length hcc] 38)
            have HK32 := Lib.hid (QB.made w31 xi (.slice ga x5.tps.length gc) (.slice ha x5.fps.length hcc))
            have HB32 := Lib.hid hb32
            clear hb32
            generalize w31.alloc (.cells #[.int .i64 xi, .slice ga x5.tps.length gc, .slice ha x5.fps.length hcc] 38) = w32 at *
            generalize w31.heap.size = q32 at *
            refine Mix.all (rs := [15]) (by kernel_rfl) (by simp) (.of_below _ HB32.out) ?_
            intro i33 hi33 w33 hb33 hC33
            simp only [List.mem_cons, List.not_mem_nil, or_false] at hi33
            subst hi33
            have HB33 := Lib.hid (bt HB32.out hb33)
            have HSM := Lib.hid (sameQ_yes (.slice (some ⟨q32, 0, none⟩) 1 1) v1 [⟨xi, .slice ga x5.tps.length gc, x5.tps, .slice ha x5.fps.length hcc, x5.fps⟩] ([x5].map Oa.q) (fun y hy => by
              rw [List.mem_singleton.1 hy]
              have h2 := HT14.out.ain.ok _ HXM.out
              exact ⟨Nat.lt_of_le_of_lt (vr_len h2.vt) (by decide), Nat.lt_of_le_of_lt (vr_len h2.vf) (by decide)⟩) (by
              show [(xi, x5.tps, x5.fps)] = [(x5.id, x5.tps, x5.fps)]
              rw [HXE.out]) w33 (AL.made (HK32.out.below hb33) (HU17.out.on HB33.out) (HV17.out.on HB33.out)) (HT1.out.below HB33.out).al.1)
            clear hC33 hb33
            refine Mix.op rfl (by kernel_rfl) ?_
            go_simp
            refine HSM.out.mono ?_
            rintro e w34 ⟨rfl, hb34⟩
            refine ⟨_, rfl, ?_⟩
            have HB34 := Lib.hid (bt HB33.out hb34)
            clear hb34
            refine Mix.take_exC _ _ 16 rfl (by kernel_rfl) (by kernel_rfl) (by kernel_rfl) (by kernel_rfl) (fun K hK => ?_)
            go_simp
            first | (refine hK _ ?_; clear hK K) | (apply Exists.intro; refine ⟨fun x => ?_, hK _ ?_⟩; (fail); clear hK K)
            refine Mix.take_exC _ _ 17 rfl (by kernel_rfl) (by kernel_rfl) (by kernel_rfl) (by kernel_rfl) (fun K hK => ?_)
            go_simp
            first | (refine hK _ ?_; clear hK K) | (apply Exists.intro; refine ⟨fun x => ?_, hK _ ?_⟩; (fail); clear hK K)
            refine Mix.take_exC _ _ 18 rfl (by kernel_rfl) (by kernel_rfl) (by kernel_rfl) (by kernel_rfl) (fun K hK => ?_)
            go_simp
            first | (refine hK _ ?_; clear hK K) | (apply Exists.intro; refine ⟨fun x => ?_, hK _ ?_⟩; (fail); clear hK K)
            refine Mix.take_exC _ _ 19 rfl (by kernel_rfl) (by kernel_rfl) (by kernel_rfl) (by kernel_rfl) (fun K hK => ?_)
            go_simp
            first | (refine hK _ ?_; clear hK K) | (apply Exists.intro; refine ⟨fun x => ?_, hK _ ?_⟩; (fail); clear hK K)
            refine Mix.take_exC _ _ 20 rfl (by kernel_rfl) (by kernel_rfl) (by kernel_rfl) (by kernel_rfl) (fun K hK => ?_)
            go_simp
            first | (refine hK _ ?_; clear hK K) | (apply Exists.intro; refine ⟨fun x => ?_, hK _ ?_⟩; (fail); clear hK K)
            refine Mix.take_exC _ _ 21 rfl (by kernel_rfl) (by kernel_rfl) (by kernel_rfl) (by kernel_rfl) (fun K hK => ?_)
            go_simp
            first | (refine hK _ ?_; clear hK K) | (apply Exists.intro; refine ⟨fun x => ?_, hK _ ?_⟩; (fail); clear hK K)
            refine Mix.take_exC _ _ 22 rfl (by kernel_rfl) (by kernel_rfl) (by kernel_rfl) (by kernel_rfl) (fun K hK => ?_)
            go_simp
            first | (refine hK _ ?_; clear hK K) | (apply Exists.intro; refine ⟨fun x => ?_, hK _ ?_⟩; (fail); clear hK K)
            refine Mix.skip_C _ _ 23 rfl (by kernel_rfl) (by kernel_rfl) (by kernel_rfl) (by kernel_rfl) ?_
            go_simp
            refine Mix.skip_C _ _ 24 rfl (by kernel_rfl) (by kernel_rfl) (by kernel_rfl) (by kernel_rfl) ?_
            go_simp
            refine Mix.skip_C _ _ 25 rfl (by kernel_rfl) (by kernel_rfl) (by kernel_rfl) (by kernel_rfl) ?_
            go_simp
            refine Mix.take_exC _ _ 26 rfl (by kernel_rfl) (by kernel_rfl) (by kernel_rfl) (by kernel_rfl) (fun K hK => ?_)
            go_simp
            first | (refine hK _ ?_; clear hK K) | (apply Exists.intro; refine ⟨fun x => ?_, hK _ ?_⟩; (fail); clear hK K)
            refine Mix.take_exC _ _ 27 rfl (by kernel_rfl) (by kernel_rfl) (by kernel_rfl) (by kernel_rfl) (fun K hK => ?_)
            go_simp
            first | (refine hK _ ?_; clear hK K) | (apply Exists.intro; refine ⟨fun x => ?_, hK _ ?_⟩; (fail); clear hK K)
            refine Mix.done (by kernel_rfl) (.of_below _ HB34.out) ?_
            intro w18 hb35
            have HB18 := Lib.hid (bt HB17.out (bt HB34.out hb35))
            clear hb35 z0 z1 z2 z3 y0 yM y1 yl hr1 hk9 hk0 hkn
            go_wp2
            go_roundw
            case rel => exact ⟨t + 1, S5, _, L5, by omega, by go_num, Lib.hid (HRND.out _ HB18.out)⟩
            case measure => simp [intOf]; omega
      · obtain rfl : n = t := by omega
        clear hlt ht
        obtain ⟨z0, zM, z1⟩ := HQ.out.mq.cells
        have z3 := HQ.out.mq.lt
        simp only at z0 zM
        have HEX := Lib.hid (show ∀ x : ExtC w4 (fun _ => False), Below w4.heap.size w4 (extC w4 (fun _ => False) x) from fun x => (extC_chg w4 _ x).below (Nat.le_refl _) fun k h => h.elim)
        have hin : AIn cap most (L.map Oa.pl) := by rw [HQ.out.pl]; exact HQ.out.ap.ain
        obtain ⟨g, hg⟩ : ∃ g, g = sumA totA S := ⟨_, rfl⟩
        obtain ⟨f, hf⟩ : ∃ f, f = sumA freA S := ⟨_, rfl⟩
        have hSF := fun x => psum (HQ.out.ap.below (HEX.out x))
        have hFF := fun x => pfree (HQ.out.ap.below (HEX.out x)) HSL.out
        have hMS := fun x => msum (cap := (cap, most)) (HQ.out.ol.below (HEX.out x)) hin false
        have hMF := fun x => msum (cap := (cap, most)) (HQ.out.ol.below (HEX.out x)) hin true
        rw [HQ.out.pl] at hMS hMF
        have e1 : sumA (pickA false) S = g := by rw [hg]; rfl
        have e2 : sumA (pickA true) S = f := by rw [hf]; rfl
        rw [e1] at hMS
        rw [e2] at hMF
        rw [← hg] at hSF
        rw [← hf] at hFF
        have HSF := Lib.hid hSF; have HFR := Lib.hid hFF; have HMS := Lib.hid hMS; have HMF := Lib.hid hMF
        clear hSF hFF hMS hMF hg hf hin e1 e2
        go_wp2_with fail
        refine Mix.regionC (fun _ => False) (by kernel_rfl) ?_
        intro w30 hb30
        refine Mix.take_exC _ _ 0 rfl (by kernel_rfl) (by kernel_rfl) (by kernel_rfl) (by kernel_rfl) (fun K hK => ?_)
        go_simp
        first | (refine hK _ ?_; clear hK K) | (apply Exists.intro; refine ⟨fun x => ?_, hK _ ?_⟩; (fail); clear hK K)
        refine Mix.take_exC _ _ 2 rfl (by kernel_rfl) (by kernel_rfl) (by kernel_rfl) (by kernel_rfl) (fun K hK => ?_)
        go_simp
        first | (refine hK _ ?_; clear hK K) | (apply Exists.intro; refine ⟨fun x => ?_, hK _ ?_⟩; (fail); clear hK K)
        refine Mix.take_exC _ _ 3 rfl (by kernel_rfl) (by kernel_rfl) (by kernel_rfl) (by kernel_rfl) (fun K hK => ?_)
        go_simp
        first | (refine hK _ ?_; clear hK K) | (apply Exists.intro; refine ⟨fun x => ?_, hK _ ?_⟩; (fail); clear hK K)
        refine Mix.all (rs := [1]) (by kernel_rfl) (by simp) (.of_below _ hb30) ?_
        intro i31 hi31 w31 hb31 hC31
        simp only [List.mem_cons, List.not_mem_nil, or_false] at hi31
        subst hi31
        have HB31 := Lib.hid (bt hb30 hb31)
        clear hC31 hb30 hb31
        refine Mix.op rfl (by kernel_rfl) ?_
        go_simp
        refine (pall (HQ.out.ap.below HB31.out) HSL.out).mono ?_
        rintro e w32 ⟨va2, la2, rfl, hla2, hpa2, -, -, hb32⟩
        refine ⟨_, rfl, ?_⟩
        have HLA2 := Lib.hid hla2; have HPA2 := Lib.hid hpa2
        have HB32 := Lib.hid (bt HB31.out hb32)
        clear hla2 hpa2 hb32
        refine Mix.all (rs := [4]) (by kernel_rfl) (by simp) (.of_below _ HB32.out) ?_
        intro i33 hi33 w33 hb33 hC33
        simp only [List.mem_cons, List.not_mem_nil, or_false] at hi33
        subst hi33
        have HB33 := Lib.hid (bt HB32.out hb33)
        have HSM := Lib.hid (sameQ_yes va2 (.slice la ln lc) la2 (L.map Oa.q) (fun x hx => by
          have h1 : x.pl ∈ S := by rw [← HPA2.out]; exact List.mem_map.2 ⟨x, hx, rfl⟩
          have h2 := HQ.out.ap.ain.ok _ h1
          exact ⟨Nat.lt_of_le_of_lt (vr_len h2.vt) (by decide), Nat.lt_of_le_of_lt (vr_len h2.vf) (by decide)⟩) (by rw [HPA2.out, HQ.out.ol.al.2, HQ.out.pl]) w33 (HLA2.out.below hb33) (HQ.out.ol.below HB33.out).al.1)
        clear hC33 hb33
        refine Mix.op rfl (by kernel_rfl) ?_
        go_simp
        refine HSM.out.mono ?_
        rintro e w34 ⟨rfl, hb34⟩
        refine ⟨_, rfl, ?_⟩
        have HB34 := Lib.hid (bt HB33.out hb34)
        clear hb34
        refine Mix.take_exC _ _ 5 rfl (by kernel_rfl) (by kernel_rfl) (by kernel_rfl) (by kernel_rfl) (fun K hK => ?_)
        go_simp
        first | (refine hK _ ?_; clear hK K) | (apply Exists.intro; refine ⟨fun x => ?_, hK _ ?_⟩; (fail); clear hK K)
        refine Mix.take_exC _ _ 6 rfl (by kernel_rfl) (by kernel_rfl) (by kernel_rfl) (by kernel_rfl) (fun K hK => ?_)
        go_simp
        first | (refine hK _ ?_; clear hK K) | (apply Exists.intro; refine ⟨fun x => ?_, hK _ ?_⟩; (fail); clear hK K)
        refine Mix.take_exC _ _ 7 rfl (by kernel_rfl) (by kernel_rfl) (by kernel_rfl) (by kernel_rfl) (fun K hK => ?_)
        go_simp
        first | (refine hK _ ?_; clear hK K) | (apply Exists.intro; refine ⟨fun x => ?_, hK _ ?_⟩; (exact HSF.out x); clear hK K)
        refine Mix.take_exC _ _ 8 rfl (by kernel_rfl) (by kernel_rfl) (by kernel_rfl) (by kernel_rfl) (fun K hK => ?_)
        go_simp
        first | (refine hK _ ?_; clear hK K) | (apply Exists.intro; refine ⟨fun x => ?_, hK _ ?_⟩; (fail); clear hK K)
        refine Mix.take_exC _ _ 9 rfl (by kernel_rfl) (by kernel_rfl) (by kernel_rfl) (by kernel_rfl) (fun K hK => ?_)
        go_simp
        first | (refine hK _ ?_; clear hK K) | (apply Exists.intro; refine ⟨fun x => ?_, hK _ ?_⟩; (exact HMS.out x); clear hK K)
        refine Mix.take_exC _ _ 10 rfl (by kernel_rfl) (by kernel_rfl) (by kernel_rfl) (by kernel_rfl) (fun K hK => ?_)
        go_simp
        first | (refine hK _ ?_; clear hK K) | (apply Exists.intro; refine ⟨fun x => ?_, hK _ ?_⟩; (fail); clear hK K)
        refine Mix.take_exC _ _ 11 rfl (by kernel_rfl) (by kernel_rfl) (by kernel_rfl) (by kernel_rfl) (fun K hK => ?_)
        go_simp
        first | (refine hK _ ?_; clear hK K) | (apply Exists.intro; refine ⟨fun x => ?_, hK _ ?_⟩; (fail); clear hK K)
        refine Mix.take_exC _ _ 12 rfl (by kernel_rfl) (by kernel_rfl) (by kernel_rfl) (by kernel_rfl) (fun K hK => ?_)
        go_simp
        first | (refine hK _ ?_; clear hK K) | (apply Exists.intro; refine ⟨fun x => ?_, hK _ ?_⟩; (fail); clear hK K)
        refine Mix.take_exC _ _ 13 rfl (by kernel_rfl) (by kernel_rfl) (by kernel_rfl) (by kernel_rfl) (fun K hK => ?_)
        go_simp
        first | (refine hK _ ?_; clear hK K) | (apply Exists.intro; refine ⟨fun x => ?_, hK _ ?_⟩; (fail); clear hK K)
        refine Mix.take_exC _ _ 14 rfl (by kernel_rfl) (by kernel_rfl) (by kernel_rfl) (by kernel_rfl) (fun K hK => ?_)
        go_simp
        first | (refine hK _ ?_; clear hK K) | (apply Exists.intro; refine ⟨fun x => ?_, hK _ ?_⟩; (exact HFR.out x); clear hK K)
        refine Mix.take_exC _ _ 15 rfl (by kernel_rfl) (by kernel_rfl) (by kernel_rfl) (by kernel_rfl) (fun K hK => ?_)
        go_simp
        first | (refine hK _ ?_; clear hK K) | (apply Exists.intro; refine ⟨fun x => ?_, hK _ ?_⟩; (fail); clear hK K)
        refine Mix.take_exC _ _ 16 rfl (by kernel_rfl) (by kernel_rfl) (by kernel_rfl) (by kernel_rfl) (fun K hK => ?_)
        go_simp
        first | (refine hK _ ?_; clear hK K) | (apply Exists.intro; refine ⟨fun x => ?_, hK _ ?_⟩; (exact HMF.out x); clear hK K)
        refine Mix.take_exC _ _ 17 rfl (by kernel_rfl) (by kernel_rfl) (by kernel_rfl) (by kernel_rfl) (fun K hK => ?_)
        go_simp
        first | (refine hK _ ?_; clear hK K) | (apply Exists.intro; refine ⟨fun x => ?_, hK _ ?_⟩; (fail); clear hK K)
        refine Mix.take_exC _ _ 18 rfl (by kernel_rfl) (by kernel_rfl) (by kernel_rfl) (by kernel_rfl) (fun K hK => ?_)
        go_simp
        first | (refine hK _ ?_; clear hK K) | (apply Exists.intro; refine ⟨fun x => ?_, hK _ ?_⟩; (fail); clear hK K)
        refine Mix.take_exC _ _ 19 rfl (by kernel_rfl) (by kernel_rfl) (by kernel_rfl) (by kernel_rfl) (fun K hK => ?_)
        go_simp
        first | (refine hK _ ?_; clear hK K) | (apply Exists.intro; refine ⟨fun x => ?_, hK _ ?_⟩; (fail); clear hK K)
        refine Mix.take_exC _ _ 20 rfl (by kernel_rfl) (by kernel_rfl) (by kernel_rfl) (by kernel_rfl) (fun K hK => ?_)
        go_simp
        first | (refine hK _ ?_; clear hK K) | (apply Exists.intro; refine ⟨fun x => ?_, hK _ ?_⟩; (exact works22 _); clear hK K)
        refine Mix.take_exC _ _ 21 rfl (by kernel_rfl) (by kernel_rfl) (by kernel_rfl) (by kernel_rfl) (fun K hK => ?_)
        go_simp
        first | (refine hK _ ?_; clear hK K) | (apply Exists.intro; refine ⟨fun x => ?_, hK _ ?_⟩; (fail); clear hK K)
        refine Mix.take_exC _ _ 22 rfl (by kernel_rfl) (by kernel_rfl) (by kernel_rfl) (by kernel_rfl) (fun K hK => ?_)
        go_simp
        first | (refine hK _ ?_; clear hK K) | (apply Exists.intro; refine ⟨fun x => ?_, hK _ ?_⟩; (fail); clear hK K)
        refine Mix.done (by kernel_rfl) (.of_below _ HB34.out) ?_
        intro w36 hb36
        have HB36 := Lib.hid (bt HB34.out hb36)
        clear hb36 z0 zM z1 z3
        go_wp2
        go_ret
        exact ⟨rfl, HB1.out.trans ((HQ.out.ap.bel.trans (HB36.out.mono HQ.out.ap.bel.size)).mono HB1.out.size)⟩
  · have hFF : decide (l.length ≤ 80 ∧ (l.map aaW).sum ≤ 600) = false := decide_eq_false hfew
    go_enter Try.func3, Try.ntmps3
    go_wp2_with fail
    refine HF.out.mono ?_
    rintro e w1 ⟨rfl, hb1⟩
    rw [hFF]
    have HB1 := Lib.hid hb1
    clear hfew hb1
    go_wp2
    go_ret
    exact ⟨rfl, HB1.out⟩
end Go.Proofs.Ytennhfkhdfalfaa

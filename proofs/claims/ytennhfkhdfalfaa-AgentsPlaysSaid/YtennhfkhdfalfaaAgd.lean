/- agents: the walk of AgentsBack. -/
import Derived.Test.YtennhfkhdfalfaaAgc
import Derived.Test.YtennhfkhdfalfaaAgSm
namespace Go.Proofs.Ytennhfkhdfalfaa
open Go.RowKit Go.Maps
attribute [local go_sem] ext_cell ext_frozen extC_cell extC_frozen Mix.calmUpon Mix.mUpon
attribute [local go_sem] eq4
theorem AaIn.on {W w : World} {x : Aa} (h : AaIn W x) (hb : Below W.heap.size W w) : AaIn w x := ⟨h.kd, h.id, h.vc.on hb, h.uc.on hb, h.vi, h.ui, h.vl, h.ul⟩
/-- A list of agents whose blocks are none of F. -/
structure AD (F : Nat → Prop) (v : Value) (l : List Qa) : Prop where
  own : ∀ b, v.ownBlock = some b → ¬ F b
  vec : ∀ x ∈ l, (∀ b, x.tv.ownBlock = some b → ¬ F b) ∧ ∀ b, x.fv.ownBlock = some b → ¬ F b
theorem AL.keep {F : Nat → Prop} {w w' : World} {v : Value} {l : List Qa} (h : AL w v l) (hc : Chg F w w') (hd : AD F v l) : AL w' v l :=
  ⟨h.rs.chg hc hd.own, fun x hx => ⟨(h.vec x hx).1.chg hc (hd.vec x hx).1, (h.vec x hx).2.chg hc (hd.vec x hx).2⟩⟩
theorem take_no {S : List Pa} {k : Int} {v : List Pt} (h : ¬ takeE S k v = 0) : takeP S k v = S := by
  unfold takeE at h; unfold takeP
  cases hf : fndA S k with
  | none => rfl
  | some x =>
    rw [hf] at h
    simp only at h ⊢
    cases hm : mrg gSub x.2.2 v with
    | none => rfl
    | some r => rw [hm] at h; exact absurd rfl h
theorem take_le {S : List Pa} {k : Int} {v : List Pt} : (takeP S k v).length ≤ S.length + 1 := by
  unfold takeP
  split
  · omega
  · split
    · omega
    · exact Srt.put_le (key := akey) (lt := altP) S _
set_option maxRecDepth 100000 in
set_option maxHeartbeats 8000000 in
theorem back22 (v : Value) (l : List Aa) (id : Int) (u : Value) (ps : List Pt) (W : World) (hr : RS 4 aaenc W v l) (ha : ∀ x ∈ l, AaIn W x) (hid : I64 id) (hu : Vc W u ps) :
    Calls Try.prog 5 #[v, .int .i64 id, u] W fun e w' => e = .returned (.bool true) ∧ Below W.heap.size W w' := by
  have HF := Lib.hid (few22 v l W hr ha)
  have hu0 := hu
  obtain ⟨ua, uc, rfl, -, -⟩ := hu.form
  obtain ⟨un, hun⟩ : ∃ n, n = ps.length := ⟨_, rfl⟩
  rw [← hun] at hu0 ⊢
  have HU := Lib.hid hu0; have HUN := Lib.hid hun; have HID := Lib.hid hid
  clear hu hu0 hun hid
  by_cases hfew : l.length ≤ 80 ∧ (l.map aaW).sum ≤ 600
  · have hFT : decide (l.length ≤ 80 ∧ (l.map aaW).sum ≤ 600) = true := decide_eq_true hfew
    have HFT := Lib.hid hFT
    have HLE := Lib.hid (few_each hfew.2)
    have HR := Lib.hid hr; have HA0 := Lib.hid ha
    obtain ⟨a, n, c, rfl, hn, hc, hm, -⟩ := hr.at_
    have hn80 : n ≤ 80 := by rw [hn]; exact hfew.1
    have HN := Lib.hid hn
    clear hr hn ha hm hc hfew hFT
    by_cases hun : 150 < un
    · have hub : (150 : Int) < (un : Int) := by omega
      go_enter Try.func5, Try.ntmps5
      go_wp2_with fail
      refine HF.out.mono ?_
      rintro e w1 ⟨rfl, hb1⟩
      rw [HFT.out]
      have HB1 := Lib.hid hb1
      clear hb1
      go_wp2
      go_ret
      exact ⟨rfl, HB1.out⟩
    have hub : ¬ (150 : Int) < (un : Int) := by omega
    have HUL := Lib.hid (show ps.length < 1000000000 by have := HUN.out; omega)
    go_enter Try.func5, Try.ntmps5
    go_wp2_with fail
    refine HF.out.mono ?_
    rintro e w1 ⟨rfl, hb1⟩
    rw [HFT.out]
    have HB1 := Lib.hid hb1
    have HAT : Hid (∀ i x, l[i]? = some x → ∃ b off, a = some ⟨b, off, none⟩ ∧ b < w1.heap.size ∧ ∀ j u, (aaenc x)[j]? = some u → w1.cell? ⟨b, off + i * 4 + j, none⟩ = some u) := Lib.hid (by
      obtain ⟨a', n', c', he, _, _, _, h⟩ := (HR.out.below hb1).at_
      cases he; exact h)
    have HA := Lib.hid (show ∀ x ∈ l, AaIn w1 x from fun x hx => (HA0.out x hx).on hb1)
    have HU := Lib.hid (HU.out.on hb1)
    clear hb1 HR HA0 HF
    go_wp2_with fail
    refine (pnew w1 (cap := 4) (most := 9007199254740992) (by decide) (by decide)).mono ?_
    rintro e w2 ⟨rfl, h2, hb2⟩
    clear hun hub
    obtain ⟨tp, htp⟩ : ∃ tp, tp = w1.heap.size + 1 := ⟨_, rfl⟩
    obtain ⟨M, hM⟩ : ∃ M, M = w1.heap.size := ⟨_, rfl⟩
    have h2 : AP w1 w2 tp M 4 9007199254740992 [] := by rw [htp, hM]; exact h2
    rw [← htp]
    have HMQ := Lib.hid hM
    have HI := Lib.hid (show AP w1 w2 tp M 4 9007199254740992 [] ∧ ([] : List Pa).length ≤ 0 from ⟨h2, Nat.le_refl _⟩)
    clear h2 hb2 htp hM
    go_wp2
    go_loopw [8] (fun iv wr => ∃ (t : Nat) (S : List Pa), t ≤ n ∧ iv = .int .i64 t ∧ Hid (AP w1 wr tp M 4 9007199254740992 S ∧ S.length ≤ t)) (fun iv _ => n - (intOf iv).toNat)
    case atStart => exact ⟨0, [], Nat.zero_le _, rfl, HI⟩
    case round =>
      clear HI
      obtain ⟨t, S, ht, rfl, HQ⟩ := hrel
      obtain ⟨w4, rfl⟩ : ∃ w4, w4 = wr := ⟨_, rfl⟩
      by_cases hlt : t < n
      · have hts : (t : Int) < (n : Int) := by omega
        obtain ⟨x, hx⟩ := at_lt (l := l) (i := t) (by rw [← HN.out]; exact hlt)
        have HDL := Lib.hid (do_len (cap := 4) (most := 9007199254740992) (S := S) x)
        obtain ⟨bs, off, rfl, hbs, hcell⟩ := HAT.out t x hx
        have hxi := HA.out x (mem_at hx)
        have hxl := HLE.out x (mem_at hx)
        have hbw := HQ.out.1.bel
        have c0 := (hbw.cell (p := ⟨bs, _, none⟩) hbs).trans (hcell 0 _ rfl)
        have c1 := (hbw.cell (p := ⟨bs, _, none⟩) hbs).trans (hcell 1 _ rfl)
        have c2 := (hbw.cell (p := ⟨bs, _, none⟩) hbs).trans (hcell 2 _ rfl)
        have c3 := (hbw.cell (p := ⟨bs, _, none⟩) hbs).trans (hcell 3 _ rfl)
        simp only [Nat.add_zero] at c0
        have hbs4 : bs < w4.heap.size := Nat.lt_of_lt_of_le hbs hbw.size
        have HDO := Lib.hid (ado HQ.out.1 x hxi hxl)
        obtain ⟨xk, xi, xv, xs, xu, xt⟩ := x
        obtain ⟨va, vc, hvv, -, -⟩ := hxi.vc.form
        obtain ⟨wa, wc, hwv, -, -⟩ := hxi.uc.form
        simp only at hvv hwv c0 c1 c2 c3 HDO
        subst hvv hwv
        clear hcell hx hxi hxl hbw hbs
        go_wp2_with fail
        refine HDO.out.mono ?_
        rintro e w5 ⟨rfl, h5, hc5⟩
        have H5 := Lib.hid h5
        clear h5 hc5 c0 c1 c2 c3 hbs4
        go_wp2
        go_roundw
        case rel => exact ⟨t + 1, _, by omega, by go_num, Lib.hid ⟨H5.out, by have := HDL.out; have := HQ.out.2; omega⟩⟩
        case measure => simp [intOf]; omega
      · obtain rfl : n = t := by omega
        have HSL := Lib.hid (show S.length < 1000000 by have := HQ.out.2; omega)
        have HSL2 := Lib.hid (show (takeP S id ps).length < 1000000 by have := HQ.out.2; have := take_le (S := S) (k := id) (v := ps); omega)
        have HT := Lib.hid HQ.out.1
        clear hlt ht
        go_wp2_with fail
        refine (pall HT.out HSL.out).mono ?_
        rintro e w5 ⟨vy, la, rfl, hla, hpa, hvo, hxo, hb5⟩
        have HT5 := Lib.hid (HT.out.below hb5)
        have HAD := Lib.hid (show AD (fun b => b = M) vy la from by
          have hM := HT.out.lt.2
          exact ⟨fun b hb e => by have := hvo b hb; have e : b = M := e; omega, fun x hx => ⟨fun b hb e => by have := (hxo x hx).1 b hb; have e : b = M := e; omega, fun b hb e => by have := (hxo x hx).2 b hb; have e : b = M := e; omega⟩⟩)
        obtain ⟨ya, yn, yc, rfl, -, -, -, -⟩ := hla.rs.at_
        have HLA5 := Lib.hid hla; have HPA := Lib.hid hpa
        clear hla hpa hvo hxo hb5 HT
        go_wp2_with fail
        refine (pfree HT5.out HSL.out).mono ?_
        rintro e w6 ⟨rfl, hb6⟩
        obtain ⟨g, hg⟩ : ∃ g, g = sumA freA S := ⟨_, rfl⟩
        rw [← hg]
        have HGQ := Lib.hid hg
        have hb67 := ba (Below.refl w6.heap.size w6) (.cells (C4 g) 45)
        have HG7 := Lib.hid (KS.made w6 g 45)
        have HT7 := Lib.hid ((HT5.out.below hb6).below hb67)
        have HLA7 := Lib.hid ((HLA5.out.below hb6).below hb67)
        have HU7 := Lib.hid (HU.out.on HT7.out.bel)
        have HG0 := Lib.hid (show M < w6.heap.size from (HT5.out.below hb6).lt.2)
        clear hg hb6 hb67 HT5 HLA5
        go_wp2_with fail
        generalize w6.alloc (.cells (C4 g) 45) = w7 at *
        obtain ⟨q, hq⟩ : ∃ q, q = w6.heap.size := ⟨_, rfl⟩
        rw [← hq] at HG7 HG0 ⊢
        clear hq
        refine (ptake HT7.out HID.out HU7.out HUL.out).mono ?_
        rintro e w8 ⟨rfl, h8, hc8⟩
        have HG8 := Lib.hid (HG7.out.chg hc8 (by have := HG0.out; show ¬ q = M; omega))
        have HLA8 := Lib.hid (HLA7.out.keep hc8 HAD.out)
        have H8 := Lib.hid h8
        clear h8 hc8 HT7 HLA7 HG7 HU7
        by_cases htk : takeE S id ps = 0
        · rw [htk]
          have hTG := take_give HQ.out.1.ain htk
          have HTG := Lib.hid hTG
          have HU8 := Lib.hid (HU.out.on H8.out.bel)
          have hS4 : S4 (sumA freA (takeP S id ps)) = S4 (sumA freA (takeP S id ps)) := rfl
          have hadd := add_both (sumA freA (takeP S id ps)) (kS ps) true (by have := H8.out.ain.fsok (takeP S id ps).length; rw [List.take_length] at this; exact this) (kS_ok hTG.2.2.1) (decide_eq_true (by
            rw [show (fun k => sumA freA (takeP S id ps) k + kS ps k) = sumA freA S from funext fun j => hTG.2.2.2 j]
            have := HQ.out.1.ain.fsok S.length; rw [List.take_length] at this; exact this))
          rw [show (fun k => sumA freA (takeP S id ps) k + kS ps k) = g from funext fun j => by rw [HGQ.out]; exact hTG.2.2.2 j] at hadd
          simp only [if_true] at hadd
          have HADD := Lib.hid hadd
          clear hTG htk hadd hS4
          go_wp2_with fail
          refine (pfree H8.out HSL2.out).mono ?_
          rintro e w9 ⟨rfl, hb9⟩
          have HT9 := Lib.hid (H8.out.below hb9)
          have HG9 := Lib.hid (HG8.out.below hb9)
          have HLA9 := Lib.hid (HLA8.out.below hb9)
          have HU9 := Lib.hid (HU8.out.on hb9)
          clear hb9
          go_wp2_with fail
          refine (sumsW _ ps HTG.out.2.2.1 _ HU9.out).mono ?_
          rintro e w10 ⟨rfl, hb10⟩
          have HT10 := Lib.hid (HT9.out.below hb10)
          have HG10 := Lib.hid (HG9.out.below hb10)
          have HLA10 := Lib.hid (HLA9.out.below hb10)
          clear hb10
          go_wp2_with fail
          refine (HADD.out _).mono ?_
          rintro e w11 ⟨rfl, hb11⟩
          have hbx := bt hb11 (ba (Below.refl w11.heap.size w11) (.cells (C4 g) 45))
          have HT12 := Lib.hid (HT10.out.below hbx)
          have HG12 := Lib.hid (HG10.out.below hbx)
          have HLA12 := Lib.hid (HLA10.out.below hbx)
          have HL12 := Lib.hid (KS.made w11 g 45)
          clear hb11 hbx
          obtain ⟨z0, z1, z2, z3⟩ := HG12.out.cells
          have z4 := HG12.out.lt
          obtain ⟨y0, y1, y2, y3⟩ := HL12.out.cells
          have y4 := HL12.out.lt
          have HU12 := Lib.hid (HU.out.on HT12.out.bel)
          go_wp2_with fail
          clear z0 z1 z2 z3 z4 y0 y1 y2 y3 y4
          generalize w11.alloc (.cells (C4 g) 45) = w12 at *
          refine (pgive HT12.out HID.out HU12.out HUL.out).mono ?_
          rintro e w13 ⟨rfl, h13, hc13⟩
          rw [HTG.out.1]
          have HT := Lib.hid (show AP w1 w13 tp M 4 9007199254740992 S from HTG.out.2.1 ▸ h13)
          have HG := Lib.hid (HG12.out.chg hc13 (by have := HG0.out; show ¬ q = M; omega))
          have HLA := Lib.hid (HLA12.out.keep hc13 HAD.out)
          clear h13 hc13
          obtain ⟨z0, z1, z2, z3⟩ := HG.out.cells
          have z4 := HG.out.lt
          have HFR := Lib.hid fun x : ExtC w13 (fun _ => False) => pfree (HT.out.below ((extC_chg w13 _ x).below (Nat.le_refl _) fun k h => h.elim)) HSL.out
          rw [← HGQ.out] at HFR
          go_wp2_with fail
          refine Mix.regionC (fun _ => False) (by kernel_rfl) ?_
          intro w30 hb30
          refine Mix.take_exC _ _ 0 rfl (by kernel_rfl) (by kernel_rfl) (by kernel_rfl) (by kernel_rfl) (fun K hK => ?_)
          go_simp
          first | (refine hK _ ?_; clear hK K) | (apply Exists.intro; refine ⟨fun x => ?_, hK _ ?_⟩; (fail); clear hK K)
          refine Mix.take_exC _ _ 2 rfl (by kernel_rfl) (by kernel_rfl) (by kernel_rfl) (by kernel_rfl) (fun K hK => ?_)
          go_simp
          first | (refine hK _ ?_; clear hK K) | (apply Exists.intro; refine ⟨fun x => ?_, hK _ ?_⟩; (fail); clear hK K)
          refine Mix.all (rs := [1]) (by kernel_rfl) (by simp) (.of_below _ hb30) ?_
          intro i31 hi31 w31 hb31 hC31
          simp only [List.mem_cons, List.not_mem_nil, or_false] at hi31
          subst hi31
          have HB31 := Lib.hid (bt hb30 hb31)
          clear hC31 hb30 hb31
          refine Mix.op rfl (by kernel_rfl) ?_
          go_simp
          refine (pall (HT.out.below HB31.out) HSL.out).mono ?_
          rintro e w32 ⟨va2, la2, rfl, hla2, hpa2, -, -, hb32⟩
          refine ⟨_, rfl, ?_⟩
          have HLA2 := Lib.hid hla2; have HPA2 := Lib.hid hpa2
          have HB32 := Lib.hid (bt HB31.out hb32)
          clear hla2 hpa2 hb32
          refine Mix.all (rs := [3]) (by kernel_rfl) (by simp) (.of_below _ HB32.out) ?_
          intro i33 hi33 w33 hb33 hC33
          simp only [List.mem_cons, List.not_mem_nil, or_false] at hi33
          subst hi33
          have HB33 := Lib.hid (bt HB32.out hb33)
          have HSM := Lib.hid (sameQ_yes va2 (.slice ya yn yc) la2 la (fun x hx => by
            have h1 : x.pl ∈ S := by rw [← HPA2.out]; exact List.mem_map.2 ⟨x, hx, rfl⟩
            have h2 := HT.out.ain.ok _ h1
            exact ⟨Nat.lt_of_le_of_lt (vr_len h2.vt) (by decide), Nat.lt_of_le_of_lt (vr_len h2.vf) (by decide)⟩) (by rw [HPA2.out, HPA.out]) w33 (HLA2.out.below hb33) (HLA.out.below HB33.out))
          clear hC33 hb33
          refine Mix.op rfl (by kernel_rfl) ?_
          go_simp
          refine HSM.out.mono ?_
          rintro e w34 ⟨rfl, hb34⟩
          refine ⟨_, rfl, ?_⟩
          have HB34 := Lib.hid (bt HB33.out hb34)
          clear hb34
          refine Mix.take_exC _ _ 4 rfl (by kernel_rfl) (by kernel_rfl) (by kernel_rfl) (by kernel_rfl) (fun K hK => ?_)
          go_simp
          first | (refine hK _ ?_; clear hK K) | (apply Exists.intro; refine ⟨fun x => ?_, hK _ ?_⟩; (fail); clear hK K)
          refine Mix.take_exC _ _ 5 rfl (by kernel_rfl) (by kernel_rfl) (by kernel_rfl) (by kernel_rfl) (fun K hK => ?_)
          go_simp
          first | (refine hK _ ?_; clear hK K) | (apply Exists.intro; refine ⟨fun x => ?_, hK _ ?_⟩; (fail); clear hK K)
          refine Mix.take_exC _ _ 6 rfl (by kernel_rfl) (by kernel_rfl) (by kernel_rfl) (by kernel_rfl) (fun K hK => ?_)
          go_simp
          first | (refine hK _ ?_; clear hK K) | (apply Exists.intro; refine ⟨fun x => ?_, hK _ ?_⟩; (exact HFR.out x); clear hK K)
          refine Mix.take_exC _ _ 7 rfl (by kernel_rfl) (by kernel_rfl) (by kernel_rfl) (by kernel_rfl) (fun K hK => ?_)
          go_simp
          first | (refine hK _ ?_; clear hK K) | (apply Exists.intro; refine ⟨fun x => ?_, hK _ ?_⟩; (fail); clear hK K)
          refine Mix.take_exC _ _ 8 rfl (by kernel_rfl) (by kernel_rfl) (by kernel_rfl) (by kernel_rfl) (fun K hK => ?_)
          go_simp
          first | (refine hK _ ?_; clear hK K) | (apply Exists.intro; refine ⟨fun x => ?_, hK _ ?_⟩; (fail); clear hK K)
          refine Mix.take_exC _ _ 9 rfl (by kernel_rfl) (by kernel_rfl) (by kernel_rfl) (by kernel_rfl) (fun K hK => ?_)
          go_simp
          first | (refine hK _ ?_; clear hK K) | (apply Exists.intro; refine ⟨fun x => ?_, hK _ ?_⟩; (fail); clear hK K)
          refine Mix.take_exC _ _ 10 rfl (by kernel_rfl) (by kernel_rfl) (by kernel_rfl) (by kernel_rfl) (fun K hK => ?_)
          go_simp
          first | (refine hK _ ?_; clear hK K) | (apply Exists.intro; refine ⟨fun x => ?_, hK _ ?_⟩; (fail); clear hK K)
          refine Mix.take_exC _ _ 11 rfl (by kernel_rfl) (by kernel_rfl) (by kernel_rfl) (by kernel_rfl) (fun K hK => ?_)
          go_simp
          first | (refine hK _ ?_; clear hK K) | (apply Exists.intro; refine ⟨fun x => ?_, hK _ ?_⟩; (exact works22 _); clear hK K)
          refine Mix.take_exC _ _ 12 rfl (by kernel_rfl) (by kernel_rfl) (by kernel_rfl) (by kernel_rfl) (fun K hK => ?_)
          go_simp
          first | (refine hK _ ?_; clear hK K) | (apply Exists.intro; refine ⟨fun x => ?_, hK _ ?_⟩; (fail); clear hK K)
          refine Mix.take_exC _ _ 13 rfl (by kernel_rfl) (by kernel_rfl) (by kernel_rfl) (by kernel_rfl) (fun K hK => ?_)
          go_simp
          first | (refine hK _ ?_; clear hK K) | (apply Exists.intro; refine ⟨fun x => ?_, hK _ ?_⟩; (fail); clear hK K)
          refine Mix.done (by kernel_rfl) (.of_below _ HB34.out) ?_
          intro w36 hb36
          have HB36 := Lib.hid (bt HB34.out hb36)
          clear hb36 z0 z1 z2 z3 z4
          go_wp2
          go_ret
          exact ⟨rfl, HB1.out.trans ((HT.out.bel.trans (HB36.out.mono HT.out.bel.size)).mono HB1.out.size)⟩
        · have hne : (takeE S id ps == 0) = false := by simpa using htk
          have HT := Lib.hid (show AP w1 w8 tp M 4 9007199254740992 S from take_no htk ▸ H8.out)
          have HG := HG8; have HLA := HLA8
          generalize takeE S id ps = te at *
          clear htk
          obtain ⟨z0, z1, z2, z3⟩ := HG.out.cells
          have z4 := HG.out.lt
          have HFR := Lib.hid fun x : ExtC w8 (fun _ => False) => pfree (HT.out.below ((extC_chg w8 _ x).below (Nat.le_refl _) fun k h => h.elim)) HSL.out
          rw [← HGQ.out] at HFR
          go_wp2_with fail
          refine Mix.regionC (fun _ => False) (by kernel_rfl) ?_
          intro w30 hb30
          refine Mix.take_exC _ _ 0 rfl (by kernel_rfl) (by kernel_rfl) (by kernel_rfl) (by kernel_rfl) (fun K hK => ?_)
          go_simp
          first | (refine hK _ ?_; clear hK K) | (apply Exists.intro; refine ⟨fun x => ?_, hK _ ?_⟩; (fail); clear hK K)
          refine Mix.take_exC _ _ 2 rfl (by kernel_rfl) (by kernel_rfl) (by kernel_rfl) (by kernel_rfl) (fun K hK => ?_)
          go_simp
          first | (refine hK _ ?_; clear hK K) | (apply Exists.intro; refine ⟨fun x => ?_, hK _ ?_⟩; (fail); clear hK K)
          refine Mix.all (rs := [1]) (by kernel_rfl) (by simp) (.of_below _ hb30) ?_
          intro i31 hi31 w31 hb31 hC31
          simp only [List.mem_cons, List.not_mem_nil, or_false] at hi31
          subst hi31
          have HB31 := Lib.hid (bt hb30 hb31)
          clear hC31 hb30 hb31
          refine Mix.op rfl (by kernel_rfl) ?_
          go_simp
          refine (pall (HT.out.below HB31.out) HSL.out).mono ?_
          rintro e w32 ⟨va2, la2, rfl, hla2, hpa2, -, -, hb32⟩
          refine ⟨_, rfl, ?_⟩
          have HLA2 := Lib.hid hla2; have HPA2 := Lib.hid hpa2
          have HB32 := Lib.hid (bt HB31.out hb32)
          clear hla2 hpa2 hb32
          refine Mix.all (rs := [3]) (by kernel_rfl) (by simp) (.of_below _ HB32.out) ?_
          intro i33 hi33 w33 hb33 hC33
          simp only [List.mem_cons, List.not_mem_nil, or_false] at hi33
          subst hi33
          have HB33 := Lib.hid (bt HB32.out hb33)
          have HSM := Lib.hid (sameQ_yes va2 (.slice ya yn yc) la2 la (fun x hx => by
            have h1 : x.pl ∈ S := by rw [← HPA2.out]; exact List.mem_map.2 ⟨x, hx, rfl⟩
            have h2 := HT.out.ain.ok _ h1
            exact ⟨Nat.lt_of_le_of_lt (vr_len h2.vt) (by decide), Nat.lt_of_le_of_lt (vr_len h2.vf) (by decide)⟩) (by rw [HPA2.out, HPA.out]) w33 (HLA2.out.below hb33) (HLA.out.below HB33.out))
          clear hC33 hb33
          refine Mix.op rfl (by kernel_rfl) ?_
          go_simp
          refine HSM.out.mono ?_
          rintro e w34 ⟨rfl, hb34⟩
          refine ⟨_, rfl, ?_⟩
          have HB34 := Lib.hid (bt HB33.out hb34)
          clear hb34
          refine Mix.take_exC _ _ 4 rfl (by kernel_rfl) (by kernel_rfl) (by kernel_rfl) (by kernel_rfl) (fun K hK => ?_)
          go_simp
          first | (refine hK _ ?_; clear hK K) | (apply Exists.intro; refine ⟨fun x => ?_, hK _ ?_⟩; (fail); clear hK K)
          refine Mix.take_exC _ _ 5 rfl (by kernel_rfl) (by kernel_rfl) (by kernel_rfl) (by kernel_rfl) (fun K hK => ?_)
          go_simp
          first | (refine hK _ ?_; clear hK K) | (apply Exists.intro; refine ⟨fun x => ?_, hK _ ?_⟩; (fail); clear hK K)
          refine Mix.take_exC _ _ 6 rfl (by kernel_rfl) (by kernel_rfl) (by kernel_rfl) (by kernel_rfl) (fun K hK => ?_)
          go_simp
          first | (refine hK _ ?_; clear hK K) | (apply Exists.intro; refine ⟨fun x => ?_, hK _ ?_⟩; (exact HFR.out x); clear hK K)
          refine Mix.take_exC _ _ 7 rfl (by kernel_rfl) (by kernel_rfl) (by kernel_rfl) (by kernel_rfl) (fun K hK => ?_)
          go_simp
          first | (refine hK _ ?_; clear hK K) | (apply Exists.intro; refine ⟨fun x => ?_, hK _ ?_⟩; (fail); clear hK K)
          refine Mix.take_exC _ _ 8 rfl (by kernel_rfl) (by kernel_rfl) (by kernel_rfl) (by kernel_rfl) (fun K hK => ?_)
          go_simp
          first | (refine hK _ ?_; clear hK K) | (apply Exists.intro; refine ⟨fun x => ?_, hK _ ?_⟩; (fail); clear hK K)
          refine Mix.take_exC _ _ 9 rfl (by kernel_rfl) (by kernel_rfl) (by kernel_rfl) (by kernel_rfl) (fun K hK => ?_)
          go_simp
          first | (refine hK _ ?_; clear hK K) | (apply Exists.intro; refine ⟨fun x => ?_, hK _ ?_⟩; (fail); clear hK K)
          refine Mix.take_exC _ _ 10 rfl (by kernel_rfl) (by kernel_rfl) (by kernel_rfl) (by kernel_rfl) (fun K hK => ?_)
          go_simp
          first | (refine hK _ ?_; clear hK K) | (apply Exists.intro; refine ⟨fun x => ?_, hK _ ?_⟩; (fail); clear hK K)
          refine Mix.take_exC _ _ 11 rfl (by kernel_rfl) (by kernel_rfl) (by kernel_rfl) (by kernel_rfl) (fun K hK => ?_)
          go_simp
          first | (refine hK _ ?_; clear hK K) | (apply Exists.intro; refine ⟨fun x => ?_, hK _ ?_⟩; (exact works22 _); clear hK K)
          refine Mix.take_exC _ _ 12 rfl (by kernel_rfl) (by kernel_rfl) (by kernel_rfl) (by kernel_rfl) (fun K hK => ?_)
          go_simp
          first | (refine hK _ ?_; clear hK K) | (apply Exists.intro; refine ⟨fun x => ?_, hK _ ?_⟩; (fail); clear hK K)
          refine Mix.take_exC _ _ 13 rfl (by kernel_rfl) (by kernel_rfl) (by kernel_rfl) (by kernel_rfl) (fun K hK => ?_)
          go_simp
          first | (refine hK _ ?_; clear hK K) | (apply Exists.intro; refine ⟨fun x => ?_, hK _ ?_⟩; (fail); clear hK K)
          refine Mix.done (by kernel_rfl) (.of_below _ HB34.out) ?_
          intro w36 hb36
          have HB36 := Lib.hid (bt HB34.out hb36)
          clear hb36 z0 z1 z2 z3 z4
          go_wp2
          go_ret
          exact ⟨rfl, HB1.out.trans ((HT.out.bel.trans (HB36.out.mono HT.out.bel.size)).mono HB1.out.size)⟩
  · have hFF : decide (l.length ≤ 80 ∧ (l.map aaW).sum ≤ 600) = false := decide_eq_false hfew
    go_enter Try.func5, Try.ntmps5
    go_wp2_with fail
    refine HF.out.mono ?_
    rintro e w1 ⟨rfl, hb1⟩
    rw [hFF]
    have HB1 := Lib.hid hb1
    clear hfew hb1
    go_wp2
    go_ret
    exact ⟨rfl, HB1.out⟩
end Go.Proofs.Ytennhfkhdfalfaa

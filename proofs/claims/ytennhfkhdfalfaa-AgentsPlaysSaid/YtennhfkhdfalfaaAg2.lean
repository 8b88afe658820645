/- agents: Take, Give. -/
import Derived.Test.YtennhfkhdfalfaaAg1
namespace Go.Proofs.Ytennhfkhdfalfaa
open Go.RowKit Go.Maps
attribute [local go_sem] ext_cell ext_frozen extC_cell extC_frozen Mix.calmUpon Mix.mUpon
/-- A table of the agents S, whatever its entries. -/
def AP (W w : World) (tp M : Nat) (cap most : Int) (S : List Pa) : Prop := ∃ F, AT W w tp M cap most F S
theorem AIn.old {cap most : Int} {S : List Pa} (h : AIn cap most S) {x y : Pa} (hx : fndA S (akey y) = some x) (hok : PaOk y) (hs : ∀ j, j < 4 → kS y.2.1 j = kS x.2.1 j) :
    AIn cap most (putA S y) ∧ ∀ j, j < 4 → sumA totA (putA S y) j = sumA totA S j := by
  have hsum : ∀ j, j < 4 → sumA totA (putA S y) j = sumA totA S j := fun j hj => by
    have h1 := sumA_old totA j h.srt hx
    have h2 := hs j hj
    show sumA totA (putA S y) j = _
    have e1 : totA y = y.2.1 := rfl
    have e2 : totA x = x.2.1 := rfl
    rw [e1, e2] at h1; omega
  refine ⟨⟨h.srt.put ordA y, fun z hz => ?_, ?_, fun j hj => by rw [hsum j hj]; exact h.ms j hj, h.c1, h.m1⟩, hsum⟩
  · rcases Srt.mem_put.1 hz with rfl | ⟨hz, _⟩
    · exact hok
    · exact h.ok z hz
  · rw [show (putA S y).length = S.length from Srt.put_len_old h.srt hx]; exact h.cp
def takeE (S : List Pa) (k : Int) (v : List Pt) : Int := match fndA S k with | none => 43 | some x => if (mrg gSub x.2.2 v).isSome then 0 else 30
def takeP (S : List Pa) (k : Int) (v : List Pt) : List Pa := match fndA S k with | none => S | some x => match mrg gSub x.2.2 v with | none => S | some r => putA S (k, x.2.1, r)
def giveE (S : List Pa) (k : Int) (v : List Pt) : Int := match fndA S k with | none => 43 | some x => match mrg gAdd x.2.2 v with | none => 31 | some r => if (mrg gSub x.2.1 r).isSome then 0 else 31
def giveP (S : List Pa) (k : Int) (v : List Pt) : List Pa := match fndA S k with | none => S | some x => match mrg gAdd x.2.2 v with | none => S | some r => if (mrg gSub x.2.1 r).isSome then putA S (k, x.2.1, r) else S
theorem hld_less {a b c : List Pt} {v : List Pt} (h : HLD a b) (hc : mrg gSub b v = some c) : HLD a c := by
  obtain ⟨hb, hv, hcv, hg⟩ := mrg_some gSub0 gSubB hc
  refine ⟨h.1, hcv, fun k r => ?_⟩
  have h1 := h.2.2 k r
  have h2 := hg k r
  have h3 := (gt_nn hv k r).1
  unfold gSub at h2
  split at h2
  · have := Option.some.inj h2; omega
  · cases h2
section
variable {W w : World} {tp M : Nat} {cap most : Int} {F : Int → Option Ag} {S : List Pa}
set_option maxRecDepth 100000 in
set_option maxHeartbeats 4000000 in
theorem atake (h : AT W w tp M cap most F S) {k : Int} (hk : I64 k) {v : Value} {ps : List Pt} (hv : Vc w v ps) (hl : ps.length < 1000000000) :
    Calls Try.prog 25 #[ptr tp, .int .i64 k, v] w fun e w' => e = .returned (.int .i64 (takeE S k ps)) ∧ AP W w' tp M cap most (takeP S k ps) ∧ Chg (fun b => b = M) w w' := by
  have HV := Lib.hid hv; have HL := Lib.hid hl
  obtain ⟨va, vc, rfl, -, -⟩ := hv.form
  clear hv hl
  cases hf : F k with
  | none =>
    generalize ps.length = n at *
    have HA := afind h hk
    unfold afA at HA
    rw [hf] at HA
    have HA := Lib.hid HA
    have H := Lib.hid h
    have HPL := Lib.hid (show fndA S k = none by rw [h.pl, hf]; rfl)
    clear hf h hk
    go_enter Try.func25, Try.ntmps25
    go_wp2_with fail
    refine HA.out.mono ?_
    rintro e w1 ⟨rfl, hb1⟩
    have HB2 := Lib.hid (bt hb1 (ba (Below.refl w1.heap.size w1) (.cells #[.slice none 0 0, .slice none 0 0] 118)))
    clear hb1
    go_wp2
    go_ret
    refine ⟨by unfold takeE; rw [HPL.out]; rfl, ⟨F, ?_⟩, .of_below _ HB2.out⟩
    unfold takeP; rw [HPL.out]; exact H.out.below HB2.out
  | some x =>
    obtain ⟨n, hn⟩ : ∃ n, n = ps.length := ⟨_, rfl⟩
    rw [← hn] at HV
    rw [← hn]
    clear hn
    -- the agent is there: behind find, at the world w2, its copy in block b2
    have HFK := Lib.hid hf
    obtain ⟨ta, tc, htv, -, -⟩ := (h.vec k x hf).1.vc.form
    obtain ⟨fa, fc, hfv, -, -⟩ := (h.vec k x hf).2.vc.form
    have HXV := Lib.hid (h.vec k x hf); have HXO := Lib.hid (h.off k x hf)
    obtain ⟨hfp, hpok⟩ := h.some_ok hf
    have HFP := Lib.hid hfp; have HPOK := Lib.hid hpok
    have HA := afind h hk
    unfold afA at HA
    rw [hf] at HA
    obtain ⟨tv, tps, fv, fps⟩ := x
    simp only at htv hfv HA HXV HXO HFP HPOK
    subst htv hfv
    obtain ⟨tn, htn⟩ : ∃ tn, tn = tps.length := ⟨_, rfl⟩
    obtain ⟨fn, hfn⟩ : ∃ fn, fn = fps.length := ⟨_, rfl⟩
    rw [← htn, ← hfn] at HA HXV HXO
    have HTN := Lib.hid (And.intro htn hfn)
    have HA := Lib.hid HA
    have H := Lib.hid h; have HK := Lib.hid hk
    clear hf h htn hfn hfp hpok hk
    go_enter Try.func25, Try.ntmps25
    go_wp2_with fail
    refine HA.out.mono ?_
    rintro e w1 ⟨rfl, hb1⟩
    have hbA := ba (Below.refl w1.heap.size w1) (.cells #[.slice ta tn tc, .slice fa fn fc] 118)
    have HB2 := Lib.hid (bt hb1 hbA)
    have HG2 := Lib.hid (show GB (w1.alloc (.cells #[.slice ta tn tc, .slice fa fn fc] 118)) w1.heap.size (.slice ta tn tc) (.slice fa fn fc) from GB.made w1 _ _)
    have HSZ := Lib.hid hb1.size
    clear hb1 hbA
    go_wp2_with fail
    generalize w1.alloc (.cells #[.slice ta tn tc, .slice fa fn fc] 118) = w2 at *
    obtain ⟨b2, hb2q⟩ : ∃ b2, b2 = w1.heap.size := ⟨_, rfl⟩
    rw [← hb2q] at HG2 HSZ ⊢
    clear hb2q
    have hS := vsub_w (.slice fa fn fc) (.slice va n vc) fps ps (Nat.lt_of_le_of_lt (vr_len HPOK.out.vf) (by decide)) HL.out w2 ((HXV.out.2.vc).on HB2.out) (HV.out.on HB2.out)
    have HS := Lib.hid hS
    clear hS
    refine HS.out.mono ?_
    rintro e w3 ⟨u, rfl, hu, hb3⟩
    have HB3 := Lib.hid (bt HB2.out hb3)
    have HG3 := Lib.hid (HG2.out.below hb3)
    have HU := Lib.hid hu; have HB23 := Lib.hid hb3
    clear hu hb3
    cases ho : mrg gSub fps ps with
    | none =>
      have HO := Lib.hid ho
      clear ho
      go_wp2
      go_ret
      refine ⟨by unfold takeE; rw [HFP.out]; simp only; rw [HO.out]; rfl, ⟨F, ?_⟩, .of_below _ HB3.out⟩
      unfold takeP; rw [HFP.out]; simp only; rw [HO.out]; exact H.out.below HB3.out
    | some r =>
      have HO := Lib.hid ho
      have hu := HU.out
      rw [ho] at hu
      replace hu : OwnP w3 w2.heap.size u r := hu
      obtain ⟨ua, uc, huv, -, -⟩ := hu.vc.form
      subst huv
      have HU3 := Lib.hid hu
      obtain ⟨un, hun⟩ : ∃ un, un = r.length := ⟨_, rfl⟩
      rw [← hun] at HU3 ⊢
      clear ho hu hun HU
      have HOK := Lib.hid (show PaOk (k, tps, r) from ⟨HPOK.out.id, HPOK.out.i64, HPOK.out.vt, (mrg_some gSub0 gSubB HO.out).2.2.1, hld_less HPOK.out.ho HO.out⟩)
      -- the agent's free vector turned to u (HU3, at the world w3): HOK: it may be so
      have h3 := H.out.below HB3.out
      have hd := h3.below (bd (Below.refl _ _))
      obtain ⟨w4, hst, hm4, hc4⟩ := hd.store HK.out ⟨.slice ta tn tc, tps, .slice ua un uc, r⟩
      have hain := H.out.ain.old (y := (k, tps, r)) (x := (k, tps, fps)) HFP.out HOK.out (fun j _ => rfl)
      have hlt := H.out.lt
      have hub : ∀ b, Value.ownBlock (.slice ua un uc) = some b → b ≠ tp ∧ b ≠ M := fun b hb => by
        have h1 := (HU3.out.lt b hb).1
        have h2 := HG2.out.lt
        have h3 := HSZ.out
        omega
      have hu3 := HU3.out
      have h4 := hd.put (k := k) (x := ⟨.slice ta tn tc, tps, .slice ua un uc, r⟩) rfl hain.2 hain.1 hc4 hm4 ⟨rowP_grow (rowP_grow HXV.out.1 HB3.out) (bd (Below.refl _ _)), rowP_grow (ownsRow_base hu3 (Nat.le_trans H.out.bel.size HB2.out.size)) (bd (Below.refl _ _))⟩ ⟨HXO.out.1, hub⟩
      have H4 := Lib.hid h4
      have HC4 := Lib.hid (((Chg.of_below (fun b => b = M) HB3.out).drew).same hc4)
      obtain ⟨-, -, c2, -⟩ := h3.cells
      have hl3 := h3.lt.1
      obtain ⟨g0, g1⟩ := HG3.out.cells
      have gl := HG3.out.lt
      clear h3 hd hm4 hc4 hain hlt hub hu3 h4
      go_wp2
      go_region
      go_wp2
      go_ret
      refine ⟨by unfold takeE; rw [HFP.out]; simp only; rw [HO.out]; rfl, ?_, HC4.out⟩
      unfold takeP; rw [HFP.out]; simp only; rw [HO.out]; exact ⟨_, H4.out⟩
set_option maxRecDepth 100000 in
set_option maxHeartbeats 4000000 in
theorem agive (h : AT W w tp M cap most F S) {k : Int} (hk : I64 k) {v : Value} {ps : List Pt} (hv : Vc w v ps) (hl : ps.length < 1000000000) :
    Calls Try.prog 29 #[ptr tp, .int .i64 k, v] w fun e w' => e = .returned (.int .i64 (giveE S k ps)) ∧ AP W w' tp M cap most (giveP S k ps) ∧ Chg (fun b => b = M) w w' := by
  have HV := Lib.hid hv; have HL := Lib.hid hl
  obtain ⟨va, vc, rfl, -, -⟩ := hv.form
  clear hv hl
  cases hf : F k with
  | none =>
    generalize ps.length = n at *
    have HA := afind h hk
    unfold afA at HA
    rw [hf] at HA
    have HA := Lib.hid HA
    have H := Lib.hid h
    have HPL := Lib.hid (show fndA S k = none by rw [h.pl, hf]; rfl)
    clear hf h hk
    go_enter Try.func29, Try.ntmps29
    go_wp2_with fail
    refine HA.out.mono ?_
    rintro e w1 ⟨rfl, hb1⟩
    have HB2 := Lib.hid (bt hb1 (ba (Below.refl w1.heap.size w1) (.cells #[.slice none 0 0, .slice none 0 0] 118)))
    clear hb1
    go_wp2
    go_ret
    refine ⟨by unfold giveE; rw [HPL.out]; rfl, ⟨F, ?_⟩, .of_below _ HB2.out⟩
    unfold giveP; rw [HPL.out]; exact H.out.below HB2.out
  | some x =>
    obtain ⟨n, hn⟩ : ∃ n, n = ps.length := ⟨_, rfl⟩
    rw [← hn] at HV
    rw [← hn]
    clear hn
    -- the agent is there: behind find, at the world w2, its copy in block b2
    have HFK := Lib.hid hf
    obtain ⟨ta, tc, htv, -, -⟩ := (h.vec k x hf).1.vc.form
    obtain ⟨fa, fc, hfv, -, -⟩ := (h.vec k x hf).2.vc.form
    have HXV := Lib.hid (h.vec k x hf); have HXO := Lib.hid (h.off k x hf)
    obtain ⟨hfp, hpok⟩ := h.some_ok hf
    have HFP := Lib.hid hfp; have HPOK := Lib.hid hpok
    have HA := afind h hk
    unfold afA at HA
    rw [hf] at HA
    obtain ⟨tv, tps, fv, fps⟩ := x
    simp only at htv hfv HA HXV HXO HFP HPOK
    subst htv hfv
    obtain ⟨tn, htn⟩ : ∃ tn, tn = tps.length := ⟨_, rfl⟩
    obtain ⟨fn, hfn⟩ : ∃ fn, fn = fps.length := ⟨_, rfl⟩
    rw [← htn, ← hfn] at HA HXV HXO
    have HTN := Lib.hid (And.intro htn hfn)
    have HA := Lib.hid HA
    have H := Lib.hid h; have HK := Lib.hid hk
    clear hf h htn hfn hfp hpok hk
    go_enter Try.func29, Try.ntmps29
    go_wp2_with fail
    refine HA.out.mono ?_
    rintro e w1 ⟨rfl, hb1⟩
    have hbA := ba (Below.refl w1.heap.size w1) (.cells #[.slice ta tn tc, .slice fa fn fc] 118)
    have HB2 := Lib.hid (bt hb1 hbA)
    have HG2 := Lib.hid (show GB (w1.alloc (.cells #[.slice ta tn tc, .slice fa fn fc] 118)) w1.heap.size (.slice ta tn tc) (.slice fa fn fc) from GB.made w1 _ _)
    have HSZ := Lib.hid hb1.size
    clear hb1 hbA
    go_wp2_with fail
    generalize w1.alloc (.cells #[.slice ta tn tc, .slice fa fn fc] 118) = w2 at *
    obtain ⟨b2, hb2q⟩ : ∃ b2, b2 = w1.heap.size := ⟨_, rfl⟩
    rw [← hb2q] at HG2 HSZ ⊢
    clear hb2q
    have hS := vadd_w (.slice fa fn fc) (.slice va n vc) fps ps (Nat.lt_of_le_of_lt (vr_len HPOK.out.vf) (by decide)) HL.out w2 ((HXV.out.2.vc).on HB2.out) (HV.out.on HB2.out)
    have HS := Lib.hid hS
    clear hS
    refine HS.out.mono ?_
    rintro e w3 ⟨u, rfl, hu, hb3⟩
    have HB3 := Lib.hid (bt HB2.out hb3)
    have HG3 := Lib.hid (HG2.out.below hb3)
    have HU := Lib.hid hu
    clear hu hb3
    cases ho : mrg gAdd fps ps with
    | none =>
      have HO := Lib.hid ho
      clear ho
      go_wp2
      go_ret
      refine ⟨by unfold giveE; rw [HFP.out]; simp only; rw [HO.out]; rfl, ⟨F, ?_⟩, .of_below _ HB3.out⟩
      unfold giveP; rw [HFP.out]; simp only; rw [HO.out]; exact H.out.below HB3.out
    | some r =>
      have HO := Lib.hid ho
      have hu := HU.out
      rw [ho] at hu
      replace hu : OwnP w3 w2.heap.size u r := hu
      obtain ⟨ua, uc, huv, -, -⟩ := hu.vc.form
      subst huv
      have HU3 := Lib.hid hu
      have HRV := Lib.hid (mrg_some gAdd0 gAddB ho).2.2.1
      have hH := vholds_at (.slice ta tn tc) (.slice ua r.length uc) tps r (Nat.lt_of_le_of_lt (vr_len HPOK.out.vt) (by decide)) (Nat.lt_of_le_of_lt (vr_len HRV.out) (by decide)) w3 ((HXV.out.1.vc).on HB3.out) hu.vc
      obtain ⟨q, hq⟩ : ∃ q, q = (mrg gSub tps r).isSome := ⟨_, rfl⟩
      rw [← hq] at hH
      have HQ := Lib.hid hq
      obtain ⟨un, hun⟩ : ∃ un, un = r.length := ⟨_, rfl⟩
      rw [← hun] at HU3 hH ⊢
      have HH := Lib.hid hH
      clear ho hu hun HU hH hq
      obtain ⟨g0, g1⟩ := HG3.out.cells
      have gl := HG3.out.lt
      go_wp2_with fail
      refine HH.out.mono ?_
      rintro e w5 ⟨rfl, hb5⟩
      have HB3 := Lib.hid (bt HB3.out hb5)
      have HG3 := Lib.hid (HG3.out.below hb5)
      have HU3 := Lib.hid (rowP_grow HU3.out hb5)
      clear hb5 g0 g1 gl
      cases q with
      | false =>
        go_wp2
        go_ret
        refine ⟨by unfold giveE; rw [HFP.out]; simp only; rw [HO.out]; simp only; rw [← HQ.out]; rfl, ⟨F, ?_⟩, .of_below _ HB3.out⟩
        unfold giveP; rw [HFP.out]; simp only; rw [HO.out]; simp only; rw [← HQ.out]; exact H.out.below HB3.out
      | true =>
        have HOK := Lib.hid (show PaOk (k, tps, r) from ⟨HPOK.out.id, HPOK.out.i64, HPOK.out.vt, HRV.out, (sub_iff _ _).1 HQ.out.symm⟩)
        -- the agent's free vector turned to u (HU3, at the world w3): HOK: it may be so
        have h3 := H.out.below HB3.out
        have hd := h3.below (bd (Below.refl _ _))
        obtain ⟨w4, hst, hm4, hc4⟩ := hd.store HK.out ⟨.slice ta tn tc, tps, .slice ua un uc, r⟩
        have hain := H.out.ain.old (y := (k, tps, r)) (x := (k, tps, fps)) HFP.out HOK.out (fun j _ => rfl)
        have hlt := H.out.lt
        have hub : ∀ b, Value.ownBlock (.slice ua un uc) = some b → b ≠ tp ∧ b ≠ M := fun b hb => by
          have h1 := (HU3.out.lt b hb).1
          have h2 := HG2.out.lt
          have h3 := HSZ.out
          omega
        have hu3 := HU3.out
        have h4 := hd.put (k := k) (x := ⟨.slice ta tn tc, tps, .slice ua un uc, r⟩) rfl hain.2 hain.1 hc4 hm4 ⟨rowP_grow (rowP_grow HXV.out.1 HB3.out) (bd (Below.refl _ _)), rowP_grow (ownsRow_base hu3 (Nat.le_trans H.out.bel.size HB2.out.size)) (bd (Below.refl _ _))⟩ ⟨HXO.out.1, hub⟩
        have H4 := Lib.hid h4
        have HC4 := Lib.hid (((Chg.of_below (fun b => b = M) HB3.out).drew).same hc4)
        obtain ⟨-, -, c2, -⟩ := h3.cells
        have hl3 := h3.lt.1
        obtain ⟨g0, g1⟩ := HG3.out.cells
        have gl := HG3.out.lt
        clear h3 hd hm4 hc4 hain hlt hub hu3 h4
        go_wp2
        go_region
        go_wp2
        go_ret
        refine ⟨by unfold giveE; rw [HFP.out]; simp only; rw [HO.out]; simp only; rw [← HQ.out]; rfl, ?_, HC4.out⟩
        unfold giveP; rw [HFP.out]; simp only; rw [HO.out]; simp only; rw [← HQ.out]; exact ⟨_, H4.out⟩
end
end Go.Proofs.Ytennhfkhdfalfaa

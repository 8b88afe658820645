/- agents: Register. -/
import Derived.Test.YtennhfkhdfalfaaAg4
namespace Go.Proofs.Ytennhfkhdfalfaa
open Go.RowKit Go.Maps
attribute [local go_sem] ext_cell ext_frozen extC_cell extC_frozen Mix.calmUpon Mix.mUpon
def bigS (most : Int) (S : List Pa) (v : List Pt) : Bool := !decide (sumA totA S 0 + kS v 0 ≤ most ∧ sumA totA S 1 + kS v 1 ≤ most ∧ sumA totA S 2 + kS v 2 ≤ most ∧ sumA totA S 3 + kS v 3 ≤ most)
def regOk (id : Int) (v : List Pt) : Prop := 1 ≤ id ∧ v ≠ [] ∧ VR v
instance (id : Int) (v : List Pt) : Decidable (regOk id v) := by unfold regOk; infer_instance
def regE (cap most : Int) (S : List Pa) (id : Int) (v : List Pt) : Int :=
  if regOk id v then (match fndA S id with | some x => if x.2.1 = v then 0 else 20 | none => if bigS most S v then 31 else if cap ≤ (S.length : Nat) then 32 else 0) else 41
def regB (cap most : Int) (S : List Pa) (id : Int) (v : List Pt) : Bool :=
  if regOk id v then (match fndA S id with | some _ => false | none => if bigS most S v then false else if cap ≤ (S.length : Nat) then false else true) else false
def regP (cap most : Int) (S : List Pa) (id : Int) (v : List Pt) : List Pa :=
  if regOk id v then (match fndA S id with | some _ => S | none => if bigS most S v then S else if cap ≤ (S.length : Nat) then S else putA S (id, v, v)) else S
/-- Block b holds sums. -/
def SB (w : World) (b : Nat) (A : Nat → Int) : Prop := w.heap[b]? = some (.cells #[.int .i64 (A 0), .int .i64 (A 1), .int .i64 (A 2), .int .i64 (A 3)] 45 (0, 0))
section
variable {w w' : World} {b : Nat} {A : Nat → Int}
theorem SB.made (w : World) (A : Nat → Int) : SB (w.alloc (.cells #[.int .i64 (A 0), .int .i64 (A 1), .int .i64 (A 2), .int .i64 (A 3)] 45)) w.heap.size A := heap_alloc_new w _
theorem SB.lt (h : SB w b A) : b < w.heap.size := (Array.getElem?_eq_some_iff.1 h).1
theorem SB.below (h : SB w b A) (hb : Below w.heap.size w w') : SB w' b A := (hb.block b h.lt).trans h
theorem SB.chg {F : Nat → Prop} (h : SB w b A) (hc : Chg F w w') (hf : ¬ F b) : SB w' b A := (hc.block b h.lt hf).trans h
theorem SB.cells (h : SB w b A) : w.cell? ⟨b, 0, none⟩ = some (.int .i64 (A 0)) ∧ w.cell? ⟨b, 1, none⟩ = some (.int .i64 (A 1)) ∧ w.cell? ⟨b, 2, none⟩ = some (.int .i64 (A 2)) ∧ w.cell? ⟨b, 3, none⟩ = some (.int .i64 (A 3)) := by unfold SB at h; simp [World.cell?, h]
theorem SB.fz (h : SB w b A) (o : Nat) : w.frozen? ⟨b, o, none⟩ = false := by unfold SB at h; simp [World.frozen?, h]
theorem SB.set4 (h : SB w b A) (B : Nat → Int) : SB ((((w.setCell ⟨b, 0, none⟩ (.int .i64 (B 0))).setCell ⟨b, 1, none⟩ (.int .i64 (B 1))).setCell ⟨b, 2, none⟩ (.int .i64 (B 2))).setCell ⟨b, 3, none⟩ (.int .i64 (B 3))) b B := heap_setCell_at _ (heap_setCell_at _ (heap_setCell_at _ (heap_setCell_at _ h)))
end
theorem AIn.new {cap most : Int} {S : List Pa} (h : AIn cap most S) {y : Pa} (hx : fndA S (akey y) = none) (hok : PaOk y) (hb : bigS most S y.2.1 = false) (hl : ¬ cap ≤ (S.length : Nat)) :
    AIn cap most (putA S y) ∧ ∀ j, sumA totA (putA S y) j = sumA totA S j + kS y.2.1 j := by
  have hsum : ∀ j, sumA totA (putA S y) j = sumA totA S j + kS y.2.1 j := fun j => by
    have h1 := sumA_new totA j hx
    have e : totA y = y.2.1 := rfl
    rw [e] at h1; omega
  refine ⟨⟨h.srt.put ordA y, fun z hz => ?_, ?_, fun j hj => ?_, h.c1, h.m1⟩, hsum⟩
  · rcases Srt.mem_put.1 hz with rfl | ⟨hz, _⟩
    · exact hok
    · exact h.ok z hz
  · have : (putA S y).length = S.length + 1 := Srt.put_len_new hx
    omega
  · rw [hsum j]
    unfold bigS at hb
    obtain ⟨h0, h1, h2, h3⟩ := of_decide_eq_true ((Bool.not_eq_false' _).mp hb)
    have : j = 0 ∨ j = 1 ∨ j = 2 ∨ j = 3 := by omega
    rcases this with rfl | rfl | rfl | rfl <;> assumption
-- a variable of sums made and stored in a drawn region
section
variable {W w : World} {tp M : Nat} {cap most : Int} {F : Int → Option Ag} {S : List Pa}
set_option maxRecDepth 100000 in
set_option maxHeartbeats 8000000 in
theorem aregister (h : AT W w tp M cap most F S) {k : Int} (hk : I64 k) {v : Value} {ps : List Pt} (hv : Vc w v ps) (hvo : ps = [] ∨ ∀ b, v.ownBlock = some b → b ≠ tp ∧ b ≠ M) :
    Calls Try.prog 24 #[ptr tp, .int .i64 k, v] w fun e w' => e = .returned (.tuple #[.bool (regB cap most S k ps), .int .i64 (regE cap most S k ps)]) ∧ AP W w' tp M cap most (regP cap most S k ps) ∧ Chg (TM tp M) w w' := by
  have HV := Lib.hid hv
  obtain ⟨va, vc, rfl, -, -⟩ := hv.form
  obtain ⟨n, hn⟩ : ∃ n, n = ps.length := ⟨_, rfl⟩
  rw [← hn] at HV ⊢
  have HN := Lib.hid hn
  have H := Lib.hid h; have HK := Lib.hid hk
  rw [← hn] at hvo
  have HVO := Lib.hid hvo
  clear hv hn h hk hvo
  have hno : ¬ regOk k ps → regB cap most S k ps = false ∧ regE cap most S k ps = 41 ∧ regP cap most S k ps = S := fun h => by
    unfold regB regE regP; rw [if_neg h, if_neg h, if_neg h]; exact ⟨rfl, rfl, rfl⟩
  by_cases k1 : k < 1
  · have HNO := Lib.hid (hno fun h => by have := h.1; omega)
    clear hno
    go_enter Try.func24, Try.ntmps24
    go_wp2_with fail
    refine (amade H.out).mono ?_
    rintro e w1 ⟨rfl, hw1⟩
    rw [hw1]
    clear hw1 w1
    go_wp2
    go_ret2
    rw [HNO.out.1, HNO.out.2.1, HNO.out.2.2]
    exact ⟨rfl, ⟨F, H.out⟩, .refl _ _⟩
  by_cases n0 : n = 0
  · have HNO := Lib.hid (hno fun h => h.2.1 (List.eq_nil_of_length_eq_zero (by rw [← HN.out]; exact n0)))
    have nb : ((n : Int) == 0) = true := by simp [n0]
    clear hno
    go_enter Try.func24, Try.ntmps24
    go_wp2_with fail
    refine (amade H.out).mono ?_
    rintro e w1 ⟨rfl, hw1⟩
    rw [hw1]
    clear hw1 w1
    go_wp2
    go_ret2
    rw [HNO.out.1, HNO.out.2.1, HNO.out.2.2]
    exact ⟨rfl, ⟨F, H.out⟩, .refl _ _⟩
  have nb : ((n : Int) == 0) = false := by simp [n0]
  by_cases hvr : VR ps
  · have HVR := Lib.hid hvr
    have hok : regOk k ps := ⟨by omega, fun e => n0 (by rw [HN.out, e]; rfl), hvr⟩
    have HOK := Lib.hid hok
    have hR := vecright_all (.slice va n vc) ps w HV.out
    rw [decide_eq_true hvr] at hR
    have HR := Lib.hid hR
    have HK1 := Lib.hid (show 1 ≤ k by omega)
    clear hvr hok hR hno
    go_enter Try.func24, Try.ntmps24
    go_wp2_with fail
    refine (amade H.out).mono ?_
    rintro e w1 ⟨rfl, hw1⟩
    rw [hw1]
    clear hw1 w1
    go_wp2_with fail
    refine HR.out.mono ?_
    rintro e w1 ⟨rfl, hb1⟩
    have HB1 := Lib.hid hb1
    have h1 := H.out.below hb1
    have hlook := h1.look HK.out true
    obtain ⟨c0, c1, c2, s0, s1, s2, s3⟩ := h1.cells
    have hl1 := h1.lt.1
    clear hb1 h1 nb k1 n0
    cases hf : F k with
    | some x =>
      obtain ⟨ta, tc, htv, -, -⟩ := (H.out.vec k x hf).1.vc.form
      obtain ⟨fa, fc, hfv, -, -⟩ := (H.out.vec k x hf).2.vc.form
      have HXV := Lib.hid (H.out.vec k x hf)
      obtain ⟨hfp, hpok⟩ := H.out.some_ok hf
      have HFP := Lib.hid hfp; have HPOK := Lib.hid hpok
      obtain ⟨tv, tps, fv, fps⟩ := x
      simp only at htv hfv HXV HFP HPOK
      subst htv hfv
      obtain ⟨tn, htn⟩ : ∃ tn, tn = tps.length := ⟨_, rfl⟩
      obtain ⟨fn, hfn⟩ : ∃ fn, fn = fps.length := ⟨_, rfl⟩
      rw [hf] at hlook
      rw [← htn, ← hfn] at HXV
      replace hlook := hlook.trans (show _ = .ok (.tuple #[.agg #[.slice ta tn tc, .slice fa fn fc], .bool true]) w1 from by rw [htn, hfn]; rfl)
      obtain ⟨q, hq⟩ : ∃ q, q = decide (tps = ps) := ⟨_, rfl⟩
      have HS := Lib.hid (fun (X : World) (hX : Below w1.heap.size w1 X) => same_any (.slice ta tn tc) (.slice va n vc) tps ps (Nat.lt_of_le_of_lt (vr_len HPOK.out.vt) (by decide)) X ⟨((HXV.out.1.vc).on HB1.out).on hX, (HV.out.on HB1.out).on hX⟩)
      rw [← hq] at HS
      have HQ := Lib.hid hq
      have HBA := Lib.hid (ba (Below.refl w1.heap.size w1) (.cells #[.slice ta tn tc, .slice fa fn fc] 118))
      have HG := Lib.hid (GB.made w1 (.slice ta tn tc) (.slice fa fn fc))
      clear hq htn hfn hfp hpok hf HR
      go_wp2_with fail
      refine (HS.out _ HBA.out).mono ?_
      rintro e w2 ⟨rfl, hb2⟩
      have HB2 := Lib.hid (bt (bt HB1.out HBA.out) hb2)
      clear hb2
      cases q with
      | false =>
        go_wp2
        go_ret2
        refine ⟨by unfold regB regE; rw [if_pos HOK.out, if_pos HOK.out, HFP.out]; simp only; rw [if_neg (of_decide_eq_false HQ.out.symm)]; rfl, ⟨F, ?_⟩, .of_below _ HB2.out⟩
        unfold regP; rw [if_pos HOK.out, HFP.out]; exact H.out.below HB2.out
      | true =>
        go_wp2
        go_ret2
        refine ⟨by unfold regB regE; rw [if_pos HOK.out, if_pos HOK.out, HFP.out]; simp only; rw [if_pos (of_decide_eq_true HQ.out.symm)]; rfl, ⟨F, ?_⟩, .of_below _ HB2.out⟩
        unfold regP; rw [if_pos HOK.out, HFP.out]; exact H.out.below HB2.out
    | none =>
      rw [hf] at hlook
      replace hlook := hlook.trans (show _ = .ok (.tuple #[agzero, .bool false]) w1 from rfl)
      have HFN := Lib.hid (show fndA S k = none by rw [H.out.pl, hf]; rfl)
      have HF := Lib.hid hf
      have HBA := Lib.hid (ba (Below.refl w1.heap.size w1) (.cells #[.slice none 0 0, .slice none 0 0] 118))
      have hadd := add_both (sumA totA S) (kS ps) true H.out.ain.sok (kS_ok HVR.out) (decide_eq_true (sok_all fun j hj => by
        have h1 := sumA_nn (f := totA) j (S := S) fun x hx => (H.out.ain.ok x hx).vt
        have h2 := kS_bd HVR.out j
        have h3 := H.out.ain.ms j hj
        have h4 := H.out.ain.m1.2
        show 0 ≤ sumA totA S j + kS ps j ∧ sumA totA S j + kS ps j ≤ 1152921504606846976
        omega))
      simp only [if_true] at hadd
      have HADD := Lib.hid hadd
      clear hf hadd HR
      go_wp2
      have HB2 := Lib.hid (bt HB1.out HBA.out)
      generalize w1.alloc (.cells #[.slice none 0 0, .slice none 0 0] 118) = w2 at *
      clear c0 c1 c2 s0 s1 s2 s3 hl1 hlook HBA
      have h2 := H.out.below HB2.out
      obtain ⟨c0, c1, c2, s0, s1, s2, s3⟩ := h2.cells
      have hl2 := h2.lt.1
      clear h2
      refine Mix.regionC (fun _ => False) (by kernel_rfl) ?_
      intro wR hbR
      refine Mix.take_exC _ _ 0 rfl (by kernel_rfl) (by kernel_rfl) (by kernel_rfl) (by kernel_rfl) (fun K hK => ?_)
      go_simp
      first | (refine hK _ ?_; clear hK K) | (apply Exists.intro; refine ⟨fun x => ?_, hK _ ?_⟩; (fail); clear hK K)
      refine Mix.take_exC _ _ 1 rfl (by kernel_rfl) (by kernel_rfl) (by kernel_rfl) (by kernel_rfl) (fun K hK => ?_)
      go_simp
      first | (refine hK _ ?_; clear hK K) | (apply Exists.intro; refine ⟨fun x => ?_, hK _ ?_⟩; (fail); clear hK K)
      refine Mix.take_exC _ _ 2 rfl (by kernel_rfl) (by kernel_rfl) (by kernel_rfl) (by kernel_rfl) (fun K hK => ?_)
      go_simp
      first | (refine hK _ ?_; clear hK K) | (apply Exists.intro; refine ⟨fun x => ?_, hK _ ?_⟩; (fail); clear hK K)
      refine Mix.take_exC _ _ 3 rfl (by kernel_rfl) (by kernel_rfl) (by kernel_rfl) (by kernel_rfl) (fun K hK => ?_)
      go_simp
      first | (refine hK _ ?_; clear hK K) | (apply Exists.intro; refine ⟨fun x => ?_, hK _ ?_⟩; (fail); clear hK K)
      refine Mix.take_exC _ _ 4 rfl (by kernel_rfl) (by kernel_rfl) (by kernel_rfl) (by kernel_rfl) (fun K hK => ?_)
      go_simp
      first | (refine hK _ ?_; clear hK K) | (apply Exists.intro; refine ⟨fun x => ?_, hK _ ?_⟩; (fail); clear hK K)
      refine Mix.take_exC _ _ 5 rfl (by kernel_rfl) (by kernel_rfl) (by kernel_rfl) (by kernel_rfl) (fun K hK => ?_)
      go_simp
      first | (refine hK _ ?_; clear hK K) | (apply Exists.intro; refine ⟨fun x => ?_, hK _ ?_⟩; ((exact (sumsW (.slice va n vc) ps HVR.out _ (((HV.out.on HB2.out).chg (extC_chg w2 _ x) fun _ _ e => e))))); clear hK K)
      refine Mix.take_exC _ _ 6 rfl (by kernel_rfl) (by kernel_rfl) (by kernel_rfl) (by kernel_rfl) (fun K hK => ?_)
      go_simp
      first | (refine hK _ ?_; clear hK K) | (apply Exists.intro; refine ⟨fun x => ?_, hK _ ?_⟩; ((exact HADD.out _)); clear hK K)
      refine Mix.take_exC _ _ 7 rfl (by kernel_rfl) (by kernel_rfl) (by kernel_rfl) (by kernel_rfl) (fun K hK => ?_)
      go_simp
      first | (refine hK _ ?_; clear hK K) | (apply Exists.intro; refine ⟨fun x => ?_, hK _ ?_⟩; (fail); clear hK K)
      refine Mix.take_exC _ _ 8 rfl (by kernel_rfl) (by kernel_rfl) (by kernel_rfl) (by kernel_rfl) (fun K hK => ?_)
      go_simp
      first | (refine hK _ ?_; clear hK K) | (apply Exists.intro; refine ⟨fun x => ?_, hK _ ?_⟩; (fail); clear hK K)
      refine Mix.take_exC _ _ 9 rfl (by kernel_rfl) (by kernel_rfl) (by kernel_rfl) (by kernel_rfl) (fun K hK => ?_)
      go_simp
      first | (refine hK _ ?_; clear hK K) | (apply Exists.intro; refine ⟨fun x => ?_, hK _ ?_⟩; (fail); clear hK K)
      refine Mix.all (rs := [10]) (by kernel_rfl) (by simp) (.of_below _ hbR) ?_
      intro i24 hi24 w24 hb24 hC24
      simp only [List.mem_cons, List.not_mem_nil, or_false] at hi24
      subst hi24
      have HB24 := Lib.hid (bt hbR hb24)
      clear hC24 hb24 hbR
      refine Mix.op rfl (by kernel_rfl) ?_
      go_simp
      have hz24 := SB.made w24 (fun _ => 0)
      have hb45 := ba HB24.out (.cells #[.int .i64 0, .int .i64 0, .int .i64 0, .int .i64 0] 45)
      generalize w24.alloc (.cells #[.int .i64 0, .int .i64 0, .int .i64 0, .int .i64 0] 45) = w25 at *
      obtain ⟨b10, hb24q⟩ : ∃ b, b = w24.heap.size := ⟨_, rfl⟩
      rw [← hb24q] at hz24 ⊢
      have HG24 := Lib.hid (show w2.heap.size ≤ b10 by rw [hb24q]; exact HB24.out.size)
      have HZ25 := Lib.hid hz24; have HB25 := Lib.hid hb45
      clear hz24 hb45 hb24q
      refine Mix.all (rs := [11]) (by kernel_rfl) (by simp) (.of_below _ HB25.out) ?_
      intro i26 hi26 w26 hb26 hC26
      simp only [List.mem_cons, List.not_mem_nil, or_false] at hi26
      subst hi26
      have HB26 := Lib.hid (bt HB25.out hb26)
      have hz26 := HZ25.out.below hb26
      clear hC26 hb26
      obtain ⟨m0, m1, m2, m3⟩ := hz26.cells
      have o0 := hz26.fz 0; have o1 := hz26.fz 1; have o2 := hz26.fz 2; have o3 := hz26.fz 3
      have m4 := hz26.lt
      have HST := Lib.hid (show Chg (fun k => k = b10) w26 ((((w26.setCell ⟨b10, 0, none⟩ (.int .i64 ((fun j => sumA totA S j + kS ps j) 0))).setCell ⟨b10, 1, none⟩ (.int .i64 ((fun j => sumA totA S j + kS ps j) 1))).setCell ⟨b10, 2, none⟩ (.int .i64 ((fun j => sumA totA S j + kS ps j) 2))).setCell ⟨b10, 3, none⟩ (.int .i64 ((fun j => sumA totA S j + kS ps j) 3))) from ((((Chg.refl (fun k => k = b10) w26).setCell (p := ⟨b10, 0, none⟩) (.inl rfl) _).setCell (p := ⟨b10, 1, none⟩) (.inl rfl) _).setCell (p := ⟨b10, 2, none⟩) (.inl rfl) _).setCell (p := ⟨b10, 3, none⟩) (.inl rfl) _)
      have HFX := Lib.hid (hz26.set4 (fun j => sumA totA S j + kS ps j))
      clear hz26
      refine Mix.op rfl (by kernel_rfl) ?_
      go_simp
      clear m0 m1 m2 m3 m4 o0 o1 o2 o3
      generalize (((w26.setCell ⟨b10, 0, none⟩ (.int .i64 ((fun j => sumA totA S j + kS ps j) 0))).setCell ⟨b10, 1, none⟩ (.int .i64 ((fun j => sumA totA S j + kS ps j) 1))).setCell ⟨b10, 2, none⟩ (.int .i64 ((fun j => sumA totA S j + kS ps j) 2))).setCell ⟨b10, 3, none⟩ (.int .i64 ((fun j => sumA totA S j + kS ps j) 3)) = w27 at *
      have HB27 := Lib.hid (show Below w2.heap.size w2 w27 from HB26.out.trans (HST.out.below HB26.out.size fun k e => by have e : k = b10 := e; have := HG24.out; omega))
      refine Mix.take_exC _ _ 12 rfl (by kernel_rfl) (by kernel_rfl) (by kernel_rfl) (by kernel_rfl) (fun K hK => ?_)
      go_simp
      first | (refine hK _ ?_; clear hK K) | (apply Exists.intro; refine ⟨fun x => ?_, hK _ ?_⟩; (fail); clear hK K)
      refine Mix.done (by kernel_rfl) (.of_below _ HB27.out) ?_
      intro w10e hb28
      have HB10e := Lib.hid (bt HB27.out hb28)
      have HS10e := Lib.hid (HFX.out.below hb28)
      clear hb28 HST HB26 HB25 HB24 HZ25 HFX HB27
      have HBe := Lib.hid (bt HB2.out HB10e.out)
      clear c0 c1 c2 s0 s1 s2 s3 hl2
      have h2 := H.out.below HBe.out
      obtain ⟨c0, c1, c2, s0, s1, s2, s3⟩ := h2.cells
      have hl2 := h2.lt.1
      clear h2
      go_wp2
      refine Mix.regionC (fun _ => False) (by kernel_rfl) ?_
      intro wR hbR
      refine Mix.take_exC _ _ 0 rfl (by kernel_rfl) (by kernel_rfl) (by kernel_rfl) (by kernel_rfl) (fun K hK => ?_)
      go_simp
      first | (refine hK _ ?_; clear hK K) | (apply Exists.intro; refine ⟨fun x => ?_, hK _ ?_⟩; (fail); clear hK K)
      refine Mix.take_exC _ _ 1 rfl (by kernel_rfl) (by kernel_rfl) (by kernel_rfl) (by kernel_rfl) (fun K hK => ?_)
      go_simp
      first | (refine hK _ ?_; clear hK K) | (apply Exists.intro; refine ⟨fun x => ?_, hK _ ?_⟩; (fail); clear hK K)
      refine Mix.take_exC _ _ 2 rfl (by kernel_rfl) (by kernel_rfl) (by kernel_rfl) (by kernel_rfl) (fun K hK => ?_)
      go_simp
      first | (refine hK _ ?_; clear hK K) | (apply Exists.intro; refine ⟨fun x => ?_, hK _ ?_⟩; (fail); clear hK K)
      refine Mix.take_exC _ _ 3 rfl (by kernel_rfl) (by kernel_rfl) (by kernel_rfl) (by kernel_rfl) (fun K hK => ?_)
      go_simp
      first | (refine hK _ ?_; clear hK K) | (apply Exists.intro; refine ⟨fun x => ?_, hK _ ?_⟩; (fail); clear hK K)
      refine Mix.take_exC _ _ 4 rfl (by kernel_rfl) (by kernel_rfl) (by kernel_rfl) (by kernel_rfl) (fun K hK => ?_)
      go_simp
      first | (refine hK _ ?_; clear hK K) | (apply Exists.intro; refine ⟨fun x => ?_, hK _ ?_⟩; (fail); clear hK K)
      refine Mix.take_exC _ _ 5 rfl (by kernel_rfl) (by kernel_rfl) (by kernel_rfl) (by kernel_rfl) (fun K hK => ?_)
      go_simp
      first | (refine hK _ ?_; clear hK K) | (apply Exists.intro; refine ⟨fun x => ?_, hK _ ?_⟩; (fail); clear hK K)
      refine Mix.take_exC _ _ 6 rfl (by kernel_rfl) (by kernel_rfl) (by kernel_rfl) (by kernel_rfl) (fun K hK => ?_)
      go_simp
      first | (refine hK _ ?_; clear hK K) | (apply Exists.intro; refine ⟨fun x => ?_, hK _ ?_⟩; (fail); clear hK K)
      refine Mix.take_exC _ _ 7 rfl (by kernel_rfl) (by kernel_rfl) (by kernel_rfl) (by kernel_rfl) (fun K hK => ?_)
      go_simp
      first | (refine hK _ ?_; clear hK K) | (apply Exists.intro; refine ⟨fun x => ?_, hK _ ?_⟩; (fail); clear hK K)
      refine Mix.take_exC _ _ 8 rfl (by kernel_rfl) (by kernel_rfl) (by kernel_rfl) (by kernel_rfl) (fun K hK => ?_)
      go_simp
      first | (refine hK _ ?_; clear hK K) | (apply Exists.intro; refine ⟨fun x => ?_, hK _ ?_⟩; (fail); clear hK K)
      refine Mix.take_exC _ _ 9 rfl (by kernel_rfl) (by kernel_rfl) (by kernel_rfl) (by kernel_rfl) (fun K hK => ?_)
      go_simp
      first | (refine hK _ ?_; clear hK K) | (apply Exists.intro; refine ⟨fun x => ?_, hK _ ?_⟩; (fail); clear hK K)
      refine Mix.take_exC _ _ 10 rfl (by kernel_rfl) (by kernel_rfl) (by kernel_rfl) (by kernel_rfl) (fun K hK => ?_)
      go_simp
      first | (refine hK _ ?_; clear hK K) | (apply Exists.intro; refine ⟨fun x => ?_, hK _ ?_⟩; (fail); clear hK K)
      refine Mix.take_exC _ _ 11 rfl (by kernel_rfl) (by kernel_rfl) (by kernel_rfl) (by kernel_rfl) (fun K hK => ?_)
      go_simp
      first | (refine hK _ ?_; clear hK K) | (apply Exists.intro; refine ⟨fun x => ?_, hK _ ?_⟩; (fail); clear hK K)
      refine Mix.take_exC _ _ 12 rfl (by kernel_rfl) (by kernel_rfl) (by kernel_rfl) (by kernel_rfl) (fun K hK => ?_)
      go_simp
      first | (refine hK _ ?_; clear hK K) | (apply Exists.intro; refine ⟨fun x => ?_, hK _ ?_⟩; (fail); clear hK K)
      refine Mix.take_exC _ _ 13 rfl (by kernel_rfl) (by kernel_rfl) (by kernel_rfl) (by kernel_rfl) (fun K hK => ?_)
      go_simp
      first | (refine hK _ ?_; clear hK K) | (apply Exists.intro; refine ⟨fun x => ?_, hK _ ?_⟩; (fail); clear hK K)
      refine Mix.take_exC _ _ 14 rfl (by kernel_rfl) (by kernel_rfl) (by kernel_rfl) (by kernel_rfl) (fun K hK => ?_)
      go_simp
      first | (refine hK _ ?_; clear hK K) | (apply Exists.intro; refine ⟨fun x => ?_, hK _ ?_⟩; (fail); clear hK K)
      refine Mix.take_exC _ _ 15 rfl (by kernel_rfl) (by kernel_rfl) (by kernel_rfl) (by kernel_rfl) (fun K hK => ?_)
      go_simp
      first | (refine hK _ ?_; clear hK K) | (apply Exists.intro; refine ⟨fun x => ?_, hK _ ?_⟩; (fail); clear hK K)
      refine Mix.take_exC _ _ 16 rfl (by kernel_rfl) (by kernel_rfl) (by kernel_rfl) (by kernel_rfl) (fun K hK => ?_)
      go_simp
      first | (refine hK _ ?_; clear hK K) | (apply Exists.intro; refine ⟨fun x => ?_, hK _ ?_⟩; (fail); clear hK K)
      refine Mix.all (rs := [17]) (by kernel_rfl) (by simp) (.of_below _ hbR) ?_
      intro i24 hi24 w24 hb24 hC24
      simp only [List.mem_cons, List.not_mem_nil, or_false] at hi24
      subst hi24
      have HB24 := Lib.hid (bt hbR hb24)
      clear hC24 hb24 hbR
      refine Mix.op rfl (by kernel_rfl) ?_
      go_simp
      have hz24 := SB.made w24 (fun _ => 0)
      have hb45 := ba HB24.out (.cells #[.int .i64 0, .int .i64 0, .int .i64 0, .int .i64 0] 45)
      generalize w24.alloc (.cells #[.int .i64 0, .int .i64 0, .int .i64 0, .int .i64 0] 45) = w25 at *
      obtain ⟨b11, hb24q⟩ : ∃ b, b = w24.heap.size := ⟨_, rfl⟩
      rw [← hb24q] at hz24 ⊢
      have HG24 := Lib.hid (show w10e.heap.size ≤ b11 by rw [hb24q]; exact HB24.out.size)
      have HZ25 := Lib.hid hz24; have HB25 := Lib.hid hb45
      clear hz24 hb45 hb24q
      refine Mix.all (rs := [18]) (by kernel_rfl) (by simp) (.of_below _ HB25.out) ?_
      intro i26 hi26 w26 hb26 hC26
      simp only [List.mem_cons, List.not_mem_nil, or_false] at hi26
      subst hi26
      have HB26 := Lib.hid (bt HB25.out hb26)
      have hz26 := HZ25.out.below hb26
      clear hC26 hb26
      obtain ⟨m0, m1, m2, m3⟩ := hz26.cells
      have o0 := hz26.fz 0; have o1 := hz26.fz 1; have o2 := hz26.fz 2; have o3 := hz26.fz 3
      have m4 := hz26.lt
      have HST := Lib.hid (show Chg (fun k => k = b11) w26 ((((w26.setCell ⟨b11, 0, none⟩ (.int .i64 ((fun _ => most) 0))).setCell ⟨b11, 1, none⟩ (.int .i64 ((fun _ => most) 1))).setCell ⟨b11, 2, none⟩ (.int .i64 ((fun _ => most) 2))).setCell ⟨b11, 3, none⟩ (.int .i64 ((fun _ => most) 3))) from ((((Chg.refl (fun k => k = b11) w26).setCell (p := ⟨b11, 0, none⟩) (.inl rfl) _).setCell (p := ⟨b11, 1, none⟩) (.inl rfl) _).setCell (p := ⟨b11, 2, none⟩) (.inl rfl) _).setCell (p := ⟨b11, 3, none⟩) (.inl rfl) _)
      have HFX := Lib.hid (hz26.set4 (fun _ => most))
      clear hz26
      refine Mix.op rfl (by kernel_rfl) ?_
      go_simp
      clear m0 m1 m2 m3 m4 o0 o1 o2 o3
      generalize (((w26.setCell ⟨b11, 0, none⟩ (.int .i64 ((fun _ => most) 0))).setCell ⟨b11, 1, none⟩ (.int .i64 ((fun _ => most) 1))).setCell ⟨b11, 2, none⟩ (.int .i64 ((fun _ => most) 2))).setCell ⟨b11, 3, none⟩ (.int .i64 ((fun _ => most) 3)) = w27 at *
      have HB27 := Lib.hid (show Below w10e.heap.size w10e w27 from HB26.out.trans (HST.out.below HB26.out.size fun k e => by have e : k = b11 := e; have := HG24.out; omega))
      skip
      refine Mix.done (by kernel_rfl) (.of_below _ HB27.out) ?_
      intro w11e hb28
      have HB11e := Lib.hid (bt HB27.out hb28)
      have HS11e := Lib.hid (HFX.out.below hb28)
      clear hb28 HST HB26 HB25 HB24 HZ25 HFX HB27
      have HBf := Lib.hid (bt HBe.out HB11e.out)
      have HSa := Lib.hid (HS10e.out.below HB11e.out)
      clear c0 c1 c2 s0 s1 s2 s3 hl2
      obtain ⟨p0, p1, p2, p3⟩ := HSa.out.cells
      obtain ⟨q0, q1, q2, q3⟩ := HS11e.out.cells
      have pl := HSa.out.lt; have ql := HS11e.out.lt
      obtain ⟨q, hq⟩ : ∃ q, q = bigS most S ps := ⟨_, rfl⟩
      have hmo : SOk (fun _ => most) := sok_all fun j hj => by
        have := H.out.ain.m1
        show 0 ≤ most ∧ most ≤ 1152921504606846976
        omega
      have hso : SOk (fun j => sumA totA S j + kS ps j) := sok_all fun j hj => by
        have h1 := sumA_nn (f := totA) j (S := S) fun x hx => (H.out.ain.ok x hx).vt
        have h2 := kS_bd HVR.out j
        have h3 := H.out.ain.ms j hj
        have h4 := H.out.ain.m1.2
        show 0 ≤ sumA totA S j + kS ps j ∧ sumA totA S j + kS ps j ≤ 1152921504606846976
        omega
      have hho := holds_yes (fun _ => most) (fun j => sumA totA S j + kS ps j) hmo hso
      rw [show decide (HOk (fun _ => most) (fun j => sumA totA S j + kS ps j)) = !q from by
        rw [hq]; unfold bigS; rw [Bool.not_not]
        exact decide_eq_decide.2 ⟨fun h => h.2.2, fun h => ⟨hmo, hso, h⟩⟩] at hho
      have HHO := Lib.hid hho
      have HQ := Lib.hid hq
      clear hho hq hmo hso
      cases q with
      | true =>
        go_wp2_with fail
        refine (HHO.out _).mono ?_
        rintro e w12 ⟨rfl, hb12⟩
        have HB12 := Lib.hid (bt HBf.out hb12)
        clear hb12
        go_wp2
        go_ret2
        refine ⟨by unfold regB regE; rw [if_pos HOK.out, if_pos HOK.out, HFN.out]; simp only; rw [← HQ.out]; rfl, ⟨F, ?_⟩, .of_below _ HB12.out⟩
        unfold regP; rw [if_pos HOK.out, HFN.out]; simp only; rw [← HQ.out]; exact H.out.below HB12.out
      | false =>
        go_wp2_with fail
        refine (HHO.out _).mono ?_
        rintro e w12 ⟨rfl, hb12⟩
        have HB12 := Lib.hid (bt HBf.out hb12)
        have HSB := Lib.hid (HSa.out.below hb12)
        clear hb12 p0 p1 p2 p3 q0 q1 q2 q3 pl ql HHO HADD
        have h12 := H.out.below HB12.out
        have H12 := Lib.hid h12
        obtain ⟨c0, c1, c2, s0, s1, s2, s3⟩ := h12.cells
        have hl := h12.lt.1
        have hlen := fun x : ExtC w12 (fun _ => False) => (h12.below ((extC_chg w12 _ x).below (Nat.le_refl _) fun _ e => e.elim)).len 3
        clear h12
        by_cases hcap : cap ≤ (S.length : Nat)
        · have HCAP := Lib.hid hcap
          have hge : decide (cap ≤ ((S.length : Nat) : Int)) = true := decide_eq_true hcap
          clear hcap
          go_wp2
          refine Mix.regionC (fun _ => False) (by kernel_rfl) ?_
          intro w13 hb13
          refine Mix.take_exC _ _ 0 rfl (by kernel_rfl) (by kernel_rfl) (by kernel_rfl) (by kernel_rfl) (fun K hK => ?_)
          go_simp
          first | (refine hK _ ?_; clear hK K) | (apply Exists.intro; refine ⟨fun x => ?_, hK _ ?_⟩; (fail); clear hK K)
          refine Mix.take_exC _ _ 1 rfl (by kernel_rfl) (by kernel_rfl) (by kernel_rfl) (by kernel_rfl) (fun K hK => ?_)
          go_simp
          first | (refine hK _ ?_; clear hK K) | (apply Exists.intro; refine ⟨fun x => ?_, hK _ ?_⟩; (fail); clear hK K)
          refine Mix.take_exC _ _ 2 rfl (by kernel_rfl) (by kernel_rfl) (by kernel_rfl) (by kernel_rfl) (fun K hK => ?_)
          go_simp
          first | (refine hK _ ?_; clear hK K) | (apply Exists.intro; refine ⟨fun x => ?_, hK _ ?_⟩; (fail); clear hK K)
          refine Mix.take_exC _ _ 3 rfl (by kernel_rfl) (by kernel_rfl) (by kernel_rfl) (by kernel_rfl) (fun K hK => ?_)
          go_simp
          first | (refine hK _ ?_; clear hK K) | (apply Exists.intro; refine ⟨fun x => ?_, hK _ ?_⟩; (fail); clear hK K)
          refine Mix.take_exC _ _ 4 rfl (by kernel_rfl) (by kernel_rfl) (by kernel_rfl) (by kernel_rfl) (fun K hK => ?_)
          go_simp
          first | (refine hK _ ?_; clear hK K) | (apply Exists.intro; refine ⟨fun x => ?_, hK _ ?_⟩; (fail); clear hK K)
          refine Mix.take_exC _ _ 5 rfl (by kernel_rfl) (by kernel_rfl) (by kernel_rfl) (by kernel_rfl) (fun K hK => ?_)
          go_simp
          first | (refine hK _ ?_; clear hK K) | (apply Exists.intro; refine ⟨fun x => ?_, hK _ ?_⟩; (fail); clear hK K)
          refine Mix.take_exC _ _ 6 rfl (by kernel_rfl) (by kernel_rfl) (by kernel_rfl) (by kernel_rfl) (fun K hK => ?_)
          go_simp
          first | (refine hK _ ?_; clear hK K) | (apply Exists.intro; refine ⟨fun x => ?_, hK _ ?_⟩; (fail); clear hK K)
          refine Mix.take_exC _ _ 7 rfl (by kernel_rfl) (by kernel_rfl) (by kernel_rfl) (by kernel_rfl) (fun K hK => ?_)
          go_simp
          first | (refine hK _ ?_; clear hK K) | (apply Exists.intro; refine ⟨fun x => ?_, hK _ ?_⟩; (fail); clear hK K)
          refine Mix.take_exC _ _ 8 rfl (by kernel_rfl) (by kernel_rfl) (by kernel_rfl) (by kernel_rfl) (fun K hK => ?_)
          go_simp
          first | (refine hK _ ?_; clear hK K) | (apply Exists.intro; refine ⟨fun x => ?_, hK _ ?_⟩; (fail); clear hK K)
          refine Mix.take_exC _ _ 9 rfl (by kernel_rfl) (by kernel_rfl) (by kernel_rfl) (by kernel_rfl) (fun K hK => ?_)
          go_simp
          first | (refine hK _ ?_; clear hK K) | (apply Exists.intro; refine ⟨fun x => ?_, hK _ ?_⟩; (fail); clear hK K)
          refine Mix.done (by kernel_rfl) (.of_below _ hb13) ?_
          intro w14 hb14
          have HB14 := Lib.hid (bt HB12.out (bt hb13 hb14))
          clear hb13 hb14 hlen c0 c1 c2 s0 s1 s2 s3 hl
          go_wp2
          go_ret2
          refine ⟨by unfold regB regE; rw [if_pos HOK.out, if_pos HOK.out, HFN.out]; simp only; rw [← HQ.out]; simp only [Bool.false_eq_true, if_false, if_pos HCAP.out]; rfl, ⟨F, ?_⟩, .of_below _ HB14.out⟩
          unfold regP; rw [if_pos HOK.out, HFN.out]; simp only; rw [← HQ.out]; simp only [Bool.false_eq_true, if_false, if_pos HCAP.out]; exact H.out.below HB14.out
        · have HCAP := Lib.hid hcap
          have hge : decide (cap ≤ ((S.length : Nat) : Int)) = false := decide_eq_false hcap
          clear hcap
          go_wp2
          refine Mix.regionC (fun _ => False) (by kernel_rfl) ?_
          intro w13 hb13
          refine Mix.take_exC _ _ 0 rfl (by kernel_rfl) (by kernel_rfl) (by kernel_rfl) (by kernel_rfl) (fun K hK => ?_)
          go_simp
          first | (refine hK _ ?_; clear hK K) | (apply Exists.intro; refine ⟨fun x => ?_, hK _ ?_⟩; (fail); clear hK K)
          refine Mix.take_exC _ _ 1 rfl (by kernel_rfl) (by kernel_rfl) (by kernel_rfl) (by kernel_rfl) (fun K hK => ?_)
          go_simp
          first | (refine hK _ ?_; clear hK K) | (apply Exists.intro; refine ⟨fun x => ?_, hK _ ?_⟩; (fail); clear hK K)
          refine Mix.take_exC _ _ 2 rfl (by kernel_rfl) (by kernel_rfl) (by kernel_rfl) (by kernel_rfl) (fun K hK => ?_)
          go_simp
          first | (refine hK _ ?_; clear hK K) | (apply Exists.intro; refine ⟨fun x => ?_, hK _ ?_⟩; (fail); clear hK K)
          refine Mix.take_exC _ _ 3 rfl (by kernel_rfl) (by kernel_rfl) (by kernel_rfl) (by kernel_rfl) (fun K hK => ?_)
          go_simp
          first | (refine hK _ ?_; clear hK K) | (apply Exists.intro; refine ⟨fun x => ?_, hK _ ?_⟩; (fail); clear hK K)
          refine Mix.take_exC _ _ 4 rfl (by kernel_rfl) (by kernel_rfl) (by kernel_rfl) (by kernel_rfl) (fun K hK => ?_)
          go_simp
          first | (refine hK _ ?_; clear hK K) | (apply Exists.intro; refine ⟨fun x => ?_, hK _ ?_⟩; (fail); clear hK K)
          refine Mix.take_exC _ _ 5 rfl (by kernel_rfl) (by kernel_rfl) (by kernel_rfl) (by kernel_rfl) (fun K hK => ?_)
          go_simp
          first | (refine hK _ ?_; clear hK K) | (apply Exists.intro; refine ⟨fun x => ?_, hK _ ?_⟩; (fail); clear hK K)
          refine Mix.take_exC _ _ 6 rfl (by kernel_rfl) (by kernel_rfl) (by kernel_rfl) (by kernel_rfl) (fun K hK => ?_)
          go_simp
          first | (refine hK _ ?_; clear hK K) | (apply Exists.intro; refine ⟨fun x => ?_, hK _ ?_⟩; (fail); clear hK K)
          refine Mix.take_exC _ _ 7 rfl (by kernel_rfl) (by kernel_rfl) (by kernel_rfl) (by kernel_rfl) (fun K hK => ?_)
          go_simp
          first | (refine hK _ ?_; clear hK K) | (apply Exists.intro; refine ⟨fun x => ?_, hK _ ?_⟩; (fail); clear hK K)
          refine Mix.take_exC _ _ 8 rfl (by kernel_rfl) (by kernel_rfl) (by kernel_rfl) (by kernel_rfl) (fun K hK => ?_)
          go_simp
          first | (refine hK _ ?_; clear hK K) | (apply Exists.intro; refine ⟨fun x => ?_, hK _ ?_⟩; (fail); clear hK K)
          refine Mix.take_exC _ _ 9 rfl (by kernel_rfl) (by kernel_rfl) (by kernel_rfl) (by kernel_rfl) (fun K hK => ?_)
          go_simp
          first | (refine hK _ ?_; clear hK K) | (apply Exists.intro; refine ⟨fun x => ?_, hK _ ?_⟩; (fail); clear hK K)
          refine Mix.done (by kernel_rfl) (.of_below _ hb13) ?_
          intro w14 hb14
          have hb := bt hb13 hb14
          have HB14 := Lib.hid (bt HB12.out hb)
          have HS14 := Lib.hid (HSB.out.below hb)
          clear hb13 hb14 hb hlen c0 c1 c2 s0 s1 s2 s3 hl hge
          have h14 := H.out.below HB14.out
          have H14 := Lib.hid h14
          obtain ⟨c0, c1, c2, s0, s1, s2, s3⟩ := h14.cells
          have y3 := h14.fz 3; have y4 := h14.fz 4; have y5 := h14.fz 5; have y6 := h14.fz 6
          have hl := h14.lt.1
          obtain ⟨p0, p1, p2, p3⟩ := HS14.out.cells
          have pl := HS14.out.lt
          have hsm := h14.sums (fun j => sumA totA S j + kS ps j)
          try simp only at hsm
          have HSM := Lib.hid hsm
          clear hsm h14
          go_wp2
          clear c0 c1 c2 s0 s1 s2 s3 y3 y4 y5 y6 p0 p1 p2 p3 pl hl
          generalize (((w14.setCell ⟨tp, 3, none⟩ (.int .i64 (sumA totA S 0 + kS ps 0))).setCell ⟨tp, 4, none⟩ (.int .i64 (sumA totA S 1 + kS ps 1))).setCell ⟨tp, 5, none⟩ (.int .i64 (sumA totA S 2 + kS ps 2))).setCell ⟨tp, 6, none⟩ (.int .i64 (sumA totA S 3 + kS ps 3)) = w16 at *
          have c2 : w16.cell? ⟨tp, 2, none⟩ = some (.map (some M)) := by simp [World.cell?, HSM.out.1]
          have hl : tp < w16.heap.size := (Array.getElem?_eq_some_iff.1 HSM.out.1).1
          have hmt : M ≠ tp := H14.out.ne.symm
          have hne := H14.out.ne
          have HM16 := Lib.hid (H14.out.map.chg HSM.out.2 hmt)
          have HV16 := Lib.hid ((HV.out.on HB14.out).chg HSM.out.2 fun b hb => ((HVO.out.resolve_left HOK.out.2.1) b hb).1)
          refine Mix.regionC (fun b => b = M) (by kernel_rfl) ?_
          intro w17 hb17
          refine Mix.take_exC _ _ 0 rfl (by kernel_rfl) (by kernel_rfl) (by kernel_rfl) (by kernel_rfl) (fun K hK => ?_)
          go_simp
          first | (refine hK _ ?_; clear hK K) | (apply Exists.intro; refine ⟨fun x => ?_, hK _ ?_⟩; (fail); clear hK K)
          refine Mix.take_exC _ _ 1 rfl (by kernel_rfl) (by kernel_rfl) (by kernel_rfl) (by kernel_rfl) (fun K hK => ?_)
          go_simp
          first | (refine hK _ ?_; clear hK K) | (apply Exists.intro; refine ⟨fun x => ?_, hK _ ?_⟩; (fail); clear hK K)
          refine Mix.take_exC _ _ 2 rfl (by kernel_rfl) (by kernel_rfl) (by kernel_rfl) (by kernel_rfl) (fun K hK => ?_)
          go_simp
          first | (refine hK _ ?_; clear hK K) | (apply Exists.intro; refine ⟨fun x => ?_, hK _ ?_⟩; (fail); clear hK K)
          refine Mix.take_exC _ _ 3 rfl (by kernel_rfl) (by kernel_rfl) (by kernel_rfl) (by kernel_rfl) (fun K hK => ?_)
          go_simp
          first | (refine hK _ ?_; clear hK K) | (apply Exists.intro; refine ⟨fun x => ?_, hK _ ?_⟩; (fail); clear hK K)
          refine Mix.take_exC _ _ 4 rfl (by kernel_rfl) (by kernel_rfl) (by kernel_rfl) (by kernel_rfl) (fun K hK => ?_)
          go_simp
          first | (refine hK _ ?_; clear hK K) | (apply Exists.intro; refine ⟨fun x => ?_, hK _ ?_⟩; (fail); clear hK K)
          refine Mix.take_exC _ _ 5 rfl (by kernel_rfl) (by kernel_rfl) (by kernel_rfl) (by kernel_rfl) (fun K hK => ?_)
          go_simp
          first | (refine hK _ ?_; clear hK K) | (apply Exists.intro; refine ⟨fun x => ?_, hK _ ?_⟩; (fail); clear hK K)
          refine Mix.take_exC _ _ 7 rfl (by kernel_rfl) (by kernel_rfl) (by kernel_rfl) (by kernel_rfl) (fun K hK => ?_)
          go_simp
          first | (refine hK _ ?_; clear hK K) | (apply Exists.intro; refine ⟨fun x => ?_, hK _ ?_⟩; (fail); clear hK K)
          refine Mix.all (rs := [6]) (by kernel_rfl) (by simp) (.of_below _ hb17) ?_
          intro i6 hi6 w6 hb6 hC6
          simp only [List.mem_cons, List.not_mem_nil, or_false] at hi6
          subst hi6
          have HB6 := Lib.hid (bt hb17 hb6)
          clear hC6 hb6 hb17
          have HV6 := Lib.hid (show Vc w6 (.slice va n vc) ps from HV16.out.on HB6.out)
          refine Mix.op rfl (by kernel_rfl) ?_
          go_simp
          refine (vcopy_any (.slice va n vc) ps (Nat.lt_of_le_of_lt (vr_len HVR.out) (by decide)) w6 HV6.out).mono ?_
          rintro e w7 ⟨u7, rfl, hu7, hb7⟩
          refine ⟨_, rfl, ?_⟩
          obtain ⟨a7, c7, hv7, -, -⟩ := hu7.vc.form
          subst hv7
          obtain ⟨n7, hn7⟩ : ∃ n7, n7 = ps.length := ⟨_, rfl⟩
          rw [← hn7] at hu7 ⊢
          have HB7 := Lib.hid (bt HB6.out hb7)
          have HU7 := Lib.hid hu7
          have HV7 := Lib.hid (HV6.out.on hb7)
          have HS7 := Lib.hid HB6.out.size
          clear hb7 hn7 hu7
          refine Mix.all (rs := [8]) (by kernel_rfl) (by simp) (.of_below _ HB7.out) ?_
          intro i8 hi8 w8 hb8 hC8
          simp only [List.mem_cons, List.not_mem_nil, or_false] at hi8
          subst hi8
          have HB8 := Lib.hid (bt HB7.out hb8)
          have HU8 := Lib.hid (rowP_grow HU7.out hb8)
          have HV8 := Lib.hid (HV7.out.on hb8)
          clear hC8 hb8
          refine Mix.op rfl (by kernel_rfl) ?_
          go_simp
          refine (vcopy_any (.slice va n vc) ps (Nat.lt_of_le_of_lt (vr_len HVR.out) (by decide)) w8 HV8.out).mono ?_
          rintro e w9 ⟨u9, rfl, hu9, hb9⟩
          refine ⟨_, rfl, ?_⟩
          obtain ⟨a9, c9, hv9, -, -⟩ := hu9.vc.form
          subst hv9
          obtain ⟨n9, hn9⟩ : ∃ n9, n9 = ps.length := ⟨_, rfl⟩
          rw [← hn9] at hu9 ⊢
          have HB9 := Lib.hid (bt HB8.out hb9)
          have HU9 := Lib.hid hu9
          have HU79 := Lib.hid (rowP_grow HU8.out hb9)
          have HS9 := Lib.hid HB8.out.size
          clear hb9 hn9 hu9
          refine Mix.take_exC _ _ 9 rfl (by kernel_rfl) (by kernel_rfl) (by kernel_rfl) (by kernel_rfl) (fun K hK => ?_)
          go_simp
          first | (refine hK _ ?_; clear hK K) | (apply Exists.intro; refine ⟨fun x => ?_, hK _ ?_⟩; (fail); clear hK K)
          refine Mix.all (rs := [10]) (by kernel_rfl) (by simp) (.of_below _ HB9.out) ?_
          intro i10 hi10 w10 hb10 hC10
          simp only [List.mem_cons, List.not_mem_nil, or_false] at hi10
          subst hi10
          have HB10 := Lib.hid (bt HB9.out hb10)
          have HU9 := Lib.hid (rowP_grow HU9.out hb10)
          have HU7 := Lib.hid (rowP_grow HU79.out hb10)
          clear hC10 hb10
          have hm10 := HM16.out.chg (Chg.of_below (fun _ => False) HB10.out) (fun e => e)
          obtain ⟨w11, hst, hm11, hc11⟩ := hm10.store key64 Try.underlying50 (x := k) HK.out (⟨.slice a7 n7 c7, ps, .slice a9 n9 c9, ps⟩ : Ag)
          replace hst : (Instr.mapUpdate 50 (.map (some M)) (.int .i64 k) (.agg #[.slice a7 n7 c7, .slice a9 n9 c9])).run Try.prog w10 = .ok () w11 := hst
          have HM11 := Lib.hid hm11
          have HC11 := Lib.hid ((Chg.of_below (fun b => b = M) HB10.out).same hc11)
          have HCx := Lib.hid hc11
          clear hm10 hm11 hc11
          refine Mix.op rfl (by kernel_rfl) ?_
          go_simp
          clear hst
          refine Mix.done (by kernel_rfl) HC11.out ?_
          intro w12x hb12
          have HBx := Lib.hid hb12
          clear hb12 c2 hl
          go_wp2
          go_ret2
          have hain := H.out.ain.new (y := (k, ps, ps)) HFN.out ⟨HK1.out, HK.out, HVR.out, HVR.out, ⟨HVR.out, HVR.out, fun _ _ => Int.le_refl _⟩⟩ HQ.out.symm (Int.not_le.2 HCAP.out)
          have hc : Chg (TM tp M) w14 w12x := ((HSM.out.2.mono fun b e => .inl e).same (HC11.out.mono fun b e => .inr e)).then_below HBx.out
          have hlt := H14.out.lt
          have hz := H14.out.bel.size
          have hz2 := HSM.out.2.size
          have key : ∀ (u : Value) (base : Nat), w16.heap.size ≤ base → OwnP w10 base u ps → OwnP w12x W.heap.size u ps ∧ ∀ b, u.ownBlock = some b → b ≠ tp ∧ b ≠ M := fun u base hbase ho => by
            have hu : ∀ b, u.ownBlock = some b → b ≠ tp ∧ b ≠ M := fun b hb => by
              have := (ho.lt b hb).1
              omega
            exact ⟨ownsRow_base (rowP_grow (ownsRow_chg ho HCx.out fun b hb => (hu b hb).2) HBx.out) (by omega), hu⟩
          have k7 := key _ _ HS7.out HU7.out
          have k9 := key _ _ HS9.out HU9.out
          refine ⟨by unfold regB regE; rw [if_pos HOK.out, if_pos HOK.out, HFN.out]; simp only; rw [← HQ.out]; simp only [Bool.false_eq_true, if_false, if_neg (Int.not_le.2 HCAP.out)]; rfl, ⟨upd F k (some ⟨.slice a7 n7 c7, ps, .slice a9 n9 c9, ps⟩), ?_⟩, (Chg.of_below _ HB14.out).same hc⟩
          unfold regP; rw [if_pos HOK.out, HFN.out]; simp only; rw [← HQ.out]; simp only [Bool.false_eq_true, if_false, if_neg (Int.not_le.2 HCAP.out)]
          refine H14.out.anew hc ?_ (HM11.out.chg (Chg.of_below (fun _ => False) HBx.out) fun e => e) (fun j x hx => ?_) (fun j => ?_) hain.1
          · rw [hain.2 0, hain.2 1, hain.2 2, hain.2 3]
            have h10 := (HB10.out.block tp (Array.getElem?_eq_some_iff.1 HSM.out.1).1).trans HSM.out.1
            have h11 := (HCx.out.block tp (Array.getElem?_eq_some_iff.1 h10).1 hne).trans h10
            exact (HBx.out.block tp (Array.getElem?_eq_some_iff.1 h11).1).trans h11
          · unfold upd at hx
            split at hx
            · cases hx; exact .inr ⟨⟨k7.1, k9.1⟩, k7.2, k9.2⟩
            · exact .inl hx
          · have := Srt.fnd_put (key := akey) (lt := altP) S (k, ps, ps) j
            unfold fndA putA
            rw [this]
            unfold upd
            by_cases hj : j = k
            · subst hj; rw [if_pos rfl, if_pos rfl]; rfl
            · rw [if_neg hj, if_neg fun e => hj e.symm]; exact H14.out.pl j
  · have HNO := Lib.hid (hno fun h => hvr h.2.2)
    have hR := vecright_all (.slice va n vc) ps w HV.out
    rw [decide_eq_false hvr] at hR
    have HR := Lib.hid hR
    clear hno hR hvr
    go_enter Try.func24, Try.ntmps24
    go_wp2_with fail
    refine (amade H.out).mono ?_
    rintro e w1 ⟨rfl, hw1⟩
    rw [hw1]
    clear hw1 w1
    go_wp2_with fail
    refine HR.out.mono ?_
    rintro e w1 ⟨rfl, hb1⟩
    have HB1 := Lib.hid hb1
    clear hb1
    go_wp2
    go_ret2
    rw [HNO.out.1, HNO.out.2.1, HNO.out.2.2]
    exact ⟨rfl, ⟨F, H.out.below HB1.out⟩, .of_below _ HB1.out⟩
end
end Go.Proofs.Ytennhfkhdfalfaa

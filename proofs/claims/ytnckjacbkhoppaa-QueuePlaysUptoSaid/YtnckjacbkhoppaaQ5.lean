/- queue: Take. -/
import Derived.Test.YtnckjacbkhoppaaQ4
namespace Go.Proofs.Ytnckjacbkhoppaa
open Go.RowKit Go.Maps
open Go.ChangeMaps (setBlock)
attribute [local go_sem] ext_cell ext_frozen extC_cell extC_frozen Mix.calmUpon Mix.mUpon
section
variable {w : World} {B qp M : Nat} {most : Int} {N : Nat} {T : List Pq} {F V : Nat → Prop}
/-- What Take answers, and leaves. -/
def TK (w : World) (B qp M : Nat) (most : Int) (N : Nat) (T T' : List Pq) (got : List Pe) (F V : Nat → Prop) (e : Ending) (w' : World) : Prop :=
  ∃ u lu, e = .returned u ∧ EL w' u lu ∧ lu.map Ev.pl = got ∧ (∀ b, u.ownBlock = some b → w.heap.size ≤ b ∧ b < w'.heap.size) ∧ (∀ x ∈ lu, ∀ b, x.vv.ownBlock = some b → V b) ∧ QX (fun k => u.ownBlock = some k) w B qp M most N T' F V w'
theorem TK.none {T' : List Pq} {got : List Pe} {w' : World} (h : QT w B qp M most N T F V) (hb : Below w.heap.size w w') (hT : T' = T) (hg : got = []) : TK w B qp M most N T T' got F V (.returned (.slice none 0 0)) w' := by
  subst hT hg
  exact ⟨_, [], rfl, EL.nil _, rfl, (fun b hb => by cases hb), (fun x hx => by cases hx), F, V, h.below hb, (fun k => .inl), (fun k => .inl), .of_below _ hb, (fun k => id), (fun k hk => by cases hk)⟩
set_option maxRecDepth 100000 in
set_option maxHeartbeats 4000000 in
theorem qtake (h : QT w B qp M most N T F V) (hBw : B ≤ w.heap.size) {k n : Int} (hk : I64 k) (hN : N < 1000000) :
    Calls Try.prog 74 #[ptr qp, .int .i64 k, .int .i64 n] w (TK w B qp M most N T (takeM T k n) (gotM T k n) F V) := by
  have HQT := Lib.hid h
  obtain ⟨S, L, hQ, hpl, ha, hb, hc, hd⟩ := h
  have HQ := Lib.hid hQ; have HFX := Lib.hid (And.intro ha (And.intro hb (And.intro hc hd))); have HPL := Lib.hid hpl; have HBW := Lib.hid hBw; have HN := Lib.hid hN
  have HT := Lib.hid (show fndP T k = (fndR S k).map Qr.pl by rw [← hpl, pl_fndR])
  have HF := qfind hQ hk
  unfold qfA at HF
  clear hQ hpl ha hb hc hd hBw hN
  cases hf : fndR S k with
  | none =>
    rw [hf] at HF
    have HF := Lib.hid HF
    have E1 := Lib.hid (show takeM T k n = T ∧ gotM T k n = [] by unfold takeM gotM; rw [HT.out, hf]; exact ⟨rfl, rfl⟩)
    clear hf
    by_cases h1 : n < 1
    · go_enter Try.func74, Try.ntmps74
      go_wp2_with fail
      refine HF.out.mono ?_
      rintro e w1 ⟨rfl, hb1⟩
      have HB1 := Lib.hid hb1
      go_wp2
      go_ret
      exact .none HQT.out (ba HB1.out _) E1.out.1 E1.out.2
    · go_enter Try.func74, Try.ntmps74
      go_wp2_with fail
      refine HF.out.mono ?_
      rintro e w1 ⟨rfl, hb1⟩
      have HB1 := Lib.hid hb1
      go_wp2
      go_ret
      exact .none HQT.out (ba HB1.out _) E1.out.1 E1.out.2
  | some r =>
    have hr := Srt.fnd_mem hf
    obtain ⟨ra, rn, rc, hrv, hrn, -⟩ := (HQ.out.own r hr.1).form
    obtain ⟨f, rv, rl, lost⟩ := r
    simp only at hrv hrn
    subst hrv
    obtain rfl : f = k := hr.2
    have HR := Lib.hid hr.1
    have HRN := Lib.hid hrn
    have HFN := Lib.hid hf
    rw [hf] at HF
    have HF := Lib.hid HF
    by_cases h1 : n < 1
    · have E1 := Lib.hid (show takeM T f n = T ∧ gotM T f n = [] by
        unfold takeM gotM; rw [HT.out, hf]
        refine ⟨if_pos h1, ?_⟩
        show List.take n.toNat _ = []
        rw [show n.toNat = 0 by omega, List.take_zero])
      clear hf hr hrn
      go_enter Try.func74, Try.ntmps74
      go_wp2_with fail
      refine HF.out.mono ?_
      rintro e w1 ⟨rfl, hb1⟩
      have HB1 := Lib.hid hb1
      go_wp2
      go_ret
      exact .none HQT.out (ba HB1.out _) E1.out.1 E1.out.2
    · clear hf hr hrn
      by_cases hle : n ≤ (rn : Int)
      · obtain ⟨m, rfl⟩ : ∃ m : Nat, n = m := ⟨n.toNat, by omega⟩
        have hmN : m ≤ rn := by omega
        have HM := Lib.hid (show takeM T f m = putP T ⟨f, (rl.drop m).map Ev.pl, lost⟩ ∧ gotM T f m = (rl.take m).map Ev.pl from by
          unfold takeM gotM; rw [HT.out, HFN.out]
          refine ⟨(if_neg h1).trans ?_, ?_⟩
          · show putP T ⟨f, List.drop (Int.toNat (m : Int)) (rl.map Ev.pl), lost⟩ = _
            rw [Int.toNat_natCast, List.map_drop]
          · show List.take (Int.toNat (m : Int)) (rl.map Ev.pl) = _
            rw [Int.toNat_natCast, List.map_take])
        have hrc : rn ≤ rc := by obtain ⟨_, _, _, e, _, h, _⟩ := (HQ.out.own _ HR.out).form; cases e; exact h
        have hrcI : (rn : Int) ≤ (rc : Int) := by omega
        go_enter Try.func74, Try.ntmps74
        go_wp2_with fail
        refine HF.out.mono ?_
        rintro e w1 ⟨rfl, hb1⟩
        have HL := Lib.hid (show rl.length < 1000000 from by have g1 := (HQ.out.num _ HR.out).2.2; have g2 := (HQ.out.num _ HR.out).2.1; have g3 := HN.out; change lost + (rl.length : Int) ≤ (N : Int) at g1; change 0 ≤ lost at g2; omega)
        have HB2 := Lib.hid (ba hb1 (.cells #[.slice ra rn rc, .int .i64 lost] 172))
        have HRB2 := Lib.hid (RB.made w1 (.slice ra rn rc) lost)
        have H1 := Lib.hid (show ∀ x ∈ rl, x.vv.oneCell' = true from fun x hx => ownP_one (HQ.out.vec _ HR.out x hx))
        have hmk := fun w => evmake m (by have := HL.out; have := HRN.out; omega) w
        obtain ⟨w3, w4, hcp, hw3, ho4, hb4, hs4⟩ := evmade (n := m) ((HQ.out.own _ HR.out).below HB2.out) H1.out (by have := HRN.out; show m ≤ rl.length; omega) (by have := HL.out; have := HRN.out; omega)
        subst hw3
        have hz2 : (w1.alloc (.cells #[.slice ra rn rc, .int .i64 lost] 172)).heap.size = w1.heap.size + 1 := by simp
        rw [hz2] at hcp ho4 hs4
        have HO4 := Lib.hid ho4; have HB4 := Lib.hid (bt HB2.out hb4); have HS4 := Lib.hid hs4
        have HRB4 := Lib.hid (HRB2.out.below hb4)
        obtain ⟨v1, hsl, ho1, hob1⟩ := ((HQ.out.own _ HR.out).below HB4.out).from_ (P := Try.prog) (T := 24) (e := 28) (i := m) (fun _ => rfl) (by have := HRN.out; show m ≤ rl.length; omega) Try.underlying24 infoEvI.choose_spec.1 infoEvI.choose_spec.2
        obtain ⟨r1, n1, k1, hv1, -, -⟩ := ho1.form
        subst hv1
        have HCL := Lib.hid (evclone ho1 (fun x hx => H1.out x (List.mem_of_mem_drop hx)) (by rw [List.length_drop]; have := HL.out; show rl.length - m < 1000000; omega))
        obtain ⟨y0, y1⟩ := HRB4.out.cells
        have bQ4 := HRB4.out.lt
        obtain ⟨q0, q1⟩ := HRB2.out.cells
        have bQ2 := HRB2.out.lt
        have HSA := Lib.hid hb1.size
        clear hb1 ho4 hb4 hs4 ho1 hob1
        go_wp2_with fail
        refine HCL.out.mono ?_
        rintro e w5 ⟨v2, rfl, ho5, hb5⟩
        obtain ⟨r2, n2, k2, hv2, -, -⟩ := ho5.form
        subst hv2
        have hlq := HQ.out.lt
        have hs1 := HSA.out
        have hs2 := hb5.size
        have HV2 := Lib.hid (show ∀ k, (Value.slice r2 n2 k2).ownBlock = some k → w4.heap.size ≤ k ∧ k < w5.heap.size from fun k hk => ho5.lt k hk)
        have ch6 : Chg (fun k => k = w1.heap.size) w5 (w5.setCell ⟨w1.heap.size, 0, none⟩ (.slice r2 n2 k2)) := (Chg.refl (fun k => k = w1.heap.size) _).setCell (p := ⟨w1.heap.size, 0, none⟩) (.inl rfl) _
        have HB6 := Lib.hid (show Below w.heap.size w (w5.setCell ⟨w1.heap.size, 0, none⟩ (.slice r2 n2 k2)) from bs (bt HB4.out hb5) hs1 _)
        have HRB6 := Lib.hid ((HRB4.out.below hb5).set0 (.slice r2 n2 k2))
        have HO6 := Lib.hid (ho5.chg ch6 (fun k hk => by have := HV2.out k hk; omega))
        have HU6 := Lib.hid ((HO4.out.below hb5).chg ch6 (fun k hk => by cases hk; simp))
        obtain ⟨e0, e1⟩ := (HRB4.out.below hb5).cells
        have z0 := (HRB4.out.below hb5).fz 0
        have bQ5 := (HRB4.out.below hb5).lt
        have HWS := Lib.hid (show w5.heap.size ≤ (w5.setCell ⟨w1.heap.size, 0, none⟩ (.slice r2 n2 k2)).heap.size from by simp [World.setCell])
        have HSS := Lib.hid (And.intro hs1 hs2)
        clear y0 y1 q0 q1 bQ2 bQ4 hb5 ho5 ch6 hz2
        go_wp2
        obtain ⟨y0, y1⟩ := HRB6.out.cells
        have bQ6 := HRB6.out.lt
        have c1 := (HQ.out.below HB6.out).c1
        have hq6 := (HQ.out.below HB6.out).lt
        have hqM := HQ.out.hM.1
        have hQM : ¬ w1.heap.size = M := by omega
        clear e0 e1 z0 bQ5 hlq hs1 hs2
        generalize w5.setCell ⟨w1.heap.size, 0, none⟩ (.slice r2 n2 k2) = w6 at *
        refine Mix.regionC (fun k => k = M) (by kernel_rfl) ?_
        intro w7 hb7
        refine Mix.take_exC _ _ 0 rfl (by kernel_rfl) (by kernel_rfl) (by kernel_rfl) (by kernel_rfl) (fun K hK => ?_)
        go_simp
        first | (refine hK _ ?_; clear hK K) | (apply Exists.intro; refine ⟨fun x => ?_, hK _ ?_⟩; (fail); clear hK K)
        refine Mix.take_exC _ _ 1 rfl (by kernel_rfl) (by kernel_rfl) (by kernel_rfl) (by kernel_rfl) (fun K hK => ?_)
        go_simp
        first | (refine hK _ ?_; clear hK K) | (apply Exists.intro; refine ⟨fun x => ?_, hK _ ?_⟩; (fail); clear hK K)
        refine Mix.take_exC _ _ 2 rfl (by kernel_rfl) (by kernel_rfl) (by kernel_rfl) (by kernel_rfl) (fun K hK => ?_)
        go_simp
        first | (refine hK _ ?_; clear hK K) | (apply Exists.intro; refine ⟨fun x => ?_, hK _ ?_⟩; (fail); clear hK K)
        refine Mix.take_exC _ _ 3 rfl (by kernel_rfl) (by kernel_rfl) (by kernel_rfl) (by kernel_rfl) (fun K hK => ?_)
        go_simp
        first | (refine hK _ ?_; clear hK K) | (apply Exists.intro; refine ⟨fun x => ?_, hK _ ?_⟩; (fail); clear hK K)
        refine Mix.take_exC _ _ 4 rfl (by kernel_rfl) (by kernel_rfl) (by kernel_rfl) (by kernel_rfl) (fun K hK => ?_)
        go_simp
        first | (refine hK _ ?_; clear hK K) | (apply Exists.intro; refine ⟨fun x => ?_, hK _ ?_⟩; (fail); clear hK K)
        refine Mix.take_exC _ _ 5 rfl (by kernel_rfl) (by kernel_rfl) (by kernel_rfl) (by kernel_rfl) (fun K hK => ?_)
        go_simp
        first | (refine hK _ ?_; clear hK K) | (apply Exists.intro; refine ⟨fun x => ?_, hK _ ?_⟩; (fail); clear hK K)
        refine Mix.all (rs := [6]) (by kernel_rfl) (by simp) (.of_below _ hb7) ?_
        intro i8 hi8 w8 hb8 hC8
        simp only [List.mem_cons, List.not_mem_nil, or_false] at hi8
        subst hi8
        clear hC8
        obtain ⟨w9, hrun, hm9, hc9⟩ := map_store ((HQ.out.below HB6.out).map.chg (.of_below (fun _ => False) (bt hb7 hb8)) id) hk (.agg #[.slice r2 n2 k2, .int .i64 lost])
        have HM9 := Lib.hid hm9
        have HC9 := Lib.hid (show Chg (fun k => k = M) w6 w9 from (Chg.of_below _ (bt hb7 hb8)).same hc9)
        refine Mix.op rfl (by kernel_rfl) ?_
        clear hm9 hc9 hb7 hb8
        go_simp
        refine Mix.done (by kernel_rfl) HC9.out ?_
        intro w12 hb12
        have HC12 := Lib.hid (show Chg (fun k => k = M) w6 w12 from HC9.out.then_below hb12)
        have HM12 := Lib.hid (HM9.out.chg (.of_below (fun _ => False) hb12) id)
        clear hb12 hrun c1 hq6 y0 y1 bQ6
        go_wp2
        go_ret
        have hcg : Chg (GQ M S f) w w12 := (Chg.of_below _ HB6.out).same (HC12.out.mono fun k e => .inl e)
        have hs1 := HSS.out.1; have hs2 := HSS.out.2; have hs3 := HWS.out; have hs4 := HS4.out; have hs12 := HC12.out.size; have hlq := HQ.out.lt
        have ho12 := HO6.out.chg HC12.out (fun k hk => by have := HV2.out k hk; omega)
        have hx := HQ.out.put (x := ⟨f, .slice r2 n2 k2, rl.drop m, lost⟩) (N' := N) hk hcg HM12.out (ho12.low (by have := HBW.out; omega))
          (fun e he => ownsRow_chg (HQ.out.vec _ HR.out e (List.mem_of_mem_drop he)) hcg fun k hk' g => (HQ.out.fv (.inr ⟨_, HR.out, e, List.mem_of_mem_drop he, hk'⟩)).2.2 g.fq)
          (fun k hk' => .inr (by have := HV2.out k hk'; omega))
          (fun e he => .inl ⟨_, HFN.out, List.mem_of_mem_drop he⟩)
          (by
            have g1 := (HQ.out.num _ HR.out).2.2; have g2 := (HQ.out.num _ HR.out).2.1; change lost + (rl.length : Int) ≤ (N : Int) at g1; change 0 ≤ lost at g2
            refine ⟨g2, ?_⟩
            show lost + ((rl.drop m).length : Int) ≤ (N : Int)
            rw [List.length_drop]; omega) (Nat.le_refl _)
        have hq := QT.put (x := ⟨f, .slice r2 n2 k2, rl.drop m, lost⟩) (A := fun k => (Value.slice (some ⟨w1.heap.size + 1, 0, none⟩) m m).ownBlock = some k) (Below.refl _ _) HQ.out HFX.out.1 HFX.out.2.1 HFX.out.2.2.1 HFX.out.2.2.2 HBW.out hx hcg
          (fun k hk' => .inr (by have := HV2.out k hk'; omega))
          (fun e he => .inl ⟨_, HFN.out, List.mem_of_mem_drop he⟩)
          (fun k hk' => by
            cases hk'
            exact ⟨by show w.heap.size ≤ w1.heap.size + 1; omega, fun e => by have := HV2.out _ e; simp only at this; omega⟩)
        rw [pl_put, HPL.out] at hq
        rw [HM.out.1, HM.out.2]
        refine ⟨_, rl.take m, rfl, ⟨(HU6.out.chg HC12.out (fun k hk => by cases hk; simp; omega)).rs fun _ => rfl, fun x hx => ?_⟩, rfl, fun k hk' => ?_, fun x hx k hk' => HFX.out.2.1 k (.inr ⟨_, HR.out, x, List.mem_of_mem_take hx, hk'⟩), hq⟩
        · exact OwnP.vc (B := B) (ownsRow_chg (HQ.out.vec _ HR.out x (List.mem_of_mem_take hx)) hcg fun k hk' g => (HQ.out.fv (.inr ⟨_, HR.out, x, List.mem_of_mem_take hx, hk'⟩)).2.2 g.fq)
        · cases hk'
          show w.heap.size ≤ w1.heap.size + 1 ∧ w1.heap.size + 1 < w12.heap.size
          omega
      · obtain ⟨m, rfl⟩ : ∃ m, m = rn := ⟨_, rfl⟩
        have hmN : m ≤ m := Nat.le_refl _
        have HM := Lib.hid (show takeM T f n = putP T ⟨f, (rl.drop m).map Ev.pl, lost⟩ ∧ gotM T f n = (rl.take m).map Ev.pl from by
          have hm := HRN.out
          unfold takeM gotM; rw [HT.out, HFN.out]
          refine ⟨(if_neg h1).trans ?_, ?_⟩
          · show putP T ⟨f, List.drop n.toNat (rl.map Ev.pl), lost⟩ = _
            rw [List.drop_of_length_le (by rw [List.length_map]; omega), List.drop_of_length_le (l := rl) (by omega)]; rfl
          · show List.take n.toNat (rl.map Ev.pl) = _
            rw [List.take_of_length_le (by rw [List.length_map]; omega), List.take_of_length_le (l := rl) (by omega)])
        have hrc : m ≤ rc := by obtain ⟨_, _, _, e, _, h, _⟩ := (HQ.out.own _ HR.out).form; cases e; exact h
        have hrcI : (m : Int) ≤ (rc : Int) := by omega
        go_enter Try.func74, Try.ntmps74
        go_wp2_with fail
        refine HF.out.mono ?_
        rintro e w1 ⟨rfl, hb1⟩
        have HL := Lib.hid (show rl.length < 1000000 from by have g1 := (HQ.out.num _ HR.out).2.2; have g2 := (HQ.out.num _ HR.out).2.1; have g3 := HN.out; change lost + (rl.length : Int) ≤ (N : Int) at g1; change 0 ≤ lost at g2; omega)
        have HB2 := Lib.hid (ba hb1 (.cells #[.slice ra m rc, .int .i64 lost] 172))
        have HRB2 := Lib.hid (RB.made w1 (.slice ra m rc) lost)
        have H1 := Lib.hid (show ∀ x ∈ rl, x.vv.oneCell' = true from fun x hx => ownP_one (HQ.out.vec _ HR.out x hx))
        have hmk := fun w => evmake m (by have := HL.out; have := HRN.out; omega) w
        obtain ⟨w3, w4, hcp, hw3, ho4, hb4, hs4⟩ := evmade (n := m) ((HQ.out.own _ HR.out).below HB2.out) H1.out (by have := HRN.out; show m ≤ rl.length; omega) (by have := HL.out; have := HRN.out; omega)
        subst hw3
        have hz2 : (w1.alloc (.cells #[.slice ra m rc, .int .i64 lost] 172)).heap.size = w1.heap.size + 1 := by simp
        rw [hz2] at hcp ho4 hs4
        have HO4 := Lib.hid ho4; have HB4 := Lib.hid (bt HB2.out hb4); have HS4 := Lib.hid hs4
        have HRB4 := Lib.hid (HRB2.out.below hb4)
        obtain ⟨v1, hsl, ho1, hob1⟩ := ((HQ.out.own _ HR.out).below HB4.out).from_ (P := Try.prog) (T := 24) (e := 28) (i := m) (fun _ => rfl) (by have := HRN.out; show m ≤ rl.length; omega) Try.underlying24 infoEvI.choose_spec.1 infoEvI.choose_spec.2
        obtain ⟨r1, n1, k1, hv1, -, -⟩ := ho1.form
        subst hv1
        have HCL := Lib.hid (evclone ho1 (fun x hx => H1.out x (List.mem_of_mem_drop hx)) (by rw [List.length_drop]; have := HL.out; show rl.length - m < 1000000; omega))
        obtain ⟨y0, y1⟩ := HRB4.out.cells
        have bQ4 := HRB4.out.lt
        obtain ⟨q0, q1⟩ := HRB2.out.cells
        have bQ2 := HRB2.out.lt
        have HSA := Lib.hid hb1.size
        clear hb1 ho4 hb4 hs4 ho1 hob1
        go_wp2_with fail
        refine HCL.out.mono ?_
        rintro e w5 ⟨v2, rfl, ho5, hb5⟩
        obtain ⟨r2, n2, k2, hv2, -, -⟩ := ho5.form
        subst hv2
        have hlq := HQ.out.lt
        have hs1 := HSA.out
        have hs2 := hb5.size
        have HV2 := Lib.hid (show ∀ k, (Value.slice r2 n2 k2).ownBlock = some k → w4.heap.size ≤ k ∧ k < w5.heap.size from fun k hk => ho5.lt k hk)
        have ch6 : Chg (fun k => k = w1.heap.size) w5 (w5.setCell ⟨w1.heap.size, 0, none⟩ (.slice r2 n2 k2)) := (Chg.refl (fun k => k = w1.heap.size) _).setCell (p := ⟨w1.heap.size, 0, none⟩) (.inl rfl) _
        have HB6 := Lib.hid (show Below w.heap.size w (w5.setCell ⟨w1.heap.size, 0, none⟩ (.slice r2 n2 k2)) from bs (bt HB4.out hb5) hs1 _)
        have HRB6 := Lib.hid ((HRB4.out.below hb5).set0 (.slice r2 n2 k2))
        have HO6 := Lib.hid (ho5.chg ch6 (fun k hk => by have := HV2.out k hk; omega))
        have HU6 := Lib.hid ((HO4.out.below hb5).chg ch6 (fun k hk => by cases hk; simp))
        obtain ⟨e0, e1⟩ := (HRB4.out.below hb5).cells
        have z0 := (HRB4.out.below hb5).fz 0
        have bQ5 := (HRB4.out.below hb5).lt
        have HWS := Lib.hid (show w5.heap.size ≤ (w5.setCell ⟨w1.heap.size, 0, none⟩ (.slice r2 n2 k2)).heap.size from by simp [World.setCell])
        have HSS := Lib.hid (And.intro hs1 hs2)
        clear y0 y1 q0 q1 bQ2 bQ4 hb5 ho5 ch6 hz2
        go_wp2
        obtain ⟨y0, y1⟩ := HRB6.out.cells
        have bQ6 := HRB6.out.lt
        have c1 := (HQ.out.below HB6.out).c1
        have hq6 := (HQ.out.below HB6.out).lt
        have hqM := HQ.out.hM.1
        have hQM : ¬ w1.heap.size = M := by omega
        clear e0 e1 z0 bQ5 hlq hs1 hs2
        generalize w5.setCell ⟨w1.heap.size, 0, none⟩ (.slice r2 n2 k2) = w6 at *
        refine Mix.regionC (fun k => k = M) (by kernel_rfl) ?_
        intro w7 hb7
        refine Mix.take_exC _ _ 0 rfl (by kernel_rfl) (by kernel_rfl) (by kernel_rfl) (by kernel_rfl) (fun K hK => ?_)
        go_simp
        first | (refine hK _ ?_; clear hK K) | (apply Exists.intro; refine ⟨fun x => ?_, hK _ ?_⟩; (fail); clear hK K)
        refine Mix.take_exC _ _ 1 rfl (by kernel_rfl) (by kernel_rfl) (by kernel_rfl) (by kernel_rfl) (fun K hK => ?_)
        go_simp
        first | (refine hK _ ?_; clear hK K) | (apply Exists.intro; refine ⟨fun x => ?_, hK _ ?_⟩; (fail); clear hK K)
        refine Mix.take_exC _ _ 2 rfl (by kernel_rfl) (by kernel_rfl) (by kernel_rfl) (by kernel_rfl) (fun K hK => ?_)
        go_simp
        first | (refine hK _ ?_; clear hK K) | (apply Exists.intro; refine ⟨fun x => ?_, hK _ ?_⟩; (fail); clear hK K)
        refine Mix.take_exC _ _ 3 rfl (by kernel_rfl) (by kernel_rfl) (by kernel_rfl) (by kernel_rfl) (fun K hK => ?_)
        go_simp
        first | (refine hK _ ?_; clear hK K) | (apply Exists.intro; refine ⟨fun x => ?_, hK _ ?_⟩; (fail); clear hK K)
        refine Mix.take_exC _ _ 4 rfl (by kernel_rfl) (by kernel_rfl) (by kernel_rfl) (by kernel_rfl) (fun K hK => ?_)
        go_simp
        first | (refine hK _ ?_; clear hK K) | (apply Exists.intro; refine ⟨fun x => ?_, hK _ ?_⟩; (fail); clear hK K)
        refine Mix.take_exC _ _ 5 rfl (by kernel_rfl) (by kernel_rfl) (by kernel_rfl) (by kernel_rfl) (fun K hK => ?_)
        go_simp
        first | (refine hK _ ?_; clear hK K) | (apply Exists.intro; refine ⟨fun x => ?_, hK _ ?_⟩; (fail); clear hK K)
        refine Mix.all (rs := [6]) (by kernel_rfl) (by simp) (.of_below _ hb7) ?_
        intro i8 hi8 w8 hb8 hC8
        simp only [List.mem_cons, List.not_mem_nil, or_false] at hi8
        subst hi8
        clear hC8
        obtain ⟨w9, hrun, hm9, hc9⟩ := map_store ((HQ.out.below HB6.out).map.chg (.of_below (fun _ => False) (bt hb7 hb8)) id) hk (.agg #[.slice r2 n2 k2, .int .i64 lost])
        have HM9 := Lib.hid hm9
        have HC9 := Lib.hid (show Chg (fun k => k = M) w6 w9 from (Chg.of_below _ (bt hb7 hb8)).same hc9)
        refine Mix.op rfl (by kernel_rfl) ?_
        clear hm9 hc9 hb7 hb8
        go_simp
        refine Mix.done (by kernel_rfl) HC9.out ?_
        intro w12 hb12
        have HC12 := Lib.hid (show Chg (fun k => k = M) w6 w12 from HC9.out.then_below hb12)
        have HM12 := Lib.hid (HM9.out.chg (.of_below (fun _ => False) hb12) id)
        clear hb12 hrun c1 hq6 y0 y1 bQ6
        go_wp2
        go_ret
        have hcg : Chg (GQ M S f) w w12 := (Chg.of_below _ HB6.out).same (HC12.out.mono fun k e => .inl e)
        have hs1 := HSS.out.1; have hs2 := HSS.out.2; have hs3 := HWS.out; have hs4 := HS4.out; have hs12 := HC12.out.size; have hlq := HQ.out.lt
        have ho12 := HO6.out.chg HC12.out (fun k hk => by have := HV2.out k hk; omega)
        have hx := HQ.out.put (x := ⟨f, .slice r2 n2 k2, rl.drop m, lost⟩) (N' := N) hk hcg HM12.out (ho12.low (by have := HBW.out; omega))
          (fun e he => ownsRow_chg (HQ.out.vec _ HR.out e (List.mem_of_mem_drop he)) hcg fun k hk' g => (HQ.out.fv (.inr ⟨_, HR.out, e, List.mem_of_mem_drop he, hk'⟩)).2.2 g.fq)
          (fun k hk' => .inr (by have := HV2.out k hk'; omega))
          (fun e he => .inl ⟨_, HFN.out, List.mem_of_mem_drop he⟩)
          (by
            have g1 := (HQ.out.num _ HR.out).2.2; have g2 := (HQ.out.num _ HR.out).2.1; change lost + (rl.length : Int) ≤ (N : Int) at g1; change 0 ≤ lost at g2
            refine ⟨g2, ?_⟩
            show lost + ((rl.drop m).length : Int) ≤ (N : Int)
            rw [List.length_drop]; omega) (Nat.le_refl _)
        have hq := QT.put (x := ⟨f, .slice r2 n2 k2, rl.drop m, lost⟩) (A := fun k => (Value.slice (some ⟨w1.heap.size + 1, 0, none⟩) m m).ownBlock = some k) (Below.refl _ _) HQ.out HFX.out.1 HFX.out.2.1 HFX.out.2.2.1 HFX.out.2.2.2 HBW.out hx hcg
          (fun k hk' => .inr (by have := HV2.out k hk'; omega))
          (fun e he => .inl ⟨_, HFN.out, List.mem_of_mem_drop he⟩)
          (fun k hk' => by
            cases hk'
            exact ⟨by show w.heap.size ≤ w1.heap.size + 1; omega, fun e => by have := HV2.out _ e; simp only at this; omega⟩)
        rw [pl_put, HPL.out] at hq
        rw [HM.out.1, HM.out.2]
        refine ⟨_, rl.take m, rfl, ⟨(HU6.out.chg HC12.out (fun k hk => by cases hk; simp; omega)).rs fun _ => rfl, fun x hx => ?_⟩, rfl, fun k hk' => ?_, fun x hx k hk' => HFX.out.2.1 k (.inr ⟨_, HR.out, x, List.mem_of_mem_take hx, hk'⟩), hq⟩
        · exact OwnP.vc (B := B) (ownsRow_chg (HQ.out.vec _ HR.out x (List.mem_of_mem_take hx)) hcg fun k hk' g => (HQ.out.fv (.inr ⟨_, HR.out, x, List.mem_of_mem_take hx, hk'⟩)).2.2 g.fq)
        · cases hk'
          show w.heap.size ≤ w1.heap.size + 1 ∧ w1.heap.size + 1 < w12.heap.size
          omega
end
end Go.Proofs.Ytnckjacbkhoppaa

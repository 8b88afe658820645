/- agents: sums.Of at every valid vector, == of sums; Turn, Sum. -/
import Derived.Test.YtennhfkhdfalfaaAg2
namespace Go.Proofs.Ytennhfkhdfalfaa
open Go.RowKit Go.Maps
attribute [local go_sem] ext_cell ext_frozen extC_cell extC_frozen Mix.calmUpon Mix.mUpon
/-- sums.Of of every valid vector. -/
theorem sumsE (a : Option Addr) (cap : Nat) (hc : cap ≤ maxLen ∧ (a = none → cap = 0)) (w : World) : Calls Try.prog 28 #[.slice a 0 cap] w fun e w' => e = .returned (S4 (kS [])) ∧ Below w.heap.size w w' := by
  have HR := Lib.hid (vecright_v (.slice a 0 cap) [] (by decide))
  have HV := Lib.hid (show ∀ X : World, Vc X (.slice a 0 cap) [] from fun X => .inl ⟨⟨a, cap, rfl, hc⟩, rfl⟩)
  clear hc
  go_enter Try.func28, Try.ntmps28
  go_wp2_with fail
  refine (HR.out _ (HV.out _)).mono ?_
  rintro e w1 ⟨rfl, hb1⟩
  rw [show decide (VR []) = true from decide_eq_true VR.nil]
  have HD := Lib.hid (OR.start hb1)
  clear hb1
  go_wp2
  go_loopw [12] (fun i wr => i = .int .i64 0 ∧ Hid (OR w wr (fun _ => 0))) (fun i _ => 0)
  case atStart => exact ⟨rfl, HD⟩
  case round =>
    clear HD
    obtain ⟨rfl, HD⟩ := hrel
    have hs := HD.out.size
    have z0 : w.heap.size < wr.heap.size := by omega
    have z1 : w.heap.size + 1 < wr.heap.size := by omega
    have r0 := HD.out.r 0 (by omega); have r1 := HD.out.r 1 (by omega); have r2 := HD.out.r 2 (by omega); have r3 := HD.out.r 3 (by omega)
    have e0 := HD.out.c 0 (by omega); have e1 := HD.out.c 1 (by omega); have e2 := HD.out.c 2 (by omega); have e3 := HD.out.c 3 (by omega)
    have f0 := HD.out.fr 0; have f1 := HD.out.fr 1; have f2 := HD.out.fr 2; have f3 := HD.out.fr 3
    go_wp2
    refine bodyPost_ret (v := S4 (kS [])) (by simp [results, Try.results28, go_sem, kS, *]) rfl ⟨rfl, ?_⟩
    have hbl := HD.out.bel
    first
      | exact bs (bs (bs (bs hbl (by simp) _) (by simp) _) (by simp) _) (by simp) _
      | exact bd (bs (bs (bs (bs hbl (by simp) _) (by simp) _) (by simp) _) (by simp) _)
theorem sumsW (v : Value) (l : List Pt) (h : VR l) : PureOn (fun w => Vc w v l) Try.prog 28 #[v] (S4 (kS l)) := by
  intro W hV
  by_cases hl : l = []
  · subst hl
    rcases hV with ⟨⟨a, cap, rfl, hc⟩, -⟩ | ⟨b, off, cap, rfl, h2, h3, h4, h5⟩
    · exact sumsE a cap hc W
    · exact sumsE _ cap ⟨h3, fun e => by cases e⟩ W
  · exact sumsV v l h hl W hV
set_option maxRecDepth 100000 in
theorem eq4 (a0 a1 a2 a3 b0 b1 b2 b3 : Int) (w : World) : (Op.equalIn 10000 45 (.agg #[.int .i64 a0, .int .i64 a1, .int .i64 a2, .int .i64 a3]) (.agg #[.int .i64 b0, .int .i64 b1, .int .i64 b2, .int .i64 b3])).run Try.prog w = .ok (a0 == b0 && (a1 == b1 && (a2 == b2 && a3 == b3))) w := by
  have u3 := Try.underlying2
  have a3' := Try.isAgg2
  have z3 := Try.sizeOf2
  rw [show (10000 : Nat) = 9999 + 1 from rfl, Op.equalIn]
  simp only [Sem.run_bind, run_underlying Try.underlying45, Result.andThen_ok]
  simp only [Std.Legacy.Range.forIn_eq_forIn_range', Std.Legacy.Range.size, Nat.sub_zero, Nat.add_sub_cancel, Nat.div_one, List.range'_succ, List.range'_zero, List.forIn_cons, List.forIn_nil]
  go_simp
  by_cases h1 : a0 = b0 <;> by_cases h2 : a1 = b1 <;> by_cases h3 : a2 = b2 <;> by_cases h4 : a3 = b3 <;> simp [h1, h2, h3, h4]
theorem quiet_ext {P : Program} {f : Nat} {args : Array Value} {v : Value} {W : World} (x : Ext W) (h : Calls P f args (ext W x) fun e w' => e = .returned v ∧ Below (ext W x).heap.size (ext W x) w') : Calls P f args (ext W x) fun e w'' => e = .returned v ∧ ∃ y, w'' = ext W y :=
  h.mono fun _ _ ⟨h1, h2⟩ => ⟨h1, ext_of (bt (ext_below _ x) h2)⟩
/-- The same sums. -/
def sameK (a b : List Pt) : Bool := (kS a 0 == kS b 0) && ((kS a 1 == kS b 1) && ((kS a 2 == kS b 2) && (kS a 3 == kS b 3)))
theorem sameK_iff {a b : List Pt} : sameK a b = true ↔ ∀ j, j < 4 → kS a j = kS b j := by
  unfold sameK
  simp only [Bool.and_eq_true, beq_iff_eq]
  constructor
  · rintro ⟨h0, h1, h2, h3⟩ j hj
    have : j = 0 ∨ j = 1 ∨ j = 2 ∨ j = 3 := by omega
    rcases this with rfl | rfl | rfl | rfl <;> assumption
  · intro h
    exact ⟨h 0 (by decide), h 1 (by decide), h 2 (by decide), h 3 (by decide)⟩
def turnE (S : List Pa) (k : Int) (tot more : List Pt) : Int := match fndA S k with | none => 43 | some x => match mrg gAdd x.2.2 more with | none => 41 | some r => if (mrg gSub tot r).isSome then (if sameK tot x.2.1 then 0 else 41) else 41
def turnP (S : List Pa) (k : Int) (tot more : List Pt) : List Pa := match fndA S k with | none => S | some x => match mrg gAdd x.2.2 more with | none => S | some r => if (mrg gSub tot r).isSome then (if sameK tot x.2.1 then putA S (k, tot, r) else S) else S
section
variable {W w : World} {tp M : Nat} {cap most : Int} {F : Int → Option Ag} {S : List Pa}
set_option maxRecDepth 100000 in
set_option maxHeartbeats 4000000 in
theorem aturn (h : AT W w tp M cap most F S) {k : Int} (hk : I64 k) {v : Value} {ps : List Pt} (hv : Vc w v ps) (hl : ps.length < 1000000000) {v2 : Value} {qs : List Pt} (hv2 : Vc w v2 qs) (hl2 : qs.length < 1000000000) :
    Calls Try.prog 63 #[ptr tp, .int .i64 k, v, v2] w fun e w' => e = .returned (.int .i64 (turnE S k ps qs)) ∧ AP W w' tp M cap most (turnP S k ps qs) ∧ Chg (fun b => b = M) w w' := by
  have HV := Lib.hid hv; have HL := Lib.hid hl; have HV2 := Lib.hid hv2; have HL2 := Lib.hid hl2
  obtain ⟨va, vc, rfl, -, -⟩ := hv.form
  obtain ⟨qa, qc, rfl, -, -⟩ := hv2.form
  clear hv hl hv2 hl2
  cases hf : F k with
  | none =>
    generalize ps.length = n at *
    generalize qs.length = m at *
    have HA := afind h hk
    unfold afA at HA
    rw [hf] at HA
    have HA := Lib.hid HA
    have H := Lib.hid h
    have HPL := Lib.hid (show fndA S k = none by rw [h.pl, hf]; rfl)
    clear hf h hk
    go_enter Try.func63, Try.ntmps63
    go_wp2_with fail
    refine HA.out.mono ?_
    rintro e w1 ⟨rfl, hb1⟩
    have HB2 := Lib.hid (bt hb1 (ba (Below.refl w1.heap.size w1) (.cells #[.slice none 0 0, .slice none 0 0] 118)))
    clear hb1
    go_wp2
    go_ret
    refine ⟨by unfold turnE; rw [HPL.out]; rfl, ⟨F, ?_⟩, .of_below _ HB2.out⟩
    unfold turnP; rw [HPL.out]; exact H.out.below HB2.out
  | some x =>
    obtain ⟨n, hn⟩ : ∃ n, n = ps.length := ⟨_, rfl⟩
    obtain ⟨m, hm⟩ : ∃ m, m = qs.length := ⟨_, rfl⟩
    rw [← hn] at HV
    rw [← hm] at HV2
    rw [← hn, ← hm]
    clear hn hm
    -- the agent is there: behind find, at the world w2, its copy in block b2
    have HFK := Lib.hid hf
    obtain ⟨ta, tc, htv, -, -⟩ := (h.vec k x hf).1.vc.form
    obtain ⟨fa, fc, hfv, -, -⟩ := (h.vec k x hf).2.vc.form
    have HXV := Lib.hid (h.vec k x hf); have HXO := Lib.hid (h.off k x hf)
    obtain ⟨hfp, hpok⟩ := h.some_ok hf
    have HFP := Lib.hid hfp; have HPOK := Lib.hid hpok
    have HA := afind h hk
    unfold afA at HA
    rw [hf] at HA
    obtain ⟨tv, tps, fv, fps⟩ := x
    simp only at htv hfv HA HXV HXO HFP HPOK
    subst htv hfv
    obtain ⟨tn, htn⟩ : ∃ tn, tn = tps.length := ⟨_, rfl⟩
    obtain ⟨fn, hfn⟩ : ∃ fn, fn = fps.length := ⟨_, rfl⟩
    rw [← htn, ← hfn] at HA HXV HXO
    have HTN := Lib.hid (And.intro htn hfn)
    have HA := Lib.hid HA
    have H := Lib.hid h; have HK := Lib.hid hk
    clear hf h htn hfn hfp hpok hk
    go_enter Try.func63, Try.ntmps63
    go_wp2_with fail
    refine HA.out.mono ?_
    rintro e w1 ⟨rfl, hb1⟩
    have hbA := ba (Below.refl w1.heap.size w1) (.cells #[.slice ta tn tc, .slice fa fn fc] 118)
    have HB2 := Lib.hid (bt hb1 hbA)
    have HG2 := Lib.hid (show GB (w1.alloc (.cells #[.slice ta tn tc, .slice fa fn fc] 118)) w1.heap.size (.slice ta tn tc) (.slice fa fn fc) from GB.made w1 _ _)
    have HSZ := Lib.hid hb1.size
    clear hb1 hbA
    go_wp2_with fail
    generalize w1.alloc (.cells #[.slice ta tn tc, .slice fa fn fc] 118) = w2 at *
    obtain ⟨b2, hb2q⟩ : ∃ b2, b2 = w1.heap.size := ⟨_, rfl⟩
    rw [← hb2q] at HG2 HSZ ⊢
    clear hb2q
    have hS := vadd_w (.slice fa fn fc) (.slice qa m qc) fps qs (Nat.lt_of_le_of_lt (vr_len HPOK.out.vf) (by decide)) HL2.out w2 ((HXV.out.2.vc).on HB2.out) (HV2.out.on HB2.out)
    have HS := Lib.hid hS
    clear hS
    refine HS.out.mono ?_
    rintro e w3 ⟨u, rfl, hu, hb3⟩
    have HB3 := Lib.hid (bt HB2.out hb3)
    have HG3 := Lib.hid (HG2.out.below hb3)
    have HU := Lib.hid hu
    clear hu hb3
    cases ho : mrg gAdd fps qs with
    | none =>
      have HO := Lib.hid ho
      obtain ⟨ua, uc, huv, -, -⟩ := HU.out.vc.form
      subst huv
      obtain ⟨un, hun⟩ : ∃ un, un = ((mrg gAdd fps qs).getD []).length := ⟨_, rfl⟩
      rw [← hun] at HU ⊢
      clear ho hun
      go_wp2
      refine wp_region_pure (by kernel_rfl) (by kernel_rfl) ?_
      repeat (first | go_big_quiet_step (fail) | (quiet_step (fail)))
      refine wpQuiet_nil ?_
      rintro w5 ⟨y5, hy5⟩
      have hb5 := ext_below _ y5
      rw [← hy5] at hb5
      clear hy5 y5
      have HB5 := Lib.hid (bt HB3.out hb5)
      have HB35 := Lib.hid hb5
      clear hb5
      go_wp2
      go_ret
      refine ⟨by unfold turnE; rw [HFP.out]; simp only; rw [HO.out]; rfl, ⟨F, ?_⟩, .of_below _ HB5.out⟩
      unfold turnP; rw [HFP.out]; simp only; rw [HO.out]; exact H.out.below HB5.out
    | some r =>
      have HO := Lib.hid ho
      have hu := HU.out
      rw [ho] at hu
      replace hu : OwnP w3 w2.heap.size u r := hu
      obtain ⟨ua, uc, huv, -, -⟩ := hu.vc.form
      subst huv
      have HU3 := Lib.hid hu
      have HRV := Lib.hid (mrg_some gAdd0 gAddB ho).2.2.1
      have hH := fun z : Ext w3 => quiet_ext z (vholds_at (.slice va n vc) (.slice ua r.length uc) ps r HL.out (Nat.lt_of_le_of_lt (vr_len HRV.out) (by decide)) (ext w3 z) ((HV.out.on HB3.out).on (ext_below _ z)) (hu.vc.on (ext_below _ z)))
      obtain ⟨q, hq⟩ : ∃ q, q = (mrg gSub ps r).isSome := ⟨_, rfl⟩
      rw [← hq] at hH
      have HQ := Lib.hid hq
      obtain ⟨un, hun⟩ : ∃ un, un = r.length := ⟨_, rfl⟩
      rw [← hun] at HU3 hH ⊢
      have HH := Lib.hid hH
      have hT2 := fun z : Ext w3 => quiet_ext z (sumsW (.slice ta tn tc) tps HPOK.out.vt (ext w3 z) (((HXV.out.1.vc).on HB3.out).on (ext_below _ z)))
      have HT2 := Lib.hid hT2
      clear ho hu hun HU hH hT2 hq
      obtain ⟨g0, g1⟩ := HG3.out.cells
      have gl := HG3.out.lt
      cases q with
      | false =>
        have HT1 := HT2
        go_wp2
        refine wp_region_pure (by kernel_rfl) (by kernel_rfl) ?_
        repeat (first | go_big_quiet_step ((first | (go_at_call 23; with_reducible exact HH.out _) | (go_at_call 28; first | with_reducible exact HT1.out _ | with_reducible exact HT2.out _))) | (quiet_step ((first | (go_at_call 23; with_reducible exact HH.out _) | (go_at_call 28; first | with_reducible exact HT1.out _ | with_reducible exact HT2.out _)))))
        refine wpQuiet_nil ?_
        rintro w5 ⟨y5, hy5⟩
        have hb5 := ext_below _ y5
        rw [← hy5] at hb5
        clear hy5 y5
        have HB5 := Lib.hid (bt HB3.out hb5)
        have HB35 := Lib.hid hb5
        clear hb5
        go_wp2
        go_ret
        refine ⟨by unfold turnE; rw [HFP.out]; simp only; rw [HO.out]; simp only; rw [← HQ.out]; rfl, ⟨F, ?_⟩, .of_below _ HB5.out⟩
        unfold turnP; rw [HFP.out]; simp only; rw [HO.out]; simp only; rw [← HQ.out]; exact H.out.below HB5.out
      | true =>
        have HHL := Lib.hid ((sub_iff _ _).1 HQ.out.symm)
        have HT1 := Lib.hid (fun z : Ext w3 => quiet_ext z (sumsW (.slice va n vc) ps HHL.out.1 (ext w3 z) ((HV.out.on HB3.out).on (ext_below _ z))))
        obtain ⟨sm, hsm⟩ : ∃ sm, sm = sameK ps tps := ⟨_, rfl⟩
        have heq : ∀ w, (Op.equalIn 10000 45 (S4 (kS ps)) (S4 (kS tps))).run Try.prog w = .ok sm w := fun w => by rw [hsm]; exact eq4 _ _ _ _ _ _ _ _ w
        have HSM := Lib.hid hsm
        clear hsm
        go_wp2
        refine wp_region_pure (by kernel_rfl) (by kernel_rfl) ?_
        repeat (first | go_big_quiet_step ((first | (go_at_call 23; with_reducible exact HH.out _) | (go_at_call 28; first | with_reducible exact HT1.out _ | with_reducible exact HT2.out _))) | (quiet_step ((first | (go_at_call 23; with_reducible exact HH.out _) | (go_at_call 28; first | with_reducible exact HT1.out _ | with_reducible exact HT2.out _)))))
        refine wpQuiet_nil ?_
        rintro w5 ⟨y5, hy5⟩
        have hb5 := ext_below _ y5
        rw [← hy5] at hb5
        clear hy5 y5
        have HB5 := Lib.hid (bt HB3.out hb5)
        have HB35 := Lib.hid hb5
        clear hb5
        cases sm with
        | false =>
          go_wp2
          go_ret
          refine ⟨by unfold turnE; rw [HFP.out]; simp only; rw [HO.out]; simp only; rw [← HQ.out, ← HSM.out]; rfl, ⟨F, ?_⟩, .of_below _ HB5.out⟩
          unfold turnP; rw [HFP.out]; simp only; rw [HO.out]; simp only; rw [← HQ.out, ← HSM.out]; exact H.out.below HB5.out
        | true =>
          have HU5 := Lib.hid (rowP_grow HU3.out HB35.out)
          have HOK := Lib.hid (show PaOk (k, ps, r) from ⟨HPOK.out.id, HPOK.out.i64, HHL.out.1, HRV.out, HHL.out⟩)
          have HKS := Lib.hid (sameK_iff.1 HSM.out.symm)
          have h5 := H.out.below HB5.out
          obtain ⟨-, -, c2, -⟩ := h5.cells
          have hl5 := h5.lt.1
          have hne := h5.ne
          clear h5 heq g0 g1 gl
          go_wp2
          refine Mix.regionC (fun k => k = M) (by kernel_rfl) ?_
          intro w6 hb6
          refine Mix.take_exC _ _ 0 rfl (by kernel_rfl) (by kernel_rfl) (by kernel_rfl) (by kernel_rfl) (fun K hK => ?_)
          go_simp
          first | (refine hK _ ?_; clear hK K) | (apply Exists.intro; refine ⟨fun x => ?_, hK _ ?_⟩; (fail); clear hK K)
          refine Mix.take_exC _ _ 1 rfl (by kernel_rfl) (by kernel_rfl) (by kernel_rfl) (by kernel_rfl) (fun K hK => ?_)
          go_simp
          first | (refine hK _ ?_; clear hK K) | (apply Exists.intro; refine ⟨fun x => ?_, hK _ ?_⟩; (fail); clear hK K)
          refine Mix.take_exC _ _ 2 rfl (by kernel_rfl) (by kernel_rfl) (by kernel_rfl) (by kernel_rfl) (fun K hK => ?_)
          go_simp
          first | (refine hK _ ?_; clear hK K) | (apply Exists.intro; refine ⟨fun x => ?_, hK _ ?_⟩; (fail); clear hK K)
          refine Mix.take_exC _ _ 3 rfl (by kernel_rfl) (by kernel_rfl) (by kernel_rfl) (by kernel_rfl) (fun K hK => ?_)
          go_simp
          first | (refine hK _ ?_; clear hK K) | (apply Exists.intro; refine ⟨fun x => ?_, hK _ ?_⟩; (fail); clear hK K)
          refine Mix.take_exC _ _ 4 rfl (by kernel_rfl) (by kernel_rfl) (by kernel_rfl) (by kernel_rfl) (fun K hK => ?_)
          go_simp
          first | (refine hK _ ?_; clear hK K) | (apply Exists.intro; refine ⟨fun x => ?_, hK _ ?_⟩; (fail); clear hK K)
          refine Mix.take_exC _ _ 5 rfl (by kernel_rfl) (by kernel_rfl) (by kernel_rfl) (by kernel_rfl) (fun K hK => ?_)
          go_simp
          first | (refine hK _ ?_; clear hK K) | (apply Exists.intro; refine ⟨fun x => ?_, hK _ ?_⟩; (fail); clear hK K)
          refine Mix.take_exC _ _ 7 rfl (by kernel_rfl) (by kernel_rfl) (by kernel_rfl) (by kernel_rfl) (fun K hK => ?_)
          go_simp
          first | (refine hK _ ?_; clear hK K) | (apply Exists.intro; refine ⟨fun x => ?_, hK _ ?_⟩; (fail); clear hK K)
          refine Mix.all (rs := [6]) (by kernel_rfl) (by simp) (.of_below _ hb6) ?_
          intro i8 hi8 w8 hb8 hC8
          simp only [List.mem_cons, List.not_mem_nil, or_false] at hi8
          subst hi8
          have HB8 := Lib.hid (bt hb6 hb8)
          clear hC8 hb6 hb8
          refine Mix.op rfl (by kernel_rfl) ?_
          go_simp
          refine (vcopy_any (.slice va n vc) ps (Nat.lt_of_le_of_lt (vr_len HHL.out.1) (by decide)) w8 ((HV.out.on HB5.out).on HB8.out)).mono ?_
          rintro e w9 ⟨u9, rfl, hu9, hb9⟩
          refine ⟨_, rfl, ?_⟩
          obtain ⟨a9, c9, hv9, -, -⟩ := hu9.vc.form
          subst hv9
          obtain ⟨n9, hn9⟩ : ∃ n9, n9 = ps.length := ⟨_, rfl⟩
          rw [← hn9] at hu9 ⊢
          have HB9 := Lib.hid (bt HB8.out hb9)
          have HU9 := Lib.hid hu9
          have HS9 := Lib.hid HB8.out.size
          clear hb9 hn9 hu9
          refine Mix.take_exC _ _ 8 rfl (by kernel_rfl) (by kernel_rfl) (by kernel_rfl) (by kernel_rfl) (fun K hK => ?_)
          go_simp
          first | (refine hK _ ?_; clear hK K) | (apply Exists.intro; refine ⟨fun x => ?_, hK _ ?_⟩; (fail); clear hK K)
          refine Mix.all (rs := [9]) (by kernel_rfl) (by simp) (.of_below _ HB9.out) ?_
          intro i10 hi10 w10 hb10 hC10
          simp only [List.mem_cons, List.not_mem_nil, or_false] at hi10
          subst hi10
          have HB10 := Lib.hid (bt HB9.out hb10)
          have HU10 := Lib.hid (rowP_grow HU9.out hb10)
          clear hC10 hb10
          have HB010 := Lib.hid (bt HB5.out HB10.out)
          have hd := H.out.below HB010.out
          obtain ⟨w11, hst, hm11, hc11⟩ := hd.store HK.out ⟨.slice a9 n9 c9, ps, .slice ua un uc, r⟩
          have hain := H.out.ain.old (y := (k, ps, r)) (x := (k, tps, fps)) HFP.out HOK.out HKS.out
          have hlt := H.out.lt
          have hub : ∀ b, Value.ownBlock (.slice ua un uc) = some b → b ≠ tp ∧ b ≠ M := fun b hb => by
            have h1 := (HU3.out.lt b hb).1
            have h2 := HG2.out.lt
            have h3 := HSZ.out
            omega
          have hub9 : ∀ b, Value.ownBlock (.slice a9 n9 c9) = some b → b ≠ tp ∧ b ≠ M := fun b hb => by
            have h1 := (HU9.out.lt b hb).1
            have h2 := HS9.out
            have h3 := HB5.out.size
            omega
          have h11 := hd.put (k := k) (x := ⟨.slice a9 n9 c9, ps, .slice ua un uc, r⟩) rfl hain.2 hain.1 hc11 hm11 ⟨ownsRow_base HU10.out (Nat.le_trans H.out.bel.size (Nat.le_trans HB5.out.size HS9.out)), rowP_grow (ownsRow_base HU5.out (Nat.le_trans H.out.bel.size HB2.out.size)) HB10.out⟩ ⟨hub9, hub⟩
          have H11 := Lib.hid h11
          have HC11 := Lib.hid ((Chg.of_below (fun b => b = M) HB10.out).same hc11)
          clear hd hm11 hc11 hain hlt hub hub9 h11
          refine Mix.op rfl (by kernel_rfl) ?_
          go_simp
          clear hst
          refine Mix.done (by kernel_rfl) HC11.out ?_
          intro w12 hb12
          have H12 := Lib.hid (H11.out.below hb12)
          have HC12 := Lib.hid (((Chg.of_below (fun b => b = M) HB5.out).same HC11.out).then_below hb12)
          clear hb12 c2 hl5
          go_wp2
          go_ret
          refine ⟨by unfold turnE; rw [HFP.out]; simp only; rw [HO.out]; simp only; rw [← HQ.out, ← HSM.out]; rfl, ?_, HC12.out⟩
          unfold turnP; rw [HFP.out]; simp only; rw [HO.out]; simp only; rw [← HQ.out, ← HSM.out]; exact ⟨_, H12.out⟩
theorem res_s4 {fn : Func} {tmps : Array Value} {w : World} {p b : Nat} {a : Nat → Int} (h : fn.results = #[.cell p 45]) (hp : tmps.getD p undef = .pointer (some ⟨b, 0, none⟩))
    (h0 : w.cell? ⟨b, 0, none⟩ = some (.int .i64 (a 0))) (h1 : w.cell? ⟨b, 1, none⟩ = some (.int .i64 (a 1))) (h2 : w.cell? ⟨b, 2, none⟩ = some (.int .i64 (a 2))) (h3 : w.cell? ⟨b, 3, none⟩ = some (.int .i64 (a 3))) (hb : b < w.heap.size) :
    (results fn tmps).run Try.prog w = .ok (S4 a) w := by
  simp only [results, h]
  have hp' : tmps[p]?.getD undef = .pointer (some ⟨b, 0, none⟩) := by simpa [Array.getD_eq_getD_getElem?] using hp
  have hl : (loadVar 45 ⟨b, 0, none⟩).run Try.prog w = .ok (S4 a) w := by simp [go_sem, h0, h1, h2, h3, hb]
  simp [Sem.run_bind, Result.andThen, hp', asAddr, hl]
set_option maxRecDepth 100000 in
set_option maxHeartbeats 4000000 in
theorem asum (h : AT W w tp M cap most F S) : Calls Try.prog 20 #[ptr tp] w fun e w' => e = .returned (S4 (sumA totA S)) ∧ Below w.heap.size w w' := by
  have hb := ba (Below.refl w.heap.size w) (.cells #[.int .i64 0, .int .i64 0, .int .i64 0, .int .i64 0] 45)
  have hz := heap_alloc_new w (.cells #[.int .i64 0, .int .i64 0, .int .i64 0, .int .i64 0] 45)
  have H := Lib.hid (h.below hb); have HB := Lib.hid hb; have HZ := Lib.hid hz
  clear h hb hz
  obtain ⟨A, hA⟩ : ∃ A, A = sumA totA S := ⟨_, rfl⟩
  rw [← hA]
  have HAQ := Lib.hid hA
  clear hA
  go_enter Try.func20, Try.ntmps20
  go_wp2_with fail
  generalize w.alloc (.cells #[.int .i64 0, .int .i64 0, .int .i64 0, .int .i64 0] 45) = w1 at *
  obtain ⟨b, hbq⟩ : ∃ b, b = w.heap.size := ⟨_, rfl⟩
  rw [← hbq] at HZ ⊢
  refine (amade H.out).mono ?_
  rintro e w2 ⟨rfl, hw2⟩
  rw [hw2]
  clear hw2 w2
  obtain ⟨-, -, -, s0, s1, s2, s3⟩ := H.out.cells
  have hl := H.out.lt.1
  have z0 : w1.cell? ⟨b, 0, none⟩ = some (.int .i64 0) := by simp [World.cell?, HZ.out]
  have z1 : w1.cell? ⟨b, 1, none⟩ = some (.int .i64 0) := by simp [World.cell?, HZ.out]
  have z2 : w1.cell? ⟨b, 2, none⟩ = some (.int .i64 0) := by simp [World.cell?, HZ.out]
  have z3 : w1.cell? ⟨b, 3, none⟩ = some (.int .i64 0) := by simp [World.cell?, HZ.out]
  have f0 : w1.frozen? ⟨b, 0, none⟩ = false := by simp [World.frozen?, HZ.out]
  have f1 : w1.frozen? ⟨b, 1, none⟩ = false := by simp [World.frozen?, HZ.out]
  have f2 : w1.frozen? ⟨b, 2, none⟩ = false := by simp [World.frozen?, HZ.out]
  have f3 : w1.frozen? ⟨b, 3, none⟩ = false := by simp [World.frozen?, HZ.out]
  have zl : b < w1.heap.size := (Array.getElem?_eq_some_iff.1 HZ.out).1
  rw [← HAQ.out] at s0 s1 s2 s3
  have o4 := heap_setCell_at (.int .i64 (A 3)) (heap_setCell_at (o := 2) (.int .i64 (A 2)) (heap_setCell_at (o := 1) (.int .i64 (A 1)) (heap_setCell_at (o := 0) (.int .i64 (A 0)) HZ.out))) (o := 3)
  have HO4 := Lib.hid o4
  have HB4 := Lib.hid (show Below b w1 ((((w1.setCell ⟨b, 0, none⟩ (.int .i64 (A 0))).setCell ⟨b, 1, none⟩ (.int .i64 (A 1))).setCell ⟨b, 2, none⟩ (.int .i64 (A 2))).setCell ⟨b, 3, none⟩ (.int .i64 (A 3))) from bs (p := ⟨b, 3, none⟩) (bs (p := ⟨b, 2, none⟩) (bs (p := ⟨b, 1, none⟩) (bs (p := ⟨b, 0, none⟩) (Below.refl b w1) (Nat.le_refl b) _) (Nat.le_refl b) _) (Nat.le_refl b) _) (Nat.le_refl b) _)
  clear o4
  have HBQ := Lib.hid hbq
  clear hbq
  go_wp2
  generalize (((w1.setCell ⟨b, 0, none⟩ (.int .i64 (A 0))).setCell ⟨b, 1, none⟩ (.int .i64 (A 1))).setCell ⟨b, 2, none⟩ (.int .i64 (A 2))).setCell ⟨b, 3, none⟩ (.int .i64 (A 3)) = w4 at *
  refine bodyPost_ret (res_s4 Try.results20 (a := A) rfl (by simp [World.cell?, HO4.out]) (by simp [World.cell?, HO4.out]) (by simp [World.cell?, HO4.out]) (by simp [World.cell?, HO4.out]) (Array.getElem?_eq_some_iff.1 HO4.out).1) rfl ?_
  refine ⟨rfl, ?_⟩
  rw [← HBQ.out]
  exact (by rw [HBQ.out]; exact HB.out : Below b w w1).trans HB4.out
end
end Go.Proofs.Ytennhfkhdfalfaa

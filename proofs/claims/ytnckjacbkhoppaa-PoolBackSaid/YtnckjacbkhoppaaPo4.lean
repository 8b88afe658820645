/- pool: check, execute, Run, Moved. -/
import Derived.Test.YtnckjacbkhoppaaPo3
namespace Go.Proofs.Ytnckjacbkhoppaa
open Go.RowKit Go.Maps
attribute [local go_sem] ext_cell ext_frozen extC_cell extC_frozen Mix.calmUpon Mix.mUpon
theorem field_st (fn : Nat) (caps : Array Value) (w : World) : (Instr.field 179 (.agg #[.func (.func fn) #[] caps]) 0).run Try.prog w = .ok (.func (.func fn) #[] caps) w := by
  have a1 := Try.isAgg177
  have z1 := Try.sizeOf177
  have u1 := Try.underlying177
  have f := run_underlying (P := Try.prog) Try.underlying179
  unfold Instr.field
  simp only [Sem.run_bind, f, Result.andThen_ok]
  go_simp
  rfl
/-- What operations leave, one upon the other. -/
def exS (role : Int) : List Pt → List Qo → List Pt × Int
  | P, [] => (P, 0)
  | P, o :: t => if (stS role P o.1 o.2.2).2 = 0 then exS role (stS role P o.1 o.2.2).1 t else stS role P o.1 o.2.2
/-- Operations that may be handed on. -/
def OG (l : List Po) : Prop := ∀ x ∈ l, I64s x.ps ∧ x.ps.length < 1000000
set_option maxRecDepth 100000 in
set_option maxHeartbeats 4000000 in
theorem execute_any {W : World} {pv ov : Value} {P : List Pt} {l : List Po} (role : Int) (hP : P.length < 1000000) (hA : Vc W pv P) (hO : OL W ov l) (hG : OG l) :
    Calls Try.prog 80 #[pv, .int .i64 role, ov] W (RetS W (exS role P (l.map Po.pl))) := by
  obtain ⟨a, n, c, rfl, hn, hc, hm, hat⟩ := hO.rs.at_
  have hn9 : n ≤ 9223372036854775807 := by unfold maxLen at hm; omega
  have HN := Lib.hid hn; have HAT := Lib.hid hat; have HVV := Lib.hid hO.vec; have HOG := Lib.hid hG
  have HCP := Lib.hid (vcopy_any pv P hP W hA)
  obtain ⟨pa, pc, rfl, -, -⟩ := hA.form
  have HPL := Lib.hid hP
  generalize hpn : P.length = pn at *
  have HPN := Lib.hid hpn
  clear hO hn hat hm hc hG hA hP hpn
  go_enter Try.func80, Try.ntmps80
  go_wp2_with fail
  go_step3
  go_wp2_with fail
  refine HCP.out.mono ?_
  rintro e w1 ⟨u, rfl, hu, hb1⟩
  have HI := Lib.hid (show Below W.heap.size W w1 ∧ Vc w1 u P ∧ P.length < 1000000000 ∧ exS role P ((l.drop 0).map Po.pl) = exS role P (l.map Po.pl) from ⟨hb1, hu.vc, by have := HPL.out; have := HPN.out; omega, rfl⟩)
  clear hu hb1
  go_wp2
  go_step3
  go_wp2
  go_loopw [8, 9, 16] (fun lv ev iv wr => ∃ (t : Nat) (Q : List Pt), t ≤ n ∧ iv = .int .i64 t ∧ ev = .int .i64 0 ∧ Hid (Below W.heap.size W wr ∧ Vc wr lv Q ∧ Q.length < 1000000000 ∧ exS role Q ((l.drop t).map Po.pl) = exS role P (l.map Po.pl))) (fun _ _ iv _ => n - (intOf iv).toNat)
  case atStart => exact ⟨0, P, Nat.zero_le _, rfl, rfl, HI⟩
  case round =>
    clear HI
    obtain ⟨t, Q, ht, rfl, rfl, HQ⟩ := hrel
    obtain ⟨w1, rfl⟩ : ∃ w1, w1 = wr := ⟨_, rfl⟩
    by_cases hlt : t < n
    · have hts : (t : Int) < (n : Int) := by omega
      obtain ⟨x, hx⟩ := at_lt (l := l) (i := t) (by rw [← HN.out]; exact hlt)
      have hd : l.drop t = x :: l.drop (t + 1) := by
        rw [List.drop_eq_getElem_cons (by rw [← HN.out]; exact hlt)]
        rw [(List.getElem?_eq_some_iff.1 hx).2]
      have hex := HQ.out.2.2.2
      rw [hd, List.map_cons, exS] at hex
      have HEX := Lib.hid hex
      clear hex hd
      obtain ⟨b, off, rfl, hb, hcell⟩ := HAT.out t x hx
      have d0 := (HQ.out.1.cell (p := ⟨b, _, none⟩) hb).trans (hcell 0 _ rfl)
      have d1 := (HQ.out.1.cell (p := ⟨b, _, none⟩) hb).trans (hcell 1 _ rfl)
      have d2 := (HQ.out.1.cell (p := ⟨b, _, none⟩) hb).trans (hcell 2 _ rfl)
      simp only [Nat.add_zero] at d0
      have q0 : b < w1.heap.size := Nat.lt_of_lt_of_le hb HQ.out.1.size
      have hv := (HVV.out x (mem_at hx)).on HQ.out.1
      have hog := HOG.out x (mem_at hx)
      obtain ⟨xk, xi, xv, xs⟩ := x
      obtain ⟨va, vc, hvv, -, -⟩ := hv.form
      simp only at hvv d0 d1 d2 hv hog
      subst hvv
      have hba1 := ba (Below.refl w1.heap.size w1) (.cells #[.int .i64 xk, .int .i64 xi, .slice va xs.length vc] 40)
      have HBA := Lib.hid (HQ.out.1.trans (hba1.mono HQ.out.1.size))
      have HST := Lib.hid (stepOf_any role xk xi (hv.on hba1) hog.1 hog.2)
      clear hcell hx hb hv hba1 hog
      simp only [Po.pl] at HEX
      generalize xs.length = xn at *
      go_wp2_with fail
      refine HST.out.mono ?_
      rintro e w2 ⟨fn, caps, rfl, hd, hb2⟩
      have hcf := hd.cf
      have hfs := fun w => field_st fn caps w
      have HD := Lib.hid hd
      have HB2 := Lib.hid (bt HBA.out hb2)
      have HCL := Lib.hid (hd.call w2 u8 Q (Chg.refl _ _) (HQ.out.2.1.on (show Below w1.heap.size w1 w2 from bt (ba (Below.refl _ _) _) hb2)) HQ.out.2.2.1)
      clear hd hb2 d0 d1 d2 q0
      go_wp2_with fail
      refine HCL.out.mono ?_
      rintro e w3 ⟨v3, rfl, hv3, hb3⟩
      have HB3 := Lib.hid (bt HB2.out hb3)
      have HV3 := Lib.hid hv3
      clear hv3 hb3 hcf hfs
      by_cases he : (stS role Q xk xs).2 = 0
      · have HNX := Lib.hid (show exS role (stS role Q xk xs).1 ((l.drop (t + 1)).map Po.pl) = exS role P (l.map Po.pl) from (if_pos he).symm.trans HEX.out)
        rw [he]
        have HLN := Lib.hid (show (stS role Q xk xs).1.length < 1000000000 from by have := stS_len (role := role) (P := Q) (k := xk) (ps := xs); omega)
        clear he
        go_wp2
        go_roundw
        case rel => exact ⟨t + 1, _, by omega, by go_num, rfl, Lib.hid ⟨HB3.out, HV3.out, HLN.out, HNX.out⟩⟩
        case measure => simp [intOf]; omega
      · have heb : ((stS role Q xk xs).2 != 0) = true := by simpa using he
        have HNX := Lib.hid (show stS role Q xk xs = exS role P (l.map Po.pl) from (if_neg he).symm.trans HEX.out)
        have HR := Lib.hid (show RetS W (exS role P (l.map Po.pl)) (.returned (.tuple #[v3, .int .i64 (stS role Q xk xs).2])) w3 from by
          rw [← HNX.out]
          exact ⟨_, rfl, HV3.out, HB3.out⟩)
        clear he HEX HNX HCL HV3
        generalize (stS role Q xk xs).2 = er at *
        go_wp2
        rw [Exit.noGoto_ret]
        refine bodyPost_ret (res_2 Try.results80) rfl ?_
        exact HR.out
    · obtain rfl : n = t := by omega
      have HR := Lib.hid (show RetS W (exS role P (l.map Po.pl)) (.returned (.tuple #[u8, .int .i64 0])) w1 from by
        have h := HQ.out.2.2.2
        rw [List.drop_eq_nil_of_le (by rw [← HN.out]; exact Nat.le_refl _)] at h
        rw [← h]
        exact ⟨_, rfl, HQ.out.2.1, HQ.out.1⟩)
      go_wp2
      rw [Exit.noGoto_ret]
      refine bodyPost_ret (res_2 Try.results80) rfl ?_
      exact HR.out
theorem all_take {α : Type} {l : List α} {p : α → Bool} {t : Nat} {x : α} (hx : l[t]? = some x) (h : (l.take t).all p = true) : (p x = false → l.all p = false) ∧ (p x = true → (l.take (t + 1)).all p = true) :=
  by
  refine ⟨fun hp => ?_, fun hp => by rw [take_at hx, List.all_append, h]; simp [hp]⟩
  cases hq : l.all p with
  | false => rfl
  | true => have := List.all_eq_true.1 hq x (mem_at hx); rw [hp] at this; cases this
set_option maxRecDepth 100000 in
set_option maxHeartbeats 4000000 in
theorem check_any {W : World} {pv ov : Value} {P : List Pt} {l : List Po} (role : Int) (hP : P.length < 1000000) (hA : Vc W pv P) (hO : OL W ov l) (hG : OG l) :
    Calls Try.prog 79 #[pv, .int .i64 role, ov] W fun e w' => e = .returned (.int .i64 (chkE P role (l.map Po.pl))) ∧ Below W.heap.size W w' := by
  have HFO := Lib.hid fun w (hb : Below W.heap.size W w) => Foreign_any role ov l (fun x hx => (hG x hx).2) w (hO.below hb)
  obtain ⟨a, n, c, rfl, hn, hc, hm, hat⟩ := hO.rs.at_
  have hn9 : n ≤ 9223372036854775807 := by unfold maxLen at hm; omega
  have HN := Lib.hid hn; have HAT := Lib.hid hat; have HVV := Lib.hid hO.vec; have HOG := Lib.hid hG
  have HRT := Lib.hid (vecright_v pv P (by omega) W hA)
  obtain ⟨pa, pc, rfl, -, -⟩ := hA.form
  generalize P.length = pn at *
  clear hO hn hat hm hc hG hA hP
  by_cases hv : VR P
  · have hd : decide (VR P) = true := decide_eq_true hv
    rw [hd] at HRT
    by_cases h1 : role < 1
    · have h1d : decide (role < 1) = true := decide_eq_true h1
      have HR := Lib.hid (show chkE P role (l.map Po.pl) = 41 from by unfold chkE; rw [if_neg (fun h => by have := h.2.1; omega)])
      clear hv hd h1
      go_enter Try.func79, Try.ntmps79
      go_wp2_with fail
      refine HRT.out.mono ?_
      rintro e w1 ⟨rfl, hb1⟩
      have HBA := Lib.hid hb1
      clear hb1
      go_wp2
      go_ret
      exact ⟨by rw [HR.out]; rfl, HBA.out⟩
    · have h1d : decide (role < 1) = false := decide_eq_false h1
      by_cases h2 : 32 < role
      · have h2d : decide (32 < role) = true := decide_eq_true h2
        have HR := Lib.hid (show chkE P role (l.map Po.pl) = 41 from by unfold chkE; rw [if_neg (fun h => by have := h.2.2; omega)])
        clear hv hd h1 h2
        go_enter Try.func79, Try.ntmps79
        go_wp2_with fail
        refine HRT.out.mono ?_
        rintro e w1 ⟨rfl, hb1⟩
        have HBA := Lib.hid hb1
        clear hb1
        go_wp2
        go_ret
        exact ⟨by rw [HR.out]; rfl, HBA.out⟩
      · have h2d : decide (32 < role) = false := decide_eq_false h2
        have HV := Lib.hid (show VR P ∧ 1 ≤ role ∧ role ≤ 32 from ⟨hv, by omega, by omega⟩)
        clear hv hd h1 h2
        go_enter Try.func79, Try.ntmps79
        go_wp2_with fail
        refine HRT.out.mono ?_
        rintro e w0 ⟨rfl, hb1⟩
        have HI := Lib.hid (show Below W.heap.size W w0 ∧ (l.take 0).all (fun x => okO x.pl) = true from ⟨hb1, by simp⟩)
        clear hb1
        go_wp2
        go_loopw [22] (fun iv wr => ∃ t : Nat, t ≤ n ∧ iv = .int .i64 t ∧ Hid (Below W.heap.size W wr ∧ (l.take t).all (fun x => okO x.pl) = true)) (fun iv _ => n - (intOf iv).toNat)
        case atStart => exact ⟨0, Nat.zero_le _, rfl, HI⟩
        case round =>
          clear HI
          obtain ⟨t, ht, rfl, HQ⟩ := hrel
          obtain ⟨w1, rfl⟩ : ∃ w1, w1 = wr := ⟨_, rfl⟩
          by_cases hlt : t < n
          · have hts : (t : Int) < (n : Int) := by omega
            obtain ⟨x, hx⟩ := at_lt (l := l) (i := t) (by rw [← HN.out]; exact hlt)
            have HA := Lib.hid (all_take hx HQ.out.2)
            obtain ⟨b, off, rfl, hb, hcell⟩ := HAT.out t x hx
            have d0 := (HQ.out.1.cell (p := ⟨b, _, none⟩) hb).trans (hcell 0 _ rfl)
            have d1 := (HQ.out.1.cell (p := ⟨b, _, none⟩) hb).trans (hcell 1 _ rfl)
            have d2 := (HQ.out.1.cell (p := ⟨b, _, none⟩) hb).trans (hcell 2 _ rfl)
            simp only [Nat.add_zero] at d0
            have q0 : b < w1.heap.size := Nat.lt_of_lt_of_le hb HQ.out.1.size
            have hv := (HVV.out x (mem_at hx)).on HQ.out.1
            have hog := HOG.out x (mem_at hx)
            obtain ⟨xk, xi, xv, xs⟩ := x
            obtain ⟨va, vc, hvv, -, -⟩ := hv.form
            simp only at hvv d0 d1 d2 hv hog
            subst hvv
            have hba1 := ba (Below.refl w1.heap.size w1) (.cells #[.int .i64 xk, .int .i64 xi, .slice va xs.length vc] 40)
            have HBA := Lib.hid (HQ.out.1.trans (hba1.mono HQ.out.1.size))
            simp only [Po.pl] at HA
            have HVX := Lib.hid (hv.on hba1)
            have HOX := Lib.hid hog
            generalize hxn : xs.length = xn at *
            have HXN := Lib.hid hxn
            clear hcell hx hb hv hba1 hog hxn
            by_cases g1 : xk < 1
            · have g1d : decide (xk < 1) = true := decide_eq_true g1
              have HR := Lib.hid (show chkE P role (l.map Po.pl) = 41 from by
                have h := HA.out.1 (show okO (xk, xi, xs) = false from by unfold okO; simp; omega)
                unfold chkE
                rw [if_pos HV.out, List.all_map, show l.all (okO ∘ Po.pl) = false from h]; rfl)
              clear g1
              go_wp2
              go_ret
              exact ⟨by rw [HR.out]; rfl, HBA.out⟩
            · have g1d : decide (xk < 1) = false := decide_eq_false g1
              by_cases g2 : 3 < xk
              · have g2d : decide (3 < xk) = true := decide_eq_true g2
                have HR := Lib.hid (show chkE P role (l.map Po.pl) = 41 from by
                  have h := HA.out.1 (show okO (xk, xi, xs) = false from by unfold okO; simp; omega)
                  unfold chkE
                  rw [if_pos HV.out, List.all_map, show l.all (okO ∘ Po.pl) = false from h]; rfl)
                clear g1 g2
                go_wp2
                go_ret
                exact ⟨by rw [HR.out]; rfl, HBA.out⟩
              · have g2d : decide (3 < xk) = false := decide_eq_false g2
                by_cases g3 : xn = 0
                · have g3b : ((xn : Int) == 0) = true := by simp [g3]
                  have HR := Lib.hid (show chkE P role (l.map Po.pl) = 41 from by
                    have hnil : xs = [] := List.eq_nil_of_length_eq_zero (by rw [HXN.out]; exact g3)
                    have h := HA.out.1 (show okO (xk, xi, xs) = false from by unfold okO; simp [hnil])
                    unfold chkE
                    rw [if_pos HV.out, List.all_map, show l.all (okO ∘ Po.pl) = false from h]; rfl)
                  clear g1 g2 g3
                  go_wp2
                  go_ret
                  exact ⟨by rw [HR.out]; rfl, HBA.out⟩
                · have g3b : ((xn : Int) == 0) = false := by simp [g3]
                  have hrt := vecright_v (.slice va xn vc) xs (by rw [HXN.out]; have := HOX.out.2; omega) _ HVX.out
                  by_cases g4 : VR xs
                  · rw [decide_eq_true g4] at hrt
                    have HRX := Lib.hid hrt
                    have HOK := Lib.hid (HA.out.2 (show okO (xk, xi, xs) = true from by
                      unfold okO
                      exact decide_eq_true ⟨by show 1 ≤ xk; omega, by show xk ≤ 3; omega, fun h => g3 (by rw [← HXN.out]; exact congrArg List.length h), g4⟩))
                    clear g1 g2 g3 g4 hrt
                    go_wp2_with fail
                    refine HRX.out.mono ?_
                    rintro e w2 ⟨rfl, hb2⟩
                    have HB2 := Lib.hid (bt HBA.out hb2)
                    clear hb2
                    go_wp2
                    go_roundw
                    case rel => exact ⟨t + 1, by omega, by go_num, Lib.hid ⟨HB2.out, HOK.out⟩⟩
                    case measure => simp [intOf]; omega
                  · rw [decide_eq_false g4] at hrt
                    have HRX := Lib.hid hrt
                    have HR := Lib.hid (show chkE P role (l.map Po.pl) = 41 from by
                      have h := HA.out.1 (show okO (xk, xi, xs) = false from by unfold okO; exact decide_eq_false fun h => g4 h.2.2.2)
                      unfold chkE
                      rw [if_pos HV.out, List.all_map, show l.all (okO ∘ Po.pl) = false from h]; rfl)
                    clear g1 g2 g3 g4 hrt
                    go_wp2_with fail
                    refine HRX.out.mono ?_
                    rintro e w2 ⟨rfl, hb2⟩
                    have HBA := Lib.hid (bt HBA.out hb2)
                    clear hb2
                    go_wp2
                    go_ret
                    exact ⟨by rw [HR.out]; rfl, HBA.out⟩
          · obtain rfl : n = t := by omega
            have HF := Lib.hid (HFO.out w1 HQ.out.1)
            have hall : l.all (okO ∘ Po.pl) = true := by have := HQ.out.2; rw [HN.out, List.take_length] at this; exact this
            have hch : chkE P role (l.map Po.pl) = if forB role (l.map Po.pl) then 27 else 0 := by unfold chkE; rw [if_pos HV.out, List.all_map, hall]; rfl
            have HCH := Lib.hid hch
            clear hall hch
            cases hq : forB role (l.map Po.pl) with
            | true =>
              rw [hq] at HF HCH
              clear hq
              go_wp2_with fail
              refine HF.out.mono ?_
              rintro e w2 ⟨rfl, hb2⟩
              have HB2 := Lib.hid (bt HQ.out.1 hb2)
              clear hb2
              go_wp2
              go_ret
              exact ⟨by rw [HCH.out]; rfl, HB2.out⟩
            | false =>
              rw [hq] at HF HCH
              clear hq
              go_wp2_with fail
              refine HF.out.mono ?_
              rintro e w2 ⟨rfl, hb2⟩
              have HB2 := Lib.hid (bt HQ.out.1 hb2)
              clear hb2
              go_wp2
              go_ret
              exact ⟨by rw [HCH.out]; rfl, HB2.out⟩
  · have hd : decide (VR P) = false := decide_eq_false hv
    rw [hd] at HRT
    have HR := Lib.hid (show chkE P role (l.map Po.pl) = 41 from by unfold chkE; rw [if_neg (fun h => hv h.1)])
    clear hv hd
    go_enter Try.func79, Try.ntmps79
    go_wp2_with fail
    refine HRT.out.mono ?_
    rintro e w1 ⟨rfl, hb1⟩
    have HBA := Lib.hid hb1
    clear hb1
    go_wp2
    go_ret
    exact ⟨by rw [HR.out]; rfl, HBA.out⟩
/-- What Run answers. -/
def runS (P : List Pt) (role : Int) (l : List Qo) : List Pt × Int := if chkE P role l = 0 then exS role P l else ([], chkE P role l)
set_option maxRecDepth 100000 in
theorem Run_any {W : World} {pv ov : Value} {P : List Pt} {l : List Po} (role : Int) (hP : P.length < 1000000) (hA : Vc W pv P) (hO : OL W ov l) (hG : OG l) :
    Calls Try.prog 21 #[pv, .int .i64 role, ov] W (RetS W (runS P role (l.map Po.pl))) := by
  have HC := Lib.hid (check_any role hP hA hO hG)
  have HE := Lib.hid fun w (hb : Below W.heap.size W w) => execute_any role hP (hA.on hb) (hO.below hb) hG
  clear hA hO hG hP
  by_cases h0 : chkE P role (l.map Po.pl) = 0
  · have HW := Lib.hid (show runS P role (l.map Po.pl) = exS role P (l.map Po.pl) from if_pos h0)
    rw [h0] at HC
    clear h0
    go_enter Try.func21, Try.ntmps21
    go_wp2_with fail
    refine HC.out.mono ?_
    rintro e w1 ⟨rfl, hb1⟩
    have HB1 := Lib.hid hb1
    have HE1 := Lib.hid (HE.out w1 hb1)
    clear hb1
    go_wp2_with fail
    refine HE1.out.mono ?_
    rintro e w2 ⟨v2, rfl, hv2, hb2⟩
    have HR := Lib.hid (show RetS W (runS P role (l.map Po.pl)) (.returned (.tuple #[v2, .int .i64 (exS role P (l.map Po.pl)).2])) w2 from by
      rw [HW.out]; exact ⟨_, rfl, hv2, bt HB1.out hb2⟩)
    clear hv2 hb2
    generalize (exS role P (l.map Po.pl)).2 = er at *
    go_wp2
    refine bodyPost_ret (res_2 Try.results21) rfl ?_
    exact HR.out
  · have HW := Lib.hid (show runS P role (l.map Po.pl) = ([], chkE P role (l.map Po.pl)) from if_neg h0)
    have hb0 : (chkE P role (l.map Po.pl) != 0) = true := by simpa using h0
    clear h0
    go_enter Try.func21, Try.ntmps21
    go_wp2_with fail
    refine HC.out.mono ?_
    rintro e w1 ⟨rfl, hb1⟩
    have HR := Lib.hid (show RetS W (runS P role (l.map Po.pl)) (.returned (.tuple #[.slice none 0 0, .int .i64 (chkE P role (l.map Po.pl))])) w1 from by
      rw [HW.out]; exact ⟨_, rfl, Vc.nil _, hb1⟩)
    clear hb1 HW HC
    generalize chkE P role (l.map Po.pl) = er at *
    go_wp2
    refine bodyPost_ret (res_2 Try.results21) rfl ?_
    exact HR.out
end Go.Proofs.Ytnckjacbkhoppaa

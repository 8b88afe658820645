/- pool: what the law PoolBack reckons. -/
import Derived.Test.YtnckjacbkhoppaaPb1
namespace Go.Proofs.Ytnckjacbkhoppaa
open Go.RowKit Go.Maps
attribute [local go_sem] ext_cell ext_frozen extC_cell extC_frozen Mix.calmUpon Mix.mUpon
theorem OL.nil (w : World) : OL w (.slice none 0 0) [] := ⟨⟨none, 0, rfl, Nat.le_refl _, by decide, fun h => absurd h (by simp)⟩, fun x hx => by cases hx⟩
theorem fewO_nil : FewO [] := ⟨by decide, fun x hx => by cases hx⟩
/-- One operation, made. -/
theorem ol_one {w : World} {u : Value} {S : List Pt} (k i : Int) (h : Vc w u S) : OL (w.alloc (.cells #[.int .i64 k, .int .i64 i, u] 40)) (.slice (some ⟨w.heap.size, 0, none⟩) 1 1) [⟨k, i, u, S⟩] :=
  ⟨rs_made' (k := 3) (enc := poenc) (l := [⟨k, i, u, S⟩]) (cap := 1) (fun _ => rfl) (heap_alloc_new w _) (Nat.le_refl _) (by decide), fun x hx => by
    rw [List.mem_singleton.1 hx]; exact h.on (ba (Below.refl _ _) _)⟩
theorem ol_two {w : World} {u u' : Value} {S S' : List Pt} (k i k' i' : Int) (h : Vc w u S) (h' : Vc w u' S') : OL (w.alloc (.cells #[.int .i64 k, .int .i64 i, u, .int .i64 k', .int .i64 i', u'] 40)) (.slice (some ⟨w.heap.size, 0, none⟩) 2 2) [⟨k, i, u, S⟩, ⟨k', i', u', S'⟩] :=
  ⟨rs_made' (k := 3) (enc := poenc) (l := [⟨k, i, u, S⟩, ⟨k', i', u', S'⟩]) (cap := 2) (fun _ => rfl) (heap_alloc_new w _) (Nat.le_refl _) (by decide), fun x hx => by
    rcases List.mem_cons.1 hx with rfl | hx
    · exact h.on (ba (Below.refl _ _) _)
    · rw [List.mem_singleton.1 hx]; exact h'.on (ba (Below.refl _ _) _)⟩
theorem og_two {x y : Po} (hx : I64s x.ps ∧ x.ps.length < 1000000) (hy : I64s y.ps ∧ y.ps.length < 1000000) : OG [x, y] := fun z hz => by
  rcases List.mem_cons.1 hz with rfl | hz
  · exact hx
  · rw [List.mem_singleton.1 hz]; exact hy
theorem og_one {x : Po} (hx : I64s x.ps ∧ x.ps.length < 1000000) : OG [x] := fun z hz => by
  rw [List.mem_singleton.1 hz]; exact hx
theorem vr_i64 {l : List Pt} (h : VR l) : I64s l := fun p hp => by
  obtain ⟨⟨a, b, c, d⟩, e, f⟩ := h.1 p hp
  refine ⟨⟨?_, ?_⟩, ⟨?_, ?_⟩, ⟨?_, ?_⟩⟩ <;> omega
set_option maxRecDepth 100000 in
set_option maxHeartbeats 4000000 in
theorem back15 (W : World) {pv sv : Value} {P S : List Pt} (role : Int) (hA : Vc W pv P) (hS : Vc W sv S) (hI : I64s S) : Calls Try.prog 5 #[pv, .int .i64 role, sv] W fun e W' => e = .returned (.bool true) ∧ Below W.heap.size W W' := by
  have HF := Lib.hid (few15 (OL.nil W) hA)
  have HA := Lib.hid hA; have HS := Lib.hid hS; have HI := Lib.hid hI
  obtain ⟨sa, sc, rfl, -, -⟩ := hS.form
  obtain ⟨pa, pc, rfl, -, -⟩ := hA.form
  clear hA hI hS
  obtain ⟨pm, hpm⟩ : ∃ m, m = P.length := ⟨_, rfl⟩
  rw [← hpm] at HF HA ⊢
  have HPM := Lib.hid hpm
  obtain ⟨sm, hsm⟩ : ∃ m, m = S.length := ⟨_, rfl⟩
  rw [← hsm] at HS ⊢
  have HSM := Lib.hid hsm
  rw [show (decide (pm ≤ 150) && decide (FewO [])) = decide (pm ≤ 150) from by rw [decide_eq_true fewO_nil, Bool.and_true]] at HF
  clear hpm hsm
  go_enter Try.func5, Try.ntmps5
  by_cases hp : pm ≤ 150
  · rw [decide_eq_true hp] at HF
    have HP := Lib.hid hp
    clear hp
    by_cases hs : sm ≤ 150
    · have hsI : ¬ (150 : Int) < (sm : Int) := by omega
      have HSL := Lib.hid hs
      clear hs
      go_wp2_with fail
      refine HF.out.mono ?_
      rintro e w1 ⟨rfl, hb1⟩
      have HB1 := Lib.hid hb1
      have HM := Lib.hid (vmove_any _ S 0 role HI.out (by have := HSL.out; have := HSM.out; omega) w1 (HS.out.on hb1))
      clear hb1 HF
      go_wp2_with fail
      refine HM.out.mono ?_
      rintro e w2 ⟨tv, rfl, htv, hb2⟩
      have HB2 := Lib.hid (bt HB1.out hb2)
      clear hb2 HM
      cases hmv : mvO S 0 role with
      | none =>
        rw [hmv] at htv
        obtain ⟨ta, tc, rfl, -, -⟩ := htv.form
        have HK := Lib.hid (works15 w2)
        clear htv hmv
        rw [show (none : Option (List Pt)).isSome = false from rfl]
        go_wp2_with fail
        refine HK.out.mono ?_
        rintro e w7 ⟨rfl, hb7⟩
        have HB7 := Lib.hid (bt HB2.out hb7)
        clear hb7
        go_wp2
        go_ret
        exact ⟨rfl, HB7.out⟩
      | some T =>
        rw [hmv] at htv
        replace htv : Vc w2 tv T := htv
        obtain ⟨ta, tc, rfl, -, -⟩ := htv.form
        rw [show (some T : Option (List Pt)).isSome = true from rfl]
        have HMV := Lib.hid hmv
        have HTL := Lib.hid (vr_len (mvO_some hmv).2.2.2.1)
        have HTI := Lib.hid (vr_i64 (mvO_some hmv).2.2.2.1)
        obtain ⟨tm, htm⟩ : ∃ m, m = T.length := ⟨_, rfl⟩
        rw [← htm] at htv ⊢
        have HTV := Lib.hid htv
        clear htv hmv htm
        by_cases hr1 : role < 1
        · have HK := Lib.hid (works15 w2)
          go_wp2_with fail
          refine HK.out.mono ?_
          rintro e w7 ⟨rfl, hb7⟩
          have HB7 := Lib.hid (bt HB2.out hb7)
          clear hb7
          go_wp2
          go_ret
          exact ⟨rfl, HB7.out⟩
        · by_cases hs0 : sm = 0
          · subst hs0
            have HK := Lib.hid (works15 w2)
            go_wp2_with fail
            refine HK.out.mono ?_
            rintro e w7 ⟨rfl, hb7⟩
            have HB7 := Lib.hid (bt HB2.out hb7)
            clear hb7
            go_wp2
            go_ret
            exact ⟨rfl, HB7.out⟩
          · have hsb : ((sm : Int) == 0) = false := by simp; omega
            clear hs0
            obtain ⟨w3, hw3⟩ : ∃ u, w2.alloc (.cells #[.int .i64 2, .int .i64 0, .slice sa sm sc, .int .i64 3, .int .i64 0, .slice ta tm tc] 40) = u := ⟨_, rfl⟩
            have b3 : Below w2.heap.size w2 w3 := by rw [← hw3]; exact ba (Below.refl _ _) _
            have o3 := ol_two (w := w2) 2 0 3 0 (HS.out.on HB2.out) HTV.out
            rw [hw3] at o3
            have hr3 := Run_any role (by have := HP.out; have := HPM.out; omega) (HA.out.on (bt HB2.out b3)) o3 (og_two ⟨HI.out, by show S.length < 1000000; have := HSL.out; have := HSM.out; omega⟩ ⟨HTI.out, by show T.length < 1000000; have := HTL.out; omega⟩)
            rw [show List.map Po.pl [⟨2, 0, .slice sa sm sc, S⟩, ⟨3, 0, .slice ta tm tc, T⟩] = [(2, 0, S), (3, 0, T)] from rfl] at hr3
            have HBK := Lib.hid (back_one (P := P) HMV.out)
            obtain ⟨R, hR⟩ : ∃ r, r = runS P role [(2, 0, S), (3, 0, T)] := ⟨_, rfl⟩
            rw [← hR] at hr3 HBK
            obtain ⟨rl, re⟩ := R
            have HR3 := Lib.hid hr3
            have HB3 := Lib.hid (bt HB2.out b3)
            clear b3 o3 hr3 hR HTV
            go_wp2_with fail
            clear hw3
            refine HR3.out.mono ?_
            rintro e w4 ⟨rv, rfl, hrv, hb4⟩
            have HB4 := Lib.hid (bt HB3.out hb4)
            obtain ⟨ra, rc, rfl, -, -⟩ := hrv.form
            obtain ⟨rm, hrm⟩ : ∃ m, m = rl.length := ⟨_, rfl⟩
            rw [← hrm] at hrv ⊢
            have HRV := Lib.hid hrv; have HRM := Lib.hid hrm
            clear hrv hrm hb4 HR3
            by_cases re0 : re = 0
            · subst re0
              obtain rfl : P = rl := (HBK.out.1 rfl).symm
              have HSA := Lib.hid (same_any (.slice ra rm rc) (.slice pa pm pc) P P (by have := HP.out; have := HPM.out; omega) w4 ⟨HRV.out, HA.out.on HB4.out⟩)
              rw [decide_eq_true (rfl : P = P)] at HSA
              clear HBK
              go_wp2_with fail
              refine HSA.out.mono ?_
              rintro e w5 ⟨rfl, hb5⟩
              have HB5 := Lib.hid (bt HB4.out hb5)
              clear hb5 HSA
              obtain ⟨x1, hx1⟩ : ∃ u, w5.alloc (.cells #[.int .i64 1, .int .i64 1, .slice sa sm sc] 40) = u := ⟨_, rfl⟩
              have bx1 : Below w5.heap.size w5 x1 := by rw [← hx1]; exact ba (Below.refl _ _) _
              have ox1 := ol_one (w := w5) 1 1 (HS.out.on HB5.out)
              rw [hx1] at ox1
              have hr1 := Run_any role (by have := HP.out; have := HPM.out; omega) (HA.out.on (bt HB5.out bx1)) ox1 (og_one ⟨HI.out, by show S.length < 1000000; have := HSL.out; have := HSM.out; omega⟩)
              rw [show List.map Po.pl [⟨1, 1, .slice sa sm sc, S⟩] = [(1, 1, S)] from rfl] at hr1
              have HOT := Lib.hid (once_two (P := P) (S := S) (role := role))
              have HAL := Lib.hid (show (runS P role [(1, 1, S)]).2 = 0 → (runS P role [(1, 1, S)]).1.length ≤ 132 from fun h => vr_len ((run_ok P role [(1, 1, S)]).2 h).2.2.1)
              obtain ⟨A1, hA1⟩ : ∃ r, r = runS P role [(1, 1, S)] := ⟨_, rfl⟩
              rw [← hA1] at hr1 HOT HAL
              obtain ⟨al, fe⟩ := A1
              have HR1 := Lib.hid hr1
              have HBX1 := Lib.hid (bt HB5.out bx1)
              clear bx1 ox1 hr1 hA1
              go_wp2_with fail
              clear hx1
              refine HR1.out.mono ?_
              rintro e x2 ⟨av, rfl, hav, hb2⟩
              obtain ⟨aa, ac, rfl, -, -⟩ := hav.form
              obtain ⟨am, ham⟩ : ∃ m, m = al.length := ⟨_, rfl⟩
              rw [← ham] at hav ⊢
              have HAV := Lib.hid hav
              have HBX2 := Lib.hid (bt HBX1.out hb2)
              clear hav hb2 ham HR1
              obtain ⟨x3, hx3⟩ : ∃ u, x2.alloc (.cells #[.int .i64 1, .int .i64 1, .slice sa sm sc, .int .i64 1, .int .i64 2, .slice sa sm sc] 40) = u := ⟨_, rfl⟩
              have bx3 : Below x2.heap.size x2 x3 := by rw [← hx3]; exact ba (Below.refl _ _) _
              have ox3 := ol_two (w := x2) 1 1 1 2 (HS.out.on HBX2.out) (HS.out.on HBX2.out)
              rw [hx3] at ox3
              have hr3 := Run_any role (by have := HP.out; have := HPM.out; omega) (HA.out.on (bt HBX2.out bx3)) ox3 (og_two ⟨HI.out, by show S.length < 1000000; have := HSL.out; have := HSM.out; omega⟩ ⟨HI.out, by show S.length < 1000000; have := HSL.out; have := HSM.out; omega⟩)
              rw [show List.map Po.pl [⟨1, 1, .slice sa sm sc, S⟩, ⟨1, 2, .slice sa sm sc, S⟩] = [(1, 1, S), (1, 2, S)] from rfl] at hr3
              obtain ⟨A2, hA2⟩ : ∃ r, r = runS P role [(1, 1, S), (1, 2, S)] := ⟨_, rfl⟩
              rw [← hA2] at hr3 HOT
              obtain ⟨bl, ge⟩ := A2
              have HR3 := Lib.hid hr3
              have HBX3 := Lib.hid (bt HBX2.out bx3)
              have HAV3 := Lib.hid (HAV.out.on bx3)
              clear bx3 ox3 hr3 hA2 HAV
              go_wp2_with fail
              clear hx3
              refine HR3.out.mono ?_
              rintro e x4 ⟨bv, rfl, -, hb4⟩
              have HBX4 := Lib.hid (bt HBX3.out hb4)
              have HAV4 := Lib.hid (HAV3.out.on hb4)
              clear hb4 HR3 HAV3
              by_cases hfe : fe = 0
              · subst hfe
                have HH := Lib.hid (vholds_any (.slice aa am ac) (.slice sa sm sc) al S (by have h : al.length ≤ 132 := HAL.out rfl; omega) (by have := HSL.out; have := HSM.out; omega) x4 ⟨HAV4.out, HS.out.on HBX4.out⟩)
                have hot := HOT.out rfl
                by_cases hge : ge = 0
                · have hgb : (ge == 0) = true := by simp [hge]
                  rw [hot.1 hge] at HH
                  clear hge hot HOT
                  go_wp2_with fail
                  refine HH.out.mono ?_
                  rintro e x5 ⟨rfl, hb5⟩
                  have HBX5 := Lib.hid (bt HBX4.out hb5)
                  clear hb5
                  have HK := Lib.hid (works15 x5)
                  go_wp2_with fail
                  refine HK.out.mono ?_
                  rintro e x7 ⟨rfl, hb7⟩
                  have HB7 := Lib.hid (bt HBX5.out hb7)
                  clear hb7 HK
                  go_wp2
                  go_ret
                  exact ⟨rfl, HB7.out⟩
                · have hgb : (ge == 0) = false := by simp [hge]
                  rw [show (mrg gSub al S).isSome = false from by cases hq : (mrg gSub al S).isSome with | false => rfl | true => exact absurd (hot.2 hq) hge] at HH
                  clear hge hot HOT
                  go_wp2_with fail
                  refine HH.out.mono ?_
                  rintro e x5 ⟨rfl, hb5⟩
                  have HBX5 := Lib.hid (bt HBX4.out hb5)
                  clear hb5
                  have HK := Lib.hid (works15 x5)
                  go_wp2_with fail
                  refine HK.out.mono ?_
                  rintro e x7 ⟨rfl, hb7⟩
                  have HB7 := Lib.hid (bt HBX5.out hb7)
                  clear hb7 HK
                  go_wp2
                  go_ret
                  exact ⟨rfl, HB7.out⟩
              · have hfn : (fe != 0) = true := by simp [hfe]
                clear HOT
                have HK := Lib.hid (works15 x4)
                go_wp2_with fail
                refine HK.out.mono ?_
                rintro e x7 ⟨rfl, hb7⟩
                have HB7 := Lib.hid (bt HBX4.out hb7)
                clear hb7 HK
                go_wp2
                go_ret
                exact ⟨rfl, HB7.out⟩
            · have r0 : (re == 0) = false := by simp [re0]
              by_cases re30 : re = 30
              · subst re30
                have HHA := Lib.hid (vholds_any (.slice pa pm pc) (.slice sa sm sc) P S (by have := HP.out; have := HPM.out; omega) (by have := HSL.out; have := HSM.out; omega) w4 ⟨HA.out.on HB4.out, HS.out.on HB4.out⟩)
                rw [HBK.out.2.1 rfl] at HHA
                clear HBK re0
                go_wp2_with fail
                refine HHA.out.mono ?_
                rintro e w5 ⟨rfl, hb5⟩
                have HB5 := Lib.hid (bt HB4.out hb5)
                clear hb5 HHA
                obtain ⟨x1, hx1⟩ : ∃ u, w5.alloc (.cells #[.int .i64 1, .int .i64 1, .slice sa sm sc] 40) = u := ⟨_, rfl⟩
                have bx1 : Below w5.heap.size w5 x1 := by rw [← hx1]; exact ba (Below.refl _ _) _
                have ox1 := ol_one (w := w5) 1 1 (HS.out.on HB5.out)
                rw [hx1] at ox1
                have hr1 := Run_any role (by have := HP.out; have := HPM.out; omega) (HA.out.on (bt HB5.out bx1)) ox1 (og_one ⟨HI.out, by show S.length < 1000000; have := HSL.out; have := HSM.out; omega⟩)
                rw [show List.map Po.pl [⟨1, 1, .slice sa sm sc, S⟩] = [(1, 1, S)] from rfl] at hr1
                have HOT := Lib.hid (once_two (P := P) (S := S) (role := role))
                have HAL := Lib.hid (show (runS P role [(1, 1, S)]).2 = 0 → (runS P role [(1, 1, S)]).1.length ≤ 132 from fun h => vr_len ((run_ok P role [(1, 1, S)]).2 h).2.2.1)
                obtain ⟨A1, hA1⟩ : ∃ r, r = runS P role [(1, 1, S)] := ⟨_, rfl⟩
                rw [← hA1] at hr1 HOT HAL
                obtain ⟨al, fe⟩ := A1
                have HR1 := Lib.hid hr1
                have HBX1 := Lib.hid (bt HB5.out bx1)
                clear bx1 ox1 hr1 hA1
                go_wp2_with fail
                clear hx1
                refine HR1.out.mono ?_
                rintro e x2 ⟨av, rfl, hav, hb2⟩
                obtain ⟨aa, ac, rfl, -, -⟩ := hav.form
                obtain ⟨am, ham⟩ : ∃ m, m = al.length := ⟨_, rfl⟩
                rw [← ham] at hav ⊢
                have HAV := Lib.hid hav
                have HBX2 := Lib.hid (bt HBX1.out hb2)
                clear hav hb2 ham HR1
                obtain ⟨x3, hx3⟩ : ∃ u, x2.alloc (.cells #[.int .i64 1, .int .i64 1, .slice sa sm sc, .int .i64 1, .int .i64 2, .slice sa sm sc] 40) = u := ⟨_, rfl⟩
                have bx3 : Below x2.heap.size x2 x3 := by rw [← hx3]; exact ba (Below.refl _ _) _
                have ox3 := ol_two (w := x2) 1 1 1 2 (HS.out.on HBX2.out) (HS.out.on HBX2.out)
                rw [hx3] at ox3
                have hr3 := Run_any role (by have := HP.out; have := HPM.out; omega) (HA.out.on (bt HBX2.out bx3)) ox3 (og_two ⟨HI.out, by show S.length < 1000000; have := HSL.out; have := HSM.out; omega⟩ ⟨HI.out, by show S.length < 1000000; have := HSL.out; have := HSM.out; omega⟩)
                rw [show List.map Po.pl [⟨1, 1, .slice sa sm sc, S⟩, ⟨1, 2, .slice sa sm sc, S⟩] = [(1, 1, S), (1, 2, S)] from rfl] at hr3
                obtain ⟨A2, hA2⟩ : ∃ r, r = runS P role [(1, 1, S), (1, 2, S)] := ⟨_, rfl⟩
                rw [← hA2] at hr3 HOT
                obtain ⟨bl, ge⟩ := A2
                have HR3 := Lib.hid hr3
                have HBX3 := Lib.hid (bt HBX2.out bx3)
                have HAV3 := Lib.hid (HAV.out.on bx3)
                clear bx3 ox3 hr3 hA2 HAV
                go_wp2_with fail
                clear hx3
                refine HR3.out.mono ?_
                rintro e x4 ⟨bv, rfl, -, hb4⟩
                have HBX4 := Lib.hid (bt HBX3.out hb4)
                have HAV4 := Lib.hid (HAV3.out.on hb4)
                clear hb4 HR3 HAV3
                by_cases hfe : fe = 0
                · subst hfe
                  have HH := Lib.hid (vholds_any (.slice aa am ac) (.slice sa sm sc) al S (by have h : al.length ≤ 132 := HAL.out rfl; omega) (by have := HSL.out; have := HSM.out; omega) x4 ⟨HAV4.out, HS.out.on HBX4.out⟩)
                  have hot := HOT.out rfl
                  by_cases hge : ge = 0
                  · have hgb : (ge == 0) = true := by simp [hge]
                    rw [hot.1 hge] at HH
                    clear hge hot HOT
                    go_wp2_with fail
                    refine HH.out.mono ?_
                    rintro e x5 ⟨rfl, hb5⟩
                    have HBX5 := Lib.hid (bt HBX4.out hb5)
                    clear hb5
                    have HK := Lib.hid (works15 x5)
                    go_wp2_with fail
                    refine HK.out.mono ?_
                    rintro e x7 ⟨rfl, hb7⟩
                    have HB7 := Lib.hid (bt HBX5.out hb7)
                    clear hb7 HK
                    go_wp2
                    go_ret
                    exact ⟨rfl, HB7.out⟩
                  · have hgb : (ge == 0) = false := by simp [hge]
                    rw [show (mrg gSub al S).isSome = false from by cases hq : (mrg gSub al S).isSome with | false => rfl | true => exact absurd (hot.2 hq) hge] at HH
                    clear hge hot HOT
                    go_wp2_with fail
                    refine HH.out.mono ?_
                    rintro e x5 ⟨rfl, hb5⟩
                    have HBX5 := Lib.hid (bt HBX4.out hb5)
                    clear hb5
                    have HK := Lib.hid (works15 x5)
                    go_wp2_with fail
                    refine HK.out.mono ?_
                    rintro e x7 ⟨rfl, hb7⟩
                    have HB7 := Lib.hid (bt HBX5.out hb7)
                    clear hb7 HK
                    go_wp2
                    go_ret
                    exact ⟨rfl, HB7.out⟩
                · have hfn : (fe != 0) = true := by simp [hfe]
                  clear HOT
                  have HK := Lib.hid (works15 x4)
                  go_wp2_with fail
                  refine HK.out.mono ?_
                  rintro e x7 ⟨rfl, hb7⟩
                  have HB7 := Lib.hid (bt HBX4.out hb7)
                  clear hb7 HK
                  go_wp2
                  go_ret
                  exact ⟨rfl, HB7.out⟩
              · have r30 : (re == 30) = false := by simp [re30]
                by_cases re27 : re = 27
                · subst re27
                  obtain ⟨w5, hw5⟩ : ∃ u, w4.alloc (.cells #[.int .i64 0] 3) = u := ⟨_, rfl⟩
                  have b5 : Below w4.heap.size w4 w5 := by rw [← hw5]; exact ba (Below.refl _ _) _
                  have c5 : w5.cell? ⟨w4.heap.size, 0, none⟩ = some (.int .i64 0) := by
                    have h : w5.heap[w4.heap.size]? = some (.cells #[.int .i64 0] 3 (0, 0)) := by rw [← hw5]; exact heap_alloc_new w4 _
                    simp [World.cell?, h]
                  have s5 : w4.heap.size < w5.heap.size := by rw [← hw5]; simp
                  have hon := vonly_good (.slice sa sm sc) (.slice (some ⟨w4.heap.size, 0, none⟩) 1 1) S (fun x => decide (x = 0)) (mvO_some HMV.out).1 w5 (HS.out.on (bt HB4.out b5)) (contains1 w5 w4.heap.size 0 s5 c5)
                  have HON := Lib.hid hon
                  have HB5 := Lib.hid (bt HB4.out b5)
                  have HZ := Lib.hid (HBK.out.2.2 rfl)
                  clear hon b5 c5 s5 HBK re0 r0 re30 r30
                  go_wp2_with fail
                  clear hw5
                  refine HON.out.mono ?_
                  rintro e w6 ⟨u, rfl, hu, hb6⟩
                  have HB6 := Lib.hid (bt HB5.out hb6)
                  obtain ⟨ua, uc, rfl, -, -⟩ := hu.form
                  obtain ⟨um, hum⟩ : ∃ m, m = (flt (fun x => decide (x = 0)) S).length := ⟨_, rfl⟩
                  have hub : ((um : Int) == (sm : Int)) = false := by
                    have h1 := HZ.out; have h2 := HSM.out
                    have h3 : um ≠ S.length := by rw [hum]; exact h1
                    simp; omega
                  rw [← hum]
                  clear hu hb6 hum HZ HON
                  obtain ⟨x1, hx1⟩ : ∃ u, w6.alloc (.cells #[.int .i64 1, .int .i64 1, .slice sa sm sc] 40) = u := ⟨_, rfl⟩
                  have bx1 : Below w6.heap.size w6 x1 := by rw [← hx1]; exact ba (Below.refl _ _) _
                  have ox1 := ol_one (w := w6) 1 1 (HS.out.on HB6.out)
                  rw [hx1] at ox1
                  have hr1 := Run_any role (by have := HP.out; have := HPM.out; omega) (HA.out.on (bt HB6.out bx1)) ox1 (og_one ⟨HI.out, by show S.length < 1000000; have := HSL.out; have := HSM.out; omega⟩)
                  rw [show List.map Po.pl [⟨1, 1, .slice sa sm sc, S⟩] = [(1, 1, S)] from rfl] at hr1
                  have HOT := Lib.hid (once_two (P := P) (S := S) (role := role))
                  have HAL := Lib.hid (show (runS P role [(1, 1, S)]).2 = 0 → (runS P role [(1, 1, S)]).1.length ≤ 132 from fun h => vr_len ((run_ok P role [(1, 1, S)]).2 h).2.2.1)
                  obtain ⟨A1, hA1⟩ : ∃ r, r = runS P role [(1, 1, S)] := ⟨_, rfl⟩
                  rw [← hA1] at hr1 HOT HAL
                  obtain ⟨al, fe⟩ := A1
                  have HR1 := Lib.hid hr1
                  have HBX1 := Lib.hid (bt HB6.out bx1)
                  clear bx1 ox1 hr1 hA1
                  go_wp2_with fail
                  clear hx1
                  refine HR1.out.mono ?_
                  rintro e x2 ⟨av, rfl, hav, hb2⟩
                  obtain ⟨aa, ac, rfl, -, -⟩ := hav.form
                  obtain ⟨am, ham⟩ : ∃ m, m = al.length := ⟨_, rfl⟩
                  rw [← ham] at hav ⊢
                  have HAV := Lib.hid hav
                  have HBX2 := Lib.hid (bt HBX1.out hb2)
                  clear hav hb2 ham HR1
                  obtain ⟨x3, hx3⟩ : ∃ u, x2.alloc (.cells #[.int .i64 1, .int .i64 1, .slice sa sm sc, .int .i64 1, .int .i64 2, .slice sa sm sc] 40) = u := ⟨_, rfl⟩
                  have bx3 : Below x2.heap.size x2 x3 := by rw [← hx3]; exact ba (Below.refl _ _) _
                  have ox3 := ol_two (w := x2) 1 1 1 2 (HS.out.on HBX2.out) (HS.out.on HBX2.out)
                  rw [hx3] at ox3
                  have hr3 := Run_any role (by have := HP.out; have := HPM.out; omega) (HA.out.on (bt HBX2.out bx3)) ox3 (og_two ⟨HI.out, by show S.length < 1000000; have := HSL.out; have := HSM.out; omega⟩ ⟨HI.out, by show S.length < 1000000; have := HSL.out; have := HSM.out; omega⟩)
                  rw [show List.map Po.pl [⟨1, 1, .slice sa sm sc, S⟩, ⟨1, 2, .slice sa sm sc, S⟩] = [(1, 1, S), (1, 2, S)] from rfl] at hr3
                  obtain ⟨A2, hA2⟩ : ∃ r, r = runS P role [(1, 1, S), (1, 2, S)] := ⟨_, rfl⟩
                  rw [← hA2] at hr3 HOT
                  obtain ⟨bl, ge⟩ := A2
                  have HR3 := Lib.hid hr3
                  have HBX3 := Lib.hid (bt HBX2.out bx3)
                  have HAV3 := Lib.hid (HAV.out.on bx3)
                  clear bx3 ox3 hr3 hA2 HAV
                  go_wp2_with fail
                  clear hx3
                  refine HR3.out.mono ?_
                  rintro e x4 ⟨bv, rfl, -, hb4⟩
                  have HBX4 := Lib.hid (bt HBX3.out hb4)
                  have HAV4 := Lib.hid (HAV3.out.on hb4)
                  clear hb4 HR3 HAV3
                  by_cases hfe : fe = 0
                  · subst hfe
                    have HH := Lib.hid (vholds_any (.slice aa am ac) (.slice sa sm sc) al S (by have h : al.length ≤ 132 := HAL.out rfl; omega) (by have := HSL.out; have := HSM.out; omega) x4 ⟨HAV4.out, HS.out.on HBX4.out⟩)
                    have hot := HOT.out rfl
                    by_cases hge : ge = 0
                    · have hgb : (ge == 0) = true := by simp [hge]
                      rw [hot.1 hge] at HH
                      clear hge hot HOT
                      go_wp2_with fail
                      refine HH.out.mono ?_
                      rintro e x5 ⟨rfl, hb5⟩
                      have HBX5 := Lib.hid (bt HBX4.out hb5)
                      clear hb5
                      have HK := Lib.hid (works15 x5)
                      go_wp2_with fail
                      refine HK.out.mono ?_
                      rintro e x7 ⟨rfl, hb7⟩
                      have HB7 := Lib.hid (bt HBX5.out hb7)
                      clear hb7 HK
                      go_wp2
                      go_ret
                      exact ⟨rfl, HB7.out⟩
                    · have hgb : (ge == 0) = false := by simp [hge]
                      rw [show (mrg gSub al S).isSome = false from by cases hq : (mrg gSub al S).isSome with | false => rfl | true => exact absurd (hot.2 hq) hge] at HH
                      clear hge hot HOT
                      go_wp2_with fail
                      refine HH.out.mono ?_
                      rintro e x5 ⟨rfl, hb5⟩
                      have HBX5 := Lib.hid (bt HBX4.out hb5)
                      clear hb5
                      have HK := Lib.hid (works15 x5)
                      go_wp2_with fail
                      refine HK.out.mono ?_
                      rintro e x7 ⟨rfl, hb7⟩
                      have HB7 := Lib.hid (bt HBX5.out hb7)
                      clear hb7 HK
                      go_wp2
                      go_ret
                      exact ⟨rfl, HB7.out⟩
                  · have hfn : (fe != 0) = true := by simp [hfe]
                    clear HOT
                    have HK := Lib.hid (works15 x4)
                    go_wp2_with fail
                    refine HK.out.mono ?_
                    rintro e x7 ⟨rfl, hb7⟩
                    have HB7 := Lib.hid (bt HBX4.out hb7)
                    clear hb7 HK
                    go_wp2
                    go_ret
                    exact ⟨rfl, HB7.out⟩
                · have r27 : (re == 27) = false := by simp [re27]
                  clear re0 re30 re27 HBK
                  obtain ⟨x1, hx1⟩ : ∃ u, w4.alloc (.cells #[.int .i64 1, .int .i64 1, .slice sa sm sc] 40) = u := ⟨_, rfl⟩
                  have bx1 : Below w4.heap.size w4 x1 := by rw [← hx1]; exact ba (Below.refl _ _) _
                  have ox1 := ol_one (w := w4) 1 1 (HS.out.on HB4.out)
                  rw [hx1] at ox1
                  have hr1 := Run_any role (by have := HP.out; have := HPM.out; omega) (HA.out.on (bt HB4.out bx1)) ox1 (og_one ⟨HI.out, by show S.length < 1000000; have := HSL.out; have := HSM.out; omega⟩)
                  rw [show List.map Po.pl [⟨1, 1, .slice sa sm sc, S⟩] = [(1, 1, S)] from rfl] at hr1
                  have HOT := Lib.hid (once_two (P := P) (S := S) (role := role))
                  have HAL := Lib.hid (show (runS P role [(1, 1, S)]).2 = 0 → (runS P role [(1, 1, S)]).1.length ≤ 132 from fun h => vr_len ((run_ok P role [(1, 1, S)]).2 h).2.2.1)
                  obtain ⟨A1, hA1⟩ : ∃ r, r = runS P role [(1, 1, S)] := ⟨_, rfl⟩
                  rw [← hA1] at hr1 HOT HAL
                  obtain ⟨al, fe⟩ := A1
                  have HR1 := Lib.hid hr1
                  have HBX1 := Lib.hid (bt HB4.out bx1)
                  clear bx1 ox1 hr1 hA1
                  go_wp2_with fail
                  clear hx1
                  refine HR1.out.mono ?_
                  rintro e x2 ⟨av, rfl, hav, hb2⟩
                  obtain ⟨aa, ac, rfl, -, -⟩ := hav.form
                  obtain ⟨am, ham⟩ : ∃ m, m = al.length := ⟨_, rfl⟩
                  rw [← ham] at hav ⊢
                  have HAV := Lib.hid hav
                  have HBX2 := Lib.hid (bt HBX1.out hb2)
                  clear hav hb2 ham HR1
                  obtain ⟨x3, hx3⟩ : ∃ u, x2.alloc (.cells #[.int .i64 1, .int .i64 1, .slice sa sm sc, .int .i64 1, .int .i64 2, .slice sa sm sc] 40) = u := ⟨_, rfl⟩
                  have bx3 : Below x2.heap.size x2 x3 := by rw [← hx3]; exact ba (Below.refl _ _) _
                  have ox3 := ol_two (w := x2) 1 1 1 2 (HS.out.on HBX2.out) (HS.out.on HBX2.out)
                  rw [hx3] at ox3
                  have hr3 := Run_any role (by have := HP.out; have := HPM.out; omega) (HA.out.on (bt HBX2.out bx3)) ox3 (og_two ⟨HI.out, by show S.length < 1000000; have := HSL.out; have := HSM.out; omega⟩ ⟨HI.out, by show S.length < 1000000; have := HSL.out; have := HSM.out; omega⟩)
                  rw [show List.map Po.pl [⟨1, 1, .slice sa sm sc, S⟩, ⟨1, 2, .slice sa sm sc, S⟩] = [(1, 1, S), (1, 2, S)] from rfl] at hr3
                  obtain ⟨A2, hA2⟩ : ∃ r, r = runS P role [(1, 1, S), (1, 2, S)] := ⟨_, rfl⟩
                  rw [← hA2] at hr3 HOT
                  obtain ⟨bl, ge⟩ := A2
                  have HR3 := Lib.hid hr3
                  have HBX3 := Lib.hid (bt HBX2.out bx3)
                  have HAV3 := Lib.hid (HAV.out.on bx3)
                  clear bx3 ox3 hr3 hA2 HAV
                  go_wp2_with fail
                  clear hx3
                  refine HR3.out.mono ?_
                  rintro e x4 ⟨bv, rfl, -, hb4⟩
                  have HBX4 := Lib.hid (bt HBX3.out hb4)
                  have HAV4 := Lib.hid (HAV3.out.on hb4)
                  clear hb4 HR3 HAV3
                  by_cases hfe : fe = 0
                  · subst hfe
                    have HH := Lib.hid (vholds_any (.slice aa am ac) (.slice sa sm sc) al S (by have h : al.length ≤ 132 := HAL.out rfl; omega) (by have := HSL.out; have := HSM.out; omega) x4 ⟨HAV4.out, HS.out.on HBX4.out⟩)
                    have hot := HOT.out rfl
                    by_cases hge : ge = 0
                    · have hgb : (ge == 0) = true := by simp [hge]
                      rw [hot.1 hge] at HH
                      clear hge hot HOT
                      go_wp2_with fail
                      refine HH.out.mono ?_
                      rintro e x5 ⟨rfl, hb5⟩
                      have HBX5 := Lib.hid (bt HBX4.out hb5)
                      clear hb5
                      have HK := Lib.hid (works15 x5)
                      go_wp2_with fail
                      refine HK.out.mono ?_
                      rintro e x7 ⟨rfl, hb7⟩
                      have HB7 := Lib.hid (bt HBX5.out hb7)
                      clear hb7 HK
                      go_wp2
                      go_ret
                      exact ⟨rfl, HB7.out⟩
                    · have hgb : (ge == 0) = false := by simp [hge]
                      rw [show (mrg gSub al S).isSome = false from by cases hq : (mrg gSub al S).isSome with | false => rfl | true => exact absurd (hot.2 hq) hge] at HH
                      clear hge hot HOT
                      go_wp2_with fail
                      refine HH.out.mono ?_
                      rintro e x5 ⟨rfl, hb5⟩
                      have HBX5 := Lib.hid (bt HBX4.out hb5)
                      clear hb5
                      have HK := Lib.hid (works15 x5)
                      go_wp2_with fail
                      refine HK.out.mono ?_
                      rintro e x7 ⟨rfl, hb7⟩
                      have HB7 := Lib.hid (bt HBX5.out hb7)
                      clear hb7 HK
                      go_wp2
                      go_ret
                      exact ⟨rfl, HB7.out⟩
                  · have hfn : (fe != 0) = true := by simp [hfe]
                    clear HOT
                    have HK := Lib.hid (works15 x4)
                    go_wp2_with fail
                    refine HK.out.mono ?_
                    rintro e x7 ⟨rfl, hb7⟩
                    have HB7 := Lib.hid (bt HBX4.out hb7)
                    clear hb7 HK
                    go_wp2
                    go_ret
                    exact ⟨rfl, HB7.out⟩
    · have hsI : (150 : Int) < (sm : Int) := by omega
      clear hs
      go_wp2_with fail
      refine HF.out.mono ?_
      rintro e w1 ⟨rfl, hb1⟩
      have HB1 := Lib.hid hb1
      clear hb1
      go_wp2
      go_ret
      exact ⟨rfl, HB1.out⟩
  · rw [decide_eq_false hp] at HF
    clear hp
    go_wp2_with fail
    refine HF.out.mono ?_
    rintro e w1 ⟨rfl, hb1⟩
    have HB1 := Lib.hid hb1
    clear hb1
    go_wp2
    go_ret
    exact ⟨rfl, HB1.out⟩
end Go.Proofs.Ytnckjacbkhoppaa

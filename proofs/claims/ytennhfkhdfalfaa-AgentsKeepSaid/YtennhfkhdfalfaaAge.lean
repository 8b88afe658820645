/- agents: the walk of AgentsKeep. -/
import Derived.Test.YtennhfkhdfalfaaAgd
namespace Go.Proofs.Ytennhfkhdfalfaa
open Go.RowKit Go.Maps
attribute [local go_sem] ext_cell ext_frozen extC_cell extC_frozen Mix.calmUpon Mix.mUpon
attribute [local go_sem] eq4
theorem sorted_ids {S : List Pa} (h : Srt.In akey altP S) {i : Nat} {x y : Pa} (hx : S[i]? = some x) (hy : S[i + 1]? = some y) : x.1 < y.1 := by
  obtain ⟨h1, rfl⟩ := List.getElem?_eq_some_iff.1 hx
  obtain ⟨h2, rfl⟩ := List.getElem?_eq_some_iff.1 hy
  have h := (List.pairwise_iff_getElem.1 h i (i + 1) h1 h2 (by omega)).1
  simpa [altP] using h
set_option maxRecDepth 100000 in
set_option maxHeartbeats 8000000 in
theorem keep22 (cap most : Int) (v : Value) (l : List Aa) (W : World) (hr : RS 4 aaenc W v l) (ha : ∀ x ∈ l, AaIn W x) :
    Calls Try.prog 4 #[.int .i64 cap, .int .i64 most, v] W fun e w' => e = .returned (.bool true) ∧ Below W.heap.size W w' := by
  have HF := Lib.hid (few22 v l W hr ha)
  by_cases hfew : l.length ≤ 80 ∧ (l.map aaW).sum ≤ 600
  · have hFT : decide (l.length ≤ 80 ∧ (l.map aaW).sum ≤ 600) = true := decide_eq_true hfew
    have HFT := Lib.hid hFT
    have HLE := Lib.hid (few_each hfew.2)
    have HR := Lib.hid hr; have HA0 := Lib.hid ha
    obtain ⟨a, n, c, rfl, hn, hc, hm, -⟩ := hr.at_
    have hn80 : n ≤ 80 := by rw [hn]; exact hfew.1
    have HN := Lib.hid hn
    clear hr hn ha hm hc hfew hFT
    by_cases k1 : cap < 1
    · skip
      go_enter Try.func4, Try.ntmps4
      go_wp2_with fail
      refine HF.out.mono ?_
      rintro e w1 ⟨rfl, hb1⟩
      rw [HFT.out]
      have HB1 := Lib.hid hb1
      clear hb1
      go_wp2
      go_ret
      exact ⟨rfl, HB1.out⟩
    by_cases k2 : most < 1
    · skip
      go_enter Try.func4, Try.ntmps4
      go_wp2_with fail
      refine HF.out.mono ?_
      rintro e w1 ⟨rfl, hb1⟩
      rw [HFT.out]
      have HB1 := Lib.hid hb1
      clear hb1
      go_wp2
      go_ret
      exact ⟨rfl, HB1.out⟩
    by_cases k3 : 9007199254740992 < most
    · skip
      go_enter Try.func4, Try.ntmps4
      go_wp2_with fail
      refine HF.out.mono ?_
      rintro e w1 ⟨rfl, hb1⟩
      rw [HFT.out]
      have HB1 := Lib.hid hb1
      clear hb1
      go_wp2
      go_ret
      exact ⟨rfl, HB1.out⟩
    have HCM := Lib.hid (show 1 ≤ cap ∧ 1 ≤ most ∧ most ≤ 9007199254740992 by omega)
    go_enter Try.func4, Try.ntmps4
    go_wp2_with fail
    refine HF.out.mono ?_
    rintro e w1 ⟨rfl, hb1⟩
    rw [HFT.out]
    have HB1 := Lib.hid hb1
    have HAT : Hid (∀ i x, l[i]? = some x → ∃ b off, a = some ⟨b, off, none⟩ ∧ b < w1.heap.size ∧ ∀ j u, (aaenc x)[j]? = some u → w1.cell? ⟨b, off + i * 4 + j, none⟩ = some u) := Lib.hid (by
      obtain ⟨a', n', c', he, _, _, _, h⟩ := (HR.out.below hb1).at_
      cases he; exact h)
    have HA := Lib.hid (show ∀ x ∈ l, AaIn w1 x from fun x hx => (HA0.out x hx).on hb1)
    clear hb1 HR HA0 HF
    go_wp2_with fail
    refine (pnew w1 HCM.out.1 HCM.out.2).mono ?_
    rintro e w2 ⟨rfl, h2, hb2⟩
    clear k1 k2 k3
    obtain ⟨tp, htp⟩ : ∃ tp, tp = w1.heap.size + 1 := ⟨_, rfl⟩
    obtain ⟨M, hM⟩ : ∃ M, M = w1.heap.size := ⟨_, rfl⟩
    have h2 : AP w1 w2 tp M cap most [] := by rw [htp, hM]; exact h2
    rw [← htp]
    have HI := Lib.hid (show AP w1 w2 tp M cap most [] ∧ ([] : List Pa).length ≤ 0 from ⟨h2, Nat.le_refl _⟩)
    clear h2 hb2 htp hM
    go_wp2
    go_loopw [8, 9, 10, 11, 12] (fun iv _ _ _ _ wr => ∃ (t : Nat) (S : List Pa), t ≤ n ∧ iv = .int .i64 t ∧ Hid (AP w1 wr tp M cap most S ∧ S.length ≤ t)) (fun iv _ _ _ _ _ => n - (intOf iv).toNat)
    case atStart => exact ⟨0, [], Nat.zero_le _, rfl, HI⟩
    case round =>
      clear HI
      obtain ⟨t, S, ht, rfl, HQ⟩ := hrel
      obtain ⟨w4, rfl⟩ : ∃ w4, w4 = wr := ⟨_, rfl⟩
      have HSL := Lib.hid (show S.length < 1000000 by have := HQ.out.2; omega)
      by_cases hlt : t < n
      · have hts : (t : Int) < (n : Int) := by omega
        obtain ⟨x, hx⟩ := at_lt (l := l) (i := t) (by rw [← HN.out]; exact hlt)
        have HDL := Lib.hid (do_len (cap := cap) (most := most) (S := S) x)
        have HDS := Lib.hid (do_sums HQ.out.1.ain x)
        have HX := Lib.hid hx
        obtain ⟨bs, off, rfl, hbs, hcell⟩ := HAT.out t x hx
        have HCELL := Lib.hid hcell; have HBS := Lib.hid hbs
        clear hcell hbs hx
        -- was
        go_wp2_with fail
        refine (psum HQ.out.1).mono ?_
        rintro e w5 ⟨rfl, hb5⟩
        obtain ⟨A, hA⟩ : ∃ A, A = sumA totA S := ⟨_, rfl⟩
        rw [← hA]
        have HAQ := Lib.hid hA
        have hb56 := ba (Below.refl w5.heap.size w5) (.cells (C4 A) 45)
        have HKA := Lib.hid (KS.made w5 A 45)
        have HT6 := Lib.hid ((HQ.out.1.below hb5).below hb56)
        have HG0 := Lib.hid (show tp < w5.heap.size ∧ M < w5.heap.size from (HQ.out.1.below hb5).lt)
        clear hA hb5 hb56
        go_wp2_with fail
        generalize w5.alloc (.cells (C4 A) 45) = w6 at *
        obtain ⟨q9, hq9⟩ : ∃ q, q = w5.heap.size := ⟨_, rfl⟩
        rw [← hq9] at HKA HG0 ⊢
        clear hq9
        -- before
        refine (pall HT6.out HSL.out).mono ?_
        rintro e w7 ⟨vy, la, rfl, hla, hpa, -, -, hb7⟩
        obtain ⟨ya, yn, yc, rfl, hyn, -, -, -⟩ := hla.rs.at_
        have hynS : yn = S.length := by rw [hyn, ← hpa, List.length_map]
        have HYN := Lib.hid hynS
        have HT7 := Lib.hid (HT6.out.below hb7)
        have HKA7 := Lib.hid (HKA.out.below hb7)
        clear hla hpa hyn hynS hb7 HT6 HKA
        -- Do
        have hbw := HT7.out.bel
        have hcell := HCELL.out
        have c0 := (hbw.cell (p := ⟨bs, _, none⟩) HBS.out).trans (hcell 0 _ rfl)
        have c1 := (hbw.cell (p := ⟨bs, _, none⟩) HBS.out).trans (hcell 1 _ rfl)
        have c2 := (hbw.cell (p := ⟨bs, _, none⟩) HBS.out).trans (hcell 2 _ rfl)
        have c3 := (hbw.cell (p := ⟨bs, _, none⟩) HBS.out).trans (hcell 3 _ rfl)
        simp only [Nat.add_zero] at c0
        have hbs4 : bs < w7.heap.size := Nat.lt_of_lt_of_le HBS.out hbw.size
        have hxi := HA.out x (mem_at HX.out)
        have HDO := Lib.hid (ado HT7.out x hxi (HLE.out x (mem_at HX.out)))
        obtain ⟨S5, hS5⟩ : ∃ S5, S5 = doP cap most S x := ⟨_, rfl⟩
        rw [← hS5] at HDL HDS HDO
        obtain ⟨xk, xi, xv, xs, xu, xt⟩ := x
        obtain ⟨va, vc, hvv, -, -⟩ := hxi.vc.form
        obtain ⟨wa, wc, hwv, -, -⟩ := hxi.uc.form
        simp only at hvv hwv c0 c1 c2 c3 HDO
        subst hvv hwv
        clear hcell hxi hbw hS5
        go_wp2_with fail
        refine HDO.out.mono ?_
        rintro e w8 ⟨rfl, h8, hc8⟩
        have HT8 := Lib.hid h8
        have HKA8 := Lib.hid (HKA7.out.chg hc8 (fun e => by have := HG0.out; rcases e with e | e <;> omega))
        clear h8 hc8 c0 c1 c2 c3 hbs4 HT7 HKA7
        -- now
        go_wp2_with fail
        refine (psum HT8.out).mono ?_
        rintro e w8b ⟨rfl, hb8⟩
        obtain ⟨B, hB⟩ : ∃ B, B = sumA totA S5 := ⟨_, rfl⟩
        rw [← hB]
        have HQB := Lib.hid hB
        have hb89 := ba (Below.refl w8b.heap.size w8b) (.cells (C4 B) 45)
        have HKB := Lib.hid (KS.made w8b B 45)
        have HT9 := Lib.hid ((HT8.out.below hb8).below hb89)
        have HKA9 := Lib.hid ((HKA8.out.below hb8).below hb89)
        have HSL5 := Lib.hid (show S5.length < 1000000 by have := HDL.out; have := HSL.out; have := HQ.out.2; omega)
        clear hB hb8 hb89 HT8 HKA8
        go_wp2_with fail
        generalize w8b.alloc (.cells (C4 B) 45) = w9b at *
        obtain ⟨q11, hq11⟩ : ∃ q, q = w8b.heap.size := ⟨_, rfl⟩
        rw [← hq11] at HKB ⊢
        clear hq11
        refine (pall HT9.out HSL5.out).mono ?_
        rintro e w10 ⟨vy2, la2, rfl, hla2, hpa2, -, -, hb10⟩
        obtain ⟨ya2, yn2, yc2, rfl, hyn2, -, -, -⟩ := hla2.rs.at_
        have hynS2 : yn2 = S5.length := by rw [hyn2, ← hpa2, List.length_map]
        have HYN2 := Lib.hid hynS2
        have HT10 := Lib.hid (HT9.out.below hb10)
        have HKA10 := Lib.hid (HKA9.out.below hb10)
        have HKB10 := Lib.hid (HKB.out.below hb10)
        clear hla2 hpa2 hyn2 hynS2 hb10 HT9 HKA9 HKB
        have HALL := Lib.hid (pall HT10.out HSL5.out)
        have HLN := Lib.hid (show S5.length ≤ t + 1 by have := HDL.out; have := HQ.out.2; omega)
        by_cases hyy : yn = yn2
        · have hyb : ((yn : Int) == (yn2 : Int)) = true := by simp [hyy]
          have hAB : ∀ j, j < 4 → B j = A j := fun j hj => by
            rw [HQB.out, HAQ.out]
            exact HDS.out (by rw [← HYN.out, ← HYN2.out]; exact hyy.symm) j hj
          have e0 := hAB 0 (by decide); have e1 := hAB 1 (by decide); have e2 := hAB 2 (by decide); have e3 := hAB 3 (by decide)
          obtain ⟨a0, a1, a2, a3⟩ := HKA10.out.cells
          have a4 := HKA10.out.lt
          obtain ⟨b0, b1, b2, b3⟩ := HKB10.out.cells
          rw [e0] at b0; rw [e1] at b1; rw [e2] at b2; rw [e3] at b3
          have b4 := HKB10.out.lt
          clear hAB e0 e1 e2 e3 hyy
          go_wp2_with fail
          refine HALL.out.mono ?_
          rintro e w9 ⟨vy3, la3, rfl, hla3, hpa3, -, -, hb9⟩
          obtain ⟨ya3, yn3, yc3, rfl, hyn3, -, -, -⟩ := hla3.rs.at_
          have HT := Lib.hid (HT10.out.below hb9)
          have HK := Lib.hid (HKB10.out.below hb9)
          have hcap : ¬ cap < (yn3 : Int) := by
            have := HT.out.ain.cp
            have h2 : yn3 = S5.length := by rw [hyn3, ← hpa3, List.length_map]
            omega
          clear hla3 hpa3 hyn3 hb9 a0 a1 a2 a3 a4 b0 b1 b2 b3 b4 hyb
          -- the loop over the kinds, behind which the round ends: sums B of the agents S5 in block q11, at the world w9
          have HB := Lib.hid (show (B 0 ≤ most ∧ B 1 ≤ most) ∧ B 2 ≤ most ∧ B 3 ≤ most from by
            have := HQB.out; rw [this]
            have h := HT.out.ain.ms
            exact ⟨⟨h 0 (by decide), h 1 (by decide)⟩, h 2 (by decide), h 3 (by decide)⟩)
          obtain ⟨z0, z1, z2, z3⟩ := HK.out.cells
          have z4 := HK.out.lt
          go_wp2
          go_loop [12] (fun kv => ∃ k : Nat, k ≤ 4 ∧ kv = .int .i64 k) (fun kv => 4 - (intOf kv).toNat)
          case atStart => exact ⟨0, by omega, rfl⟩
          case round =>
            obtain ⟨k, hk, rfl⟩ := hrel
            by_cases hk4 : k < 4
            · have hks : (k : Int) < 4 := by omega
              have hkc : ∃ x : Int, w9.cell? ⟨q11, k, none⟩ = some (.int .i64 x) ∧ x ≤ most := by
                rcases k with _ | _ | _ | _ | k
                · exact ⟨_, z0, HB.out.1.1⟩
                · exact ⟨_, z1, HB.out.1.2⟩
                · exact ⟨_, z2, HB.out.2.1⟩
                · exact ⟨_, z3, HB.out.2.2⟩
                · omega
              obtain ⟨x, hx, hxm⟩ := hkc
              have hxd : ¬ most < x := by omega
              clear z0 z1 z2 z3
              go_wp2
              go_round
              case rel => exact ⟨k + 1, by omega, by go_num⟩
              case measure => simp [intOf]; omega
            · obtain rfl : k = 4 := by omega
              clear z0 z1 z2 z3 z4
              go_wp2
              go_roundw
              case rel => exact ⟨t + 1, _, by omega, by go_num, Lib.hid ⟨HT.out, HLN.out⟩⟩
              case measure => simp [intOf]; omega
        · have hyb : ((yn : Int) == (yn2 : Int)) = false := by simp; omega
          clear hyy
          go_wp2_with fail
          refine HALL.out.mono ?_
          rintro e w9 ⟨vy3, la3, rfl, hla3, hpa3, -, -, hb9⟩
          obtain ⟨ya3, yn3, yc3, rfl, hyn3, -, -, -⟩ := hla3.rs.at_
          have HT := Lib.hid (HT10.out.below hb9)
          have HK := Lib.hid (HKB10.out.below hb9)
          have hcap : ¬ cap < (yn3 : Int) := by
            have := HT.out.ain.cp
            have h2 : yn3 = S5.length := by rw [hyn3, ← hpa3, List.length_map]
            omega
          clear hla3 hpa3 hyn3 hb9 hyb
          -- the loop over the kinds, behind which the round ends: sums B of the agents S5 in block q11, at the world w9
          have HB := Lib.hid (show (B 0 ≤ most ∧ B 1 ≤ most) ∧ B 2 ≤ most ∧ B 3 ≤ most from by
            have := HQB.out; rw [this]
            have h := HT.out.ain.ms
            exact ⟨⟨h 0 (by decide), h 1 (by decide)⟩, h 2 (by decide), h 3 (by decide)⟩)
          obtain ⟨z0, z1, z2, z3⟩ := HK.out.cells
          have z4 := HK.out.lt
          go_wp2
          go_loop [12] (fun kv => ∃ k : Nat, k ≤ 4 ∧ kv = .int .i64 k) (fun kv => 4 - (intOf kv).toNat)
          case atStart => exact ⟨0, by omega, rfl⟩
          case round =>
            obtain ⟨k, hk, rfl⟩ := hrel
            by_cases hk4 : k < 4
            · have hks : (k : Int) < 4 := by omega
              have hkc : ∃ x : Int, w9.cell? ⟨q11, k, none⟩ = some (.int .i64 x) ∧ x ≤ most := by
                rcases k with _ | _ | _ | _ | k
                · exact ⟨_, z0, HB.out.1.1⟩
                · exact ⟨_, z1, HB.out.1.2⟩
                · exact ⟨_, z2, HB.out.2.1⟩
                · exact ⟨_, z3, HB.out.2.2⟩
                · omega
              obtain ⟨x, hx, hxm⟩ := hkc
              have hxd : ¬ most < x := by omega
              clear z0 z1 z2 z3
              go_wp2
              go_round
              case rel => exact ⟨k + 1, by omega, by go_num⟩
              case measure => simp [intOf]; omega
            · obtain rfl : k = 4 := by omega
              clear z0 z1 z2 z3 z4
              go_wp2
              go_roundw
              case rel => exact ⟨t + 1, _, by omega, by go_num, Lib.hid ⟨HT.out, HLN.out⟩⟩
              case measure => simp [intOf]; omega
      · obtain rfl : n = t := by omega
        have HT := Lib.hid HQ.out.1
        clear hlt ht
        go_wp2_with fail
        refine (pall HT.out HSL.out).mono ?_
        rintro e w5 ⟨vy, la, rfl, hla, hpa, -, -, hb5⟩
        have HT5 := Lib.hid (HT.out.below hb5)
        obtain ⟨ya, yn, yc, rfl, hyn, hyc, hym, hyt⟩ := hla.rs.at_
        have hynm : yn ≤ 9223372036854775807 := by unfold maxLen at hym; omega
        have HLA := Lib.hid hla; have HPA := Lib.hid hpa; have HYN := Lib.hid hyn; have HYT := Lib.hid hyt
        have hyn9 : yn ≤ 80 := by rw [hyn]; have := congrArg List.length hpa; rw [List.length_map] at this; have := HQ.out.2; omega
        clear hla hpa hyn hyt hb5 HT hym hyc
        go_wp2
        go_loopw [14] (fun iv wr => ∃ t : Nat, t ≤ yn ∧ iv = .int .i64 t ∧ Below w5.heap.size w5 wr) (fun iv _ => yn - (intOf iv).toNat)
        case atStart => exact ⟨0, Nat.zero_le _, rfl, Below.refl _ _⟩
        case round =>
          obtain ⟨t, ht, rfl, hb6⟩ := hrel
          obtain ⟨w6, rfl⟩ : ∃ w6, w6 = wr := ⟨_, rfl⟩
          have HB6 := Lib.hid hb6
          by_cases hlt : t < yn
          · have hts : (t : Int) < (yn : Int) := by omega
            obtain ⟨x, hx⟩ := at_lt (l := la) (i := t) (by rw [← HYN.out]; exact hlt)
            obtain ⟨bs, off, rfl, hbs, hcell⟩ := HYT.out t x hx
            have c0 := (hb6.cell (p := ⟨bs, _, none⟩) hbs).trans (hcell 0 _ rfl)
            have c1 := (hb6.cell (p := ⟨bs, _, none⟩) hbs).trans (hcell 1 _ rfl)
            have c2 := (hb6.cell (p := ⟨bs, _, none⟩) hbs).trans (hcell 2 _ rfl)
            simp only [Nat.add_zero] at c0
            have hbs6 : bs < w6.heap.size := Nat.lt_of_lt_of_le hbs hb6.size
            have hSx : S[t]? = some x.pl := by rw [← HPA.out, List.getElem?_map, hx]; rfl
            have hok := HT5.out.ain.ok _ (List.mem_of_getElem? hSx)
            have hH := vholds_any x.tv x.fv x.tps x.fps (Nat.lt_of_le_of_lt (vr_len hok.vt) (by decide)) (Nat.lt_of_le_of_lt (vr_len hok.vf) (by decide))
            rw [show (mrg gSub x.tps x.fps).isSome = true from (sub_iff _ _).2 hok.ho] at hH
            have HH := Lib.hid fun z : Ext w6 => hH (ext w6 z) ⟨((HLA.out.vec x (mem_at hx)).1.on hb6).on (ext_below _ z), ((HLA.out.vec x (mem_at hx)).2.on hb6).on (ext_below _ z)⟩
            have HH := Lib.hid fun z : Ext w6 => quiet_ext z (HH.out z)
            obtain ⟨xa, xc, hxv, -, -⟩ := (HLA.out.vec x (mem_at hx)).1.form
            obtain ⟨ua, uc, huv, -, -⟩ := (HLA.out.vec x (mem_at hx)).2.form
            by_cases ht0 : t = 0
            · subst ht0
              obtain ⟨xi, xv, xs, xu, xt⟩ := x
              simp only at hxv huv c0 c1 c2 HH
              subst hxv huv
              clear hH hok hSx hcell hx hb6
              go_wp2_with fail
              refine wp_region_pure (by kernel_rfl) (by kernel_rfl) ?_
              repeat (first | go_big_quiet_step ((go_at_call 23; with_reducible exact HH.out _)) | (quiet_step ((go_at_call 23; with_reducible exact HH.out _))))
              refine wpQuiet_nil ?_
              rintro w7 ⟨x7, hx7⟩
              have hb7 := ext_below _ x7
              rw [← hx7] at hb7
              have HB7 := Lib.hid (HB6.out.trans (hb7.mono HB6.out.size))
              clear hx7 x7 hb7 c0 c1 c2
              go_wp2
              go_roundw
              case rel => exact ⟨0 + 1, by omega, by go_num, HB7.out⟩
              case measure => simp [intOf]; omega
            · have ht1 : (0 : Int) < (t : Int) := by omega
              obtain ⟨y, hy⟩ := at_lt (l := la) (i := t - 1) (by rw [← HYN.out]; omega)
              obtain ⟨bs', off', hbe, -, hcell'⟩ := HYT.out (t - 1) y hy
              cases hbe
              have d0 := (hb6.cell (p := ⟨bs, _, none⟩) hbs).trans (hcell' 0 _ rfl)
              simp only [Nat.add_zero] at d0
              have hSy : S[t - 1]? = some y.pl := by rw [← HPA.out, List.getElem?_map, hy]; rfl
              have hlt2 := sorted_ids HT5.out.ain.srt hSy (by rw [Nat.sub_add_cancel (by omega)]; exact hSx)
              have hxy : ¬ x.id ≤ y.id := by have : y.id < x.id := hlt2; omega
              obtain ⟨t', ht'⟩ : ∃ t', t = t' + 1 := ⟨t - 1, by omega⟩
              subst ht'
              rw [Nat.add_sub_cancel] at d0
              obtain ⟨yi, yv, ys, yu, yt⟩ := y
              obtain ⟨xi, xv, xs, xu, xt⟩ := x
              simp only at hxv huv c0 c1 c2 d0 HH hxy
              subst hxv huv
              have hxd : decide (xi ≤ yi) = false := decide_eq_false hxy
              have hwr : IntKind.i64.wrap (((t' + 1 : Nat) : Int) - 1) = (t' : Int) := by rw [IntWalk.i64_in _ (by omega)]; omega
              clear hH hok hSx hcell hx hb6 hSy hlt2 hy hcell'
              go_wp2_with fail
              refine wp_region_pure (by kernel_rfl) (by kernel_rfl) ?_
              repeat (first | go_big_quiet_step ((go_at_call 23; with_reducible exact HH.out _)) | (quiet_step ((go_at_call 23; with_reducible exact HH.out _))))
              refine wpQuiet_nil ?_
              rintro w7 ⟨x7, hx7⟩
              have hb7 := ext_below _ x7
              rw [← hx7] at hb7
              have HB7 := Lib.hid (HB6.out.trans (hb7.mono HB6.out.size))
              clear hx7 x7 hb7 c0 c1 c2 d0
              go_wp2
              go_roundw
              case rel => exact ⟨t' + 1 + 1, by omega, by go_num, HB7.out⟩
              case measure => simp [intOf]; omega
          · obtain rfl : yn = t := by omega
            clear hlt ht hb6
            have e1 : (w6.alloc (.cells #[.int .i64 0, .int .i64 0, .map none, .int .i64 0, .int .i64 0, .int .i64 0, .int .i64 0] 52)).heap.size = w6.heap.size + 1 := by simp
            have hb67 := ba (Below.refl w6.heap.size w6) (.cells #[.int .i64 0, .int .i64 0, .map none, .int .i64 0, .int .i64 0, .int .i64 0, .int .i64 0] 52)
            have hb68 := ba hb67 (.cells #[.int .i64 0, .int .i64 0, .int .i64 1] 57)
            have HP := Lib.hid (show APL ((w6.alloc (.cells #[.int .i64 0, .int .i64 0, .map none, .int .i64 0, .int .i64 0, .int .i64 0, .int .i64 0] 52)).alloc (.cells #[.int .i64 0, .int .i64 0, .int .i64 1] 57)) w6.heap.size from APL.below (show APL _ _ from heap_alloc_new w6 _) (ba (Below.refl _ _) _))
            have HB8 := Lib.hid (bt HB6.out hb68)
            clear hb67 hb68
            go_wp2_with fail
            generalize ((w6.alloc (.cells #[.int .i64 0, .int .i64 0, .map none, .int .i64 0, .int .i64 0, .int .i64 0, .int .i64 0] 52)).alloc (.cells #[.int .i64 0, .int .i64 0, .int .i64 1] 57)) = w8 at *
            generalize w6.heap.size = pb at *
            refine (naregister (noa_plain HP.out) 1 _).mono ?_
            rintro e w9 ⟨rfl, hb9⟩
            have HB9 := Lib.hid (bt HB8.out hb9)
            have HP9 := Lib.hid (HP.out.below hb9)
            clear hb9 e1
            go_wp2_with fail
            refine (natake (noa_nil w9) 1 _).mono ?_
            rintro e w10 ⟨rfl, hb10⟩
            have HB10 := Lib.hid (bt HB9.out hb10)
            have HP10 := Lib.hid (HP9.out.below hb10)
            clear hb10
            go_wp2_with fail
            refine (naall (noa_nil w10)).mono ?_
            rintro e w11 ⟨rfl, hb11⟩
            have HB11 := Lib.hid (bt HB10.out hb11)
            have HP11 := Lib.hid (HP10.out.below hb11)
            clear hb11
            go_wp2_with fail
            refine (nasum (noa_plain HP11.out)).mono ?_
            rintro e w12 ⟨rfl, hb12⟩
            have HB12 := Lib.hid (bt HB11.out hb12)
            clear hb12
            go_wp2_with fail
            refine (nalose (noa_nil w12) 1).mono ?_
            rintro e w13 ⟨rfl, hb13⟩
            have HB13 := Lib.hid (bt HB12.out hb13)
            clear hb13
            go_wp2_with fail
            refine (works22 w13).mono ?_
            rintro e w14 ⟨rfl, hb14⟩
            have HB14 := Lib.hid (bt HB13.out hb14)
            clear hb14
            go_wp2
            go_ret
            exact ⟨rfl, HB1.out.trans ((HT5.out.bel.trans (HB14.out.mono HT5.out.bel.size)).mono HB1.out.size)⟩
  · have hFF : decide (l.length ≤ 80 ∧ (l.map aaW).sum ≤ 600) = false := decide_eq_false hfew
    go_enter Try.func4, Try.ntmps4
    go_wp2_with fail
    refine HF.out.mono ?_
    rintro e w1 ⟨rfl, hb1⟩
    rw [hFF]
    have HB1 := Lib.hid hb1
    clear hfew hb1
    go_wp2
    go_ret
    exact ⟨rfl, HB1.out⟩
end Go.Proofs.Ytennhfkhdfalfaa

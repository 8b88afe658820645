/- For any acts the statement HeapPlays returns true. Condition: none. -/
import Derived.Test.YtajcelmnblncaaaHeapP
namespace Go.Proofs.Ytajcelmnblncaaa
open Go.RowKit Go.Maps
attribute [local go_sem] ext_cell ext_frozen extC_cell extC_frozen Mix.calmUpon Mix.mUpon
/-- Where the plays stand. -/
structure HW (W wr : World) (hp : Nat) (F : Nat → Prop) (L : List It) (s : Int) (v : Value) (t : Nat) : Prop where
  hl : HL wr hp F L s
  iv : IV wr v L
  off : Off F wr v
  bel : Below W.heap.size W wr
  own : ∀ k, F k → W.heap.size ≤ k
  len : L.length ≤ t
  s0 : 0 ≤ s
  s1 : s ≤ t * 6000
set_option maxRecDepth 100000 in
set_option maxHeartbeats 4000000 in
theorem plays11 (v0 : Value) (acts : List Ac) (W : World) (hA : AV W v0 acts) (hok : ∀ x ∈ acts, AcOk x) : Calls Try.prog 5 #[v0] W fun e w' => e = .returned (.bool true) ∧ Below W.heap.size W w' := by
  obtain ⟨a, n, cap, rfl, hn, hc, hm, hat⟩ := hA.at_
  by_cases hbig : 150 < n
  · have hbI : (150 : Int) < (n : Int) := by omega
    clear hat hA hok hn
    go_enter Try.func5, Try.ntmps5
    go_wp2
    go_ret
    exact ⟨rfl, Below.refl _ _⟩
  · have hbI : (n : Int) ≤ 150 := by omega
    have hnb : n ≤ 150 := by omega
    have HAT := Lib.hid hat; have HOK := Lib.hid hok; have HN := Lib.hid hn
    clear hat hA hok hn hbig hm
    go_enter Try.func5, Try.ntmps5
    go_wp2_with fail
    refine (hnew W).mono ?_
    rintro e w1 ⟨F1, rfl, h1, hb1, n1⟩
    have HI := Lib.hid (show HW W w1 (W.heap.size + 1) F1 [] 0 (.slice none 0 0) 0 from ⟨⟨List.Pairwise.nil, h1⟩, RS.nil _ _ _, fun b hb => (by cases hb), hb1, n1, Nat.zero_le _, by omega, by omega⟩)
    clear h1 hb1 n1
    generalize hhp : W.heap.size + 1 = hp at *
    clear hhp
    go_wp2
    go_loopw [4, 5] (fun lv iv wr => ∃ (t : Nat) (L : List It) (F : Nat → Prop) (s : Int), t ≤ n ∧ iv = .int .i64 t ∧ Hid (HW W wr hp F L s lv t)) (fun _ iv _ => n - (intOf iv).toNat)
    case atStart => exact ⟨0, [], F1, 0, Nat.zero_le _, rfl, HI⟩
    case round =>
      clear HI
      obtain ⟨t, L, F, s, ht, rfl, HQ⟩ := hrel
      obtain ⟨w2, rfl⟩ : ∃ w2, w2 = wr := ⟨_, rfl⟩
      by_cases hlt : t < n
      · have hts : (t : Int) < (n : Int) := by omega
        obtain ⟨x, hx⟩ := at_lt (l := acts) (i := t) (by rw [← HN.out]; exact hlt)
        obtain ⟨b, off, rfl, hb, hcell⟩ := HAT.out t x hx
        have hxo := HOK.out x (mem_at hx)
        obtain ⟨kd, ky, at_⟩ := x
        have hB := Lib.hid hb
        have HC := Lib.hid (fun w' (hw : Below W.heap.size W w') => (hw.cell (p := ⟨b, off + t * 3 + 1, none⟩) hb).trans (hcell 1 _ rfl))
        have e0 := (HQ.out.bel.cell (p := ⟨b, off + t * 3, none⟩) hb).trans (hcell 0 _ rfl)
        have e1 := HC.out _ HQ.out.bel
        have e2 := (HQ.out.bel.cell (p := ⟨b, off + t * 3 + 2, none⟩) hb).trans (hcell 2 _ rfl)
        have hlen := HQ.out.len
        have hs0 := HQ.out.s0
        have hs1 := HQ.out.s1
        have hkk := hxo.2.1
        have HXO := Lib.hid hxo
        simp only at e0 e1 e2
        clear hcell hx hxo
        go_wp2_with fail
        refine (does_any HQ.out.hl HQ.out.iv HQ.out.off kd ky at_ HXO.out.2.1 HXO.out.2.2 (by omega) hs0 (by omega)).mono ?_
        rintro e w3 ⟨v3, F3, d, rfl, h3, i3, o3, c3, n3, l3⟩
        have hl3 := lstep_len L kd ky at_
        have HI3 := Lib.hid (show HW W w3 hp F3 (lstep L kd ky at_) (s + d) v3 (t + 1) from
          ⟨h3, i3, o3, (HQ.out.bel.trans (c3.below HQ.out.bel.size HQ.out.own)), fun k hk => by
            rcases n3 k hk with e | e
            · exact HQ.out.own k e
            · have := HQ.out.bel.size; omega, by omega, by omega, by
            have : 34 * (L.length + 1) ≤ 6000 := by omega
            omega⟩)
        clear h3 i3 o3 c3 n3 l3 hl3 e0 e1 e2
        generalize lstep L kd ky at_ = L' at *
        generalize s + (d : Int) = s' at *
        have e1 := HC.out _ HI3.out.bel
        obtain ⟨a3, n3, cap3, rfl, hn3, _, _, hat3⟩ := HI3.out.iv.at_
        have HAT3 := Lib.hid hat3
        clear hat3
        cases L' with
        | nil =>
          obtain rfl : n3 = 0 := hn3
          have HPL := Lib.hid (show lpl [] ky = -1 from rfl)
          go_wp2_with fail
          refine (peek_nil HI3.out.hl).mono ?_
          rintro e w4 ⟨rfl, hb4⟩
          have HB4 := Lib.hid hb4
          have HW4 := Lib.hid (bt HI3.out.bel hb4)
          have e1 := HC.out _ HW4.out
          have hbb : b < w4.heap.size := Nat.lt_of_lt_of_le hB.out HW4.out.size
          clear hb4
          go_wp2_with fail
          refine (hat_any (HI3.out.hl.below HB4.out) ky hkk).mono ?_
          rintro e w5 ⟨rfl, hb5⟩
          have HB5 := Lib.hid (bt HB4.out hb5)
          have e1 := HC.out _ (bt HI3.out.bel HB5.out)
          have hz : Lof [] ky = none := rfl
          rw [hz]
          clear hb5 hz
          go_wp2_with fail
          refine (place_any (HI3.out.iv.below HB5.out) ky).mono ?_
          rintro e w6 ⟨rfl, hb6⟩
          rw [HPL.out]
          have HB6 := Lib.hid (bt HB5.out hb6)
          clear hb6 e1
          go_wp2_with fail
          refine (hlong (HI3.out.hl.below HB6.out)).mono ?_
          rintro e w7 ⟨rfl, hb7⟩
          have HB7 := Lib.hid (bt HB6.out hb7)
          clear hb7
          go_wp2
          go_roundw
          case rel => exact ⟨t + 1, [], F3, s', by omega, by go_num, Lib.hid ⟨HI3.out.hl.below HB7.out, HI3.out.iv.below HB7.out, HI3.out.off.step HB7.out.size (fun k h => .inl h), bt HI3.out.bel HB7.out, HI3.out.own, HI3.out.len, HI3.out.s0, HI3.out.s1⟩⟩
          case measure => simp [intOf]; omega
        | cons p r =>
          obtain ⟨b3, off3, rfl, hb3, hcell3⟩ := HAT3.out 0 p rfl
          have D0 := Lib.hid (hcell3 0 _ rfl); have D1 := Lib.hid (hcell3 1 _ rfl)
          have HB3 := Lib.hid hb3
          have hn3p : 0 < n3 := by rw [hn3]; simp
          have hn3I : (0 : Int) < (n3 : Int) := by omega
          have hn3e : ((p :: r).length : Int) = (n3 : Int) := by rw [hn3]
          have HN3 := Lib.hid hn3e
          clear hcell3 hb3 hn3 hn3e
          cases hlof : Lof (p :: r) ky with
          | none =>
            have HLF := Lib.hid hlof
            have HPL := Lib.hid (lpl_no hlof)
            clear hlof
            go_wp2_with fail
            refine (peek_cons HI3.out.hl).mono ?_
            rintro e w4 ⟨rfl, hb4⟩
            have HB4 := Lib.hid hb4
            have HW4 := Lib.hid (bt HI3.out.bel hb4)
            have e1 := HC.out _ HW4.out
            have hbb : b < w4.heap.size := Nat.lt_of_lt_of_le hB.out HW4.out.size
            clear hb4
            go_wp2_with fail
            refine (hat_any (HI3.out.hl.below HB4.out) ky hkk).mono ?_
            rintro e w5 ⟨rfl, hb5⟩
            have HB5 := Lib.hid (bt HB4.out hb5)
            have e1 := HC.out _ (bt HI3.out.bel HB5.out)
            rw [HLF.out]
            clear hb5
            go_wp2_with fail
            refine (place_any (HI3.out.iv.below HB5.out) ky).mono ?_
            rintro e w6 ⟨rfl, hb6⟩
            rw [HPL.out]
            have HB6 := Lib.hid (bt HB5.out hb6)
            clear hb6 e1
            go_wp2_with fail
            refine (hlong (HI3.out.hl.below HB6.out)).mono ?_
            rintro e w7 ⟨rfl, hb7⟩
            rw [HN3.out]
            have HB7 := Lib.hid (bt HB6.out hb7)
            clear hb7
            have d0 := (HB7.out.cell (p := ⟨b3, off3 + 0 * 2 + 0, none⟩) HB3.out).trans D0.out
            have d1 := (HB7.out.cell (p := ⟨b3, off3 + 0 * 2 + 1, none⟩) HB3.out).trans D1.out
            simp only [Nat.zero_mul, Nat.add_zero] at d0 d1
            go_wp2
            go_roundw
            case rel => exact ⟨t + 1, p :: r, F3, s', by omega, by go_num, Lib.hid ⟨HI3.out.hl.below HB7.out, HI3.out.iv.below HB7.out, HI3.out.off.step HB7.out.size (fun k h => .inl h), bt HI3.out.bel HB7.out, HI3.out.own, HI3.out.len, HI3.out.s0, HI3.out.s1⟩⟩
            case measure => simp [intOf]; omega
          | some t0 =>
            have HLF := Lib.hid hlof
            obtain ⟨i, hi1, hi2⟩ := lpl_at hlof
            have HPL := Lib.hid hi1
            obtain ⟨b4, off4, e4, _, hcell4⟩ := HAT3.out i _ hi2
            cases e4
            have D2 := Lib.hid (hcell4 1 _ rfl)
            have hiI : (i : Int) < (n3 : Int) := by
              have := (List.getElem?_eq_some_iff.1 hi2).1
              have h2 := HN3.out; omega
            clear hlof hi1 hi2 hcell4
            go_wp2_with fail
            refine (peek_cons HI3.out.hl).mono ?_
            rintro e w4 ⟨rfl, hb4⟩
            have HB4 := Lib.hid hb4
            have HW4 := Lib.hid (bt HI3.out.bel hb4)
            have e1 := HC.out _ HW4.out
            have hbb : b < w4.heap.size := Nat.lt_of_lt_of_le hB.out HW4.out.size
            clear hb4
            go_wp2_with fail
            refine (hat_any (HI3.out.hl.below HB4.out) ky hkk).mono ?_
            rintro e w5 ⟨rfl, hb5⟩
            have HB5 := Lib.hid (bt HB4.out hb5)
            have e1 := HC.out _ (bt HI3.out.bel HB5.out)
            rw [HLF.out]
            clear hb5
            go_wp2_with fail
            refine (place_any (HI3.out.iv.below HB5.out) ky).mono ?_
            rintro e w6 ⟨rfl, hb6⟩
            rw [HPL.out]
            have HB6 := Lib.hid (bt HB5.out hb6)
            clear hb6 e1
            go_wp2_with fail
            refine (hlong (HI3.out.hl.below HB6.out)).mono ?_
            rintro e w7 ⟨rfl, hb7⟩
            rw [HN3.out]
            have HB7 := Lib.hid (bt HB6.out hb7)
            clear hb7
            have d0 := (HB7.out.cell (p := ⟨b3, off3 + 0 * 2 + 0, none⟩) HB3.out).trans D0.out
            have d1 := (HB7.out.cell (p := ⟨b3, off3 + 0 * 2 + 1, none⟩) HB3.out).trans D1.out
            have d2 := (HB7.out.cell (p := ⟨b3, off3 + i * 2 + 1, none⟩) HB3.out).trans D2.out
            simp only [Nat.zero_mul, Nat.add_zero] at d0 d1
            go_wp2
            go_roundw
            case rel => exact ⟨t + 1, p :: r, F3, s', by omega, by go_num, Lib.hid ⟨HI3.out.hl.below HB7.out, HI3.out.iv.below HB7.out, HI3.out.off.step HB7.out.size (fun k h => .inl h), bt HI3.out.bel HB7.out, HI3.out.own, HI3.out.len, HI3.out.s0, HI3.out.s1⟩⟩
            case measure => simp [intOf]; omega
      · obtain rfl : n = t := by omega
        go_wp2_with fail
        refine (works11 _).mono ?_
        rintro e w3 ⟨rfl, hb3⟩
        go_wp2
        go_ret
        exact ⟨rfl, bt HQ.out.bel hb3⟩
namespace HeapPlays
open Go.ChangeShapes Go.WideShapes Go.ChangeAt Go.RowKit Go.Joins
theorem own : ownKnob Try.prog.godebug = none := by kernel_rfl
theorem laidOut : laidOutB Try.prog = true := by kernel_rfl
set_option maxRecDepth 100000 in
theorem lifted (os : Os) (started : os.Started) (H : Type) (enc : TypeId × Value → H) :
    ReturnsInHanded {} Try.checked os 5 .any (Rows.heapPlaysSpec.pre6 enc Try.prog Try.f5 Rows.heapPlaysRow.domain false) (Rows.heapPlaysSpec.post enc Try.prog Try.f5 false true false false) := by
  refine returnsInHanded_of_change (C := Try.checked) own started (by kernel_rfl) Try.func5
    (ChangeSpec.witness6 (enc := enc) (C := Try.checked) false ⟨#[], #[.slice none 0 0], []⟩ 8 (by kernel_rfl) (by kernel_rfl) (by kernel_rfl) (by kernel_rfl)) ?_
  intro W base args ds gs before hval0 hW hcnd _
  have hval : ∀ (j : Nat) t v, Try.f5.params[j]? = some t → args[j]? = some v → Value.okWide Try.prog W .any base t v := hval0
  have hW' := hW
  obtain ⟨p, q, hA0, hV, rfl, hfz, hnd⟩ := hW
  have hA : DataW.TrodAll enc Try.prog W 0 (fun _ => true) true Try.f5.params.toList args.toList ds p := hA0
  rw [Try.params5] at hA hval
  obtain ⟨v0, vs0, d0, ds0, p0, q0, hargs, rfl, rfl, h0, r0⟩ := trodAll_cons hA
  obtain ⟨rfl, rfl, rfl⟩ := trodAll_nil r0
  obtain rfl : args = #[v0] := by cases args; simp_all
  obtain ⟨rfl, rfl⟩ := trodVars_none hV
  have k0 := h0
  have lt0 : ∀ x ∈ p0, x.block < W.heap.size := by obtain ⟨m, hm⟩ := k0; exact DataW.trod_lt m _ _ _ hm
  obtain ⟨la, oA, iA, _⟩ := open_acts (hval 0 47 v0 rfl rfl) k0
  clear hA0 hval0
  refine (plays11 v0 la W oA iA).mono fun e W' ⟨he, bel⟩ => ?_
  subst he
  exact ⟨_, rfl, _, _, _, [], _, [], hW', trodAll_mk1 (shut_bool Try.underlying4 _), (trodAll_cons_mk (Below.trod laidOut (by kernel_rfl) (of_decide_eq_true (by kernel_rfl)) k0 bel lt0) trodAll_mk0), rfl, bel.frame _, fun h => by cases h⟩
theorem over : Rows.heapPlaysRow.holds Try.pinned (OpenSpec.ofChange Rows.heapPlaysSpec) :=
  OpenClaim.holds_of_wide 5 Try.f5 rfl rfl rfl rfl rfl rfl rfl ⟨rfl, rfl, rfl, rfl, rfl⟩ rfl rfl rfl rfl rfl (by kernel_rfl) Try.func5 (by kernel_rfl)
    (of_decide_eq_true (by kernel_rfl)) (by unfold Func.isWrapper; first | (rw [if_pos (by decide +kernel)]; kernel_rfl) | (rw [if_neg (by decide +kernel)]; exact ⟨rfl, rfl⟩))
    (fun os started H enc _ => lifted os started H enc)
theorem proved : Rows.HeapPlaysSaid := over
end HeapPlays
end Go.Proofs.Ytajcelmnblncaaa

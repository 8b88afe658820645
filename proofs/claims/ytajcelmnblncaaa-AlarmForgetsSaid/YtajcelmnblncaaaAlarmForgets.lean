/- For any keys, kind and first number the statement AlarmForgets returns true. Condition: none. -/
import Derived.Test.YtajcelmnblncaaaAlP
namespace Go.Proofs.Ytajcelmnblncaaa
open Go.RowKit Go.Maps
attribute [local go_sem] ext_cell ext_frozen extC_cell extC_frozen Mix.calmUpon Mix.mUpon eqKy
abbrev keepK (A : List Ky) (what first : Int) : List Ky := A.filter fun k => !isF what first k
theorem forget_keys (R : List Rc) (what first : Int) : (forgetR R what first).map Rc.key = keepK (R.map Rc.key) what first := by
  unfold forgetR keepK
  rw [List.filter_map]; rfl
theorem keep_snoc {A : List Ky} {what first : Int} {t : Nat} {x : Ky} (hx : A[t]? = some x) : keepK (A.take (t + 1)) what first = keepK (A.take t) what first ++ if isF what first x then [] else [x] := by
  unfold keepK
  rw [take_at hx, List.filter_append]
  cases h : isF what first x <;> simp [h]
theorem keep_at {A : List Ky} {what first : Int} {t : Nat} {x : Ky} (hx : A[t]? = some x) (h : isF what first x = false) : (keepK A what first)[(keepK (A.take t) what first).length]? = some x := by
  have : keepK A what first = keepK (A.take t) what first ++ x :: keepK (A.drop (t + 1)) what first := by
    conv => lhs; rw [parted_at hx]
    unfold keepK
    rw [List.filter_append, List.filter_cons, if_pos (by simp [h])]
  rw [this, List.getElem?_append_right (Nat.le_refl _)]
  simp
theorem keep_le (A : List Ky) (what first : Int) (t : Nat) : (keepK (A.take t) what first).length ≤ t := Nat.le_trans (List.length_filter_le _ _) (List.length_take_le _ _)
set_option maxRecDepth 100000 in
set_option maxHeartbeats 4000000 in
theorem forgets12 (v0 : Value) (K : List Ky) (what first : Int) (W : World) (hK : KV W v0 K) (hok : ∀ x ∈ K, KOk x) : Calls Try.prog 10 #[v0, .int .i64 what, .int .i64 first] W fun e W' => e = .returned (.bool true) ∧ Below W.heap.size W W' := by
  obtain ⟨a, n, cp, rfl, hn, hc, hm, hat⟩ := hK.at_
  by_cases hbig : 60 < n
  · have hbI : (60 : Int) < (n : Int) := by omega
    clear hat hK hok hn
    go_enter Try.func10, Try.ntmps10
    go_wp2
    go_ret
    exact ⟨rfl, Below.refl _ _⟩
  · have hbI : (n : Int) ≤ 60 := by omega
    have hnb : n ≤ 60 := by omega
    have HAT := Lib.hid hat; have HOK := Lib.hid hok; have HN := Lib.hid hn
    clear hat hK hok hn hbig hm
    go_enter Try.func10, Try.ntmps10
    go_wp2_with fail
    refine (anew W).mono ?_
    rintro e w1 ⟨ap, G1, rfl, h1, hb1, n1⟩
    have HI := Lib.hid (show AW W w1 ap G1 [] 0 from ⟨h1, hb1, n1⟩)
    clear h1 hb1 n1
    go_wp2
    go_loopw [8] (fun iv wr => ∃ (t : Nat) (R : List Rc) (G : Nat → Prop), t ≤ n ∧ iv = .int .i64 t ∧ R.length ≤ t ∧ Hid (AW W wr ap G R t)) (fun iv _ => n - (intOf iv).toNat)
    case atStart => exact ⟨0, [], G1, Nat.zero_le _, rfl, Nat.zero_le _, HI⟩
    case round =>
      clear HI
      obtain ⟨t, R, G, ht, rfl, hRt, HQ⟩ := hrel
      obtain ⟨w2, rfl⟩ : ∃ w2, w2 = wr := ⟨_, rfl⟩
      by_cases hlt : t < n
      · have hts : (t : Int) < (n : Int) := by omega
        obtain ⟨x, hx⟩ := at_lt (l := K) (i := t) (by rw [← HN.out]; exact hlt)
        obtain ⟨b, off, rfl, hb, hcell⟩ := HAT.out t x hx
        have HXO := Lib.hid (HOK.out x (mem_at hx))
        have e0 := (HQ.out.cell (o := off + t * 3 + 0) hb).trans (hcell 0 _ rfl)
        have e1 := (HQ.out.cell (o := off + t * 3 + 1) hb).trans (hcell 1 _ rfl)
        have e2 := (HQ.out.cell (o := off + t * 3 + 2) hb).trans (hcell 2 _ rfl)
        simp only [Nat.add_zero] at e0
        have hbw : b < w2.heap.size := Nat.lt_of_lt_of_le hb HQ.out.bel.size
        clear hcell hx
        go_wp2_with fail
        refine (aset HQ.out.as_ (by omega) HXO.out (at_ := t) ⟨by omega, by omega⟩).mono ?_
        rintro e w3 ⟨rfl, n3, G3, ha3, hc3, hn3⟩
        have HI3 := Lib.hid (HQ.out.step ha3 hc3 hn3)
        have HL3 := Lib.hid (pR_len R ⟨x, n3, t⟩)
        clear e0 e1 e2 ha3 hc3 hn3
        go_wp2
        go_roundw
        case rel => exact ⟨t + 1, _, G3, by omega, by go_num, by have := HL3.out; omega, HI3⟩
        case measure => simp [intOf]; omega
      · obtain rfl : n = t := by omega
        have HRI := Lib.hid HQ.out.as_.ri
        go_wp2_with fail
        refine (aall HQ.out.as_).mono ?_
        rintro e w3 ⟨v3, rfl, hrs3, hnw3, hc3⟩
        have HQ3 := Lib.hid (HQ.out.on (hc3.below (Nat.le_refl _) fun _ h => h.elim))
        have HNG3 := Lib.hid (show ∀ b, v3.ownBlock = some b → ¬ G b from fun b hb e => by have := hnw3 b hb; have := HQ.out.as_.lt b e; omega)
        have HR3 := Lib.hid hrs3
        clear hrs3 hnw3 hc3
        go_wp2_with fail
        refine (aforget HQ3.out.as_ (by omega) what first).mono ?_
        rintro e w4 ⟨rfl, G4, ha4, hc4, hn4⟩
        have HQ4 := Lib.hid (HQ3.out.step ha4 hc4 hn4)
        have HR4 := Lib.hid (HR3.out.chg hc4 HNG3.out)
        clear ha4 hc4 hn4
        go_wp2_with fail
        refine (aall HQ4.out.as_).mono ?_
        rintro e w5 ⟨v5, rfl, hrs5, hnw5, hc5⟩
        have hb45 := hc5.below (Nat.le_refl _) fun _ h => h.elim
        have HQ5 := Lib.hid (HQ4.out.on hb45)
        have HR5 := Lib.hid (HR4.out.below hb45)
        rw [forget_keys] at hrs5
        obtain ⟨A, hA⟩ : ∃ A, A = R.map Rc.key := ⟨_, rfl⟩
        have hAl : A.length = R.length := by rw [hA, List.length_map]
        have hBl : (forgetR R what first).length = (keepK A what first).length := by rw [hA, ← forget_keys, List.length_map]
        rw [← hA] at hrs5 HR5
        rw [hBl, ← hAl]
        obtain ⟨a3, n3, cp3, rfl, hn3, _, _, hat3⟩ := HR5.out.at_
        obtain ⟨a5, n5, cp5, rfl, hn5, _, _, hat5⟩ := hrs5.at_
        have HAT3 := Lib.hid hat3; have HAT5 := Lib.hid hat5; have HN3 := Lib.hid hn3; have HN5 := Lib.hid hn5
        have hn3b : n3 ≤ 60 := by omega
        have hn53 : n5 ≤ n3 := by rw [hn3, hn5]; exact List.length_filter_le _ _
        have hsub : ((A.length - (keepK A what first).length : Nat) : Int) = (n3 : Int) - (n5 : Int) := by omega
        rw [hsub]
        clear hA hAl hBl hrs5 hnw5 hc5 hb45 hat3 hat5 hn3 hn5 hsub
        go_wp2
        go_loopw [10, 12, 13] (fun nv kv iv wr => ∃ (t k : Nat), t ≤ n3 ∧ k ≤ t ∧ iv = .int .i64 t ∧ kv = .int .i64 k ∧ nv = .int .i64 ((n3 : Int) - n5 - (t - k)) ∧ Hid (k = (keepK (A.take t) what first).length) ∧ Hid (Below w5.heap.size w5 wr)) (fun _ _ iv _ => n3 - (intOf iv).toNat)
        case atStart => exact ⟨0, 0, Nat.zero_le _, Nat.le_refl _, rfl, rfl, by simp, Lib.hid rfl, Lib.hid (Below.refl _ _)⟩
        case round =>
          obtain ⟨t, k, ht3, hkt, rfl, rfl, rfl, HKL, HB⟩ := hrel
          obtain ⟨w6, rfl⟩ : ∃ w6, w6 = wr := ⟨_, rfl⟩
          by_cases hlt3 : t < n3
          · have hts : (t : Int) < (n3 : Int) := by omega
            obtain ⟨x, hx⟩ := at_lt (l := A) (i := t) (by rw [← HN3.out]; exact hlt3)
            obtain ⟨b, off, rfl, hb, hcell⟩ := HAT3.out t x hx
            have d0 := (HB.out.cell (p := ⟨b, off + t * 3 + 0, none⟩) hb).trans (hcell 0 _ rfl)
            have d1 := (HB.out.cell (p := ⟨b, off + t * 3 + 1, none⟩) hb).trans (hcell 1 _ rfl)
            have d2 := (HB.out.cell (p := ⟨b, off + t * 3 + 2, none⟩) hb).trans (hcell 2 _ rfl)
            simp only [Nat.add_zero] at d0
            have hbw : b < w6.heap.size := Nat.lt_of_lt_of_le hb HB.out.size
            have hks := keep_snoc (what := what) (first := first) hx
            cases hf : isF what first x with
            | true =>
              have hb1 : (x.1 == what) = true := by unfold isF at hf; simp at hf; simpa using hf.1
              have hb2 : (x.2.1 == first) = true := by unfold isF at hf; simp at hf; simpa using hf.2
              have hq : IntKind.i64.wrap ((n3 : Int) - n5 - (t - k) - 1) = (n3 : Int) - n5 - (t - k) - 1 := IntWalk.i64_in _ (by omega)
              rw [hf] at hks
              have HKS := Lib.hid hks
              clear hf hks hcell hx
              go_wp2
              go_roundw
              case rel => exact ⟨t + 1, k, by omega, by omega, by go_num, rfl, by congr 1; omega, Lib.hid (by rw [HKS.out]; simpa using HKL.out), HB⟩
              case measure => simp [intOf]; omega
            | false =>
              rw [hf] at hks
              have HKS := Lib.hid hks
              have hB := keep_at hx hf
              rw [← HKL.out] at hB
              have hk5 : k < n5 := by rw [HN5.out]; exact (List.getElem?_eq_some_iff.1 hB).1
              obtain ⟨b5, off5, rfl, hb5, hcell5⟩ := HAT5.out k x hB
              have f0 := (HB.out.cell (p := ⟨b5, off5 + k * 3 + 0, none⟩) hb5).trans (hcell5 0 _ rfl)
              have f1 := (HB.out.cell (p := ⟨b5, off5 + k * 3 + 1, none⟩) hb5).trans (hcell5 1 _ rfl)
              have f2 := (HB.out.cell (p := ⟨b5, off5 + k * 3 + 2, none⟩) hb5).trans (hcell5 2 _ rfl)
              simp only [Nat.add_zero] at f0
              have hbw5 : b5 < w6.heap.size := Nat.lt_of_lt_of_le hb5 HB.out.size
              have hki : (k : Int) < (n5 : Int) := by omega
              have hg1 : decide ((n5 : Int) ≤ (k : Int)) = false := by simp; omega
              have hg2 : decide (n5 ≤ k) = false := by simp; omega
              clear hks hcell hx hcell5 hB
              by_cases h1 : x.1 = what
              · have hb1 : (x.1 == what) = true := by simpa using h1
                have hb2 : (x.2.1 == first) = false := by
                  unfold isF at hf; rw [hb1] at hf; simpa using hf
                clear hf h1
                go_wp2
                refine wp_region_pure (by kernel_rfl) (by kernel_rfl) ?_
                repeat (first | go_big_quiet_step ((fail)) | (quiet_step ((fail))))
                refine wpQuiet_nil ?_
                rintro w7 ⟨x7, hx7⟩
                have hb7 := ext_below _ x7
                rw [← hx7] at hb7
                clear hx7 x7
                have hs7 : w6.heap.size + 0 ≤ w7.heap.size := (by have h := hb7.size; first | omega | (simp at h; omega))
                obtain ⟨hc7, hf7, hl7⟩ := bcell hb7
                clear hl7
                have HB7 := Lib.hid (bt HB.out hb7)
                clear hb7 hc7 hf7 d0 d1 d2 f0 f1 f2
                go_wp2
                go_roundw
                case rel => exact ⟨t + 1, k + 1, by omega, by omega, by go_num, by go_num, by congr 1; omega, Lib.hid (by have h1 := HKS.out; have h2 := HKL.out; rw [h1, List.length_append]; simp; omega), HB7⟩
                case measure => simp [intOf]; omega
              · have hb1 : (x.1 == what) = false := by simpa using h1
                clear hf h1
                go_wp2
                refine wp_region_pure (by kernel_rfl) (by kernel_rfl) ?_
                repeat (first | go_big_quiet_step ((fail)) | (quiet_step ((fail))))
                refine wpQuiet_nil ?_
                rintro w7 ⟨x7, hx7⟩
                have hb7 := ext_below _ x7
                rw [← hx7] at hb7
                clear hx7 x7
                have hs7 : w6.heap.size + 0 ≤ w7.heap.size := (by have h := hb7.size; first | omega | (simp at h; omega))
                obtain ⟨hc7, hf7, hl7⟩ := bcell hb7
                clear hl7
                have HB7 := Lib.hid (bt HB.out hb7)
                clear hb7 hc7 hf7 d0 d1 d2 f0 f1 f2
                go_wp2
                go_roundw
                case rel => exact ⟨t + 1, k + 1, by omega, by omega, by go_num, by go_num, by congr 1; omega, Lib.hid (by have h1 := HKS.out; have h2 := HKL.out; rw [h1, List.length_append]; simp; omega), HB7⟩
                case measure => simp [intOf]; omega
          · obtain rfl : n3 = t := by omega
            have hkk : k = n5 := by
              have h1 := HKL.out
              rw [HN3.out, List.take_length, ← HN5.out] at h1
              exact h1
            subst hkk
            have hz : (n3 : Int) - k - (n3 - k) = 0 := by omega
            rw [hz]
            have H6 := Lib.hid (HQ5.out.on HB.out)
            clear hz
            go_wp2_with fail
            have HB7 := Lib.hid (show Below w6.heap.size w6 (w6.alloc (.cells #[.pointer none, .map none, .map none, .int .i64 0] 99)) from ba (Below.refl _ _) _)
            have HNM := Lib.hid (show NM (w6.alloc (.cells #[.pointer none, .map none, .map none, .int .i64 0] 99)) (ptr w6.heap.size) from .inr ⟨_, rfl, by rw [cell_new]; rfl, by simp⟩)
            generalize w6.alloc (.cells #[.pointer none, .map none, .map none, .int .i64 0] 99) = w7 at *
            refine (aset_no (.inl rfl) (0, 0, 0) 1).mono ?_
            rintro e w8 ⟨rfl, hb8⟩
            have HM8 := Lib.hid (HNM.out.below hb8)
            have HB8 := Lib.hid (bt HB7.out hb8)
            clear hb8
            go_wp2_with fail
            refine (aforget_no (.inl rfl) 0 0).mono ?_
            rintro e w9 ⟨rfl, hb9⟩
            have HM9 := Lib.hid (HM8.out.below hb9)
            have HB9 := Lib.hid (bt HB8.out hb9)
            clear hb9
            go_wp2_with fail
            refine (aset_no HM9.out (0, 0, 0) 1).mono ?_
            rintro e w10 ⟨rfl, hb10⟩
            have HM10 := Lib.hid (HM9.out.below hb10)
            have HB10 := Lib.hid (bt HB9.out hb10)
            clear hb10
            go_wp2_with fail
            refine (adue_no HM10.out 9).mono ?_
            rintro e w11 ⟨rfl, hb11⟩
            have HB11 := Lib.hid (bt HB10.out hb11)
            clear hb11
            go_wp2_with fail
            refine (works12 _).mono ?_
            rintro e w12 ⟨rfl, hb12⟩
            have HB12 := Lib.hid (bt HB11.out hb12)
            clear hb12
            go_wp2
            go_ret
            exact ⟨rfl, bt H6.out.bel HB12.out⟩
namespace AlarmForgets
open Go.ChangeShapes Go.WideShapes Go.ChangeAt Go.RowKit Go.Joins
theorem own : ownKnob Try.prog.godebug = none := by kernel_rfl
theorem laidOut : laidOutB Try.prog = true := by kernel_rfl
set_option maxRecDepth 100000 in
theorem lifted (os : Os) (started : os.Started) (H : Type) (enc : TypeId × Value → H) :
    ReturnsInHanded {} Try.checked os 10 .any (Rows.alarmForgetsSpec.pre6 enc Try.prog Try.f10 Rows.alarmForgetsRow.domain false) (Rows.alarmForgetsSpec.post enc Try.prog Try.f10 false true false false) := by
  refine returnsInHanded_of_change (C := Try.checked) own started (by kernel_rfl) Try.func10
    (ChangeSpec.witness6 (enc := enc) (C := Try.checked) false ⟨#[], #[.slice none 0 0, .int .i64 0, .int .i64 0], []⟩ 8 (by kernel_rfl) (by kernel_rfl) (by kernel_rfl) (by kernel_rfl)) ?_
  intro W base args ds gs before hval0 hW hcnd _
  have hval : ∀ (j : Nat) t v, Try.f10.params[j]? = some t → args[j]? = some v → Value.okWide Try.prog W .any base t v := hval0
  have hW' := hW
  obtain ⟨p, q, hA0, hV, rfl, hfz, hnd⟩ := hW
  have hA : DataW.TrodAll enc Try.prog W 0 (fun _ => true) true Try.f10.params.toList args.toList ds p := hA0
  rw [Try.params10] at hA hval
  obtain ⟨v0, vs0, d0, ds0, p0, q0, hargs, rfl, rfl, h0, r0⟩ := trodAll_cons hA
  obtain ⟨v1, vs1, d1, ds1, p1, q1, rfl, rfl, rfl, h1, r1⟩ := trodAll_cons r0
  obtain ⟨v2, vs2, d2, ds2, p2, q2, rfl, rfl, rfl, h2, r2⟩ := trodAll_cons r1
  obtain ⟨rfl, rfl, rfl⟩ := trodAll_nil r2
  obtain rfl : args = #[v0, v1, v2] := by cases args; simp_all
  obtain ⟨rfl, rfl⟩ := trodVars_none hV
  have k0 := h0
  have lt0 : ∀ x ∈ p0, x.block < W.heap.size := by obtain ⟨m, hm⟩ := k0; exact DataW.trod_lt m _ _ _ hm
  have k1 := h1
  have lt1 : ∀ x ∈ p1, x.block < W.heap.size := by obtain ⟨m, hm⟩ := k1; exact DataW.trod_lt m _ _ _ hm
  have k2 := h2
  have lt2 : ∀ x ∈ p2, x.block < W.heap.size := by obtain ⟨m, hm⟩ := k2; exact DataW.trod_lt m _ _ _ hm
  obtain ⟨la, oA, iA, _⟩ := open_keys (hval 0 87 v0 rfl rfl) k0
  obtain ⟨what, vEq1, _, _, wf_what⟩ := open_int Try.underlying3 (hval 1 3 v1 rfl rfl) k1
  subst vEq1
  obtain ⟨first, vEq2, _, _, wf_first⟩ := open_int Try.underlying2 (hval 2 2 v2 rfl rfl) k2
  subst vEq2
  clear hA0 hval0
  refine (forgets12 v0 la what first W oA iA).mono fun e W' ⟨he, bel⟩ => ?_
  subst he
  exact ⟨_, rfl, _, _, _, [], _, [], hW', trodAll_mk1 (shut_bool Try.underlying4 _), (trodAll_cons_mk (Below.trod laidOut (by kernel_rfl) (of_decide_eq_true (by kernel_rfl)) k0 bel lt0) (trodAll_cons_mk (Below.trod laidOut (by kernel_rfl) (of_decide_eq_true (by kernel_rfl)) k1 bel lt1) (trodAll_cons_mk (Below.trod laidOut (by kernel_rfl) (of_decide_eq_true (by kernel_rfl)) k2 bel lt2) trodAll_mk0))), rfl, bel.frame _, fun h => by cases h⟩
theorem over : Rows.alarmForgetsRow.holds Try.pinned (OpenSpec.ofChange Rows.alarmForgetsSpec) :=
  OpenClaim.holds_of_wide 10 Try.f10 rfl rfl rfl rfl rfl rfl rfl ⟨rfl, rfl, rfl, rfl, rfl⟩ rfl rfl rfl rfl rfl (by kernel_rfl) Try.func10 (by kernel_rfl)
    (of_decide_eq_true (by kernel_rfl)) (by unfold Func.isWrapper; first | (rw [if_pos (by decide +kernel)]; kernel_rfl) | (rw [if_neg (by decide +kernel)]; exact ⟨rfl, rfl⟩))
    (fun os started H enc _ => lifted os started H enc)
theorem proved : Rows.AlarmForgetsSaid := over
end AlarmForgets
end Go.Proofs.Ytajcelmnblncaaa

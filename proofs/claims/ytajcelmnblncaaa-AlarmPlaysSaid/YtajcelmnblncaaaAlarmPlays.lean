/- For any acts the statement AlarmPlays returns true. Condition: none. -/
import Derived.Test.YtajcelmnblncaaaAlM7
namespace Go.Proofs.Ytajcelmnblncaaa
open Go.RowKit Go.Maps Go.ChangeShapes Go.WideShapes Go.ChangeAt Go.Joins Go.Deep
attribute [local go_sem] ext_cell ext_frozen extC_cell extC_frozen Mix.calmUpon Mix.mUpon eqRy eqKy
/-- An act that came in. -/
structure AAct where
  kd : Int
  k : Ky
  a : Int
def aaenc (x : AAct) : List Value := [.int .i64 x.kd, .int .i64 x.k.1, .int .i64 x.k.2.1, .int .i64 x.k.2.2, .int .i64 x.a]
abbrev AAV (w : World) (v : Value) (l : List AAct) : Prop := RS 5 aaenc w v l
theorem c5aa : Try.prog.cellsOf 81 = 5 := by kernel_rfl
set_option maxRecDepth 100000 in
theorem open_aacts {H : Type} {enc : TypeId × Value → H} {W : World} {base : Nat} {sp : Nat → Bool} {held : Bool} {r : Reach} {b0 : Nat} {v : Value} {d : DataW H} {p : List MemPlace}
    (hv : Value.okWide Try.prog W r b0 72 v) (h : DataW.Trod enc Try.prog W base sp held 72 v d p) : ∃ l : List AAct, AAV W v l ∧ (∀ x ∈ l, KOk x.k ∧ J64 x.a) ∧ ∀ b, v.ownBlock = some b → b < W.heap.size := by
  have : Inhabited AAct := ⟨⟨0, (0, 0, 0), 0⟩⟩
  refine open_rs (P := Try.prog) (k := 5) (enc := aaenc) (ok := fun x => KOk x.k ∧ J64 x.a) Try.underlying72 c5aa (fun _ => rfl) (fun m cs x hl hf => ?_) hv h
  match cs, hl with
  | [c0, c1, c2, c3, c4], _ =>
    obtain ⟨xs, n, _, _, _, hlen, hff⟩ := DataW.trod_struct Try.underlying81 hf
    match xs, hlen with
    | [y0, y1, y2], _ =>
      have k0 : DataW.trod enc Try.prog W base sp held n 3 [c0] = some y0 := hff 0 _ rfl
      have k1 : DataW.trod enc Try.prog W base sp held n 79 [c1, c2, c3] = some y1 := hff 1 _ rfl
      have k2 : DataW.trod enc Try.prog W base sp held n 2 [c4] = some y2 := hff 2 _ rfl
      obtain ⟨z0, z1, z2, m', _, _, h0, h1, h2⟩ := trod_struct3 Try.underlying79 k1
      have j0 : DataW.trod enc Try.prog W base sp held m' 3 [c1] = some z0 := h0
      have j1 : DataW.trod enc Try.prog W base sp held m' 2 [c2] = some z1 := h1
      have j2 : DataW.trod enc Try.prog W base sp held m' 2 [c3] = some z2 := h2
      obtain ⟨q0, e0, _, _⟩ := DataW.trod_int Try.underlying3 k0
      obtain ⟨q1, e1, _, w1⟩ := DataW.trod_int Try.underlying3 j0
      obtain ⟨q2, e2, _, w2⟩ := DataW.trod_int Try.underlying2 j1
      obtain ⟨q3, e3, _, w3⟩ := DataW.trod_int Try.underlying2 j2
      obtain ⟨q4, e4, _, w4⟩ := DataW.trod_int Try.underlying2 k2
      simp at e0 e1 e2 e3 e4
      subst e0 e1 e2 e3 e4
      exact ⟨⟨q0, (q1, q2, q3), q4⟩, rfl, ⟨wf64 w1, wf64 w2, wf64 w3⟩, wf64 w4⟩
theorem mdoes {W w : World} {ap : Nat} {G : Nat → Prop} {R : List Rc} {v : Value} {c : Nat} (h : PW W w ap G R v c) (kd : Int) {k : Ky} {a : Int} (hk : KOk k) (ha : J64 a) (hc : c + R.length < 79000) (hl : R.length < 1000) :
    Calls Try.prog 44 #[ptr ap, v, tval kd k a] w (DoP W ap R c) := by
  by_cases h0 : kd = 0
  · exact mdoes0 h h0 hk ha hc hl
  · by_cases h1 : kd = 1
    · exact mdoes1 h h1 hk ha hc hl
    · by_cases h2 : kd = 2
      · exact mdoes2 h h2 hk ha hc hl
      · exact mdoes3 h ⟨h0, h1, h2⟩ hk ha hc hl
theorem pl_no {R : List Rc} {k : Ky} (h : fK R k = none) : plR R k = -1 := Srt.pl_none (Srt.fnd_none.1 h)
set_option maxRecDepth 100000 in
set_option maxHeartbeats 8000000 in
theorem plays12 (v0 : Value) (acts : List AAct) (W : World) (hA : AAV W v0 acts) (hok : ∀ x ∈ acts, KOk x.k ∧ J64 x.a) : Calls Try.prog 8 #[v0] W fun e W' => e = .returned (.bool true) ∧ Below W.heap.size W W' := by
  obtain ⟨a, n, cp, rfl, hn, hc, hm, hat⟩ := hA.at_
  by_cases hbig : 100 < n
  · have hbI : (100 : Int) < (n : Int) := by omega
    clear hat hA hok hn
    go_enter Try.func8, Try.ntmps8
    go_wp2
    go_ret
    exact ⟨rfl, Below.refl _ _⟩
  have hbI : (n : Int) ≤ 100 := by omega
  have HAT := Lib.hid hat; have HOK := Lib.hid hok; have HN := Lib.hid hn
  clear hat hA hok hn hbig hm
  go_enter Try.func8, Try.ntmps8
  go_wp2_with fail
  refine (anew W).mono ?_
  rintro e w1 ⟨ap, G1, rfl, h1, hb1, n1⟩
  have HI := Lib.hid (show PW W w1 ap G1 [] (.slice none 0 0) 0 from ⟨⟨h1, hb1, n1⟩, RS.nil _ _ _, fun b e => by cases e⟩)
  clear h1 hb1 n1
  go_wp2
  go_loopw [4, 5] (fun lv iv wr => ∃ (t : Nat) (R : List Rc) (G : Nat → Prop) (c : Nat), t ≤ n ∧ iv = .int .i64 t ∧ R.length ≤ t ∧ c ≤ 101 * t ∧ Hid (PW W wr ap G R lv c)) (fun _ iv _ => n - (intOf iv).toNat)
  case atStart => exact ⟨0, [], G1, 0, Nat.zero_le _, rfl, Nat.zero_le _, Nat.zero_le _, HI⟩
  case round =>
    clear HI
    obtain ⟨t, R, G, c, ht, rfl, hRl, hcl, HQ⟩ := hrel
    obtain ⟨w2, rfl⟩ : ∃ w2, w2 = wr := ⟨_, rfl⟩
    by_cases hlt : t < n
    · have hts : (t : Int) < (n : Int) := by omega
      obtain ⟨x, hx⟩ := at_lt (l := acts) (i := t) (by rw [← HN.out]; exact hlt)
      obtain ⟨b, off, rfl, hb, hcell⟩ := HAT.out t x hx
      have hxo := HOK.out x (mem_at hx)
      obtain ⟨kd, k, ka⟩ := x
      have HXK := Lib.hid hxo.1; have HXA := Lib.hid hxo.2
      have HCX := Lib.hid hcell; have HBB := Lib.hid hb
      clear hcell hx hxo hb
      have e0 := ((HQ.out.aw.bel).cell (p := ⟨b, off + t * 5 + 0, none⟩) HBB.out).trans (HCX.out 0 _ rfl)
      have e1 := ((HQ.out.aw.bel).cell (p := ⟨b, off + t * 5 + 1, none⟩) HBB.out).trans (HCX.out 1 _ rfl)
      have e2 := ((HQ.out.aw.bel).cell (p := ⟨b, off + t * 5 + 2, none⟩) HBB.out).trans (HCX.out 2 _ rfl)
      have e3 := ((HQ.out.aw.bel).cell (p := ⟨b, off + t * 5 + 3, none⟩) HBB.out).trans (HCX.out 3 _ rfl)
      have e4 := ((HQ.out.aw.bel).cell (p := ⟨b, off + t * 5 + 4, none⟩) HBB.out).trans (HCX.out 4 _ rfl)
      simp only [Nat.add_zero] at e0
      have qs : b < w2.heap.size := Nat.lt_of_lt_of_le HBB.out (HQ.out.aw.bel).size
      have HDO := Lib.hid (mdoes HQ.out kd HXK.out HXA.out (by omega) (by omega))
      go_wp2_with fail
      refine HDO.out.mono ?_
      rintro e w3 ⟨v3, G3, R3, rfl, hP3, hl3⟩
      have H3 := Lib.hid hP3
      have hR3 : R3.length ≤ t + 1 := by omega
      have hc3 : c + R.length + 1 ≤ 101 * (t + 1) := by omega
      generalize c + R.length + 1 = c3 at *
      clear hP3 hl3 e0 e1 e2 e3 e4 qs HDO hRl hcl
      have e0 := ((H3.out.aw.bel).cell (p := ⟨b, off + t * 5 + 0, none⟩) HBB.out).trans (HCX.out 0 _ rfl)
      have e1 := ((H3.out.aw.bel).cell (p := ⟨b, off + t * 5 + 1, none⟩) HBB.out).trans (HCX.out 1 _ rfl)
      have e2 := ((H3.out.aw.bel).cell (p := ⟨b, off + t * 5 + 2, none⟩) HBB.out).trans (HCX.out 2 _ rfl)
      have e3 := ((H3.out.aw.bel).cell (p := ⟨b, off + t * 5 + 3, none⟩) HBB.out).trans (HCX.out 3 _ rfl)
      have e4 := ((H3.out.aw.bel).cell (p := ⟨b, off + t * 5 + 4, none⟩) HBB.out).trans (HCX.out 4 _ rfl)
      simp only [Nat.add_zero] at e0
      have qs : b < w3.heap.size := Nat.lt_of_lt_of_le HBB.out (H3.out.aw.bel).size
      go_wp2_with fail
      refine (aat H3.out.aw.as_ HXK.out).mono ?_
      rintro e w4 ⟨rfl, hb4⟩
      have H4 := Lib.hid (H3.out.on hb4)
      clear hb4 e0 e1 e2 e3 e4 qs
      cases hf : fK R3 k with
      | none =>
        rw [show atA R3 k = .tuple #[.int .i64 0, .bool false] by unfold atA; rw [hf]]
        have HPL := Lib.hid (show plR R3 k = -1 from pl_no hf)
        clear hf
        have e0 := ((H4.out.aw.bel).cell (p := ⟨b, off + t * 5 + 0, none⟩) HBB.out).trans (HCX.out 0 _ rfl)
        have e1 := ((H4.out.aw.bel).cell (p := ⟨b, off + t * 5 + 1, none⟩) HBB.out).trans (HCX.out 1 _ rfl)
        have e2 := ((H4.out.aw.bel).cell (p := ⟨b, off + t * 5 + 2, none⟩) HBB.out).trans (HCX.out 2 _ rfl)
        have e3 := ((H4.out.aw.bel).cell (p := ⟨b, off + t * 5 + 3, none⟩) HBB.out).trans (HCX.out 3 _ rfl)
        have e4 := ((H4.out.aw.bel).cell (p := ⟨b, off + t * 5 + 4, none⟩) HBB.out).trans (HCX.out 4 _ rfl)
        simp only [Nat.add_zero] at e0
        have qs : b < w4.heap.size := Nat.lt_of_lt_of_le HBB.out (H4.out.aw.bel).size
        go_wp2_with fail
        refine (mkey k w4).mono ?_
        rintro e w5 ⟨rfl, hb5⟩
        have H5 := Lib.hid (H4.out.on hb5)
        clear hb5 e0 e1 e2 e3 e4 qs
        go_wp2_with fail
        refine (mfind H5.out.rv k).mono ?_
        rintro e w6 ⟨rfl, hb6⟩
        rw [HPL.out]
        have H6 := Lib.hid (H5.out.on hb6)
        clear hb6
        go_wp2_with fail
        refine (aall H6.out.aw.as_).mono ?_
        rintro e w7 ⟨v7, rfl, hr7, _, hc7⟩
        have hb7 : Below w6.heap.size w6 w7 := hc7.below (Nat.le_refl _) (fun _ e => e.elim)
        clear hc7
        have H7 := Lib.hid (H6.out.on hb7)
        have HR7 := Lib.hid hr7
        clear hb7 hr7
        go_wp2_with fail
        refine (malike HR7.out H7.out.rv (by omega)).mono ?_
        rintro e w8 ⟨rfl, hb8⟩
        have H8 := Lib.hid (H7.out.on hb8)
        clear hb8
        go_wp2
        go_roundw
        case rel => exact ⟨t + 1, R3, G3, c3, by omega, by go_num, hR3, hc3, H8⟩
        case measure => simp [intOf]; omega
      | some y =>
        rw [show atA R3 k = .tuple #[.int .i64 y.at_, .bool true] by unfold atA; rw [hf]]
        obtain ⟨i, hpl, hi⟩ := Srt.pl_at hf
        have HPL := Lib.hid (show plR R3 k = (i : Int) from hpl)
        have HIX := Lib.hid hi
        clear hf hpl hi
        have e0 := ((H4.out.aw.bel).cell (p := ⟨b, off + t * 5 + 0, none⟩) HBB.out).trans (HCX.out 0 _ rfl)
        have e1 := ((H4.out.aw.bel).cell (p := ⟨b, off + t * 5 + 1, none⟩) HBB.out).trans (HCX.out 1 _ rfl)
        have e2 := ((H4.out.aw.bel).cell (p := ⟨b, off + t * 5 + 2, none⟩) HBB.out).trans (HCX.out 2 _ rfl)
        have e3 := ((H4.out.aw.bel).cell (p := ⟨b, off + t * 5 + 3, none⟩) HBB.out).trans (HCX.out 3 _ rfl)
        have e4 := ((H4.out.aw.bel).cell (p := ⟨b, off + t * 5 + 4, none⟩) HBB.out).trans (HCX.out 4 _ rfl)
        simp only [Nat.add_zero] at e0
        have qs : b < w4.heap.size := Nat.lt_of_lt_of_le HBB.out (H4.out.aw.bel).size
        go_wp2_with fail
        refine (mkey k w4).mono ?_
        rintro e w5 ⟨rfl, hb5⟩
        have H5 := Lib.hid (H4.out.on hb5)
        clear hb5 e0 e1 e2 e3 e4 qs
        go_wp2_with fail
        refine (mfind H5.out.rv k).mono ?_
        rintro e w6 ⟨rfl, hb6⟩
        rw [HPL.out]
        have H6 := Lib.hid (H5.out.on hb6)
        clear hb6
        go_wp2_with fail
        refine (aall H6.out.aw.as_).mono ?_
        rintro e w7 ⟨v7, rfl, hr7, _, hc7⟩
        have hb7 : Below w6.heap.size w6 w7 := hc7.below (Nat.le_refl _) (fun _ e => e.elim)
        clear hc7
        have H7 := Lib.hid (H6.out.on hb7)
        have HR7 := Lib.hid hr7
        clear hb7 hr7
        go_wp2_with fail
        refine (malike HR7.out H7.out.rv (by omega)).mono ?_
        rintro e w8 ⟨rfl, hb8⟩
        have H8 := Lib.hid (H7.out.on hb8)
        clear hb8
        obtain ⟨aa, nn, cc, rfl, hnn, hcc, hcm, hat5⟩ := H8.out.rv.at_
        obtain ⟨b5, off5, rfl, hb5, hcell5⟩ := hat5 i y HIX.out
        have g3 := hcell5 3 _ rfl
        have hil := (List.getElem?_eq_some_iff.1 HIX.out).1
        have hin : (i : Int) < (nn : Int) := by omega
        have hinn : i < nn := by omega
        have hig : decide ((0 : Int) ≤ (i : Int)) = true := by simp
        clear hnn hcc hcm hat5 hcell5 hil
        go_wp2
        go_roundw
        case rel => exact ⟨t + 1, R3, G3, c3, by omega, by go_num, hR3, hc3, H8⟩
        case measure => simp [intOf]; omega
    · obtain rfl : n = t := by omega
      go_wp2_with fail
      refine (works12 _).mono ?_
      rintro e w3 ⟨rfl, hb3⟩
      have HB3 := Lib.hid (bt HQ.out.aw.bel hb3)
      clear hb3
      go_wp2
      go_ret
      exact ⟨rfl, HB3.out⟩
namespace AlarmPlays
open Go.ChangeShapes Go.WideShapes Go.ChangeAt Go.RowKit Go.Joins
theorem own : ownKnob Try.prog.godebug = none := by kernel_rfl
theorem laidOut : laidOutB Try.prog = true := by kernel_rfl
set_option maxRecDepth 100000 in
theorem lifted (os : Os) (started : os.Started) (H : Type) (enc : TypeId × Value → H) :
    ReturnsInHanded {} Try.checked os 8 .any (Rows.alarmPlaysSpec.pre6 enc Try.prog Try.f8 Rows.alarmPlaysRow.domain false) (Rows.alarmPlaysSpec.post enc Try.prog Try.f8 false true false false) := by
  refine returnsInHanded_of_change (C := Try.checked) own started (by kernel_rfl) Try.func8
    (ChangeSpec.witness6 (enc := enc) (C := Try.checked) false ⟨#[], #[.slice none 0 0], []⟩ 8 (by kernel_rfl) (by kernel_rfl) (by kernel_rfl) (by kernel_rfl)) ?_
  intro W base args ds gs before hval0 hW hcnd _
  have hval : ∀ (j : Nat) t v, Try.f8.params[j]? = some t → args[j]? = some v → Value.okWide Try.prog W .any base t v := hval0
  have hW' := hW
  obtain ⟨p, q, hA0, hV, rfl, hfz, hnd⟩ := hW
  have hA : DataW.TrodAll enc Try.prog W 0 (fun _ => true) true Try.f8.params.toList args.toList ds p := hA0
  rw [Try.params8] at hA hval
  obtain ⟨v0, vs0, d0, ds0, p0, q0, hargs, rfl, rfl, h0, r0⟩ := trodAll_cons hA
  obtain ⟨rfl, rfl, rfl⟩ := trodAll_nil r0
  obtain rfl : args = #[v0] := by cases args; simp_all
  obtain ⟨rfl, rfl⟩ := trodVars_none hV
  have k0 := h0
  have lt0 : ∀ x ∈ p0, x.block < W.heap.size := by obtain ⟨m, hm⟩ := k0; exact DataW.trod_lt m _ _ _ hm
  obtain ⟨la, oA, iA, _⟩ := open_aacts (hval 0 72 v0 rfl rfl) k0
  clear hA0 hval0
  refine (plays12 v0 la W oA iA).mono fun e W' ⟨he, bel⟩ => ?_
  subst he
  exact ⟨_, rfl, _, _, _, [], _, [], hW', trodAll_mk1 (shut_bool Try.underlying4 _), (trodAll_cons_mk (Below.trod laidOut (by kernel_rfl) (of_decide_eq_true (by kernel_rfl)) k0 bel lt0) trodAll_mk0), rfl, bel.frame _, fun h => by cases h⟩
theorem over : Rows.alarmPlaysRow.holds Try.pinned (OpenSpec.ofChange Rows.alarmPlaysSpec) :=
  OpenClaim.holds_of_wide 8 Try.f8 rfl rfl rfl rfl rfl rfl rfl ⟨rfl, rfl, rfl, rfl, rfl⟩ rfl rfl rfl rfl rfl (by kernel_rfl) Try.func8 (by kernel_rfl)
    (of_decide_eq_true (by kernel_rfl)) (by unfold Func.isWrapper; first | (rw [if_pos (by decide +kernel)]; kernel_rfl) | (rw [if_neg (by decide +kernel)]; exact ⟨rfl, rfl⟩))
    (fun os started H enc _ => lifted os started H enc)
theorem proved : Rows.AlarmPlaysSaid := over
end AlarmPlays
end Go.Proofs.Ytajcelmnblncaaa

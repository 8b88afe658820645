/- An act on alarms and on the document's list: time goes on. -/
import Derived.Test.YtajcelmnblncaaaAlM6
namespace Go.Proofs.Ytajcelmnblncaaa
open Go.RowKit Go.Maps
attribute [local go_sem] ext_cell ext_frozen extC_cell extC_frozen Mix.calmUpon Mix.mUpon eqRy eqKy
theorem due_parts {now : Int} : ∀ {R : List Rc}, SR R → R = dueR R now ++ restR R now
  | [], _ => rfl
  | x :: t, h => by
    unfold dueR restR
    by_cases hx : x.at_ ≤ now
    · rw [List.filter_cons, if_pos (by simpa using hx), List.filter_cons, if_neg (by simp [hx]), List.cons_append, ← due_parts (now := now) (Srt.In.tail h)]
    · have hl : ∀ y ∈ t, ¬ y.at_ ≤ now := fun y hy => by
        have := (Srt.In.head h y hy).1
        rw [ltR_iff] at this; omega
      rw [List.filter_cons, if_neg (by simpa using hx), List.filter_cons, if_pos (by simpa using hx), List.filter_eq_nil_iff.2 (fun y hy => by simpa using hl y hy), List.nil_append, List.filter_eq_self.2 (fun y hy => by simpa using hl y hy)]
theorem due_rest_len (R : List Rc) (now : Int) : (dueR R now).length + (restR R now).length = R.length := by
  induction R with
  | nil => rfl
  | cons x t ih =>
    unfold dueR restR at *
    rw [List.filter_cons, List.filter_cons]
    by_cases h : x.at_ ≤ now
    · rw [if_pos (by simpa using h), if_neg (by simp [h])]; simp; omega
    · rw [if_neg (by simpa using h), if_pos (by simp at h; simpa using h)]; simp; omega
theorem PW.due {W w w' : World} {ap : Nat} {G G' : Nat → Prop} {R R' : List Rc} {v vf : Value} {c c' : Nat} (h : PW W w ap G R v c) (hr : RV w' vf R') (ho : ∀ b, vf.ownBlock = some b → v.ownBlock = some b) (h1 : AS w' ap G' R' c') (h2 : Chg G w w') (h3 : ∀ k, G' k → G k ∨ w.heap.size ≤ k) : PW W w' ap G' R' vf c' :=
  ⟨h.aw.step h1 h2 h3, hr, fun b e => ⟨fun hg => by
    rcases h3 b hg with e' | e'
    · exact (h.off b (ho b e)).1 e'
    · have := (h.off b (ho b e)).2; omega, Nat.lt_of_lt_of_le (h.off b (ho b e)).2 h2.size⟩⟩
section
variable {W w : World} {ap : Nat} {G : Nat → Prop} {R : List Rc} {v : Value} {c : Nat}
set_option maxRecDepth 100000 in
set_option maxHeartbeats 4000000 in
theorem mdoes3 (h : PW W w ap G R v c) {kd : Int} (hkd : kd ≠ 0 ∧ kd ≠ 1 ∧ kd ≠ 2) {k : Ky} {a : Int} (hk : KOk k) (ha : J64 a) (hc : c + R.length < 79000) (hl : R.length < 1000) : Calls Try.prog 44 #[ptr ap, v, tval kd k a] w (DoP W ap R c) := by
  have g0 : (kd == 0) = false := by simpa using hkd.1
  have g1 : (kd == 1) = false := by simpa using hkd.2.1
  have g2 : (kd == 2) = false := by simpa using hkd.2.2
  clear hkd
  have hdp : R = dueR R a ++ restR R a := due_parts h.aw.as_.ri.srt
  have HDP := Lib.hid hdp
  have hdl := due_rest_len R a
  obtain ⟨nD, hnD⟩ : ∃ nD, nD = (dueR R a).length := ⟨_, rfl⟩
  have HND := Lib.hid hnD
  obtain ⟨i0, hi, hz0, hz1, hz2⟩ := info_parts infoRi
  obtain ⟨vf, rf, sf, of⟩ := h.rv.from_ (P := Try.prog) (T := 75) (i := nD) (by omega) Try.underlying75 hi hz1
  obtain ⟨vu, ru, su, ou⟩ := h.rv.upto (P := Try.prog) (T := 75) (i := nD) (by omega) Try.underlying75 hi hz1
  have HSF := Lib.hid (show ∀ w0, RV w0 v R → RV w0 vf (restR R a) from fun w0 h0 => by
    have := sf w0 h0
    rw [show R.drop nD = restR R a by conv => lhs; rw [hdp]
                                      rw [hnD, List.drop_left]] at this
    exact this)
  have HSU := Lib.hid (show ∀ w0, RV w0 v R → RV w0 vu (dueR R a) from fun w0 h0 => by
    have := su w0 h0
    rw [show R.take nD = dueR R a by conv => lhs; rw [hdp]
                                     rw [hnD, List.take_left]] at this
    exact this)
  have HOF := Lib.hid of; have HRF := Lib.hid rf; have HRU := Lib.hid ru; have HOU := Lib.hid ou
  have HLE := Lib.hid (show nD ≤ R.length by omega)
  obtain ⟨a0, n0, cp0, rfl, hn0, _, _, hat0⟩ := h.rv.at_
  have HN0 := Lib.hid hn0
  clear hn0 hat0 of rf ru ou sf su hi hz0 hz1 hz2 hdp hdl hnD
  have H := Lib.hid h
  have HB0 := Lib.hid (show Below w.heap.size w (w.alloc (.cells #[.int .i64 kd, .int .i64 k.1, .int .i64 k.2.1, .int .i64 k.2.2, .int .i64 a] 81)) from ba (Below.refl _ _) _)
  have HT0 := Lib.hid (TB.made w kd k a)
  have HKY := Lib.hid (mkey k)
  have HK := Lib.hid hk; have HA := Lib.hid ha
  clear h hk ha
  go_enter Try.func44, Try.ntmps44
  go_wp2_with fail
  generalize w.alloc (.cells #[.int .i64 kd, .int .i64 k.1, .int .i64 k.2.1, .int .i64 k.2.2, .int .i64 a] 81) = w0 at *
  obtain ⟨b0, hb0⟩ : ∃ b0, b0 = w.heap.size := ⟨_, rfl⟩
  rw [← hb0] at HT0 ⊢
  have nb0 : ¬ G b0 := fun e => by have := H.out.aw.as_.lt b0 e; omega
  clear hb0
  refine (HKY.out w0).mono ?_
  rintro e w1 ⟨rfl, hb1⟩
  have HB1 := Lib.hid (bt HB0.out hb1)
  have HT1 := Lib.hid (HT0.out.below hb1)
  clear hb1 HB0 HT0
  go_wp2_with fail
  refine (mfind (H.out.on HB1.out).rv k).mono ?_
  rintro e w2 ⟨rfl, hb2⟩
  have HB2 := Lib.hid (bt HB1.out hb2)
  have HT2 := Lib.hid (HT1.out.below hb2)
  have hth : decide (0 ≤ plR R k) = (fK R k).isSome := Srt.pl_fnd R k
  obtain ⟨y0, y1, y2, y3, y4⟩ := HT2.out.cells
  have hy := HT2.out.lt
  have H2 := Lib.hid (H.out.on HB2.out)
  clear hb2 HB1 HT1
  generalize plR R k = pl at *
  obtain ⟨th, hth'⟩ : ∃ th, (fK R k).isSome = th := ⟨_, rfl⟩
  rw [hth'] at hth
  have HTH := Lib.hid hth'
  clear hth'
  go_wp2_with fail
  have hy2 := HT2.out
  have HLT := Lib.hid (fun (i : Nat) (h : i < nD) => show ∃ x, R[i]? = some x ∧ x.at_ ≤ a from by
    have h1 : i < (dueR R a).length := by rw [← HND.out]; exact h
    obtain ⟨x, hx⟩ := at_lt (l := dueR R a) (i := i) h1
    refine ⟨x, ?_, ?_⟩
    · rw [HDP.out, List.getElem?_append_left h1]; exact hx
    · have := mem_at hx
      unfold dueR at this
      simpa using (List.mem_filter.1 this).2)
  have HGE := Lib.hid (fun (h : nD < R.length) => show ∃ x, R[nD]? = some x ∧ ¬ x.at_ ≤ a from by
    have h2 : (restR R a).length = R.length - nD := by have := due_rest_len R a; rw [HND.out]; omega
    obtain ⟨x, hx⟩ := at_lt (l := restR R a) (i := 0) (by omega)
    refine ⟨x, ?_, ?_⟩
    · rw [HDP.out, List.getElem?_append_right (by rw [HND.out]; exact Nat.le_refl _), HND.out, Nat.sub_self]; exact hx
    · have := mem_at hx
      unfold restR at this
      simpa using (List.mem_filter.1 this).2)
  have hn0l : n0 < 1000 := by have := HN0.out; omega
  have hnD : nD ≤ n0 := by have := HN0.out; have := HLE.out; omega
  have HAT := Lib.hid (show ∀ i x, R[i]? = some x → ∃ b off, a0 = some ⟨b, off, none⟩ ∧ b < w2.heap.size ∧ ∀ j u, (eenc x)[j]? = some u → w2.cell? ⟨b, off + i * 4 + j, none⟩ = some u from by
    obtain ⟨a', n', cp', he, _, _, _, hat⟩ := H2.out.rv.at_
    cases he; exact hat)
  clear y0 y1 y2 y3 y4 hy hth HDP hy2
  go_wp2_with fail
  go_loopw [10] (fun nv wr => ∃ t : Nat, t ≤ nD ∧ nv = .int .i64 t ∧ Hid (Below w2.heap.size w2 wr)) (fun nv _ => nD - (intOf nv).toNat)
  case atStart => exact ⟨0, Nat.zero_le _, rfl, Lib.hid (Below.refl _ _)⟩
  case round =>
    obtain ⟨t, ht, rfl, HB⟩ := hrel
    obtain ⟨w3, rfl⟩ : ∃ w3, w3 = wr := ⟨_, rfl⟩
    have HT3 := Lib.hid (HT2.out.below HB.out)
    obtain ⟨y0, y1, y2, y3, y4⟩ := HT3.out.cells
    have hy := HT3.out.lt
    by_cases hlt : t < nD
    · obtain ⟨x, hx, hxa⟩ := HLT.out t hlt
      obtain ⟨b, off, rfl, hb, hcell⟩ := HAT.out t x hx
      have e3 := (HB.out.cell (p := ⟨b, off + t * 4 + 3, none⟩) hb).trans (hcell 3 _ rfl)
      have hbw : b < w3.heap.size := Nat.lt_of_lt_of_le hb HB.out.size
      have hts : (t : Int) < (n0 : Int) := by omega
      have hti : t < n0 := by omega
      clear hcell hx hb
      go_wp2
      refine wp_region_pure (by kernel_rfl) (by kernel_rfl) ?_
      repeat (first | go_big_quiet_step ((fail)) | (quiet_step ((fail))))
      refine wpQuiet_nil ?_
      rintro w4 ⟨x4, hx4⟩
      have hb4 := ext_below _ x4
      rw [← hx4] at hb4
      clear hx4 x4
      have hs4 : w3.heap.size + 0 ≤ w4.heap.size := (by have h := hb4.size; first | omega | (simp at h; omega))
      obtain ⟨hc4, hf4, hl4⟩ := bcell hb4
      clear hl4
      have HB4 := Lib.hid (bt HB.out hb4)
      clear hb4 hc4 hf4 e3
      go_wp2
      go_roundw
      case rel => exact ⟨t + 1, by omega, by go_num, HB4⟩
      case measure => simp [intOf]; omega
    · obtain rfl : nD = t := by omega
      by_cases hend : nD = n0
      · subst hend
        go_wp2
        refine wp_region_pure (by kernel_rfl) (by kernel_rfl) ?_
        repeat (first | go_big_quiet_step ((fail)) | (quiet_step ((fail))))
        refine wpQuiet_nil ?_
        rintro w4 ⟨x4, hx4⟩
        have hb4 := ext_below _ x4
        rw [← hx4] at hb4
        clear hx4 x4
        have hs4 : w3.heap.size + 0 ≤ w4.heap.size := (by have h := hb4.size; first | omega | (simp at h; omega))
        obtain ⟨hc4, hf4, hl4⟩ := bcell hb4
        clear hl4
        have HB4 := Lib.hid (bt HB.out hb4)
        have HT4 := Lib.hid (HT3.out.below hb4)
        clear hb4 hc4 hf4 y0 y1 y2 y3 y4 hy
        obtain ⟨y0, y1, y2, y3, y4⟩ := HT4.out.cells
        have hy := HT4.out.lt
        go_wp2
        have rf := HRF.out
        have ru := HRU.out
        have hcR : c + R.length ≤ 80000 := by omega
        refine Mix.regionC G (by kernel_rfl) ?_
        intro w5 hb5
        refine Mix.take_exC _ _ 0 rfl (by kernel_rfl) (by kernel_rfl) (by kernel_rfl) (by kernel_rfl) (fun K hK => ?_)
        go_simp
        first | (refine hK _ ?_; clear hK K) | (apply Exists.intro; refine ⟨fun x => ?_, hK _ ?_⟩; (fail); clear hK K)
        refine Mix.take_exC _ _ 1 rfl (by kernel_rfl) (by kernel_rfl) (by kernel_rfl) (by kernel_rfl) (fun K hK => ?_)
        go_simp
        first | (refine hK _ ?_; clear hK K) | (apply Exists.intro; refine ⟨fun x => ?_, hK _ ?_⟩; (fail); clear hK K)
        refine Mix.take_exC _ _ 2 rfl (by kernel_rfl) (by kernel_rfl) (by kernel_rfl) (by kernel_rfl) (fun K hK => ?_)
        go_simp
        first | (refine hK _ ?_; clear hK K) | (apply Exists.intro; refine ⟨fun x => ?_, hK _ ?_⟩; (fail); clear hK K)
        refine Mix.take_exC _ _ 3 rfl (by kernel_rfl) (by kernel_rfl) (by kernel_rfl) (by kernel_rfl) (fun K hK => ?_)
        go_simp
        first | (refine hK _ ?_; clear hK K) | (apply Exists.intro; refine ⟨fun x => ?_, hK _ ?_⟩; (fail); clear hK K)
        refine Mix.take_exC _ _ 4 rfl (by kernel_rfl) (by kernel_rfl) (by kernel_rfl) (by kernel_rfl) (fun K hK => ?_)
        go_simp
        first | (refine hK _ ?_; clear hK K) | (apply Exists.intro; refine ⟨fun x => ?_, hK _ ?_⟩; (fail); clear hK K)
        refine Mix.take_exC _ _ 5 rfl (by kernel_rfl) (by kernel_rfl) (by kernel_rfl) (by kernel_rfl) (fun K hK => ?_)
        go_simp
        first | (refine hK _ ?_; clear hK K) | (apply Exists.intro; refine ⟨fun x => ?_, hK _ ?_⟩; (fail); clear hK K)
        refine Mix.take_exC _ _ 7 rfl (by kernel_rfl) (by kernel_rfl) (by kernel_rfl) (by kernel_rfl) (fun K hK => ?_)
        go_simp
        first | (refine hK _ ?_; clear hK K) | (apply Exists.intro; refine ⟨fun x => ?_, hK _ ?_⟩; (fail); clear hK K)
        refine Mix.take_exC _ _ 8 rfl (by kernel_rfl) (by kernel_rfl) (by kernel_rfl) (by kernel_rfl) (fun K hK => ?_)
        go_simp
        first | (refine hK _ ?_; clear hK K) | (apply Exists.intro; refine ⟨fun x => ?_, hK _ ?_⟩; (fail); clear hK K)
        refine Mix.take_exC _ _ 9 rfl (by kernel_rfl) (by kernel_rfl) (by kernel_rfl) (by kernel_rfl) (fun K hK => ?_)
        go_simp
        first | (refine hK _ ?_; clear hK K) | (apply Exists.intro; refine ⟨fun x => ?_, hK _ ?_⟩; (fail); clear hK K)
        refine Mix.all (rs := [6]) (by kernel_rfl) (by simp) (.of_below _ hb5) ?_
        intro i6 hi6 w6 hb6 hC6
        simp only [List.mem_cons, List.not_mem_nil, or_false] at hi6
        subst hi6
        have HB6 := Lib.hid (bt hb5 hb6)
        clear hC6 hb5 hb6 rf ru
        refine Mix.op rfl (by kernel_rfl) ?_
        go_simp
        have H6 := Lib.hid (H2.out.on (bt HB4.out HB6.out))
        refine (adue H6.out.aw.as_ hcR a).mono ?_
        rintro e w7 ⟨v7, rfl, r7, o7, G7, h7, c7, n7, m7⟩
        refine ⟨_, rfl, ?_⟩
        have HV7 := Lib.hid (H6.out.rv.chg c7 fun b e => (H6.out.off b e).1)
        have H7 := Lib.hid (H6.out.due (HSF.out w7 HV7.out) HOF.out h7 c7 n7)
        have HR7 := Lib.hid r7
        have HC7 := Lib.hid ((Chg.of_below G HB6.out).same c7)
        clear r7 o7 h7 c7 n7 m7
        refine Mix.all (rs := [10]) (by kernel_rfl) (by simp) (HC7.out) ?_
        intro i8 hi8 w8 hb8 hC8
        simp only [List.mem_cons, List.not_mem_nil, or_false] at hi8
        subst hi8
        have HB8 := Lib.hid hb8
        clear hC8 hb8
        refine Mix.op rfl (by kernel_rfl) ?_
        go_simp
        refine (malike (HR7.out.below HB8.out) ((HSU.out w7 HV7.out).below HB8.out) (by have := HND.out; omega)).mono ?_
        rintro e w9 ⟨rfl, hb9⟩
        refine ⟨_, rfl, ?_⟩
        have HB9 := Lib.hid (bt HB8.out hb9)
        clear hb9
        refine Mix.take_exC _ _ 11 rfl (by kernel_rfl) (by kernel_rfl) (by kernel_rfl) (by kernel_rfl) (fun K hK => ?_)
        go_simp
        first | (refine hK _ ?_; clear hK K) | (apply Exists.intro; refine ⟨fun x => ?_, hK _ ?_⟩; (fail); clear hK K)
        refine Mix.take_exC _ _ 12 rfl (by kernel_rfl) (by kernel_rfl) (by kernel_rfl) (by kernel_rfl) (fun K hK => ?_)
        go_simp
        first | (refine hK _ ?_; clear hK K) | (apply Exists.intro; refine ⟨fun x => ?_, hK _ ?_⟩; (fail); clear hK K)
        refine Mix.done (by kernel_rfl) (HC7.out.then_below HB9.out) ?_
        intro w10 hb10
        have HW := Lib.hid ((H7.out.on (bt HB9.out hb10)).more (c' := c + R.length + 1) (by omega) (by omega))
        have HRL := Lib.hid (show (restR R a).length ≤ R.length from List.length_filter_le _ _)
        clear hb10 y0 y1 y2 y3 y4 hy
        go_wp2
        go_ret2
        exact ⟨vf, G7, _, rfl, HW.out, by have := HRL.out; omega⟩
      · obtain ⟨x, hx, hxa⟩ := HGE.out (by have := HN0.out; omega)
        obtain ⟨b, off, rfl, hb, hcell⟩ := HAT.out nD x hx
        have e3 := (HB.out.cell (p := ⟨b, off + nD * 4 + 3, none⟩) hb).trans (hcell 3 _ rfl)
        have hbw : b < w3.heap.size := Nat.lt_of_lt_of_le hb HB.out.size
        have hts : (nD : Int) < (n0 : Int) := by omega
        have hti : nD < n0 := by omega
        clear hcell hx hb hend
        go_wp2
        refine wp_region_pure (by kernel_rfl) (by kernel_rfl) ?_
        repeat (first | go_big_quiet_step ((fail)) | (quiet_step ((fail))))
        refine wpQuiet_nil ?_
        rintro w4 ⟨x4, hx4⟩
        have hb4 := ext_below _ x4
        rw [← hx4] at hb4
        clear hx4 x4
        have hs4 : w3.heap.size + 0 ≤ w4.heap.size := (by have h := hb4.size; first | omega | (simp at h; omega))
        obtain ⟨hc4, hf4, hl4⟩ := bcell hb4
        clear hl4
        have HB4 := Lib.hid (bt HB.out hb4)
        have HT4 := Lib.hid (HT3.out.below hb4)
        clear hb4 hc4 hf4 y0 y1 y2 y3 y4 hy e3 hts hti
        obtain ⟨y0, y1, y2, y3, y4⟩ := HT4.out.cells
        have hy := HT4.out.lt
        go_wp2
        have rf := HRF.out
        have ru := HRU.out
        have hcR : c + R.length ≤ 80000 := by omega
        refine Mix.regionC G (by kernel_rfl) ?_
        intro w5 hb5
        refine Mix.take_exC _ _ 0 rfl (by kernel_rfl) (by kernel_rfl) (by kernel_rfl) (by kernel_rfl) (fun K hK => ?_)
        go_simp
        first | (refine hK _ ?_; clear hK K) | (apply Exists.intro; refine ⟨fun x => ?_, hK _ ?_⟩; (fail); clear hK K)
        refine Mix.take_exC _ _ 1 rfl (by kernel_rfl) (by kernel_rfl) (by kernel_rfl) (by kernel_rfl) (fun K hK => ?_)
        go_simp
        first | (refine hK _ ?_; clear hK K) | (apply Exists.intro; refine ⟨fun x => ?_, hK _ ?_⟩; (fail); clear hK K)
        refine Mix.take_exC _ _ 2 rfl (by kernel_rfl) (by kernel_rfl) (by kernel_rfl) (by kernel_rfl) (fun K hK => ?_)
        go_simp
        first | (refine hK _ ?_; clear hK K) | (apply Exists.intro; refine ⟨fun x => ?_, hK _ ?_⟩; (fail); clear hK K)
        refine Mix.take_exC _ _ 3 rfl (by kernel_rfl) (by kernel_rfl) (by kernel_rfl) (by kernel_rfl) (fun K hK => ?_)
        go_simp
        first | (refine hK _ ?_; clear hK K) | (apply Exists.intro; refine ⟨fun x => ?_, hK _ ?_⟩; (fail); clear hK K)
        refine Mix.take_exC _ _ 4 rfl (by kernel_rfl) (by kernel_rfl) (by kernel_rfl) (by kernel_rfl) (fun K hK => ?_)
        go_simp
        first | (refine hK _ ?_; clear hK K) | (apply Exists.intro; refine ⟨fun x => ?_, hK _ ?_⟩; (fail); clear hK K)
        refine Mix.take_exC _ _ 5 rfl (by kernel_rfl) (by kernel_rfl) (by kernel_rfl) (by kernel_rfl) (fun K hK => ?_)
        go_simp
        first | (refine hK _ ?_; clear hK K) | (apply Exists.intro; refine ⟨fun x => ?_, hK _ ?_⟩; (fail); clear hK K)
        refine Mix.take_exC _ _ 7 rfl (by kernel_rfl) (by kernel_rfl) (by kernel_rfl) (by kernel_rfl) (fun K hK => ?_)
        go_simp
        first | (refine hK _ ?_; clear hK K) | (apply Exists.intro; refine ⟨fun x => ?_, hK _ ?_⟩; (fail); clear hK K)
        refine Mix.take_exC _ _ 8 rfl (by kernel_rfl) (by kernel_rfl) (by kernel_rfl) (by kernel_rfl) (fun K hK => ?_)
        go_simp
        first | (refine hK _ ?_; clear hK K) | (apply Exists.intro; refine ⟨fun x => ?_, hK _ ?_⟩; (fail); clear hK K)
        refine Mix.take_exC _ _ 9 rfl (by kernel_rfl) (by kernel_rfl) (by kernel_rfl) (by kernel_rfl) (fun K hK => ?_)
        go_simp
        first | (refine hK _ ?_; clear hK K) | (apply Exists.intro; refine ⟨fun x => ?_, hK _ ?_⟩; (fail); clear hK K)
        refine Mix.all (rs := [6]) (by kernel_rfl) (by simp) (.of_below _ hb5) ?_
        intro i6 hi6 w6 hb6 hC6
        simp only [List.mem_cons, List.not_mem_nil, or_false] at hi6
        subst hi6
        have HB6 := Lib.hid (bt hb5 hb6)
        clear hC6 hb5 hb6 rf ru
        refine Mix.op rfl (by kernel_rfl) ?_
        go_simp
        have H6 := Lib.hid (H2.out.on (bt HB4.out HB6.out))
        refine (adue H6.out.aw.as_ hcR a).mono ?_
        rintro e w7 ⟨v7, rfl, r7, o7, G7, h7, c7, n7, m7⟩
        refine ⟨_, rfl, ?_⟩
        have HV7 := Lib.hid (H6.out.rv.chg c7 fun b e => (H6.out.off b e).1)
        have H7 := Lib.hid (H6.out.due (HSF.out w7 HV7.out) HOF.out h7 c7 n7)
        have HR7 := Lib.hid r7
        have HC7 := Lib.hid ((Chg.of_below G HB6.out).same c7)
        clear r7 o7 h7 c7 n7 m7
        refine Mix.all (rs := [10]) (by kernel_rfl) (by simp) (HC7.out) ?_
        intro i8 hi8 w8 hb8 hC8
        simp only [List.mem_cons, List.not_mem_nil, or_false] at hi8
        subst hi8
        have HB8 := Lib.hid hb8
        clear hC8 hb8
        refine Mix.op rfl (by kernel_rfl) ?_
        go_simp
        refine (malike (HR7.out.below HB8.out) ((HSU.out w7 HV7.out).below HB8.out) (by have := HND.out; omega)).mono ?_
        rintro e w9 ⟨rfl, hb9⟩
        refine ⟨_, rfl, ?_⟩
        have HB9 := Lib.hid (bt HB8.out hb9)
        clear hb9
        refine Mix.take_exC _ _ 11 rfl (by kernel_rfl) (by kernel_rfl) (by kernel_rfl) (by kernel_rfl) (fun K hK => ?_)
        go_simp
        first | (refine hK _ ?_; clear hK K) | (apply Exists.intro; refine ⟨fun x => ?_, hK _ ?_⟩; (fail); clear hK K)
        refine Mix.take_exC _ _ 12 rfl (by kernel_rfl) (by kernel_rfl) (by kernel_rfl) (by kernel_rfl) (fun K hK => ?_)
        go_simp
        first | (refine hK _ ?_; clear hK K) | (apply Exists.intro; refine ⟨fun x => ?_, hK _ ?_⟩; (fail); clear hK K)
        refine Mix.done (by kernel_rfl) (HC7.out.then_below HB9.out) ?_
        intro w10 hb10
        have HW := Lib.hid ((H7.out.on (bt HB9.out hb10)).more (c' := c + R.length + 1) (by omega) (by omega))
        have HRL := Lib.hid (show (restR R a).length ≤ R.length from List.length_filter_le _ _)
        clear hb10 y0 y1 y2 y3 y4 hy
        go_wp2
        go_ret2
        exact ⟨vf, G7, _, rfl, HW.out, by have := HRL.out; omega⟩
end
end Go.Proofs.Ytajcelmnblncaaa

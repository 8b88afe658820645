/- An act on alarms and on the document's list: set, drop, forget. -/
import Derived.Test.YtajcelmnblncaaaAlM5
import Derived.Test.YtajcelmnblncaaaAlP
namespace Go.Proofs.Ytajcelmnblncaaa
open Go.RowKit Go.Maps
attribute [local go_sem] ext_cell ext_frozen extC_cell extC_frozen Mix.calmUpon Mix.mUpon eqRy eqKy
section
variable {w : World} {ap : Nat} {R : List Rc} {G : Nat → Prop} {c : Nat}
theorem adrop (h : AS w ap G R c) (hc : c < 79990) {k : Ky} (hk : KOk k) : Calls Try.prog 93 #[ptr ap, kval k] w fun e w' => e = .returned (.bool (fK R k).isSome) ∧ AR w w' ap G (dK R k) (c + 1) := by
  obtain ⟨hp, Mn, Mk, last, Ln, Lk, F, l, s, h1, hG, hb⟩ := h
  refine (drop_raw h1 hb hk).mono ?_
  rintro e w' ⟨rfl, Ln', Lk', F', l', s', ao, hcg, hn, s1, s2, _⟩
  have hle : (dK R k).length ≤ R.length := List.length_filter_le _ _
  refine ⟨rfl, AG ap Mn Mk F', ⟨hp, Mn, Mk, last, Ln', Lk', F', l', s', ao, rfl, ⟨hb.l0, by have := hb.l1; omega, by have := hb.s0; omega, by have := hb.s1; omega, by have := hb.n1; omega, by omega⟩⟩, by rw [hG]; exact hcg, ?_⟩
  rintro q (e | e | e | e)
  · rw [hG]; exact .inl (.inl e)
  · rw [hG]; exact .inl (.inr (.inl e))
  · rw [hG]; exact .inl (.inr (.inr (.inl e)))
  · rw [hG]
    rcases hn q e with e | e
    · exact .inl (.inr (.inr (.inr e)))
    · exact .inr e
end
theorem ins_num (k : Ky) (a n m : Int) : ∀ R : List Rc, (Srt.ins ltR ⟨k, n, a⟩ R).flatMap eenc = (Srt.ins ltR ⟨k, m, a⟩ R).flatMap eenc
  | [] => rfl
  | p :: t => by
    unfold Srt.ins
    have e : ltR ⟨k, n, a⟩ p = ltR ⟨k, m, a⟩ p := rfl
    rw [e]
    split
    · rfl
    · rw [List.flatMap_cons, List.flatMap_cons, ins_num k a n m t]
theorem OR.num {w : World} {base : Nat} {v : Value} {R : List Rc} {k : Ky} {a n : Int} (h : OR w base v (pR R ⟨k, n, a⟩)) (m : Int) : OR w base v (pR R ⟨k, m, a⟩) := by
  have e1 : (pR R ⟨k, n, a⟩).flatMap eenc = (pR R ⟨k, m, a⟩).flatMap eenc := ins_num k a n m _
  have e2 : (pR R ⟨k, n, a⟩).length = (pR R ⟨k, m, a⟩).length := by
    show (Srt.ins ltR _ _).length = (Srt.ins ltR _ _).length
    rw [Srt.ins_len, Srt.ins_len]
  unfold OR OwnL at *
  rw [← e1, ← e2]; exact h
/-- A block that holds an act. -/
def TB (w : World) (b : Nat) (kd : Int) (k : Ky) (a : Int) : Prop := w.heap[b]? = some (.cells #[.int .i64 kd, .int .i64 k.1, .int .i64 k.2.1, .int .i64 k.2.2, .int .i64 a] 81 (0, 0))
theorem TB.made (w : World) (kd : Int) (k : Ky) (a : Int) : TB (w.alloc (.cells #[.int .i64 kd, .int .i64 k.1, .int .i64 k.2.1, .int .i64 k.2.2, .int .i64 a] 81)) w.heap.size kd k a := heap_alloc_new w _
theorem TB.lt {w : World} {b : Nat} {kd : Int} {k : Ky} {a : Int} (h : TB w b kd k a) : b < w.heap.size := (Array.getElem?_eq_some_iff.1 h).1
theorem TB.chg {F : Nat → Prop} {w w' : World} {b : Nat} {kd : Int} {k : Ky} {a : Int} (h : TB w b kd k a) (hb : Chg F w w') (hf : ¬ F b) : TB w' b kd k a := (hb.block _ h.lt hf).trans h
theorem TB.below {w w' : World} {b : Nat} {kd : Int} {k : Ky} {a : Int} (h : TB w b kd k a) (hb : Below w.heap.size w w') : TB w' b kd k a := h.chg (.of_below (fun _ => False) hb) id
theorem TB.cells {w : World} {b : Nat} {kd : Int} {k : Ky} {a : Int} (h : TB w b kd k a) : w.cell? ⟨b, 0, none⟩ = some (.int .i64 kd) ∧ w.cell? ⟨b, 1, none⟩ = some (.int .i64 k.1) ∧ w.cell? ⟨b, 2, none⟩ = some (.int .i64 k.2.1) ∧ w.cell? ⟨b, 3, none⟩ = some (.int .i64 k.2.2) ∧ w.cell? ⟨b, 4, none⟩ = some (.int .i64 a) := by unfold TB at h; simp [World.cell?, h]
abbrev tval (kd : Int) (k : Ky) (a : Int) : Value := .agg #[.int .i64 kd, .int .i64 k.1, .int .i64 k.2.1, .int .i64 k.2.2, .int .i64 a]
/-- Alarms, and the document's list of them. -/
structure PW (W w : World) (ap : Nat) (G : Nat → Prop) (R : List Rc) (v : Value) (c : Nat) : Prop where
  aw : AW W w ap G R c
  rv : RV w v R
  off : ∀ b, v.ownBlock = some b → ¬ G b ∧ b < w.heap.size
theorem PW.on {W w w' : World} {ap : Nat} {G : Nat → Prop} {R : List Rc} {v : Value} {c : Nat} (h : PW W w ap G R v c) (hb : Below w.heap.size w w') : PW W w' ap G R v c :=
  ⟨h.aw.on hb, h.rv.below hb, fun b e => ⟨(h.off b e).1, Nat.lt_of_lt_of_le (h.off b e).2 hb.size⟩⟩
/-- A new list was made in wa, and then the alarms were changed. -/
theorem PW.step {W w wa wb w' : World} {ap : Nat} {G G' : Nat → Prop} {R R' : List Rc} {v v' : Value} {c c' : Nat} (h : PW W w ap G R v c) (hab : Below w.heap.size w wa) (ho : OR wa w.heap.size v' R') (hbb : Below wa.heap.size wa wb) (h1 : AS w' ap G' R' c') (h2 : Chg G wb w') (h3 : ∀ k, G' k → G k ∨ wb.heap.size ≤ k) : PW W w' ap G' R' v' c' := by
  have hbw := bt hab hbb
  have hs1 := hab.size; have hs2 := hbb.size; have hs3 := h2.size
  have hlt := ho.lt
  have hG := h.aw.as_.lt
  refine ⟨(h.aw.on hbw).step h1 h2 h3, (((ho.rs (fun _ => rfl)).below hbb).chg h2 fun b e hg => ?_), fun b e => ⟨fun hg => ?_, ?_⟩⟩
  · have := hlt b e; have := hG b hg; omega
  · have := hlt b e
    rcases h3 b hg with e' | e'
    · have := hG b e'; omega
    · omega
  · have := hlt b e; omega
section
variable {W w : World} {ap : Nat} {G : Nat → Prop} {R : List Rc} {v : Value} {c : Nat}
/-- What an act leaves. -/
def DoP (W : World) (ap : Nat) (R : List Rc) (c : Nat) (e : Ending) (w' : World) : Prop := ∃ v' G' R', e = .returned (.tuple #[v', .bool true]) ∧ PW W w' ap G' R' v' (c + R.length + 1) ∧ R'.length ≤ R.length + 1
theorem PW.more {c' : Nat} (h : PW W w ap G R v c) (hc : c ≤ c') (h8 : c' ≤ 80000) : PW W w ap G R v c' := ⟨⟨h.aw.as_.more hc h8, h.aw.bel, h.aw.own⟩, h.rv, h.off⟩
set_option maxRecDepth 100000 in
set_option maxHeartbeats 4000000 in
theorem mdoes0 (h : PW W w ap G R v c) {kd : Int} (hkd : kd = 0) {k : Ky} {a : Int} (hk : KOk k) (ha : J64 a) (hc : c + R.length < 79000) (hl : R.length < 1000) : Calls Try.prog 44 #[ptr ap, v, tval kd k a] w (DoP W ap R c) := by
  have g0 : (kd == 0) = true := by rw [hkd]; rfl
  clear hkd
  have H := Lib.hid h
  have HB0 := Lib.hid (show Below w.heap.size w (w.alloc (.cells #[.int .i64 kd, .int .i64 k.1, .int .i64 k.2.1, .int .i64 k.2.2, .int .i64 a] 81)) from ba (Below.refl _ _) _)
  have HT0 := Lib.hid (TB.made w kd k a)
  have HKY := Lib.hid (mkey k)
  have HK := Lib.hid hk; have HA := Lib.hid ha
  clear h hk ha
  go_enter Try.func44, Try.ntmps44
  go_wp2_with fail
  generalize w.alloc (.cells #[.int .i64 kd, .int .i64 k.1, .int .i64 k.2.1, .int .i64 k.2.2, .int .i64 a] 81) = w0 at *
  obtain ⟨b0, hb0⟩ : ∃ b0, b0 = w.heap.size := ⟨_, rfl⟩
  rw [← hb0] at HT0 ⊢
  have nb0 : ¬ G b0 := fun e => by have := H.out.aw.as_.lt b0 e; omega
  clear hb0
  refine (HKY.out w0).mono ?_
  rintro e w1 ⟨rfl, hb1⟩
  have HB1 := Lib.hid (bt HB0.out hb1)
  have HT1 := Lib.hid (HT0.out.below hb1)
  clear hb1 HB0 HT0
  go_wp2_with fail
  refine (mfind (H.out.on HB1.out).rv k).mono ?_
  rintro e w2 ⟨rfl, hb2⟩
  have HB2 := Lib.hid (bt HB1.out hb2)
  have HT2 := Lib.hid (HT1.out.below hb2)
  have hth : decide (0 ≤ plR R k) = (fK R k).isSome := Srt.pl_fnd R k
  obtain ⟨y0, y1, y2, y3, y4⟩ := HT2.out.cells
  have hy := HT2.out.lt
  have H2 := Lib.hid (H.out.on HB2.out)
  clear hb2 HB1 HT1
  generalize plR R k = pl at *
  obtain ⟨th, hth'⟩ : ∃ th, (fK R k).isSome = th := ⟨_, rfl⟩
  rw [hth'] at hth
  have HTH := Lib.hid hth'
  clear hth'
  go_wp2_with fail
  refine Mix.regionC G (by kernel_rfl) ?_
  intro w3 hb3
  refine Mix.take_exC _ _ 0 rfl (by kernel_rfl) (by kernel_rfl) (by kernel_rfl) (by kernel_rfl) (fun K hK => ?_)
  go_simp
  first | (refine hK _ ?_; clear hK K) | (apply Exists.intro; refine ⟨fun x => ?_, hK _ ?_⟩; (fail); clear hK K)
  refine Mix.take_exC _ _ 1 rfl (by kernel_rfl) (by kernel_rfl) (by kernel_rfl) (by kernel_rfl) (fun K hK => ?_)
  go_simp
  first | (refine hK _ ?_; clear hK K) | (apply Exists.intro; refine ⟨fun x => ?_, hK _ ?_⟩; (fail); clear hK K)
  refine Mix.take_exC _ _ 2 rfl (by kernel_rfl) (by kernel_rfl) (by kernel_rfl) (by kernel_rfl) (fun K hK => ?_)
  go_simp
  first | (refine hK _ ?_; clear hK K) | (apply Exists.intro; refine ⟨fun x => ?_, hK _ ?_⟩; (fail); clear hK K)
  refine Mix.take_exC _ _ 3 rfl (by kernel_rfl) (by kernel_rfl) (by kernel_rfl) (by kernel_rfl) (fun K hK => ?_)
  go_simp
  first | (refine hK _ ?_; clear hK K) | (apply Exists.intro; refine ⟨fun x => ?_, hK _ ?_⟩; (((go_at_call 47; exact HKY.out _))); clear hK K)
  refine Mix.take_exC _ _ 4 rfl (by kernel_rfl) (by kernel_rfl) (by kernel_rfl) (by kernel_rfl) (fun K hK => ?_)
  go_simp
  first | (refine hK _ ?_; clear hK K) | (apply Exists.intro; refine ⟨fun x => ?_, hK _ ?_⟩; (fail); clear hK K)
  refine Mix.take_exC _ _ 5 rfl (by kernel_rfl) (by kernel_rfl) (by kernel_rfl) (by kernel_rfl) (fun K hK => ?_)
  go_simp
  first | (refine hK _ ?_; clear hK K) | (apply Exists.intro; refine ⟨fun x => ?_, hK _ ?_⟩; (fail); clear hK K)
  refine Mix.take_exC _ _ 6 rfl (by kernel_rfl) (by kernel_rfl) (by kernel_rfl) (by kernel_rfl) (fun K hK => ?_)
  go_simp
  first | (refine hK _ ?_; clear hK K) | (apply Exists.intro; refine ⟨fun x => ?_, hK _ ?_⟩; (fail); clear hK K)
  refine Mix.take_exC _ _ 8 rfl (by kernel_rfl) (by kernel_rfl) (by kernel_rfl) (by kernel_rfl) (fun K hK => ?_)
  go_simp
  first | (refine hK _ ?_; clear hK K) | (apply Exists.intro; refine ⟨fun x => ?_, hK _ ?_⟩; (fail); clear hK K)
  refine Mix.take_exC _ _ 9 rfl (by kernel_rfl) (by kernel_rfl) (by kernel_rfl) (by kernel_rfl) (fun K hK => ?_)
  go_simp
  first | (refine hK _ ?_; clear hK K) | (apply Exists.intro; refine ⟨fun x => ?_, hK _ ?_⟩; (fail); clear hK K)
  refine Mix.take_exC _ _ 10 rfl (by kernel_rfl) (by kernel_rfl) (by kernel_rfl) (by kernel_rfl) (fun K hK => ?_)
  go_simp
  first | (refine hK _ ?_; clear hK K) | (apply Exists.intro; refine ⟨fun x => ?_, hK _ ?_⟩; (fail); clear hK K)
  refine Mix.take_exC _ _ 11 rfl (by kernel_rfl) (by kernel_rfl) (by kernel_rfl) (by kernel_rfl) (fun K hK => ?_)
  go_simp
  first | (refine hK _ ?_; clear hK K) | (apply Exists.intro; refine ⟨fun x => ?_, hK _ ?_⟩; (fail); clear hK K)
  refine Mix.take_exC _ _ 12 rfl (by kernel_rfl) (by kernel_rfl) (by kernel_rfl) (by kernel_rfl) (fun K hK => ?_)
  go_simp
  first | (refine hK _ ?_; clear hK K) | (apply Exists.intro; refine ⟨fun x => ?_, hK _ ?_⟩; (fail); clear hK K)
  refine Mix.take_exC _ _ 14 rfl (by kernel_rfl) (by kernel_rfl) (by kernel_rfl) (by kernel_rfl) (fun K hK => ?_)
  go_simp
  first | (refine hK _ ?_; clear hK K) | (apply Exists.intro; refine ⟨fun x => ?_, hK _ ?_⟩; (fail); clear hK K)
  refine Mix.take_exC _ _ 15 rfl (by kernel_rfl) (by kernel_rfl) (by kernel_rfl) (by kernel_rfl) (fun K hK => ?_)
  go_simp
  first | (refine hK _ ?_; clear hK K) | (apply Exists.intro; refine ⟨fun x => ?_, hK _ ?_⟩; (fail); clear hK K)
  refine Mix.all (rs := [7]) (by kernel_rfl) (by simp) (.of_below _ hb3) ?_
  intro i4 hi4 w4 hb4 hC4
  simp only [List.mem_cons, List.not_mem_nil, or_false] at hi4
  subst hi4
  have HB4 := Lib.hid (bt hb3 hb4)
  clear hC4 hb3 hb4
  refine Mix.op rfl (by kernel_rfl) ?_
  go_simp
  refine (mset (H2.out.on HB4.out).rv ⟨k, 0, a⟩ (by omega)).mono ?_
  rintro e w5 ⟨v5, rfl, ho5, hb5⟩
  refine ⟨_, rfl, ?_⟩
  have HB5 := Lib.hid (bt HB4.out hb5)
  have HO5 := Lib.hid (OwnL.low ho5 HB4.out.size)
  clear ho5 hb5
  refine Mix.all (rs := [13]) (by kernel_rfl) (by simp) (.of_below _ HB5.out) ?_
  intro i6 hi6 w6 hb6 hC6
  simp only [List.mem_cons, List.not_mem_nil, or_false] at hi6
  subst hi6
  have HB6 := Lib.hid hb6
  clear hC6 hb6
  refine Mix.op rfl (by kernel_rfl) ?_
  go_simp
  refine (aset (H2.out.on (bt HB5.out HB6.out)).aw.as_ (by omega) HK.out HA.out).mono ?_
  rintro e w7 ⟨rfl, m, G7, h7, c7, n7⟩
  rw [show (fK R k).isNone = !th by rw [← HTH.out]; cases fK R k <;> rfl]
  refine ⟨_, rfl, ?_⟩
  have HW7 := Lib.hid (H2.out.step HB5.out (OR.num HO5.out m) HB6.out h7 c7 n7)
  have HC7 := Lib.hid ((Chg.of_below G (bt HB5.out HB6.out)).same c7)
  clear h7 c7 n7
  refine Mix.take_exC _ _ 16 rfl (by kernel_rfl) (by kernel_rfl) (by kernel_rfl) (by kernel_rfl) (fun K hK => ?_)
  go_simp
  first | (refine hK _ ?_; clear hK K) | (apply Exists.intro; refine ⟨fun x => ?_, hK _ ?_⟩; (fail); clear hK K)
  refine Mix.take_exC _ _ 17 rfl (by kernel_rfl) (by kernel_rfl) (by kernel_rfl) (by kernel_rfl) (fun K hK => ?_)
  go_simp
  first | (refine hK _ ?_; clear hK K) | (apply Exists.intro; refine ⟨fun x => ?_, hK _ ?_⟩; (fail); clear hK K)
  refine Mix.take_exC _ _ 18 rfl (by kernel_rfl) (by kernel_rfl) (by kernel_rfl) (by kernel_rfl) (fun K hK => ?_)
  go_simp
  first | (refine hK _ ?_; clear hK K) | (apply Exists.intro; refine ⟨fun x => ?_, hK _ ?_⟩; (fail); clear hK K)
  refine Mix.done (by kernel_rfl) HC7.out ?_
  intro w8 hb8
  have HW8 := Lib.hid ((HW7.out.on hb8).more (c' := c + R.length + 1) (by omega) (by omega))
  have HPL := Lib.hid (pR_len R ⟨k, m, a⟩)
  clear hb8 y0 y1 y2 y3 y4 hy
  go_wp2
  go_ret2
  exact ⟨v5, G7, _, rfl, HW8.out, HPL.out⟩
set_option maxRecDepth 100000 in
set_option maxHeartbeats 4000000 in
theorem mdoes1 (h : PW W w ap G R v c) {kd : Int} (hkd : kd = 1) {k : Ky} {a : Int} (hk : KOk k) (ha : J64 a) (hc : c + R.length < 79000) (hl : R.length < 1000) : Calls Try.prog 44 #[ptr ap, v, tval kd k a] w (DoP W ap R c) := by
  have g0 : (kd == 0) = false := by rw [hkd]; rfl
  have g1 : (kd == 1) = true := by rw [hkd]; rfl
  clear hkd
  have H := Lib.hid h
  have HB0 := Lib.hid (show Below w.heap.size w (w.alloc (.cells #[.int .i64 kd, .int .i64 k.1, .int .i64 k.2.1, .int .i64 k.2.2, .int .i64 a] 81)) from ba (Below.refl _ _) _)
  have HT0 := Lib.hid (TB.made w kd k a)
  have HKY := Lib.hid (mkey k)
  have HK := Lib.hid hk; have HA := Lib.hid ha
  clear h hk ha
  go_enter Try.func44, Try.ntmps44
  go_wp2_with fail
  generalize w.alloc (.cells #[.int .i64 kd, .int .i64 k.1, .int .i64 k.2.1, .int .i64 k.2.2, .int .i64 a] 81) = w0 at *
  obtain ⟨b0, hb0⟩ : ∃ b0, b0 = w.heap.size := ⟨_, rfl⟩
  rw [← hb0] at HT0 ⊢
  have nb0 : ¬ G b0 := fun e => by have := H.out.aw.as_.lt b0 e; omega
  clear hb0
  refine (HKY.out w0).mono ?_
  rintro e w1 ⟨rfl, hb1⟩
  have HB1 := Lib.hid (bt HB0.out hb1)
  have HT1 := Lib.hid (HT0.out.below hb1)
  clear hb1 HB0 HT0
  go_wp2_with fail
  refine (mfind (H.out.on HB1.out).rv k).mono ?_
  rintro e w2 ⟨rfl, hb2⟩
  have HB2 := Lib.hid (bt HB1.out hb2)
  have HT2 := Lib.hid (HT1.out.below hb2)
  have hth : decide (0 ≤ plR R k) = (fK R k).isSome := Srt.pl_fnd R k
  obtain ⟨y0, y1, y2, y3, y4⟩ := HT2.out.cells
  have hy := HT2.out.lt
  have H2 := Lib.hid (H.out.on HB2.out)
  clear hb2 HB1 HT1
  generalize plR R k = pl at *
  obtain ⟨th, hth'⟩ : ∃ th, (fK R k).isSome = th := ⟨_, rfl⟩
  rw [hth'] at hth
  have HTH := Lib.hid hth'
  clear hth'
  go_wp2_with fail
  refine Mix.regionC G (by kernel_rfl) ?_
  intro w3 hb3
  refine Mix.take_exC _ _ 0 rfl (by kernel_rfl) (by kernel_rfl) (by kernel_rfl) (by kernel_rfl) (fun K hK => ?_)
  go_simp
  first | (refine hK _ ?_; clear hK K) | (apply Exists.intro; refine ⟨fun x => ?_, hK _ ?_⟩; (fail); clear hK K)
  refine Mix.take_exC _ _ 1 rfl (by kernel_rfl) (by kernel_rfl) (by kernel_rfl) (by kernel_rfl) (fun K hK => ?_)
  go_simp
  first | (refine hK _ ?_; clear hK K) | (apply Exists.intro; refine ⟨fun x => ?_, hK _ ?_⟩; (fail); clear hK K)
  refine Mix.take_exC _ _ 2 rfl (by kernel_rfl) (by kernel_rfl) (by kernel_rfl) (by kernel_rfl) (fun K hK => ?_)
  go_simp
  first | (refine hK _ ?_; clear hK K) | (apply Exists.intro; refine ⟨fun x => ?_, hK _ ?_⟩; (fail); clear hK K)
  refine Mix.take_exC _ _ 3 rfl (by kernel_rfl) (by kernel_rfl) (by kernel_rfl) (by kernel_rfl) (fun K hK => ?_)
  go_simp
  first | (refine hK _ ?_; clear hK K) | (apply Exists.intro; refine ⟨fun x => ?_, hK _ ?_⟩; (((go_at_call 47; exact HKY.out _))); clear hK K)
  refine Mix.take_exC _ _ 5 rfl (by kernel_rfl) (by kernel_rfl) (by kernel_rfl) (by kernel_rfl) (fun K hK => ?_)
  go_simp
  first | (refine hK _ ?_; clear hK K) | (apply Exists.intro; refine ⟨fun x => ?_, hK _ ?_⟩; (fail); clear hK K)
  refine Mix.take_exC _ _ 6 rfl (by kernel_rfl) (by kernel_rfl) (by kernel_rfl) (by kernel_rfl) (fun K hK => ?_)
  go_simp
  first | (refine hK _ ?_; clear hK K) | (apply Exists.intro; refine ⟨fun x => ?_, hK _ ?_⟩; (fail); clear hK K)
  refine Mix.take_exC _ _ 7 rfl (by kernel_rfl) (by kernel_rfl) (by kernel_rfl) (by kernel_rfl) (fun K hK => ?_)
  go_simp
  first | (refine hK _ ?_; clear hK K) | (apply Exists.intro; refine ⟨fun x => ?_, hK _ ?_⟩; (fail); clear hK K)
  refine Mix.take_exC _ _ 9 rfl (by kernel_rfl) (by kernel_rfl) (by kernel_rfl) (by kernel_rfl) (fun K hK => ?_)
  go_simp
  first | (refine hK _ ?_; clear hK K) | (apply Exists.intro; refine ⟨fun x => ?_, hK _ ?_⟩; (fail); clear hK K)
  refine Mix.all (rs := [4]) (by kernel_rfl) (by simp) (.of_below _ hb3) ?_
  intro i4 hi4 w4 hb4 hC4
  simp only [List.mem_cons, List.not_mem_nil, or_false] at hi4
  subst hi4
  have HB4 := Lib.hid (bt hb3 hb4)
  clear hC4 hb3 hb4
  refine Mix.op rfl (by kernel_rfl) ?_
  go_simp
  refine (mdrop (H2.out.on HB4.out).rv k (by omega)).mono ?_
  rintro e w5 ⟨v5, rfl, ho5, hb5⟩
  refine ⟨_, rfl, ?_⟩
  have HB5 := Lib.hid (bt HB4.out hb5)
  have HO5 := Lib.hid (OwnL.low ho5 HB4.out.size)
  clear ho5 hb5
  refine Mix.all (rs := [8]) (by kernel_rfl) (by simp) (.of_below _ HB5.out) ?_
  intro i6 hi6 w6 hb6 hC6
  simp only [List.mem_cons, List.not_mem_nil, or_false] at hi6
  subst hi6
  have HB6 := Lib.hid hb6
  clear hC6 hb6
  refine Mix.op rfl (by kernel_rfl) ?_
  go_simp
  refine (adrop (H2.out.on (bt HB5.out HB6.out)).aw.as_ (by omega) HK.out).mono ?_
  rintro e w7 ⟨rfl, G7, h7, c7, n7⟩
  rw [HTH.out]
  refine ⟨_, rfl, ?_⟩
  have HW7 := Lib.hid (H2.out.step HB5.out HO5.out HB6.out h7 c7 n7)
  have HC7 := Lib.hid ((Chg.of_below G (bt HB5.out HB6.out)).same c7)
  clear h7 c7 n7
  refine Mix.take_exC _ _ 10 rfl (by kernel_rfl) (by kernel_rfl) (by kernel_rfl) (by kernel_rfl) (fun K hK => ?_)
  go_simp
  first | (refine hK _ ?_; clear hK K) | (apply Exists.intro; refine ⟨fun x => ?_, hK _ ?_⟩; (fail); clear hK K)
  refine Mix.take_exC _ _ 11 rfl (by kernel_rfl) (by kernel_rfl) (by kernel_rfl) (by kernel_rfl) (fun K hK => ?_)
  go_simp
  first | (refine hK _ ?_; clear hK K) | (apply Exists.intro; refine ⟨fun x => ?_, hK _ ?_⟩; (fail); clear hK K)
  refine Mix.take_exC _ _ 12 rfl (by kernel_rfl) (by kernel_rfl) (by kernel_rfl) (by kernel_rfl) (fun K hK => ?_)
  go_simp
  first | (refine hK _ ?_; clear hK K) | (apply Exists.intro; refine ⟨fun x => ?_, hK _ ?_⟩; (fail); clear hK K)
  refine Mix.done (by kernel_rfl) HC7.out ?_
  intro w8 hb8
  have HW8 := Lib.hid ((HW7.out.on hb8).more (c' := c + R.length + 1) (by omega) (by omega))
  have HPL := Lib.hid (show (dK R k).length ≤ R.length from List.length_filter_le _ _)
  clear hb8 y0 y1 y2 y3 y4 hy
  go_wp2
  go_ret2
  exact ⟨v5, G7, _, rfl, HW8.out, by have := HPL.out; omega⟩
set_option maxRecDepth 100000 in
set_option maxHeartbeats 4000000 in
theorem mdoes2 (h : PW W w ap G R v c) {kd : Int} (hkd : kd = 2) {k : Ky} {a : Int} (hk : KOk k) (ha : J64 a) (hc : c + R.length < 79000) (hl : R.length < 1000) : Calls Try.prog 44 #[ptr ap, v, tval kd k a] w (DoP W ap R c) := by
  have g0 : (kd == 0) = false := by rw [hkd]; rfl
  have g1 : (kd == 1) = false := by rw [hkd]; rfl
  have g2 : (kd == 2) = true := by rw [hkd]; rfl
  clear hkd
  obtain ⟨a0, n0, cp0, rfl, hn0, _, _, _⟩ := h.rv.at_
  have HN0 := Lib.hid hn0
  clear hn0
  have H := Lib.hid h
  have HB0 := Lib.hid (show Below w.heap.size w (w.alloc (.cells #[.int .i64 kd, .int .i64 k.1, .int .i64 k.2.1, .int .i64 k.2.2, .int .i64 a] 81)) from ba (Below.refl _ _) _)
  have HT0 := Lib.hid (TB.made w kd k a)
  have HKY := Lib.hid (mkey k)
  have HK := Lib.hid hk; have HA := Lib.hid ha
  clear h hk ha
  go_enter Try.func44, Try.ntmps44
  go_wp2_with fail
  generalize w.alloc (.cells #[.int .i64 kd, .int .i64 k.1, .int .i64 k.2.1, .int .i64 k.2.2, .int .i64 a] 81) = w0 at *
  obtain ⟨b0, hb0⟩ : ∃ b0, b0 = w.heap.size := ⟨_, rfl⟩
  rw [← hb0] at HT0 ⊢
  have nb0 : ¬ G b0 := fun e => by have := H.out.aw.as_.lt b0 e; omega
  clear hb0
  refine (HKY.out w0).mono ?_
  rintro e w1 ⟨rfl, hb1⟩
  have HB1 := Lib.hid (bt HB0.out hb1)
  have HT1 := Lib.hid (HT0.out.below hb1)
  clear hb1 HB0 HT0
  go_wp2_with fail
  refine (mfind (H.out.on HB1.out).rv k).mono ?_
  rintro e w2 ⟨rfl, hb2⟩
  have HB2 := Lib.hid (bt HB1.out hb2)
  have HT2 := Lib.hid (HT1.out.below hb2)
  have hth : decide (0 ≤ plR R k) = (fK R k).isSome := Srt.pl_fnd R k
  obtain ⟨y0, y1, y2, y3, y4⟩ := HT2.out.cells
  have hy := HT2.out.lt
  have H2 := Lib.hid (H.out.on HB2.out)
  clear hb2 HB1 HT1
  generalize plR R k = pl at *
  obtain ⟨th, hth'⟩ : ∃ th, (fK R k).isSome = th := ⟨_, rfl⟩
  rw [hth'] at hth
  have HTH := Lib.hid hth'
  clear hth'
  go_wp2_with fail
  refine (mforget H2.out.rv k.1 k.2.1 (by omega)).mono ?_
  rintro e w5 ⟨v5, rfl, ho5, hb5⟩
  have HB5 := Lib.hid hb5
  have HO5 := Lib.hid ho5
  have HT5 := Lib.hid (HT2.out.below hb5)
  obtain ⟨a5, n5, cp5, rfl, hn5, _, _, _⟩ := (ho5.rs (fun _ => rfl)).at_
  clear ho5 hb5 y0 y1 y2 y3 y4 hy
  obtain ⟨y0, y1, y2, y3, y4⟩ := HT5.out.cells
  have hy := HT5.out.lt
  have hfl : (forgetR R k.1 k.2.1).length ≤ R.length := List.length_filter_le _ _
  have hq : IntKind.i64.wrap ((n0 : Int) - n5) = ((R.length - (forgetR R k.1 k.2.1).length : Nat) : Int) := by
    have := HN0.out
    rw [IntWalk.i64_in _ (by omega)]; omega
  have HFL := Lib.hid hfl
  clear hfl hn5
  go_wp2_with fail
  refine (aforget (H2.out.on HB5.out).aw.as_ (by omega) k.1 k.2.1).mono ?_
  rintro e w7 ⟨rfl, G7, h7, c7, n7⟩
  have HW7 := Lib.hid ((H2.out.step HB5.out HO5.out (Below.refl _ _) h7 c7 n7).more (c' := c + R.length + 1) (by omega) (by omega))
  clear h7 c7 n7
  generalize ((R.length - (forgetR R k.1 k.2.1).length : Nat) : Int) = q at *
  go_wp2
  go_ret2
  exact ⟨_, G7, _, rfl, HW7.out, by have := HFL.out; omega⟩
end
end Go.Proofs.Ytajcelmnblncaaa

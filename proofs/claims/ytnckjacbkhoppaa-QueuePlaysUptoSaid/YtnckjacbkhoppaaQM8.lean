/- The document's queues by a list: Take. -/
import Derived.Test.YtnckjacbkhoppaaQM7
namespace Go.Proofs.Ytnckjacbkhoppaa
open Go.RowKit Go.Maps
attribute [local go_sem] ext_cell ext_frozen extC_cell extC_frozen Mix.calmUpon Mix.mUpon
/-- What Take answers by the document. -/
def RetT (w : World) (v : Value) (cap : Int) (S : List On) (k p : Int) (N : Nat) (e : Ending) (w' : World) : Prop :=
  ∃ v' S' u lu, e = .returned (.tuple #[mval cap v', u]) ∧ ML w' v' S' ∧ S'.map On.pl = takeM (S.map On.pl) k p ∧ EL w' u lu ∧ lu.map Ev.pl = gotM (S.map On.pl) k p ∧ S'.length = S.length ∧ (∀ o ∈ S', o.l.length ≤ N ∧ 0 ≤ o.lost ∧ o.lost ≤ N ∧ (o.l.length : Int) ≤ cap) ∧
    (∀ F : Nat → Prop, (∀ j, F j → j < w.heap.size) → MK F v S → MK F v' S' ∧ ED F u lu) ∧ (∀ b, u.ownBlock = some b → b < w'.heap.size) ∧ Below w.heap.size w w'
section
variable {w : World} {v : Value} {S : List On} {cap : Int}
set_option maxRecDepth 100000 in
set_option maxHeartbeats 8000000 in
theorem mdtake (h : ML w v S) (hln : S.length < 900000) {N : Nat} (hN : N < 100000) (hev : ∀ o ∈ S, o.l.length ≤ N ∧ 0 ≤ o.lost ∧ o.lost ≤ N ∧ (o.l.length : Int) ≤ cap) (k p : Int) :
    Calls Try.prog 106 #[mval cap v, .int .i64 k, .int .i64 p] w (RetT w v cap S k p N) := by
  have HV := Lib.hid h; have HEV := Lib.hid hev; have HLN := Lib.hid hln
  obtain ⟨a, n1, cp, rfl, hn, hc, hm, hat⟩ := h.rs.at_
  cases hf : fndO S k with
  | none =>
    have HPL := Lib.hid (pl_noneO hf)
    have HE := Lib.hid (show takeM (S.map On.pl) k p = S.map On.pl ∧ gotM (S.map On.pl) k p = [] by unfold takeM gotM; rw [plo_fnd, hf]; exact ⟨rfl, rfl⟩)
    clear hf hat h hn hev hln
    have HI := SB.start w cap (.slice (a) n1 cp)
    obtain ⟨b, hbq⟩ : ∃ b, b = w.heap.size := ⟨_, rfl⟩
    obtain ⟨b2, hb2q⟩ : ∃ b2, b2 = b + 1 := ⟨_, rfl⟩
    have HBQ := Lib.hid hbq
    rw [← hbq, ← hb2q] at HI
    replace HI := Lib.hid HI
    go_enter Try.func106, Try.ntmps106
    go_wp2_with fail
    rw [← hbq, ← hb2q]
    clear hbq hb2q
    generalize (w.alloc (.cells #[.int .i64 cap, .slice (a) n1 cp] 123)).alloc (.cells #[.int .i64 0, .slice none 0 0] 123) = w1 at *
    have HV1 := Lib.hid (HV.out.below (by rw [← HBQ.out]; exact HI.out.bel))
    refine (mat HV1.out.rs k).mono ?_
    rintro e w2 ⟨rfl, hb2⟩
    rw [HPL.out]
    have HC2 := Lib.hid (HI.out.on hb2)
    have HB2 := Lib.hid hb2
    clear hb2
    obtain ⟨z0, z1⟩ := HC2.out.m2.cells
    obtain ⟨s0, s1⟩ := HC2.out.m4.cells
    have s2 := HC2.out.m4.fz 0; have s3 := HC2.out.m4.fz 1
    have q0 := HC2.out.m2.lt
    have q2 := HC2.out.m4.lt
    go_wp2
    refine bodyPost_ret (res_mt Try.results106 rfl (HC2.out.m4.set2 cap (.slice a n1 cp))) rfl ?_
    have hst : Chg (fun j => j = b2) w2 ((w2.setCell ⟨b2, 0, none⟩ (.int .i64 cap)).setCell ⟨b2, 1, none⟩ (.slice a n1 cp)) := ((Chg.refl (fun j => j = b2) w2).setCell (p := ⟨b2, 0, none⟩) (.inl rfl) _).setCell (p := ⟨b2, 1, none⟩) (.inl rfl) _
    have hd := HC2.out.ds
    have hbx := HC2.out.bel.trans (hst.below (by omega) fun j e => by rw [e]; omega)
    rw [HBQ.out] at hbx
    exact ⟨_, S, _, [], rfl, HV.out.below hbx, HE.out.1.symm, EL.nil _, HE.out.2.symm, rfl, HEV.out, fun F _ hk => ⟨hk, fun j hj => (by cases hj), fun x hx => (by cases hx)⟩, fun j hj => (by cases hj), hbx⟩
  | some y =>
    obtain ⟨i, hpl, hi⟩ := Srt.pl_at hf
    have HPL := Lib.hid hpl
    have hig : ¬ (i : Int) < 0 := by omega
    by_cases hp : p < 1
    · have HE := Lib.hid (show takeM (S.map On.pl) k p = S.map On.pl ∧ gotM (S.map On.pl) k p = [] by
        unfold takeM gotM; rw [plo_fnd, hf]
        refine ⟨if_pos hp, ?_⟩
        show List.take p.toNat _ = []
        rw [show p.toNat = 0 by omega, List.take_zero])
      clear hf hat h hn hev hln hpl hi
      have HI := SB.start w cap (.slice (a) n1 cp)
      obtain ⟨b, hbq⟩ : ∃ b, b = w.heap.size := ⟨_, rfl⟩
      obtain ⟨b2, hb2q⟩ : ∃ b2, b2 = b + 1 := ⟨_, rfl⟩
      have HBQ := Lib.hid hbq
      rw [← hbq, ← hb2q] at HI
      replace HI := Lib.hid HI
      go_enter Try.func106, Try.ntmps106
      go_wp2_with fail
      rw [← hbq, ← hb2q]
      clear hbq hb2q
      generalize (w.alloc (.cells #[.int .i64 cap, .slice (a) n1 cp] 123)).alloc (.cells #[.int .i64 0, .slice none 0 0] 123) = w1 at *
      have HV1 := Lib.hid (HV.out.below (by rw [← HBQ.out]; exact HI.out.bel))
      refine (mat HV1.out.rs k).mono ?_
      rintro e w2 ⟨rfl, hb2⟩
      rw [HPL.out]
      have HC2 := Lib.hid (HI.out.on hb2)
      have HB2 := Lib.hid hb2
      clear hb2
      obtain ⟨z0, z1⟩ := HC2.out.m2.cells
      obtain ⟨s0, s1⟩ := HC2.out.m4.cells
      have s2 := HC2.out.m4.fz 0; have s3 := HC2.out.m4.fz 1
      have q0 := HC2.out.m2.lt
      have q2 := HC2.out.m4.lt
      go_wp2
      refine bodyPost_ret (res_mt Try.results106 rfl (HC2.out.m4.set2 cap (.slice a n1 cp))) rfl ?_
      have hst : Chg (fun j => j = b2) w2 ((w2.setCell ⟨b2, 0, none⟩ (.int .i64 cap)).setCell ⟨b2, 1, none⟩ (.slice a n1 cp)) := ((Chg.refl (fun j => j = b2) w2).setCell (p := ⟨b2, 0, none⟩) (.inl rfl) _).setCell (p := ⟨b2, 1, none⟩) (.inl rfl) _
      have hd := HC2.out.ds
      have hbx := HC2.out.bel.trans (hst.below (by omega) fun j e => by rw [e]; omega)
      rw [HBQ.out] at hbx
      exact ⟨_, S, _, [], rfl, HV.out.below hbx, HE.out.1.symm, EL.nil _, HE.out.2.symm, rfl, HEV.out, fun F _ hk => ⟨hk, fun j hj => (by cases hj), fun x hx => (by cases hx)⟩, fun j hj => (by cases hj), hbx⟩
    · obtain ⟨bs, offs, rfl, hbs, hcy⟩ := hat i y hi
      have hym := mem_at hi
      have HCY := Lib.hid hcy; have HBS := Lib.hid hbs; have HYM := Lib.hid hym; have HFY := Lib.hid hf
      have HYE := Lib.hid (HV.out.ev y hym)
      have hin : (i : Int) < (n1 : Int) := by have := (List.getElem?_eq_some_iff.1 hi).1; omega
      have hinN : i < n1 := by omega
      have HYN := Lib.hid (show y.vn = y.l.length from by
        obtain ⟨_, _, _, e, h1, _⟩ := (HV.out.ev y hym).rs.at_
        cases e; exact h1)
      have HYF := Lib.hid (show y.frame = k from (Srt.fnd_mem hf).2)
      clear hf hat h hn hev hln hpl hi hcy hbs hym
      obtain ⟨m, hmq⟩ : ∃ m : Nat, m = min p.toNat y.vn := ⟨_, rfl⟩
      have hmin : min p (y.vn : Int) = (m : Int) := by omega
      have hmn : m ≤ y.vn := by omega
      have hmI : (m : Int) ≤ (y.vn : Int) := by omega
      have HT := Lib.hid (show takeM (S.map On.pl) k p = putP (S.map On.pl) ⟨k, (y.l.drop m).map Ev.pl, y.lost⟩ ∧ gotM (S.map On.pl) k p = (y.l.take m).map Ev.pl from by
        have hyl := HYN.out
        unfold takeM gotM
        rw [plo_fnd, HFY.out]
        refine ⟨(if_neg hp).trans ?_, ?_⟩
        · show putP _ ⟨k, (y.l.map Ev.pl).drop p.toNat, y.lost⟩ = _
          rw [← List.map_drop]
          by_cases h1 : p.toNat ≤ y.vn
          · rw [show m = p.toNat by omega]
          · rw [List.drop_of_length_le (i := p.toNat) (by omega), List.drop_of_length_le (i := m) (by omega)]
        · show (y.l.map Ev.pl).take p.toNat = _
          rw [← List.map_take]
          by_cases h1 : p.toNat ≤ y.vn
          · rw [show m = p.toNat by omega]
          · rw [List.take_of_length_le (i := p.toNat) (by omega), List.take_of_length_le (i := m) (by omega)])
      clear hmq
      have HI := SB.start w cap (.slice (some ⟨bs, offs, none⟩) n1 cp)
      obtain ⟨b, hbq⟩ : ∃ b, b = w.heap.size := ⟨_, rfl⟩
      obtain ⟨b2, hb2q⟩ : ∃ b2, b2 = b + 1 := ⟨_, rfl⟩
      have HBQ := Lib.hid hbq
      rw [← hbq, ← hb2q] at HI
      replace HI := Lib.hid HI
      go_enter Try.func106, Try.ntmps106
      go_wp2_with fail
      rw [← hbq, ← hb2q]
      clear hbq hb2q
      generalize (w.alloc (.cells #[.int .i64 cap, .slice (some ⟨bs, offs, none⟩) n1 cp] 123)).alloc (.cells #[.int .i64 0, .slice none 0 0] 123) = w1 at *
      have HV1 := Lib.hid (HV.out.below (by rw [← HBQ.out]; exact HI.out.bel))
      refine (mat HV1.out.rs k).mono ?_
      rintro e w2 ⟨rfl, hb2⟩
      rw [HPL.out]
      have HC2 := Lib.hid (HI.out.on hb2)
      have HB2 := Lib.hid hb2
      clear hb2
      obtain ⟨z0, z1⟩ := HC2.out.m2.cells
      obtain ⟨s0, s1⟩ := HC2.out.m4.cells
      have s2 := HC2.out.m4.fz 0; have s3 := HC2.out.m4.fz 1
      have q0 := HC2.out.m2.lt
      have q2 := HC2.out.m4.lt
      have HB0 := Lib.hid (show Below w.heap.size w w2 from by have := HC2.out.bel; rw [HBQ.out] at this; exact this)
      have d0 := (HB0.out.cell (p := ⟨bs, offs + i * 3 + 0, none⟩) HBS.out).trans (HCY.out 0 _ rfl)
      have d1 := (HB0.out.cell (p := ⟨bs, offs + i * 3 + 1, none⟩) HBS.out).trans (HCY.out 1 _ rfl)
      have d2 := (HB0.out.cell (p := ⟨bs, offs + i * 3 + 2, none⟩) HBS.out).trans (HCY.out 2 _ rfl)
      simp only [Nat.add_zero] at d0
      have qs : bs < w2.heap.size := Nat.lt_of_lt_of_le HBS.out HB0.out.size
      obtain ⟨vf, hsf, hrf, hof⟩ := HYE.out.rs.from_ (P := Try.prog) (T := 24) (e := 28) (i := m) (by have := HYN.out; omega) Try.underlying24 infoEvI.choose_spec.1 infoEvI.choose_spec.2
      obtain ⟨vu, hsu, hru, hou⟩ := HYE.out.rs.upto (P := Try.prog) (T := 24) (e := 28) (i := m) (by have := HYN.out; omega) Try.underlying24 infoEvI.choose_spec.1 infoEvI.choose_spec.2
      obtain ⟨fa, fn, fc, hvf, -, -, -, -⟩ := (hrf _ HYE.out.rs).at_
      subst hvf
      have hsf' : ∀ w0, (Instr.slice 24 (.slice y.va y.vn y.vc) (some (.int .i64 (m : Int))) none none).run Try.prog w0 = .ok (.slice fa fn fc) w0 := hsf
      have hsu' : ∀ w0, (Instr.slice 24 (.slice y.va y.vn y.vc) none (some (.int .i64 (m : Int))) none).run Try.prog w0 = .ok vu w0 := hsu
      clear hsf hsu
      have HRF := Lib.hid hrf; have HOF := Lib.hid hof; have HRU := Lib.hid hru; have HOU := Lib.hid hou
      have hr9 := OB1.made w2 y
      have HB3 := Lib.hid (ba (Below.refl w2.heap.size w2) (.cells #[.int .i64 y.frame, .slice y.va y.vn y.vc, .int .i64 y.lost] 130))
      have HR3 := Lib.hid hr9
      clear hrf hof hru hou hr9
      go_wp2
      obtain ⟨b9, hb9⟩ : ∃ b9, b9 = w2.heap.size := ⟨_, rfl⟩
      rw [← hb9] at HR3
      rw [← hb9]
      have HB9 := Lib.hid hb9
      generalize w2.alloc (.cells #[.int .i64 y.frame, .slice y.va y.vn y.vc, .int .i64 y.lost] 130) = w3 at *
      have HC3 := Lib.hid (HC2.out.on HB3.out)
      clear z0 z1 s0 s1 s2 s3 q0 q2 d0 d1 d2 qs hb9
      obtain ⟨g0, g1, g2⟩ := HR3.out.cells
      have gl := HR3.out.lt
      obtain ⟨z0, z1⟩ := HC3.out.m2.cells
      have q0 := HC3.out.m2.lt
      have nb9 : ¬ b9 = b2 := by have := HC2.out.ds; have := HB9.out; omega
      have nb : ¬ b = b2 := by have := HC2.out.ds; omega
      refine Mix.regionC (fun j => j = b2) (by kernel_rfl) ?_
      intro w4 hb4
      refine Mix.take_exC _ _ 0 rfl (by kernel_rfl) (by kernel_rfl) (by kernel_rfl) (by kernel_rfl) (fun K hK => ?_)
      go_simp
      first | (refine hK _ ?_; clear hK K) | (apply Exists.intro; refine ⟨fun x => ?_, hK _ ?_⟩; (fail); clear hK K)
      refine Mix.take_exC _ _ 1 rfl (by kernel_rfl) (by kernel_rfl) (by kernel_rfl) (by kernel_rfl) (fun K hK => ?_)
      go_simp
      first | (refine hK _ ?_; clear hK K) | (apply Exists.intro; refine ⟨fun x => ?_, hK _ ?_⟩; (fail); clear hK K)
      refine Mix.take_exC _ _ 2 rfl (by kernel_rfl) (by kernel_rfl) (by kernel_rfl) (by kernel_rfl) (fun K hK => ?_)
      go_simp
      first | (refine hK _ ?_; clear hK K) | (apply Exists.intro; refine ⟨fun x => ?_, hK _ ?_⟩; (fail); clear hK K)
      refine Mix.take_exC _ _ 3 rfl (by kernel_rfl) (by kernel_rfl) (by kernel_rfl) (by kernel_rfl) (fun K hK => ?_)
      go_simp
      first | (refine hK _ ?_; clear hK K) | (apply Exists.intro; refine ⟨fun x => ?_, hK _ ?_⟩; (fail); clear hK K)
      refine Mix.take_exC _ _ 4 rfl (by kernel_rfl) (by kernel_rfl) (by kernel_rfl) (by kernel_rfl) (fun K hK => ?_)
      go_simp
      first | (refine hK _ ?_; clear hK K) | (apply Exists.intro; refine ⟨fun x => ?_, hK _ ?_⟩; (fail); clear hK K)
      refine Mix.take_exC _ _ 5 rfl (by kernel_rfl) (by kernel_rfl) (by kernel_rfl) (by kernel_rfl) (fun K hK => ?_)
      go_simp
      first | (refine hK _ ?_; clear hK K) | (apply Exists.intro; refine ⟨fun x => ?_, hK _ ?_⟩; (fail); clear hK K)
      refine Mix.take_exC _ _ 6 rfl (by kernel_rfl) (by kernel_rfl) (by kernel_rfl) (by kernel_rfl) (fun K hK => ?_)
      go_simp
      first | (refine hK _ ?_; clear hK K) | (apply Exists.intro; refine ⟨fun x => ?_, hK _ ?_⟩; (fail); clear hK K)
      refine Mix.take_exC _ _ 7 rfl (by kernel_rfl) (by kernel_rfl) (by kernel_rfl) (by kernel_rfl) (fun K hK => ?_)
      go_simp
      first | (refine hK _ ?_; clear hK K) | (apply Exists.intro; refine ⟨fun x => ?_, hK _ ?_⟩; (fail); clear hK K)
      refine Mix.take_exC _ _ 8 rfl (by kernel_rfl) (by kernel_rfl) (by kernel_rfl) (by kernel_rfl) (fun K hK => ?_)
      go_simp
      first | (refine hK _ ?_; clear hK K) | (apply Exists.intro; refine ⟨fun x => ?_, hK _ ?_⟩; (fail); clear hK K)
      refine Mix.take_exC _ _ 10 rfl (by kernel_rfl) (by kernel_rfl) (by kernel_rfl) (by kernel_rfl) (fun K hK => ?_)
      go_simp
      first | (refine hK _ ?_; clear hK K) | (apply Exists.intro; refine ⟨fun x => ?_, hK _ ?_⟩; (fail); clear hK K)
      refine Mix.take_exC _ _ 11 rfl (by kernel_rfl) (by kernel_rfl) (by kernel_rfl) (by kernel_rfl) (fun K hK => ?_)
      go_simp
      first | (refine hK _ ?_; clear hK K) | (apply Exists.intro; refine ⟨fun x => ?_, hK _ ?_⟩; (fail); clear hK K)
      refine Mix.take_exC _ _ 12 rfl (by kernel_rfl) (by kernel_rfl) (by kernel_rfl) (by kernel_rfl) (fun K hK => ?_)
      go_simp
      first | (refine hK _ ?_; clear hK K) | (apply Exists.intro; refine ⟨fun x => ?_, hK _ ?_⟩; (fail); clear hK K)
      refine Mix.take_exC _ _ 13 rfl (by kernel_rfl) (by kernel_rfl) (by kernel_rfl) (by kernel_rfl) (fun K hK => ?_)
      go_simp
      first | (refine hK _ ?_; clear hK K) | (apply Exists.intro; refine ⟨fun x => ?_, hK _ ?_⟩; (fail); clear hK K)
      refine Mix.all (rs := [9]) (by kernel_rfl) (by simp) (.of_below _ hb4) ?_
      intro i5 hi5 w5 hb5 hC5
      simp only [List.mem_cons, List.not_mem_nil, or_false] at hi5
      subst hi5
      clear hC5
      have HB5 := Lib.hid (bt hb4 hb5)
      clear hb4 hb5
      refine Mix.op rfl (by kernel_rfl) ?_
      go_simp
      have HB05 := Lib.hid (show Below w.heap.size w w5 from bt HB0.out (bt HB3.out HB5.out))
      refine (mwith (cap := cap) (f := ⟨k, fa, fn, fc, y.l.drop m, y.lost⟩) (HV.out.rs.below HB05.out) HV.out.srt HLN.out).mono ?_
      rintro e w6 ⟨v6, rfl, hv6, ho6, hb6⟩
      obtain ⟨a6, n6, c6, hv6e, -, -, -, -⟩ := hv6.at_
      subst hv6e
      refine ⟨_, rfl, ?_⟩
      have HV6 := Lib.hid hv6; have HO6 := Lib.hid ho6
      have HB6 := Lib.hid (bt HB5.out hb6)
      clear hv6 ho6 hb6
      refine Mix.all (rs := [14]) (by kernel_rfl) (by simp) (.of_below _ HB6.out) ?_
      intro i7 hi7 w7 hb7 hC7
      simp only [List.mem_cons, List.not_mem_nil, or_false] at hi7
      subst hi7
      clear hC7
      have HB7 := Lib.hid (bt HB6.out hb7)
      have HV7 := Lib.hid (HV6.out.below hb7)
      have HSZ := Lib.hid hb7.size
      clear hb7 g0 g1 g2 gl z0 z1 q0
      have HC7 := Lib.hid (HC3.out.on HB7.out)
      obtain ⟨s0, s1⟩ := HC7.out.m4.cells
      have s2 := HC7.out.m4.fz 0; have s3 := HC7.out.m4.fz 1
      have q2 := HC7.out.m4.lt
      refine Mix.op rfl (by kernel_rfl) ?_
      go_simp
      have hst : Chg (fun j => j = b2) w7 ((w7.setCell ⟨b2, 0, none⟩ (.int .i64 cap)).setCell ⟨b2, 1, none⟩ (.slice a6 n6 c6)) := ((Chg.refl (fun j => j = b2) w7).setCell (p := ⟨b2, 0, none⟩) (.inl rfl) _).setCell (p := ⟨b2, 1, none⟩) (.inl rfl) _
      have HST := Lib.hid hst
      have HM8 := Lib.hid (HC7.out.m4.set2 cap (.slice a6 n6 c6))
      clear hst s0 s1 s2 s3 q2
      generalize (w7.setCell ⟨b2, 0, none⟩ (.int .i64 cap)).setCell ⟨b2, 1, none⟩ (.slice a6 n6 c6) = w8 at *
      refine Mix.take_exC _ _ 15 rfl (by kernel_rfl) (by kernel_rfl) (by kernel_rfl) (by kernel_rfl) (fun K hK => ?_)
      go_simp
      first | (refine hK _ ?_; clear hK K) | (apply Exists.intro; refine ⟨fun x => ?_, hK _ ?_⟩; (fail); clear hK K)
      refine Mix.done (by kernel_rfl) ((Chg.of_below _ HB7.out).same HST.out) ?_
      intro w9 hb9
      have HB9' := Lib.hid hb9
      clear hb9
      go_wp2
      refine bodyPost_ret (res_mt Try.results106 rfl (HM8.out.below HB9'.out)) rfl ?_
      have hd := HC7.out.ds
      have hb9 := HB9'.out
      have hs0 := HST.out.size
      have hsz := HSZ.out
      have hwb := HBQ.out
      have hbelb : Below b w w8 := HC7.out.bel.trans (HST.out.below (by omega) fun j e => by omega)
      have hbel8 : Below w.heap.size w w8 := by rw [hwb] at hbelb; exact hbelb
      have hbel9 := bt hbel8 hb9
      have hmemF : ∀ o ∈ putO S ⟨k, fa, fn, fc, y.l.drop m, y.lost⟩, o = ⟨k, fa, fn, fc, y.l.drop m, y.lost⟩ ∨ o ∈ S := fun o ho => (Srt.mem_put.1 ho).imp id fun h => h.1
      have hne6 : ∀ j, (Value.slice a6 n6 c6).ownBlock = some j → w.heap.size < j ∧ j < w9.heap.size ∧ j ≠ b2 := fun j hj => by
        have h1 := HO6.out j hj; have h2 := HB05.out.size; have h3 := hb9.size; have h4 := HC2.out.ds; have h5 := HB3.out.size; have h6 := HB5.out.size; omega
      have hovb : ∀ j, (Value.slice fa fn fc).ownBlock = some j → j < w9.heap.size := fun j hj => by
        have := HV.out.eb y HYM.out j (HOF.out j hj); have := hbel9.size; omega
      refine ⟨_, putO S ⟨k, fa, fn, fc, y.l.drop m, y.lost⟩, _, y.l.take m, rfl, ⟨(HV7.out.chg HST.out fun j hj e => (hne6 j hj).2.2 e).below hb9, fun o ho => ?_, fun j hj => (hne6 j hj).2.1, fun o ho j hj => ?_, HV.out.srt.put ordO _⟩, ?_, ⟨HRU.out w9 (HYE.out.rs.below hbel9), fun x hx => (HYE.out.vec x (List.mem_of_mem_take hx)).on hbel9⟩, HT.out.2.symm, Srt.put_len_old HV.out.srt HFY.out, fun o ho => ?_, fun F hF hk => ⟨⟨fun j hj e => by have := (hne6 j hj).1; have := hF j e; omega, fun o ho => ?_⟩, ⟨fun j hj => (hk.rec_ y HYM.out).own j (HOU.out j hj), fun x hx => (hk.rec_ y HYM.out).vec x (List.mem_of_mem_take hx)⟩⟩, fun j hj => by have := HV.out.eb y HYM.out j (HOU.out j hj); have := hbel9.size; omega, hbel9⟩
      · rcases hmemF o ho with rfl | ho
        · exact ⟨HRF.out w9 (HYE.out.rs.below hbel9), fun x hx => (HYE.out.vec x (List.mem_of_mem_drop hx)).on hbel9⟩
        · exact (HV.out.ev o ho).below hbel9
      · rcases hmemF o ho with rfl | ho
        · exact hovb j hj
        · exact Nat.lt_of_lt_of_le (HV.out.eb o ho j hj) hbel9.size
      · rw [plo_put, HT.out.1]; rfl
      · rcases hmemF o ho with rfl | ho
        · have h1 := HEV.out y HYM.out
          refine ⟨?_, h1.2.1, h1.2.2.1, ?_⟩
          · show (y.l.drop m).length ≤ N
            rw [List.length_drop]; omega
          · show ((y.l.drop m).length : Int) ≤ cap
            rw [List.length_drop]; omega
        · exact HEV.out o ho
      · rcases hmemF o ho with rfl | ho
        · exact ⟨fun j hj => (hk.rec_ y HYM.out).own j (HOF.out j hj), fun x hx => (hk.rec_ y HYM.out).vec x (List.mem_of_mem_drop hx)⟩
        · exact hk.rec_ o ho
end
end Go.Proofs.Ytnckjacbkhoppaa

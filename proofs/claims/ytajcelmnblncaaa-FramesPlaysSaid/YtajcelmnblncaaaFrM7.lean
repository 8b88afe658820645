/- The document's frameworks by a list: an act on them: subscribing, sending away, being quiet. -/
import Derived.Test.YtajcelmnblncaaaFrM6
namespace Go.Proofs.Ytajcelmnblncaaa
open Go.RowKit Go.Maps
attribute [local go_sem] ext_cell ext_frozen extC_cell extC_frozen Mix.calmUpon Mix.mUpon eqFr
section
variable {w : World} {v : Value} {S : List Fr} {cap : Int}
set_option maxRecDepth 100000 in
set_option maxHeartbeats 4000000 in
theorem mdo_sub (h : FV w v S) (hvb : ∀ b, v.ownBlock = some b → b < w.heap.size) (hS : SF S) (hok : ∀ f ∈ S, FOk f) (hW : ∀ y ∈ S, wtF S y.role = y.weight) (hln : S.length < 900000) (xi xr xw xt : Int) : Calls Try.prog 56 #[mval cap v, aval ⟨0, xi, xr, xw, xt⟩] w (RetS w v cap (fstep cap S ⟨0, xi, xr, xw, xt⟩)) := by
  have HV := Lib.hid h
  have HVB := Lib.hid hvb
  have HSB := Lib.hid (fun w' v' (h' : FV w' v' S) => msub (cap := cap) h' hS hok hW hln ⟨0, xi, xr, xw, xt⟩)
  have E1 := Lib.hid (show fstep cap S ⟨0, xi, xr, xw, xt⟩ = fsub cap S ⟨0, xi, xr, xw, xt⟩ from if_pos rfl)
  obtain ⟨a, n, cp, rfl, hn, hc, hm, hat⟩ := h.at_
  obtain ⟨xk, hxk⟩ : ∃ xk : Int, xk = 0 := ⟨_, rfl⟩
  have hkb : (xk == 0) = true := by simpa using hxk
  rw [← hxk] at E1 HSB ⊢
  clear hxk hat h hn hS hok hW hvb
  have HI := SC.start w cap (.slice (a) n cp) ⟨xk, xi, xr, xw, xt⟩
  obtain ⟨b, hbq⟩ : ∃ b, b = w.heap.size := ⟨_, rfl⟩
  obtain ⟨b1, hb1q⟩ : ∃ b1, b1 = b + 1 := ⟨_, rfl⟩
  obtain ⟨b2, hb2q⟩ : ∃ b2, b2 = b1 + 1 := ⟨_, rfl⟩
  have HBQ := Lib.hid hbq
  rw [← hbq, ← hb1q, ← hb2q] at HI
  replace HI := Lib.hid HI
  go_enter Try.func56, Try.ntmps56
  go_wp2_with fail
  rw [← hbq, ← hb1q, ← hb2q]
  clear hbq hb1q hb2q
  generalize ((w.alloc (.cells #[.int .i64 cap, .slice (a) n cp] 106)).alloc (.cells #[.int .i64 xk, .int .i64 xi, .int .i64 xr, .int .i64 xw, .int .i64 xt] 110)).alloc (.cells #[.int .i64 0, .slice none 0 0] 106) = w1 at *
  have HV1 := Lib.hid (HV.out.below (by rw [← HBQ.out]; exact HI.out.bel))
  refine (HSB.out w1 _ HV1.out).mono ?_
  rintro e w2 ⟨v2, rfl, hv2, ho2, hb2⟩
  generalize fsub cap S ⟨xk, xi, xr, xw, xt⟩ = r at *
  obtain ⟨S', d, c⟩ := r
  have HC2 := Lib.hid (HI.out.on hb2)
  have hv3 := hv2
  obtain ⟨a7, n7, cp7, rfl, h71, h72, h73, h74⟩ := hv3.at_
  have HF7 := Lib.hid (show FV w2 (.slice a7 n7 cp7) S' ∧ ∀ k, Value.ownBlock (.slice a7 n7 cp7) = some k → k ≠ b2 ∧ (Value.ownBlock (.slice a n cp) = some k ∨ (b ≤ k ∧ k < w2.heap.size)) from ⟨hv2, fun k hk => by
    have h3 := HI.out.ds
    rcases ho2 k hk with e | e
    · exact ⟨by have := HVB.out k e; have := HBQ.out; omega, .inl e⟩
    · exact ⟨by omega, .inr ⟨by omega, e.2⟩⟩⟩)
  clear hv2 hv3 ho2 hb2 h71 h72 h73 h74
  obtain ⟨z0, z1⟩ := HC2.out.m2.cells
  obtain ⟨a0, a1, a2, a3, a4⟩ := HC2.out.a3.cells
  obtain ⟨s0, s1⟩ := HC2.out.m4.cells
  have s2 := HC2.out.m4.fz 0; have s3 := HC2.out.m4.fz 1
  have q0 := HC2.out.m2.lt
  have q1 : b1 < w2.heap.size := by have := HC2.out.ds; omega
  have q2 := HC2.out.m4.lt
  go_wp2
  refine bodyPost_ret (res_m3 Try.results56 rfl (HC2.out.m4.set2 cap (.slice a7 n7 cp7))) rfl ?_
  have hst : Chg (fun k => k = b2) w2 ((w2.setCell ⟨b2, 0, none⟩ (.int .i64 cap)).setCell ⟨b2, 1, none⟩ (.slice a7 n7 cp7)) := ((Chg.refl (fun k => k = b2) w2).setCell (p := ⟨b2, 0, none⟩) (.inl rfl) _).setCell (p := ⟨b2, 1, none⟩) (.inl rfl) _
  have hd := HC2.out.ds
  have hbx := HC2.out.bel.trans (hst.below (by omega) fun k e => by rw [e]; omega)
  rw [HBQ.out] at hbx
  unfold RetS
  rw [E1.out]
  exact ⟨_, rfl, HF7.out.1.chg hst (fun k hk e => (HF7.out.2 k hk).1 e), fun k hk => (HF7.out.2 k hk).2.imp_right fun h1 => by have h2 := hst.size; rw [← HBQ.out]; exact ⟨by omega, by omega⟩, hbx⟩
set_option maxRecDepth 100000 in
set_option maxHeartbeats 4000000 in
theorem mdo_none (h : FV w v S) (x : FAct) (hk0 : x.kind ≠ 0) (hk2 : x.kind ≠ 2) (hf : fndF S x.id = none) : Calls Try.prog 56 #[mval cap v, aval x] w (RetS w v cap (fstep cap S x)) := by
  have HV := Lib.hid h
  obtain ⟨a, n, cp, rfl, hn, hc, hm, hat⟩ := h.at_
  obtain ⟨xk, xi, xr, xw, xt⟩ := x
  have E1 := Lib.hid (show fstep cap S ⟨xk, xi, xr, xw, xt⟩ = (S, false, 43) from by
    refine (if_neg hk0).trans ?_
    by_cases h1 : xk = 1
    · refine (if_pos h1).trans ?_
      have : fdis S ⟨xk, xi, xr, xw, xt⟩ = (S, 43) := by unfold fdis; simp only; rw [hf]
      rw [this]
    · refine (if_neg h1).trans ((if_neg hk2).trans ?_)
      have : fqui S xi (decide (xk = 3)) = (S, 43) := by unfold fqui; rw [hf]
      show ((fqui S xi (decide (xk = 3))).1, false, (fqui S xi (decide (xk = 3))).2) = _
      rw [this])
  have HPL := Lib.hid (pl_none' hf)
  have k0 : (xk == 0) = false := by simpa using hk0
  have k2 : (xk == 2) = false := by simpa using hk2
  clear hat h hn hf hk0 hk2
  have HI := SC.start w cap (.slice (a) n cp) ⟨xk, xi, xr, xw, xt⟩
  obtain ⟨b, hbq⟩ : ∃ b, b = w.heap.size := ⟨_, rfl⟩
  obtain ⟨b1, hb1q⟩ : ∃ b1, b1 = b + 1 := ⟨_, rfl⟩
  obtain ⟨b2, hb2q⟩ : ∃ b2, b2 = b1 + 1 := ⟨_, rfl⟩
  have HBQ := Lib.hid hbq
  rw [← hbq, ← hb1q, ← hb2q] at HI
  replace HI := Lib.hid HI
  go_enter Try.func56, Try.ntmps56
  go_wp2_with fail
  rw [← hbq, ← hb1q, ← hb2q]
  clear hbq hb1q hb2q
  generalize ((w.alloc (.cells #[.int .i64 cap, .slice (a) n cp] 106)).alloc (.cells #[.int .i64 xk, .int .i64 xi, .int .i64 xr, .int .i64 xw, .int .i64 xt] 110)).alloc (.cells #[.int .i64 0, .slice none 0 0] 106) = w1 at *
  have HV1 := Lib.hid (HV.out.below (by rw [← HBQ.out]; exact HI.out.bel))
  refine (mat HV1.out xi).mono ?_
  rintro e w2 ⟨rfl, hb2⟩
  rw [HPL.out]
  have HC2 := Lib.hid (HI.out.on hb2)
  clear hb2
  obtain ⟨z0, z1⟩ := HC2.out.m2.cells
  obtain ⟨a0, a1, a2, a3, a4⟩ := HC2.out.a3.cells
  obtain ⟨s0, s1⟩ := HC2.out.m4.cells
  have s2 := HC2.out.m4.fz 0; have s3 := HC2.out.m4.fz 1
  have q0 := HC2.out.m2.lt
  have q1 : b1 < w2.heap.size := by have := HC2.out.ds; omega
  have q2 := HC2.out.m4.lt
  go_wp2
  refine bodyPost_ret (res_m3 Try.results56 rfl (HC2.out.m4.set2 cap (.slice (a) n cp))) rfl ?_
  have hst : Chg (fun k => k = b2) w2 ((w2.setCell ⟨b2, 0, none⟩ (.int .i64 cap)).setCell ⟨b2, 1, none⟩ (.slice (a) n cp)) := ((Chg.refl (fun k => k = b2) w2).setCell (p := ⟨b2, 0, none⟩) (.inl rfl) _).setCell (p := ⟨b2, 1, none⟩) (.inl rfl) _
  have hd := HC2.out.ds
  have hbx := HC2.out.bel.trans (hst.below (by omega) fun k e => by rw [e]; omega)
  rw [HBQ.out] at hbx
  unfold RetS
  rw [E1.out]
  exact ⟨_, rfl, HV.out.below hbx, fun k hk => .inl hk, hbx⟩
set_option maxRecDepth 100000 in
set_option maxHeartbeats 4000000 in
theorem mdo_dis (h : FV w v S) (hS : SF S) (hok : ∀ f ∈ S, FOk f) (hln : S.length < 900000) (xi xr xw xt : Int) {y : Fr} (hf : fndF S xi = some y) : Calls Try.prog 56 #[mval cap v, aval ⟨1, xi, xr, xw, xt⟩] w (RetS w v cap (fstep cap S ⟨1, xi, xr, xw, xt⟩)) := by
  have hfs : ∀ z, fstep cap S ⟨1, xi, xr, xw, xt⟩ = z ↔ (((if y.up = false then (S, 23) else if xt < 0 ∨ 9007199254740992 < xt then (S, 41) else (putF S { y with up := false, til := xt + y.time }, 0) : List Fr × Int).1, false, (if y.up = false then (S, 23) else if xt < 0 ∨ 9007199254740992 < xt then (S, 41) else (putF S { y with up := false, til := xt + y.time }, 0) : List Fr × Int).2)) = z := fun z => by
    have : fdis S ⟨1, xi, xr, xw, xt⟩ = (if y.up = false then (S, 23) else if xt < 0 ∨ 9007199254740992 < xt then (S, 41) else (putF S { y with up := false, til := xt + y.time }, 0)) := by unfold fdis; simp only; rw [hf]
    rw [← this]; exact Iff.rfl
  have HFS := Lib.hid hfs
  obtain ⟨xk, hxk⟩ : ∃ xk : Int, xk = 1 := ⟨_, rfl⟩
  have k0 : (xk == 0) = false := by rw [hxk]; rfl
  have k1 : (xk == 1) = true := by rw [hxk]; rfl
  have k2 : (xk == 2) = false := by rw [hxk]; rfl
  rw [← hxk] at HFS ⊢
  clear hfs hxk
  have HV := Lib.hid h
  obtain ⟨a, n, cp, rfl, hn, hc, hm, hat⟩ := h.at_
  obtain ⟨i, hpl, hi⟩ := Srt.pl_at hf
  have HPL := Lib.hid hpl
  obtain ⟨bs, off, rfl, hbs, hcell⟩ := hat i y hi
  have HCX := Lib.hid hcell
  have hin : (i : Int) < (n : Int) := by have := (List.getElem?_eq_some_iff.1 hi).1; omega
  have hnb : n < 900000 := by omega
  have hig : decide ((0 : Int) ≤ (i : Int)) = true := by simp
  have HSS := Lib.hid (show SF S ∧ S.length < 900000 from ⟨hS, hln⟩)
  have HBS0 := Lib.hid hbs
  have HYO := Lib.hid (hok y (Srt.fnd_mem hf).1)
  clear hpl hi hat hcell h hn hok hS hbs hf
  have HI := SC.start w cap (.slice (some ⟨bs, off, none⟩) n cp) ⟨xk, xi, xr, xw, xt⟩
  obtain ⟨b, hbq⟩ : ∃ b, b = w.heap.size := ⟨_, rfl⟩
  obtain ⟨b1, hb1q⟩ : ∃ b1, b1 = b + 1 := ⟨_, rfl⟩
  obtain ⟨b2, hb2q⟩ : ∃ b2, b2 = b1 + 1 := ⟨_, rfl⟩
  have HBQ := Lib.hid hbq
  rw [← hbq, ← hb1q, ← hb2q] at HI
  replace HI := Lib.hid HI
  go_enter Try.func56, Try.ntmps56
  go_wp2_with fail
  rw [← hbq, ← hb1q, ← hb2q]
  clear hbq hb1q hb2q
  generalize ((w.alloc (.cells #[.int .i64 cap, .slice (some ⟨bs, off, none⟩) n cp] 106)).alloc (.cells #[.int .i64 xk, .int .i64 xi, .int .i64 xr, .int .i64 xw, .int .i64 xt] 110)).alloc (.cells #[.int .i64 0, .slice none 0 0] 106) = w1 at *
  have HV1 := Lib.hid (HV.out.below (by rw [← HBQ.out]; exact HI.out.bel))
  refine (mat HV1.out xi).mono ?_
  rintro e w2 ⟨rfl, hb2⟩
  rw [HPL.out]
  have HC2 := Lib.hid (HI.out.on hb2)
  have HB2 := Lib.hid hb2
  clear hb2
  obtain ⟨z0, z1⟩ := HC2.out.m2.cells
  obtain ⟨a0, a1, a2, a3, a4⟩ := HC2.out.a3.cells
  obtain ⟨s0, s1⟩ := HC2.out.m4.cells
  have s2 := HC2.out.m4.fz 0; have s3 := HC2.out.m4.fz 1
  have q0 := HC2.out.m2.lt
  have q1 : b1 < w2.heap.size := by have := HC2.out.ds; omega
  have q2 := HC2.out.m4.lt
  have HBS := Lib.hid (show bs < b by rw [HBQ.out]; exact HBS0.out)
  have e0 := (HC2.out.bel.cell (p := ⟨bs, off + i * 7 + 0, none⟩) HBS.out).trans (HCX.out 0 _ rfl)
  have e1 := (HC2.out.bel.cell (p := ⟨bs, off + i * 7 + 1, none⟩) HBS.out).trans (HCX.out 1 _ rfl)
  have e2 := (HC2.out.bel.cell (p := ⟨bs, off + i * 7 + 2, none⟩) HBS.out).trans (HCX.out 2 _ rfl)
  have e3 := (HC2.out.bel.cell (p := ⟨bs, off + i * 7 + 3, none⟩) HBS.out).trans (HCX.out 3 _ rfl)
  have e4 := (HC2.out.bel.cell (p := ⟨bs, off + i * 7 + 4, none⟩) HBS.out).trans (HCX.out 4 _ rfl)
  have e5 := (HC2.out.bel.cell (p := ⟨bs, off + i * 7 + 5, none⟩) HBS.out).trans (HCX.out 5 _ rfl)
  have e6 := (HC2.out.bel.cell (p := ⟨bs, off + i * 7 + 6, none⟩) HBS.out).trans (HCX.out 6 _ rfl)
  simp only [Nat.add_zero] at e0
  have qs : bs < w2.heap.size := by have := HC2.out.ds; have := HBS.out; omega
  cases hup : y.up with
  | false =>
    have E1 := Lib.hid ((HFS.out (S, false, 23)).2 (by rw [if_pos hup]))
    rw [hup] at e3
    go_wp2
    refine bodyPost_ret (res_m3 Try.results56 rfl ((HC2.out.m4.set2 cap (.slice (some ⟨bs, off, none⟩) n cp)).below (ba (Below.refl _ _) _))) rfl ?_
    have hst : Chg (fun k => k = b2) w2 ((w2.setCell ⟨b2, 0, none⟩ (.int .i64 cap)).setCell ⟨b2, 1, none⟩ (.slice (some ⟨bs, off, none⟩) n cp)) := ((Chg.refl (fun k => k = b2) w2).setCell (p := ⟨b2, 0, none⟩) (.inl rfl) _).setCell (p := ⟨b2, 1, none⟩) (.inl rfl) _
    have hd := HC2.out.ds
    have hbx : ∀ o, Below b w (((w2.setCell ⟨b2, 0, none⟩ (.int .i64 cap)).setCell ⟨b2, 1, none⟩ (.slice (some ⟨bs, off, none⟩) n cp)).alloc o) := fun o => HC2.out.bel.trans ((hst.below (by omega) fun k e => by rw [e]; omega).trans ((ba (Below.refl _ _) o).mono (by have := hst.size; omega)))
    rw [HBQ.out] at hbx
    unfold RetS
    rw [E1.out]
    exact ⟨_, rfl, HV.out.below (hbx _), fun k hk => .inl hk, hbx _⟩
  | true =>
    rw [hup] at e3
    by_cases h1 : xt < 0
    · have E1 := Lib.hid ((HFS.out (S, false, 41)).2 (by rw [if_neg (by rw [hup]; simp), if_pos (.inl h1)]))
      clear hup
      go_wp2
      refine bodyPost_ret (res_m3 Try.results56 rfl ((HC2.out.m4.set2 cap (.slice (some ⟨bs, off, none⟩) n cp)).below (ba (Below.refl _ _) _))) rfl ?_
      have hst : Chg (fun k => k = b2) w2 ((w2.setCell ⟨b2, 0, none⟩ (.int .i64 cap)).setCell ⟨b2, 1, none⟩ (.slice (some ⟨bs, off, none⟩) n cp)) := ((Chg.refl (fun k => k = b2) w2).setCell (p := ⟨b2, 0, none⟩) (.inl rfl) _).setCell (p := ⟨b2, 1, none⟩) (.inl rfl) _
      have hd := HC2.out.ds
      have hbx : ∀ o, Below b w (((w2.setCell ⟨b2, 0, none⟩ (.int .i64 cap)).setCell ⟨b2, 1, none⟩ (.slice (some ⟨bs, off, none⟩) n cp)).alloc o) := fun o => HC2.out.bel.trans ((hst.below (by omega) fun k e => by rw [e]; omega).trans ((ba (Below.refl _ _) o).mono (by have := hst.size; omega)))
      rw [HBQ.out] at hbx
      unfold RetS
      rw [E1.out]
      exact ⟨_, rfl, HV.out.below (hbx _), fun k hk => .inl hk, hbx _⟩
    · by_cases h2 : 9007199254740992 < xt
      · have E1 := Lib.hid ((HFS.out (S, false, 41)).2 (by rw [if_neg (by rw [hup]; simp), if_pos (.inr h2)]))
        clear hup
        go_wp2
        refine bodyPost_ret (res_m3 Try.results56 rfl ((HC2.out.m4.set2 cap (.slice (some ⟨bs, off, none⟩) n cp)).below (ba (Below.refl _ _) _))) rfl ?_
        have hst : Chg (fun k => k = b2) w2 ((w2.setCell ⟨b2, 0, none⟩ (.int .i64 cap)).setCell ⟨b2, 1, none⟩ (.slice (some ⟨bs, off, none⟩) n cp)) := ((Chg.refl (fun k => k = b2) w2).setCell (p := ⟨b2, 0, none⟩) (.inl rfl) _).setCell (p := ⟨b2, 1, none⟩) (.inl rfl) _
        have hd := HC2.out.ds
        have hbx : ∀ o, Below b w (((w2.setCell ⟨b2, 0, none⟩ (.int .i64 cap)).setCell ⟨b2, 1, none⟩ (.slice (some ⟨bs, off, none⟩) n cp)).alloc o) := fun o => HC2.out.bel.trans ((hst.below (by omega) fun k e => by rw [e]; omega).trans ((ba (Below.refl _ _) o).mono (by have := hst.size; omega)))
        rw [HBQ.out] at hbx
        unfold RetS
        rw [E1.out]
        exact ⟨_, rfl, HV.out.below (hbx _), fun k hk => .inl hk, hbx _⟩
      · have E1 := Lib.hid ((HFS.out (putF S { y with up := false, til := xt + y.time }, false, 0)).2 (by rw [if_neg (by rw [hup]; simp), if_neg (by omega)]))
        have hyo := HYO.out
        have hwr : IntKind.i64.wrap (xt + y.time) = xt + y.time := IntWalk.i64_in _ (by have := hyo.t0; have := hyo.t1; omega)
        clear hup hyo
        go_wp2
        go_region
        have HFB := Lib.hid (show FB (w2.alloc (.cells #[.int .i64 y.id, .int .i64 y.role, .int .i64 y.weight, .bool false, .bool y.quiet, .int .i64 y.time, .int .i64 (xt + y.time)] 114)).drew w2.heap.size { y with up := false, til := xt + y.time } from FB.made w2 { y with up := false, til := xt + y.time })
        have HC6 := Lib.hid (HC2.out.on (bd (ba (Below.refl _ _) (.cells #[.int .i64 y.id, .int .i64 y.role, .int .i64 y.weight, .bool false, .bool y.quiet, .int .i64 y.time, .int .i64 (xt + y.time)] 114))))
        have HB6 := Lib.hid (bd (ba HB2.out (.cells #[.int .i64 y.id, .int .i64 y.role, .int .i64 y.weight, .bool false, .bool y.quiet, .int .i64 y.time, .int .i64 (xt + y.time)] 114)))
        have hs6 : w2.heap.size < (w2.alloc (.cells #[.int .i64 y.id, .int .i64 y.role, .int .i64 y.weight, .bool false, .bool y.quiet, .int .i64 y.time, .int .i64 (xt + y.time)] 114)).drew.heap.size := by simp
        clear z0 z1 a0 a1 a2 a3 a4 s0 s1 s2 s3 q0 q1 q2
        clear e0 e1 e2 e3 e4 e5 e6 qs
        generalize (w2.alloc (.cells #[.int .i64 y.id, .int .i64 y.role, .int .i64 y.weight, .bool false, .bool y.quiet, .int .i64 y.time, .int .i64 (xt + y.time)] 114)).drew = w6 at *
        obtain ⟨c0, c1, c2, c3, c4, c5, c6⟩ := HFB.out.cells
        obtain ⟨z0, z1⟩ := HC6.out.m2.cells
        obtain ⟨a0, a1, a2, a3, a4⟩ := HC6.out.a3.cells
        obtain ⟨s0, s1⟩ := HC6.out.m4.cells
        have s2 := HC6.out.m4.fz 0; have s3 := HC6.out.m4.fz 1
        have q0 := HC6.out.m2.lt
        have q1 : b1 < w6.heap.size := by have := HC6.out.ds; omega
        have q2 := HC6.out.m4.lt
        go_wp2_with fail
        refine (mwith (cap := cap) (f := { y with up := false, til := xt + y.time }) (HV1.out.below HB6.out) HSS.out.1 HSS.out.2).mono ?_
        rintro e w7 ⟨v7, rfl, hv7, ho7, hb7⟩
        have HC7 := Lib.hid (HC6.out.on hb7)
        have hv8 := hv7
        obtain ⟨a7, n7, cp7, rfl, h71, h72, h73, h74⟩ := hv8.at_
        have HF7 := Lib.hid (show FV w7 (.slice a7 n7 cp7) (putF S ({ y with up := false, til := xt + y.time })) ∧ ∀ k, Value.ownBlock (.slice a7 n7 cp7) = some k → b2 < k ∧ k < w7.heap.size from ⟨hv7, fun k hk => by have h1 := ho7 k hk; have h2 := HC6.out.ds; exact ⟨by omega, by omega⟩⟩)
        clear hv7 hv8 ho7 hb7 h71 h72 h73 h74
        clear z0 z1 a0 a1 a2 a3 a4 s0 s1 s2 s3 q0 q1 q2
        obtain ⟨z0, z1⟩ := HC7.out.m2.cells
        obtain ⟨a0, a1, a2, a3, a4⟩ := HC7.out.a3.cells
        obtain ⟨s0, s1⟩ := HC7.out.m4.cells
        have s2 := HC7.out.m4.fz 0; have s3 := HC7.out.m4.fz 1
        have q0 := HC7.out.m2.lt
        have q1 : b1 < w7.heap.size := by have := HC7.out.ds; omega
        have q2 := HC7.out.m4.lt
        go_wp2
        refine bodyPost_ret (res_m3 Try.results56 rfl (HC7.out.m4.set2 cap (.slice a7 n7 cp7))) rfl ?_
        have hst : Chg (fun k => k = b2) w7 ((w7.setCell ⟨b2, 0, none⟩ (.int .i64 cap)).setCell ⟨b2, 1, none⟩ (.slice a7 n7 cp7)) := ((Chg.refl (fun k => k = b2) w7).setCell (p := ⟨b2, 0, none⟩) (.inl rfl) _).setCell (p := ⟨b2, 1, none⟩) (.inl rfl) _
        have hd := HC7.out.ds
        have hbx := HC7.out.bel.trans (hst.below (by omega) fun k e => by rw [e]; omega)
        rw [HBQ.out] at hbx
        unfold RetS
        rw [E1.out]
        exact ⟨_, rfl, HF7.out.1.chg hst (fun k hk e => by have := (HF7.out.2 k hk).1; omega), fun k hk => .inr (by have h1 := HF7.out.2 k hk; have h2 := hst.size; rw [← HBQ.out]; exact ⟨by omega, by omega⟩), hbx⟩
set_option maxRecDepth 100000 in
set_option maxHeartbeats 4000000 in
theorem mdo_qui (h : FV w v S) (hS : SF S) (hok : ∀ f ∈ S, FOk f) (hln : S.length < 900000) (xk xi xr xw xt : Int) (hk0 : xk ≠ 0) (hk1 : xk ≠ 1) (hk2 : xk ≠ 2) {y : Fr} (hf : fndF S xi = some y) : Calls Try.prog 56 #[mval cap v, aval ⟨xk, xi, xr, xw, xt⟩] w (RetS w v cap (fstep cap S ⟨xk, xi, xr, xw, xt⟩)) := by
  obtain ⟨q, hq⟩ : ∃ q, decide (xk = 3) = q := ⟨_, rfl⟩
  have E1 := Lib.hid (show fstep cap S ⟨xk, xi, xr, xw, xt⟩ = (putF S { y with quiet := q }, false, 0) from by
    refine (if_neg hk0).trans ((if_neg hk1).trans ((if_neg hk2).trans ?_))
    have : fqui S xi q = (putF S { y with quiet := q }, 0) := by unfold fqui; rw [hf]
    show ((fqui S xi (decide (xk = 3))).1, false, (fqui S xi (decide (xk = 3))).2) = _
    rw [hq, this])
  have k0 : (xk == 0) = false := by simpa using hk0
  have k1 : (xk == 1) = false := by simpa using hk1
  have k2 : (xk == 2) = false := by simpa using hk2
  have k3 : (xk == 3) = q := by rw [← hq]; rfl
  clear hk0 hk1 hk2 hq
  have HV := Lib.hid h
  obtain ⟨a, n, cp, rfl, hn, hc, hm, hat⟩ := h.at_
  obtain ⟨i, hpl, hi⟩ := Srt.pl_at hf
  have HPL := Lib.hid hpl
  obtain ⟨bs, off, rfl, hbs, hcell⟩ := hat i y hi
  have HCX := Lib.hid hcell
  have hin : (i : Int) < (n : Int) := by have := (List.getElem?_eq_some_iff.1 hi).1; omega
  have hnb : n < 900000 := by omega
  have hig : decide ((0 : Int) ≤ (i : Int)) = true := by simp
  have HSS := Lib.hid (show SF S ∧ S.length < 900000 from ⟨hS, hln⟩)
  have HBS0 := Lib.hid hbs
  have HYO := Lib.hid (hok y (Srt.fnd_mem hf).1)
  clear hpl hi hat hcell h hn hok hS hbs hf
  have HI := SC.start w cap (.slice (some ⟨bs, off, none⟩) n cp) ⟨xk, xi, xr, xw, xt⟩
  obtain ⟨b, hbq⟩ : ∃ b, b = w.heap.size := ⟨_, rfl⟩
  obtain ⟨b1, hb1q⟩ : ∃ b1, b1 = b + 1 := ⟨_, rfl⟩
  obtain ⟨b2, hb2q⟩ : ∃ b2, b2 = b1 + 1 := ⟨_, rfl⟩
  have HBQ := Lib.hid hbq
  rw [← hbq, ← hb1q, ← hb2q] at HI
  replace HI := Lib.hid HI
  go_enter Try.func56, Try.ntmps56
  go_wp2_with fail
  rw [← hbq, ← hb1q, ← hb2q]
  clear hbq hb1q hb2q
  generalize ((w.alloc (.cells #[.int .i64 cap, .slice (some ⟨bs, off, none⟩) n cp] 106)).alloc (.cells #[.int .i64 xk, .int .i64 xi, .int .i64 xr, .int .i64 xw, .int .i64 xt] 110)).alloc (.cells #[.int .i64 0, .slice none 0 0] 106) = w1 at *
  have HV1 := Lib.hid (HV.out.below (by rw [← HBQ.out]; exact HI.out.bel))
  refine (mat HV1.out xi).mono ?_
  rintro e w2 ⟨rfl, hb2⟩
  rw [HPL.out]
  have HC2 := Lib.hid (HI.out.on hb2)
  have HB2 := Lib.hid hb2
  clear hb2
  obtain ⟨z0, z1⟩ := HC2.out.m2.cells
  obtain ⟨a0, a1, a2, a3, a4⟩ := HC2.out.a3.cells
  obtain ⟨s0, s1⟩ := HC2.out.m4.cells
  have s2 := HC2.out.m4.fz 0; have s3 := HC2.out.m4.fz 1
  have q0 := HC2.out.m2.lt
  have q1 : b1 < w2.heap.size := by have := HC2.out.ds; omega
  have q2 := HC2.out.m4.lt
  have HBS := Lib.hid (show bs < b by rw [HBQ.out]; exact HBS0.out)
  have e0 := (HC2.out.bel.cell (p := ⟨bs, off + i * 7 + 0, none⟩) HBS.out).trans (HCX.out 0 _ rfl)
  have e1 := (HC2.out.bel.cell (p := ⟨bs, off + i * 7 + 1, none⟩) HBS.out).trans (HCX.out 1 _ rfl)
  have e2 := (HC2.out.bel.cell (p := ⟨bs, off + i * 7 + 2, none⟩) HBS.out).trans (HCX.out 2 _ rfl)
  have e3 := (HC2.out.bel.cell (p := ⟨bs, off + i * 7 + 3, none⟩) HBS.out).trans (HCX.out 3 _ rfl)
  have e4 := (HC2.out.bel.cell (p := ⟨bs, off + i * 7 + 4, none⟩) HBS.out).trans (HCX.out 4 _ rfl)
  have e5 := (HC2.out.bel.cell (p := ⟨bs, off + i * 7 + 5, none⟩) HBS.out).trans (HCX.out 5 _ rfl)
  have e6 := (HC2.out.bel.cell (p := ⟨bs, off + i * 7 + 6, none⟩) HBS.out).trans (HCX.out 6 _ rfl)
  simp only [Nat.add_zero] at e0
  have qs : bs < w2.heap.size := by have := HC2.out.ds; have := HBS.out; omega
  have HB6 := Lib.hid (ba HB2.out (.cells #[.int .i64 y.id, .int .i64 y.role, .int .i64 y.weight, .bool y.up, .bool q, .int .i64 y.time, .int .i64 y.til] 114))
  have HC6 := Lib.hid (HC2.out.on (ba (Below.refl _ _) (.cells #[.int .i64 y.id, .int .i64 y.role, .int .i64 y.weight, .bool y.up, .bool q, .int .i64 y.time, .int .i64 y.til] 114)))
  go_wp2_with fail
  clear z0 z1 a0 a1 a2 a3 a4 s0 s1 s2 s3 q0 q1 q2
  clear e0 e1 e2 e3 e4 e5 e6 qs
  generalize w2.alloc (.cells #[.int .i64 y.id, .int .i64 y.role, .int .i64 y.weight, .bool y.up, .bool q, .int .i64 y.time, .int .i64 y.til] 114) = w6 at *
  obtain ⟨z0, z1⟩ := HC6.out.m2.cells
  obtain ⟨a0, a1, a2, a3, a4⟩ := HC6.out.a3.cells
  obtain ⟨s0, s1⟩ := HC6.out.m4.cells
  have s2 := HC6.out.m4.fz 0; have s3 := HC6.out.m4.fz 1
  have q0 := HC6.out.m2.lt
  have q1 : b1 < w6.heap.size := by have := HC6.out.ds; omega
  have q2 := HC6.out.m4.lt
  refine (mwith (cap := cap) (f := { y with quiet := q }) (HV1.out.below HB6.out) HSS.out.1 HSS.out.2).mono ?_
  rintro e w7 ⟨v7, rfl, hv7, ho7, hb7⟩
  have HC7 := Lib.hid (HC6.out.on hb7)
  have hv8 := hv7
  obtain ⟨a7, n7, cp7, rfl, h71, h72, h73, h74⟩ := hv8.at_
  have HF7 := Lib.hid (show FV w7 (.slice a7 n7 cp7) (putF S ({ y with quiet := q })) ∧ ∀ k, Value.ownBlock (.slice a7 n7 cp7) = some k → b2 < k ∧ k < w7.heap.size from ⟨hv7, fun k hk => by have h1 := ho7 k hk; have h2 := HC6.out.ds; exact ⟨by omega, by omega⟩⟩)
  clear hv7 hv8 ho7 hb7 h71 h72 h73 h74
  clear z0 z1 a0 a1 a2 a3 a4 s0 s1 s2 s3 q0 q1 q2
  obtain ⟨z0, z1⟩ := HC7.out.m2.cells
  obtain ⟨a0, a1, a2, a3, a4⟩ := HC7.out.a3.cells
  obtain ⟨s0, s1⟩ := HC7.out.m4.cells
  have s2 := HC7.out.m4.fz 0; have s3 := HC7.out.m4.fz 1
  have q0 := HC7.out.m2.lt
  have q1 : b1 < w7.heap.size := by have := HC7.out.ds; omega
  have q2 := HC7.out.m4.lt
  go_wp2
  refine bodyPost_ret (res_m3 Try.results56 rfl (HC7.out.m4.set2 cap (.slice a7 n7 cp7))) rfl ?_
  have hst : Chg (fun k => k = b2) w7 ((w7.setCell ⟨b2, 0, none⟩ (.int .i64 cap)).setCell ⟨b2, 1, none⟩ (.slice a7 n7 cp7)) := ((Chg.refl (fun k => k = b2) w7).setCell (p := ⟨b2, 0, none⟩) (.inl rfl) _).setCell (p := ⟨b2, 1, none⟩) (.inl rfl) _
  have hd := HC7.out.ds
  have hbx := HC7.out.bel.trans (hst.below (by omega) fun k e => by rw [e]; omega)
  rw [HBQ.out] at hbx
  unfold RetS
  rw [E1.out]
  exact ⟨_, rfl, HF7.out.1.chg hst (fun k hk e => by have := (HF7.out.2 k hk).1; omega), fun k hk => .inr (by have h1 := HF7.out.2 k hk; have h2 := hst.size; rw [← HBQ.out]; exact ⟨by omega, by omega⟩), hbx⟩
end
end Go.Proofs.Ytajcelmnblncaaa

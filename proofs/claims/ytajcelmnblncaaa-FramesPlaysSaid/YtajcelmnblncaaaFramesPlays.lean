/- For any cap, any acts and any role the statement FramesPlays returns true. Condition: none. -/
import Derived.Test.YtajcelmnblncaaaFrM8
namespace Go.Proofs.Ytajcelmnblncaaa
open Go.RowKit Go.Maps
attribute [local go_sem] ext_cell ext_frozen extC_cell extC_frozen Mix.calmUpon Mix.mUpon eqFr
/-- Where the plays stand. -/
structure PW (W wr : World) (tp M bm : Nat) (cap : Int) (S : List Fr) (vm : Value) (t : Nat) : Prop where
  ts : TS wr tp M cap S
  mb : MB wr bm cap vm
  fv : FV wr vm S
  off : ∀ b, vm.ownBlock = some b → b ≠ tp ∧ b ≠ M ∧ b ≠ bm ∧ b < wr.heap.size
  bel : Below W.heap.size W wr
  len : S.length ≤ t
  ds : W.heap.size ≤ tp ∧ W.heap.size ≤ M ∧ W.heap.size ≤ bm ∧ bm ≠ tp ∧ bm ≠ M
theorem PW.on {W wr wr' : World} {tp M bm : Nat} {cap : Int} {S : List Fr} {vm : Value} {t : Nat} (h : PW W wr tp M bm cap S vm t) (hb : Below wr.heap.size wr wr') : PW W wr' tp M bm cap S vm t :=
  ⟨h.ts.below hb, h.mb.below hb, h.fv.below hb, fun b e => by have h1 := h.off b e; have h2 := hb.size; exact ⟨h1.1, h1.2.1, h1.2.2.1, by omega⟩, bt h.bel hb, h.len, h.ds⟩
set_option maxRecDepth 100000 in
set_option maxHeartbeats 8000000 in
theorem plays23 (v0 : Value) (acts : List FAct) (cap role : Int) (W : World) (hA : FAV W v0 acts) (hok : ∀ x ∈ acts, J64 x.id) : Calls Try.prog 11 #[.int .i64 cap, v0, .int .i64 role] W fun e W' => e = .returned (.bool true) ∧ Below W.heap.size W W' := by
  obtain ⟨a, n, cp, rfl, hn, hc, hm, hat⟩ := hA.at_
  by_cases hbig : 100 < n
  · have hbI : (100 : Int) < (n : Int) := by omega
    clear hat hA hok hn
    go_enter Try.func11, Try.ntmps11
    go_wp2
    go_ret
    exact ⟨rfl, Below.refl _ _⟩
  have hbI : (n : Int) ≤ 100 := by omega
  have hnb : n ≤ 100 := by omega
  by_cases hcp : cap < 1
  · clear hat hA hok hn hbig
    go_enter Try.func11, Try.ntmps11
    go_wp2_with fail
    refine (fnew_none W hcp).mono ?_
    rintro e w1 ⟨rfl, hb1⟩
    go_wp2_with fail
    refine (works23 _).mono ?_
    rintro e w2 ⟨rfl, hb2⟩
    go_wp2
    go_ret
    exact ⟨rfl, bt hb1 hb2⟩
  have hcap1 : 1 ≤ cap := by omega
  have HAT := Lib.hid hat; have HOK := Lib.hid hok; have HN := Lib.hid hn
  clear hat hA hok hn hbig hm
  go_enter Try.func11, Try.ntmps11
  go_wp2_with fail
  refine (fnew_any W hcap1).mono ?_
  rintro e w1 ⟨rfl, h1, hb1⟩
  have HI := Lib.hid (show PW W (w1.alloc (.cells #[.int .i64 cap, .slice none 0 0] 106)) (W.heap.size + 1) W.heap.size w1.heap.size cap [] (.slice none 0 0) 0 from
    ⟨h1.below (ba (Below.refl _ _) _), MB.made w1 cap _, RS.nil _ _ _, fun b e => (by cases e), ba hb1 _, Nat.le_refl _, by have := h1.lt; omega⟩)
  have hs1 : w1.heap.size < (w1.alloc (.cells #[.int .i64 cap, .slice none 0 0] 106)).heap.size := by simp
  clear h1 hb1
  obtain ⟨tp, htp⟩ : ∃ tp, tp = W.heap.size + 1 := ⟨_, rfl⟩
  obtain ⟨M, hM⟩ : ∃ M, M = W.heap.size := ⟨_, rfl⟩
  rw [← htp, ← hM] at HI
  rw [← htp]
  clear htp hM
  go_wp2
  generalize w1.alloc (.cells #[.int .i64 cap, .slice none 0 0] 106) = w0 at *
  generalize w1.heap.size = bm at *
  go_loopw [9] (fun iv wr => ∃ (t : Nat) (S : List Fr) (vm : Value), t ≤ n ∧ iv = .int .i64 t ∧ Hid (PW W wr tp M bm cap S vm t)) (fun iv _ => n - (intOf iv).toNat)
  case atStart => exact ⟨0, [], _, Nat.zero_le _, rfl, HI⟩
  case round =>
    clear HI hs1
    obtain ⟨t, S, vm, ht, rfl, HQ⟩ := hrel
    obtain ⟨w2, rfl⟩ : ∃ w2, w2 = wr := ⟨_, rfl⟩
    obtain ⟨ao, mo, co, hvo, h51, h52, h53, h54⟩ := HQ.out.fv.at_
    clear h51 h52 h53 h54
    subst hvo
    obtain ⟨y0, y1⟩ := HQ.out.mb.cells
    have q3 := HQ.out.mb.lt
    by_cases hlt : t < n
    · have hts : (t : Int) < (n : Int) := by omega
      obtain ⟨x, hx⟩ := at_lt (l := acts) (i := t) (by rw [← HN.out]; exact hlt)
      obtain ⟨b, off, rfl, hb, hcell⟩ := HAT.out t x hx
      have hxo := HOK.out x (mem_at hx)
      obtain ⟨x0, x1, x2, x3, x4⟩ := x
      have HCX := Lib.hid hcell
      have HBB := Lib.hid hb
      have e0 := (HQ.out.bel.cell (p := ⟨b, off + t * 5 + 0, none⟩) hb).trans (hcell 0 _ rfl)
      have e1 := (HQ.out.bel.cell (p := ⟨b, off + t * 5 + 1, none⟩) hb).trans (hcell 1 _ rfl)
      have e2 := (HQ.out.bel.cell (p := ⟨b, off + t * 5 + 2, none⟩) hb).trans (hcell 2 _ rfl)
      have e3 := (HQ.out.bel.cell (p := ⟨b, off + t * 5 + 3, none⟩) hb).trans (hcell 3 _ rfl)
      have e4 := (HQ.out.bel.cell (p := ⟨b, off + t * 5 + 4, none⟩) hb).trans (hcell 4 _ rfl)
      simp only [Nat.add_zero] at e0
      have HXO := Lib.hid hxo
      have hlen := HQ.out.len
      have qs : b < w2.heap.size := Nat.lt_of_lt_of_le hb HQ.out.bel.size
      have nf : ¬ (fun _ : Nat => False) b := id
      clear hcell hx hxo hb
      have HDO := Lib.hid (fun w' (hb' : Below w2.heap.size w2 w') => mdo (cap := cap) (HQ.out.fv.below hb') (fun k hk => Nat.lt_of_lt_of_le (HQ.out.off k hk).2.2.2 hb'.size) HQ.out.ts.sf HQ.out.ts.ok (fun y hy => HQ.out.ts.weight hy) (by omega) ⟨x0, x1, x2, x3, x4⟩)
      have HFD := Lib.hid (fun w' (hb' : Below w2.heap.size w2 w') => fdo (HQ.out.ts.below hb') (by omega) ⟨x0, x1, x2, x3, x4⟩ HXO.out)
      have HSL := Lib.hid (fstep_len cap S ⟨x0, x1, x2, x3, x4⟩)
      unfold DoPost at HFD
      generalize fstep cap S ⟨x0, x1, x2, x3, x4⟩ = r at *
      obtain ⟨S', d, c⟩ := r
      go_wp2
      refine Mix.regionC (fun _ => False) (by kernel_rfl) ?_
      intro w3 hb3
      refine Mix.take_exC _ _ 0 rfl (by kernel_rfl) (by kernel_rfl) (by kernel_rfl) (by kernel_rfl) (fun K hK => ?_)
      go_simp
      first | (refine hK _ ?_; clear hK K) | (apply Exists.intro; refine ⟨fun x => ?_, hK _ ?_⟩; (fail); clear hK K)
      refine Mix.take_exC _ _ 1 rfl (by kernel_rfl) (by kernel_rfl) (by kernel_rfl) (by kernel_rfl) (fun K hK => ?_)
      go_simp
      first | (refine hK _ ?_; clear hK K) | (apply Exists.intro; refine ⟨fun x => ?_, hK _ ?_⟩; (fail); clear hK K)
      refine Mix.take_exC _ _ 2 rfl (by kernel_rfl) (by kernel_rfl) (by kernel_rfl) (by kernel_rfl) (fun K hK => ?_)
      go_simp
      first | (refine hK _ ?_; clear hK K) | (apply Exists.intro; refine ⟨fun x => ?_, hK _ ?_⟩; (fail); clear hK K)
      refine Mix.take_exC _ _ 3 rfl (by kernel_rfl) (by kernel_rfl) (by kernel_rfl) (by kernel_rfl) (fun K hK => ?_)
      go_simp
      first | (refine hK _ ?_; clear hK K) | (apply Exists.intro; refine ⟨fun x => ?_, hK _ ?_⟩; (fail); clear hK K)
      refine Mix.take_exC _ _ 4 rfl (by kernel_rfl) (by kernel_rfl) (by kernel_rfl) (by kernel_rfl) (fun K hK => ?_)
      go_simp
      first | (refine hK _ ?_; clear hK K) | (apply Exists.intro; refine ⟨fun x => ?_, hK _ ?_⟩; (fail); clear hK K)
      refine Mix.all (rs := [5, 10]) (by kernel_rfl) (by simp) (.of_below _ hb3) ?_
      intro i4 hi4 w4 hb4 hC4
      simp only [List.mem_cons, List.not_mem_nil, or_false] at hi4
      rcases hi4 with rfl | rfl
      · have HB4 := Lib.hid (bt hb3 hb4)
        clear hb3 hb4 hC4
        refine Mix.op rfl (by kernel_rfl) ?_
        go_simp
        refine (HDO.out w4 HB4.out).mono ?_
        rintro e w5 ⟨v5, rfl, hv5, ho5, hb5⟩
        refine ⟨_, rfl, ?_⟩
        obtain ⟨a5, n5, c5, rfl, h51, h52, h53, h54⟩ := hv5.at_
        obtain rfl : n5 = S'.length := h51
        clear h52 h53 h54
        have HV50 := Lib.hid hv5; have HO5 := Lib.hid ho5; have HB5 := Lib.hid (bt HB4.out hb5)
        have HW4 := Lib.hid HB4.out.size
        clear hv5 ho5 hb5
        refine Mix.take_exC _ _ 6 rfl (by kernel_rfl) (by kernel_rfl) (by kernel_rfl) (by kernel_rfl) (fun K hK => ?_)
        go_simp
        first | (refine hK _ ?_; clear hK K) | (apply Exists.intro; refine ⟨fun x => ?_, hK _ ?_⟩; (fail); clear hK K)
        refine Mix.take_exC _ _ 7 rfl (by kernel_rfl) (by kernel_rfl) (by kernel_rfl) (by kernel_rfl) (fun K hK => ?_)
        go_simp
        first | (refine hK _ ?_; clear hK K) | (apply Exists.intro; refine ⟨fun x => ?_, hK _ ?_⟩; (fail); clear hK K)
        refine Mix.take_exC _ _ 8 rfl (by kernel_rfl) (by kernel_rfl) (by kernel_rfl) (by kernel_rfl) (fun K hK => ?_)
        go_simp
        first | (refine hK _ ?_; clear hK K) | (apply Exists.intro; refine ⟨fun x => ?_, hK _ ?_⟩; (fail); clear hK K)
        refine Mix.take_exC _ _ 9 rfl (by kernel_rfl) (by kernel_rfl) (by kernel_rfl) (by kernel_rfl) (fun K hK => ?_)
        go_simp
        first | (refine hK _ ?_; clear hK K) | (apply Exists.intro; refine ⟨fun x => ?_, hK _ ?_⟩; (fail); clear hK K)
        refine Mix.all (rs := [10]) (by kernel_rfl) (by simp) (.of_below _ HB5.out) ?_
        intro i6 hi6 w6 hb6 hC6
        simp only [List.mem_cons, List.not_mem_nil, or_false] at hi6
        subst hi6
        have HB6 := Lib.hid (bt HB5.out hb6)
        have HB56 := Lib.hid hb6
        clear hC6 hb6
        refine Mix.op rfl (by kernel_rfl) ?_
        go_simp
        refine Mix.all (rs := [11]) (by kernel_rfl) (by simp) (.of_below _ (ba HB6.out _)) ?_
        intro i7 hi7 w7 hb7 hC7
        simp only [List.mem_cons, List.not_mem_nil, or_false] at hi7
        subst hi7
        have HB7 := Lib.hid (bt (ba HB6.out (.cells #[.int .i64 0, .slice none 0 0] 106)) hb7)
        have HM7 := Lib.hid ((MB.made w6 0 (.slice none 0 0)).below hb7)
        have HB67 := Lib.hid (show Below w6.heap.size w6 w7 from bt (ba (Below.refl _ _) _) hb7)
        have hs67 := hb7.size
        simp at hs67
        clear hC7 hb7
        obtain ⟨b10, hb10⟩ : ∃ b10, b10 = w6.heap.size := ⟨_, rfl⟩
        have HQ10 := Lib.hid hb10
        rw [← hb10] at HM7 ⊢
        clear hb10
        obtain ⟨m0, m1⟩ := HM7.out.cells
        have m2 := HM7.out.fz 0; have m3 := HM7.out.fz 1
        have m4 := HM7.out.lt
        refine Mix.op rfl (by kernel_rfl) ?_
        go_simp
        refine Mix.take_exC _ _ 12 rfl (by kernel_rfl) (by kernel_rfl) (by kernel_rfl) (by kernel_rfl) (fun K hK => ?_)
        go_simp
        first | (refine hK _ ?_; clear hK K) | (apply Exists.intro; refine ⟨fun x => ?_, hK _ ?_⟩; (fail); clear hK K)
        refine Mix.take_exC _ _ 13 rfl (by kernel_rfl) (by kernel_rfl) (by kernel_rfl) (by kernel_rfl) (fun K hK => ?_)
        go_simp
        first | (refine hK _ ?_; clear hK K) | (apply Exists.intro; refine ⟨fun x => ?_, hK _ ?_⟩; (fail); clear hK K)
        have hw24 := HB4.out.size
        have hw5 := HB5.out.size
        have hw6 := HB56.out.size
        have hq10 := HQ10.out
        have hset : Chg (fun k => k = b10) w7 ((w7.setCell ⟨b10, 0, none⟩ (.int .i64 cap)).setCell ⟨b10, 1, none⟩ (.slice a5 S'.length c5)) := ((Chg.refl (fun k => k = b10) w7).setCell (p := ⟨b10, 0, none⟩) (.inl rfl) _).setCell (p := ⟨b10, 1, none⟩) (.inl rfl) _
        have hbset : Below w2.heap.size w2 ((w7.setCell ⟨b10, 0, none⟩ (.int .i64 cap)).setCell ⟨b10, 1, none⟩ (.slice a5 S'.length c5)) := HB7.out.trans (hset.below (by omega) fun k e => by rw [e]; omega)
        have hv7 : FV ((w7.setCell ⟨b10, 0, none⟩ (.int .i64 cap)).setCell ⟨b10, 1, none⟩ (.slice a5 S'.length c5)) (.slice a5 S'.length c5) S' := ((HV50.out.below HB56.out).below (show Below w6.heap.size w6 w7 from HB67.out)).chg hset fun k hk e => by
          have e : k = b10 := e
          rcases HO5.out k hk with h | h
          · have h2 := (HQ.out.off k h).2.2.2; omega
          · omega
        have HMB0 := Lib.hid (HM7.out.set2 cap (.slice a5 S'.length c5))
        have HBS := Lib.hid hbset
        have HV7 := Lib.hid hv7
        have HSZ := Lib.hid (show w2.heap.size ≤ b10 ∧ w5.heap.size ≤ b10 ∧ w2.heap.size ≤ w4.heap.size from ⟨by omega, by omega, hw24⟩)
        have HST2 := Lib.hid hset.size
        have HM74 := Lib.hid m4
        clear hset hbset hv7 m0 m1 m2 m3 m4 hw24 hw5 hw6 hq10 hs67
        refine Mix.done (by kernel_rfl) (.of_below _ HBS.out) ?_
        intro w9 hb9
        have HB9 := Lib.hid (bt HBS.out hb9)
        have HMB := Lib.hid (show MB w9 b10 cap (.slice a5 S'.length c5) ∧ w2.heap.size ≤ b10 from ⟨HMB0.out.below hb9, HSZ.out.1⟩)
        have HV5 := Lib.hid (show FV w9 (.slice a5 S'.length c5) S' ∧ ∀ k, Value.ownBlock (.slice a5 S'.length c5) = some k → (Value.ownBlock (.slice ao mo co) = some k ∨ w2.heap.size ≤ k) ∧ k ≠ b10 ∧ k < w9.heap.size from ⟨HV7.out.below hb9, fun k hk => by
          have h1 := HSZ.out; have h2 := HST2.out; have h3 := HM74.out; have h4 := hb9.size
          rcases HO5.out k hk with h | h
          · have h5 := (HQ.out.off k h).2.2.2; exact ⟨.inl h, by omega, by omega⟩
          · exact ⟨.inr (by omega), by omega, by omega⟩⟩)
        clear hb9
        clear e0 e1 e2 e3 e4 qs y0 y1 q3
        have e0 := ((bt HQ.out.bel HB9.out).cell (p := ⟨b, off + t * 5 + 0, none⟩) HBB.out).trans (HCX.out 0 _ rfl)
        have e1 := ((bt HQ.out.bel HB9.out).cell (p := ⟨b, off + t * 5 + 1, none⟩) HBB.out).trans (HCX.out 1 _ rfl)
        have e2 := ((bt HQ.out.bel HB9.out).cell (p := ⟨b, off + t * 5 + 2, none⟩) HBB.out).trans (HCX.out 2 _ rfl)
        have e3 := ((bt HQ.out.bel HB9.out).cell (p := ⟨b, off + t * 5 + 3, none⟩) HBB.out).trans (HCX.out 3 _ rfl)
        have e4 := ((bt HQ.out.bel HB9.out).cell (p := ⟨b, off + t * 5 + 4, none⟩) HBB.out).trans (HCX.out 4 _ rfl)
        simp only [Nat.add_zero] at e0
        have qs : b < w9.heap.size := Nat.lt_of_lt_of_le HBB.out (bt HQ.out.bel HB9.out).size
        have HDS := Lib.hid HQ.out.ds
        have HTL := Lib.hid HQ.out.ts.lt
        obtain ⟨y0, y1⟩ := (HQ.out.mb.below HB9.out).cells
        have q3 := (HQ.out.mb.below HB9.out).lt
        obtain ⟨f0, f1⟩ := HMB.out.1.cells
        have g3 := HMB.out.1.lt
        go_wp2_with fail
        refine (HFD.out w9 HB9.out).mono ?_
        intro e w10 hP
        have HTS := Lib.hid hP.2.1
        have HCG := Lib.hid hP.2.2
        have nbm : ¬ FT tp M bm := fun e => by have := HDS.out; rcases e with e | e <;> omega
        have nb10 : ¬ FT tp M b10 := fun e => by have h1 := HTL.out; have h2 := HMB.out.2; rcases e with e | e <;> omega
        have HM10 := Lib.hid ((HQ.out.mb.below HB9.out).chg HCG.out nbm)
        have HX10 := Lib.hid (HMB.out.1.chg HCG.out nb10)
        have HF10 := Lib.hid (HV5.out.1.chg HCG.out fun k hk e => by
          have h1 := HTL.out
          rcases (HV5.out.2 k hk).1 with h | h
          · have h2 := HQ.out.off k h; rcases e with e | e <;> omega
          · rcases e with e | e <;> omega)
        obtain ⟨rfl, _, _⟩ := hP
        clear e0 e1 e2 e3 e4 qs y0 y1 q3 f0 f1 g3 nbm nb10
        obtain ⟨y0, y1⟩ := HM10.out.cells
        have y2 := HM10.out.fz 0; have y3 := HM10.out.fz 1
        have q3 := HM10.out.lt
        obtain ⟨f0, f1⟩ := HX10.out.cells
        have g3 := HX10.out.lt
        go_wp2
        have hst : Chg (fun k => k = bm) w10 ((w10.setCell ⟨bm, 0, none⟩ (.int .i64 cap)).setCell ⟨bm, 1, none⟩ (.slice a5 S'.length c5)) := ((Chg.refl (fun k => k = bm) w10).setCell (p := ⟨bm, 0, none⟩) (.inl rfl) _).setCell (p := ⟨bm, 1, none⟩) (.inl rfl) _
        have HI2 := Lib.hid (show PW W ((w10.setCell ⟨bm, 0, none⟩ (.int .i64 cap)).setCell ⟨bm, 1, none⟩ (.slice a5 S'.length c5)) tp M bm cap S' (.slice a5 S'.length c5) (t + 1) from by
          have hd := HDS.out
          have h1 := HTL.out
          have hsz := HB9.out.size
          have hsz2 := HCG.out.size
          have hq3 := HQ.out.mb.lt
          refine ⟨HTS.out.chg hst ⟨by show ¬ tp = bm; omega, by show ¬ M = bm; omega⟩, HM10.out.set2 _ _, HF10.out.chg hst fun k hk e => ?_, fun k hk => ?_, ?_, by have h9 : S'.length ≤ S.length + 1 := HSL.out; have := HQ.out.len; omega, hd⟩
          · rcases (HV5.out.2 k hk).1 with h | h
            · exact (HQ.out.off k h).2.2.1 e
            · have e : k = bm := e; omega
          · have h5 := hst.size
            rcases (HV5.out.2 k hk).1 with h | h
            · have h2 := HQ.out.off k h; exact ⟨h2.1, h2.2.1, h2.2.2.1, by omega⟩
            · have h2 := (HV5.out.2 k hk).2.2; exact ⟨by omega, by omega, by omega, by omega⟩
          · exact (bt HQ.out.bel HB9.out).trans ((HCG.out.below (by have := HQ.out.bel.size; omega) (fun k hk => by rcases hk with e | e <;> omega)).trans (hst.below (by have := HQ.out.bel.size; omega) (fun k e => by rw [e]; omega))))
        clear hst y0 y1 y2 y3 q3 f0 f1 g3
        generalize (w10.setCell ⟨bm, 0, none⟩ (.int .i64 cap)).setCell ⟨bm, 1, none⟩ (.slice a5 S'.length c5) = w11 at *
        have HB11 := Lib.hid HI2.out.bel
        obtain ⟨y0, y1⟩ := HI2.out.mb.cells
        have q3 := HI2.out.mb.lt
        refine Mix.regionC (fun _ => False) (by kernel_rfl) ?_
        intro w12 hb12
        refine Mix.take_exC _ _ 0 rfl (by kernel_rfl) (by kernel_rfl) (by kernel_rfl) (by kernel_rfl) (fun K hK => ?_)
        go_simp
        first | (refine hK _ ?_; clear hK K) | (apply Exists.intro; refine ⟨fun x => ?_, hK _ ?_⟩; (fail); clear hK K)
        refine Mix.take_exC _ _ 2 rfl (by kernel_rfl) (by kernel_rfl) (by kernel_rfl) (by kernel_rfl) (fun K hK => ?_)
        go_simp
        first | (refine hK _ ?_; clear hK K) | (apply Exists.intro; refine ⟨fun x => ?_, hK _ ?_⟩; (fail); clear hK K)
        refine Mix.take_exC _ _ 3 rfl (by kernel_rfl) (by kernel_rfl) (by kernel_rfl) (by kernel_rfl) (fun K hK => ?_)
        go_simp
        first | (refine hK _ ?_; clear hK K) | (apply Exists.intro; refine ⟨fun x => ?_, hK _ ?_⟩; (fail); clear hK K)
        refine Mix.take_exC _ _ 4 rfl (by kernel_rfl) (by kernel_rfl) (by kernel_rfl) (by kernel_rfl) (fun K hK => ?_)
        go_simp
        first | (refine hK _ ?_; clear hK K) | (apply Exists.intro; refine ⟨fun x => ?_, hK _ ?_⟩; (fail); clear hK K)
        refine Mix.all (rs := [1]) (by kernel_rfl) (by simp) (.of_below _ hb12) ?_
        intro i13 hi13 w13 hb13 hC13
        simp only [List.mem_cons, List.not_mem_nil, or_false] at hi13
        subst hi13
        have HB13 := Lib.hid (bt hb12 hb13)
        clear hC13 hb13 hb12
        refine Mix.op rfl (by kernel_rfl) ?_
        go_simp
        refine (flong (HI2.out.ts.below HB13.out)).mono ?_
        rintro e w14 ⟨rfl, hb14⟩
        refine ⟨_, rfl, ?_⟩
        have HB14 := Lib.hid (bt HB13.out hb14)
        clear hb14
        refine Mix.take_exC _ _ 5 rfl (by kernel_rfl) (by kernel_rfl) (by kernel_rfl) (by kernel_rfl) (fun K hK => ?_)
        go_simp
        first | (refine hK _ ?_; clear hK K) | (apply Exists.intro; refine ⟨fun x => ?_, hK _ ?_⟩; (fail); clear hK K)
        refine Mix.done (by kernel_rfl) (.of_below _ HB14.out) ?_
        intro w15 hb15
        have HI3 := Lib.hid (HI2.out.on (bt HB14.out hb15))
        clear y0 y1 q3 hb15
        have e1 := (HI3.out.bel.cell (p := ⟨b, off + t * 5 + 1, none⟩) HBB.out).trans (HCX.out 1 _ rfl)
        go_wp2_with fail
        refine (fget (k := x1) HI3.out.ts HXO.out).mono ?_
        rintro e w16 ⟨rfl, hb16⟩
        have HI4 := Lib.hid (HI3.out.on hb16)
        clear e1 hb16
        have hpt := HI4.out.fv.at_
        cases hf : fndF S' x1 with
        | none =>
          rw [show getA S' x1 = .tuple #[fval fzero, .bool false] by unfold getA; rw [hf]]
          have HPL := Lib.hid (pl_none' hf)
          clear hf hpt
          have HI5 := Lib.hid (HI4.out.on (ba (Below.refl _ _) (.cells #[.int .i64 0, .int .i64 0, .int .i64 0, .bool false, .bool false, .int .i64 0, .int .i64 0] 114)))
          have HFB := Lib.hid (FB.made w16 fzero)
          have hs16 : w16.heap.size < (w16.alloc (.cells #[.int .i64 0, .int .i64 0, .int .i64 0, .bool false, .bool false, .int .i64 0, .int .i64 0] 114)).heap.size := by simp
          go_wp2
          generalize w16.alloc (.cells #[.int .i64 0, .int .i64 0, .int .i64 0, .bool false, .bool false, .int .i64 0, .int .i64 0] 114) = w17 at *
          have e1 := (HI5.out.bel.cell (p := ⟨b, off + t * 5 + 1, none⟩) HBB.out).trans (HCX.out 1 _ rfl)
          obtain ⟨y0, y1⟩ := HI5.out.mb.cells
          have q3 := HI5.out.mb.lt
          have qs : b < w17.heap.size := Nat.lt_of_lt_of_le HBB.out HI5.out.bel.size
          refine Mix.regionC (fun _ => False) (by kernel_rfl) ?_
          intro w18 hb18
          refine Mix.take_exC _ _ 0 rfl (by kernel_rfl) (by kernel_rfl) (by kernel_rfl) (by kernel_rfl) (fun K hK => ?_)
          go_simp
          first | (refine hK _ ?_; clear hK K) | (apply Exists.intro; refine ⟨fun x => ?_, hK _ ?_⟩; (fail); clear hK K)
          refine Mix.take_exC _ _ 1 rfl (by kernel_rfl) (by kernel_rfl) (by kernel_rfl) (by kernel_rfl) (fun K hK => ?_)
          go_simp
          first | (refine hK _ ?_; clear hK K) | (apply Exists.intro; refine ⟨fun x => ?_, hK _ ?_⟩; (fail); clear hK K)
          refine Mix.take_exC _ _ 2 rfl (by kernel_rfl) (by kernel_rfl) (by kernel_rfl) (by kernel_rfl) (fun K hK => ?_)
          go_simp
          first | (refine hK _ ?_; clear hK K) | (apply Exists.intro; refine ⟨fun x => ?_, hK _ ?_⟩; (fail); clear hK K)
          refine Mix.take_exC _ _ 3 rfl (by kernel_rfl) (by kernel_rfl) (by kernel_rfl) (by kernel_rfl) (fun K hK => ?_)
          go_simp
          first | (refine hK _ ?_; clear hK K) | (apply Exists.intro; refine ⟨fun x => ?_, hK _ ?_⟩; (fail); clear hK K)
          refine Mix.take_exC _ _ 4 rfl (by kernel_rfl) (by kernel_rfl) (by kernel_rfl) (by kernel_rfl) (fun K hK => ?_)
          go_simp
          first | (refine hK _ ?_; clear hK K) | (apply Exists.intro; refine ⟨fun x => ?_, hK _ ?_⟩; (fail); clear hK K)
          refine Mix.take_exC _ _ 5 rfl (by kernel_rfl) (by kernel_rfl) (by kernel_rfl) (by kernel_rfl) (fun K hK => ?_)
          go_simp
          first | (refine hK _ ?_; clear hK K) | (apply Exists.intro; refine ⟨fun x => ?_, hK _ ?_⟩; (fail); clear hK K)
          refine Mix.all (rs := [6]) (by kernel_rfl) (by simp) (.of_below _ hb18) ?_
          intro i19 hi19 w19 hb19 hC19
          simp only [List.mem_cons, List.not_mem_nil, or_false] at hi19
          subst hi19
          have HB19 := Lib.hid (bt hb18 hb19)
          clear hC19 hb19 hb18
          refine Mix.op rfl (by kernel_rfl) ?_
          go_simp
          refine (mat (HI5.out.fv.below HB19.out) x1).mono ?_
          rintro e w22 ⟨rfl, hb22⟩
          have HB22 := Lib.hid (bt HB19.out hb22)
          clear hb22
          rw [HPL.out]
          refine ⟨_, rfl, ?_⟩
          refine Mix.take_exC _ _ 7 rfl (by kernel_rfl) (by kernel_rfl) (by kernel_rfl) (by kernel_rfl) (fun K hK => ?_)
          go_simp
          first | (refine hK _ ?_; clear hK K) | (apply Exists.intro; refine ⟨fun x => ?_, hK _ ?_⟩; (fail); clear hK K)
          refine Mix.done (by kernel_rfl) (.of_below _ HB22.out) ?_
          intro w20 hb20
          have HI6 := Lib.hid (HI5.out.on (bt HB22.out hb20))
          have HBW := Lib.hid (show Below w17.heap.size w17 w20 from bt HB22.out hb20)
          have HFB6 := Lib.hid (HFB.out.below (bt HB22.out hb20))
          have q8 : w16.heap.size < w20.heap.size := by have := HB22.out.size; have := hb20.size; omega
          clear e1 y0 y1 q3 qs hb20
          obtain ⟨y0, y1⟩ := HI6.out.mb.cells
          have q3 := HI6.out.mb.lt
          obtain ⟨c0, c1, c2, c3, c4, c5, c6⟩ := HFB6.out.cells
          go_wp2
          refine wp_region_pure (by kernel_rfl) (by kernel_rfl) ?_
          repeat (first | go_big_quiet_step ((fail)) | (quiet_step ((fail))))
          refine wpQuiet_nil ?_
          rintro w21 ⟨x21, hx21⟩
          have hb21 := ext_below _ x21
          rw [← hx21] at hb21
          clear hx21 x21
          have hs21 : w20.heap.size + 0 ≤ w21.heap.size := (by have h := hb21.size; first | omega | (simp at h; omega))
          obtain ⟨hc21, hf21, hl21⟩ := bcell hb21
          clear hl21
          have HI7 := Lib.hid (HI6.out.on hb21)
          clear hb21 hc21 hf21 c0 c1 c2 c3 c4 c5 c6 y0 y1 q3 q8
          go_wp2
          go_roundw
          case rel => exact ⟨t + 1, S', _, by omega, by go_num, HI7⟩
          case measure => simp [intOf]; omega
        | some y =>
          rw [show getA S' x1 = .tuple #[fval y, .bool true] by unfold getA; rw [hf]]
          obtain ⟨i, hpl, hi⟩ := Srt.pl_at hf
          have HPL := Lib.hid hpl
          obtain ⟨aa, nn, cc, hveq, hnn, hcc, hcm, hat5⟩ := hpt
          cases hveq
          obtain ⟨b5, off5, rfl, hb5, hcell5⟩ := hat5 i y hi
          have HC5 := Lib.hid hcell5
          have HBB5 := Lib.hid hb5
          have hin : (i : Int) < (S'.length : Int) := by have := (List.getElem?_eq_some_iff.1 hi).1; omega
          have hig : decide ((0 : Int) ≤ (i : Int)) = true := by simp
          clear hf hpl hi hnn hcc hcm hat5 hb5 hcell5
          have HI5 := Lib.hid (HI4.out.on (ba (Below.refl _ _) (.cells #[.int .i64 y.id, .int .i64 y.role, .int .i64 y.weight, .bool y.up, .bool y.quiet, .int .i64 y.time, .int .i64 y.til] 114)))
          have HFB := Lib.hid (FB.made w16 y)
          have HB17 := Lib.hid (show Below w16.heap.size w16 (w16.alloc (.cells #[.int .i64 y.id, .int .i64 y.role, .int .i64 y.weight, .bool y.up, .bool y.quiet, .int .i64 y.time, .int .i64 y.til] 114)) from ba (Below.refl _ _) _)
          have hs16 : w16.heap.size < (w16.alloc (.cells #[.int .i64 y.id, .int .i64 y.role, .int .i64 y.weight, .bool y.up, .bool y.quiet, .int .i64 y.time, .int .i64 y.til] 114)).heap.size := by simp
          go_wp2
          generalize w16.alloc (.cells #[.int .i64 y.id, .int .i64 y.role, .int .i64 y.weight, .bool y.up, .bool y.quiet, .int .i64 y.time, .int .i64 y.til] 114) = w17 at *
          have e1 := (HI5.out.bel.cell (p := ⟨b, off + t * 5 + 1, none⟩) HBB.out).trans (HCX.out 1 _ rfl)
          obtain ⟨y0, y1⟩ := HI5.out.mb.cells
          have q3 := HI5.out.mb.lt
          have qs : b < w17.heap.size := Nat.lt_of_lt_of_le HBB.out HI5.out.bel.size
          refine Mix.regionC (fun _ => False) (by kernel_rfl) ?_
          intro w18 hb18
          refine Mix.take_exC _ _ 0 rfl (by kernel_rfl) (by kernel_rfl) (by kernel_rfl) (by kernel_rfl) (fun K hK => ?_)
          go_simp
          first | (refine hK _ ?_; clear hK K) | (apply Exists.intro; refine ⟨fun x => ?_, hK _ ?_⟩; (fail); clear hK K)
          refine Mix.take_exC _ _ 1 rfl (by kernel_rfl) (by kernel_rfl) (by kernel_rfl) (by kernel_rfl) (fun K hK => ?_)
          go_simp
          first | (refine hK _ ?_; clear hK K) | (apply Exists.intro; refine ⟨fun x => ?_, hK _ ?_⟩; (fail); clear hK K)
          refine Mix.take_exC _ _ 2 rfl (by kernel_rfl) (by kernel_rfl) (by kernel_rfl) (by kernel_rfl) (fun K hK => ?_)
          go_simp
          first | (refine hK _ ?_; clear hK K) | (apply Exists.intro; refine ⟨fun x => ?_, hK _ ?_⟩; (fail); clear hK K)
          refine Mix.take_exC _ _ 3 rfl (by kernel_rfl) (by kernel_rfl) (by kernel_rfl) (by kernel_rfl) (fun K hK => ?_)
          go_simp
          first | (refine hK _ ?_; clear hK K) | (apply Exists.intro; refine ⟨fun x => ?_, hK _ ?_⟩; (fail); clear hK K)
          refine Mix.take_exC _ _ 4 rfl (by kernel_rfl) (by kernel_rfl) (by kernel_rfl) (by kernel_rfl) (fun K hK => ?_)
          go_simp
          first | (refine hK _ ?_; clear hK K) | (apply Exists.intro; refine ⟨fun x => ?_, hK _ ?_⟩; (fail); clear hK K)
          refine Mix.take_exC _ _ 5 rfl (by kernel_rfl) (by kernel_rfl) (by kernel_rfl) (by kernel_rfl) (fun K hK => ?_)
          go_simp
          first | (refine hK _ ?_; clear hK K) | (apply Exists.intro; refine ⟨fun x => ?_, hK _ ?_⟩; (fail); clear hK K)
          refine Mix.all (rs := [6]) (by kernel_rfl) (by simp) (.of_below _ hb18) ?_
          intro i19 hi19 w19 hb19 hC19
          simp only [List.mem_cons, List.not_mem_nil, or_false] at hi19
          subst hi19
          have HB19 := Lib.hid (bt hb18 hb19)
          clear hC19 hb19 hb18
          refine Mix.op rfl (by kernel_rfl) ?_
          go_simp
          refine (mat (HI5.out.fv.below HB19.out) x1).mono ?_
          rintro e w22 ⟨rfl, hb22⟩
          have HB22 := Lib.hid (bt HB19.out hb22)
          clear hb22
          rw [HPL.out]
          refine ⟨_, rfl, ?_⟩
          refine Mix.take_exC _ _ 7 rfl (by kernel_rfl) (by kernel_rfl) (by kernel_rfl) (by kernel_rfl) (fun K hK => ?_)
          go_simp
          first | (refine hK _ ?_; clear hK K) | (apply Exists.intro; refine ⟨fun x => ?_, hK _ ?_⟩; (fail); clear hK K)
          refine Mix.done (by kernel_rfl) (.of_below _ HB22.out) ?_
          intro w20 hb20
          have HI6 := Lib.hid (HI5.out.on (bt HB22.out hb20))
          have HBW := Lib.hid (show Below w17.heap.size w17 w20 from bt HB22.out hb20)
          have HFB6 := Lib.hid (HFB.out.below (bt HB22.out hb20))
          have q8 : w16.heap.size < w20.heap.size := by have := HB22.out.size; have := hb20.size; omega
          clear e1 y0 y1 q3 qs hb20
          obtain ⟨y0, y1⟩ := HI6.out.mb.cells
          have q3 := HI6.out.mb.lt
          obtain ⟨c0, c1, c2, c3, c4, c5, c6⟩ := HFB6.out.cells
          have HB20 := Lib.hid (bt HB17.out HBW.out)
          have g0 := (HB20.out.cell (p := ⟨b5, off5 + i * 7 + 0, none⟩) HBB5.out).trans (HC5.out 0 _ rfl)
          have g1 := (HB20.out.cell (p := ⟨b5, off5 + i * 7 + 1, none⟩) HBB5.out).trans (HC5.out 1 _ rfl)
          have g2 := (HB20.out.cell (p := ⟨b5, off5 + i * 7 + 2, none⟩) HBB5.out).trans (HC5.out 2 _ rfl)
          have g3 := (HB20.out.cell (p := ⟨b5, off5 + i * 7 + 3, none⟩) HBB5.out).trans (HC5.out 3 _ rfl)
          have g4 := (HB20.out.cell (p := ⟨b5, off5 + i * 7 + 4, none⟩) HBB5.out).trans (HC5.out 4 _ rfl)
          have g5 := (HB20.out.cell (p := ⟨b5, off5 + i * 7 + 5, none⟩) HBB5.out).trans (HC5.out 5 _ rfl)
          have g6 := (HB20.out.cell (p := ⟨b5, off5 + i * 7 + 6, none⟩) HBB5.out).trans (HC5.out 6 _ rfl)
          simp only [Nat.add_zero] at g0
          have g7 : b5 < w20.heap.size := Nat.lt_of_lt_of_le HBB5.out HB20.out.size
          go_wp2
          refine wp_region_pure (by kernel_rfl) (by kernel_rfl) ?_
          repeat (first | go_big_quiet_step ((fail)) | (quiet_step ((fail))))
          refine wpQuiet_nil ?_
          rintro w21 ⟨x21, hx21⟩
          have hb21 := ext_below _ x21
          rw [← hx21] at hb21
          clear hx21 x21
          have hs21 : w20.heap.size + 0 ≤ w21.heap.size := (by have h := hb21.size; first | omega | (simp at h; omega))
          obtain ⟨hc21, hf21, hl21⟩ := bcell hb21
          clear hl21
          have HI7 := Lib.hid (HI6.out.on hb21)
          clear hb21 hc21 hf21 c0 c1 c2 c3 c4 c5 c6 y0 y1 q3 q8 g0 g1 g2 g3 g4 g5 g6 g7
          go_wp2
          go_roundw
          case rel => exact ⟨t + 1, S', _, by omega, by go_num, HI7⟩
          case measure => simp [intOf]; omega
      · have HB4 := Lib.hid (bt hb3 hb4)
        clear hb3 hb4 hC4
        refine Mix.op rfl (by kernel_rfl) ?_
        go_simp
        have HM40 := Lib.hid (MB.made w4 0 (.slice none 0 0))
        have HB40 := Lib.hid (ba HB4.out (.cells #[.int .i64 0, .slice none 0 0] 106))
        obtain ⟨b10, hb10⟩ : ∃ b10, b10 = w4.heap.size := ⟨_, rfl⟩
        have HQ10 := Lib.hid hb10
        rw [← hb10] at HM40 ⊢
        clear hb10
        generalize w4.alloc (.cells #[.int .i64 0, .slice none 0 0] 106) = w40 at *
        refine Mix.all (rs := [5]) (by kernel_rfl) (by simp) (.of_below _ HB40.out) ?_
        intro i41 hi41 w41 hb41 hC41
        simp only [List.mem_cons, List.not_mem_nil, or_false] at hi41
        subst hi41
        have HM41 := Lib.hid (HM40.out.below hb41)
        have HB41 := Lib.hid (bt HB40.out hb41)
        clear hC41 hb41
        refine Mix.op rfl (by kernel_rfl) ?_
        go_simp
        refine (HDO.out w41 HB41.out).mono ?_
        rintro e w5 ⟨v5, rfl, hv5, ho5, hb5⟩
        refine ⟨_, rfl, ?_⟩
        obtain ⟨a5, n5, c5, rfl, h51, h52, h53, h54⟩ := hv5.at_
        obtain rfl : n5 = S'.length := h51
        clear h52 h53 h54
        have HV50 := Lib.hid hv5; have HO5 := Lib.hid ho5; have HB5 := Lib.hid (bt HB41.out hb5)
        have HM5 := Lib.hid (HM41.out.below hb5)
        have HLT := Lib.hid HM41.out.lt
        clear hv5 ho5 hb5
        refine Mix.take_exC _ _ 6 rfl (by kernel_rfl) (by kernel_rfl) (by kernel_rfl) (by kernel_rfl) (fun K hK => ?_)
        go_simp
        first | (refine hK _ ?_; clear hK K) | (apply Exists.intro; refine ⟨fun x => ?_, hK _ ?_⟩; (fail); clear hK K)
        refine Mix.take_exC _ _ 7 rfl (by kernel_rfl) (by kernel_rfl) (by kernel_rfl) (by kernel_rfl) (fun K hK => ?_)
        go_simp
        first | (refine hK _ ?_; clear hK K) | (apply Exists.intro; refine ⟨fun x => ?_, hK _ ?_⟩; (fail); clear hK K)
        refine Mix.take_exC _ _ 8 rfl (by kernel_rfl) (by kernel_rfl) (by kernel_rfl) (by kernel_rfl) (fun K hK => ?_)
        go_simp
        first | (refine hK _ ?_; clear hK K) | (apply Exists.intro; refine ⟨fun x => ?_, hK _ ?_⟩; (fail); clear hK K)
        refine Mix.take_exC _ _ 9 rfl (by kernel_rfl) (by kernel_rfl) (by kernel_rfl) (by kernel_rfl) (fun K hK => ?_)
        go_simp
        first | (refine hK _ ?_; clear hK K) | (apply Exists.intro; refine ⟨fun x => ?_, hK _ ?_⟩; (fail); clear hK K)
        refine Mix.all (rs := [11]) (by kernel_rfl) (by simp) (.of_below _ HB5.out) ?_
        intro i7 hi7 w7 hb7 hC7
        simp only [List.mem_cons, List.not_mem_nil, or_false] at hi7
        subst hi7
        have HB57 := Lib.hid hb7
        have HB7 := Lib.hid (bt HB5.out hb7)
        have HM7 := Lib.hid (HM5.out.below hb7)
        clear hC7 hb7
        obtain ⟨m0, m1⟩ := HM7.out.cells
        have m2 := HM7.out.fz 0; have m3 := HM7.out.fz 1
        have m4 := HM7.out.lt
        refine Mix.op rfl (by kernel_rfl) ?_
        go_simp
        refine Mix.take_exC _ _ 12 rfl (by kernel_rfl) (by kernel_rfl) (by kernel_rfl) (by kernel_rfl) (fun K hK => ?_)
        go_simp
        first | (refine hK _ ?_; clear hK K) | (apply Exists.intro; refine ⟨fun x => ?_, hK _ ?_⟩; (fail); clear hK K)
        refine Mix.take_exC _ _ 13 rfl (by kernel_rfl) (by kernel_rfl) (by kernel_rfl) (by kernel_rfl) (fun K hK => ?_)
        go_simp
        first | (refine hK _ ?_; clear hK K) | (apply Exists.intro; refine ⟨fun x => ?_, hK _ ?_⟩; (fail); clear hK K)
        have hw24 := HB4.out.size
        have hw5 := HB5.out.size
        have hq10 := HQ10.out
        have hset : Chg (fun k => k = b10) w7 ((w7.setCell ⟨b10, 0, none⟩ (.int .i64 cap)).setCell ⟨b10, 1, none⟩ (.slice a5 S'.length c5)) := ((Chg.refl (fun k => k = b10) w7).setCell (p := ⟨b10, 0, none⟩) (.inl rfl) _).setCell (p := ⟨b10, 1, none⟩) (.inl rfl) _
        have hbset : Below w2.heap.size w2 ((w7.setCell ⟨b10, 0, none⟩ (.int .i64 cap)).setCell ⟨b10, 1, none⟩ (.slice a5 S'.length c5)) := HB7.out.trans (hset.below (by have := HB7.out.size; omega) fun k e => by rw [e]; omega)
        have hv7 : FV ((w7.setCell ⟨b10, 0, none⟩ (.int .i64 cap)).setCell ⟨b10, 1, none⟩ (.slice a5 S'.length c5)) (.slice a5 S'.length c5) S' := (HV50.out.below HB57.out).chg hset fun k hk e => by
          have e : k = b10 := e
          have h9 := HLT.out
          rcases HO5.out k hk with h | h
          · have h2 := (HQ.out.off k h).2.2.2; omega
          · omega
        have HMB0 := Lib.hid (HM7.out.set2 cap (.slice a5 S'.length c5))
        have HBS := Lib.hid hbset
        have HV7 := Lib.hid hv7
        have HSZ := Lib.hid (show w2.heap.size ≤ b10 ∧ w2.heap.size ≤ w41.heap.size ∧ w5.heap.size ≤ w7.heap.size from ⟨by omega, HB41.out.size, HB57.out.size⟩)
        have HST2 := Lib.hid hset.size
        clear hset hbset hv7 m0 m1 m2 m3 m4 hw24 hw5 hq10
        refine Mix.done (by kernel_rfl) (.of_below _ HBS.out) ?_
        intro w9 hb9
        have HB9 := Lib.hid (bt HBS.out hb9)
        have HMB := Lib.hid (show MB w9 b10 cap (.slice a5 S'.length c5) ∧ w2.heap.size ≤ b10 from ⟨HMB0.out.below hb9, HSZ.out.1⟩)
        have HV5 := Lib.hid (show FV w9 (.slice a5 S'.length c5) S' ∧ ∀ k, Value.ownBlock (.slice a5 S'.length c5) = some k → (Value.ownBlock (.slice ao mo co) = some k ∨ w2.heap.size ≤ k) ∧ k ≠ b10 ∧ k < w9.heap.size from ⟨HV7.out.below hb9, fun k hk => by
          have h1 := HSZ.out; have h2 := HST2.out; have h4 := hb9.size; have h9 := HLT.out
          rcases HO5.out k hk with h | h
          · have h5 := (HQ.out.off k h).2.2.2; exact ⟨.inl h, by omega, by have := HB9.out.size; omega⟩
          · exact ⟨.inr (by omega), by omega, by omega⟩⟩)
        clear hb9
        clear e0 e1 e2 e3 e4 qs y0 y1 q3
        have e0 := ((bt HQ.out.bel HB9.out).cell (p := ⟨b, off + t * 5 + 0, none⟩) HBB.out).trans (HCX.out 0 _ rfl)
        have e1 := ((bt HQ.out.bel HB9.out).cell (p := ⟨b, off + t * 5 + 1, none⟩) HBB.out).trans (HCX.out 1 _ rfl)
        have e2 := ((bt HQ.out.bel HB9.out).cell (p := ⟨b, off + t * 5 + 2, none⟩) HBB.out).trans (HCX.out 2 _ rfl)
        have e3 := ((bt HQ.out.bel HB9.out).cell (p := ⟨b, off + t * 5 + 3, none⟩) HBB.out).trans (HCX.out 3 _ rfl)
        have e4 := ((bt HQ.out.bel HB9.out).cell (p := ⟨b, off + t * 5 + 4, none⟩) HBB.out).trans (HCX.out 4 _ rfl)
        simp only [Nat.add_zero] at e0
        have qs : b < w9.heap.size := Nat.lt_of_lt_of_le HBB.out (bt HQ.out.bel HB9.out).size
        have HDS := Lib.hid HQ.out.ds
        have HTL := Lib.hid HQ.out.ts.lt
        obtain ⟨y0, y1⟩ := (HQ.out.mb.below HB9.out).cells
        have q3 := (HQ.out.mb.below HB9.out).lt
        obtain ⟨f0, f1⟩ := HMB.out.1.cells
        have g3 := HMB.out.1.lt
        go_wp2_with fail
        refine (HFD.out w9 HB9.out).mono ?_
        intro e w10 hP
        have HTS := Lib.hid hP.2.1
        have HCG := Lib.hid hP.2.2
        have nbm : ¬ FT tp M bm := fun e => by have := HDS.out; rcases e with e | e <;> omega
        have nb10 : ¬ FT tp M b10 := fun e => by have h1 := HTL.out; have h2 := HMB.out.2; rcases e with e | e <;> omega
        have HM10 := Lib.hid ((HQ.out.mb.below HB9.out).chg HCG.out nbm)
        have HX10 := Lib.hid (HMB.out.1.chg HCG.out nb10)
        have HF10 := Lib.hid (HV5.out.1.chg HCG.out fun k hk e => by
          have h1 := HTL.out
          rcases (HV5.out.2 k hk).1 with h | h
          · have h2 := HQ.out.off k h; rcases e with e | e <;> omega
          · rcases e with e | e <;> omega)
        obtain ⟨rfl, _, _⟩ := hP
        clear e0 e1 e2 e3 e4 qs y0 y1 q3 f0 f1 g3 nbm nb10
        obtain ⟨y0, y1⟩ := HM10.out.cells
        have y2 := HM10.out.fz 0; have y3 := HM10.out.fz 1
        have q3 := HM10.out.lt
        obtain ⟨f0, f1⟩ := HX10.out.cells
        have g3 := HX10.out.lt
        go_wp2
        have hst : Chg (fun k => k = bm) w10 ((w10.setCell ⟨bm, 0, none⟩ (.int .i64 cap)).setCell ⟨bm, 1, none⟩ (.slice a5 S'.length c5)) := ((Chg.refl (fun k => k = bm) w10).setCell (p := ⟨bm, 0, none⟩) (.inl rfl) _).setCell (p := ⟨bm, 1, none⟩) (.inl rfl) _
        have HI2 := Lib.hid (show PW W ((w10.setCell ⟨bm, 0, none⟩ (.int .i64 cap)).setCell ⟨bm, 1, none⟩ (.slice a5 S'.length c5)) tp M bm cap S' (.slice a5 S'.length c5) (t + 1) from by
          have hd := HDS.out
          have h1 := HTL.out
          have hsz := HB9.out.size
          have hsz2 := HCG.out.size
          have hq3 := HQ.out.mb.lt
          refine ⟨HTS.out.chg hst ⟨by show ¬ tp = bm; omega, by show ¬ M = bm; omega⟩, HM10.out.set2 _ _, HF10.out.chg hst fun k hk e => ?_, fun k hk => ?_, ?_, by have h9 : S'.length ≤ S.length + 1 := HSL.out; have := HQ.out.len; omega, hd⟩
          · rcases (HV5.out.2 k hk).1 with h | h
            · exact (HQ.out.off k h).2.2.1 e
            · have e : k = bm := e; omega
          · have h5 := hst.size
            rcases (HV5.out.2 k hk).1 with h | h
            · have h2 := HQ.out.off k h; exact ⟨h2.1, h2.2.1, h2.2.2.1, by omega⟩
            · have h2 := (HV5.out.2 k hk).2.2; exact ⟨by omega, by omega, by omega, by omega⟩
          · exact (bt HQ.out.bel HB9.out).trans ((HCG.out.below (by have := HQ.out.bel.size; omega) (fun k hk => by rcases hk with e | e <;> omega)).trans (hst.below (by have := HQ.out.bel.size; omega) (fun k e => by rw [e]; omega))))
        clear hst y0 y1 y2 y3 q3 f0 f1 g3
        generalize (w10.setCell ⟨bm, 0, none⟩ (.int .i64 cap)).setCell ⟨bm, 1, none⟩ (.slice a5 S'.length c5) = w11 at *
        have HB11 := Lib.hid HI2.out.bel
        obtain ⟨y0, y1⟩ := HI2.out.mb.cells
        have q3 := HI2.out.mb.lt
        refine Mix.regionC (fun _ => False) (by kernel_rfl) ?_
        intro w12 hb12
        refine Mix.take_exC _ _ 0 rfl (by kernel_rfl) (by kernel_rfl) (by kernel_rfl) (by kernel_rfl) (fun K hK => ?_)
        go_simp
        first | (refine hK _ ?_; clear hK K) | (apply Exists.intro; refine ⟨fun x => ?_, hK _ ?_⟩; (fail); clear hK K)
        refine Mix.take_exC _ _ 2 rfl (by kernel_rfl) (by kernel_rfl) (by kernel_rfl) (by kernel_rfl) (fun K hK => ?_)
        go_simp
        first | (refine hK _ ?_; clear hK K) | (apply Exists.intro; refine ⟨fun x => ?_, hK _ ?_⟩; (fail); clear hK K)
        refine Mix.take_exC _ _ 3 rfl (by kernel_rfl) (by kernel_rfl) (by kernel_rfl) (by kernel_rfl) (fun K hK => ?_)
        go_simp
        first | (refine hK _ ?_; clear hK K) | (apply Exists.intro; refine ⟨fun x => ?_, hK _ ?_⟩; (fail); clear hK K)
        refine Mix.take_exC _ _ 4 rfl (by kernel_rfl) (by kernel_rfl) (by kernel_rfl) (by kernel_rfl) (fun K hK => ?_)
        go_simp
        first | (refine hK _ ?_; clear hK K) | (apply Exists.intro; refine ⟨fun x => ?_, hK _ ?_⟩; (fail); clear hK K)
        refine Mix.all (rs := [1]) (by kernel_rfl) (by simp) (.of_below _ hb12) ?_
        intro i13 hi13 w13 hb13 hC13
        simp only [List.mem_cons, List.not_mem_nil, or_false] at hi13
        subst hi13
        have HB13 := Lib.hid (bt hb12 hb13)
        clear hC13 hb13 hb12
        refine Mix.op rfl (by kernel_rfl) ?_
        go_simp
        refine (flong (HI2.out.ts.below HB13.out)).mono ?_
        rintro e w14 ⟨rfl, hb14⟩
        refine ⟨_, rfl, ?_⟩
        have HB14 := Lib.hid (bt HB13.out hb14)
        clear hb14
        refine Mix.take_exC _ _ 5 rfl (by kernel_rfl) (by kernel_rfl) (by kernel_rfl) (by kernel_rfl) (fun K hK => ?_)
        go_simp
        first | (refine hK _ ?_; clear hK K) | (apply Exists.intro; refine ⟨fun x => ?_, hK _ ?_⟩; (fail); clear hK K)
        refine Mix.done (by kernel_rfl) (.of_below _ HB14.out) ?_
        intro w15 hb15
        have HI3 := Lib.hid (HI2.out.on (bt HB14.out hb15))
        clear y0 y1 q3 hb15
        have e1 := (HI3.out.bel.cell (p := ⟨b, off + t * 5 + 1, none⟩) HBB.out).trans (HCX.out 1 _ rfl)
        go_wp2_with fail
        refine (fget (k := x1) HI3.out.ts HXO.out).mono ?_
        rintro e w16 ⟨rfl, hb16⟩
        have HI4 := Lib.hid (HI3.out.on hb16)
        clear e1 hb16
        have hpt := HI4.out.fv.at_
        cases hf : fndF S' x1 with
        | none =>
          rw [show getA S' x1 = .tuple #[fval fzero, .bool false] by unfold getA; rw [hf]]
          have HPL := Lib.hid (pl_none' hf)
          clear hf hpt
          have HI5 := Lib.hid (HI4.out.on (ba (Below.refl _ _) (.cells #[.int .i64 0, .int .i64 0, .int .i64 0, .bool false, .bool false, .int .i64 0, .int .i64 0] 114)))
          have HFB := Lib.hid (FB.made w16 fzero)
          have hs16 : w16.heap.size < (w16.alloc (.cells #[.int .i64 0, .int .i64 0, .int .i64 0, .bool false, .bool false, .int .i64 0, .int .i64 0] 114)).heap.size := by simp
          go_wp2
          generalize w16.alloc (.cells #[.int .i64 0, .int .i64 0, .int .i64 0, .bool false, .bool false, .int .i64 0, .int .i64 0] 114) = w17 at *
          have e1 := (HI5.out.bel.cell (p := ⟨b, off + t * 5 + 1, none⟩) HBB.out).trans (HCX.out 1 _ rfl)
          obtain ⟨y0, y1⟩ := HI5.out.mb.cells
          have q3 := HI5.out.mb.lt
          have qs : b < w17.heap.size := Nat.lt_of_lt_of_le HBB.out HI5.out.bel.size
          refine Mix.regionC (fun _ => False) (by kernel_rfl) ?_
          intro w18 hb18
          refine Mix.take_exC _ _ 0 rfl (by kernel_rfl) (by kernel_rfl) (by kernel_rfl) (by kernel_rfl) (fun K hK => ?_)
          go_simp
          first | (refine hK _ ?_; clear hK K) | (apply Exists.intro; refine ⟨fun x => ?_, hK _ ?_⟩; (fail); clear hK K)
          refine Mix.take_exC _ _ 1 rfl (by kernel_rfl) (by kernel_rfl) (by kernel_rfl) (by kernel_rfl) (fun K hK => ?_)
          go_simp
          first | (refine hK _ ?_; clear hK K) | (apply Exists.intro; refine ⟨fun x => ?_, hK _ ?_⟩; (fail); clear hK K)
          refine Mix.take_exC _ _ 2 rfl (by kernel_rfl) (by kernel_rfl) (by kernel_rfl) (by kernel_rfl) (fun K hK => ?_)
          go_simp
          first | (refine hK _ ?_; clear hK K) | (apply Exists.intro; refine ⟨fun x => ?_, hK _ ?_⟩; (fail); clear hK K)
          refine Mix.take_exC _ _ 3 rfl (by kernel_rfl) (by kernel_rfl) (by kernel_rfl) (by kernel_rfl) (fun K hK => ?_)
          go_simp
          first | (refine hK _ ?_; clear hK K) | (apply Exists.intro; refine ⟨fun x => ?_, hK _ ?_⟩; (fail); clear hK K)
          refine Mix.take_exC _ _ 4 rfl (by kernel_rfl) (by kernel_rfl) (by kernel_rfl) (by kernel_rfl) (fun K hK => ?_)
          go_simp
          first | (refine hK _ ?_; clear hK K) | (apply Exists.intro; refine ⟨fun x => ?_, hK _ ?_⟩; (fail); clear hK K)
          refine Mix.take_exC _ _ 5 rfl (by kernel_rfl) (by kernel_rfl) (by kernel_rfl) (by kernel_rfl) (fun K hK => ?_)
          go_simp
          first | (refine hK _ ?_; clear hK K) | (apply Exists.intro; refine ⟨fun x => ?_, hK _ ?_⟩; (fail); clear hK K)
          refine Mix.all (rs := [6]) (by kernel_rfl) (by simp) (.of_below _ hb18) ?_
          intro i19 hi19 w19 hb19 hC19
          simp only [List.mem_cons, List.not_mem_nil, or_false] at hi19
          subst hi19
          have HB19 := Lib.hid (bt hb18 hb19)
          clear hC19 hb19 hb18
          refine Mix.op rfl (by kernel_rfl) ?_
          go_simp
          refine (mat (HI5.out.fv.below HB19.out) x1).mono ?_
          rintro e w22 ⟨rfl, hb22⟩
          have HB22 := Lib.hid (bt HB19.out hb22)
          clear hb22
          rw [HPL.out]
          refine ⟨_, rfl, ?_⟩
          refine Mix.take_exC _ _ 7 rfl (by kernel_rfl) (by kernel_rfl) (by kernel_rfl) (by kernel_rfl) (fun K hK => ?_)
          go_simp
          first | (refine hK _ ?_; clear hK K) | (apply Exists.intro; refine ⟨fun x => ?_, hK _ ?_⟩; (fail); clear hK K)
          refine Mix.done (by kernel_rfl) (.of_below _ HB22.out) ?_
          intro w20 hb20
          have HI6 := Lib.hid (HI5.out.on (bt HB22.out hb20))
          have HBW := Lib.hid (show Below w17.heap.size w17 w20 from bt HB22.out hb20)
          have HFB6 := Lib.hid (HFB.out.below (bt HB22.out hb20))
          have q8 : w16.heap.size < w20.heap.size := by have := HB22.out.size; have := hb20.size; omega
          clear e1 y0 y1 q3 qs hb20
          obtain ⟨y0, y1⟩ := HI6.out.mb.cells
          have q3 := HI6.out.mb.lt
          obtain ⟨c0, c1, c2, c3, c4, c5, c6⟩ := HFB6.out.cells
          go_wp2
          refine wp_region_pure (by kernel_rfl) (by kernel_rfl) ?_
          repeat (first | go_big_quiet_step ((fail)) | (quiet_step ((fail))))
          refine wpQuiet_nil ?_
          rintro w21 ⟨x21, hx21⟩
          have hb21 := ext_below _ x21
          rw [← hx21] at hb21
          clear hx21 x21
          have hs21 : w20.heap.size + 0 ≤ w21.heap.size := (by have h := hb21.size; first | omega | (simp at h; omega))
          obtain ⟨hc21, hf21, hl21⟩ := bcell hb21
          clear hl21
          have HI7 := Lib.hid (HI6.out.on hb21)
          clear hb21 hc21 hf21 c0 c1 c2 c3 c4 c5 c6 y0 y1 q3 q8
          go_wp2
          go_roundw
          case rel => exact ⟨t + 1, S', _, by omega, by go_num, HI7⟩
          case measure => simp [intOf]; omega
        | some y =>
          rw [show getA S' x1 = .tuple #[fval y, .bool true] by unfold getA; rw [hf]]
          obtain ⟨i, hpl, hi⟩ := Srt.pl_at hf
          have HPL := Lib.hid hpl
          obtain ⟨aa, nn, cc, hveq, hnn, hcc, hcm, hat5⟩ := hpt
          cases hveq
          obtain ⟨b5, off5, rfl, hb5, hcell5⟩ := hat5 i y hi
          have HC5 := Lib.hid hcell5
          have HBB5 := Lib.hid hb5
          have hin : (i : Int) < (S'.length : Int) := by have := (List.getElem?_eq_some_iff.1 hi).1; omega
          have hig : decide ((0 : Int) ≤ (i : Int)) = true := by simp
          clear hf hpl hi hnn hcc hcm hat5 hb5 hcell5
          have HI5 := Lib.hid (HI4.out.on (ba (Below.refl _ _) (.cells #[.int .i64 y.id, .int .i64 y.role, .int .i64 y.weight, .bool y.up, .bool y.quiet, .int .i64 y.time, .int .i64 y.til] 114)))
          have HFB := Lib.hid (FB.made w16 y)
          have HB17 := Lib.hid (show Below w16.heap.size w16 (w16.alloc (.cells #[.int .i64 y.id, .int .i64 y.role, .int .i64 y.weight, .bool y.up, .bool y.quiet, .int .i64 y.time, .int .i64 y.til] 114)) from ba (Below.refl _ _) _)
          have hs16 : w16.heap.size < (w16.alloc (.cells #[.int .i64 y.id, .int .i64 y.role, .int .i64 y.weight, .bool y.up, .bool y.quiet, .int .i64 y.time, .int .i64 y.til] 114)).heap.size := by simp
          go_wp2
          generalize w16.alloc (.cells #[.int .i64 y.id, .int .i64 y.role, .int .i64 y.weight, .bool y.up, .bool y.quiet, .int .i64 y.time, .int .i64 y.til] 114) = w17 at *
          have e1 := (HI5.out.bel.cell (p := ⟨b, off + t * 5 + 1, none⟩) HBB.out).trans (HCX.out 1 _ rfl)
          obtain ⟨y0, y1⟩ := HI5.out.mb.cells
          have q3 := HI5.out.mb.lt
          have qs : b < w17.heap.size := Nat.lt_of_lt_of_le HBB.out HI5.out.bel.size
          refine Mix.regionC (fun _ => False) (by kernel_rfl) ?_
          intro w18 hb18
          refine Mix.take_exC _ _ 0 rfl (by kernel_rfl) (by kernel_rfl) (by kernel_rfl) (by kernel_rfl) (fun K hK => ?_)
          go_simp
          first | (refine hK _ ?_; clear hK K) | (apply Exists.intro; refine ⟨fun x => ?_, hK _ ?_⟩; (fail); clear hK K)
          refine Mix.take_exC _ _ 1 rfl (by kernel_rfl) (by kernel_rfl) (by kernel_rfl) (by kernel_rfl) (fun K hK => ?_)
          go_simp
          first | (refine hK _ ?_; clear hK K) | (apply Exists.intro; refine ⟨fun x => ?_, hK _ ?_⟩; (fail); clear hK K)
          refine Mix.take_exC _ _ 2 rfl (by kernel_rfl) (by kernel_rfl) (by kernel_rfl) (by kernel_rfl) (fun K hK => ?_)
          go_simp
          first | (refine hK _ ?_; clear hK K) | (apply Exists.intro; refine ⟨fun x => ?_, hK _ ?_⟩; (fail); clear hK K)
          refine Mix.take_exC _ _ 3 rfl (by kernel_rfl) (by kernel_rfl) (by kernel_rfl) (by kernel_rfl) (fun K hK => ?_)
          go_simp
          first | (refine hK _ ?_; clear hK K) | (apply Exists.intro; refine ⟨fun x => ?_, hK _ ?_⟩; (fail); clear hK K)
          refine Mix.take_exC _ _ 4 rfl (by kernel_rfl) (by kernel_rfl) (by kernel_rfl) (by kernel_rfl) (fun K hK => ?_)
          go_simp
          first | (refine hK _ ?_; clear hK K) | (apply Exists.intro; refine ⟨fun x => ?_, hK _ ?_⟩; (fail); clear hK K)
          refine Mix.take_exC _ _ 5 rfl (by kernel_rfl) (by kernel_rfl) (by kernel_rfl) (by kernel_rfl) (fun K hK => ?_)
          go_simp
          first | (refine hK _ ?_; clear hK K) | (apply Exists.intro; refine ⟨fun x => ?_, hK _ ?_⟩; (fail); clear hK K)
          refine Mix.all (rs := [6]) (by kernel_rfl) (by simp) (.of_below _ hb18) ?_
          intro i19 hi19 w19 hb19 hC19
          simp only [List.mem_cons, List.not_mem_nil, or_false] at hi19
          subst hi19
          have HB19 := Lib.hid (bt hb18 hb19)
          clear hC19 hb19 hb18
          refine Mix.op rfl (by kernel_rfl) ?_
          go_simp
          refine (mat (HI5.out.fv.below HB19.out) x1).mono ?_
          rintro e w22 ⟨rfl, hb22⟩
          have HB22 := Lib.hid (bt HB19.out hb22)
          clear hb22
          rw [HPL.out]
          refine ⟨_, rfl, ?_⟩
          refine Mix.take_exC _ _ 7 rfl (by kernel_rfl) (by kernel_rfl) (by kernel_rfl) (by kernel_rfl) (fun K hK => ?_)
          go_simp
          first | (refine hK _ ?_; clear hK K) | (apply Exists.intro; refine ⟨fun x => ?_, hK _ ?_⟩; (fail); clear hK K)
          refine Mix.done (by kernel_rfl) (.of_below _ HB22.out) ?_
          intro w20 hb20
          have HI6 := Lib.hid (HI5.out.on (bt HB22.out hb20))
          have HBW := Lib.hid (show Below w17.heap.size w17 w20 from bt HB22.out hb20)
          have HFB6 := Lib.hid (HFB.out.below (bt HB22.out hb20))
          have q8 : w16.heap.size < w20.heap.size := by have := HB22.out.size; have := hb20.size; omega
          clear e1 y0 y1 q3 qs hb20
          obtain ⟨y0, y1⟩ := HI6.out.mb.cells
          have q3 := HI6.out.mb.lt
          obtain ⟨c0, c1, c2, c3, c4, c5, c6⟩ := HFB6.out.cells
          have HB20 := Lib.hid (bt HB17.out HBW.out)
          have g0 := (HB20.out.cell (p := ⟨b5, off5 + i * 7 + 0, none⟩) HBB5.out).trans (HC5.out 0 _ rfl)
          have g1 := (HB20.out.cell (p := ⟨b5, off5 + i * 7 + 1, none⟩) HBB5.out).trans (HC5.out 1 _ rfl)
          have g2 := (HB20.out.cell (p := ⟨b5, off5 + i * 7 + 2, none⟩) HBB5.out).trans (HC5.out 2 _ rfl)
          have g3 := (HB20.out.cell (p := ⟨b5, off5 + i * 7 + 3, none⟩) HBB5.out).trans (HC5.out 3 _ rfl)
          have g4 := (HB20.out.cell (p := ⟨b5, off5 + i * 7 + 4, none⟩) HBB5.out).trans (HC5.out 4 _ rfl)
          have g5 := (HB20.out.cell (p := ⟨b5, off5 + i * 7 + 5, none⟩) HBB5.out).trans (HC5.out 5 _ rfl)
          have g6 := (HB20.out.cell (p := ⟨b5, off5 + i * 7 + 6, none⟩) HBB5.out).trans (HC5.out 6 _ rfl)
          simp only [Nat.add_zero] at g0
          have g7 : b5 < w20.heap.size := Nat.lt_of_lt_of_le HBB5.out HB20.out.size
          go_wp2
          refine wp_region_pure (by kernel_rfl) (by kernel_rfl) ?_
          repeat (first | go_big_quiet_step ((fail)) | (quiet_step ((fail))))
          refine wpQuiet_nil ?_
          rintro w21 ⟨x21, hx21⟩
          have hb21 := ext_below _ x21
          rw [← hx21] at hb21
          clear hx21 x21
          have hs21 : w20.heap.size + 0 ≤ w21.heap.size := (by have h := hb21.size; first | omega | (simp at h; omega))
          obtain ⟨hc21, hf21, hl21⟩ := bcell hb21
          clear hl21
          have HI7 := Lib.hid (HI6.out.on hb21)
          clear hb21 hc21 hf21 c0 c1 c2 c3 c4 c5 c6 y0 y1 q3 q8 g0 g1 g2 g3 g4 g5 g6 g7
          go_wp2
          go_roundw
          case rel => exact ⟨t + 1, S', _, by omega, by go_num, HI7⟩
          case measure => simp [intOf]; omega
    · obtain rfl : n = t := by omega
      have hln := HQ.out.len
      go_wp2_with fail
      refine (fweight HQ.out.ts role).mono ?_
      rintro e w3 ⟨rfl, hb3⟩
      have H3 := Lib.hid (HQ.out.on hb3)
      clear y0 y1 q3 hb3
      obtain ⟨q, hq⟩ : ∃ q, wtF S role = q := ⟨_, rfl⟩
      rw [show wtA S role = .tuple #[.int .i64 q, .bool (decide (0 < q))] by unfold wtA; rw [hq]]
      have HQW := Lib.hid hq
      clear hq
      obtain ⟨y0, y1⟩ := H3.out.mb.cells
      have q3 := H3.out.mb.lt
      obtain ⟨R, hR⟩ : ∃ R, rolesF S 32 = R := ⟨_, rfl⟩
      have HRL := Lib.hid (show R.length ≤ 32 by rw [← hR]; exact rolesF_len S 32)
      have HR1 := Lib.hid (show ∀ w', Below w3.heap.size w3 w' → Calls Try.prog 62 #[ptr tp] w' (RetN w' R) from fun w' hb' => by rw [← hR]; exact froles (H3.out.ts.below hb'))
      have HR2 := Lib.hid (show ∀ w', Below w3.heap.size w3 w' → Calls Try.prog 63 #[mval cap (.slice ao mo co)] w' (RetN w' R) from fun w' hb' => by rw [← hR]; exact mroles (H3.out.fv.below hb'))
      clear hR
      go_wp2
      refine Mix.regionC (fun _ => False) (by kernel_rfl) ?_
      intro w4 hb4
      refine Mix.take_exC _ _ 0 rfl (by kernel_rfl) (by kernel_rfl) (by kernel_rfl) (by kernel_rfl) (fun K hK => ?_)
      go_simp
      first | (refine hK _ ?_; clear hK K) | (apply Exists.intro; refine ⟨fun x => ?_, hK _ ?_⟩; (fail); clear hK K)
      refine Mix.take_exC _ _ 2 rfl (by kernel_rfl) (by kernel_rfl) (by kernel_rfl) (by kernel_rfl) (fun K hK => ?_)
      go_simp
      first | (refine hK _ ?_; clear hK K) | (apply Exists.intro; refine ⟨fun x => ?_, hK _ ?_⟩; (fail); clear hK K)
      refine Mix.all (rs := [1]) (by kernel_rfl) (by simp) (.of_below _ hb4) ?_
      intro i5 hi5 w5 hb5 hC5
      simp only [List.mem_cons, List.not_mem_nil, or_false] at hi5
      subst hi5
      have HB5 := Lib.hid (bt hb4 hb5)
      clear hC5 hb4 hb5
      refine Mix.op rfl (by kernel_rfl) ?_
      go_simp
      refine (HR1.out w5 HB5.out).mono ?_
      rintro e w6 ⟨v6, rfl, hr6, ho6, hb6⟩
      refine ⟨_, rfl, ?_⟩
      have HR6 := Lib.hid hr6
      have HB6 := Lib.hid (bt HB5.out hb6)
      clear hr6 ho6 hb6
      refine Mix.all (rs := [3]) (by kernel_rfl) (by simp) (.of_below _ HB6.out) ?_
      intro i7 hi7 w7 hb7 hC7
      simp only [List.mem_cons, List.not_mem_nil, or_false] at hi7
      subst hi7
      have HB7 := Lib.hid (bt HB6.out hb7)
      have HR7 := Lib.hid (HR6.out.below hb7)
      clear hC7 hb7
      refine Mix.op rfl (by kernel_rfl) ?_
      go_simp
      refine (HR2.out w7 HB7.out).mono ?_
      rintro e w8 ⟨v8, rfl, hr8, ho8, hb8⟩
      refine ⟨_, rfl, ?_⟩
      have HR8 := Lib.hid hr8
      have HR68 := Lib.hid (HR7.out.below hb8)
      have HB8 := Lib.hid (bt HB7.out hb8)
      clear hr8 ho8 hb8
      refine Mix.take_exC _ _ 4 rfl (by kernel_rfl) (by kernel_rfl) (by kernel_rfl) (by kernel_rfl) (fun K hK => ?_)
      go_simp
      first | (refine hK _ ?_; clear hK K) | (apply Exists.intro; refine ⟨fun x => ?_, hK _ ?_⟩; (fail); clear hK K)
      refine Mix.take_exC _ _ 5 rfl (by kernel_rfl) (by kernel_rfl) (by kernel_rfl) (by kernel_rfl) (fun K hK => ?_)
      go_simp
      first | (refine hK _ ?_; clear hK K) | (apply Exists.intro; refine ⟨fun x => ?_, hK _ ?_⟩; (fail); clear hK K)
      refine Mix.done (by kernel_rfl) (.of_below _ HB8.out) ?_
      intro w9 hb9
      have H9 := Lib.hid (H3.out.on (bt HB8.out hb9))
      have HU := Lib.hid (HR68.out.below hb9)
      have HV := Lib.hid (HR8.out.below hb9)
      clear hb9 y0 y1 q3
      obtain ⟨a6, n6, c6, rfl, hn6, _, _, hat6⟩ := HU.out.at_
      obtain ⟨a8, n8, c8, rfl, hn8, _, _, hat8⟩ := HV.out.at_
      obtain rfl : n8 = n6 := by omega
      have HA6 := Lib.hid hat6; have HA8 := Lib.hid hat8; have HN8 := Lib.hid hn8
      have hn32 : n8 ≤ 32 := by have := HRL.out; omega
      clear hat6 hat8 hn6 hn8
      obtain ⟨y0, y1⟩ := H9.out.mb.cells
      have q3 := H9.out.mb.lt
      go_wp2_with fail
      refine (mweight H9.out.fv role).mono ?_
      rintro e w10 ⟨rfl, hb10⟩
      rw [HQW.out]
      have H10 := Lib.hid (H9.out.on hb10)
      have HB910 := Lib.hid hb10
      clear hb10 y0 y1 q3
      go_wp2
      go_loopw [22] (fun iv wr => ∃ k : Nat, k ≤ n8 ∧ iv = .int .i64 k ∧ Hid (Below w9.heap.size w9 wr)) (fun iv _ => n8 - (intOf iv).toNat)
      case atStart => exact ⟨0, Nat.zero_le _, rfl, HB910⟩
      case round =>
        obtain ⟨k, hk, rfl, HB11⟩ := hrel
        obtain ⟨w11, rfl⟩ : ∃ w11, w11 = wr := ⟨_, rfl⟩
        by_cases hlk : k < n8
        · have hks : (k : Int) < (n8 : Int) := by omega
          obtain ⟨x, hx⟩ := at_lt (l := R) (i := k) (by rw [← HN8.out]; exact hlk)
          obtain ⟨b, off, rfl, hb, hcell⟩ := HA6.out k x hx
          obtain ⟨b', off', rfl, hb', hcell'⟩ := HA8.out k x hx
          have e0 := (HB11.out.cell (p := ⟨b, off + k * 1 + 0, none⟩) hb).trans (hcell 0 _ rfl)
          have f0 := (HB11.out.cell (p := ⟨b', off' + k * 1 + 0, none⟩) hb').trans (hcell' 0 _ rfl)
          simp only [Nat.mul_one, Nat.add_zero] at e0 f0
          have hbw : b < w11.heap.size := Nat.lt_of_lt_of_le hb HB11.out.size
          have hbw' : b' < w11.heap.size := Nat.lt_of_lt_of_le hb' HB11.out.size
          clear hcell hcell' hx hb hb'
          go_wp2
          refine wp_region_pure (by kernel_rfl) (by kernel_rfl) ?_
          repeat (first | go_big_quiet_step ((fail)) | (quiet_step ((fail))))
          refine wpQuiet_nil ?_
          rintro w12 ⟨x12, hx12⟩
          have hb12 := ext_below _ x12
          rw [← hx12] at hb12
          clear hx12 x12
          have hs12 : w11.heap.size + 0 ≤ w12.heap.size := (by have h := hb12.size; first | omega | (simp at h; omega))
          obtain ⟨hc12, hf12, hl12⟩ := bcell hb12
          clear hl12
          have HB12 := Lib.hid (bt HB11.out hb12)
          clear hb12 hc12 hf12 e0 f0
          go_wp2
          go_roundw
          case rel => exact ⟨k + 1, by omega, by go_num, HB12⟩
          case measure => simp [intOf]; omega
        · obtain rfl : n8 = k := by omega
          have H11 := Lib.hid (H9.out.on HB11.out)
          obtain ⟨y0, y1⟩ := H11.out.mb.cells
          have q3 := H11.out.mb.lt
          go_wp2
          refine Mix.regionC (fun _ => False) (by kernel_rfl) ?_
          intro w12 hb12
          refine Mix.take_exC _ _ 0 rfl (by kernel_rfl) (by kernel_rfl) (by kernel_rfl) (by kernel_rfl) (fun K hK => ?_)
          go_simp
          first | (refine hK _ ?_; clear hK K) | (apply Exists.intro; refine ⟨fun x => ?_, hK _ ?_⟩; (fail); clear hK K)
          refine Mix.take_exC _ _ 2 rfl (by kernel_rfl) (by kernel_rfl) (by kernel_rfl) (by kernel_rfl) (fun K hK => ?_)
          go_simp
          first | (refine hK _ ?_; clear hK K) | (apply Exists.intro; refine ⟨fun x => ?_, hK _ ?_⟩; (fail); clear hK K)
          refine Mix.take_exC _ _ 3 rfl (by kernel_rfl) (by kernel_rfl) (by kernel_rfl) (by kernel_rfl) (fun K hK => ?_)
          go_simp
          first | (refine hK _ ?_; clear hK K) | (apply Exists.intro; refine ⟨fun x => ?_, hK _ ?_⟩; (fail); clear hK K)
          refine Mix.all (rs := [1]) (by kernel_rfl) (by simp) (.of_below _ hb12) ?_
          intro i13 hi13 w13 hb13 hC13
          simp only [List.mem_cons, List.not_mem_nil, or_false] at hi13
          subst hi13
          have HB13 := Lib.hid (bt hb12 hb13)
          clear hC13 hb12 hb13
          refine Mix.op rfl (by kernel_rfl) ?_
          go_simp
          refine (fall (H11.out.ts.below HB13.out)).mono ?_
          rintro e w14 ⟨v14, rfl, hr14, _, hb14⟩
          refine ⟨_, rfl, ?_⟩
          have HR14 := Lib.hid hr14
          have HB14 := Lib.hid (bt HB13.out hb14)
          clear hr14 hb14
          refine Mix.all (rs := [4]) (by kernel_rfl) (by simp) (.of_below _ HB14.out) ?_
          intro i15 hi15 w15 hb15 hC15
          simp only [List.mem_cons, List.not_mem_nil, or_false] at hi15
          subst hi15
          have HB15 := Lib.hid (bt HB14.out hb15)
          have HR15 := Lib.hid (HR14.out.below hb15)
          clear hC15 hb15
          refine Mix.op rfl (by kernel_rfl) ?_
          go_simp
          refine (msame HR15.out (H11.out.fv.below HB15.out) (by omega)).mono ?_
          rintro e w16 ⟨rfl, hb16⟩
          refine ⟨_, rfl, ?_⟩
          have HB16 := Lib.hid (bt HB15.out hb16)
          clear hb16
          refine Mix.take_exC _ _ 5 rfl (by kernel_rfl) (by kernel_rfl) (by kernel_rfl) (by kernel_rfl) (fun K hK => ?_)
          go_simp
          first | (refine hK _ ?_; clear hK K) | (apply Exists.intro; refine ⟨fun x => ?_, hK _ ?_⟩; (fail); clear hK K)
          refine Mix.take_exC _ _ 6 rfl (by kernel_rfl) (by kernel_rfl) (by kernel_rfl) (by kernel_rfl) (fun K hK => ?_)
          go_simp
          first | (refine hK _ ?_; clear hK K) | (apply Exists.intro; refine ⟨fun x => ?_, hK _ ?_⟩; (fail); clear hK K)
          refine Mix.take_exC _ _ 7 rfl (by kernel_rfl) (by kernel_rfl) (by kernel_rfl) (by kernel_rfl) (fun K hK => ?_)
          go_simp
          first | (refine hK _ ?_; clear hK K) | (apply Exists.intro; refine ⟨fun x => ?_, hK _ ?_⟩; (fail); clear hK K)
          refine Mix.take_exC _ _ 9 rfl (by kernel_rfl) (by kernel_rfl) (by kernel_rfl) (by kernel_rfl) (fun K hK => ?_)
          go_simp
          first | (refine hK _ ?_; clear hK K) | (apply Exists.intro; refine ⟨fun x => ?_, hK _ ?_⟩; (fail); clear hK K)
          refine Mix.take_exC _ _ 10 rfl (by kernel_rfl) (by kernel_rfl) (by kernel_rfl) (by kernel_rfl) (fun K hK => ?_)
          go_simp
          first | (refine hK _ ?_; clear hK K) | (apply Exists.intro; refine ⟨fun x => ?_, hK _ ?_⟩; (fail); clear hK K)
          refine Mix.all (rs := [8]) (by kernel_rfl) (by simp) (.of_below _ HB16.out) ?_
          intro i17 hi17 w17 hb17 hC17
          simp only [List.mem_cons, List.not_mem_nil, or_false] at hi17
          subst hi17
          have HB17 := Lib.hid (bt HB16.out hb17)
          clear hC17 hb17
          refine Mix.op rfl (by kernel_rfl) ?_
          go_simp
          refine (fof (H11.out.ts.below HB17.out) role).mono ?_
          rintro e w18 ⟨v18, rfl, hr18, _, hb18⟩
          refine ⟨_, rfl, ?_⟩
          have HR18 := Lib.hid hr18
          have HB18 := Lib.hid (bt HB17.out hb18)
          clear hr18 hb18
          refine Mix.all (rs := [11]) (by kernel_rfl) (by simp) (.of_below _ HB18.out) ?_
          intro i19 hi19 w19 hb19 hC19
          simp only [List.mem_cons, List.not_mem_nil, or_false] at hi19
          subst hi19
          have HB19 := Lib.hid (bt HB18.out hb19)
          have HR19 := Lib.hid (HR18.out.below hb19)
          clear hC19 hb19
          refine Mix.op rfl (by kernel_rfl) ?_
          go_simp
          refine (mof (cap := cap) (H11.out.fv.below HB19.out) role (by omega)).mono ?_
          rintro e w20 ⟨v20, rfl, hr20, _, hb20⟩
          refine ⟨_, rfl, ?_⟩
          have HR20 := Lib.hid hr20
          have HR21 := Lib.hid (HR19.out.below hb20)
          have HB20 := Lib.hid (bt HB19.out hb20)
          clear hr20 hb20
          refine Mix.all (rs := [12]) (by kernel_rfl) (by simp) (.of_below _ HB20.out) ?_
          intro i22 hi22 w22 hb22 hC22
          simp only [List.mem_cons, List.not_mem_nil, or_false] at hi22
          subst hi22
          have HB22 := Lib.hid (bt HB20.out hb22)
          have HR22 := Lib.hid (HR20.out.below hb22)
          have HR23 := Lib.hid (HR21.out.below hb22)
          clear hC22 hb22
          refine Mix.op rfl (by kernel_rfl) ?_
          go_simp
          refine (msame_ids HR23.out HR22.out (by rw [ofF_len]; have := cnt_le S role; omega)).mono ?_
          rintro e w24 ⟨rfl, hb24⟩
          refine ⟨_, rfl, ?_⟩
          have HB24 := Lib.hid (bt HB22.out hb24)
          clear hb24
          refine Mix.take_exC _ _ 13 rfl (by kernel_rfl) (by kernel_rfl) (by kernel_rfl) (by kernel_rfl) (fun K hK => ?_)
          go_simp
          first | (refine hK _ ?_; clear hK K) | (apply Exists.intro; refine ⟨fun x => ?_, hK _ ?_⟩; (fail); clear hK K)
          refine Mix.take_exC _ _ 14 rfl (by kernel_rfl) (by kernel_rfl) (by kernel_rfl) (by kernel_rfl) (fun K hK => ?_)
          go_simp
          first | (refine hK _ ?_; clear hK K) | (apply Exists.intro; refine ⟨fun x => ?_, hK _ ?_⟩; (fail); clear hK K)
          refine Mix.all (rs := [15]) (by kernel_rfl) (by simp) (.of_below _ HB24.out) ?_
          intro i25 hi25 w25 hb25 hC25
          simp only [List.mem_cons, List.not_mem_nil, or_false] at hi25
          subst hi25
          have HB25 := Lib.hid (bt HB24.out hb25)
          clear hC25 hb25
          refine Mix.op rfl (by kernel_rfl) ?_
          go_simp
          refine (works23 w25).mono ?_
          rintro e w26 ⟨rfl, hb26⟩
          refine ⟨_, rfl, ?_⟩
          have HB26 := Lib.hid (bt HB25.out hb26)
          clear hb26
          refine Mix.take_exC _ _ 16 rfl (by kernel_rfl) (by kernel_rfl) (by kernel_rfl) (by kernel_rfl) (fun K hK => ?_)
          go_simp
          first | (refine hK _ ?_; clear hK K) | (apply Exists.intro; refine ⟨fun x => ?_, hK _ ?_⟩; (fail); clear hK K)
          refine Mix.take_exC _ _ 17 rfl (by kernel_rfl) (by kernel_rfl) (by kernel_rfl) (by kernel_rfl) (fun K hK => ?_)
          go_simp
          first | (refine hK _ ?_; clear hK K) | (apply Exists.intro; refine ⟨fun x => ?_, hK _ ?_⟩; (fail); clear hK K)
          refine Mix.done (by kernel_rfl) (.of_below _ HB26.out) ?_
          intro w27 hb27
          have HB27 := Lib.hid (bt HB26.out hb27)
          clear hb27 y0 y1 q3
          go_wp2
          go_ret
          exact ⟨rfl, bt H11.out.bel HB27.out⟩
namespace FramesPlays
open Go.ChangeShapes Go.WideShapes Go.ChangeAt Go.RowKit Go.Joins
theorem own : ownKnob Try.prog.godebug = none := by kernel_rfl
theorem laidOut : laidOutB Try.prog = true := by kernel_rfl
set_option maxRecDepth 100000 in
theorem lifted (os : Os) (started : os.Started) (H : Type) (enc : TypeId × Value → H) :
    ReturnsInHanded {} Try.checked os 11 .any (Rows.framesPlaysSpec.pre6 enc Try.prog Try.f11 Rows.framesPlaysRow.domain false) (Rows.framesPlaysSpec.post enc Try.prog Try.f11 false true false false) := by
  refine returnsInHanded_of_change (C := Try.checked) own started (by kernel_rfl) Try.func11
    (ChangeSpec.witness6 (enc := enc) (C := Try.checked) false ⟨#[], #[.int .i64 0, .slice none 0 0, .int .i64 0], []⟩ 8 (by kernel_rfl) (by kernel_rfl) (by kernel_rfl) (by kernel_rfl)) ?_
  intro W base args ds gs before hval0 hW hcnd _
  have hval : ∀ (j : Nat) t v, Try.f11.params[j]? = some t → args[j]? = some v → Value.okWide Try.prog W .any base t v := hval0
  have hW' := hW
  obtain ⟨p, q, hA0, hV, rfl, hfz, hnd⟩ := hW
  have hA : DataW.TrodAll enc Try.prog W 0 (fun _ => true) true Try.f11.params.toList args.toList ds p := hA0
  rw [Try.params11] at hA hval
  obtain ⟨v0, vs0, d0, ds0, p0, q0, hargs, rfl, rfl, h0, r0⟩ := trodAll_cons hA
  obtain ⟨v1, vs1, d1, ds1, p1, q1, rfl, rfl, rfl, h1, r1⟩ := trodAll_cons r0
  obtain ⟨v2, vs2, d2, ds2, p2, q2, rfl, rfl, rfl, h2, r2⟩ := trodAll_cons r1
  obtain ⟨rfl, rfl, rfl⟩ := trodAll_nil r2
  obtain rfl : args = #[v0, v1, v2] := by cases args; simp_all
  obtain ⟨rfl, rfl⟩ := trodVars_none hV
  have k0 := h0
  have lt0 : ∀ x ∈ p0, x.block < W.heap.size := by obtain ⟨m, hm⟩ := k0; exact DataW.trod_lt m _ _ _ hm
  have k1 := h1
  have lt1 : ∀ x ∈ p1, x.block < W.heap.size := by obtain ⟨m, hm⟩ := k1; exact DataW.trod_lt m _ _ _ hm
  have k2 := h2
  have lt2 : ∀ x ∈ p2, x.block < W.heap.size := by obtain ⟨m, hm⟩ := k2; exact DataW.trod_lt m _ _ _ hm
  obtain ⟨cap, vEq0, _, _, wf_cap⟩ := open_int Try.underlying3 (hval 0 3 v0 rfl rfl) k0
  subst vEq0
  obtain ⟨la, oA, iA, _⟩ := open_facts (hval 1 101 v1 rfl rfl) k1
  obtain ⟨role, vEq2, _, _, wf_role⟩ := open_int Try.underlying3 (hval 2 3 v2 rfl rfl) k2
  subst vEq2
  clear hA0 hval0
  refine (plays23 v1 la cap role W oA iA).mono fun e W' ⟨he, bel⟩ => ?_
  subst he
  exact ⟨_, rfl, _, _, _, [], _, [], hW', trodAll_mk1 (shut_bool Try.underlying4 _), (trodAll_cons_mk (Below.trod laidOut (by kernel_rfl) (of_decide_eq_true (by kernel_rfl)) k0 bel lt0) (trodAll_cons_mk (Below.trod laidOut (by kernel_rfl) (of_decide_eq_true (by kernel_rfl)) k1 bel lt1) (trodAll_cons_mk (Below.trod laidOut (by kernel_rfl) (of_decide_eq_true (by kernel_rfl)) k2 bel lt2) trodAll_mk0))), rfl, bel.frame _, fun h => by cases h⟩
theorem over : Rows.framesPlaysRow.holds Try.pinned (OpenSpec.ofChange Rows.framesPlaysSpec) :=
  OpenClaim.holds_of_wide 11 Try.f11 rfl rfl rfl rfl rfl rfl rfl ⟨rfl, rfl, rfl, rfl, rfl⟩ rfl rfl rfl rfl rfl (by kernel_rfl) Try.func11 (by kernel_rfl)
    (of_decide_eq_true (by kernel_rfl)) (by unfold Func.isWrapper; first | (rw [if_pos (by decide +kernel)]; kernel_rfl) | (rw [if_neg (by decide +kernel)]; exact ⟨rfl, rfl⟩))
    (fun os started H enc _ => lifted os started H enc)
theorem proved : Rows.FramesPlaysSaid := over
end FramesPlays
end Go.Proofs.Ytajcelmnblncaaa

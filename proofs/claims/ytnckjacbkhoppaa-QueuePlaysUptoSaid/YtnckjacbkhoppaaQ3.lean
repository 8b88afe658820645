/- queue: Put. -/
import Derived.Test.YtnckjacbkhoppaaQ2
namespace Go.Proofs.Ytnckjacbkhoppaa
open Go.RowKit Go.Maps
open Go.ChangeMaps (setBlock)
attribute [local go_sem] ext_cell ext_frozen extC_cell extC_frozen Mix.calmUpon Mix.mUpon
section
variable {w : World} {B qp M : Nat} {most : Int} {N : Nat} {T : List Pq} {F V : Nat → Prop}
theorem QT.up {N' : Nat} (h : QT w B qp M most N T F V) (hN : N ≤ N') : QT w B qp M most N' T F V := by
  obtain ⟨S, L, q, e, a, b, c, d⟩ := h
  exact ⟨S, L, ⟨q.obj, q.map, q.look, q.len, q.srt, q.own, q.vec, q.hM, q.qs, q.vs, fun r hr => by have := q.num r hr; exact ⟨this.1, this.2.1, by omega⟩⟩, e, a, b, c, d⟩
theorem QX.up {A : Nat → Prop} {N' : Nat} {w' : World} (h : QX A w B qp M most N T F V w') (hN : N ≤ N') : QX A w B qp M most N' T F V w' := by
  obtain ⟨F', V', h, r⟩ := h; exact ⟨F', V', h.up hN, r⟩
theorem QX.on {A : Nat → Prop} {w1 w' : World} (h : QX A w B qp M most N T F V w1) (hb : Below w1.heap.size w1 w') : QX A w B qp M most N T F V w' := by
  obtain ⟨F', V', h, a, b, c, d⟩ := h; exact ⟨F', V', h.below hb, a, b, c.then_below hb, d⟩
/-- An act behind others. -/
theorem QX.then {A : Nat → Prop} {w1 w2 : World} {N2 : Nat} {T2 : List Pq} {F1 V1 : Nat → Prop} (hb : Chg F w w1) (hF : ∀ k, F1 k → F k ∨ w.heap.size ≤ k) (hV : ∀ k, V1 k → V k ∨ w.heap.size ≤ k) (hVV : ∀ k, V k → V1 k) (h : QX A w1 B qp M most N2 T2 F1 V1 w2) : QX A w B qp M most N2 T2 F V w2 := by
  obtain ⟨F2, V2, h2, a, b, c, d, e⟩ := h
  have hs := hb.size
  refine ⟨F2, V2, h2, fun k hk => ?_, fun k hk => ?_, hb.trans c hF, fun k hk => d k (hVV k hk), e⟩
  · rcases a k hk with h' | h'
    · exact hF k h'
    · exact .inr (by omega)
  · rcases b k hk with h' | h'
    · exact hV k h'
    · exact .inr (by omega)
set_option maxRecDepth 100000 in
set_option maxHeartbeats 4000000 in
theorem qput (h : QT w B qp M most N T F V) (hBw : B ≤ w.heap.size) {va : Value} {l : List Ev} (hA : EL w va l) (hD : ED F va l) (ho : ∀ b, va.ownBlock = some b → b < w.heap.size) (hI : ∀ x ∈ l, I64 x.frame) (hbig : ∀ x ∈ l, x.ps.length < 1000000) (hN : N + l.length < 1000000) (hM1 : 1 ≤ most) :
    Calls Try.prog 73 #[ptr qp, va] w fun e w' => e = .returned (.int .i64 (cntM most T (l.map Ev.pl) : Nat)) ∧ QA w B qp M most (N + l.length) (putM most T (l.map Ev.pl)) F V w' := by
  obtain ⟨a, n, cap, rfl, hn, hc, hm, hat⟩ := hA.rs.at_
  have HA := Lib.hid hA; have HD := Lib.hid hD; have HO := Lib.hid ho; have HI := Lib.hid hI; have HBG := Lib.hid hbig; have HNN := Lib.hid hN; have HN := Lib.hid hn; have HBW := Lib.hid hBw; have HM1 := Lib.hid hM1
  have H0 := Lib.hid (show QA w B qp M most (N + 0) (putM most T ((l.take 0).map Ev.pl)) F V w from .refl h (Below.refl _ _))
  have hnm : n < 1000000 := by omega
  clear hA hD ho hI hbig hN hat hn hm h hBw hM1
  go_enter Try.func73, Try.ntmps73
  go_wp2
  go_loopw [5, 12] (fun cv iv wr => ∃ (t : Nat) (c : Nat), t ≤ n ∧ cv = .int .i64 c ∧ iv = .int .i64 t ∧ c ≤ t ∧ Hid (c = cntM most T ((l.take t).map Ev.pl)) ∧ Hid (QA w B qp M most (N + t) (putM most T ((l.take t).map Ev.pl)) F V wr)) (fun cv iv _ => n - (intOf iv).toNat)
  case atStart => exact ⟨0, 0, Nat.zero_le _, rfl, rfl, Nat.le_refl _, Lib.hid rfl, H0⟩
  case round =>
    clear H0
    obtain ⟨t, c, ht, rfl, rfl, hct, HC, HQ⟩ := hrel
    obtain ⟨w0, rfl⟩ : ∃ w0, w0 = wr := ⟨_, rfl⟩
    by_cases hlt : t < n
    · have hts : (t : Int) < (n : Int) := by omega
      obtain ⟨F1, V1, HQT, hF1, hV1, hCh, hVV, -⟩ := HQ.out
      have HVV := Lib.hid hVV
      clear hVV
      have HQT := Lib.hid HQT; have HCh := Lib.hid hCh; have HF1 := Lib.hid hF1; have HV1 := Lib.hid hV1
      have HA1 := Lib.hid (HA.out.keep HCh.out HD.out)
      have HD1 := Lib.hid (HD.out.more HA.out HO.out HF1.out)
      obtain ⟨x, hx⟩ := at_lt (l := l) (i := t) (by rw [← HN.out]; exact hlt)
      obtain ⟨ad, n', cap', hv', -, -, -, hat⟩ := HA1.out.rs.at_
      cases hv'
      obtain ⟨b, off, rfl, hb, hcell⟩ := hat t x hx
      have c0 := hcell 0 _ rfl; have c1 := hcell 1 _ rfl; have c2 := hcell 2 _ rfl; have c3 := hcell 3 _ rfl; have c4 := hcell 4 _ rfl
      simp only [Nat.add_zero] at c0
      have hk := HI.out x (mem_at hx)
      have hvc := HA1.out.vec x (mem_at hx)
      have hps := HBG.out x (mem_at hx)
      obtain ⟨xp, hxp⟩ : ∃ p : Pe, p = x.pl := ⟨_, rfl⟩
      have E1 := Lib.hid (show (l.take (t + 1)).map Ev.pl = (l.take t).map Ev.pl ++ [xp] by rw [take_at hx, List.map_append, hxp]; rfl)
      obtain ⟨S, L, hQB, hpl, hFa, hFb, hFc, hFd⟩ := HQT.out
      have HBW0 := Lib.hid (show B ≤ w0.heap.size from by have := HCh.out.size; have := HBW.out; omega)
      have HQB := Lib.hid hQB; have HPL := Lib.hid hpl; have HFX := Lib.hid (And.intro hFa (And.intro hFb (And.intro hFc hFd)))
      obtain ⟨x0, x1, x2, x3, xv, xs⟩ := x
      have HXP := Lib.hid (show xp = (x0, x1, x2, x3, xs) from hxp)
      clear hxp
      obtain ⟨va, vc, hvv, -, -⟩ := hvc.form
      have HVC := Lib.hid hvc; have HPS := Lib.hid hps
      simp only at hvv hk c0 c1 c2 c3 c4
      have hbw : b < w0.heap.size := hb
      have hl := hQB.lt
      have HEB := Lib.hid (EB.made w0 ⟨x0, x1, x2, x3, xv, xs⟩)
      have HB1 := Lib.hid (ba (Below.refl w0.heap.size w0) (.cells #[.int .i64 x0, .int .i64 x1, .int .i64 x2, .int .i64 x3, xv] 28))
      simp only [evenc] at hvc hps
      obtain ⟨vn, hvn⟩ : ∃ vn, vn = xs.length := ⟨_, rfl⟩
      have HVN := Lib.hid hvn
      rw [← hvn] at hvv
      subst hvv
      have hT1 : ∀ e, fndP (putM most T ((l.take t).map Ev.pl)) e = (fndR S e).map Qr.pl := fun e => by rw [← HPL.out, pl_fndR]
      have HT1 := Lib.hid hT1
      clear hF1 hV1 hCh hcell hat hx hvc hps hQB hpl hFa hFb hFc hFd hT1 hvn
      cases hf : fndR S x1 with
      | none =>
        go_wp2_with fail
        refine (qfind (HQB.out.below HB1.out) hk).mono ?_
        rintro e w2 ⟨rfl, hb2⟩
        rw [show qfA S x1 = .tuple #[qzero, .bool false] by unfold qfA; rw [hf]]
        have HB2 := Lib.hid (bt HB1.out hb2)
        have E2 := Lib.hid (show put1 most (putM most T ((l.take t).map Ev.pl)) xp = putM most T ((l.take t).map Ev.pl) by rw [HXP.out]; unfold put1; simp only; rw [HT1.out, hf]; rfl)
        have E3 := Lib.hid (show cnt1 (putM most T ((l.take t).map Ev.pl)) xp = 0 by rw [HXP.out]; unfold cnt1; simp only; rw [HT1.out, hf]; rfl)
        go_wp2
        go_roundw
        case rel => exact ⟨t + 1, c, by omega, rfl, by go_num, by omega, Lib.hid (by rw [E1.out, cntM_snoc, ← HC.out, E3.out]; rfl), Lib.hid (by rw [E1.out, putM_snoc, E2.out]; exact (HQ.out.on (ba HB2.out _)).up (by omega))⟩
        case measure => simp [intOf]; omega
      | some r =>
        have hr := Srt.fnd_mem hf
        obtain ⟨ra, rn, rc, hrv, hrn, -⟩ := (HQB.out.own r hr.1).form
        obtain ⟨f, rv, rl, lost⟩ := r
        simp only at hrv hrn
        subst hrv
        obtain rfl : f = x1 := hr.2
        have HR := Lib.hid hr.1
        have HRN := Lib.hid hrn
        have HFN := Lib.hid hf
        clear hr hrn
        have HOBR := Lib.hid (show ∀ k, (Value.slice ra rn rc).ownBlock = some k → k < w0.heap.size ∧ B ≤ k from fun k hk => ⟨((HQB.out.own _ HR.out).lt k hk).2, ((HQB.out.own _ HR.out).lt k hk).1⟩)
        go_wp2_with fail
        refine (qfind (HQB.out.below HB1.out) hk).mono ?_
        rintro e w2 ⟨rfl, hb2⟩
        rw [show qfA S f = .tuple #[.agg #[.slice ra rn rc, .int .i64 lost], .bool true] by unfold qfA; rw [HFN.out]]
        have HB3 := Lib.hid (ba (bt HB1.out hb2) (.cells #[.slice ra rn rc, .int .i64 lost] 172))
        have HEB3 := Lib.hid ((HEB.out.below hb2).below (ba (Below.refl _ w2) (.cells #[.slice ra rn rc, .int .i64 lost] 172)))
        have HRB3 := Lib.hid (RB.made w2 (.slice ra rn rc) lost)
        have hsz : w0.heap.size < w2.heap.size := by have := hb2.size; simp at this; omega
        have HSZ := Lib.hid hsz
        clear hb2 c0 c1 c2 c3 c4 hsz hf
        go_wp2
        have HB3' := HB3.out
        obtain ⟨y0, y1⟩ := HRB3.out.cells
        have bE := HEB3.out.lt
        have bQ := HRB3.out.lt
        have HQ3 := Lib.hid (HQB.out.below (bt HB3.out (Below.refl _ _)))
        have m0 := HQ3.out.c0
        have hl3 := HQ3.out.lt
        clear HB3'
        generalize w2.alloc (.cells #[.slice ra rn rc, .int .i64 lost] 172) = w3 at *
        by_cases hfull : (rn : Int) = most
        · have hq : ((rn : Int) == most) = true := by simpa using hfull
          have HFU := Lib.hid hfull
          clear hfull
          have hol := (HQ3.out.own _ HR.out).from_ (P := Try.prog) (T := 24) (e := 28) (i := 1) (fun _ => rfl) (by have := HRN.out; have := HFU.out; have := HM1.out; show 1 ≤ rl.length; omega) Try.underlying24 infoEvI.choose_spec.1 infoEvI.choose_spec.2
          obtain ⟨v1, hsl, ho1, hob1⟩ := hol
          obtain ⟨r1, n1, k1, hv1, hn1, -⟩ := ho1.form
          subst hv1
          have hsl : ∀ w0, (Instr.slice 24 (.slice ra rn rc) (some (.int .i64 1)) none none).run Try.prog w0 = .ok (.slice r1 n1 k1) w0 := by simpa using hsl
          have hln := HQ3.out.num _ HR.out
          simp only at hln
          have hwr : IntKind.i64.wrap (lost + 1) = lost + 1 := IntWalk.i64_in _ (by have := HNN.out; have := HN.out; omega)
          have HLN := Lib.hid hln
          go_region
          have HEB4 := Lib.hid (HEB3.out.below (bd (Below.refl _ _)))
          have HRB4 := Lib.hid (HRB3.out.below (bd (Below.refl _ _)))
          have HO1 := Lib.hid (ho1.below (bd (Below.refl _ _)))
          have HB4 := Lib.hid (bd HB3.out)
          have bE4 : w0.heap.size < w3.drew.heap.size := bE
          have bQ4 : w2.heap.size < w3.drew.heap.size := bQ
          clear y0 y1 bE bQ m0 hl3 ho1 hln hn1
          generalize w3.drew = w4 at *
          obtain ⟨y0, y1⟩ := HRB4.out.cells
          have z0 := HRB4.out.fz 0; have z1 := HRB4.out.fz 1
          obtain ⟨e0, e1, e2, e3, e4⟩ := HEB4.out.cells
          have hne : w0.heap.size ≠ w2.heap.size := by have := HSZ.out; omega
          go_wp2_with fail
          have HOB := Lib.hid (show (Value.slice r1 n1 k1).ownBlock = (Value.slice ra rn rc).ownBlock from hob1)
          have HOBK := Lib.hid (show ∀ k, (Value.slice r1 n1 k1).ownBlock = some k → k < w0.heap.size from fun k hk => ((HQB.out.own _ HR.out).lt k (by rw [← HOB.out]; exact hk)).2)
          have chX : Chg (fun k => k = w2.heap.size) w4 ((w4.setCell ⟨w2.heap.size, 0, none⟩ (.slice r1 n1 k1)).setCell ⟨w2.heap.size, 1, none⟩ (.int .i64 (lost + 1))) := ((Chg.refl (fun k => k = w2.heap.size) _).setCell (p := ⟨w2.heap.size, 0, none⟩) (.inl rfl) _).setCell (p := ⟨w2.heap.size, 1, none⟩) (.inl rfl) _
          have HB5 := Lib.hid (show Below w0.heap.size w0 ((w4.setCell ⟨w2.heap.size, 0, none⟩ (.slice r1 n1 k1)).setCell ⟨w2.heap.size, 1, none⟩ (.int .i64 (lost + 1))) from bs (bs HB4.out (Nat.le_of_lt HSZ.out) _) (Nat.le_of_lt HSZ.out) _)
          have HEB5 := Lib.hid (HEB4.out.chg chX hne)
          have HRB5 := Lib.hid ((HRB4.out.set0 (.slice r1 n1 k1)).set1 (lost + 1))
          have HO5 := Lib.hid (HO1.out.chg chX (fun k hk => by have := HOBK.out k hk; have := HSZ.out; omega))
          have HL5 := Lib.hid (show 0 ≤ lost + 1 ∧ lost + 1 + ((rl.drop 1).length + 1 : Nat) ≤ (N + (t + 1) : Nat) from by have := HLN.out; have := HRN.out; have := HFU.out; have := HM1.out; rw [List.length_drop]; omega)
          have HLL := Lib.hid (show (rl.drop 1).length < 1000000 from by have := HL5.out; have := HNN.out; have := HN.out; omega)
          have HP5 := Lib.hid (show put1 most (putM most T ((l.take t).map Ev.pl)) xp = putP (putM most T ((l.take t).map Ev.pl)) ⟨f, (rl.drop 1).map Ev.pl ++ [xp], lost + 1⟩ from by
            rw [HXP.out]; unfold put1; simp only; rw [HT1.out, HFN.out]
            show putP _ (if (((rl.map Ev.pl).length : Nat) : Int) = most then _ else _) = _
            rw [if_pos (by rw [List.length_map, ← HRN.out]; exact HFU.out)]
            show putP _ ⟨f, (rl.map Ev.pl).drop 1 ++ _, lost + 1⟩ = _
            rw [List.map_drop])
          have HSU := Lib.hid (show ∀ z, z ∈ rl.drop 1 → z ∈ rl from fun z hz => List.mem_of_mem_drop hz)
          clear chX hob1
          generalize (w4.setCell ⟨w2.heap.size, 0, none⟩ (.slice r1 n1 k1)).setCell ⟨w2.heap.size, 1, none⟩ (.int .i64 (lost + 1)) = w5 at *
          clear y0 y1 z0 z1 e0 e1 e2 e3 e4 bE4 bQ4
          refine (vcopy_any _ xs HPS.out w5 (HVC.out.on HB5.out)).mono ?_
          rintro e w6 ⟨u, rfl, hu, hb6⟩
          obtain ⟨ua, uc, huv, -, -⟩ := hu.vc.form
          obtain ⟨un, hun⟩ : ∃ un, un = xs.length := ⟨_, rfl⟩
          rw [← hun] at huv
          subst huv
          clear hun
          have HU := Lib.hid hu
          have HEB6 := Lib.hid ((HEB5.out.below hb6).set (.slice ua un uc))
          have HSZ5 := Lib.hid (show w0.heap.size < w5.heap.size ∧ w2.heap.size < w5.heap.size from ⟨HEB5.out.lt, HRB5.out.lt⟩)
          have hs6 := hb6.size
          have ch6 : Chg (fun k => k = w0.heap.size) w6 (w6.setCell ⟨w0.heap.size, 4, none⟩ (.slice ua un uc)) := (Chg.refl (fun k => k = w0.heap.size) _).setCell (p := ⟨w0.heap.size, 4, none⟩) (.inl rfl) _
          have HB6 := Lib.hid (show Below w0.heap.size w0 (w6.setCell ⟨w0.heap.size, 4, none⟩ (.slice ua un uc)) from bs (bt HB5.out hb6) (Nat.le_refl _) _)
          have HRB6 := Lib.hid ((HRB5.out.below hb6).chg ch6 (by have := HSZ.out; omega))
          have HO6 := Lib.hid ((HO5.out.below hb6).chg ch6 (fun k hk => by have := HOBK.out k hk; omega))
          obtain ⟨e0, e1, e2, e3, e4⟩ := (HEB5.out.below hb6).cells
          have f4 := (HEB5.out.below hb6).fz 4
          have bE6 := (HEB5.out.below hb6).lt
          have bQ6 := (HRB5.out.below hb6).lt
          obtain ⟨y0, y1⟩ := (HRB5.out.below hb6).cells
          have heb7 := EB.made (w6.setCell ⟨w0.heap.size, 4, none⟩ (.slice ua un uc)) ⟨x0, f, x2, x3, .slice ua un uc, xs⟩
          have hz6 : (w6.setCell ⟨w0.heap.size, 4, none⟩ (.slice ua un uc)).heap.size = w6.heap.size := by simp [World.setCell]
          rw [hz6] at heb7
          have HEB7 := Lib.hid heb7
          clear heb7
          have hba := ba (Below.refl (w6.setCell ⟨w0.heap.size, 4, none⟩ (.slice ua un uc)).heap.size (w6.setCell ⟨w0.heap.size, 4, none⟩ (.slice ua un uc))) (.cells #[.int .i64 x0, .int .i64 f, .int .i64 x2, .int .i64 x3, .slice ua un uc] 28)
          obtain ⟨v2, w7, hra, ho7, hg7, hv7⟩ := evapp (c := 1) (HO6.out.below hba) ⟨x0, f, x2, x3, .slice ua un uc, xs⟩ HEB7.out rfl (by have := HLL.out; omega) (by have := HB6.out.size; have := HBW0.out; have := hba.size; omega) 24
          obtain ⟨r2, n2, k2, hv2, -, -⟩ := ho7.form
          subst hv2
          have HRA := Lib.hid hra
          have HCH7 := Lib.hid (show Chg (fun k => (Value.slice ra rn rc).ownBlock = some k) w0 w7 from ((Chg.of_below _ HB6.out).then_below hba).same (.of_grown hg7 fun k e => by rw [← HOB.out]; exact e))
          have HV7 := Lib.hid (show ∀ k, (Value.slice r2 n2 k2).ownBlock = some k → (Value.slice ra rn rc).ownBlock = some k ∨ w6.heap.size ≤ k from fun k hk => by
            rcases hv7 with h' | h'
            · rw [h', HOB.out] at hk; exact .inl hk
            · rw [h'] at hk; cases hk; exact .inr (by simp [World.setCell]))
          have hgk : Chg (fun k => k = w0.heap.size ∨ (Value.slice ra rn rc).ownBlock = some k) w6 w7 := ((ch6.mono fun k e => .inl e).then_below hba).same (.of_grown hg7 fun k e => .inr (by rw [← HOB.out]; exact e))
          have HGK := Lib.hid hgk; have HS6 := Lib.hid hs6
          have HRB7 := Lib.hid ((HRB6.out.below hba).chg (.of_grown hg7 (F := fun k => (Value.slice r1 n1 k1).ownBlock = some k) fun k e => e) (fun h' => by have := HOBK.out _ h'; have := HSZ.out; omega))
          have HEB8 := Lib.hid ((HEB6.out.below hba).chg (.of_grown hg7 (F := fun k => (Value.slice r1 n1 k1).ownBlock = some k) fun k e => e) (fun h' => by have := HOBK.out _ h'; omega))
          obtain ⟨q0, q1⟩ := HRB7.out.cells
          have z0 := HRB7.out.fz 0
          have bQ7 := HRB7.out.lt
          have HO7 := Lib.hid ho7
          have hs7 := hg7.size
          clear hra ho7 hg7 hv7 hba ch6 hgk hu hs6 hz6
          go_wp2_with (at_builtin; refine wpList_app_run rfl _ _ _ rfl rfl rfl HRA.out ?_)
          clear q0 q1 z0 bQ7 y0 y1 e0 e1 e2 e3 e4 f4 bE6 bQ6
          have hqr := HQB.out.qs _ HR.out
          have HV8 := Lib.hid (show ∀ k, (Value.slice r2 n2 k2).ownBlock = some k → k ≠ w2.heap.size ∧ k ≠ M ∧ k ≠ qp from fun k hk => by
            have h5 := HSZ5.out; have h6 := HS6.out; have h7 := HSZ.out
            rcases HV7.out k hk with h' | h'
            · have := hqr k h'; have := HOBR.out k h'; omega
            · omega)
          have ch8 : Chg (fun k => k = w2.heap.size) w7 (w7.setCell ⟨w2.heap.size, 0, none⟩ (.slice r2 n2 k2)) := (Chg.refl (fun k => k = w2.heap.size) _).setCell (p := ⟨w2.heap.size, 0, none⟩) (.inl rfl) _
          have HRB8 := Lib.hid (HRB7.set0 (.slice r2 n2 k2))
          have HEB9 := Lib.hid (HEB8.chg ch8 (by have := HSZ.out; omega))
          have HCH8 := Lib.hid (show Chg (fun k => (Value.slice ra rn rc).ownBlock = some k) w0 (w7.setCell ⟨w2.heap.size, 0, none⟩ (.slice r2 n2 k2)) from HCH7.out.setCell (p := ⟨w2.heap.size, 0, none⟩) (.inr (Nat.le_of_lt HSZ.out)) _)
          have HO8 := Lib.hid (HO7.out.chg ch8 (fun k hk => (HV8.out k hk).1))
          have HU8 := Lib.hid (show OwnP (w7.setCell ⟨w2.heap.size, 0, none⟩ (.slice r2 n2 k2)) w5.heap.size (.slice ua un uc) xs from ownsRow_chg (ownsRow_chg HU.out HGK.out (fun k hk => by
            have := (World.ownsRow.lt HU.out k hk).1; have h5 := HSZ5.out
            rintro (e | e)
            · omega
            · have := HOBR.out k e; omega)) ch8 (fun k hk => by have := (World.ownsRow.lt HU.out k hk).1; have h5 := HSZ5.out; omega))
          have HUB := Lib.hid (show ∀ k, (Value.slice ua un uc).ownBlock = some k → w5.heap.size ≤ k ∧ k < w6.heap.size from fun k hk => World.ownsRow.lt HU.out k hk)
          have c1 := (HCH8.out.cell hl.1 (fun e => (hqr qp e).1 rfl) 1).trans HQB.out.c1
          have HMAP8 := Lib.hid (HQB.out.map.chg HCH8.out (fun e => (hqr M e).2.1 rfl))
          have hl8 := HMAP8.out.lt
          have hq8 : qp < (w7.setCell ⟨w2.heap.size, 0, none⟩ (.slice r2 n2 k2)).heap.size := Nat.lt_of_lt_of_le hl.1 HCH8.out.size
          have hqM := HQB.out.hM.1
          have hEM : ¬ w0.heap.size = M := by have := hl.2; omega
          have hQM : ¬ w2.heap.size = M := by have := hl.2; have := HSZ.out; omega
          obtain ⟨y0, y1⟩ := HRB8.out.cells
          obtain ⟨e0, e1, e2, e3, e4⟩ := HEB9.out.cells
          have bE8 := HEB9.out.lt; have bQ8 := HRB8.out.lt
          clear ch8 hqr HRB7 HEB8 hl
          have HWS8 := Lib.hid (show w7.heap.size ≤ (w7.setCell ⟨w2.heap.size, 0, none⟩ (.slice r2 n2 k2)).heap.size from by simp [World.setCell])
          generalize w7.setCell ⟨w2.heap.size, 0, none⟩ (.slice r2 n2 k2) = w8 at *
          refine Mix.regionC (fun k => k = M) (by kernel_rfl) ?_
          intro w9 hb9
          refine Mix.take_exC _ _ 0 rfl (by kernel_rfl) (by kernel_rfl) (by kernel_rfl) (by kernel_rfl) (fun K hK => ?_)
          go_simp
          first | (refine hK _ ?_; clear hK K) | (apply Exists.intro; refine ⟨fun x => ?_, hK _ ?_⟩; (fail); clear hK K)
          refine Mix.take_exC _ _ 1 rfl (by kernel_rfl) (by kernel_rfl) (by kernel_rfl) (by kernel_rfl) (fun K hK => ?_)
          go_simp
          first | (refine hK _ ?_; clear hK K) | (apply Exists.intro; refine ⟨fun x => ?_, hK _ ?_⟩; (fail); clear hK K)
          refine Mix.take_exC _ _ 2 rfl (by kernel_rfl) (by kernel_rfl) (by kernel_rfl) (by kernel_rfl) (fun K hK => ?_)
          go_simp
          first | (refine hK _ ?_; clear hK K) | (apply Exists.intro; refine ⟨fun x => ?_, hK _ ?_⟩; (fail); clear hK K)
          refine Mix.take_exC _ _ 3 rfl (by kernel_rfl) (by kernel_rfl) (by kernel_rfl) (by kernel_rfl) (fun K hK => ?_)
          go_simp
          first | (refine hK _ ?_; clear hK K) | (apply Exists.intro; refine ⟨fun x => ?_, hK _ ?_⟩; (fail); clear hK K)
          refine Mix.take_exC _ _ 4 rfl (by kernel_rfl) (by kernel_rfl) (by kernel_rfl) (by kernel_rfl) (fun K hK => ?_)
          go_simp
          first | (refine hK _ ?_; clear hK K) | (apply Exists.intro; refine ⟨fun x => ?_, hK _ ?_⟩; (fail); clear hK K)
          refine Mix.take_exC _ _ 5 rfl (by kernel_rfl) (by kernel_rfl) (by kernel_rfl) (by kernel_rfl) (fun K hK => ?_)
          go_simp
          first | (refine hK _ ?_; clear hK K) | (apply Exists.intro; refine ⟨fun x => ?_, hK _ ?_⟩; (fail); clear hK K)
          refine Mix.take_exC _ _ 6 rfl (by kernel_rfl) (by kernel_rfl) (by kernel_rfl) (by kernel_rfl) (fun K hK => ?_)
          go_simp
          first | (refine hK _ ?_; clear hK K) | (apply Exists.intro; refine ⟨fun x => ?_, hK _ ?_⟩; (fail); clear hK K)
          refine Mix.all (rs := [7]) (by kernel_rfl) (by simp) (.of_below _ hb9) ?_
          intro i10 hi10 w10 hb10 hC10
          simp only [List.mem_cons, List.not_mem_nil, or_false] at hi10
          subst hi10
          clear hC10
          obtain ⟨w11, hrun, hm11, hc11⟩ := map_store (HMAP8.out.chg (.of_below (fun _ => False) (bt hb9 hb10)) id) hk (.agg #[.slice r2 n2 k2, .int .i64 (lost + 1)])
          have HM11 := Lib.hid hm11
          have HC11 := Lib.hid (show Chg (fun k => k = M) w8 w11 from (Chg.of_below _ (bt hb9 hb10)).same hc11)
          refine Mix.op rfl (by kernel_rfl) ?_
          clear hm11 hc11 hb9 hb10
          go_simp
          refine Mix.done (by kernel_rfl) HC11.out ?_
          intro w12 hb12
          have HC12 := Lib.hid (show Chg (fun k => k = M) w8 w12 from HC11.out.then_below hb12)
          have HM12 := Lib.hid (HM11.out.chg (.of_below (fun _ => False) hb12) id)
          clear hb12 hrun c1 hl8 hq8 y0 y1 e0 e1 e2 e3 e4 bE8 bQ8
          have HE3 := Lib.hid (show cnt1 (putM most T ((l.take t).map Ev.pl)) xp = 1 by rw [HXP.out]; unfold cnt1; simp only; rw [HT1.out, HFN.out]; rfl)
          have HQA := Lib.hid (show QA w B qp M most (N + (t + 1)) (putM most T ((l.take (t + 1)).map Ev.pl)) F V w12 from by
            have hcg : Chg (GQ M S f) w0 w12 := (HCH8.out.mono fun k e => .inr ⟨_, HFN.out, e⟩).same (HC12.out.mono fun k e => .inl e)
            have h5 := HSZ5.out; have h6 := HS6.out; have h7 := HSZ.out; have h12 := hcg.size; have hs5 := HB5.out.size
            have hs12 : w6.heap.size ≤ w12.heap.size := by have a1 := HGK.out.size; have a2 := HC12.out.size; have a3 := HWS8.out; omega
            have hx := HQB.out.put (x := ⟨f, .slice r2 n2 k2, (rl.drop 1) ++ [⟨x0, f, x2, x3, .slice ua un uc, xs⟩], (lost + 1)⟩) (N' := N + (t + 1)) hk hcg HM12.out (HO8.out.chg HC12.out (fun k hk => (HV8.out k hk).2.1))
              (fun e he => by
                rcases List.mem_append.1 he with he | he
                · exact ownsRow_chg (HQB.out.vec _ HR.out e (HSU.out e he)) hcg fun k hk' g => (HQB.out.fv (.inr ⟨_, HR.out, e, HSU.out e he, hk'⟩)).2.2 g.fq
                · obtain rfl := List.mem_singleton.1 he
                  exact ownsRow_base (ownsRow_chg HU8.out HC12.out (fun k hk' => by have := HUB.out k hk'; have := HQB.out.lt; omega)) (by have := HBW0.out; omega))
              (fun k hk' => by
                rcases HV7.out k hk' with h' | h'
                · exact .inl ⟨_, HFN.out, h'⟩
                · exact .inr (by omega))
              (fun e he => by
                rcases List.mem_append.1 he with he | he
                · exact .inl ⟨_, HFN.out, HSU.out e he⟩
                · obtain rfl := List.mem_singleton.1 he
                  exact .inr fun k hk' => by
                    have := HUB.out k hk'
                    refine ⟨by omega, fun e' => ?_⟩
                    rcases HV7.out k e' with h' | h'
                    · have := HOBR.out k h'; omega
                    · omega)
              (by rw [List.length_append]; exact HL5.out) (by omega)
            have hq := QT.put (x := ⟨f, .slice r2 n2 k2, (rl.drop 1) ++ [⟨x0, f, x2, x3, .slice ua un uc, xs⟩], (lost + 1)⟩) (Below.refl _ _) HQB.out HFX.out.1 HFX.out.2.1 HFX.out.2.2.1 HFX.out.2.2.2 HBW0.out hx hcg
              (fun k hk' => by
                rcases HV7.out k hk' with h' | h'
                · exact .inl ⟨_, HFN.out, h'⟩
                · exact .inr ⟨by omega, ((HO8.out.chg HC12.out (fun k hk => (HV8.out k hk).2.1)).lt k hk').2⟩)
              (fun e he => by
                rcases List.mem_append.1 he with he | he
                · exact .inl ⟨_, HFN.out, HSU.out e he⟩
                · obtain rfl := List.mem_singleton.1 he
                  exact .inr fun k hk' => by
                    have := HUB.out k hk'
                    refine ⟨by omega, by omega, fun e' => ?_⟩
                    rcases HV7.out k e' with h' | h'
                    · have := HOBR.out k h'; omega
                    · omega)
              (A := fun _ => False) (fun k hk => hk.elim)
            rw [pl_put, HPL.out] at hq
            rw [E1.out, putM_snoc, HP5.out]
            have e9 : (⟨f, .slice r2 n2 k2, (rl.drop 1) ++ [⟨x0, f, x2, x3, .slice ua un uc, xs⟩], (lost + 1)⟩ : Qr).pl = ⟨f, ((rl.drop 1)).map Ev.pl ++ [xp], (lost + 1)⟩ := by
              rw [HXP.out]; unfold Qr.pl; simp only; rw [List.map_append]; rfl
            rw [e9] at hq
            exact QX.then HCh.out HF1.out HV1.out HVV.out hq)
          go_wp2
          go_roundw
          case rel => exact ⟨t + 1, c + 1, by omega, by go_num, by go_num, by omega, Lib.hid (by rw [E1.out, cntM_snoc, ← HC.out, HE3.out]), HQA⟩
          case measure => simp [intOf]; omega
        · have hq : ((rn : Int) == most) = false := by simpa using hfull
          have HFU := Lib.hid hfull
          clear hfull
          go_region
          have HEB4 := Lib.hid (HEB3.out.below (bd (Below.refl _ _)))
          have HRB4 := Lib.hid (HRB3.out.below (bd (Below.refl _ _)))
          have HO1 := Lib.hid ((HQ3.out.own _ HR.out).below (bd (Below.refl _ _)))
          have HB4 := Lib.hid (bd HB3.out)
          have bE4 : w0.heap.size < w3.drew.heap.size := bE
          have bQ4 : w2.heap.size < w3.drew.heap.size := bQ
          clear y0 y1 bE bQ m0 hl3
          generalize w3.drew = w4 at *
          obtain ⟨y0, y1⟩ := HRB4.out.cells
          have z0 := HRB4.out.fz 0; have z1 := HRB4.out.fz 1
          obtain ⟨e0, e1, e2, e3, e4⟩ := HEB4.out.cells
          have hne : w0.heap.size ≠ w2.heap.size := by have := HSZ.out; omega
          go_wp2_with fail
          have HOB := Lib.hid (show (Value.slice ra rn rc).ownBlock = (Value.slice ra rn rc).ownBlock from rfl)
          have HOBK := Lib.hid (show ∀ k, (Value.slice ra rn rc).ownBlock = some k → k < w0.heap.size from fun k hk => ((HQB.out.own _ HR.out).lt k hk).2)
          obtain ⟨w5, rfl⟩ : ∃ w5, w5 = w4 := ⟨_, rfl⟩
          have HB5 := HB4; have HEB5 := HEB4; have HRB5 := HRB4; have HO5 := HO1
          have HL5 := Lib.hid (show 0 ≤ lost ∧ lost + (rl.length + 1 : Nat) ≤ (N + (t + 1) : Nat) from by have := HQ3.out.num _ HR.out; simp only at this; omega)
          have HLL := Lib.hid (show rl.length < 1000000 from by have := HL5.out; have := HNN.out; have := HN.out; omega)
          have HP5 := Lib.hid (show put1 most (putM most T ((l.take t).map Ev.pl)) xp = putP (putM most T ((l.take t).map Ev.pl)) ⟨f, rl.map Ev.pl ++ [xp], lost⟩ from by
            rw [HXP.out]; unfold put1; simp only; rw [HT1.out, HFN.out]
            show putP _ (if (((rl.map Ev.pl).length : Nat) : Int) = most then _ else _) = _
            rw [if_neg (by rw [List.length_map, ← HRN.out]; exact HFU.out)]
            rfl)
          have HSU := Lib.hid (show ∀ z, z ∈ rl → z ∈ rl from fun z hz => hz)
          clear y0 y1 z0 z1 e0 e1 e2 e3 e4 bE4 bQ4
          refine (vcopy_any _ xs HPS.out w5 (HVC.out.on HB5.out)).mono ?_
          rintro e w6 ⟨u, rfl, hu, hb6⟩
          obtain ⟨ua, uc, huv, -, -⟩ := hu.vc.form
          obtain ⟨un, hun⟩ : ∃ un, un = xs.length := ⟨_, rfl⟩
          rw [← hun] at huv
          subst huv
          clear hun
          have HU := Lib.hid hu
          have HEB6 := Lib.hid ((HEB5.out.below hb6).set (.slice ua un uc))
          have HSZ5 := Lib.hid (show w0.heap.size < w5.heap.size ∧ w2.heap.size < w5.heap.size from ⟨HEB5.out.lt, HRB5.out.lt⟩)
          have hs6 := hb6.size
          have ch6 : Chg (fun k => k = w0.heap.size) w6 (w6.setCell ⟨w0.heap.size, 4, none⟩ (.slice ua un uc)) := (Chg.refl (fun k => k = w0.heap.size) _).setCell (p := ⟨w0.heap.size, 4, none⟩) (.inl rfl) _
          have HB6 := Lib.hid (show Below w0.heap.size w0 (w6.setCell ⟨w0.heap.size, 4, none⟩ (.slice ua un uc)) from bs (bt HB5.out hb6) (Nat.le_refl _) _)
          have HRB6 := Lib.hid ((HRB5.out.below hb6).chg ch6 (by have := HSZ.out; omega))
          have HO6 := Lib.hid ((HO5.out.below hb6).chg ch6 (fun k hk => by have := HOBK.out k hk; omega))
          obtain ⟨e0, e1, e2, e3, e4⟩ := (HEB5.out.below hb6).cells
          have f4 := (HEB5.out.below hb6).fz 4
          have bE6 := (HEB5.out.below hb6).lt
          have bQ6 := (HRB5.out.below hb6).lt
          obtain ⟨y0, y1⟩ := (HRB5.out.below hb6).cells
          have heb7 := EB.made (w6.setCell ⟨w0.heap.size, 4, none⟩ (.slice ua un uc)) ⟨x0, f, x2, x3, .slice ua un uc, xs⟩
          have hz6 : (w6.setCell ⟨w0.heap.size, 4, none⟩ (.slice ua un uc)).heap.size = w6.heap.size := by simp [World.setCell]
          rw [hz6] at heb7
          have HEB7 := Lib.hid heb7
          clear heb7
          have hba := ba (Below.refl (w6.setCell ⟨w0.heap.size, 4, none⟩ (.slice ua un uc)).heap.size (w6.setCell ⟨w0.heap.size, 4, none⟩ (.slice ua un uc))) (.cells #[.int .i64 x0, .int .i64 f, .int .i64 x2, .int .i64 x3, .slice ua un uc] 28)
          obtain ⟨v2, w7, hra, ho7, hg7, hv7⟩ := evapp (c := 1) (HO6.out.below hba) ⟨x0, f, x2, x3, .slice ua un uc, xs⟩ HEB7.out rfl (by have := HLL.out; omega) (by have := HB6.out.size; have := HBW0.out; have := hba.size; omega) 24
          obtain ⟨r2, n2, k2, hv2, -, -⟩ := ho7.form
          subst hv2
          have HRA := Lib.hid hra
          have HCH7 := Lib.hid (show Chg (fun k => (Value.slice ra rn rc).ownBlock = some k) w0 w7 from ((Chg.of_below _ HB6.out).then_below hba).same (.of_grown hg7 fun k e => by rw [← HOB.out]; exact e))
          have HV7 := Lib.hid (show ∀ k, (Value.slice r2 n2 k2).ownBlock = some k → (Value.slice ra rn rc).ownBlock = some k ∨ w6.heap.size ≤ k from fun k hk => by
            rcases hv7 with h' | h'
            · rw [h', HOB.out] at hk; exact .inl hk
            · rw [h'] at hk; cases hk; exact .inr (by simp [World.setCell]))
          have hgk : Chg (fun k => k = w0.heap.size ∨ (Value.slice ra rn rc).ownBlock = some k) w6 w7 := ((ch6.mono fun k e => .inl e).then_below hba).same (.of_grown hg7 fun k e => .inr (by rw [← HOB.out]; exact e))
          have HGK := Lib.hid hgk; have HS6 := Lib.hid hs6
          have HRB7 := Lib.hid ((HRB6.out.below hba).chg (.of_grown hg7 (F := fun k => (Value.slice ra rn rc).ownBlock = some k) fun k e => e) (fun h' => by have := HOBK.out _ h'; have := HSZ.out; omega))
          have HEB8 := Lib.hid ((HEB6.out.below hba).chg (.of_grown hg7 (F := fun k => (Value.slice ra rn rc).ownBlock = some k) fun k e => e) (fun h' => by have := HOBK.out _ h'; omega))
          obtain ⟨q0, q1⟩ := HRB7.out.cells
          have z0 := HRB7.out.fz 0
          have bQ7 := HRB7.out.lt
          have HO7 := Lib.hid ho7
          have hs7 := hg7.size
          clear hra ho7 hg7 hv7 hba ch6 hgk hu hs6 hz6
          go_wp2_with (at_builtin; refine wpList_app_run rfl _ _ _ rfl rfl rfl HRA.out ?_)
          clear q0 q1 z0 bQ7 y0 y1 e0 e1 e2 e3 e4 f4 bE6 bQ6
          have hqr := HQB.out.qs _ HR.out
          have HV8 := Lib.hid (show ∀ k, (Value.slice r2 n2 k2).ownBlock = some k → k ≠ w2.heap.size ∧ k ≠ M ∧ k ≠ qp from fun k hk => by
            have h5 := HSZ5.out; have h6 := HS6.out; have h7 := HSZ.out
            rcases HV7.out k hk with h' | h'
            · have := hqr k h'; have := HOBR.out k h'; omega
            · omega)
          have ch8 : Chg (fun k => k = w2.heap.size) w7 (w7.setCell ⟨w2.heap.size, 0, none⟩ (.slice r2 n2 k2)) := (Chg.refl (fun k => k = w2.heap.size) _).setCell (p := ⟨w2.heap.size, 0, none⟩) (.inl rfl) _
          have HRB8 := Lib.hid (HRB7.set0 (.slice r2 n2 k2))
          have HEB9 := Lib.hid (HEB8.chg ch8 (by have := HSZ.out; omega))
          have HCH8 := Lib.hid (show Chg (fun k => (Value.slice ra rn rc).ownBlock = some k) w0 (w7.setCell ⟨w2.heap.size, 0, none⟩ (.slice r2 n2 k2)) from HCH7.out.setCell (p := ⟨w2.heap.size, 0, none⟩) (.inr (Nat.le_of_lt HSZ.out)) _)
          have HO8 := Lib.hid (HO7.out.chg ch8 (fun k hk => (HV8.out k hk).1))
          have HU8 := Lib.hid (show OwnP (w7.setCell ⟨w2.heap.size, 0, none⟩ (.slice r2 n2 k2)) w5.heap.size (.slice ua un uc) xs from ownsRow_chg (ownsRow_chg HU.out HGK.out (fun k hk => by
            have := (World.ownsRow.lt HU.out k hk).1; have h5 := HSZ5.out
            rintro (e | e)
            · omega
            · have := HOBR.out k e; omega)) ch8 (fun k hk => by have := (World.ownsRow.lt HU.out k hk).1; have h5 := HSZ5.out; omega))
          have HUB := Lib.hid (show ∀ k, (Value.slice ua un uc).ownBlock = some k → w5.heap.size ≤ k ∧ k < w6.heap.size from fun k hk => World.ownsRow.lt HU.out k hk)
          have c1 := (HCH8.out.cell hl.1 (fun e => (hqr qp e).1 rfl) 1).trans HQB.out.c1
          have HMAP8 := Lib.hid (HQB.out.map.chg HCH8.out (fun e => (hqr M e).2.1 rfl))
          have hl8 := HMAP8.out.lt
          have hq8 : qp < (w7.setCell ⟨w2.heap.size, 0, none⟩ (.slice r2 n2 k2)).heap.size := Nat.lt_of_lt_of_le hl.1 HCH8.out.size
          have hqM := HQB.out.hM.1
          have hEM : ¬ w0.heap.size = M := by have := hl.2; omega
          have hQM : ¬ w2.heap.size = M := by have := hl.2; have := HSZ.out; omega
          obtain ⟨y0, y1⟩ := HRB8.out.cells
          obtain ⟨e0, e1, e2, e3, e4⟩ := HEB9.out.cells
          have bE8 := HEB9.out.lt; have bQ8 := HRB8.out.lt
          clear ch8 hqr HRB7 HEB8 hl
          have HWS8 := Lib.hid (show w7.heap.size ≤ (w7.setCell ⟨w2.heap.size, 0, none⟩ (.slice r2 n2 k2)).heap.size from by simp [World.setCell])
          generalize w7.setCell ⟨w2.heap.size, 0, none⟩ (.slice r2 n2 k2) = w8 at *
          refine Mix.regionC (fun k => k = M) (by kernel_rfl) ?_
          intro w9 hb9
          refine Mix.take_exC _ _ 0 rfl (by kernel_rfl) (by kernel_rfl) (by kernel_rfl) (by kernel_rfl) (fun K hK => ?_)
          go_simp
          first | (refine hK _ ?_; clear hK K) | (apply Exists.intro; refine ⟨fun x => ?_, hK _ ?_⟩; (fail); clear hK K)
          refine Mix.take_exC _ _ 1 rfl (by kernel_rfl) (by kernel_rfl) (by kernel_rfl) (by kernel_rfl) (fun K hK => ?_)
          go_simp
          first | (refine hK _ ?_; clear hK K) | (apply Exists.intro; refine ⟨fun x => ?_, hK _ ?_⟩; (fail); clear hK K)
          refine Mix.take_exC _ _ 2 rfl (by kernel_rfl) (by kernel_rfl) (by kernel_rfl) (by kernel_rfl) (fun K hK => ?_)
          go_simp
          first | (refine hK _ ?_; clear hK K) | (apply Exists.intro; refine ⟨fun x => ?_, hK _ ?_⟩; (fail); clear hK K)
          refine Mix.take_exC _ _ 3 rfl (by kernel_rfl) (by kernel_rfl) (by kernel_rfl) (by kernel_rfl) (fun K hK => ?_)
          go_simp
          first | (refine hK _ ?_; clear hK K) | (apply Exists.intro; refine ⟨fun x => ?_, hK _ ?_⟩; (fail); clear hK K)
          refine Mix.take_exC _ _ 4 rfl (by kernel_rfl) (by kernel_rfl) (by kernel_rfl) (by kernel_rfl) (fun K hK => ?_)
          go_simp
          first | (refine hK _ ?_; clear hK K) | (apply Exists.intro; refine ⟨fun x => ?_, hK _ ?_⟩; (fail); clear hK K)
          refine Mix.take_exC _ _ 5 rfl (by kernel_rfl) (by kernel_rfl) (by kernel_rfl) (by kernel_rfl) (fun K hK => ?_)
          go_simp
          first | (refine hK _ ?_; clear hK K) | (apply Exists.intro; refine ⟨fun x => ?_, hK _ ?_⟩; (fail); clear hK K)
          refine Mix.take_exC _ _ 6 rfl (by kernel_rfl) (by kernel_rfl) (by kernel_rfl) (by kernel_rfl) (fun K hK => ?_)
          go_simp
          first | (refine hK _ ?_; clear hK K) | (apply Exists.intro; refine ⟨fun x => ?_, hK _ ?_⟩; (fail); clear hK K)
          refine Mix.all (rs := [7]) (by kernel_rfl) (by simp) (.of_below _ hb9) ?_
          intro i10 hi10 w10 hb10 hC10
          simp only [List.mem_cons, List.not_mem_nil, or_false] at hi10
          subst hi10
          clear hC10
          obtain ⟨w11, hrun, hm11, hc11⟩ := map_store (HMAP8.out.chg (.of_below (fun _ => False) (bt hb9 hb10)) id) hk (.agg #[.slice r2 n2 k2, .int .i64 lost])
          have HM11 := Lib.hid hm11
          have HC11 := Lib.hid (show Chg (fun k => k = M) w8 w11 from (Chg.of_below _ (bt hb9 hb10)).same hc11)
          refine Mix.op rfl (by kernel_rfl) ?_
          clear hm11 hc11 hb9 hb10
          go_simp
          refine Mix.done (by kernel_rfl) HC11.out ?_
          intro w12 hb12
          have HC12 := Lib.hid (show Chg (fun k => k = M) w8 w12 from HC11.out.then_below hb12)
          have HM12 := Lib.hid (HM11.out.chg (.of_below (fun _ => False) hb12) id)
          clear hb12 hrun c1 hl8 hq8 y0 y1 e0 e1 e2 e3 e4 bE8 bQ8
          have HE3 := Lib.hid (show cnt1 (putM most T ((l.take t).map Ev.pl)) xp = 1 by rw [HXP.out]; unfold cnt1; simp only; rw [HT1.out, HFN.out]; rfl)
          have HQA := Lib.hid (show QA w B qp M most (N + (t + 1)) (putM most T ((l.take (t + 1)).map Ev.pl)) F V w12 from by
            have hcg : Chg (GQ M S f) w0 w12 := (HCH8.out.mono fun k e => .inr ⟨_, HFN.out, e⟩).same (HC12.out.mono fun k e => .inl e)
            have h5 := HSZ5.out; have h6 := HS6.out; have h7 := HSZ.out; have h12 := hcg.size; have hs5 := HB5.out.size
            have hs12 : w6.heap.size ≤ w12.heap.size := by have a1 := HGK.out.size; have a2 := HC12.out.size; have a3 := HWS8.out; omega
            have hx := HQB.out.put (x := ⟨f, .slice r2 n2 k2, rl ++ [⟨x0, f, x2, x3, .slice ua un uc, xs⟩], lost⟩) (N' := N + (t + 1)) hk hcg HM12.out (HO8.out.chg HC12.out (fun k hk => (HV8.out k hk).2.1))
              (fun e he => by
                rcases List.mem_append.1 he with he | he
                · exact ownsRow_chg (HQB.out.vec _ HR.out e (HSU.out e he)) hcg fun k hk' g => (HQB.out.fv (.inr ⟨_, HR.out, e, HSU.out e he, hk'⟩)).2.2 g.fq
                · obtain rfl := List.mem_singleton.1 he
                  exact ownsRow_base (ownsRow_chg HU8.out HC12.out (fun k hk' => by have := HUB.out k hk'; have := HQB.out.lt; omega)) (by have := HBW0.out; omega))
              (fun k hk' => by
                rcases HV7.out k hk' with h' | h'
                · exact .inl ⟨_, HFN.out, h'⟩
                · exact .inr (by omega))
              (fun e he => by
                rcases List.mem_append.1 he with he | he
                · exact .inl ⟨_, HFN.out, HSU.out e he⟩
                · obtain rfl := List.mem_singleton.1 he
                  exact .inr fun k hk' => by
                    have := HUB.out k hk'
                    refine ⟨by omega, fun e' => ?_⟩
                    rcases HV7.out k e' with h' | h'
                    · have := HOBR.out k h'; omega
                    · omega)
              (by rw [List.length_append]; exact HL5.out) (by omega)
            have hq := QT.put (x := ⟨f, .slice r2 n2 k2, rl ++ [⟨x0, f, x2, x3, .slice ua un uc, xs⟩], lost⟩) (Below.refl _ _) HQB.out HFX.out.1 HFX.out.2.1 HFX.out.2.2.1 HFX.out.2.2.2 HBW0.out hx hcg
              (fun k hk' => by
                rcases HV7.out k hk' with h' | h'
                · exact .inl ⟨_, HFN.out, h'⟩
                · exact .inr ⟨by omega, ((HO8.out.chg HC12.out (fun k hk => (HV8.out k hk).2.1)).lt k hk').2⟩)
              (fun e he => by
                rcases List.mem_append.1 he with he | he
                · exact .inl ⟨_, HFN.out, HSU.out e he⟩
                · obtain rfl := List.mem_singleton.1 he
                  exact .inr fun k hk' => by
                    have := HUB.out k hk'
                    refine ⟨by omega, by omega, fun e' => ?_⟩
                    rcases HV7.out k e' with h' | h'
                    · have := HOBR.out k h'; omega
                    · omega)
              (A := fun _ => False) (fun k hk => hk.elim)
            rw [pl_put, HPL.out] at hq
            rw [E1.out, putM_snoc, HP5.out]
            have e9 : (⟨f, .slice r2 n2 k2, rl ++ [⟨x0, f, x2, x3, .slice ua un uc, xs⟩], lost⟩ : Qr).pl = ⟨f, (rl).map Ev.pl ++ [xp], lost⟩ := by
              rw [HXP.out]; unfold Qr.pl; simp only; rw [List.map_append]; rfl
            rw [e9] at hq
            exact QX.then HCh.out HF1.out HV1.out HVV.out hq)
          go_wp2
          go_roundw
          case rel => exact ⟨t + 1, c + 1, by omega, by go_num, by go_num, by omega, Lib.hid (by rw [E1.out, cntM_snoc, ← HC.out, HE3.out]), HQA⟩
          case measure => simp [intOf]; omega
    · obtain rfl : n = t := by omega
      have E1 := Lib.hid (show l.take n = l by rw [HN.out, List.take_length])
      have HQ2 := HQ.out
      rw [E1.out] at HQ2
      have HC2 := HC.out
      rw [E1.out] at HC2
      have HQ2 := Lib.hid HQ2; have HC2 := Lib.hid HC2
      go_wp2
      go_ret
      exact ⟨by rw [← HC2.out]; rfl, by rw [← HN.out]; exact HQ2.out⟩
end
end Go.Proofs.Ytnckjacbkhoppaa

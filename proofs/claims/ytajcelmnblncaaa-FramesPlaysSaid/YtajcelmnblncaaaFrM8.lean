/- The document's frameworks by a list: an act on them: dropping; all acts. -/
import Derived.Test.YtajcelmnblncaaaFrM7
namespace Go.Proofs.Ytajcelmnblncaaa
open Go.RowKit Go.Maps
attribute [local go_sem] ext_cell ext_frozen extC_cell extC_frozen Mix.calmUpon Mix.mUpon eqFr
/-- The blocks of a dropping. -/
structure DC (w wr : World) (b b1 b2 b3 : Nat) (cap : Int) (v : Value) (a : FAct) (vo : Value) (C : List Fr) : Prop where
  sc : SC w wr b b1 b2 cap v a
  m5 : MB wr b3 cap vo
  own : OwnL 114 7 fenc wr (b3 + 1) vo C
  ds : b2 < b3
section
variable {w wr wr' : World} {b b1 b2 b3 : Nat} {cap : Int} {v vo vo' : Value} {a : FAct} {x : Fr} {C : List Fr}
theorem DC.no (h : DC w wr b b1 b2 b3 cap v a vo C) {k : Nat} (hk : k ≤ b3) : ¬ OB vo k := fun e => by have := (h.own.lt k e).1; omega
theorem DC.on (h : DC w wr b b1 b2 b3 cap v a vo C) (hb : Below wr.heap.size wr wr') : DC w wr' b b1 b2 b3 cap v a vo C :=
  ⟨h.sc.on hb, h.m5.below hb, h.own.below hb, h.ds⟩
theorem SC.chg {F : Nat → Prop} (h : SC w wr b b1 b2 cap v a) (hc : Chg F wr wr') (h0 : ¬ F b) (h1 : ¬ F b1) (h2 : ¬ F b2) (hb : ∀ k, F k → b ≤ k) : SC w wr' b b1 b2 cap v a :=
  ⟨h.m2.chg hc h0, h.a3.chg hc h1, h.m4.chg hc h2, h.bel.trans (hc.below (by have := h.ds; omega) hb), by have := h.ds; have := hc.size; omega⟩
/-- One more element, which lies in a new block. -/
theorem DC.app (h : DC w wr b b1 b2 b3 cap v a vo C) (hl : C.length < 1000000) {w1 : World} (hb : Below wr.heap.size wr w1) {q : Nat} (hx : FB w1 q x) :
    ∃ a' m' c' w2, (Builtin.append_ #[104, 104] 104 #[vo, .slice (some ⟨q, 0, none⟩) 1 1]).run Try.prog w1 = .ok (.slice a' m' c') w2 ∧ Chg (OB vo) w1 w2 ∧ (∀ w3, Chg (OB vo) w1 w3 → Below w2.heap.size w2 w3 → DC w (w3.setCell ⟨b3, 1, none⟩ (.slice a' m' c')) b b1 b2 b3 cap v a (.slice a' m' c') (C ++ [x])) := by
  have h1 := h.on hb
  have hd := h1.sc.ds; have hd2 := h1.ds; have hl3 := h1.m5.lt
  obtain ⟨v', w2, hrun, o2, g2, hv2⟩ := own_app h1.own x hx hl (by omega)
  obtain ⟨a', m', c', rfl⟩ : ∃ a' m' c', v' = .slice a' m' c' := by
    rcases o2.2 with ⟨_, h0⟩ | ⟨g', cap', cur', rfl, _⟩
    · simp at h0
    · exact ⟨_, _, _, rfl⟩
  have hc : Chg (OB vo) w1 w2 := .of_grown g2 fun k e => e
  refine ⟨a', m', c', w2, hrun, hc, fun w3 hc3 hb3 => ?_⟩
  have hst : Chg (fun k => k = b3) w3 (w3.setCell ⟨b3, 1, none⟩ (.slice a' m' c')) := (Chg.refl (fun k => k = b3) w3).setCell (p := ⟨b3, 1, none⟩) (.inl rfl) _
  have own3 := o2.below hb3
  have nb : ∀ k, Value.ownBlock (.slice a' m' c') = some k → k ≠ b3 := fun k hk e => by have := (o2.lt k hk).1; omega
  exact ⟨(h1.sc.chg hc3 (h1.no (by omega)) (h1.no (by omega)) (h1.no (by omega)) (fun k hk => by have := (h1.own.lt k hk).1; omega)).chg hst (by show ¬ b = b3; omega) (by show ¬ b1 = b3; omega) (by show ¬ b2 = b3; omega) (fun k e => by rw [e]; omega),
    (h1.m5.chg hc3 (h1.no (Nat.le_refl _))).set1 _, own3.chg hst nb, hd2⟩
end
theorem del_take {S : List Fr} (hS : SF S) {t : Nat} {x : Fr} (hx : S[t]? = some x) (k : Int) : delF (S.take (t + 1)) k = delF (S.take t) k ++ (if (t : Int) ≠ Srt.pl Fr.id S k then [x] else []) := by
  rw [take_at hx]
  show Srt.del Fr.id (S.take t ++ [x]) k = _
  rw [Srt.del_snoc]
  congr 1
  by_cases h : x.id = k
  · have hn : ∀ p ∈ S.take t, p.id ≠ k := fun p hp => by have := lt_of_before hS hx p hp; omega
    have := Srt.pl_some (key := Fr.id) (l := S.take t) (m := S.drop (t + 1)) h hn
    rw [← parted_at hx, List.length_take, Nat.min_eq_left (by have := (List.getElem?_eq_some_iff.1 hx).1; omega)] at this
    rw [if_pos h, if_neg (fun e => e this.symm)]
  · rw [if_neg h, if_pos]
    intro e
    cases hf : fndF S k with
    | none => rw [pl_none' hf] at e; omega
    | some y =>
      obtain ⟨i, h1, h2⟩ := Srt.pl_at hf
      rw [h1] at e
      have : t = i := by omega
      subst this
      rw [hx] at h2
      injection h2 with h2
      subst h2
      exact h (Srt.fnd_mem hf).2
section
variable {w : World} {v : Value} {S : List Fr} {cap : Int}
set_option maxRecDepth 100000 in
set_option maxHeartbeats 4000000 in
theorem mdo_drop (h : FV w v S) (hS : SF S) (hln : S.length < 900000) (xi xr xw xt : Int) : Calls Try.prog 56 #[mval cap v, aval ⟨2, xi, xr, xw, xt⟩] w (RetS w v cap (fstep cap S ⟨2, xi, xr, xw, xt⟩)) := by
  have E1 := Lib.hid (show fstep cap S ⟨2, xi, xr, xw, xt⟩ = (delF S xi, (fndF S xi).isSome, 0) from rfl)
  have HGE := Lib.hid (Srt.pl_fnd (key := Fr.id) S xi)
  obtain ⟨xk, hxk⟩ : ∃ xk : Int, xk = 2 := ⟨_, rfl⟩
  have k0 : (xk == 0) = false := by rw [hxk]; rfl
  have k2 : (xk == 2) = true := by rw [hxk]; rfl
  rw [← hxk] at E1 ⊢
  clear hxk
  have HV := Lib.hid h
  obtain ⟨a, n, cp, rfl, hn, hc, hm, hat⟩ := h.at_
  have HAT := Lib.hid hat
  have hnb : n < 900000 := by omega
  have HN := Lib.hid hn
  have HSF := Lib.hid hS
  clear hat h hn hS
  have HI := SC.start w cap (.slice (a) n cp) ⟨xk, xi, xr, xw, xt⟩
  obtain ⟨b, hbq⟩ : ∃ b, b = w.heap.size := ⟨_, rfl⟩
  obtain ⟨b1, hb1q⟩ : ∃ b1, b1 = b + 1 := ⟨_, rfl⟩
  obtain ⟨b2, hb2q⟩ : ∃ b2, b2 = b1 + 1 := ⟨_, rfl⟩
  have HBQ := Lib.hid hbq
  rw [← hbq, ← hb1q, ← hb2q] at HI
  replace HI := Lib.hid HI
  go_enter Try.func56, Try.ntmps56
  go_wp2_with fail
  rw [← hbq, ← hb1q, ← hb2q]
  clear hbq hb1q hb2q
  generalize ((w.alloc (.cells #[.int .i64 cap, .slice (a) n cp] 106)).alloc (.cells #[.int .i64 xk, .int .i64 xi, .int .i64 xr, .int .i64 xw, .int .i64 xt] 110)).alloc (.cells #[.int .i64 0, .slice none 0 0] 106) = w1 at *
  have HV1 := Lib.hid (HV.out.below (by rw [← HBQ.out]; exact HI.out.bel))
  refine (mat HV1.out xi).mono ?_
  rintro e w2 ⟨rfl, hb2⟩
  have HC2 := Lib.hid (HI.out.on hb2)
  clear hb2
  obtain ⟨p, hp⟩ : ∃ p, Srt.pl Fr.id S xi = p := ⟨_, rfl⟩
  rw [hp] at HGE ⊢
  have HP := Lib.hid hp
  clear hp
  obtain ⟨z0, z1⟩ := HC2.out.m2.cells
  obtain ⟨a0, a1, a2, a3, a4⟩ := HC2.out.a3.cells
  obtain ⟨s0, s1⟩ := HC2.out.m4.cells
  have s2 := HC2.out.m4.fz 0; have s3 := HC2.out.m4.fz 1
  have q0 := HC2.out.m2.lt
  have q1 : b1 < w2.heap.size := by have := HC2.out.ds; omega
  have q2 := HC2.out.m4.lt
  have HD := Lib.hid (show DC w (w2.alloc (.cells #[.int .i64 cap, .slice none 0 0] 106)) b b1 b2 w2.heap.size cap (.slice a n cp) ⟨xk, xi, xr, xw, xt⟩ (.slice none 0 0) (delF (S.take 0) xi) from
    ⟨HC2.out.on (ba (Below.refl _ _) _), MB.made w2 cap _, OwnL.nil _ _ _ _ _, HC2.out.ds.2.2⟩)
  go_wp2
  generalize w2.alloc (.cells #[.int .i64 cap, .slice none 0 0] 106) = w3 at *
  clear z0 z1 a0 a1 a2 a3 a4 s0 s1 s2 s3 q0 q1 q2
  generalize w2.heap.size = b3 at *
  go_loopw [9] (fun iv wr => ∃ (t : Nat) (vo : Value), t ≤ n ∧ iv = .int .i64 t ∧ Hid (DC w wr b b1 b2 b3 cap (.slice a n cp) ⟨xk, xi, xr, xw, xt⟩ vo (delF (S.take t) xi))) (fun iv _ => n - (intOf iv).toNat)
  case atStart => exact ⟨0, _, Nat.zero_le _, rfl, HD⟩
  case round =>
    clear HD
    obtain ⟨t, vo, ht, rfl, HQ⟩ := hrel
    obtain ⟨w4, rfl⟩ : ∃ w4, w4 = wr := ⟨_, rfl⟩
    obtain ⟨z0, z1⟩ := HQ.out.sc.m2.cells
    obtain ⟨a0, a1, a2, a3, a4⟩ := HQ.out.sc.a3.cells
    obtain ⟨s0, s1⟩ := HQ.out.sc.m4.cells
    have s2 := HQ.out.sc.m4.fz 0; have s3 := HQ.out.sc.m4.fz 1
    have q0 := HQ.out.sc.m2.lt
    have q1 : b1 < w4.heap.size := by have := HQ.out.sc.ds; omega
    have q2 := HQ.out.sc.m4.lt
    obtain ⟨y0, y1⟩ := HQ.out.m5.cells
    have q3 := HQ.out.m5.lt
    by_cases hlt : t < n
    · have hts : (t : Int) < (n : Int) := by omega
      obtain ⟨x, hx⟩ := at_lt (l := S) (i := t) (by rw [← HN.out]; exact hlt)
      obtain ⟨bs, off, rfl, hbs, hcell⟩ := HAT.out t x hx
      have HCX := Lib.hid hcell
      have HBS := Lib.hid (show bs < b by rw [HBQ.out]; exact hbs)
      have hst := del_take HSF.out hx xi
      rw [HP.out] at hst
      have hcl : (delF (S.take t) xi).length < 1000000 := by
        have h1 : (delF (S.take t) xi).length ≤ (S.take t).length := List.length_filter_le _ _
        have h2 := List.length_take_le t S
        omega
      by_cases hpt : (t : Int) = p
      · have hpn : ((t : Int) != p) = false := by simpa using hpt
        have hpb : ((t : Int) == p) = true := by simpa using hpt
        rw [if_neg (fun e => e hpt), List.append_nil] at hst
        have HST := Lib.hid hst
        clear hst hcell hx hbs hpt
        go_wp2
        go_roundw
        case rel => exact ⟨t + 1, vo, by omega, by go_num, by rw [HST.out]; exact HQ⟩
        case measure => simp [intOf]; omega
      · have hpn : ((t : Int) != p) = true := by simpa using hpt
        have hpb : ((t : Int) == p) = false := by simpa using hpt
        rw [if_pos hpt] at hst
        have HST := Lib.hid hst
        clear hst hcell hx hbs hpt
        have e0 := ((HQ.out.sc.bel).cell (p := ⟨bs, off + t * 7 + 0, none⟩) HBS.out).trans (HCX.out 0 _ rfl)
        have e1 := ((HQ.out.sc.bel).cell (p := ⟨bs, off + t * 7 + 1, none⟩) HBS.out).trans (HCX.out 1 _ rfl)
        have e2 := ((HQ.out.sc.bel).cell (p := ⟨bs, off + t * 7 + 2, none⟩) HBS.out).trans (HCX.out 2 _ rfl)
        have e3 := ((HQ.out.sc.bel).cell (p := ⟨bs, off + t * 7 + 3, none⟩) HBS.out).trans (HCX.out 3 _ rfl)
        have e4 := ((HQ.out.sc.bel).cell (p := ⟨bs, off + t * 7 + 4, none⟩) HBS.out).trans (HCX.out 4 _ rfl)
        have e5 := ((HQ.out.sc.bel).cell (p := ⟨bs, off + t * 7 + 5, none⟩) HBS.out).trans (HCX.out 5 _ rfl)
        have e6 := ((HQ.out.sc.bel).cell (p := ⟨bs, off + t * 7 + 6, none⟩) HBS.out).trans (HCX.out 6 _ rfl)
        simp only [Nat.add_zero] at e0
        have qs : bs < w4.heap.size := by have := HQ.out.sc.ds; have := HBS.out; omega
        have n3 : ¬ OB vo b3 := HQ.out.no (Nat.le_refl _)
        have n2 : ¬ OB vo b := HQ.out.no (by have := HQ.out.sc.ds; have := HQ.out.ds; omega)
        have ns : ¬ OB vo bs := fun e => by have := (HQ.out.own.lt _ e).1; have := HBS.out; have := HQ.out.sc.ds; have := HQ.out.ds; omega
        go_wp2
        refine Mix.regionL (OB vo) (by kernel_rfl) ?_
        intro w5 hb5
        refine Mix.take_exL _ _ 0 rfl (by kernel_rfl) (by kernel_rfl) (by kernel_rfl) (by kernel_rfl) (by kernel_rfl) (by kernel_rfl) (fun K hK => ?_)
        go_simp
        first | (refine hK _ ?_; clear hK K) | (apply Exists.intro; refine ⟨fun x => ?_, hK _ ?_⟩; (fail); clear hK K)
        refine Mix.take_exL _ _ 1 rfl (by kernel_rfl) (by kernel_rfl) (by kernel_rfl) (by kernel_rfl) (by kernel_rfl) (by kernel_rfl) (fun K hK => ?_)
        go_simp
        first | (refine hK _ ?_; clear hK K) | (apply Exists.intro; refine ⟨fun x => ?_, hK _ ?_⟩; (fail); clear hK K)
        refine Mix.take_exL _ _ 2 rfl (by kernel_rfl) (by kernel_rfl) (by kernel_rfl) (by kernel_rfl) (by kernel_rfl) (by kernel_rfl) (fun K hK => ?_)
        go_simp
        first | (refine hK _ ?_; clear hK K) | (apply Exists.intro; refine ⟨fun x => ?_, hK _ ?_⟩; (fail); clear hK K)
        refine Mix.take_exL _ _ 3 rfl (by kernel_rfl) (by kernel_rfl) (by kernel_rfl) (by kernel_rfl) (by kernel_rfl) (by kernel_rfl) (fun K hK => ?_)
        go_simp
        first | (refine hK _ ?_; clear hK K) | (apply Exists.intro; refine ⟨fun x => ?_, hK _ ?_⟩; (fail); clear hK K)
        refine Mix.take_exL _ _ 4 rfl (by kernel_rfl) (by kernel_rfl) (by kernel_rfl) (by kernel_rfl) (by kernel_rfl) (by kernel_rfl) (fun K hK => ?_)
        go_simp
        first | (refine hK _ ?_; clear hK K) | (apply Exists.intro; refine ⟨fun x => ?_, hK _ ?_⟩; (fail); clear hK K)
        refine Mix.take_exL _ _ 5 rfl (by kernel_rfl) (by kernel_rfl) (by kernel_rfl) (by kernel_rfl) (by kernel_rfl) (by kernel_rfl) (fun K hK => ?_)
        go_simp
        first | (refine hK _ ?_; clear hK K) | (apply Exists.intro; refine ⟨fun x => ?_, hK _ ?_⟩; (fail); clear hK K)
        refine Mix.take_exL _ _ 6 rfl (by kernel_rfl) (by kernel_rfl) (by kernel_rfl) (by kernel_rfl) (by kernel_rfl) (by kernel_rfl) (fun K hK => ?_)
        go_simp
        first | (refine hK _ ?_; clear hK K) | (apply Exists.intro; refine ⟨fun x => ?_, hK _ ?_⟩; (fail); clear hK K)
        refine Mix.allL (rs := [7]) (by kernel_rfl) (by simp) (.of_below _ hb5) (by kernel_rfl) ?_
        intro i6 hi6 w6 hb6 hC6
        simp only [List.mem_cons, List.not_mem_nil, or_false] at hi6
        subst hi6
        have HB6 := Lib.hid (bt hb5 hb6)
        clear hC6 hb5 hb6
        refine Mix.op rfl (by kernel_rfl) ?_
        go_simp
        refine Mix.allL (rs := [8]) (by kernel_rfl) (by simp) (.of_below _ (ba HB6.out _)) (by kernel_rfl) ?_
        intro i7 hi7 w7 hb7 hC7
        simp only [List.mem_cons, List.not_mem_nil, or_false] at hi7
        subst hi7
        have HB7 := Lib.hid (bt (ba HB6.out (.cells #[.int .i64 x.id, .int .i64 x.role, .int .i64 x.weight, .bool x.up, .bool x.quiet, .int .i64 x.time, .int .i64 x.til] 114)) hb7)
        have hFX := (FB.made w6 x).below hb7
        clear hC7 hb7
        obtain ⟨a', m', c', w8, hrun, hch, hnx⟩ := HQ.out.app (x := x) hcl HB7.out hFX
        have HCH := Lib.hid hch; have HNX := Lib.hid hnx; have HRA := Lib.hid hrun
        clear hch hnx hrun hFX
        refine Mix.opApp rfl (by kernel_rfl) _ _ _ rfl rfl rfl HRA.out ?_
        go_simp
        refine Mix.take_exL _ _ 9 rfl (by kernel_rfl) (by kernel_rfl) (by kernel_rfl) (by kernel_rfl) (by kernel_rfl) (by kernel_rfl) (fun K hK => ?_)
        go_simp
        first | (refine hK _ ?_; clear hK K) | (apply Exists.intro; refine ⟨fun x => ?_, hK _ ?_⟩; (fail); clear hK K)
        refine Mix.allL (rs := [10]) (by kernel_rfl) (by simp) ((Chg.of_below _ HB7.out).same HCH.out) (by kernel_rfl) ?_
        intro i9 hi9 w9 hb9 hC9
        simp only [List.mem_cons, List.not_mem_nil, or_false] at hi9
        subst hi9
        have hp9 := HNX.out w9 (HCH.out.then_below hb9) hb9
        have y9 : w9.cell? ⟨b3, 1, none⟩ = some vo := ((HCH.out.then_below hb9).cell (b := b3) (by have := HB7.out.size; omega) n3 1).trans ((HB7.out.cell (p := ⟨b3, 1, none⟩) q3).trans y1)
        have y8 : w9.frozen? ⟨b3, 1, none⟩ = false := ((HCH.out.then_below hb9).frozen (b := b3) (by have := HB7.out.size; omega) n3 1).trans ((World.frozen?_of_block (a := ⟨b3, 1, none⟩) (HB7.out.block b3 q3)).trans (HQ.out.m5.fz 1))
        have q9 : b3 < w9.heap.size := by have := HB7.out.size; have := HCH.out.size; have := hb9.size; omega
        have HP9 := Lib.hid hp9
        clear z0 z1 a0 a1 a2 a3 a4 s0 s1 s2 s3 q0 q1 q2
        clear hC9 hp9 hb9 e0 e1 e2 e3 e4 e5 e6 n3 n2 ns qs y0 y1 q3
        refine Mix.op rfl (by kernel_rfl) ?_
        go_simp
        refine Mix.doneL (by kernel_rfl) (by kernel_rfl) ?_
        intro w10 hb10
        have HP10 := Lib.hid (HP9.out.on hb10)
        clear hb10 y9 y8 q9
        go_wp2
        go_roundw
        case rel => exact ⟨t + 1, _, by omega, by go_num, by rw [HST.out]; exact Lib.hid HP10.out⟩
        case measure => simp [intOf]; omega
    · obtain rfl : n = t := by omega
      have hT : S.take n = S := by rw [HN.out, List.take_length]
      have HQ2 := HQ.out
      rw [hT] at HQ2
      replace HQ2 := Lib.hid HQ2
      clear hT HQ
      obtain ⟨ao, mo, co, hvo⟩ : ∃ ao mo co, vo = .slice ao mo co := by
        rcases HQ2.out.own.2 with ⟨hv, h0⟩ | ⟨g', cap', cur', hv, _⟩
        · exact ⟨_, _, _, hv⟩
        · exact ⟨_, _, _, hv⟩
      subst hvo
      have hge := HGE.out
      go_wp2
      refine bodyPost_ret (res_m3 Try.results56 rfl (HQ2.out.sc.m4.set2 cap (.slice ao mo co))) rfl ?_
      have hst : Chg (fun k => k = b2) w4 ((w4.setCell ⟨b2, 0, none⟩ (.int .i64 cap)).setCell ⟨b2, 1, none⟩ (.slice ao mo co)) := ((Chg.refl (fun k => k = b2) w4).setCell (p := ⟨b2, 0, none⟩) (.inl rfl) _).setCell (p := ⟨b2, 1, none⟩) (.inl rfl) _
      have hd := HQ2.out.sc.ds
      have hd2 := HQ2.out.ds
      have hol := HQ2.out.own.lt
      have hbx := HQ2.out.sc.bel.trans (hst.below (by omega) fun k e => by rw [e]; omega)
      rw [HBQ.out] at hbx
      unfold RetS
      rw [E1.out, ← HGE.out]
      exact ⟨_, rfl, (HQ2.out.own.chg hst (fun k hk e => by have := (hol k hk).1; omega)).rs (fun _ => rfl), fun k hk => .inr (by have h1 := hol k hk; have h2 := hst.size; rw [← HBQ.out]; exact ⟨by omega, by omega⟩), hbx⟩
theorem mdo (h : FV w v S) (hvb : ∀ b, v.ownBlock = some b → b < w.heap.size) (hS : SF S) (hok : ∀ f ∈ S, FOk f) (hW : ∀ y ∈ S, wtF S y.role = y.weight) (hln : S.length < 900000) (x : FAct) : Calls Try.prog 56 #[mval cap v, aval x] w (RetS w v cap (fstep cap S x)) := by
  obtain ⟨xk, xi, xr, xw, xt⟩ := x
  by_cases h0 : xk = 0
  · subst h0; exact mdo_sub h hvb hS hok hW hln xi xr xw xt
  · by_cases h2 : xk = 2
    · subst h2; exact mdo_drop h hS hln xi xr xw xt
    · cases hf : fndF S xi with
      | none => exact mdo_none h ⟨xk, xi, xr, xw, xt⟩ h0 h2 hf
      | some y =>
        by_cases h1 : xk = 1
        · subst h1; exact mdo_dis h hS hok hln xi xr xw xt hf
        · exact mdo_qui h hS hok hln xk xi xr xw xt h0 h1 h2 hf
end
end Go.Proofs.Ytajcelmnblncaaa

/- The document's frameworks by a list: the walk of with. -/
import Derived.Test.YtnckjacbkhoppaaQM3
namespace Go.Proofs.Ytnckjacbkhoppaa
open Go.RowKit Go.Maps
attribute [local go_sem] ext_cell ext_frozen extC_cell extC_frozen Mix.calmUpon Mix.mUpon
def OB (v : Value) : Nat → Prop := fun k => v.ownBlock = some k
/-- The blocks of a call of with. -/
structure WC (w wr : World) (b b1 b2 b3 : Nat) (cap : Int) (v : Value) (f : On) (vo : Value) (C : List On) : Prop where
  m2 : MB wr b cap v
  f3 : OB1 wr b1 f
  m4 : MB wr b2 0 (.slice none 0 0)
  m5 : MB wr b3 cap vo
  own : OwnL 130 3 onenc wr (b3 + 1) vo C
  bel : Below b w wr
  ds : b < b1 ∧ b1 < b2 ∧ b2 < b3 ∧ b3 < wr.heap.size
section
variable {w wr wr' : World} {b b1 b2 b3 : Nat} {cap : Int} {v vo vo' : Value} {f x : On} {C : List On}
theorem WC.no (h : WC w wr b b1 b2 b3 cap v f vo C) {k : Nat} (hk : k ≤ b3) : ¬ OB vo k := fun e => by have := (h.own.lt k e).1; omega
theorem WC.on (h : WC w wr b b1 b2 b3 cap v f vo C) (hb : Below wr.heap.size wr wr') : WC w wr' b b1 b2 b3 cap v f vo C :=
  ⟨h.m2.below hb, h.f3.below hb, h.m4.below hb, h.m5.below hb, h.own.below hb, h.bel.trans (hb.mono (by have := h.ds; omega)), by have := h.ds; have := hb.size; omega⟩
/-- One more element, which lies in a new block. -/
theorem WC.app (h : WC w wr b b1 b2 b3 cap v f vo C) (hl : C.length < 1000000) {w1 : World} (hb : Below wr.heap.size wr w1) {q : Nat} (hx : OB1 w1 q x) :
    ∃ a' m' c' w2, (Builtin.append_ #[121, 121] 121 #[vo, .slice (some ⟨q, 0, none⟩) 1 1]).run Try.prog w1 = .ok (.slice a' m' c') w2 ∧ Chg (OB vo) w1 w2 ∧ (∀ w3, Chg (OB vo) w1 w3 → Below w2.heap.size w2 w3 → WC w (w3.setCell ⟨b3, 1, none⟩ (.slice a' m' c')) b b1 b2 b3 cap v f (.slice a' m' c') (C ++ [x])) := by
  have h1 := h.on hb
  have hd := h1.ds
  obtain ⟨v', w2, hrun, o2, g2, hv2⟩ := own_appO h1.own x hx hl (by omega)
  obtain ⟨a', m', c', rfl⟩ : ∃ a' m' c', v' = .slice a' m' c' := by
    rcases o2.2 with ⟨_, h0⟩ | ⟨g', cap', cur', rfl, _⟩
    · simp at h0
    · exact ⟨_, _, _, rfl⟩
  have hc : Chg (OB vo) w1 w2 := .of_grown g2 fun k e => e
  refine ⟨a', m', c', w2, hrun, hc, fun w3 hc3 hb3 => ?_⟩
  have hst : Chg (fun k => k = b3) w3 (w3.setCell ⟨b3, 1, none⟩ (.slice a' m' c')) := (Chg.refl (fun k => k = b3) w3).setCell (p := ⟨b3, 1, none⟩) (.inl rfl) _
  have own3 := o2.below hb3
  have hs3 := hc3.size
  have nb : ∀ k, Value.ownBlock (.slice a' m' c') = some k → k ≠ b3 := fun k hk e => by have := (o2.lt k hk).1; omega
  exact ⟨(h1.m2.chg hc3 (h1.no (by omega))).chg hst (by show ¬ b = b3; omega), (h1.f3.chg hc3 (h1.no (by omega))).chg hst (by show ¬ b1 = b3; omega), (h1.m4.chg hc3 (h1.no (by omega))).chg hst (by show ¬ b2 = b3; omega),
    (h1.m5.chg hc3 (h1.no (by omega))).set1 _, own3.chg hst nb, h1.bel.trans ((hc3.below (by omega) (fun k hk => by have := (h1.own.lt k hk).1; omega)).trans (hst.below (by omega) (fun k e => by rw [e]; omega))), by simp [World.setCell]; omega⟩
end
theorem res_m {fn : Func} {tmps : Array Value} {w : World} {p b : Nat} {cap : Int} {v : Value} (h : fn.results = #[.cell p 123]) (hp : tmps.getD p undef = .pointer (some ⟨b, 0, none⟩)) (hb : MB w b cap v) :
    (results fn tmps).run Try.prog w = .ok (mval cap v) w := by
  simp only [results, h]
  have hp' : tmps[p]?.getD undef = .pointer (some ⟨b, 0, none⟩) := by simpa [Array.getD_eq_getD_getElem?] using hp
  simp [Sem.run_bind, Result.andThen, hp', asAddr, hb.load]
section
variable {w : World} {v : Value} {S : List On} {cap : Int} {f : On}
/-- A list with a cap that a call answers. -/
def RetM (w : World) (cap : Int) (S : List On) (e : Ending) (w' : World) : Prop := ∃ v, e = .returned (mval cap v) ∧ OV1 w' v S ∧ (∀ b, v.ownBlock = some b → w.heap.size ≤ b ∧ b < w'.heap.size) ∧ Below w.heap.size w w'
set_option maxRecDepth 100000 in
set_option maxHeartbeats 4000000 in
theorem mwith (h : OV1 w v S) (hS : SO S) (hln : S.length < 900000) : Calls Try.prog 128 #[mval cap v, oval f] w (RetM w cap (putO S f)) := by
  obtain ⟨a, n, cp, rfl, hn, hc, hm, hat⟩ := h.at_
  have HAT := Lib.hid hat
  have hnb : n < 900000 := by omega
  have HN := Lib.hid hn
  obtain ⟨b, hbq⟩ : ∃ b, b = w.heap.size := ⟨_, rfl⟩
  have HBQ := Lib.hid hbq
  obtain ⟨b1, hb1q⟩ : ∃ b1, b1 = b + 1 := ⟨_, rfl⟩
  obtain ⟨b2, hb2q⟩ : ∃ b2, b2 = b1 + 1 := ⟨_, rfl⟩
  obtain ⟨b3, hb3q⟩ : ∃ b3, b3 = b2 + 1 := ⟨_, rfl⟩
  have HI := Lib.hid (show WC w ((((w.alloc (.cells #[.int .i64 cap, .slice a n cp] 123)).alloc (.cells #[.int .i64 f.frame, .slice f.va f.vn f.vc, .int .i64 f.lost] 130)).alloc (.cells #[.int .i64 0, .slice none 0 0] 123)).alloc (.cells #[.int .i64 cap, .slice none 0 0] 123)) b b1 b2 b3 cap (.slice a n cp) f (.slice none 0 0) [] ∧ WI S f 0 false [] from by
    subst hb3q; subst hb2q; subst hb1q; subst hbq
    have s1 : (w.alloc (.cells #[.int .i64 cap, .slice a n cp] 123)).heap.size = w.heap.size + 1 := by simp
    have s2 : ((w.alloc (.cells #[.int .i64 cap, .slice a n cp] 123)).alloc (.cells #[.int .i64 f.frame, .slice f.va f.vn f.vc, .int .i64 f.lost] 130)).heap.size = w.heap.size + 1 + 1 := by simp
    have s3 : (((w.alloc (.cells #[.int .i64 cap, .slice a n cp] 123)).alloc (.cells #[.int .i64 f.frame, .slice f.va f.vn f.vc, .int .i64 f.lost] 130)).alloc (.cells #[.int .i64 0, .slice none 0 0] 123)).heap.size = w.heap.size + 1 + 1 + 1 := by simp
    refine ⟨⟨(MB.made w cap _).below (ba (ba (ba (Below.refl _ _) _) _) _), ?_, ?_, ?_, OwnL.nil _ _ _ _ _, ba (ba (ba (ba (Below.refl _ _) _) _) _) _, by simp⟩, .inl ⟨rfl, rfl, fun q hq => by simp at hq⟩⟩
    · have := (OB1.made (w.alloc (.cells #[.int .i64 cap, .slice a n cp] 123)) f)
      rw [s1] at this
      exact (this.alloc _).alloc _
    · have := MB.made ((w.alloc (.cells #[.int .i64 cap, .slice a n cp] 123)).alloc (.cells #[.int .i64 f.frame, .slice f.va f.vn f.vc, .int .i64 f.lost] 130)) 0 (.slice none 0 0)
      rw [s2] at this
      exact this.below (ba (Below.refl _ _) _)
    · have := MB.made (((w.alloc (.cells #[.int .i64 cap, .slice a n cp] 123)).alloc (.cells #[.int .i64 f.frame, .slice f.va f.vn f.vc, .int .i64 f.lost] 130)).alloc (.cells #[.int .i64 0, .slice none 0 0] 123)) cap (.slice none 0 0)
      rw [s3] at this
      exact this)
  have HSF := Lib.hid hS
  clear hat h hn hS
  go_enter Try.func128, Try.ntmps128
  go_wp2
  rw [← hbq, ← hb1q, ← hb2q, ← hb3q]
  clear hbq hb1q hb2q hb3q
  generalize ((((w.alloc (.cells #[.int .i64 cap, .slice a n cp] 123)).alloc (.cells #[.int .i64 f.frame, .slice f.va f.vn f.vc, .int .i64 f.lost] 130)).alloc (.cells #[.int .i64 0, .slice none 0 0] 123)).alloc (.cells #[.int .i64 cap, .slice none 0 0] 123)) = w1 at *
  go_loopw [6, 7] (fun dv iv wr => ∃ (t : Nat) (d : Bool) (vo : Value) (C : List On), t ≤ n ∧ iv = .int .i64 t ∧ dv = .bool d ∧ Hid (WC w wr b b1 b2 b3 cap (.slice a n cp) f vo C ∧ WI S f t d C)) (fun _ iv _ => n - (intOf iv).toNat)
  case atStart => exact ⟨0, false, _, [], Nat.zero_le _, rfl, rfl, HI⟩
  case round =>
    clear HI
    obtain ⟨t, d, vo, C, ht, rfl, rfl, HQ⟩ := hrel
    obtain ⟨w2, rfl⟩ : ∃ w2, w2 = wr := ⟨_, rfl⟩
    by_cases hlt : t < n
    · have hts : (t : Int) < (n : Int) := by omega
      obtain ⟨x, hx⟩ := at_lt (l := S) (i := t) (by rw [← HN.out]; exact hlt)
      obtain ⟨bs, off, rfl, hbs, hcell⟩ := HAT.out t x hx
      have HCX := Lib.hid hcell
      have HBS := Lib.hid (show bs < b by rw [HBQ.out]; exact hbs)
      have hst := HQ.out.2.step HSF.out hx
      have HCL := Lib.hid (show C.length ≤ n + 1 by have := HQ.out.2.len; omega)
      clear hcell hx hbs
      cases d with
      | true =>
        have HWI := Lib.hid (show WI S f (t + 1) true (C ++ if x.frame ≠ f.frame then [x] else []) from by
          rw [if_neg (fun e => by cases e.1), Bool.true_or] at hst; exact hst)
        clear hst
        have H2 := Lib.hid HQ.out.1
        clear HQ
        obtain ⟨z0, z1⟩ := H2.out.m2.cells
        obtain ⟨y0, y1⟩ := H2.out.m5.cells
        obtain ⟨x0, x1, x2⟩ := H2.out.f3.cells
        have q0 := H2.out.m2.lt
        have q1 : b1 < w2.heap.size := by have := H2.out.ds; omega
        have q2 : b2 < w2.heap.size := by have := H2.out.ds; omega
        have q3 := H2.out.m5.lt
        have qs : bs < w2.heap.size := by have := H2.out.ds; have := HBS.out; omega
        have e0 := ((H2.out.bel).cell (p := ⟨bs, off + t * 3 + 0, none⟩) HBS.out).trans (HCX.out 0 _ rfl)
        have e1 := ((H2.out.bel).cell (p := ⟨bs, off + t * 3 + 1, none⟩) HBS.out).trans (HCX.out 1 _ rfl)
        have e2 := ((H2.out.bel).cell (p := ⟨bs, off + t * 3 + 2, none⟩) HBS.out).trans (HCX.out 2 _ rfl)
        simp only [Nat.add_zero] at e0
        go_wp2
        refine wp_region_pure (by kernel_rfl) (by kernel_rfl) ?_
        repeat (first | go_big_quiet_step ((fail)) | (quiet_step ((fail))))
        refine wpQuiet_nil ?_
        rintro w3 ⟨x3, hx3⟩
        have hb3 := ext_below _ x3
        rw [← hx3] at hb3
        clear hx3 x3
        have hs3 : w2.heap.size + 0 ≤ w3.heap.size := (by have h := hb3.size; first | omega | (simp at h; omega))
        obtain ⟨hc3, hf3, hl3⟩ := bcell hb3
        clear hl3
        have H3 := Lib.hid (H2.out.on hb3)
        clear z0 z1 y0 y1 x0 x1 x2 q0 q1 q2 q3 qs
        clear hb3 hc3 hf3 e0 e1 e2
        obtain ⟨z0, z1⟩ := H3.out.m2.cells
        obtain ⟨y0, y1⟩ := H3.out.m5.cells
        obtain ⟨x0, x1, x2⟩ := H3.out.f3.cells
        have q0 := H3.out.m2.lt
        have q1 : b1 < w3.heap.size := by have := H3.out.ds; omega
        have q2 : b2 < w3.heap.size := by have := H3.out.ds; omega
        have q3 := H3.out.m5.lt
        have qs : bs < w3.heap.size := by have := H3.out.ds; have := HBS.out; omega
        have e0 := ((H3.out.bel).cell (p := ⟨bs, off + t * 3 + 0, none⟩) HBS.out).trans (HCX.out 0 _ rfl)
        have e1 := ((H3.out.bel).cell (p := ⟨bs, off + t * 3 + 1, none⟩) HBS.out).trans (HCX.out 1 _ rfl)
        have e2 := ((H3.out.bel).cell (p := ⟨bs, off + t * 3 + 2, none⟩) HBS.out).trans (HCX.out 2 _ rfl)
        simp only [Nat.add_zero] at e0
        by_cases hxe : x.frame = f.frame
        · have hxn : (x.frame != f.frame) = false := by simpa using hxe
          have hxb : (x.frame == f.frame) = true := by simpa using hxe
          have HW := Lib.hid (show WI S f (t + 1) true C from by have := HWI.out; rw [if_neg (fun e => e hxe), List.append_nil] at this; exact this)
          clear hxe
          go_wp2
          refine wp_region_pure (by kernel_rfl) (by kernel_rfl) ?_
          repeat (first | go_big_quiet_step ((fail)) | (quiet_step ((fail))))
          refine wpQuiet_nil ?_
          rintro w4 ⟨x4, hx4⟩
          have hb4 := ext_below _ x4
          rw [← hx4] at hb4
          clear hx4 x4
          have hs4 : w3.heap.size + 0 ≤ w4.heap.size := (by have h := hb4.size; first | omega | (simp at h; omega))
          obtain ⟨hc4, hf4, hl4⟩ := bcell hb4
          clear hl4
          have H4 := Lib.hid (H3.out.on hb4)
          clear z0 z1 y0 y1 x0 x1 x2 q0 q1 q2 q3 qs
          clear hb4 hc4 hf4 e0 e1 e2
          go_wp2
          go_roundw
          case rel => exact ⟨t + 1, true, _, _, by omega, by go_num, rfl, Lib.hid ⟨H4.out, HW.out⟩⟩
          case measure => simp [intOf]; omega
        · have hxn : (x.frame != f.frame) = true := by simpa using hxe
          have hxb : (x.frame == f.frame) = false := by simpa using hxe
          have HW := Lib.hid (show WI S f (t + 1) true (C ++ [x]) from by have := HWI.out; rw [if_pos hxe] at this; exact this)
          clear hxe
          go_wp2
          refine wp_region_pure (by kernel_rfl) (by kernel_rfl) ?_
          repeat (first | go_big_quiet_step ((fail)) | (quiet_step ((fail))))
          refine wpQuiet_nil ?_
          rintro w4 ⟨x4, hx4⟩
          have hb4 := ext_below _ x4
          rw [← hx4] at hb4
          clear hx4 x4
          have hs4 : w3.heap.size + 0 ≤ w4.heap.size := (by have h := hb4.size; first | omega | (simp at h; omega))
          obtain ⟨hc4, hf4, hl4⟩ := bcell hb4
          clear hl4
          have H4 := Lib.hid (H3.out.on hb4)
          clear z0 z1 y0 y1 x0 x1 x2 q0 q1 q2 q3 qs
          clear hb4 hc4 hf4 e0 e1 e2
          obtain ⟨z0, z1⟩ := H4.out.m2.cells
          obtain ⟨y0, y1⟩ := H4.out.m5.cells
          obtain ⟨x0, x1, x2⟩ := H4.out.f3.cells
          have q0 := H4.out.m2.lt
          have q1 : b1 < w4.heap.size := by have := H4.out.ds; omega
          have q2 : b2 < w4.heap.size := by have := H4.out.ds; omega
          have q3 := H4.out.m5.lt
          have qs : bs < w4.heap.size := by have := H4.out.ds; have := HBS.out; omega
          have e0 := ((H4.out.bel).cell (p := ⟨bs, off + t * 3 + 0, none⟩) HBS.out).trans (HCX.out 0 _ rfl)
          have e1 := ((H4.out.bel).cell (p := ⟨bs, off + t * 3 + 1, none⟩) HBS.out).trans (HCX.out 1 _ rfl)
          have e2 := ((H4.out.bel).cell (p := ⟨bs, off + t * 3 + 2, none⟩) HBS.out).trans (HCX.out 2 _ rfl)
          simp only [Nat.add_zero] at e0
          have n3 : ¬ OB vo b3 := H4.out.no (Nat.le_refl _)
          have n2 : ¬ OB vo b := H4.out.no (by have := H4.out.ds; omega)
          have ns : ¬ OB vo bs := fun e => by have := (H4.out.own.lt _ e).1; have := HBS.out; have := H4.out.ds; omega
          go_wp2
          refine Mix.regionL (OB vo) (by kernel_rfl) ?_
          intro w5 hb5
          refine Mix.take_exL _ _ 0 rfl (by kernel_rfl) (by kernel_rfl) (by kernel_rfl) (by kernel_rfl) (by kernel_rfl) (by kernel_rfl) (fun K hK => ?_)
          go_simp
          first | (refine hK _ ?_; clear hK K) | (apply Exists.intro; refine ⟨fun x => ?_, hK _ ?_⟩; (fail); clear hK K)
          refine Mix.take_exL _ _ 1 rfl (by kernel_rfl) (by kernel_rfl) (by kernel_rfl) (by kernel_rfl) (by kernel_rfl) (by kernel_rfl) (fun K hK => ?_)
          go_simp
          first | (refine hK _ ?_; clear hK K) | (apply Exists.intro; refine ⟨fun x => ?_, hK _ ?_⟩; (fail); clear hK K)
          refine Mix.take_exL _ _ 2 rfl (by kernel_rfl) (by kernel_rfl) (by kernel_rfl) (by kernel_rfl) (by kernel_rfl) (by kernel_rfl) (fun K hK => ?_)
          go_simp
          first | (refine hK _ ?_; clear hK K) | (apply Exists.intro; refine ⟨fun x => ?_, hK _ ?_⟩; (fail); clear hK K)
          refine Mix.take_exL _ _ 3 rfl (by kernel_rfl) (by kernel_rfl) (by kernel_rfl) (by kernel_rfl) (by kernel_rfl) (by kernel_rfl) (fun K hK => ?_)
          go_simp
          first | (refine hK _ ?_; clear hK K) | (apply Exists.intro; refine ⟨fun x => ?_, hK _ ?_⟩; (fail); clear hK K)
          refine Mix.take_exL _ _ 4 rfl (by kernel_rfl) (by kernel_rfl) (by kernel_rfl) (by kernel_rfl) (by kernel_rfl) (by kernel_rfl) (fun K hK => ?_)
          go_simp
          first | (refine hK _ ?_; clear hK K) | (apply Exists.intro; refine ⟨fun x => ?_, hK _ ?_⟩; (fail); clear hK K)
          refine Mix.take_exL _ _ 5 rfl (by kernel_rfl) (by kernel_rfl) (by kernel_rfl) (by kernel_rfl) (by kernel_rfl) (by kernel_rfl) (fun K hK => ?_)
          go_simp
          first | (refine hK _ ?_; clear hK K) | (apply Exists.intro; refine ⟨fun x => ?_, hK _ ?_⟩; (fail); clear hK K)
          refine Mix.take_exL _ _ 6 rfl (by kernel_rfl) (by kernel_rfl) (by kernel_rfl) (by kernel_rfl) (by kernel_rfl) (by kernel_rfl) (fun K hK => ?_)
          go_simp
          first | (refine hK _ ?_; clear hK K) | (apply Exists.intro; refine ⟨fun x => ?_, hK _ ?_⟩; (fail); clear hK K)
          refine Mix.allL (rs := [7]) (by kernel_rfl) (by simp) (.of_below _ hb5) (by kernel_rfl) ?_
          intro i6 hi6 w6 hb6 hC6
          simp only [List.mem_cons, List.not_mem_nil, or_false] at hi6
          subst hi6
          have HB6 := Lib.hid (bt hb5 hb6)
          clear hC6 hb5 hb6
          refine Mix.op rfl (by kernel_rfl) ?_
          go_simp
          refine Mix.allL (rs := [8]) (by kernel_rfl) (by simp) (.of_below _ (ba HB6.out _)) (by kernel_rfl) ?_
          intro i7 hi7 w7 hb7 hC7
          simp only [List.mem_cons, List.not_mem_nil, or_false] at hi7
          subst hi7
          have HB7 := Lib.hid (bt (ba HB6.out (.cells #[.int .i64 x.frame, .slice x.va x.vn x.vc, .int .i64 x.lost] 130)) hb7)
          have hFX := (OB1.made w6 x).below hb7
          clear hC7 hb7
          obtain ⟨a', m', c', w8, hrun, hch, hnx⟩ := H4.out.app (x := x) (by have := HCL.out; omega) HB7.out hFX
          have HCH := Lib.hid hch; have HNX := Lib.hid hnx; have HRA := Lib.hid hrun
          clear hch hnx hrun hFX
          refine Mix.opApp rfl (by kernel_rfl) _ _ _ rfl rfl rfl HRA.out ?_
          go_simp
          refine Mix.take_exL _ _ 9 rfl (by kernel_rfl) (by kernel_rfl) (by kernel_rfl) (by kernel_rfl) (by kernel_rfl) (by kernel_rfl) (fun K hK => ?_)
          go_simp
          first | (refine hK _ ?_; clear hK K) | (apply Exists.intro; refine ⟨fun x => ?_, hK _ ?_⟩; (fail); clear hK K)
          refine Mix.allL (rs := [10]) (by kernel_rfl) (by simp) ((Chg.of_below _ HB7.out).same HCH.out) (by kernel_rfl) ?_
          intro i9 hi9 w9 hb9 hC9
          simp only [List.mem_cons, List.not_mem_nil, or_false] at hi9
          subst hi9
          have hp9 := HNX.out w9 (HCH.out.then_below hb9) hb9
          have y9 : w9.cell? ⟨b3, 1, none⟩ = some vo := ((HCH.out.then_below hb9).cell (b := b3) (by have := HB7.out.size; omega) n3 1).trans ((HB7.out.cell (p := ⟨b3, 1, none⟩) q3).trans y1)
          have y8 : w9.frozen? ⟨b3, 1, none⟩ = false := ((HCH.out.then_below hb9).frozen (b := b3) (by have := HB7.out.size; omega) n3 1).trans ((World.frozen?_of_block (a := ⟨b3, 1, none⟩) (HB7.out.block b3 q3)).trans (H4.out.m5.fz 1))
          have q9 : b3 < w9.heap.size := by have := HB7.out.size; have := HCH.out.size; have := hb9.size; omega
          have HP9 := Lib.hid hp9
          clear z0 z1 y0 y1 x0 x1 x2 q0 q1 q2 q3 qs
          clear hC9 hp9 hb9 e0 e1 e2 n3 n2 ns
          refine Mix.op rfl (by kernel_rfl) ?_
          go_simp
          refine Mix.doneL (by kernel_rfl) (by kernel_rfl) ?_
          intro w10 hb10
          have HP10 := Lib.hid (HP9.out.on hb10)
          clear hb10 y9 y8 q9
          go_wp2
          go_roundw
          case rel => exact ⟨t + 1, true, _, _, by omega, by go_num, rfl, Lib.hid ⟨HP10.out, HW.out⟩⟩
          case measure => simp [intOf]; omega
      | false =>
        by_cases h1 : f.frame ≤ x.frame
        · have HWI := Lib.hid (show WI S f (t + 1) true ((C ++ [f]) ++ if x.frame ≠ f.frame then [x] else []) from by
            rw [if_pos ⟨rfl, h1⟩, decide_eq_true h1] at hst; exact hst)
          have HCL := Lib.hid (show (C ++ [f]).length ≤ n + 1 by
            have h2 := HQ.out.2
            have h3 := List.length_take_le t S
            unfold WI at h2
            rcases h2 with ⟨_, rfl, _⟩ | ⟨h2, _⟩
            · rw [List.length_append, List.length_singleton]; omega
            · cases h2)
          have h1b : decide (f.frame ≤ x.frame) = true := decide_eq_true h1
          have H2 := Lib.hid HQ.out.1
          clear HQ hst
          obtain ⟨z0, z1⟩ := H2.out.m2.cells
          obtain ⟨y0, y1⟩ := H2.out.m5.cells
          obtain ⟨x0, x1, x2⟩ := H2.out.f3.cells
          have q0 := H2.out.m2.lt
          have q1 : b1 < w2.heap.size := by have := H2.out.ds; omega
          have q2 : b2 < w2.heap.size := by have := H2.out.ds; omega
          have q3 := H2.out.m5.lt
          have qs : bs < w2.heap.size := by have := H2.out.ds; have := HBS.out; omega
          have e0 := ((H2.out.bel).cell (p := ⟨bs, off + t * 3 + 0, none⟩) HBS.out).trans (HCX.out 0 _ rfl)
          have e1 := ((H2.out.bel).cell (p := ⟨bs, off + t * 3 + 1, none⟩) HBS.out).trans (HCX.out 1 _ rfl)
          have e2 := ((H2.out.bel).cell (p := ⟨bs, off + t * 3 + 2, none⟩) HBS.out).trans (HCX.out 2 _ rfl)
          simp only [Nat.add_zero] at e0
          go_wp2
          refine wp_region_pure (by kernel_rfl) (by kernel_rfl) ?_
          repeat (first | go_big_quiet_step ((fail)) | (quiet_step ((fail))))
          refine wpQuiet_nil ?_
          rintro w30 ⟨x30, hx30⟩
          have hb30 := ext_below _ x30
          rw [← hx30] at hb30
          clear hx30 x30
          have hs30 : w2.heap.size + 0 ≤ w30.heap.size := (by have h := hb30.size; first | omega | (simp at h; omega))
          obtain ⟨hc30, hf30, hl30⟩ := bcell hb30
          clear hl30
          have H30 := Lib.hid (H2.out.on hb30)
          clear z0 z1 y0 y1 x0 x1 x2 q0 q1 q2 q3 qs
          clear hb30 hc30 hf30 e0 e1 e2
          obtain ⟨a9, m9, c9, w8, hrun, hch, hnx⟩ := H30.out.app (x := f) (by have := HCL.out; rw [List.length_append, List.length_singleton] at this; omega) (ba (Below.refl _ _) _) (OB1.made w30 f)
          have HCH := Lib.hid hch
          have HP9 := Lib.hid (hnx w8 hch (Below.refl _ _))
          have HRA := Lib.hid hrun
          obtain ⟨z0, z1⟩ := H30.out.m2.cells
          obtain ⟨y0, y1⟩ := H30.out.m5.cells
          obtain ⟨x0, x1, x2⟩ := H30.out.f3.cells
          have q0 := H30.out.m2.lt
          have q1 : b1 < w30.heap.size := by have := H30.out.ds; omega
          have q2 : b2 < w30.heap.size := by have := H30.out.ds; omega
          have q3 := H30.out.m5.lt
          have qs : bs < w30.heap.size := by have := H30.out.ds; have := HBS.out; omega
          have n3 : ¬ OB vo b3 := H30.out.no (Nat.le_refl _)
          have y9 : w8.cell? ⟨b3, 1, none⟩ = some vo := (HCH.out.cell (b := b3) (by simp; omega) n3 1).trans (((ba (Below.refl _ _) _ : Below w30.heap.size w30 (w30.alloc _)).cell (p := ⟨b3, 1, none⟩) q3).trans y1)
          have y8 : w8.frozen? ⟨b3, 1, none⟩ = false := (HCH.out.frozen (b := b3) (by simp; omega) n3 1).trans ((World.frozen?_of_block (a := ⟨b3, 1, none⟩) ((ba (Below.refl _ _) _ : Below w30.heap.size w30 (w30.alloc _)).block b3 q3)).trans (H30.out.m5.fz 1))
          have q9 : b3 < w8.heap.size := by have := HCH.out.size; simp at this; omega
          clear hrun hch hnx
          go_wp2_with (at_builtin; refine wpList_app_run rfl _ _ _ rfl rfl rfl HRA.out ?_)
          clear z0 z1 y0 y1 x0 x1 x2 q0 q1 q2 q3 qs
          clear y9 y8 q9 n3
          generalize w8.setCell ⟨b3, 1, none⟩ (.slice a9 m9 c9) = w3 at *
          have H3 := Lib.hid HP9.out
          clear HP9
          obtain ⟨z0, z1⟩ := H3.out.m2.cells
          obtain ⟨y0, y1⟩ := H3.out.m5.cells
          obtain ⟨x0, x1, x2⟩ := H3.out.f3.cells
          have q0 := H3.out.m2.lt
          have q1 : b1 < w3.heap.size := by have := H3.out.ds; omega
          have q2 : b2 < w3.heap.size := by have := H3.out.ds; omega
          have q3 := H3.out.m5.lt
          have qs : bs < w3.heap.size := by have := H3.out.ds; have := HBS.out; omega
          have e0 := ((H3.out.bel).cell (p := ⟨bs, off + t * 3 + 0, none⟩) HBS.out).trans (HCX.out 0 _ rfl)
          have e1 := ((H3.out.bel).cell (p := ⟨bs, off + t * 3 + 1, none⟩) HBS.out).trans (HCX.out 1 _ rfl)
          have e2 := ((H3.out.bel).cell (p := ⟨bs, off + t * 3 + 2, none⟩) HBS.out).trans (HCX.out 2 _ rfl)
          simp only [Nat.add_zero] at e0
          by_cases hxe : x.frame = f.frame
          · have hxn : (x.frame != f.frame) = false := by simpa using hxe
            have hxb : (x.frame == f.frame) = true := by simpa using hxe
            have HW := Lib.hid (show WI S f (t + 1) true (C ++ [f]) from by have := HWI.out; rw [if_neg (fun e => e hxe), List.append_nil] at this; exact this)
            clear hxe
            go_wp2
            refine wp_region_pure (by kernel_rfl) (by kernel_rfl) ?_
            repeat (first | go_big_quiet_step ((fail)) | (quiet_step ((fail))))
            refine wpQuiet_nil ?_
            rintro w4 ⟨x4, hx4⟩
            have hb4 := ext_below _ x4
            rw [← hx4] at hb4
            clear hx4 x4
            have hs4 : w3.heap.size + 0 ≤ w4.heap.size := (by have h := hb4.size; first | omega | (simp at h; omega))
            obtain ⟨hc4, hf4, hl4⟩ := bcell hb4
            clear hl4
            have H4 := Lib.hid (H3.out.on hb4)
            clear z0 z1 y0 y1 x0 x1 x2 q0 q1 q2 q3 qs
            clear hb4 hc4 hf4 e0 e1 e2
            go_wp2
            go_roundw
            case rel => exact ⟨t + 1, true, _, _, by omega, by go_num, rfl, Lib.hid ⟨H4.out, HW.out⟩⟩
            case measure => simp [intOf]; omega
          · have hxn : (x.frame != f.frame) = true := by simpa using hxe
            have hxb : (x.frame == f.frame) = false := by simpa using hxe
            have HW := Lib.hid (show WI S f (t + 1) true ((C ++ [f]) ++ [x]) from by have := HWI.out; rw [if_pos hxe] at this; exact this)
            clear hxe
            go_wp2
            refine wp_region_pure (by kernel_rfl) (by kernel_rfl) ?_
            repeat (first | go_big_quiet_step ((fail)) | (quiet_step ((fail))))
            refine wpQuiet_nil ?_
            rintro w4 ⟨x4, hx4⟩
            have hb4 := ext_below _ x4
            rw [← hx4] at hb4
            clear hx4 x4
            have hs4 : w3.heap.size + 0 ≤ w4.heap.size := (by have h := hb4.size; first | omega | (simp at h; omega))
            obtain ⟨hc4, hf4, hl4⟩ := bcell hb4
            clear hl4
            have H4 := Lib.hid (H3.out.on hb4)
            clear z0 z1 y0 y1 x0 x1 x2 q0 q1 q2 q3 qs
            clear hb4 hc4 hf4 e0 e1 e2
            obtain ⟨z0, z1⟩ := H4.out.m2.cells
            obtain ⟨y0, y1⟩ := H4.out.m5.cells
            obtain ⟨x0, x1, x2⟩ := H4.out.f3.cells
            have q0 := H4.out.m2.lt
            have q1 : b1 < w4.heap.size := by have := H4.out.ds; omega
            have q2 : b2 < w4.heap.size := by have := H4.out.ds; omega
            have q3 := H4.out.m5.lt
            have qs : bs < w4.heap.size := by have := H4.out.ds; have := HBS.out; omega
            have e0 := ((H4.out.bel).cell (p := ⟨bs, off + t * 3 + 0, none⟩) HBS.out).trans (HCX.out 0 _ rfl)
            have e1 := ((H4.out.bel).cell (p := ⟨bs, off + t * 3 + 1, none⟩) HBS.out).trans (HCX.out 1 _ rfl)
            have e2 := ((H4.out.bel).cell (p := ⟨bs, off + t * 3 + 2, none⟩) HBS.out).trans (HCX.out 2 _ rfl)
            simp only [Nat.add_zero] at e0
            have n3 : ¬ OB (Value.slice a9 m9 c9) b3 := H4.out.no (Nat.le_refl _)
            have n2 : ¬ OB (Value.slice a9 m9 c9) b := H4.out.no (by have := H4.out.ds; omega)
            have ns : ¬ OB (Value.slice a9 m9 c9) bs := fun e => by have := (H4.out.own.lt _ e).1; have := HBS.out; have := H4.out.ds; omega
            go_wp2
            refine Mix.regionL (OB (Value.slice a9 m9 c9)) (by kernel_rfl) ?_
            intro w5 hb5
            refine Mix.take_exL _ _ 0 rfl (by kernel_rfl) (by kernel_rfl) (by kernel_rfl) (by kernel_rfl) (by kernel_rfl) (by kernel_rfl) (fun K hK => ?_)
            go_simp
            first | (refine hK _ ?_; clear hK K) | (apply Exists.intro; refine ⟨fun x => ?_, hK _ ?_⟩; (fail); clear hK K)
            refine Mix.take_exL _ _ 1 rfl (by kernel_rfl) (by kernel_rfl) (by kernel_rfl) (by kernel_rfl) (by kernel_rfl) (by kernel_rfl) (fun K hK => ?_)
            go_simp
            first | (refine hK _ ?_; clear hK K) | (apply Exists.intro; refine ⟨fun x => ?_, hK _ ?_⟩; (fail); clear hK K)
            refine Mix.take_exL _ _ 2 rfl (by kernel_rfl) (by kernel_rfl) (by kernel_rfl) (by kernel_rfl) (by kernel_rfl) (by kernel_rfl) (fun K hK => ?_)
            go_simp
            first | (refine hK _ ?_; clear hK K) | (apply Exists.intro; refine ⟨fun x => ?_, hK _ ?_⟩; (fail); clear hK K)
            refine Mix.take_exL _ _ 3 rfl (by kernel_rfl) (by kernel_rfl) (by kernel_rfl) (by kernel_rfl) (by kernel_rfl) (by kernel_rfl) (fun K hK => ?_)
            go_simp
            first | (refine hK _ ?_; clear hK K) | (apply Exists.intro; refine ⟨fun x => ?_, hK _ ?_⟩; (fail); clear hK K)
            refine Mix.take_exL _ _ 4 rfl (by kernel_rfl) (by kernel_rfl) (by kernel_rfl) (by kernel_rfl) (by kernel_rfl) (by kernel_rfl) (fun K hK => ?_)
            go_simp
            first | (refine hK _ ?_; clear hK K) | (apply Exists.intro; refine ⟨fun x => ?_, hK _ ?_⟩; (fail); clear hK K)
            refine Mix.take_exL _ _ 5 rfl (by kernel_rfl) (by kernel_rfl) (by kernel_rfl) (by kernel_rfl) (by kernel_rfl) (by kernel_rfl) (fun K hK => ?_)
            go_simp
            first | (refine hK _ ?_; clear hK K) | (apply Exists.intro; refine ⟨fun x => ?_, hK _ ?_⟩; (fail); clear hK K)
            refine Mix.take_exL _ _ 6 rfl (by kernel_rfl) (by kernel_rfl) (by kernel_rfl) (by kernel_rfl) (by kernel_rfl) (by kernel_rfl) (fun K hK => ?_)
            go_simp
            first | (refine hK _ ?_; clear hK K) | (apply Exists.intro; refine ⟨fun x => ?_, hK _ ?_⟩; (fail); clear hK K)
            refine Mix.allL (rs := [7]) (by kernel_rfl) (by simp) (.of_below _ hb5) (by kernel_rfl) ?_
            intro i6 hi6 w6 hb6 hC6
            simp only [List.mem_cons, List.not_mem_nil, or_false] at hi6
            subst hi6
            have HB6 := Lib.hid (bt hb5 hb6)
            clear hC6 hb5 hb6
            refine Mix.op rfl (by kernel_rfl) ?_
            go_simp
            refine Mix.allL (rs := [8]) (by kernel_rfl) (by simp) (.of_below _ (ba HB6.out _)) (by kernel_rfl) ?_
            intro i7 hi7 w7 hb7 hC7
            simp only [List.mem_cons, List.not_mem_nil, or_false] at hi7
            subst hi7
            have HB7 := Lib.hid (bt (ba HB6.out (.cells #[.int .i64 x.frame, .slice x.va x.vn x.vc, .int .i64 x.lost] 130)) hb7)
            have hFX := (OB1.made w6 x).below hb7
            clear hC7 hb7
            obtain ⟨a', m', c', w8, hrun, hch, hnx⟩ := H4.out.app (x := x) (by have := HCL.out; omega) HB7.out hFX
            have HCH := Lib.hid hch; have HNX := Lib.hid hnx; have HRA := Lib.hid hrun
            clear hch hnx hrun hFX
            refine Mix.opApp rfl (by kernel_rfl) _ _ _ rfl rfl rfl HRA.out ?_
            go_simp
            refine Mix.take_exL _ _ 9 rfl (by kernel_rfl) (by kernel_rfl) (by kernel_rfl) (by kernel_rfl) (by kernel_rfl) (by kernel_rfl) (fun K hK => ?_)
            go_simp
            first | (refine hK _ ?_; clear hK K) | (apply Exists.intro; refine ⟨fun x => ?_, hK _ ?_⟩; (fail); clear hK K)
            refine Mix.allL (rs := [10]) (by kernel_rfl) (by simp) ((Chg.of_below _ HB7.out).same HCH.out) (by kernel_rfl) ?_
            intro i9 hi9 w9 hb9 hC9
            simp only [List.mem_cons, List.not_mem_nil, or_false] at hi9
            subst hi9
            have hp9 := HNX.out w9 (HCH.out.then_below hb9) hb9
            have y9 : w9.cell? ⟨b3, 1, none⟩ = some (Value.slice a9 m9 c9) := ((HCH.out.then_below hb9).cell (b := b3) (by have := HB7.out.size; omega) n3 1).trans ((HB7.out.cell (p := ⟨b3, 1, none⟩) q3).trans y1)
            have y8 : w9.frozen? ⟨b3, 1, none⟩ = false := ((HCH.out.then_below hb9).frozen (b := b3) (by have := HB7.out.size; omega) n3 1).trans ((World.frozen?_of_block (a := ⟨b3, 1, none⟩) (HB7.out.block b3 q3)).trans (H4.out.m5.fz 1))
            have q9 : b3 < w9.heap.size := by have := HB7.out.size; have := HCH.out.size; have := hb9.size; omega
            have HP9 := Lib.hid hp9
            clear z0 z1 y0 y1 x0 x1 x2 q0 q1 q2 q3 qs
            clear hC9 hp9 hb9 e0 e1 e2 n3 n2 ns
            refine Mix.op rfl (by kernel_rfl) ?_
            go_simp
            refine Mix.doneL (by kernel_rfl) (by kernel_rfl) ?_
            intro w10 hb10
            have HP10 := Lib.hid (HP9.out.on hb10)
            clear hb10 y9 y8 q9
            go_wp2
            go_roundw
            case rel => exact ⟨t + 1, true, _, _, by omega, by go_num, rfl, Lib.hid ⟨HP10.out, HW.out⟩⟩
            case measure => simp [intOf]; omega
        · have HWI := Lib.hid (show WI S f (t + 1) false (C ++ if x.frame ≠ f.frame then [x] else []) from by
            rw [if_neg (fun e => h1 e.2), decide_eq_false h1] at hst; exact hst)
          have h1b : decide (f.frame ≤ x.frame) = false := decide_eq_false h1
          have H2 := Lib.hid HQ.out.1
          clear HQ hst
          obtain ⟨z0, z1⟩ := H2.out.m2.cells
          obtain ⟨y0, y1⟩ := H2.out.m5.cells
          obtain ⟨x0, x1, x2⟩ := H2.out.f3.cells
          have q0 := H2.out.m2.lt
          have q1 : b1 < w2.heap.size := by have := H2.out.ds; omega
          have q2 : b2 < w2.heap.size := by have := H2.out.ds; omega
          have q3 := H2.out.m5.lt
          have qs : bs < w2.heap.size := by have := H2.out.ds; have := HBS.out; omega
          have e0 := ((H2.out.bel).cell (p := ⟨bs, off + t * 3 + 0, none⟩) HBS.out).trans (HCX.out 0 _ rfl)
          have e1 := ((H2.out.bel).cell (p := ⟨bs, off + t * 3 + 1, none⟩) HBS.out).trans (HCX.out 1 _ rfl)
          have e2 := ((H2.out.bel).cell (p := ⟨bs, off + t * 3 + 2, none⟩) HBS.out).trans (HCX.out 2 _ rfl)
          simp only [Nat.add_zero] at e0
          go_wp2
          refine wp_region_pure (by kernel_rfl) (by kernel_rfl) ?_
          repeat (first | go_big_quiet_step ((fail)) | (quiet_step ((fail))))
          refine wpQuiet_nil ?_
          rintro w3 ⟨x3, hx3⟩
          have hb3 := ext_below _ x3
          rw [← hx3] at hb3
          clear hx3 x3
          have hs3 : w2.heap.size + 0 ≤ w3.heap.size := (by have h := hb3.size; first | omega | (simp at h; omega))
          obtain ⟨hc3, hf3, hl3⟩ := bcell hb3
          clear hl3
          have H3 := Lib.hid (H2.out.on hb3)
          clear z0 z1 y0 y1 x0 x1 x2 q0 q1 q2 q3 qs
          clear hb3 hc3 hf3 e0 e1 e2
          obtain ⟨z0, z1⟩ := H3.out.m2.cells
          obtain ⟨y0, y1⟩ := H3.out.m5.cells
          obtain ⟨x0, x1, x2⟩ := H3.out.f3.cells
          have q0 := H3.out.m2.lt
          have q1 : b1 < w3.heap.size := by have := H3.out.ds; omega
          have q2 : b2 < w3.heap.size := by have := H3.out.ds; omega
          have q3 := H3.out.m5.lt
          have qs : bs < w3.heap.size := by have := H3.out.ds; have := HBS.out; omega
          have e0 := ((H3.out.bel).cell (p := ⟨bs, off + t * 3 + 0, none⟩) HBS.out).trans (HCX.out 0 _ rfl)
          have e1 := ((H3.out.bel).cell (p := ⟨bs, off + t * 3 + 1, none⟩) HBS.out).trans (HCX.out 1 _ rfl)
          have e2 := ((H3.out.bel).cell (p := ⟨bs, off + t * 3 + 2, none⟩) HBS.out).trans (HCX.out 2 _ rfl)
          simp only [Nat.add_zero] at e0
          by_cases hxe : x.frame = f.frame
          · have hxn : (x.frame != f.frame) = false := by simpa using hxe
            have hxb : (x.frame == f.frame) = true := by simpa using hxe
            have HW := Lib.hid (show WI S f (t + 1) false C from by have := HWI.out; rw [if_neg (fun e => e hxe), List.append_nil] at this; exact this)
            clear hxe
            go_wp2
            refine wp_region_pure (by kernel_rfl) (by kernel_rfl) ?_
            repeat (first | go_big_quiet_step ((fail)) | (quiet_step ((fail))))
            refine wpQuiet_nil ?_
            rintro w4 ⟨x4, hx4⟩
            have hb4 := ext_below _ x4
            rw [← hx4] at hb4
            clear hx4 x4
            have hs4 : w3.heap.size + 0 ≤ w4.heap.size := (by have h := hb4.size; first | omega | (simp at h; omega))
            obtain ⟨hc4, hf4, hl4⟩ := bcell hb4
            clear hl4
            have H4 := Lib.hid (H3.out.on hb4)
            clear z0 z1 y0 y1 x0 x1 x2 q0 q1 q2 q3 qs
            clear hb4 hc4 hf4 e0 e1 e2
            go_wp2
            go_roundw
            case rel => exact ⟨t + 1, false, _, _, by omega, by go_num, rfl, Lib.hid ⟨H4.out, HW.out⟩⟩
            case measure => simp [intOf]; omega
          · have hxn : (x.frame != f.frame) = true := by simpa using hxe
            have hxb : (x.frame == f.frame) = false := by simpa using hxe
            have HW := Lib.hid (show WI S f (t + 1) false (C ++ [x]) from by have := HWI.out; rw [if_pos hxe] at this; exact this)
            clear hxe
            go_wp2
            refine wp_region_pure (by kernel_rfl) (by kernel_rfl) ?_
            repeat (first | go_big_quiet_step ((fail)) | (quiet_step ((fail))))
            refine wpQuiet_nil ?_
            rintro w4 ⟨x4, hx4⟩
            have hb4 := ext_below _ x4
            rw [← hx4] at hb4
            clear hx4 x4
            have hs4 : w3.heap.size + 0 ≤ w4.heap.size := (by have h := hb4.size; first | omega | (simp at h; omega))
            obtain ⟨hc4, hf4, hl4⟩ := bcell hb4
            clear hl4
            have H4 := Lib.hid (H3.out.on hb4)
            clear z0 z1 y0 y1 x0 x1 x2 q0 q1 q2 q3 qs
            clear hb4 hc4 hf4 e0 e1 e2
            obtain ⟨z0, z1⟩ := H4.out.m2.cells
            obtain ⟨y0, y1⟩ := H4.out.m5.cells
            obtain ⟨x0, x1, x2⟩ := H4.out.f3.cells
            have q0 := H4.out.m2.lt
            have q1 : b1 < w4.heap.size := by have := H4.out.ds; omega
            have q2 : b2 < w4.heap.size := by have := H4.out.ds; omega
            have q3 := H4.out.m5.lt
            have qs : bs < w4.heap.size := by have := H4.out.ds; have := HBS.out; omega
            have e0 := ((H4.out.bel).cell (p := ⟨bs, off + t * 3 + 0, none⟩) HBS.out).trans (HCX.out 0 _ rfl)
            have e1 := ((H4.out.bel).cell (p := ⟨bs, off + t * 3 + 1, none⟩) HBS.out).trans (HCX.out 1 _ rfl)
            have e2 := ((H4.out.bel).cell (p := ⟨bs, off + t * 3 + 2, none⟩) HBS.out).trans (HCX.out 2 _ rfl)
            simp only [Nat.add_zero] at e0
            have n3 : ¬ OB vo b3 := H4.out.no (Nat.le_refl _)
            have n2 : ¬ OB vo b := H4.out.no (by have := H4.out.ds; omega)
            have ns : ¬ OB vo bs := fun e => by have := (H4.out.own.lt _ e).1; have := HBS.out; have := H4.out.ds; omega
            go_wp2
            refine Mix.regionL (OB vo) (by kernel_rfl) ?_
            intro w5 hb5
            refine Mix.take_exL _ _ 0 rfl (by kernel_rfl) (by kernel_rfl) (by kernel_rfl) (by kernel_rfl) (by kernel_rfl) (by kernel_rfl) (fun K hK => ?_)
            go_simp
            first | (refine hK _ ?_; clear hK K) | (apply Exists.intro; refine ⟨fun x => ?_, hK _ ?_⟩; (fail); clear hK K)
            refine Mix.take_exL _ _ 1 rfl (by kernel_rfl) (by kernel_rfl) (by kernel_rfl) (by kernel_rfl) (by kernel_rfl) (by kernel_rfl) (fun K hK => ?_)
            go_simp
            first | (refine hK _ ?_; clear hK K) | (apply Exists.intro; refine ⟨fun x => ?_, hK _ ?_⟩; (fail); clear hK K)
            refine Mix.take_exL _ _ 2 rfl (by kernel_rfl) (by kernel_rfl) (by kernel_rfl) (by kernel_rfl) (by kernel_rfl) (by kernel_rfl) (fun K hK => ?_)
            go_simp
            first | (refine hK _ ?_; clear hK K) | (apply Exists.intro; refine ⟨fun x => ?_, hK _ ?_⟩; (fail); clear hK K)
            refine Mix.take_exL _ _ 3 rfl (by kernel_rfl) (by kernel_rfl) (by kernel_rfl) (by kernel_rfl) (by kernel_rfl) (by kernel_rfl) (fun K hK => ?_)
            go_simp
            first | (refine hK _ ?_; clear hK K) | (apply Exists.intro; refine ⟨fun x => ?_, hK _ ?_⟩; (fail); clear hK K)
            refine Mix.take_exL _ _ 4 rfl (by kernel_rfl) (by kernel_rfl) (by kernel_rfl) (by kernel_rfl) (by kernel_rfl) (by kernel_rfl) (fun K hK => ?_)
            go_simp
            first | (refine hK _ ?_; clear hK K) | (apply Exists.intro; refine ⟨fun x => ?_, hK _ ?_⟩; (fail); clear hK K)
            refine Mix.take_exL _ _ 5 rfl (by kernel_rfl) (by kernel_rfl) (by kernel_rfl) (by kernel_rfl) (by kernel_rfl) (by kernel_rfl) (fun K hK => ?_)
            go_simp
            first | (refine hK _ ?_; clear hK K) | (apply Exists.intro; refine ⟨fun x => ?_, hK _ ?_⟩; (fail); clear hK K)
            refine Mix.take_exL _ _ 6 rfl (by kernel_rfl) (by kernel_rfl) (by kernel_rfl) (by kernel_rfl) (by kernel_rfl) (by kernel_rfl) (fun K hK => ?_)
            go_simp
            first | (refine hK _ ?_; clear hK K) | (apply Exists.intro; refine ⟨fun x => ?_, hK _ ?_⟩; (fail); clear hK K)
            refine Mix.allL (rs := [7]) (by kernel_rfl) (by simp) (.of_below _ hb5) (by kernel_rfl) ?_
            intro i6 hi6 w6 hb6 hC6
            simp only [List.mem_cons, List.not_mem_nil, or_false] at hi6
            subst hi6
            have HB6 := Lib.hid (bt hb5 hb6)
            clear hC6 hb5 hb6
            refine Mix.op rfl (by kernel_rfl) ?_
            go_simp
            refine Mix.allL (rs := [8]) (by kernel_rfl) (by simp) (.of_below _ (ba HB6.out _)) (by kernel_rfl) ?_
            intro i7 hi7 w7 hb7 hC7
            simp only [List.mem_cons, List.not_mem_nil, or_false] at hi7
            subst hi7
            have HB7 := Lib.hid (bt (ba HB6.out (.cells #[.int .i64 x.frame, .slice x.va x.vn x.vc, .int .i64 x.lost] 130)) hb7)
            have hFX := (OB1.made w6 x).below hb7
            clear hC7 hb7
            obtain ⟨a', m', c', w8, hrun, hch, hnx⟩ := H4.out.app (x := x) (by have := HCL.out; omega) HB7.out hFX
            have HCH := Lib.hid hch; have HNX := Lib.hid hnx; have HRA := Lib.hid hrun
            clear hch hnx hrun hFX
            refine Mix.opApp rfl (by kernel_rfl) _ _ _ rfl rfl rfl HRA.out ?_
            go_simp
            refine Mix.take_exL _ _ 9 rfl (by kernel_rfl) (by kernel_rfl) (by kernel_rfl) (by kernel_rfl) (by kernel_rfl) (by kernel_rfl) (fun K hK => ?_)
            go_simp
            first | (refine hK _ ?_; clear hK K) | (apply Exists.intro; refine ⟨fun x => ?_, hK _ ?_⟩; (fail); clear hK K)
            refine Mix.allL (rs := [10]) (by kernel_rfl) (by simp) ((Chg.of_below _ HB7.out).same HCH.out) (by kernel_rfl) ?_
            intro i9 hi9 w9 hb9 hC9
            simp only [List.mem_cons, List.not_mem_nil, or_false] at hi9
            subst hi9
            have hp9 := HNX.out w9 (HCH.out.then_below hb9) hb9
            have y9 : w9.cell? ⟨b3, 1, none⟩ = some vo := ((HCH.out.then_below hb9).cell (b := b3) (by have := HB7.out.size; omega) n3 1).trans ((HB7.out.cell (p := ⟨b3, 1, none⟩) q3).trans y1)
            have y8 : w9.frozen? ⟨b3, 1, none⟩ = false := ((HCH.out.then_below hb9).frozen (b := b3) (by have := HB7.out.size; omega) n3 1).trans ((World.frozen?_of_block (a := ⟨b3, 1, none⟩) (HB7.out.block b3 q3)).trans (H4.out.m5.fz 1))
            have q9 : b3 < w9.heap.size := by have := HB7.out.size; have := HCH.out.size; have := hb9.size; omega
            have HP9 := Lib.hid hp9
            clear z0 z1 y0 y1 x0 x1 x2 q0 q1 q2 q3 qs
            clear hC9 hp9 hb9 e0 e1 e2 n3 n2 ns
            refine Mix.op rfl (by kernel_rfl) ?_
            go_simp
            refine Mix.doneL (by kernel_rfl) (by kernel_rfl) ?_
            intro w10 hb10
            have HP10 := Lib.hid (HP9.out.on hb10)
            clear hb10 y9 y8 q9
            go_wp2
            go_roundw
            case rel => exact ⟨t + 1, false, _, _, by omega, by go_num, rfl, Lib.hid ⟨HP10.out, HW.out⟩⟩
            case measure => simp [intOf]; omega
    · obtain rfl : n = t := by omega
      have hfin := HQ.out.2.fin HN.out
      have H2 := Lib.hid HQ.out.1
      cases d with
      | true =>
        rw [if_neg (by simp)] at hfin
        have HFN := Lib.hid hfin
        clear HQ hfin
        obtain ⟨ao, mo, co, hvo⟩ : ∃ ao mo co, vo = .slice ao mo co := by
          rcases H2.out.own.2 with ⟨hv, h0⟩ | ⟨g', cap', cur', hv, _⟩
          · exact ⟨_, _, _, hv⟩
          · exact ⟨_, _, _, hv⟩
        subst hvo
        obtain ⟨z0, z1⟩ := H2.out.m2.cells
        obtain ⟨y0, y1⟩ := H2.out.m5.cells
        obtain ⟨s0, s1⟩ := H2.out.m4.cells
        have s2 := H2.out.m4.fz 0; have s3 := H2.out.m4.fz 1
        have q0 := H2.out.m2.lt
        have q2 := H2.out.m4.lt
        have q3 := H2.out.m5.lt
        go_wp2
        refine bodyPost_ret (res_m Try.results128 rfl (H2.out.m4.set2 cap (.slice ao mo co))) rfl ?_
        have hst : Chg (fun k => k = b2) w2 ((w2.setCell ⟨b2, 0, none⟩ (.int .i64 cap)).setCell ⟨b2, 1, none⟩ (.slice ao mo co)) := ((Chg.refl (fun k => k = b2) w2).setCell (p := ⟨b2, 0, none⟩) (.inl rfl) _).setCell (p := ⟨b2, 1, none⟩) (.inl rfl) _
        have hd := H2.out.ds
        have hol := H2.out.own.lt
        refine ⟨_, rfl, ?_, fun k hk => ?_, ?_⟩
        · rw [← HFN.out]
          exact (H2.out.own.chg hst (fun k hk e => by have := (hol k hk).1; omega)).rs (fun _ => rfl)
        · have h1 := hol k hk; have h2 := hst.size; rw [← HBQ.out]; exact ⟨by omega, by omega⟩
        · rw [← HBQ.out]
          exact H2.out.bel.trans (hst.below (by omega) fun k e => by rw [e]; omega)
      | false =>
        rw [if_pos rfl] at hfin
        have HFN := Lib.hid hfin
        have hcl : C.length < 1000000 := by have := HQ.out.2.len; omega
        clear HQ hfin
        obtain ⟨a9, m9, c9, w8, hrun, hch, hnx⟩ := H2.out.app (x := f) hcl (ba (Below.refl _ _) _) (OB1.made w2 f)
        have HCH := Lib.hid hch
        have HP9 := Lib.hid (hnx w8 hch (Below.refl _ _))
        have HRA := Lib.hid hrun
        have y1 := H2.out.m5.cells.2
        obtain ⟨x0, x1, x2⟩ := H2.out.f3.cells
        have q1 : b1 < w2.heap.size := by have := H2.out.ds; omega
        have q3 := H2.out.m5.lt
        have n3 : ¬ OB vo b3 := H2.out.no (Nat.le_refl _)
        have y9 : w8.cell? ⟨b3, 1, none⟩ = some vo := (HCH.out.cell (b := b3) (by simp; omega) n3 1).trans (((ba (Below.refl _ _) _ : Below w2.heap.size w2 (w2.alloc _)).cell (p := ⟨b3, 1, none⟩) q3).trans y1)
        have y8 : w8.frozen? ⟨b3, 1, none⟩ = false := (HCH.out.frozen (b := b3) (by simp; omega) n3 1).trans ((World.frozen?_of_block (a := ⟨b3, 1, none⟩) ((ba (Below.refl _ _) _ : Below w2.heap.size w2 (w2.alloc _)).block b3 q3)).trans (H2.out.m5.fz 1))
        have q9 : b3 < w8.heap.size := by have := HCH.out.size; simp at this; omega
        have hm4 := (H2.out.m4.below (ba (Below.refl _ _) (.cells #[.int .i64 f.frame, .slice f.va f.vn f.vc, .int .i64 f.lost] 130))).chg HCH.out (H2.out.no (by have := H2.out.ds; omega))
        have hm5 := (H2.out.m5.below (ba (Below.refl _ _) (.cells #[.int .i64 f.frame, .slice f.va f.vn f.vc, .int .i64 f.lost] 130))).chg HCH.out (H2.out.no (Nat.le_refl _))
        obtain ⟨z0, z1⟩ := H2.out.m2.cells
        have q0 := H2.out.m2.lt
        obtain ⟨s0, s1⟩ := hm4.cells
        have s2 := hm4.fz 0; have s3 := hm4.fz 1
        have g2 := hm4.lt
        have y7 := hm5.cells.1
        have hne : b2 ≠ b3 := by have := H2.out.ds; omega
        have hne' : b3 ≠ b2 := by have := H2.out.ds; omega
        clear hrun hch hnx
        go_wp2_with (at_builtin; refine wpList_app_run rfl _ _ _ rfl rfl rfl HRA.out ?_)
        refine bodyPost_ret (res_m Try.results128 rfl (HP9.out.m4.set2 cap (.slice a9 m9 c9))) rfl ?_
        have hst : Chg (fun k => k = b2) (w8.setCell ⟨b3, 1, none⟩ (.slice a9 m9 c9)) (((w8.setCell ⟨b3, 1, none⟩ (.slice a9 m9 c9)).setCell ⟨b2, 0, none⟩ (.int .i64 cap)).setCell ⟨b2, 1, none⟩ (.slice a9 m9 c9)) := ((Chg.refl (fun k => k = b2) (w8.setCell ⟨b3, 1, none⟩ (.slice a9 m9 c9))).setCell (p := ⟨b2, 0, none⟩) (.inl rfl) _).setCell (p := ⟨b2, 1, none⟩) (.inl rfl) _
        have hd := HP9.out.ds
        have hol := HP9.out.own.lt
        refine ⟨_, rfl, ?_, fun k hk => ?_, ?_⟩
        · rw [← HFN.out]
          exact (HP9.out.own.chg hst (fun k hk e => by have := (hol k hk).1; omega)).rs (fun _ => rfl)
        · have h1 := hol k hk; have h2 := hst.size; rw [← HBQ.out]; exact ⟨by omega, by omega⟩
        · rw [← HBQ.out]
          exact HP9.out.bel.trans (hst.below (by omega) fun k e => by rw [e]; omega)
end
end Go.Proofs.Ytnckjacbkhoppaa

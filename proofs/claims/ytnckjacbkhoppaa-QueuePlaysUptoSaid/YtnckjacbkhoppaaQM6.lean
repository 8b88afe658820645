/- The document's queues by a list: Shut. -/
import Derived.Test.YtnckjacbkhoppaaQM5
namespace Go.Proofs.Ytnckjacbkhoppaa
open Go.RowKit Go.Maps
attribute [local go_sem] ext_cell ext_frozen extC_cell extC_frozen Mix.calmUpon Mix.mUpon
/-- The blocks of a call of Shut. -/
structure SH (w wr : World) (b b2 b3 : Nat) (cap : Int) (v : Value) (vo : Value) (C : List On) : Prop where
  m2 : MB wr b cap v
  m4 : MB wr b2 0 (.slice none 0 0)
  m5 : MB wr b3 cap vo
  own : OwnL 130 3 onenc wr (b3 + 1) vo C
  bel : Below b w wr
  ds : b < b2 ∧ b2 < b3 ∧ b3 < wr.heap.size
section
variable {w wr wr' : World} {b b2 b3 : Nat} {cap : Int} {v vo vo' : Value} {x : On} {C : List On}
theorem SH.no (h : SH w wr b b2 b3 cap v vo C) {k : Nat} (hk : k ≤ b3) : ¬ OB vo k := fun e => by have := (h.own.lt k e).1; omega
theorem SH.on (h : SH w wr b b2 b3 cap v vo C) (hb : Below wr.heap.size wr wr') : SH w wr' b b2 b3 cap v vo C :=
  ⟨h.m2.below hb, h.m4.below hb, h.m5.below hb, h.own.below hb, h.bel.trans (hb.mono (by have := h.ds; omega)), by have := h.ds; have := hb.size; omega⟩
/-- One more element, which lies in a new block. -/
theorem SH.app (h : SH w wr b b2 b3 cap v vo C) (hl : C.length < 1000000) {w1 : World} (hb : Below wr.heap.size wr w1) {q : Nat} (hx : OB1 w1 q x) :
    ∃ a' m' c' w2, (Builtin.append_ #[121, 121] 121 #[vo, .slice (some ⟨q, 0, none⟩) 1 1]).run Try.prog w1 = .ok (.slice a' m' c') w2 ∧ Chg (OB vo) w1 w2 ∧ (∀ w3, Chg (OB vo) w1 w3 → Below w2.heap.size w2 w3 → SH w (w3.setCell ⟨b3, 1, none⟩ (.slice a' m' c')) b b2 b3 cap v (.slice a' m' c') (C ++ [x])) := by
  have h1 := h.on hb
  have hd := h1.ds
  obtain ⟨v', w2, hrun, o2, g2, hv2⟩ := own_appO h1.own x hx hl (by omega)
  obtain ⟨a', m', c', rfl⟩ : ∃ a' m' c', v' = .slice a' m' c' := by
    rcases o2.2 with ⟨_, h0⟩ | ⟨g', cap', cur', rfl, _⟩
    · simp at h0
    · exact ⟨_, _, _, rfl⟩
  have hc : Chg (OB vo) w1 w2 := .of_grown g2 fun k e => e
  refine ⟨a', m', c', w2, hrun, hc, fun w3 hc3 hb3 => ?_⟩
  have hst : Chg (fun k => k = b3) w3 (w3.setCell ⟨b3, 1, none⟩ (.slice a' m' c')) := (Chg.refl (fun k => k = b3) w3).setCell (p := ⟨b3, 1, none⟩) (.inl rfl) _
  have own3 := o2.below hb3
  have hs3 := hc3.size
  have nb : ∀ k, Value.ownBlock (.slice a' m' c') = some k → k ≠ b3 := fun k hk e => by have := (o2.lt k hk).1; omega
  exact ⟨(h1.m2.chg hc3 (h1.no (by omega))).chg hst (by show ¬ b = b3; omega), (h1.m4.chg hc3 (h1.no (by omega))).chg hst (by show ¬ b2 = b3; omega),
    (h1.m5.chg hc3 (h1.no (by omega))).set1 _, own3.chg hst nb, h1.bel.trans ((hc3.below (by omega) (fun k hk => by have := (h1.own.lt k hk).1; omega)).trans (hst.below (by omega) (fun k e => by rw [e]; omega))), by simp [World.setCell]; omega⟩
end
theorem delO_snoc (S : List On) (k : Int) (x : On) : delO (S ++ [x]) k = delO S k ++ (if x.frame = k then [] else [x]) := Srt.del_snoc S x k
section
variable {w : World} {v : Value} {S : List On} {cap : Int}
set_option maxRecDepth 100000 in
set_option maxHeartbeats 4000000 in
theorem mshut (h : OV1 w v S) (hln : S.length < 900000) (k : Int) : Calls Try.prog 103 #[mval cap v, .int .i64 k] w (RetB w v cap (delO S k) (.bool (decide ((delO S k).length < S.length)))) := by
  obtain ⟨a, n, cp, rfl, hn, hc, hm, hat⟩ := h.at_
  have HAT := Lib.hid hat
  have hnb : n < 900000 := by omega
  have HN := Lib.hid hn
  obtain ⟨b, hbq⟩ : ∃ b, b = w.heap.size := ⟨_, rfl⟩
  have HBQ := Lib.hid hbq
  obtain ⟨b2, hb2q⟩ : ∃ b2, b2 = b + 1 := ⟨_, rfl⟩
  obtain ⟨b3, hb3q⟩ : ∃ b3, b3 = b2 + 1 := ⟨_, rfl⟩
  have HI := Lib.hid (show SH w (((w.alloc (.cells #[.int .i64 cap, .slice a n cp] 123)).alloc (.cells #[.int .i64 0, .slice none 0 0] 123)).alloc (.cells #[.int .i64 cap, .slice none 0 0] 123)) b b2 b3 cap (.slice a n cp) (.slice none 0 0) [] from by
    subst hb3q; subst hb2q; subst hbq
    have s1 : (w.alloc (.cells #[.int .i64 cap, .slice a n cp] 123)).heap.size = w.heap.size + 1 := by simp
    have s2 : ((w.alloc (.cells #[.int .i64 cap, .slice a n cp] 123)).alloc (.cells #[.int .i64 0, .slice none 0 0] 123)).heap.size = w.heap.size + 1 + 1 := by simp
    refine ⟨(MB.made w cap _).below (ba (ba (Below.refl _ _) _) _), ?_, ?_, OwnL.nil _ _ _ _ _, ba (ba (ba (Below.refl _ _) _) _) _, by simp⟩
    · have := MB.made (w.alloc (.cells #[.int .i64 cap, .slice a n cp] 123)) 0 (.slice none 0 0)
      rw [s1] at this
      exact this.below (ba (Below.refl _ _) _)
    · have := MB.made ((w.alloc (.cells #[.int .i64 cap, .slice a n cp] 123)).alloc (.cells #[.int .i64 0, .slice none 0 0] 123)) cap (.slice none 0 0)
      rw [s2] at this
      exact this)
  clear hat h hn
  go_enter Try.func103, Try.ntmps103
  go_wp2
  rw [← hbq, ← hb2q, ← hb3q]
  clear hbq hb2q hb3q
  generalize (((w.alloc (.cells #[.int .i64 cap, .slice a n cp] 123)).alloc (.cells #[.int .i64 0, .slice none 0 0] 123)).alloc (.cells #[.int .i64 cap, .slice none 0 0] 123)) = w1 at *
  go_loopw [7] (fun iv wr => ∃ (t : Nat) (vo : Value) (C : List On), t ≤ n ∧ iv = .int .i64 t ∧ Hid (SH w wr b b2 b3 cap (.slice a n cp) vo C ∧ C = delO (S.take t) k)) (fun iv _ => n - (intOf iv).toNat)
  case atStart => exact ⟨0, _, [], Nat.zero_le _, rfl, Lib.hid ⟨HI.out, rfl⟩⟩
  case round =>
    clear HI
    obtain ⟨t, vo, C, ht, rfl, HQ⟩ := hrel
    obtain ⟨w2, rfl⟩ : ∃ w2, w2 = wr := ⟨_, rfl⟩
    have H3 := Lib.hid HQ.out.1
    by_cases hlt : t < n
    · have hts : (t : Int) < (n : Int) := by omega
      obtain ⟨x, hx⟩ := at_lt (l := S) (i := t) (by rw [← HN.out]; exact hlt)
      obtain ⟨bs, off, rfl, hbs, hcell⟩ := HAT.out t x hx
      have HCX := Lib.hid hcell
      have HBS := Lib.hid (show bs < b by rw [HBQ.out]; exact hbs)
      have HD := Lib.hid (show delO (S.take (t + 1)) k = C ++ (if x.frame = k then [] else [x]) from by rw [take_at hx, delO_snoc, HQ.out.2])
      have HCL := Lib.hid (show C.length < 1000000 from by
        rw [HQ.out.2]
        have h1 : (delO (S.take t) k).length ≤ (S.take t).length := List.length_filter_le _ _
        rw [List.length_take] at h1; omega)
      clear hcell hx hbs
      obtain ⟨z0, z1⟩ := H3.out.m2.cells
      obtain ⟨y0, y1⟩ := H3.out.m5.cells
      have q0 := H3.out.m2.lt
      have q2 : b2 < w2.heap.size := by have := H3.out.ds; omega
      have q3 := H3.out.m5.lt
      have qs : bs < w2.heap.size := by have := H3.out.ds; have := HBS.out; omega
      have e0 := ((H3.out.bel).cell (p := ⟨bs, off + t * 3 + 0, none⟩) HBS.out).trans (HCX.out 0 _ rfl)
      have e1 := ((H3.out.bel).cell (p := ⟨bs, off + t * 3 + 1, none⟩) HBS.out).trans (HCX.out 1 _ rfl)
      have e2 := ((H3.out.bel).cell (p := ⟨bs, off + t * 3 + 2, none⟩) HBS.out).trans (HCX.out 2 _ rfl)
      simp only [Nat.add_zero] at e0
      by_cases hxe : x.frame = k
      · have hxn : (x.frame != k) = false := by simpa using hxe
        have hxb : (x.frame == k) = true := by simpa using hxe
        have HW := Lib.hid (show C = delO (S.take (t + 1)) k by rw [HD.out, if_pos hxe, List.append_nil])
        clear hxe
        go_wp2
        go_roundw
        case rel => exact ⟨t + 1, _, C, by omega, by go_num, Lib.hid ⟨H3.out, HW.out⟩⟩
        case measure => simp [intOf]; omega
      · have hxn : (x.frame != k) = true := by simpa using hxe
        have hxb : (x.frame == k) = false := by simpa using hxe
        have HW := Lib.hid (show C ++ [x] = delO (S.take (t + 1)) k by rw [HD.out, if_neg hxe])
        clear hxe
        have n3 : ¬ OB vo b3 := H3.out.no (Nat.le_refl _)
        have n2 : ¬ OB vo b := H3.out.no (by have := H3.out.ds; omega)
        have ns : ¬ OB vo bs := fun e => by have := (H3.out.own.lt _ e).1; have := HBS.out; have := H3.out.ds; omega
        go_wp2
        refine Mix.regionL (OB vo) (by kernel_rfl) ?_
        intro w5 hb5
        refine Mix.take_exL _ _ 0 rfl (by kernel_rfl) (by kernel_rfl) (by kernel_rfl) (by kernel_rfl) (by kernel_rfl) (by kernel_rfl) (fun K hK => ?_)
        go_simp
        first | (refine hK _ ?_; clear hK K) | (apply Exists.intro; refine ⟨fun x => ?_, hK _ ?_⟩; (fail); clear hK K)
        refine Mix.take_exL _ _ 1 rfl (by kernel_rfl) (by kernel_rfl) (by kernel_rfl) (by kernel_rfl) (by kernel_rfl) (by kernel_rfl) (fun K hK => ?_)
        go_simp
        first | (refine hK _ ?_; clear hK K) | (apply Exists.intro; refine ⟨fun x => ?_, hK _ ?_⟩; (fail); clear hK K)
        refine Mix.take_exL _ _ 2 rfl (by kernel_rfl) (by kernel_rfl) (by kernel_rfl) (by kernel_rfl) (by kernel_rfl) (by kernel_rfl) (fun K hK => ?_)
        go_simp
        first | (refine hK _ ?_; clear hK K) | (apply Exists.intro; refine ⟨fun x => ?_, hK _ ?_⟩; (fail); clear hK K)
        refine Mix.take_exL _ _ 3 rfl (by kernel_rfl) (by kernel_rfl) (by kernel_rfl) (by kernel_rfl) (by kernel_rfl) (by kernel_rfl) (fun K hK => ?_)
        go_simp
        first | (refine hK _ ?_; clear hK K) | (apply Exists.intro; refine ⟨fun x => ?_, hK _ ?_⟩; (fail); clear hK K)
        refine Mix.take_exL _ _ 4 rfl (by kernel_rfl) (by kernel_rfl) (by kernel_rfl) (by kernel_rfl) (by kernel_rfl) (by kernel_rfl) (fun K hK => ?_)
        go_simp
        first | (refine hK _ ?_; clear hK K) | (apply Exists.intro; refine ⟨fun x => ?_, hK _ ?_⟩; (fail); clear hK K)
        refine Mix.take_exL _ _ 5 rfl (by kernel_rfl) (by kernel_rfl) (by kernel_rfl) (by kernel_rfl) (by kernel_rfl) (by kernel_rfl) (fun K hK => ?_)
        go_simp
        first | (refine hK _ ?_; clear hK K) | (apply Exists.intro; refine ⟨fun x => ?_, hK _ ?_⟩; (fail); clear hK K)
        refine Mix.take_exL _ _ 6 rfl (by kernel_rfl) (by kernel_rfl) (by kernel_rfl) (by kernel_rfl) (by kernel_rfl) (by kernel_rfl) (fun K hK => ?_)
        go_simp
        first | (refine hK _ ?_; clear hK K) | (apply Exists.intro; refine ⟨fun x => ?_, hK _ ?_⟩; (fail); clear hK K)
        refine Mix.allL (rs := [7]) (by kernel_rfl) (by simp) (.of_below _ hb5) (by kernel_rfl) ?_
        intro i6 hi6 w6 hb6 hC6
        simp only [List.mem_cons, List.not_mem_nil, or_false] at hi6
        subst hi6
        have HB6 := Lib.hid (bt hb5 hb6)
        clear hC6 hb5 hb6
        refine Mix.op rfl (by kernel_rfl) ?_
        go_simp
        refine Mix.allL (rs := [8]) (by kernel_rfl) (by simp) (.of_below _ (ba HB6.out _)) (by kernel_rfl) ?_
        intro i7 hi7 w7 hb7 hC7
        simp only [List.mem_cons, List.not_mem_nil, or_false] at hi7
        subst hi7
        have HB7 := Lib.hid (bt (ba HB6.out (.cells #[.int .i64 x.frame, .slice x.va x.vn x.vc, .int .i64 x.lost] 130)) hb7)
        have hFX := (OB1.made w6 x).below hb7
        clear hC7 hb7
        obtain ⟨a', m', c', w8, hrun, hch, hnx⟩ := H3.out.app (x := x) HCL.out HB7.out hFX
        have HCH := Lib.hid hch; have HNX := Lib.hid hnx; have HRA := Lib.hid hrun
        clear hch hnx hrun hFX
        refine Mix.opApp rfl (by kernel_rfl) _ _ _ rfl rfl rfl HRA.out ?_
        go_simp
        refine Mix.take_exL _ _ 9 rfl (by kernel_rfl) (by kernel_rfl) (by kernel_rfl) (by kernel_rfl) (by kernel_rfl) (by kernel_rfl) (fun K hK => ?_)
        go_simp
        first | (refine hK _ ?_; clear hK K) | (apply Exists.intro; refine ⟨fun x => ?_, hK _ ?_⟩; (fail); clear hK K)
        refine Mix.allL (rs := [10]) (by kernel_rfl) (by simp) ((Chg.of_below _ HB7.out).same HCH.out) (by kernel_rfl) ?_
        intro i9 hi9 w9 hb9 hC9
        simp only [List.mem_cons, List.not_mem_nil, or_false] at hi9
        subst hi9
        have hp9 := HNX.out w9 (HCH.out.then_below hb9) hb9
        have y9 : w9.cell? ⟨b3, 1, none⟩ = some vo := ((HCH.out.then_below hb9).cell (b := b3) (by have := HB7.out.size; omega) n3 1).trans ((HB7.out.cell (p := ⟨b3, 1, none⟩) q3).trans y1)
        have y8 : w9.frozen? ⟨b3, 1, none⟩ = false := ((HCH.out.then_below hb9).frozen (b := b3) (by have := HB7.out.size; omega) n3 1).trans ((World.frozen?_of_block (a := ⟨b3, 1, none⟩) (HB7.out.block b3 q3)).trans (H3.out.m5.fz 1))
        have q9 : b3 < w9.heap.size := by have := HB7.out.size; have := HCH.out.size; have := hb9.size; omega
        have HP9 := Lib.hid hp9
        clear z0 z1 y0 y1 q0 q2 q3 qs
        clear hC9 hp9 hb9 e0 e1 e2 n3 n2 ns
        refine Mix.op rfl (by kernel_rfl) ?_
        go_simp
        refine Mix.doneL (by kernel_rfl) (by kernel_rfl) ?_
        intro w10 hb10
        have HP10 := Lib.hid (HP9.out.on hb10)
        clear hb10 y9 y8 q9
        go_wp2
        go_roundw
        case rel => exact ⟨t + 1, _, _, by omega, by go_num, Lib.hid ⟨HP10.out, HW.out⟩⟩
        case measure => simp [intOf]; omega
    · obtain rfl : n = t := by omega
      have HC := Lib.hid (show C = delO S k from by rw [HQ.out.2, HN.out, List.take_length])
      obtain ⟨ao, mo, co, hvo⟩ : ∃ ao mo co, vo = .slice ao mo co := by
        rcases H3.out.own.2 with ⟨hv, h0⟩ | ⟨g', cap', cur', hv, _⟩
        · exact ⟨_, _, _, hv⟩
        · exact ⟨_, _, _, hv⟩
      subst hvo
      have hmo : mo = C.length := by
        obtain ⟨_, _, _, e, h1, _⟩ := (H3.out.own.rs (fun _ => rfl)).at_
        cases e; exact h1
      have HMO := Lib.hid hmo
      obtain ⟨z0, z1⟩ := H3.out.m2.cells
      obtain ⟨y0, y1⟩ := H3.out.m5.cells
      obtain ⟨s0, s1⟩ := H3.out.m4.cells
      have s2 := H3.out.m4.fz 0; have s3 := H3.out.m4.fz 1
      have q0 := H3.out.m2.lt
      have q2 := H3.out.m4.lt
      have q3 := H3.out.m5.lt
      have n1 : ¬ b3 = b2 := by have := H3.out.ds; omega
      have n2 : ¬ b = b2 := by have := H3.out.ds; omega
      clear HQ hmo
      go_wp2
      go_region
      go_wp2
      refine bodyPost_ret (res_mt Try.results103 rfl ((H3.out.m4.set2 cap (.slice ao mo co)).below (bd (Below.refl _ _)))) rfl ?_
      have hst : Chg (fun k => k = b2) w2 ((w2.setCell ⟨b2, 0, none⟩ (.int .i64 cap)).setCell ⟨b2, 1, none⟩ (.slice ao mo co)) := ((Chg.refl (fun k => k = b2) w2).setCell (p := ⟨b2, 0, none⟩) (.inl rfl) _).setCell (p := ⟨b2, 1, none⟩) (.inl rfl) _
      have hd := H3.out.ds
      have hol := H3.out.own.lt
      have hbx := H3.out.bel.trans (hst.below (by omega) fun k e => by rw [e]; omega)
      rw [HBQ.out] at hbx
      rw [← HC.out, ← HN.out, ← HMO.out]
      have hdr := bd (Below.refl ((w2.setCell ⟨b2, 0, none⟩ (.int .i64 cap)).setCell ⟨b2, 1, none⟩ (.slice ao mo co)).heap.size ((w2.setCell ⟨b2, 0, none⟩ (.int .i64 cap)).setCell ⟨b2, 1, none⟩ (.slice ao mo co)))
      refine ⟨_, rfl, ((H3.out.own.chg hst (fun k hk e => by have := (hol k hk).1; omega)).rs (fun _ => rfl)).below hdr, fun k hk => .inr (by have h1 := hol k hk; have h2 := hst.size; rw [← HBQ.out]; exact ⟨by omega, by show k < ((w2.setCell ⟨b2, 0, none⟩ (.int .i64 cap)).setCell ⟨b2, 1, none⟩ (.slice ao mo co)).heap.size; omega⟩), hbx.trans (hdr.mono (by have := hbx.size; omega))⟩
end
end Go.Proofs.Ytnckjacbkhoppaa

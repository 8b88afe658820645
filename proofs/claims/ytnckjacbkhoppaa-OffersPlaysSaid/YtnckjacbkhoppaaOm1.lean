/- The document's offers by a list: records, At, Close. -/
import Derived.Test.YtnckjacbkhoppaaOh0
import Derived.Test.YtnckjacbkhoppaaOwnO
import Derived.Test.YtnckjacbkhoppaaTmx
namespace Go.Proofs.Ytnckjacbkhoppaa
open Go.RowKit Go.Maps
attribute [local go_sem] ext_cell ext_frozen extC_cell extC_frozen Mix.calmUpon Mix.mUpon
abbrev mval (g l : Int) (v : Value) : Value := .agg #[.int .i64 g, .int .i64 l, v]
/-- A block that holds the document's table. -/
def MB (w : World) (b : Nat) (g l : Int) (v : Value) : Prop := w.heap[b]? = some (.cells #[.int .i64 g, .int .i64 l, v] 56 (0, 0))
theorem MB.made (w : World) (g l : Int) (v : Value) : MB (w.alloc (.cells #[.int .i64 g, .int .i64 l, v] 56)) w.heap.size g l v := heap_alloc_new w _
theorem MB.chg {F : Nat → Prop} {w w' : World} {b : Nat} {g l : Int} {v : Value} (h : MB w b g l v) (hb : Chg F w w') (hf : ¬ F b) : MB w' b g l v := (hb.block _ (Array.getElem?_eq_some_iff.1 h).1 hf).trans h
theorem MB.below {w w' : World} {b : Nat} {g l : Int} {v : Value} (h : MB w b g l v) (hb : Below w.heap.size w w') : MB w' b g l v := h.chg (.of_below (fun _ => False) hb) id
theorem MB.lt {w : World} {b : Nat} {g l : Int} {v : Value} (h : MB w b g l v) : b < w.heap.size := (Array.getElem?_eq_some_iff.1 h).1
theorem MB.cells {w : World} {b : Nat} {g l : Int} {v : Value} (h : MB w b g l v) : w.cell? ⟨b, 0, none⟩ = some (.int .i64 g) ∧ w.cell? ⟨b, 1, none⟩ = some (.int .i64 l) ∧ w.cell? ⟨b, 2, none⟩ = some v := by unfold MB at h; simp [World.cell?, h]
theorem MB.fz {w : World} {b : Nat} {g l : Int} {v : Value} (h : MB w b g l v) (o : Nat) : w.frozen? ⟨b, o, none⟩ = false := by unfold MB at h; simp [World.frozen?, h]
theorem MB.set1 {w : World} {b : Nat} {g l : Int} {v : Value} (h : MB w b g l v) (v' : Value) : MB (w.setCell ⟨b, 2, none⟩ v') b g l v' := heap_setCell_at v' h
theorem MB.set3 {w : World} {b : Nat} {g l : Int} {v : Value} (h : MB w b g l v) (g' l' : Int) (v' : Value) : MB (((w.setCell ⟨b, 0, none⟩ (.int .i64 g')).setCell ⟨b, 1, none⟩ (.int .i64 l')).setCell ⟨b, 2, none⟩ v') b g' l' v' := heap_setCell_at v' (heap_setCell_at _ (heap_setCell_at _ h))
theorem mb_chg (w : World) (b : Nat) (u0 u1 u2 : Value) : Chg (fun k => k = b) w (((w.setCell ⟨b, 0, none⟩ u0).setCell ⟨b, 1, none⟩ u1).setCell ⟨b, 2, none⟩ u2) :=
  (((Chg.refl (fun k => k = b) w).setCell (p := ⟨b, 0, none⟩) (.inl rfl) _).setCell (p := ⟨b, 1, none⟩) (.inl rfl) _).setCell (p := ⟨b, 2, none⟩) (.inl rfl) _
theorem MB.load {w : World} {b : Nat} {g l : Int} {v : Value} (h : MB w b g l v) : (loadVar 56 ⟨b, 0, none⟩).run Try.prog w = .ok (mval g l v) w := by
  obtain ⟨x0, x1, x2⟩ := h.cells
  have hs := h.lt
  simp [go_sem, x0, x1, x2, hs]
theorem res_m {fn : Func} {tmps : Array Value} {w : World} {p b : Nat} {g l : Int} {v : Value} (h : fn.results = #[.cell p 56]) (hp : tmps.getD p undef = .pointer (some ⟨b, 0, none⟩)) (hb : MB w b g l v) :
    (results fn tmps).run Try.prog w = .ok (mval g l v) w := by
  simp only [results, h]
  have hp' : tmps[p]?.getD undef = .pointer (some ⟨b, 0, none⟩) := by simpa [Array.getD_eq_getD_getElem?] using hp
  simp [Sem.run_bind, Result.andThen, hp', asAddr, hb.load]
theorem res_mtt {fn : Func} {tmps : Array Value} {w : World} {p x y b : Nat} {g l : Int} {v : Value} (h : fn.results = #[.cell p 56, .tmp x, .tmp y]) (hp : tmps.getD p undef = .pointer (some ⟨b, 0, none⟩)) (hb : MB w b g l v) :
    (results fn tmps).run Try.prog w = .ok (.tuple #[mval g l v, tmps.getD x undef, tmps.getD y undef]) w := by
  simp only [results, h]
  have hp' : tmps[p]?.getD undef = .pointer (some ⟨b, 0, none⟩) := by simpa [Array.getD_eq_getD_getElem?] using hp
  simp [Sem.run_bind, Result.andThen, hp', asAddr, hb.load]
section
variable {w : World} {v : Value} {S : List Ofr} {g l : Int}
set_option maxRecDepth 100000 in
set_option maxHeartbeats 1000000 in
theorem mat (h : RS 5 ofenc w v S) (i : Int) : Calls Try.prog 32 #[mval g l v, .int .i64 i] w fun e w' => e = .returned (.int .i64 (Srt.pl Ofr.id S i)) ∧ Below w.heap.size w w' := by
  obtain ⟨a, n, cp, rfl, hn, hc, hm, hat⟩ := h.at_
  have HA := Lib.hid hat
  unfold maxLen at hm
  have hlm : n ≤ 9223372036854775807 := by omega
  have HN := Lib.hid hn
  have HB := Lib.hid (show Below w.heap.size w (w.alloc (.cells #[.int .i64 g, .int .i64 l, .slice a n cp] 56)) from ba (Below.refl _ _) _)
  clear hat h hn
  go_enter Try.func32, Try.ntmps32
  go_wp2
  go_loop [5] (fun iv => ∃ t : Nat, t ≤ n ∧ iv = .int .i64 t ∧ Hid (∀ p ∈ S.take t, p.id ≠ i)) (fun iv => n - (intOf iv).toNat)
  case atStart => exact ⟨0, Nat.zero_le _, rfl, Lib.hid fun p h => by simp at h⟩
  case round =>
    obtain ⟨t, ht, rfl, HQ⟩ := hrel
    by_cases hlt : t < n
    · have hts : (t : Int) < (n : Int) := by omega
      obtain ⟨x, hx⟩ := at_lt (l := S) (i := t) (by rw [← HN.out]; exact hlt)
      obtain ⟨b, off, rfl, hb, hcell⟩ := HA.out t x hx
      have e0 := hcell 0 _ rfl
      simp only [Nat.add_zero] at e0
      have HX := Lib.hid hx
      have HW := Lib.hid (show x.id ≠ i → ∀ p ∈ S.take (t + 1), p.id ≠ i from fun hne p hp => by
        rw [take_at HX.out] at hp
        rcases List.mem_append.1 hp with h | h
        · exact HQ.out p h
        · rw [List.mem_singleton.1 h]; exact hne)
      have HF := Lib.hid (show x.id = i → Srt.pl Ofr.id S i = t from fun he => by
        have := Srt.pl_some (key := Ofr.id) (l := S.take t) (m := S.drop (t + 1)) he HQ.out
        rw [← parted_at HX.out, List.length_take, Nat.min_eq_left (by rw [← HN.out]; omega)] at this
        exact this)
      clear hcell hx
      obtain ⟨xi, xf, xa, xv, xs, xu⟩ := x
      simp only at e0
      by_cases he : xi = i
      · have heb : (xi == i) = true := by simpa using he
        have HE := Lib.hid (HF.out he)
        clear he
        go_wp2
        go_ret
        exact ⟨by rw [HE.out]; rfl, HB.out⟩
      · have heb : (xi == i) = false := by simpa using he
        have HE := Lib.hid (HW.out he)
        clear he
        go_wp2
        go_round
        case rel => exact ⟨t + 1, by omega, by go_num, HE⟩
        case measure => simp [intOf]; omega
    · obtain rfl : n = t := by omega
      go_wp2
      go_ret
      refine ⟨?_, HB.out⟩
      rw [Srt.pl_none fun p hp => HQ.out p (by rw [HN.out, List.take_length]; exact hp)]; rfl
end
def OVB (v : Value) : Nat → Prop := fun k => v.ownBlock = some k
/-- A list that a call of the document's builds, in the block b3; nothing below it is changed. -/
structure WM (w0 wr : World) (b3 : Nat) (g l : Int) (vo : Value) (C : List Ofr) : Prop where
  bel : Below b3 w0 wr
  m5 : MB wr b3 g l vo
  own : OwnL 61 5 ofenc wr (b3 + 1) vo C
section
variable {w0 wr wr' : World} {b3 : Nat} {g l : Int} {vo : Value} {x : Ofr} {C : List Ofr}
theorem WM.no (h : WM w0 wr b3 g l vo C) {k : Nat} (hk : k ≤ b3) : ¬ OVB vo k := fun e => by have := (h.own.lt k e).1; omega
theorem WM.on (h : WM w0 wr b3 g l vo C) (hb : Below wr.heap.size wr wr') : WM w0 wr' b3 g l vo C := ⟨h.bel.trans (hb.mono (Nat.le_of_lt h.m5.lt)), h.m5.below hb, h.own.below hb⟩
theorem WM.form (h : WM w0 wr b3 g l vo C) : ∃ a n c, vo = .slice a n c := by
  rcases h.own.2 with ⟨hv, h0⟩ | ⟨g', cap', cur', hv, _⟩
  · exact ⟨_, _, _, hv⟩
  · exact ⟨_, _, _, hv⟩
/-- One more element, which lies in a new block. -/
theorem WM.app (h : WM w0 wr b3 g l vo C) (hl : C.length < 1000000) {w1 : World} (hb : Below wr.heap.size wr w1) {q : Nat} (hx : OfB w1 q x.id x.frame x.agent x.vv x.til) (h1 : x.vv.oneCell' = true) :
    ∃ a' m' c' w2, (Builtin.append_ #[54, 54] 54 #[vo, .slice (some ⟨q, 0, none⟩) 1 1]).run Try.prog w1 = .ok (.slice a' m' c') w2 ∧ Chg (OVB vo) w1 w2 ∧ (∀ w3, Chg (OVB vo) w1 w3 → Below w2.heap.size w2 w3 → WM w0 (w3.setCell ⟨b3, 2, none⟩ (.slice a' m' c')) b3 g l (.slice a' m' c') (C ++ [x])) := by
  have h2 := h.on hb
  obtain ⟨v', w2, hrun, o2, g2, hv2⟩ := own_appO h2.own x hx h1 hl (by have := h2.m5.lt; omega)
  obtain ⟨a', m', c', rfl⟩ : ∃ a' m' c', v' = .slice a' m' c' := by
    rcases o2.2 with ⟨_, h0⟩ | ⟨g', cap', cur', rfl, _⟩
    · simp at h0
    · exact ⟨_, _, _, rfl⟩
  have hc : Chg (OVB vo) w1 w2 := .of_grown g2 fun k e => e
  refine ⟨a', m', c', w2, hrun, hc, fun w3 hc3 hb3 => ?_⟩
  have hst : Chg (fun k => k = b3) w3 (w3.setCell ⟨b3, 2, none⟩ (.slice a' m' c')) := (Chg.refl (fun k => k = b3) w3).setCell (p := ⟨b3, 2, none⟩) (.inl rfl) _
  have own3 := o2.below hb3
  have hs3 := hc3.size
  have hlt := h2.m5.lt
  have nb : ∀ k, Value.ownBlock (.slice a' m' c') = some k → k ≠ b3 := fun k hk e => by have := (o2.lt k hk).1; omega
  exact ⟨h2.bel.trans ((hc3.below (by omega) (fun k hk => by have := (h2.own.lt k hk).1; omega)).trans (hst.below (by omega) (fun k e => by rw [e]; exact Nat.le_refl _))), (h2.m5.chg hc3 (h2.no (Nat.le_refl _))).set1 _, own3.chg hst nb⟩
end
/-- What a call of the document's answers: a list in new memory. -/
structure ML (w w' : World) (v : Value) (L : List Ofr) : Prop where
  rs : RS 5 ofenc w' v L
  own : ∀ b, v.ownBlock = some b → w.heap.size ≤ b ∧ b < w'.heap.size
  bel : Below w.heap.size w w'
section
variable {w : World} {v : Value} {S : List Ofr} {g l : Int}
set_option maxRecDepth 100000 in
set_option maxHeartbeats 4000000 in
theorem mclose (h : RS 5 ofenc w v S) (hvv : ∀ x ∈ S, Vc w x.vv x.ps) (hln : S.length < 900000) (i : Int) : Calls Try.prog 36 #[mval g l v, .int .i64 i] w fun e w' => ∃ v', e = .returned (mval g l v') ∧ ML w w' v' (delO S i) := by
  obtain ⟨a, n, cp, rfl, hn, hc, hm, hat⟩ := h.at_
  have hlm : n ≤ 9223372036854775807 := by unfold maxLen at hm; omega
  have HAT := Lib.hid hat
  have HN := Lib.hid hn
  have HVV := Lib.hid hvv
  have e1 : (w.alloc (.cells #[.int .i64 g, .int .i64 l, .slice a n cp] 56)).heap.size = w.heap.size + 1 := by simp
  have e2 : ((w.alloc (.cells #[.int .i64 g, .int .i64 l, .slice a n cp] 56)).alloc (.cells #[.int .i64 0, .int .i64 0, .slice none 0 0] 56)).heap.size = w.heap.size + 1 + 1 := by simp
  have hb1 := ba (Below.refl w.heap.size w) (.cells #[.int .i64 g, .int .i64 l, .slice a n cp] 56)
  have hb2 := ba hb1 (.cells #[.int .i64 0, .int .i64 0, .slice none 0 0] 56)
  have hb3 := ba hb2 (.cells #[.int .i64 g, .int .i64 l, .slice none 0 0] 56)
  have hm1 := ((MB.made w g l (.slice a n cp)).below (ba (Below.refl _ _) (.cells #[.int .i64 0, .int .i64 0, .slice none 0 0] 56))).below (ba (Below.refl _ _) (.cells #[.int .i64 g, .int .i64 l, .slice none 0 0] 56))
  have hm2 := (MB.made (w.alloc (.cells #[.int .i64 g, .int .i64 l, .slice a n cp] 56)) 0 0 (.slice none 0 0)).below (ba (Below.refl _ _) (.cells #[.int .i64 g, .int .i64 l, .slice none 0 0] 56))
  have hm3 := MB.made ((w.alloc (.cells #[.int .i64 g, .int .i64 l, .slice a n cp] 56)).alloc (.cells #[.int .i64 0, .int .i64 0, .slice none 0 0] 56)) g l (.slice none 0 0)
  rw [e1] at hm2
  rw [e2] at hm3
  have HM1 := Lib.hid hm1; have HM2 := Lib.hid hm2; have HM3 := Lib.hid hm3; have HB3 := Lib.hid hb3
  clear hat h hn hvv e1 e2 hb1 hb2 hb3 hm1 hm2 hm3 hm
  go_enter Try.func36, Try.ntmps36
  go_wp2
  generalize ((w.alloc (.cells #[.int .i64 g, .int .i64 l, .slice a n cp] 56)).alloc (.cells #[.int .i64 0, .int .i64 0, .slice none 0 0] 56)).alloc (.cells #[.int .i64 g, .int .i64 l, .slice none 0 0] 56) = w0 at *
  obtain ⟨b, hbq⟩ : ∃ b, b = w.heap.size := ⟨_, rfl⟩
  rw [← hbq] at HM1 HM2 HM3 HB3 ⊢
  obtain ⟨b2, hb2q⟩ : ∃ b2, b2 = b + 1 := ⟨_, rfl⟩
  obtain ⟨b3, hb3q⟩ : ∃ b3, b3 = b2 + 1 := ⟨_, rfl⟩
  rw [← hb2q] at HM2 HM3 ⊢
  rw [← hb3q] at HM3 ⊢
  have HBQ := Lib.hid hbq
  have HDS := Lib.hid (show b < b2 ∧ b2 < b3 by omega)
  clear hbq hb2q hb3q
  have HI := Lib.hid (show WM w0 w0 b3 g l (.slice none 0 0) [] from ⟨Below.refl _ _, HM3.out, OwnL.nil _ _ _ _ _⟩)
  go_loopw [6] (fun iv wr => ∃ (t : Nat) (vo : Value) (C : List Ofr), t ≤ n ∧ iv = .int .i64 t ∧ Hid (WM w0 wr b3 g l vo C) ∧ Hid (C = delO (S.take t) i)) (fun iv _ => n - (intOf iv).toNat)
  case atStart => exact ⟨0, _, [], Nat.zero_le _, rfl, HI, Lib.hid rfl⟩
  case round =>
    clear HI
    obtain ⟨t, vo, C, ht, rfl, H3, HC⟩ := hrel
    obtain ⟨w3, rfl⟩ : ∃ w3, w3 = wr := ⟨_, rfl⟩
    obtain ⟨z0, z1, z2⟩ := (show MB w3 b g l (.slice a n cp) from (H3.out.bel.block b (by have := HDS.out; omega)).trans HM1.out).cells
    obtain ⟨y0, y1, y2⟩ := H3.out.m5.cells
    have q0 : b < w3.heap.size := by have := HDS.out; have := H3.out.m5.lt; omega
    have q3 := H3.out.m5.lt
    have HMV := Lib.hid (show b < b3 by have := HDS.out; omega)
    by_cases hlt : t < n
    · have hts : (t : Int) < (n : Int) := by omega
      obtain ⟨x, hx⟩ := at_lt (l := S) (i := t) (by rw [← HN.out]; exact hlt)
      obtain ⟨bs, off, rfl, hbs, hcell⟩ := HAT.out t x hx
      have hxv := HVV.out x (mem_at hx)
      have HW := Lib.hid (show C ++ (if Ofr.id x ≠ i then [x] else []) = delO (S.take (t + 1)) i from by
        rw [take_at hx, HC.out]
        show _ = Srt.del Ofr.id (S.take t ++ [x]) i
        rw [Srt.del_snoc]
        by_cases h : Ofr.id x = i
        · rw [if_neg (fun e => e h), if_pos h]
        · rw [if_pos h, if_neg h])
      obtain ⟨xi, xf, xa, xv, xs, xu⟩ := x
      obtain ⟨va, vc, hvv, -, -⟩ := hxv.form
      simp only at hvv
      subst hvv
      have HBS3 := Lib.hid (show bs < b3 by have := HDS.out; have := HBQ.out; omega)
      have d0 := ((HB3.out.trans (H3.out.bel.mono (by have := HDS.out; omega))).cell (p := ⟨bs, _, none⟩) (by have := HBQ.out; show bs < b; omega)).trans (hcell 0 _ rfl)
      have d1 := ((HB3.out.trans (H3.out.bel.mono (by have := HDS.out; omega))).cell (p := ⟨bs, _, none⟩) (by have := HBQ.out; show bs < b; omega)).trans (hcell 1 _ rfl)
      have d2 := ((HB3.out.trans (H3.out.bel.mono (by have := HDS.out; omega))).cell (p := ⟨bs, _, none⟩) (by have := HBQ.out; show bs < b; omega)).trans (hcell 2 _ rfl)
      have d3 := ((HB3.out.trans (H3.out.bel.mono (by have := HDS.out; omega))).cell (p := ⟨bs, _, none⟩) (by have := HBQ.out; show bs < b; omega)).trans (hcell 3 _ rfl)
      have d4 := ((HB3.out.trans (H3.out.bel.mono (by have := HDS.out; omega))).cell (p := ⟨bs, _, none⟩) (by have := HBQ.out; show bs < b; omega)).trans (hcell 4 _ rfl)
      simp only [Nat.add_zero] at d0
      have qs : bs < w3.heap.size := by have := HBS3.out; omega
      have HCL := Lib.hid (show C.length < 900000 from by
        rw [HC.out]
        have h1 := List.length_filter_le (fun a => decide (Ofr.id a ≠ i)) (S.take t)
        have h2 := List.length_take_le t S
        show (List.filter (fun a => decide (Ofr.id a ≠ i)) (S.take t)).length < 900000
        have h3 := HN.out
        omega)
      generalize xs.length = xn at *
      clear hcell hx hxv hbs
      by_cases he : xi = i
      · have heb : (xi != i) = false := by simpa using he
        have HE := Lib.hid (show C = delO (S.take (t + 1)) i from by
          have := HW.out; rw [if_neg (fun h => h he), List.append_nil] at this; exact this)
        clear he
        go_wp2
        go_roundw
        case rel => exact ⟨t + 1, _, _, by omega, by go_num, H3, HE⟩
        case measure => simp [intOf]; omega
      · have heb : (xi != i) = true := by simpa using he
        have HE := Lib.hid (show C ++ [(⟨xi, xf, xa, .slice va xn vc, xs, xu⟩ : Ofr)] = delO (S.take (t + 1)) i from by
          have := HW.out; rw [if_pos (fun h => he h)] at this; exact this)
        clear he
        have n3 : ¬ OVB vo b3 := H3.out.no (Nat.le_refl _)
        have n2 : ¬ OVB vo b := H3.out.no (Nat.le_of_lt HMV.out)
        have ns : ¬ OVB vo bs := H3.out.no (Nat.le_of_lt HBS3.out)
        go_wp2
        refine Mix.regionL (OVB vo) (by kernel_rfl) ?_
        intro w5 hb5
        refine Mix.take_exL _ _ 0 rfl (by kernel_rfl) (by kernel_rfl) (by kernel_rfl) (by kernel_rfl) (by kernel_rfl) (by kernel_rfl) (fun K hK => ?_)
        go_simp
        first | (refine hK _ ?_; clear hK K) | (apply Exists.intro; refine ⟨fun x => ?_, hK _ ?_⟩; (fail); clear hK K)
        refine Mix.take_exL _ _ 1 rfl (by kernel_rfl) (by kernel_rfl) (by kernel_rfl) (by kernel_rfl) (by kernel_rfl) (by kernel_rfl) (fun K hK => ?_)
        go_simp
        first | (refine hK _ ?_; clear hK K) | (apply Exists.intro; refine ⟨fun x => ?_, hK _ ?_⟩; (fail); clear hK K)
        refine Mix.take_exL _ _ 2 rfl (by kernel_rfl) (by kernel_rfl) (by kernel_rfl) (by kernel_rfl) (by kernel_rfl) (by kernel_rfl) (fun K hK => ?_)
        go_simp
        first | (refine hK _ ?_; clear hK K) | (apply Exists.intro; refine ⟨fun x => ?_, hK _ ?_⟩; (fail); clear hK K)
        refine Mix.take_exL _ _ 3 rfl (by kernel_rfl) (by kernel_rfl) (by kernel_rfl) (by kernel_rfl) (by kernel_rfl) (by kernel_rfl) (fun K hK => ?_)
        go_simp
        first | (refine hK _ ?_; clear hK K) | (apply Exists.intro; refine ⟨fun x => ?_, hK _ ?_⟩; (fail); clear hK K)
        refine Mix.take_exL _ _ 4 rfl (by kernel_rfl) (by kernel_rfl) (by kernel_rfl) (by kernel_rfl) (by kernel_rfl) (by kernel_rfl) (fun K hK => ?_)
        go_simp
        first | (refine hK _ ?_; clear hK K) | (apply Exists.intro; refine ⟨fun x => ?_, hK _ ?_⟩; (fail); clear hK K)
        refine Mix.take_exL _ _ 5 rfl (by kernel_rfl) (by kernel_rfl) (by kernel_rfl) (by kernel_rfl) (by kernel_rfl) (by kernel_rfl) (fun K hK => ?_)
        go_simp
        first | (refine hK _ ?_; clear hK K) | (apply Exists.intro; refine ⟨fun x => ?_, hK _ ?_⟩; (fail); clear hK K)
        refine Mix.take_exL _ _ 6 rfl (by kernel_rfl) (by kernel_rfl) (by kernel_rfl) (by kernel_rfl) (by kernel_rfl) (by kernel_rfl) (fun K hK => ?_)
        go_simp
        first | (refine hK _ ?_; clear hK K) | (apply Exists.intro; refine ⟨fun x => ?_, hK _ ?_⟩; (fail); clear hK K)
        refine Mix.allL (rs := [7]) (by kernel_rfl) (by simp) (.of_below _ hb5) (by kernel_rfl) ?_
        intro i6 hi6 w6 hb6 hC6
        simp only [List.mem_cons, List.not_mem_nil, or_false] at hi6
        subst hi6
        have HB6 := Lib.hid (bt hb5 hb6)
        clear hC6 hb5 hb6
        refine Mix.op rfl (by kernel_rfl) ?_
        go_simp
        refine Mix.allL (rs := [8]) (by kernel_rfl) (by simp) (.of_below _ (ba HB6.out _)) (by kernel_rfl) ?_
        intro i7 hi7 w7 hb7 hC7
        simp only [List.mem_cons, List.not_mem_nil, or_false] at hi7
        subst hi7
        have HB7 := Lib.hid (bt (ba HB6.out (.cells #[.int .i64 xi, .int .i64 xf, .int .i64 xa, .slice va xn vc, .int .i64 xu] 61)) hb7)
        have hFX := (OfB.made w6 xi xf xa (.slice va xn vc) xu).below hb7
        clear hC7 hb7
        obtain ⟨a', m', c', w8, hrun8, hch, hnx⟩ := H3.out.app (x := ⟨xi, xf, xa, .slice va xn vc, xs, xu⟩) (by have := HCL.out; omega) HB7.out hFX rfl
        have HCH := Lib.hid hch; have HNX := Lib.hid hnx; have HRA := Lib.hid hrun8
        clear hch hnx hrun8 hFX
        refine Mix.opApp rfl (by kernel_rfl) _ _ _ rfl rfl rfl HRA.out ?_
        go_simp
        refine Mix.take_exL _ _ 9 rfl (by kernel_rfl) (by kernel_rfl) (by kernel_rfl) (by kernel_rfl) (by kernel_rfl) (by kernel_rfl) (fun K hK => ?_)
        go_simp
        first | (refine hK _ ?_; clear hK K) | (apply Exists.intro; refine ⟨fun x => ?_, hK _ ?_⟩; (fail); clear hK K)
        refine Mix.allL (rs := [10]) (by kernel_rfl) (by simp) ((Chg.of_below _ HB7.out).same HCH.out) (by kernel_rfl) ?_
        intro i9 hi9 w9 hb9 hC9
        simp only [List.mem_cons, List.not_mem_nil, or_false] at hi9
        subst hi9
        have hp9 := HNX.out w9 (HCH.out.then_below hb9) hb9
        have y9 : w9.cell? ⟨b3, 2, none⟩ = some vo := ((HCH.out.then_below hb9).cell (b := b3) (by have := HB7.out.size; have := H3.out.m5.lt; omega) n3 2).trans ((HB7.out.cell (p := ⟨b3, 2, none⟩) H3.out.m5.lt).trans H3.out.m5.cells.2.2)
        have y8 : w9.frozen? ⟨b3, 2, none⟩ = false := ((HCH.out.then_below hb9).frozen (b := b3) (by have := HB7.out.size; have := H3.out.m5.lt; omega) n3 2).trans ((World.frozen?_of_block (a := ⟨b3, 2, none⟩) (HB7.out.block b3 H3.out.m5.lt)).trans (H3.out.m5.fz 2))
        have q9 : b3 < w9.heap.size := by have := HB7.out.size; have := HCH.out.size; have := hb9.size; have := H3.out.m5.lt; omega
        have HP9 := Lib.hid hp9
        clear hC9 hp9 hb9 n3 n2 ns
        refine Mix.op rfl (by kernel_rfl) ?_
        go_simp
        refine Mix.doneL (by kernel_rfl) (by kernel_rfl) ?_
        intro w10 hb10
        have HP10 := Lib.hid (HP9.out.on hb10)
        clear hb10 y9 y8 q9
        go_wp2
        go_roundw
        case rel => exact ⟨t + 1, _, _, by omega, by go_num, HP10, HE⟩
        case measure => simp [intOf]; omega
    · obtain rfl : n = t := by omega
      obtain ⟨ao, mo, co, rfl⟩ := H3.out.form
      have hs2 := (show MB w3 b2 0 0 (.slice none 0 0) from (H3.out.bel.block b2 (by have := HDS.out; omega)).trans HM2.out)
      have q2 := hs2.lt
      obtain ⟨s0, s1, s2⟩ := hs2.cells
      have s3 := hs2.fz 0; have s4 := hs2.fz 1; have s5 := hs2.fz 2
      have HR2 := Lib.hid (hs2.set3 g l (.slice ao mo co))
      have HCH := Lib.hid (mb_chg w3 b2 (.int .i64 g) (.int .i64 l) (.slice ao mo co))
      clear hs2
      go_wp2
      refine bodyPost_ret (res_m Try.results36 rfl HR2.out) rfl ?_
      have hol := H3.out.own.lt
      have hds := HDS.out; have hbq := HBQ.out; have hsz := HCH.out.size; have hl3 := H3.out.m5.lt
      refine ⟨_, rfl, ?_, fun k hk => ?_, ?_⟩
      · have h1 := (H3.out.own.chg HCH.out (fun k hk e => by have := (hol k hk).1; have e : k = b2 := e; omega)).rs (fun _ => rfl)
        rw [HC.out, HN.out, List.take_length] at h1
        exact h1
      · have := hol k hk; omega
      · rw [← hbq]
        exact HB3.out.trans ((H3.out.bel.mono (by omega)).trans (HCH.out.below (by omega) fun k e => by have e : k = b2 := e; omega))
end
end Go.Proofs.Ytnckjacbkhoppaa

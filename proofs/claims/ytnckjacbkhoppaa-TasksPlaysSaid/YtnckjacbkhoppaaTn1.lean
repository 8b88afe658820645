/- The document's tasks by a list: records, At, End, Launch of what does not come in. -/
import Derived.Test.YtnckjacbkhoppaaTc0
import Derived.Test.YtnckjacbkhoppaaTmx
namespace Go.Proofs.Ytnckjacbkhoppaa
open Go.RowKit Go.Maps
attribute [local go_sem] ext_cell ext_frozen extC_cell extC_frozen Mix.calmUpon Mix.mUpon
abbrev mval (cap : Int) (v : Value) : Value := .agg #[.int .i64 cap, v]
/-- A block that holds a list with a cap. -/
def MB (w : World) (b : Nat) (cap : Int) (v : Value) : Prop := w.heap[b]? = some (.cells #[.int .i64 cap, v] 93 (0, 0))
theorem MB.made (w : World) (cap : Int) (v : Value) : MB (w.alloc (.cells #[.int .i64 cap, v] 93)) w.heap.size cap v := heap_alloc_new w _
theorem MB.chg {F : Nat → Prop} {w w' : World} {b : Nat} {cap : Int} {v : Value} (h : MB w b cap v) (hb : Chg F w w') (hf : ¬ F b) : MB w' b cap v := (hb.block _ (Array.getElem?_eq_some_iff.1 h).1 hf).trans h
theorem MB.below {w w' : World} {b : Nat} {cap : Int} {v : Value} (h : MB w b cap v) (hb : Below w.heap.size w w') : MB w' b cap v := h.chg (.of_below (fun _ => False) hb) id
theorem MB.lt {w : World} {b : Nat} {cap : Int} {v : Value} (h : MB w b cap v) : b < w.heap.size := (Array.getElem?_eq_some_iff.1 h).1
theorem MB.cells {w : World} {b : Nat} {cap : Int} {v : Value} (h : MB w b cap v) : w.cell? ⟨b, 0, none⟩ = some (.int .i64 cap) ∧ w.cell? ⟨b, 1, none⟩ = some v := by unfold MB at h; simp [World.cell?, h]
theorem MB.fz {w : World} {b : Nat} {cap : Int} {v : Value} (h : MB w b cap v) (o : Nat) : w.frozen? ⟨b, o, none⟩ = false := by unfold MB at h; simp [World.frozen?, h]
theorem MB.set1 {w : World} {b : Nat} {cap : Int} {v : Value} (h : MB w b cap v) (v' : Value) : MB (w.setCell ⟨b, 1, none⟩ v') b cap v' := heap_setCell_at v' h
theorem MB.set2 {w : World} {b : Nat} {cap : Int} {v : Value} (h : MB w b cap v) (c' : Int) (v' : Value) : MB ((w.setCell ⟨b, 0, none⟩ (.int .i64 c')).setCell ⟨b, 1, none⟩ v') b c' v' := heap_setCell_at v' (heap_setCell_at _ h)
theorem mb_chg (w : World) (b : Nat) (u0 u1 : Value) : Chg (fun k => k = b) w ((w.setCell ⟨b, 0, none⟩ u0).setCell ⟨b, 1, none⟩ u1) :=
  ((Chg.refl (fun k => k = b) w).setCell (p := ⟨b, 0, none⟩) (.inl rfl) _).setCell (p := ⟨b, 1, none⟩) (.inl rfl) _
theorem MB.load {w : World} {b : Nat} {cap : Int} {v : Value} (h : MB w b cap v) : (loadVar 93 ⟨b, 0, none⟩).run Try.prog w = .ok (mval cap v) w := by
  obtain ⟨x0, x1⟩ := h.cells
  simp [go_sem, x0, x1]
theorem res_m {fn : Func} {tmps : Array Value} {w : World} {p b : Nat} {cap : Int} {v : Value} (h : fn.results = #[.cell p 93]) (hp : tmps.getD p undef = .pointer (some ⟨b, 0, none⟩)) (hb : MB w b cap v) :
    (results fn tmps).run Try.prog w = .ok (mval cap v) w := by
  simp only [results, h]
  have hp' : tmps[p]?.getD undef = .pointer (some ⟨b, 0, none⟩) := by simpa [Array.getD_eq_getD_getElem?] using hp
  simp [Sem.run_bind, Result.andThen, hp', asAddr, hb.load]
theorem res_mt {fn : Func} {tmps : Array Value} {w : World} {p u b : Nat} {cap : Int} {v : Value} (h : fn.results = #[.cell p 93, .tmp u]) (hp : tmps.getD p undef = .pointer (some ⟨b, 0, none⟩)) (hb : MB w b cap v) :
    (results fn tmps).run Try.prog w = .ok (.tuple #[mval cap v, tmps.getD u undef]) w := by
  rw [results_cell_tmp h, hp]
  simp [asAddr, Result.andThen, hb.load]
section
variable {w : World} {v : Value} {S : List Tk} {cap : Int}
set_option maxRecDepth 100000 in
set_option maxHeartbeats 1000000 in
theorem mat (h : RS 4 tkenc w v S) (f i : Int) : Calls Try.prog 50 #[mval cap v, .int .i64 f, .int .i64 i] w fun e w' => e = .returned (.int .i64 (Srt.pl tkey S ⟨f, i⟩)) ∧ Below w.heap.size w w' := by
  obtain ⟨a, n, cp, rfl, hn, hc, hm, hat⟩ := h.at_
  have HA := Lib.hid hat
  unfold maxLen at hm
  have hlm : n ≤ 9223372036854775807 := by omega
  have HN := Lib.hid hn
  have HB := Lib.hid (show Below w.heap.size w (w.alloc (.cells #[.int .i64 cap, .slice a n cp] 93)) from ba (Below.refl _ _) _)
  clear hat h hn
  go_enter Try.func50, Try.ntmps50
  go_wp2
  go_loop [7] (fun iv => ∃ t : Nat, t ≤ n ∧ iv = .int .i64 t ∧ Hid (∀ p ∈ S.take t, tkey p ≠ ⟨f, i⟩)) (fun iv => n - (intOf iv).toNat)
  case atStart => exact ⟨0, Nat.zero_le _, rfl, Lib.hid fun p h => by simp at h⟩
  case round =>
    obtain ⟨t, ht, rfl, HQ⟩ := hrel
    by_cases hlt : t < n
    · have hts : (t : Int) < (n : Int) := by omega
      obtain ⟨x, hx⟩ := at_lt (l := S) (i := t) (by rw [← HN.out]; exact hlt)
      obtain ⟨b, off, rfl, hb, hcell⟩ := HA.out t x hx
      have e0 := hcell 0 _ rfl
      have e1 := hcell 1 _ rfl
      simp only [Nat.add_zero] at e0
      have HX := Lib.hid hx
      have HW := Lib.hid (show tkey x ≠ ⟨f, i⟩ → ∀ p ∈ S.take (t + 1), tkey p ≠ ⟨f, i⟩ from fun hne p hp => by
        rw [take_at HX.out] at hp
        rcases List.mem_append.1 hp with h | h
        · exact HQ.out p h
        · rw [List.mem_singleton.1 h]; exact hne)
      have HF := Lib.hid (show tkey x = ⟨f, i⟩ → Srt.pl tkey S ⟨f, i⟩ = t from fun he => by
        have := Srt.pl_some (key := tkey) (l := S.take t) (m := S.drop (t + 1)) he HQ.out
        rw [← parted_at HX.out, List.length_take, Nat.min_eq_left (by rw [← HN.out]; omega)] at this
        exact this)
      clear hcell hx
      obtain ⟨xf, xi, xa, xv, xs⟩ := x
      simp only at e0 e1
      by_cases he : xf = f
      · have heb : (xf == f) = true := by simpa using he
        by_cases he2 : xi = i
        · have heb2 : (xi == i) = true := by simpa using he2
          have HE := Lib.hid (HF.out (by rw [← he, ← he2]))
          clear he he2
          go_wp2
          go_ret
          exact ⟨by rw [HE.out]; rfl, HB.out⟩
        · have heb2 : (xi == i) = false := by simpa using he2
          have HE := Lib.hid (HW.out fun h => he2 (congrArg K2.b h))
          clear he he2
          go_wp2
          go_round
          case rel => exact ⟨t + 1, by omega, by go_num, HE⟩
          case measure => simp [intOf]; omega
      · have heb : (xf == f) = false := by simpa using he
        have HE := Lib.hid (HW.out fun h => he (congrArg K2.a h))
        clear he
        go_wp2
        go_round
        case rel => exact ⟨t + 1, by omega, by go_num, HE⟩
        case measure => simp [intOf]; omega
    · obtain rfl : n = t := by omega
      go_wp2
      go_ret
      refine ⟨?_, HB.out⟩
      rw [Srt.pl_none fun p hp => HQ.out p (by rw [HN.out, List.take_length]; exact hp)]; rfl
end
def OB (v : Value) : Nat → Prop := fun k => v.ownBlock = some k
/-- A list that a call of the document's builds, in the block b3; nothing below it is changed. -/
structure WM (w0 wr : World) (b3 : Nat) (cap : Int) (vo : Value) (C : List Tk) : Prop where
  bel : Below b3 w0 wr
  m5 : MB wr b3 cap vo
  own : OwnL 95 4 tkenc wr (b3 + 1) vo C
section
variable {w0 wr wr' : World} {b3 : Nat} {cap : Int} {vo : Value} {x : Tk} {C : List Tk}
theorem WM.no (h : WM w0 wr b3 cap vo C) {k : Nat} (hk : k ≤ b3) : ¬ OB vo k := fun e => by have := (h.own.lt k e).1; omega
theorem WM.on (h : WM w0 wr b3 cap vo C) (hb : Below wr.heap.size wr wr') : WM w0 wr' b3 cap vo C := ⟨h.bel.trans (hb.mono (Nat.le_of_lt h.m5.lt)), h.m5.below hb, h.own.below hb⟩
theorem WM.form (h : WM w0 wr b3 cap vo C) : ∃ a n c, vo = .slice a n c := by
  rcases h.own.2 with ⟨hv, h0⟩ | ⟨g', cap', cur', hv, _⟩
  · exact ⟨_, _, _, hv⟩
  · exact ⟨_, _, _, hv⟩
/-- One more element, which lies in a new block. -/
theorem WM.app (h : WM w0 wr b3 cap vo C) (hl : C.length < 1000000) {w1 : World} (hb : Below wr.heap.size wr w1) {q : Nat} (hx : KB w1 q x.frame x.id x.agent x.vv) (h1 : x.vv.oneCell' = true) :
    ∃ a' m' c' w2, (Builtin.append_ #[91, 91] 91 #[vo, .slice (some ⟨q, 0, none⟩) 1 1]).run Try.prog w1 = .ok (.slice a' m' c') w2 ∧ Chg (OB vo) w1 w2 ∧ (∀ w3, Chg (OB vo) w1 w3 → Below w2.heap.size w2 w3 → WM w0 (w3.setCell ⟨b3, 1, none⟩ (.slice a' m' c')) b3 cap (.slice a' m' c') (C ++ [x])) := by
  have h2 := h.on hb
  obtain ⟨v', w2, hrun, o2, g2, hv2⟩ := own_appT h2.own x hx h1 hl (by have := h2.m5.lt; omega)
  obtain ⟨a', m', c', rfl⟩ : ∃ a' m' c', v' = .slice a' m' c' := by
    rcases o2.2 with ⟨_, h0⟩ | ⟨g', cap', cur', rfl, _⟩
    · simp at h0
    · exact ⟨_, _, _, rfl⟩
  have hc : Chg (OB vo) w1 w2 := .of_grown g2 fun k e => e
  refine ⟨a', m', c', w2, hrun, hc, fun w3 hc3 hb3 => ?_⟩
  have hst : Chg (fun k => k = b3) w3 (w3.setCell ⟨b3, 1, none⟩ (.slice a' m' c')) := (Chg.refl (fun k => k = b3) w3).setCell (p := ⟨b3, 1, none⟩) (.inl rfl) _
  have own3 := o2.below hb3
  have hs3 := hc3.size
  have hlt := h2.m5.lt
  have nb : ∀ k, Value.ownBlock (.slice a' m' c') = some k → k ≠ b3 := fun k hk e => by have := (o2.lt k hk).1; omega
  exact ⟨h2.bel.trans ((hc3.below (by omega) (fun k hk => by have := (h2.own.lt k hk).1; omega)).trans (hst.below (by omega) (fun k e => by rw [e]; exact Nat.le_refl _))), (h2.m5.chg hc3 (h2.no (Nat.le_refl _))).set1 _, own3.chg hst nb⟩
end
/-- What a call of the document's answers: a list in new memory. -/
structure ML (w w' : World) (v : Value) (L : List Tk) : Prop where
  rs : RS 4 tkenc w' v L
  own : ∀ b, v.ownBlock = some b → w.heap.size ≤ b ∧ b < w'.heap.size
  bel : Below w.heap.size w w'
section
variable {w : World} {v : Value} {S : List Tk} {cap : Int}
set_option maxRecDepth 100000 in
set_option maxHeartbeats 4000000 in
theorem mend (h : RS 4 tkenc w v S) (hvv : ∀ x ∈ S, Vc w x.vv x.ps) (hln : S.length < 900000) (f i : Int) : Calls Try.prog 55 #[mval cap v, .int .i64 f, .int .i64 i] w fun e w' => ∃ v', e = .returned (mval cap v') ∧ ML w w' v' (delT S ⟨f, i⟩) := by
  obtain ⟨a, n, cp, rfl, hn, hc, hm, hat⟩ := h.at_
  have hlm : n ≤ 9223372036854775807 := by unfold maxLen at hm; omega
  have HAT := Lib.hid hat
  have HN := Lib.hid hn
  have HVV := Lib.hid hvv
  have e1 : (w.alloc (.cells #[.int .i64 cap, .slice a n cp] 93)).heap.size = w.heap.size + 1 := by simp
  have e2 : ((w.alloc (.cells #[.int .i64 cap, .slice a n cp] 93)).alloc (.cells #[.int .i64 0, .slice none 0 0] 93)).heap.size = w.heap.size + 1 + 1 := by simp
  have hb1 := ba (Below.refl w.heap.size w) (.cells #[.int .i64 cap, .slice a n cp] 93)
  have hb2 := ba hb1 (.cells #[.int .i64 0, .slice none 0 0] 93)
  have hb3 := ba hb2 (.cells #[.int .i64 cap, .slice none 0 0] 93)
  have hm1 := ((MB.made w cap (.slice a n cp)).below (ba (Below.refl _ _) (.cells #[.int .i64 0, .slice none 0 0] 93))).below (ba (Below.refl _ _) (.cells #[.int .i64 cap, .slice none 0 0] 93))
  have hm2 := (MB.made (w.alloc (.cells #[.int .i64 cap, .slice a n cp] 93)) 0 (.slice none 0 0)).below (ba (Below.refl _ _) (.cells #[.int .i64 cap, .slice none 0 0] 93))
  have hm3 := MB.made ((w.alloc (.cells #[.int .i64 cap, .slice a n cp] 93)).alloc (.cells #[.int .i64 0, .slice none 0 0] 93)) cap (.slice none 0 0)
  rw [e1] at hm2
  rw [e2] at hm3
  have HM1 := Lib.hid hm1; have HM2 := Lib.hid hm2; have HM3 := Lib.hid hm3; have HB3 := Lib.hid hb3
  clear hat h hn hvv e1 e2 hb1 hb2 hb3 hm1 hm2 hm3 hm
  go_enter Try.func55, Try.ntmps55
  go_wp2
  generalize ((w.alloc (.cells #[.int .i64 cap, .slice a n cp] 93)).alloc (.cells #[.int .i64 0, .slice none 0 0] 93)).alloc (.cells #[.int .i64 cap, .slice none 0 0] 93) = w0 at *
  obtain ⟨b, hbq⟩ : ∃ b, b = w.heap.size := ⟨_, rfl⟩
  rw [← hbq] at HM1 HM2 HM3 HB3 ⊢
  obtain ⟨b2, hb2q⟩ : ∃ b2, b2 = b + 1 := ⟨_, rfl⟩
  obtain ⟨b3, hb3q⟩ : ∃ b3, b3 = b2 + 1 := ⟨_, rfl⟩
  rw [← hb2q] at HM2 HM3 ⊢
  rw [← hb3q] at HM3 ⊢
  have HBQ := Lib.hid hbq
  have HDS := Lib.hid (show b < b2 ∧ b2 < b3 by omega)
  clear hbq hb2q hb3q
  have HI := Lib.hid (show WM w0 w0 b3 cap (.slice none 0 0) [] from ⟨Below.refl _ _, HM3.out, OwnL.nil _ _ _ _ _⟩)
  go_loopw [8] (fun iv wr => ∃ (t : Nat) (vo : Value) (C : List Tk), t ≤ n ∧ iv = .int .i64 t ∧ Hid (WM w0 wr b3 cap vo C) ∧ Hid (C = delT (S.take t) ⟨f, i⟩)) (fun iv _ => n - (intOf iv).toNat)
  case atStart => exact ⟨0, _, [], Nat.zero_le _, rfl, HI, Lib.hid rfl⟩
  case round =>
    clear HI
    obtain ⟨t, vo, C, ht, rfl, H3, HC⟩ := hrel
    obtain ⟨w3, rfl⟩ : ∃ w3, w3 = wr := ⟨_, rfl⟩
    obtain ⟨z0, z1⟩ := (show MB w3 b cap (.slice a n cp) from (H3.out.bel.block b (by have := HDS.out; omega)).trans HM1.out).cells
    obtain ⟨y0, y1⟩ := H3.out.m5.cells
    have q0 : b < w3.heap.size := by have := HDS.out; have := H3.out.m5.lt; omega
    have q3 := H3.out.m5.lt
    have HMV := Lib.hid (show b < b3 by have := HDS.out; omega)
    by_cases hlt : t < n
    · have hts : (t : Int) < (n : Int) := by omega
      obtain ⟨x, hx⟩ := at_lt (l := S) (i := t) (by rw [← HN.out]; exact hlt)
      obtain ⟨bs, off, rfl, hbs, hcell⟩ := HAT.out t x hx
      have hxv := HVV.out x (mem_at hx)
      have HW := Lib.hid (show C ++ (if tkey x ≠ ⟨f, i⟩ then [x] else []) = delT (S.take (t + 1)) ⟨f, i⟩ from by
        rw [take_at hx, HC.out]
        show _ = Srt.del tkey (S.take t ++ [x]) ⟨f, i⟩
        rw [Srt.del_snoc]
        by_cases h : tkey x = ⟨f, i⟩
        · rw [if_neg (fun e => e h), if_pos h]
        · rw [if_pos h, if_neg h])
      obtain ⟨xf, xi, xa, xv, xs⟩ := x
      obtain ⟨va, vc, hvv, -, -⟩ := hxv.form
      simp only at hvv
      subst hvv
      have HBS3 := Lib.hid (show bs < b3 by have := HDS.out; have := HBQ.out; omega)
      have d0 := ((HB3.out.trans (H3.out.bel.mono (by have := HDS.out; omega))).cell (p := ⟨bs, _, none⟩) (by have := HBQ.out; show bs < b; omega)).trans (hcell 0 _ rfl)
      have d1 := ((HB3.out.trans (H3.out.bel.mono (by have := HDS.out; omega))).cell (p := ⟨bs, _, none⟩) (by have := HBQ.out; show bs < b; omega)).trans (hcell 1 _ rfl)
      have d2 := ((HB3.out.trans (H3.out.bel.mono (by have := HDS.out; omega))).cell (p := ⟨bs, _, none⟩) (by have := HBQ.out; show bs < b; omega)).trans (hcell 2 _ rfl)
      have d3 := ((HB3.out.trans (H3.out.bel.mono (by have := HDS.out; omega))).cell (p := ⟨bs, _, none⟩) (by have := HBQ.out; show bs < b; omega)).trans (hcell 3 _ rfl)
      simp only [Nat.add_zero] at d0
      have qs : bs < w3.heap.size := by have := HBS3.out; omega
      have HCL := Lib.hid (show C.length < 900000 from by
        rw [HC.out]
        have h1 := List.length_filter_le (fun a => decide (tkey a ≠ ⟨f, i⟩)) (S.take t)
        have h2 := List.length_take_le t S
        show (List.filter (fun a => decide (tkey a ≠ ⟨f, i⟩)) (S.take t)).length < 900000
        have h3 := HN.out
        omega)
      generalize xs.length = xn at *
      clear hcell hx hxv hbs
      by_cases he : xf = f
      · have heb : (xf != f) = false := by simpa using he
        by_cases he2 : xi = i
        · have heb2 : (xi != i) = false := by simpa using he2
          have HE := Lib.hid (show C = delT (S.take (t + 1)) ⟨f, i⟩ from by
            have := HW.out; rw [if_neg (fun h => h (by rw [← he, ← he2])), List.append_nil] at this; exact this)
          clear he he2
          go_wp2
          go_roundw
          case rel => exact ⟨t + 1, _, _, by omega, by go_num, H3, HE⟩
          case measure => simp [intOf]; omega
        · have heb2 : (xi != i) = true := by simpa using he2
          have HE := Lib.hid (show C ++ [(⟨xf, xi, xa, .slice va xn vc, xs⟩ : Tk)] = delT (S.take (t + 1)) ⟨f, i⟩ from by
            have := HW.out; rw [if_pos (fun h => he2 (congrArg K2.b h))] at this; exact this)
          clear he he2
          have n3 : ¬ OB vo b3 := H3.out.no (Nat.le_refl _)
          have n2 : ¬ OB vo b := H3.out.no (Nat.le_of_lt HMV.out)
          have ns : ¬ OB vo bs := H3.out.no (Nat.le_of_lt HBS3.out)
          go_wp2
          refine Mix.regionL (OB vo) (by kernel_rfl) ?_
          intro w5 hb5
          refine Mix.take_exL _ _ 0 rfl (by kernel_rfl) (by kernel_rfl) (by kernel_rfl) (by kernel_rfl) (by kernel_rfl) (by kernel_rfl) (fun K hK => ?_)
          go_simp
          first | (refine hK _ ?_; clear hK K) | (apply Exists.intro; refine ⟨fun x => ?_, hK _ ?_⟩; (fail); clear hK K)
          refine Mix.take_exL _ _ 1 rfl (by kernel_rfl) (by kernel_rfl) (by kernel_rfl) (by kernel_rfl) (by kernel_rfl) (by kernel_rfl) (fun K hK => ?_)
          go_simp
          first | (refine hK _ ?_; clear hK K) | (apply Exists.intro; refine ⟨fun x => ?_, hK _ ?_⟩; (fail); clear hK K)
          refine Mix.take_exL _ _ 2 rfl (by kernel_rfl) (by kernel_rfl) (by kernel_rfl) (by kernel_rfl) (by kernel_rfl) (by kernel_rfl) (fun K hK => ?_)
          go_simp
          first | (refine hK _ ?_; clear hK K) | (apply Exists.intro; refine ⟨fun x => ?_, hK _ ?_⟩; (fail); clear hK K)
          refine Mix.take_exL _ _ 3 rfl (by kernel_rfl) (by kernel_rfl) (by kernel_rfl) (by kernel_rfl) (by kernel_rfl) (by kernel_rfl) (fun K hK => ?_)
          go_simp
          first | (refine hK _ ?_; clear hK K) | (apply Exists.intro; refine ⟨fun x => ?_, hK _ ?_⟩; (fail); clear hK K)
          refine Mix.take_exL _ _ 4 rfl (by kernel_rfl) (by kernel_rfl) (by kernel_rfl) (by kernel_rfl) (by kernel_rfl) (by kernel_rfl) (fun K hK => ?_)
          go_simp
          first | (refine hK _ ?_; clear hK K) | (apply Exists.intro; refine ⟨fun x => ?_, hK _ ?_⟩; (fail); clear hK K)
          refine Mix.take_exL _ _ 5 rfl (by kernel_rfl) (by kernel_rfl) (by kernel_rfl) (by kernel_rfl) (by kernel_rfl) (by kernel_rfl) (fun K hK => ?_)
          go_simp
          first | (refine hK _ ?_; clear hK K) | (apply Exists.intro; refine ⟨fun x => ?_, hK _ ?_⟩; (fail); clear hK K)
          refine Mix.take_exL _ _ 6 rfl (by kernel_rfl) (by kernel_rfl) (by kernel_rfl) (by kernel_rfl) (by kernel_rfl) (by kernel_rfl) (fun K hK => ?_)
          go_simp
          first | (refine hK _ ?_; clear hK K) | (apply Exists.intro; refine ⟨fun x => ?_, hK _ ?_⟩; (fail); clear hK K)
          refine Mix.allL (rs := [7]) (by kernel_rfl) (by simp) (.of_below _ hb5) (by kernel_rfl) ?_
          intro i6 hi6 w6 hb6 hC6
          simp only [List.mem_cons, List.not_mem_nil, or_false] at hi6
          subst hi6
          have HB6 := Lib.hid (bt hb5 hb6)
          clear hC6 hb5 hb6
          refine Mix.op rfl (by kernel_rfl) ?_
          go_simp
          refine Mix.allL (rs := [8]) (by kernel_rfl) (by simp) (.of_below _ (ba HB6.out _)) (by kernel_rfl) ?_
          intro i7 hi7 w7 hb7 hC7
          simp only [List.mem_cons, List.not_mem_nil, or_false] at hi7
          subst hi7
          have HB7 := Lib.hid (bt (ba HB6.out (.cells #[.int .i64 xf, .int .i64 xi, .int .i64 xa, .slice va xn vc] 95)) hb7)
          have hFX := (KB.made w6 xf xi xa (.slice va xn vc)).below hb7
          clear hC7 hb7
          obtain ⟨a', m', c', w8, hrun8, hch, hnx⟩ := H3.out.app (x := ⟨xf, xi, xa, .slice va xn vc, xs⟩) (by have := HCL.out; omega) HB7.out hFX rfl
          have HCH := Lib.hid hch; have HNX := Lib.hid hnx; have HRA := Lib.hid hrun8
          clear hch hnx hrun8 hFX
          refine Mix.opApp rfl (by kernel_rfl) _ _ _ rfl rfl rfl HRA.out ?_
          go_simp
          refine Mix.take_exL _ _ 9 rfl (by kernel_rfl) (by kernel_rfl) (by kernel_rfl) (by kernel_rfl) (by kernel_rfl) (by kernel_rfl) (fun K hK => ?_)
          go_simp
          first | (refine hK _ ?_; clear hK K) | (apply Exists.intro; refine ⟨fun x => ?_, hK _ ?_⟩; (fail); clear hK K)
          refine Mix.allL (rs := [10]) (by kernel_rfl) (by simp) ((Chg.of_below _ HB7.out).same HCH.out) (by kernel_rfl) ?_
          intro i9 hi9 w9 hb9 hC9
          simp only [List.mem_cons, List.not_mem_nil, or_false] at hi9
          subst hi9
          have hp9 := HNX.out w9 (HCH.out.then_below hb9) hb9
          have y9 : w9.cell? ⟨b3, 1, none⟩ = some vo := ((HCH.out.then_below hb9).cell (b := b3) (by have := HB7.out.size; have := H3.out.m5.lt; omega) n3 1).trans ((HB7.out.cell (p := ⟨b3, 1, none⟩) H3.out.m5.lt).trans H3.out.m5.cells.2)
          have y8 : w9.frozen? ⟨b3, 1, none⟩ = false := ((HCH.out.then_below hb9).frozen (b := b3) (by have := HB7.out.size; have := H3.out.m5.lt; omega) n3 1).trans ((World.frozen?_of_block (a := ⟨b3, 1, none⟩) (HB7.out.block b3 H3.out.m5.lt)).trans (H3.out.m5.fz 1))
          have q9 : b3 < w9.heap.size := by have := HB7.out.size; have := HCH.out.size; have := hb9.size; have := H3.out.m5.lt; omega
          have HP9 := Lib.hid hp9
          clear hC9 hp9 hb9 n3 n2 ns
          refine Mix.op rfl (by kernel_rfl) ?_
          go_simp
          refine Mix.doneL (by kernel_rfl) (by kernel_rfl) ?_
          intro w10 hb10
          have HP10 := Lib.hid (HP9.out.on hb10)
          clear hb10 y9 y8 q9
          go_wp2
          go_roundw
          case rel => exact ⟨t + 1, _, _, by omega, by go_num, HP10, HE⟩
          case measure => simp [intOf]; omega
      · have heb : (xf != f) = true := by simpa using he
        have HE := Lib.hid (show C ++ [(⟨xf, xi, xa, .slice va xn vc, xs⟩ : Tk)] = delT (S.take (t + 1)) ⟨f, i⟩ from by
          have := HW.out; rw [if_pos (fun h => he (congrArg K2.a h))] at this; exact this)
        clear he
        have n3 : ¬ OB vo b3 := H3.out.no (Nat.le_refl _)
        have n2 : ¬ OB vo b := H3.out.no (Nat.le_of_lt HMV.out)
        have ns : ¬ OB vo bs := H3.out.no (Nat.le_of_lt HBS3.out)
        go_wp2
        refine Mix.regionL (OB vo) (by kernel_rfl) ?_
        intro w5 hb5
        refine Mix.take_exL _ _ 0 rfl (by kernel_rfl) (by kernel_rfl) (by kernel_rfl) (by kernel_rfl) (by kernel_rfl) (by kernel_rfl) (fun K hK => ?_)
        go_simp
        first | (refine hK _ ?_; clear hK K) | (apply Exists.intro; refine ⟨fun x => ?_, hK _ ?_⟩; (fail); clear hK K)
        refine Mix.take_exL _ _ 1 rfl (by kernel_rfl) (by kernel_rfl) (by kernel_rfl) (by kernel_rfl) (by kernel_rfl) (by kernel_rfl) (fun K hK => ?_)
        go_simp
        first | (refine hK _ ?_; clear hK K) | (apply Exists.intro; refine ⟨fun x => ?_, hK _ ?_⟩; (fail); clear hK K)
        refine Mix.take_exL _ _ 2 rfl (by kernel_rfl) (by kernel_rfl) (by kernel_rfl) (by kernel_rfl) (by kernel_rfl) (by kernel_rfl) (fun K hK => ?_)
        go_simp
        first | (refine hK _ ?_; clear hK K) | (apply Exists.intro; refine ⟨fun x => ?_, hK _ ?_⟩; (fail); clear hK K)
        refine Mix.take_exL _ _ 3 rfl (by kernel_rfl) (by kernel_rfl) (by kernel_rfl) (by kernel_rfl) (by kernel_rfl) (by kernel_rfl) (fun K hK => ?_)
        go_simp
        first | (refine hK _ ?_; clear hK K) | (apply Exists.intro; refine ⟨fun x => ?_, hK _ ?_⟩; (fail); clear hK K)
        refine Mix.take_exL _ _ 4 rfl (by kernel_rfl) (by kernel_rfl) (by kernel_rfl) (by kernel_rfl) (by kernel_rfl) (by kernel_rfl) (fun K hK => ?_)
        go_simp
        first | (refine hK _ ?_; clear hK K) | (apply Exists.intro; refine ⟨fun x => ?_, hK _ ?_⟩; (fail); clear hK K)
        refine Mix.take_exL _ _ 5 rfl (by kernel_rfl) (by kernel_rfl) (by kernel_rfl) (by kernel_rfl) (by kernel_rfl) (by kernel_rfl) (fun K hK => ?_)
        go_simp
        first | (refine hK _ ?_; clear hK K) | (apply Exists.intro; refine ⟨fun x => ?_, hK _ ?_⟩; (fail); clear hK K)
        refine Mix.take_exL _ _ 6 rfl (by kernel_rfl) (by kernel_rfl) (by kernel_rfl) (by kernel_rfl) (by kernel_rfl) (by kernel_rfl) (fun K hK => ?_)
        go_simp
        first | (refine hK _ ?_; clear hK K) | (apply Exists.intro; refine ⟨fun x => ?_, hK _ ?_⟩; (fail); clear hK K)
        refine Mix.allL (rs := [7]) (by kernel_rfl) (by simp) (.of_below _ hb5) (by kernel_rfl) ?_
        intro i6 hi6 w6 hb6 hC6
        simp only [List.mem_cons, List.not_mem_nil, or_false] at hi6
        subst hi6
        have HB6 := Lib.hid (bt hb5 hb6)
        clear hC6 hb5 hb6
        refine Mix.op rfl (by kernel_rfl) ?_
        go_simp
        refine Mix.allL (rs := [8]) (by kernel_rfl) (by simp) (.of_below _ (ba HB6.out _)) (by kernel_rfl) ?_
        intro i7 hi7 w7 hb7 hC7
        simp only [List.mem_cons, List.not_mem_nil, or_false] at hi7
        subst hi7
        have HB7 := Lib.hid (bt (ba HB6.out (.cells #[.int .i64 xf, .int .i64 xi, .int .i64 xa, .slice va xn vc] 95)) hb7)
        have hFX := (KB.made w6 xf xi xa (.slice va xn vc)).below hb7
        clear hC7 hb7
        obtain ⟨a', m', c', w8, hrun8, hch, hnx⟩ := H3.out.app (x := ⟨xf, xi, xa, .slice va xn vc, xs⟩) (by have := HCL.out; omega) HB7.out hFX rfl
        have HCH := Lib.hid hch; have HNX := Lib.hid hnx; have HRA := Lib.hid hrun8
        clear hch hnx hrun8 hFX
        refine Mix.opApp rfl (by kernel_rfl) _ _ _ rfl rfl rfl HRA.out ?_
        go_simp
        refine Mix.take_exL _ _ 9 rfl (by kernel_rfl) (by kernel_rfl) (by kernel_rfl) (by kernel_rfl) (by kernel_rfl) (by kernel_rfl) (fun K hK => ?_)
        go_simp
        first | (refine hK _ ?_; clear hK K) | (apply Exists.intro; refine ⟨fun x => ?_, hK _ ?_⟩; (fail); clear hK K)
        refine Mix.allL (rs := [10]) (by kernel_rfl) (by simp) ((Chg.of_below _ HB7.out).same HCH.out) (by kernel_rfl) ?_
        intro i9 hi9 w9 hb9 hC9
        simp only [List.mem_cons, List.not_mem_nil, or_false] at hi9
        subst hi9
        have hp9 := HNX.out w9 (HCH.out.then_below hb9) hb9
        have y9 : w9.cell? ⟨b3, 1, none⟩ = some vo := ((HCH.out.then_below hb9).cell (b := b3) (by have := HB7.out.size; have := H3.out.m5.lt; omega) n3 1).trans ((HB7.out.cell (p := ⟨b3, 1, none⟩) H3.out.m5.lt).trans H3.out.m5.cells.2)
        have y8 : w9.frozen? ⟨b3, 1, none⟩ = false := ((HCH.out.then_below hb9).frozen (b := b3) (by have := HB7.out.size; have := H3.out.m5.lt; omega) n3 1).trans ((World.frozen?_of_block (a := ⟨b3, 1, none⟩) (HB7.out.block b3 H3.out.m5.lt)).trans (H3.out.m5.fz 1))
        have q9 : b3 < w9.heap.size := by have := HB7.out.size; have := HCH.out.size; have := hb9.size; have := H3.out.m5.lt; omega
        have HP9 := Lib.hid hp9
        clear hC9 hp9 hb9 n3 n2 ns
        refine Mix.op rfl (by kernel_rfl) ?_
        go_simp
        refine Mix.doneL (by kernel_rfl) (by kernel_rfl) ?_
        intro w10 hb10
        have HP10 := Lib.hid (HP9.out.on hb10)
        clear hb10 y9 y8 q9
        go_wp2
        go_roundw
        case rel => exact ⟨t + 1, _, _, by omega, by go_num, HP10, HE⟩
        case measure => simp [intOf]; omega
    · obtain rfl : n = t := by omega
      obtain ⟨ao, mo, co, rfl⟩ := H3.out.form
      have hs2 := (show MB w3 b2 0 (.slice none 0 0) from (H3.out.bel.block b2 (by have := HDS.out; omega)).trans HM2.out)
      have q2 := hs2.lt
      obtain ⟨s0, s1⟩ := hs2.cells
      have s2 := hs2.fz 0; have s3 := hs2.fz 1
      have HR2 := Lib.hid (hs2.set2 cap (.slice ao mo co))
      have HCH := Lib.hid (mb_chg w3 b2 (.int .i64 cap) (.slice ao mo co))
      clear hs2
      go_wp2
      refine bodyPost_ret (res_m Try.results55 rfl HR2.out) rfl ?_
      have hol := H3.out.own.lt
      have hds := HDS.out; have hbq := HBQ.out; have hsz := HCH.out.size; have hl3 := H3.out.m5.lt
      refine ⟨_, rfl, ?_, fun k hk => ?_, ?_⟩
      · have h1 := (H3.out.own.chg HCH.out (fun k hk e => by have := (hol k hk).1; have e : k = b2 := e; omega)).rs (fun _ => rfl)
        rw [HC.out, HN.out, List.take_length] at h1
        exact h1
      · have := hol k hk; omega
      · rw [← hbq]
        exact HB3.out.trans ((H3.out.bel.mono (by omega)).trans (HCH.out.below (by omega) fun k e => by have e : k = b2 := e; omega))
end
end Go.Proofs.Ytnckjacbkhoppaa
namespace Go.Proofs.Ytnckjacbkhoppaa
open Go.RowKit Go.Maps
attribute [local go_sem] ext_cell ext_frozen extC_cell extC_frozen Mix.calmUpon Mix.mUpon
/-- What the document's Launch leaves. -/
def lauT (cap : Int) (S : List Tk) (x : Tk) : List Tk := if PkOk x.pl then (if (fndT S (tkey x)).isSome then S else if cap ≤ (S.length : Nat) then S else putT S x) else S
theorem lauT_pl (cap : Int) (S : List Tk) (x : Tk) : (lauT cap S x).map Tk.pl = lauP cap (S.map Tk.pl) x.pl := by
  have hf : fndK (S.map Tk.pl) (pkey x.pl) = (fndT S (tkey x)).map Tk.pl := pl_fndT S _
  unfold lauT lauP
  split
  · rw [hf, Option.isSome_map, List.length_map]
    split
    · rfl
    · split
      · rfl
      · exact pl_putT S x
  · rfl
theorem lauE_T (cap : Int) (S : List Tk) (x : Tk) : lauE cap (S.map Tk.pl) x.pl = if PkOk x.pl then (if (fndT S (tkey x)).isSome then 42 else if cap ≤ (S.length : Nat) then 32 else 0) else 41 := by
  have hf : fndK (S.map Tk.pl) (pkey x.pl) = (fndT S (tkey x)).map Tk.pl := pl_fndT S _
  unfold lauE
  rw [hf, Option.isSome_map, List.length_map]
/-- Where putting in by the document stands. -/
def WI (S : List Tk) (x : Tk) (t : Nat) (d : Bool) (C : List Tk) : Prop :=
  (d = false ∧ C = S.take t ∧ ∀ q ∈ S.take t, ltT q x = true) ∨ (d = true ∧ C = putT (S.take t) x ∧ ∃ q ∈ S.take t, ltT x q = true)
theorem WI.len {S : List Tk} {x : Tk} {t : Nat} {d : Bool} {C : List Tk} (h : WI S x t d C) : C.length ≤ t + 1 := by
  have := List.length_take_le t S
  rcases h with ⟨_, rfl, _⟩ | ⟨_, rfl, _⟩
  · omega
  · have h2 := Srt.put_le (key := tkey) (lt := ltT) (S.take t) x
    show (Srt.put tkey ltT (S.take t) x).length ≤ t + 1
    omega
theorem WI.step {S : List Tk} (hS : Srt.In tkey ltT S) {x : Tk} (hx : ∀ q ∈ S, tkey q ≠ tkey x) {t : Nat} {d : Bool} {C : List Tk} (h : WI S x t d C) {y : Tk} (hy : S[t]? = some y) :
    WI S x (t + 1) (d || ltT x y) ((if d = false ∧ ltT x y = true then C ++ [x] else C) ++ [y]) := by
  have ht := take_at hy
  have hyS := mem_at hy
  have hb : ∀ q ∈ S.take t, ltT q y = true := by
    have hS2 := hS
    rw [parted_at hy] at hS2
    intro q hq
    exact ((List.pairwise_append.1 hS2).2.2 q hq y List.mem_cons_self).1
  unfold WI
  rw [ht]
  rcases h with ⟨rfl, rfl, hq⟩ | ⟨rfl, rfl, q, hq1, hq2⟩
  · have hall : ∀ q ∈ S.take t, ltT x q = false ∧ tkey q ≠ tkey x := fun q hq' => ⟨ordT.asym (hq q hq'), hx q (List.mem_of_mem_take hq')⟩
    by_cases h1 : ltT x y = true
    · right
      refine ⟨by simp [h1], ?_, y, by simp, h1⟩
      rw [if_pos ⟨rfl, h1⟩]
      show _ = Srt.put tkey ltT (S.take t ++ [y]) x
      rw [Srt.put_after h1 (hx y hyS), Srt.put_end hall]
    · have h1' : ltT x y = false := by simpa using h1
      left
      refine ⟨by simp [h1'], by rw [if_neg (fun e => h1 e.2)], fun q hq' => ?_⟩
      rcases List.mem_append.1 hq' with h | h
      · exact hq q h
      · rw [List.mem_singleton.1 h]
        exact ordT.tot _ _ h1' (fun e => hx y hyS e.symm)
  · right
    have h1 := hb q hq1
    have h2 : ltT x y = true := ordT.trans _ _ _ hq2 h1
    refine ⟨by simp, ?_, q, by simp [hq1], hq2⟩
    rw [if_neg (fun e => by cases e.1)]
    exact (Srt.put_after h2 (hx y hyS)).symm
theorem WI.fin {S : List Tk} {x : Tk} (hx : ∀ q ∈ S, tkey q ≠ tkey x) {d : Bool} {C : List Tk} {n : Nat} (hn : n = S.length) (h : WI S x n d C) : (if d = false then C ++ [x] else C) = putT S x := by
  unfold WI at h
  rw [hn, List.take_length] at h
  rcases h with ⟨rfl, rfl, hq⟩ | ⟨rfl, rfl, _⟩
  · rw [if_pos rfl]
    exact (Srt.put_end fun q hq' => ⟨ordT.asym (hq q hq'), hx q hq'⟩).symm
  · rw [if_neg (by simp)]
/-- What the document's Launch answers. -/
def RetL (w : World) (cap : Int) (v : Value) (S' : List Tk) (er : Int) (e : Ending) (w' : World) : Prop :=
  ∃ v', e = .returned (.tuple #[mval cap v', .int .i64 er]) ∧ RS 4 tkenc w' v' S' ∧ (∀ b, v'.ownBlock = some b → (v.ownBlock = some b ∨ w.heap.size ≤ b) ∧ (b < w'.heap.size ∨ v' = v)) ∧ Below w.heap.size w w'
section
variable {w : World} {v : Value} {S : List Tk} {cap : Int}
set_option maxRecDepth 100000 in
set_option maxHeartbeats 4000000 in
theorem mlaunch_arg (h : RS 4 tkenc w v S) (x : Tk) (hx : TGo w x) (hno : ¬ PkOk x.pl) : Calls Try.prog 56 #[mval cap v, tkval x] w (RetL w cap v S 41) := by
  have HNO := Lib.hid hno
  clear hno
  obtain ⟨a, n, cp, rfl, hn, hc, hm, hat⟩ := h.at_
  obtain ⟨va, vc, hvq, -, -⟩ := hx.vc.form
  obtain ⟨f, i, g, xv, ps⟩ := x
  simp only at hvq
  subst hvq
  have hlm : n ≤ 9223372036854775807 := by unfold maxLen at hm; omega
  have HAT := Lib.hid hat
  have HN := Lib.hid hn
  have HRS := Lib.hid h
  have HX := Lib.hid hx
  generalize hpn : ps.length = pn at *
  have HPN := Lib.hid hpn
  have e1 : (w.alloc (.cells #[.int .i64 cap, .slice a n cp] 93)).heap.size = w.heap.size + 1 := by simp
  have e2 : ((w.alloc (.cells #[.int .i64 cap, .slice a n cp] 93)).alloc (.cells #[.int .i64 f, .int .i64 i, .int .i64 g, .slice va pn vc] 95)).heap.size = w.heap.size + 1 + 1 := by simp
  have hb1 := ba (Below.refl w.heap.size w) (.cells #[.int .i64 cap, .slice a n cp] 93)
  have hb2 := ba hb1 (.cells #[.int .i64 f, .int .i64 i, .int .i64 g, .slice va pn vc] 95)
  have hb3 := ba hb2 (.cells #[.int .i64 0, .slice none 0 0] 93)
  have hm1 := ((MB.made w cap (.slice a n cp)).below (ba (Below.refl _ _) (.cells #[.int .i64 f, .int .i64 i, .int .i64 g, .slice va pn vc] 95))).below (ba (Below.refl _ _) (.cells #[.int .i64 0, .slice none 0 0] 93))
  have hm2 := (KB.made (w.alloc (.cells #[.int .i64 cap, .slice a n cp] 93)) f i g (.slice va pn vc)).below (ba (Below.refl _ _) (.cells #[.int .i64 0, .slice none 0 0] 93))
  have hm3 := MB.made ((w.alloc (.cells #[.int .i64 cap, .slice a n cp] 93)).alloc (.cells #[.int .i64 f, .int .i64 i, .int .i64 g, .slice va pn vc] 95)) 0 (.slice none 0 0)
  rw [e1] at hm2
  rw [e2] at hm3
  have HM1 := Lib.hid hm1; have HM2 := Lib.hid hm2; have HM3 := Lib.hid hm3; have HB3 := Lib.hid hb3
  clear hat h hn hx e1 e2 hb1 hb2 hb3 hm1 hm2 hm3 hm hpn hc
  go_enter Try.func56, Try.ntmps56
  by_cases q0 : f < 1
  · have hq0 : decide (f < 1) = true := decide_eq_true q0
    go_wp2
    have hmx := MB.made ((w.alloc (.cells #[.int .i64 cap, .slice a n cp] 93)).alloc (.cells #[.int .i64 f, .int .i64 i, .int .i64 g, .slice va pn vc] 95)) cap (.slice a n cp)
    rw [show ((w.alloc (.cells #[.int .i64 cap, .slice a n cp] 93)).alloc (.cells #[.int .i64 f, .int .i64 i, .int .i64 g, .slice va pn vc] 95)).heap.size = w.heap.size + 1 + 1 by simp] at hmx
    refine bodyPost_ret (res_mt Try.results56 rfl hmx) rfl ?_
    have hbl : Below w.heap.size w (((w.alloc (.cells #[.int .i64 cap, .slice a n cp] 93)).alloc (.cells #[.int .i64 f, .int .i64 i, .int .i64 g, .slice va pn vc] 95)).alloc (.cells #[.int .i64 cap, .slice a n cp] 93)) := ba (ba (ba (Below.refl _ _) _) _) _
    exact ⟨_, rfl, HRS.out.below hbl, fun k hk => ⟨.inl hk, .inr rfl⟩, hbl⟩
  have hq0 : decide (f < 1) = false := decide_eq_false q0
  by_cases q1 : i < 1
  · have hq1 : decide (i < 1) = true := decide_eq_true q1
    go_wp2
    have hmx := MB.made ((w.alloc (.cells #[.int .i64 cap, .slice a n cp] 93)).alloc (.cells #[.int .i64 f, .int .i64 i, .int .i64 g, .slice va pn vc] 95)) cap (.slice a n cp)
    rw [show ((w.alloc (.cells #[.int .i64 cap, .slice a n cp] 93)).alloc (.cells #[.int .i64 f, .int .i64 i, .int .i64 g, .slice va pn vc] 95)).heap.size = w.heap.size + 1 + 1 by simp] at hmx
    refine bodyPost_ret (res_mt Try.results56 rfl hmx) rfl ?_
    have hbl : Below w.heap.size w (((w.alloc (.cells #[.int .i64 cap, .slice a n cp] 93)).alloc (.cells #[.int .i64 f, .int .i64 i, .int .i64 g, .slice va pn vc] 95)).alloc (.cells #[.int .i64 cap, .slice a n cp] 93)) := ba (ba (ba (Below.refl _ _) _) _) _
    exact ⟨_, rfl, HRS.out.below hbl, fun k hk => ⟨.inl hk, .inr rfl⟩, hbl⟩
  have hq1 : decide (i < 1) = false := decide_eq_false q1
  by_cases q2 : g < 1
  · have hq2 : decide (g < 1) = true := decide_eq_true q2
    go_wp2
    have hmx := MB.made ((w.alloc (.cells #[.int .i64 cap, .slice a n cp] 93)).alloc (.cells #[.int .i64 f, .int .i64 i, .int .i64 g, .slice va pn vc] 95)) cap (.slice a n cp)
    rw [show ((w.alloc (.cells #[.int .i64 cap, .slice a n cp] 93)).alloc (.cells #[.int .i64 f, .int .i64 i, .int .i64 g, .slice va pn vc] 95)).heap.size = w.heap.size + 1 + 1 by simp] at hmx
    refine bodyPost_ret (res_mt Try.results56 rfl hmx) rfl ?_
    have hbl : Below w.heap.size w (((w.alloc (.cells #[.int .i64 cap, .slice a n cp] 93)).alloc (.cells #[.int .i64 f, .int .i64 i, .int .i64 g, .slice va pn vc] 95)).alloc (.cells #[.int .i64 cap, .slice a n cp] 93)) := ba (ba (ba (Below.refl _ _) _) _) _
    exact ⟨_, rfl, HRS.out.below hbl, fun k hk => ⟨.inl hk, .inr rfl⟩, hbl⟩
  have hq2 : decide (g < 1) = false := decide_eq_false q2
  by_cases q3 : pn = 0
  · have q3b : ((pn : Int) == 0) = true := by simp [q3]
    clear q3
    go_wp2
    have hmx := MB.made ((w.alloc (.cells #[.int .i64 cap, .slice a n cp] 93)).alloc (.cells #[.int .i64 f, .int .i64 i, .int .i64 g, .slice va pn vc] 95)) cap (.slice a n cp)
    rw [show ((w.alloc (.cells #[.int .i64 cap, .slice a n cp] 93)).alloc (.cells #[.int .i64 f, .int .i64 i, .int .i64 g, .slice va pn vc] 95)).heap.size = w.heap.size + 1 + 1 by simp] at hmx
    refine bodyPost_ret (res_mt Try.results56 rfl hmx) rfl ?_
    have hbl : Below w.heap.size w (((w.alloc (.cells #[.int .i64 cap, .slice a n cp] 93)).alloc (.cells #[.int .i64 f, .int .i64 i, .int .i64 g, .slice va pn vc] 95)).alloc (.cells #[.int .i64 cap, .slice a n cp] 93)) := ba (ba (ba (Below.refl _ _) _) _) _
    exact ⟨_, rfl, HRS.out.below hbl, fun k hk => ⟨.inl hk, .inr rfl⟩, hbl⟩
  have q3b : ((pn : Int) == 0) = false := by simp [q3]
  have hvr : ¬ VR ps := fun hv => HNO.out ⟨by show 1 ≤ f; omega, by show 1 ≤ i; omega, by show 1 ≤ g; omega, fun e => q3 (by rw [← HPN.out]; exact congrArg List.length e), hv⟩
  have hR := fun w1 hV => rright_v (.slice va pn vc) ps (by have := HX.out.len; have : ps.length < 1000000 := this; omega) w1 hV
  rw [decide_eq_false hvr] at hR
  have HR := Lib.hid hR
  clear hvr hR
  go_wp2_with fail
  generalize ((w.alloc (.cells #[.int .i64 cap, .slice a n cp] 93)).alloc (.cells #[.int .i64 f, .int .i64 i, .int .i64 g, .slice va pn vc] 95)).alloc (.cells #[.int .i64 0, .slice none 0 0] 93) = w0 at *
  obtain ⟨b, hbq⟩ : ∃ b, b = w.heap.size := ⟨_, rfl⟩
  rw [← hbq] at HM1 HM2 HM3 HB3 ⊢
  obtain ⟨b1, hb1q⟩ : ∃ b1, b1 = b + 1 := ⟨_, rfl⟩
  rw [← hb1q] at HM2 HM3 ⊢
  obtain ⟨b2, hb2q⟩ : ∃ b2, b2 = b1 + 1 := ⟨_, rfl⟩
  rw [← hb2q] at HM3 ⊢
  have HBQ := Lib.hid hbq
  have HDS := Lib.hid (show b < b1 ∧ b1 < b2 by omega)
  clear hbq hb1q hb2q
  refine (HR.out w0 (HX.out.vc.on (by rw [← HBQ.out]; exact HB3.out))).mono ?_
  rintro e w1 ⟨rfl, hb4⟩
  have HBW := Lib.hid hb4
  clear hb4 hq0 hq1 hq2 q3b
  obtain ⟨z0, z1⟩ := (HM1.out.below HBW.out).cells
  have q0 := (HM1.out.below HBW.out).lt
  obtain ⟨s0, s1⟩ := (HM3.out.below HBW.out).cells
  have s2 := (HM3.out.below HBW.out).fz 0; have s3 := (HM3.out.below HBW.out).fz 1
  have q2 := (HM3.out.below HBW.out).lt
  have HR2 := Lib.hid ((HM3.out.below HBW.out).set2 cap (.slice a n cp))
  have HCH := Lib.hid (mb_chg w1 b2 (.int .i64 cap) (.slice a n cp))
  go_wp2
  refine bodyPost_ret (res_mt Try.results56 rfl HR2.out) rfl ?_
  have hds := HDS.out; have hbq := HBQ.out; have hs0 := HM3.out.lt; have hs1 := HBW.out.size
  have hbl : Below b w _ := HB3.out.trans ((HBW.out.mono (by omega)).trans (HCH.out.below (B := b) (by omega) fun k e => by have e : k = b2 := e; omega))
  exact ⟨_, rfl, HRS.out.below (by rw [← hbq]; exact hbl), fun k hk => ⟨.inl hk, .inr rfl⟩, by rw [← hbq]; exact hbl⟩
set_option maxRecDepth 100000 in
set_option maxHeartbeats 4000000 in
theorem mlaunch_there (h : RS 4 tkenc w v S) (x : Tk) (hx : TGo w x) (hok : PkOk x.pl) (hf : (fndT S (tkey x)).isSome = true) : Calls Try.prog 56 #[mval cap v, tkval x] w (RetL w cap v S 42) := by
  have HOK := Lib.hid hok
  have hpl : decide (0 ≤ Srt.pl tkey S (tkey x)) = true := by rw [Srt.pl_fnd]; exact hf
  have HPL := Lib.hid hpl
  clear hok hf hpl
  obtain ⟨a, n, cp, rfl, hn, hc, hm, hat⟩ := h.at_
  obtain ⟨va, vc, hvq, -, -⟩ := hx.vc.form
  obtain ⟨f, i, g, xv, ps⟩ := x
  simp only at hvq
  subst hvq
  have hlm : n ≤ 9223372036854775807 := by unfold maxLen at hm; omega
  have HAT := Lib.hid hat
  have HN := Lib.hid hn
  have HRS := Lib.hid h
  have HX := Lib.hid hx
  generalize hpn : ps.length = pn at *
  have HPN := Lib.hid hpn
  have e1 : (w.alloc (.cells #[.int .i64 cap, .slice a n cp] 93)).heap.size = w.heap.size + 1 := by simp
  have e2 : ((w.alloc (.cells #[.int .i64 cap, .slice a n cp] 93)).alloc (.cells #[.int .i64 f, .int .i64 i, .int .i64 g, .slice va pn vc] 95)).heap.size = w.heap.size + 1 + 1 := by simp
  have hb1 := ba (Below.refl w.heap.size w) (.cells #[.int .i64 cap, .slice a n cp] 93)
  have hb2 := ba hb1 (.cells #[.int .i64 f, .int .i64 i, .int .i64 g, .slice va pn vc] 95)
  have hb3 := ba hb2 (.cells #[.int .i64 0, .slice none 0 0] 93)
  have hm1 := ((MB.made w cap (.slice a n cp)).below (ba (Below.refl _ _) (.cells #[.int .i64 f, .int .i64 i, .int .i64 g, .slice va pn vc] 95))).below (ba (Below.refl _ _) (.cells #[.int .i64 0, .slice none 0 0] 93))
  have hm2 := (KB.made (w.alloc (.cells #[.int .i64 cap, .slice a n cp] 93)) f i g (.slice va pn vc)).below (ba (Below.refl _ _) (.cells #[.int .i64 0, .slice none 0 0] 93))
  have hm3 := MB.made ((w.alloc (.cells #[.int .i64 cap, .slice a n cp] 93)).alloc (.cells #[.int .i64 f, .int .i64 i, .int .i64 g, .slice va pn vc] 95)) 0 (.slice none 0 0)
  rw [e1] at hm2
  rw [e2] at hm3
  have HM1 := Lib.hid hm1; have HM2 := Lib.hid hm2; have HM3 := Lib.hid hm3; have HB3 := Lib.hid hb3
  clear hat h hn hx e1 e2 hb1 hb2 hb3 hm1 hm2 hm3 hm hpn hc
  go_enter Try.func56, Try.ntmps56
  have hok := HOK.out
  have o0 : 1 ≤ f := hok.1
  have o1 : 1 ≤ i := hok.2.1
  have o2 : 1 ≤ g := hok.2.2.1
  have hq0 : decide (f < 1) = false := decide_eq_false (by omega)
  have hq1 : decide (i < 1) = false := decide_eq_false (by omega)
  have hq2 : decide (g < 1) = false := decide_eq_false (by omega)
  have q3b : ((pn : Int) == 0) = false := by
    have : pn ≠ 0 := fun e => hok.2.2.2.1 (List.eq_nil_of_length_eq_zero (by show ps.length = 0; rw [HPN.out]; exact e))
    simp [this]
  have hR := fun w1 hV => rright_v (.slice va pn vc) ps (by have := HX.out.len; have : ps.length < 1000000 := this; omega) w1 hV
  rw [decide_eq_true (show VR ps from hok.2.2.2.2)] at hR
  have HR := Lib.hid hR
  clear hR hok o0 o1 o2
  go_wp2_with fail
  generalize ((w.alloc (.cells #[.int .i64 cap, .slice a n cp] 93)).alloc (.cells #[.int .i64 f, .int .i64 i, .int .i64 g, .slice va pn vc] 95)).alloc (.cells #[.int .i64 0, .slice none 0 0] 93) = w0 at *
  obtain ⟨b, hbq⟩ : ∃ b, b = w.heap.size := ⟨_, rfl⟩
  rw [← hbq] at HM1 HM2 HM3 HB3 ⊢
  obtain ⟨b1, hb1q⟩ : ∃ b1, b1 = b + 1 := ⟨_, rfl⟩
  rw [← hb1q] at HM2 HM3 ⊢
  obtain ⟨b2, hb2q⟩ : ∃ b2, b2 = b1 + 1 := ⟨_, rfl⟩
  rw [← hb2q] at HM3 ⊢
  have HBQ := Lib.hid hbq
  have HDS := Lib.hid (show b < b1 ∧ b1 < b2 by omega)
  clear hbq hb1q hb2q
  refine (HR.out w0 (HX.out.vc.on (by rw [← HBQ.out]; exact HB3.out))).mono ?_
  rintro e w1 ⟨rfl, hb4⟩
  have HB4 := Lib.hid hb4
  clear hb4 hq0 hq1 hq2 q3b
  obtain ⟨z0, z1⟩ := (HM1.out.below HB4.out).cells
  have q0 := (HM1.out.below HB4.out).lt
  obtain ⟨x0, x1, x2, x3⟩ := (HM2.out.below HB4.out).cells
  have x4 := (HM2.out.below HB4.out).lt
  go_wp2_with fail
  refine (mat (HRS.out.below (by rw [← HBQ.out]; exact HB3.out.trans (HB4.out.mono (by have := HM3.out.lt; have := HDS.out; omega)))) f i).mono ?_
  rintro e w2 ⟨rfl, hb5⟩
  have HBW := Lib.hid (bt HB4.out hb5)
  clear hb5 z0 z1 q0 x0 x1 x2 x3 x4
  have hpl : decide (0 ≤ Srt.pl tkey S ⟨f, i⟩) = true := HPL.out
  generalize Srt.pl tkey S ⟨f, i⟩ = r at *
  have hp2 : (0 ≤ r) = True := eq_true (of_decide_eq_true hpl)
  obtain ⟨z0, z1⟩ := (HM1.out.below HBW.out).cells
  have q0 := (HM1.out.below HBW.out).lt
  obtain ⟨s0, s1⟩ := (HM3.out.below HBW.out).cells
  have s2 := (HM3.out.below HBW.out).fz 0; have s3 := (HM3.out.below HBW.out).fz 1
  have q2 := (HM3.out.below HBW.out).lt
  have HR2 := Lib.hid ((HM3.out.below HBW.out).set2 cap (.slice a n cp))
  have HCH := Lib.hid (mb_chg w2 b2 (.int .i64 cap) (.slice a n cp))
  go_wp2
  refine bodyPost_ret (res_mt Try.results56 rfl HR2.out) rfl ?_
  have hds := HDS.out; have hbq := HBQ.out; have hs0 := HM3.out.lt; have hs1 := HBW.out.size
  have hbl : Below b w _ := HB3.out.trans ((HBW.out.mono (by omega)).trans (HCH.out.below (B := b) (by omega) fun k e => by have e : k = b2 := e; omega))
  exact ⟨_, rfl, HRS.out.below (by rw [← hbq]; exact hbl), fun k hk => ⟨.inl hk, .inr rfl⟩, by rw [← hbq]; exact hbl⟩
set_option maxRecDepth 100000 in
set_option maxHeartbeats 4000000 in
theorem mlaunch_cap (h : RS 4 tkenc w v S) (x : Tk) (hx : TGo w x) (hok : PkOk x.pl) (hf : (fndT S (tkey x)).isSome = false) (hcap : cap ≤ (S.length : Nat)) : Calls Try.prog 56 #[mval cap v, tkval x] w (RetL w cap v S 32) := by
  have HOK := Lib.hid hok
  have hpl : decide (0 ≤ Srt.pl tkey S (tkey x)) = false := by rw [Srt.pl_fnd]; exact hf
  have HPL := Lib.hid hpl
  clear hok hf hpl
  obtain ⟨a, n, cp, rfl, hn, hc, hm, hat⟩ := h.at_
  obtain ⟨va, vc, hvq, -, -⟩ := hx.vc.form
  obtain ⟨f, i, g, xv, ps⟩ := x
  simp only at hvq
  subst hvq
  have hlm : n ≤ 9223372036854775807 := by unfold maxLen at hm; omega
  have HAT := Lib.hid hat
  have HN := Lib.hid hn
  have HRS := Lib.hid h
  have HX := Lib.hid hx
  generalize hpn : ps.length = pn at *
  have HPN := Lib.hid hpn
  have e1 : (w.alloc (.cells #[.int .i64 cap, .slice a n cp] 93)).heap.size = w.heap.size + 1 := by simp
  have e2 : ((w.alloc (.cells #[.int .i64 cap, .slice a n cp] 93)).alloc (.cells #[.int .i64 f, .int .i64 i, .int .i64 g, .slice va pn vc] 95)).heap.size = w.heap.size + 1 + 1 := by simp
  have hb1 := ba (Below.refl w.heap.size w) (.cells #[.int .i64 cap, .slice a n cp] 93)
  have hb2 := ba hb1 (.cells #[.int .i64 f, .int .i64 i, .int .i64 g, .slice va pn vc] 95)
  have hb3 := ba hb2 (.cells #[.int .i64 0, .slice none 0 0] 93)
  have hm1 := ((MB.made w cap (.slice a n cp)).below (ba (Below.refl _ _) (.cells #[.int .i64 f, .int .i64 i, .int .i64 g, .slice va pn vc] 95))).below (ba (Below.refl _ _) (.cells #[.int .i64 0, .slice none 0 0] 93))
  have hm2 := (KB.made (w.alloc (.cells #[.int .i64 cap, .slice a n cp] 93)) f i g (.slice va pn vc)).below (ba (Below.refl _ _) (.cells #[.int .i64 0, .slice none 0 0] 93))
  have hm3 := MB.made ((w.alloc (.cells #[.int .i64 cap, .slice a n cp] 93)).alloc (.cells #[.int .i64 f, .int .i64 i, .int .i64 g, .slice va pn vc] 95)) 0 (.slice none 0 0)
  rw [e1] at hm2
  rw [e2] at hm3
  have HM1 := Lib.hid hm1; have HM2 := Lib.hid hm2; have HM3 := Lib.hid hm3; have HB3 := Lib.hid hb3
  clear hat h hn hx e1 e2 hb1 hb2 hb3 hm1 hm2 hm3 hm hpn hc
  go_enter Try.func56, Try.ntmps56
  have hok := HOK.out
  have o0 : 1 ≤ f := hok.1
  have o1 : 1 ≤ i := hok.2.1
  have o2 : 1 ≤ g := hok.2.2.1
  have hq0 : decide (f < 1) = false := decide_eq_false (by omega)
  have hq1 : decide (i < 1) = false := decide_eq_false (by omega)
  have hq2 : decide (g < 1) = false := decide_eq_false (by omega)
  have q3b : ((pn : Int) == 0) = false := by
    have : pn ≠ 0 := fun e => hok.2.2.2.1 (List.eq_nil_of_length_eq_zero (by show ps.length = 0; rw [HPN.out]; exact e))
    simp [this]
  have hR := fun w1 hV => rright_v (.slice va pn vc) ps (by have := HX.out.len; have : ps.length < 1000000 := this; omega) w1 hV
  rw [decide_eq_true (show VR ps from hok.2.2.2.2)] at hR
  have HR := Lib.hid hR
  clear hR hok o0 o1 o2
  go_wp2_with fail
  generalize ((w.alloc (.cells #[.int .i64 cap, .slice a n cp] 93)).alloc (.cells #[.int .i64 f, .int .i64 i, .int .i64 g, .slice va pn vc] 95)).alloc (.cells #[.int .i64 0, .slice none 0 0] 93) = w0 at *
  obtain ⟨b, hbq⟩ : ∃ b, b = w.heap.size := ⟨_, rfl⟩
  rw [← hbq] at HM1 HM2 HM3 HB3 ⊢
  obtain ⟨b1, hb1q⟩ : ∃ b1, b1 = b + 1 := ⟨_, rfl⟩
  rw [← hb1q] at HM2 HM3 ⊢
  obtain ⟨b2, hb2q⟩ : ∃ b2, b2 = b1 + 1 := ⟨_, rfl⟩
  rw [← hb2q] at HM3 ⊢
  have HBQ := Lib.hid hbq
  have HDS := Lib.hid (show b < b1 ∧ b1 < b2 by omega)
  clear hbq hb1q hb2q
  refine (HR.out w0 (HX.out.vc.on (by rw [← HBQ.out]; exact HB3.out))).mono ?_
  rintro e w1 ⟨rfl, hb4⟩
  have HB4 := Lib.hid hb4
  clear hb4 hq0 hq1 hq2 q3b
  obtain ⟨z0, z1⟩ := (HM1.out.below HB4.out).cells
  have q0 := (HM1.out.below HB4.out).lt
  obtain ⟨x0, x1, x2, x3⟩ := (HM2.out.below HB4.out).cells
  have x4 := (HM2.out.below HB4.out).lt
  go_wp2_with fail
  refine (mat (HRS.out.below (by rw [← HBQ.out]; exact HB3.out.trans (HB4.out.mono (by have := HM3.out.lt; have := HDS.out; omega)))) f i).mono ?_
  rintro e w2 ⟨rfl, hb5⟩
  have HBW := Lib.hid (bt HB4.out hb5)
  clear hb5 z0 z1 q0 x0 x1 x2 x3 x4
  have hpl : decide (0 ≤ Srt.pl tkey S ⟨f, i⟩) = false := HPL.out
  generalize Srt.pl tkey S ⟨f, i⟩ = r at *
  have hp2 : (0 ≤ r) = False := eq_false (of_decide_eq_false hpl)
  have hc1 : decide (cap ≤ (n : Int)) = true := decide_eq_true (by rw [HN.out]; exact hcap)
  have hc2 : (cap ≤ (n : Int)) = True := eq_true (by rw [HN.out]; exact hcap)
  obtain ⟨z0, z1⟩ := (HM1.out.below HBW.out).cells
  have q0 := (HM1.out.below HBW.out).lt
  obtain ⟨s0, s1⟩ := (HM3.out.below HBW.out).cells
  have s2 := (HM3.out.below HBW.out).fz 0; have s3 := (HM3.out.below HBW.out).fz 1
  have q2 := (HM3.out.below HBW.out).lt
  have HR2 := Lib.hid ((HM3.out.below HBW.out).set2 cap (.slice a n cp))
  have HCH := Lib.hid (mb_chg w2 b2 (.int .i64 cap) (.slice a n cp))
  go_wp2
  refine bodyPost_ret (res_mt Try.results56 rfl HR2.out) rfl ?_
  have hds := HDS.out; have hbq := HBQ.out; have hs0 := HM3.out.lt; have hs1 := HBW.out.size
  have hbl : Below b w _ := HB3.out.trans ((HBW.out.mono (by omega)).trans (HCH.out.below (B := b) (by omega) fun k e => by have e : k = b2 := e; omega))
  exact ⟨_, rfl, HRS.out.below (by rw [← hbq]; exact hbl), fun k hk => ⟨.inl hk, .inr rfl⟩, by rw [← hbq]; exact hbl⟩
end
end Go.Proofs.Ytnckjacbkhoppaa

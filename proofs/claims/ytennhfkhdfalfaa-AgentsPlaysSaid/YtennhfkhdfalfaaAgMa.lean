/- The document's agents by a list: records, At, with; sums; register. Laid together by mrg.py out of XAgM1 to XAgM4. -/
import Derived.Test.YtennhfkhdfalfaaAgR
import Derived.Test.YtennhfkhdfalfaaSrt0
import Derived.Test.YtennhfkhdfalfaaAgd
namespace Go.Proofs.Ytennhfkhdfalfaa
section
open Go.RowKit Go.Maps
attribute [local go_sem] ext_cell ext_frozen extC_cell extC_frozen Mix.calmUpon Mix.mUpon
/-- An agent in the document's list. -/
structure Oa where
  id : Int
  ta : Option Addr
  tn : Nat
  tc : Nat
  tps : List Pt
  fa : Option Addr
  fn : Nat
  fc : Nat
  fps : List Pt
def oaenc (o : Oa) : List Value := [.int .i64 o.id, .slice o.ta o.tn o.tc, .slice o.fa o.fn o.fc]
abbrev oaval (o : Oa) : Value := .agg #[.int .i64 o.id, .slice o.ta o.tn o.tc, .slice o.fa o.fn o.fc]
abbrev Oa.q (o : Oa) : Qa := ⟨o.id, .slice o.ta o.tn o.tc, o.tps, .slice o.fa o.fn o.fc, o.fps⟩
abbrev Oa.pl (o : Oa) : Pa := (o.id, o.tps, o.fps)
def ltO (a b : Oa) : Bool := decide (a.id < b.id)
theorem ordO : Srt.Ord Oa.id ltO where
  irr := fun a => by simp [ltO]
  trans := fun a b c h k => by simp only [ltO, decide_eq_true_eq] at *; omega
  tot := fun a b h k => by simp only [ltO, decide_eq_true_eq, decide_eq_false_iff_not] at *; omega
abbrev fndO (S : List Oa) (k : Int) : Option Oa := Srt.fnd Oa.id S k
abbrev putO (S : List Oa) (x : Oa) : List Oa := Srt.put Oa.id ltO S x
abbrev delO (S : List Oa) (k : Int) : List Oa := Srt.del Oa.id S k
abbrev SO (S : List Oa) : Prop := Srt.In Oa.id ltO S
theorem plo_put (S : List Oa) (x : Oa) : (putO S x).map Oa.pl = putA (S.map Oa.pl) x.pl := Srt.map_put (key := Oa.id) (lt := ltO) (key' := akey) (lt' := altP) (f := Oa.pl) (fun _ => rfl) (fun _ _ => rfl) S x
theorem plo_del (S : List Oa) (k : Int) : (delO S k).map Oa.pl = delA (S.map Oa.pl) k := Srt.map_del (key := Oa.id) (key' := akey) (f := Oa.pl) (fun _ => rfl) S k
theorem plo_fnd (S : List Oa) (k : Int) : fndA (S.map Oa.pl) k = (fndO S k).map Oa.pl := Srt.map_fnd (key := Oa.id) (key' := akey) (f := Oa.pl) (fun _ => rfl) S k
abbrev OV1 (w : World) (v : Value) (S : List Oa) : Prop := RS 3 oaenc w v S
abbrev mval (cap : Int × Int) (v : Value) : Value := .agg #[.int .i64 cap.1, .int .i64 cap.2, v]
/-- A block that holds a record. -/
def OB1 (w : World) (b : Nat) (f : Oa) : Prop := w.heap[b]? = some (.cells #[.int .i64 f.id, .slice f.ta f.tn f.tc, .slice f.fa f.fn f.fc] 38 (0, 0))
theorem OB1.made (w : World) (f : Oa) : OB1 (w.alloc (.cells #[.int .i64 f.id, .slice f.ta f.tn f.tc, .slice f.fa f.fn f.fc] 38)) w.heap.size f := heap_alloc_new w _
theorem OB1.alloc {w : World} {b : Nat} {f : Oa} (h : OB1 w b f) (o : Obj) : OB1 (w.alloc o) b f := (heap_alloc_old w o (Array.getElem?_eq_some_iff.1 h).1).trans h
theorem OB1.below {w w' : World} {b : Nat} {f : Oa} (h : OB1 w b f) (hb : Below w.heap.size w w') : OB1 w' b f := (hb.block _ (Array.getElem?_eq_some_iff.1 h).1).trans h
theorem OB1.chg {F : Nat → Prop} {w w' : World} {b : Nat} {f : Oa} (h : OB1 w b f) (hb : Chg F w w') (hf : ¬ F b) : OB1 w' b f := (hb.block _ (Array.getElem?_eq_some_iff.1 h).1 hf).trans h
theorem OB1.cells {w : World} {b : Nat} {f : Oa} (h : OB1 w b f) : w.cell? ⟨b, 0, none⟩ = some (.int .i64 f.id) ∧ w.cell? ⟨b, 1, none⟩ = some (.slice f.ta f.tn f.tc) ∧ w.cell? ⟨b, 2, none⟩ = some (.slice f.fa f.fn f.fc) := by
  unfold OB1 at h
  simp [World.cell?, h]
theorem OB1.fz {w : World} {b : Nat} {f : Oa} (h : OB1 w b f) (o : Nat) : w.frozen? ⟨b, o, none⟩ = false := by
  unfold OB1 at h
  simp [World.frozen?, h]
theorem OB1.lt {w : World} {b : Nat} {f : Oa} (h : OB1 w b f) : b < w.heap.size := (Array.getElem?_eq_some_iff.1 h).1
theorem infoOn : (Try.prog.info? 38).map (fun i => (i.zero, i.size, i.bytes)) = some (some (.agg #[.int .i64 0, .slice none 0 0, .slice none 0 0]), 3, 56) := by kernel_rfl
theorem own_appO {w : World} {base : Nat} {v : Value} {l : List Oa} {b : Nat} (h : OwnL 38 3 oaenc w base v l) (x : Oa) (hx : OB1 w b x) (hl : l.length < 1000000) (hb : base ≤ w.heap.size) :
    ∃ v' w', (Builtin.append_ #[27, 27] 27 #[v, .slice (some ⟨b, 0, none⟩) 1 1]).run Try.prog w = .ok v' w' ∧ OwnL 38 3 oaenc w' base v' (l ++ [x]) ∧ w.grownBy w' v.ownBlock ∧ (v'.ownBlock = v.ownBlock ∨ v'.ownBlock = some w.heap.size) := by
  obtain ⟨i0, hi, hz0, hz1, hz2⟩ := info_parts infoOn
  obtain ⟨x0, x1, x2⟩ := hx.cells
  exact OwnL.app h Try.underlying27 hi hz0 hz1 hz2 rfl (by decide) (fun _ => rfl) x (fun j u hj => by
      rcases j with _ | _ | _ | j <;> simp [oaenc] at hj
      · subst hj; exact x0
      · subst hj; exact x1
      · subst hj; exact x2) (fun u hu => by simp [oaenc] at hu; rcases hu with rfl | rfl | rfl <;> rfl) (by omega) (by unfold maxLen; omega) hb
section
variable {w : World} {v : Value} {S : List Oa} {cap : Int × Int}
set_option maxRecDepth 100000 in
theorem mat (h : OV1 w v S) (k : Int) : Calls Try.prog 17 #[mval cap v, .int .i64 k] w fun e w' => e = .returned (.int .i64 (Srt.pl Oa.id S k)) ∧ Below w.heap.size w w' := by
  obtain ⟨a, n, cp, rfl, hn, hc, hm, hat⟩ := h.at_
  have HA := Lib.hid hat
  unfold maxLen at hm
  have hlm : n ≤ 9223372036854775807 := by omega
  have HN := Lib.hid hn
  have HB := Lib.hid (show Below w.heap.size w (w.alloc (.cells #[.int .i64 cap.1, .int .i64 cap.2, .slice a n cp] 29)) from ba (Below.refl _ _) _)
  clear hat h hn
  go_enter Try.func17, Try.ntmps17
  go_wp2
  go_loop [5] (fun iv => ∃ t : Nat, t ≤ n ∧ iv = .int .i64 t ∧ Hid (∀ p ∈ S.take t, p.id ≠ k)) (fun iv => n - (intOf iv).toNat)
  case atStart => exact ⟨0, Nat.zero_le _, rfl, Lib.hid fun p h => by simp at h⟩
  case round =>
    obtain ⟨t, ht, rfl, HQ⟩ := hrel
    by_cases hlt : t < n
    · have hts : (t : Int) < (n : Int) := by omega
      obtain ⟨x, hx⟩ := at_lt (l := S) (i := t) (by rw [← HN.out]; exact hlt)
      obtain ⟨b, off, rfl, hb, hcell⟩ := HA.out t x hx
      have e0 := hcell 0 _ rfl
      simp only [Nat.add_zero] at e0
      have HX := Lib.hid hx
      clear hcell hx
      by_cases he : x.id = k
      · have heb : (x.id == k) = true := by simpa using he
        have HE := Lib.hid he
        clear he
        go_wp2
        go_ret
        refine ⟨?_, HB.out⟩
        have := Srt.pl_some (key := Oa.id) (l := S.take t) (m := S.drop (t + 1)) HE.out HQ.out
        rw [← parted_at HX.out, List.length_take, Nat.min_eq_left (by rw [← HN.out]; omega)] at this
        rw [this]; rfl
      · have heb : (x.id == k) = false := by simpa using he
        have HE := Lib.hid he
        clear he
        go_wp2
        go_round
        case rel => exact ⟨t + 1, by omega, by go_num, Lib.hid fun p hp => by
          rw [take_at HX.out] at hp
          rcases List.mem_append.1 hp with h | h
          · exact HQ.out p h
          · rw [List.mem_singleton.1 h]; exact HE.out⟩
        case measure => simp [intOf]; omega
    · obtain rfl : n = t := by omega
      go_wp2
      go_ret
      refine ⟨?_, HB.out⟩
      rw [Srt.pl_none fun p hp => HQ.out p (by rw [HN.out, List.take_length]; exact hp)]; rfl
end
/-- Where putting in by the document stands. -/
def WI (S : List Oa) (f : Oa) (t : Nat) (d : Bool) (C : List Oa) : Prop :=
  (d = false ∧ C = S.take t ∧ ∀ q ∈ S.take t, q.id < f.id) ∨ (d = true ∧ C = putO (S.take t) f ∧ ∃ q ∈ S.take t, f.id ≤ q.id)
theorem WI.len {S : List Oa} {f : Oa} {t : Nat} {d : Bool} {C : List Oa} (h : WI S f t d C) : C.length ≤ t + 1 := by
  have := List.length_take_le t S
  rcases h with ⟨_, rfl, _⟩ | ⟨_, rfl, _⟩
  · omega
  · have h2 := Srt.put_le (key := Oa.id) (lt := ltO) (S.take t) f
    show (Srt.put Oa.id ltO (S.take t) f).length ≤ t + 1
    omega
theorem lt_of_before {S : List Oa} (hS : SO S) {t : Nat} {x : Oa} (hx : S[t]? = some x) : ∀ q ∈ S.take t, q.id < x.id := by
  have e := parted_at hx
  rw [e] at hS
  intro q hq
  have := (List.pairwise_append.1 hS).2.2 q hq x List.mem_cons_self
  simpa [ltO] using this.1
/-- Whether it comes in here, and whether the one here stays. -/
theorem WI.step {S : List Oa} (hS : SO S) {f : Oa} {t : Nat} {d : Bool} {C : List Oa} (h : WI S f t d C) {x : Oa} (hx : S[t]? = some x) :
    WI S f (t + 1) (d || decide (f.id ≤ x.id)) ((if d = false ∧ f.id ≤ x.id then C ++ [f] else C) ++ (if x.id ≠ f.id then [x] else [])) := by
  have ht := take_at hx
  have hb := lt_of_before hS hx
  unfold WI
  rw [ht]
  rcases h with ⟨rfl, rfl, hq⟩ | ⟨rfl, rfl, q, hq1, hq2⟩
  · have hall : ∀ q ∈ S.take t, ltO f q = false ∧ q.id ≠ f.id := fun q hq' => by
      have := hq q hq'
      exact ⟨by simp [ltO]; omega, by omega⟩
    by_cases h1 : f.id ≤ x.id
    · right
      refine ⟨by simp [h1], ?_, x, by simp, h1⟩
      rw [if_pos ⟨rfl, h1⟩]
      by_cases h2 : x.id = f.id
      · rw [if_neg (fun e => e h2), List.append_nil]
        exact (Srt.put_over hall h2).symm
      · rw [if_pos h2]
        have h3 : Srt.put Oa.id ltO (S.take t ++ [x]) f = Srt.put Oa.id ltO (S.take t) f ++ [x] := Srt.put_after (by simp [ltO]; omega) h2
        show _ = Srt.put Oa.id ltO (S.take t ++ [x]) f
        rw [h3, Srt.put_end hall]
    · left
      refine ⟨by simp; omega, ?_, fun q hq' => ?_⟩
      · rw [if_neg (fun e => h1 e.2), if_pos (by omega)]
      · rcases List.mem_append.1 hq' with h | h
        · exact hq q h
        · rw [List.mem_singleton.1 h]; omega
  · right
    have h1 := hb q hq1
    refine ⟨by simp, ?_, q, by simp [hq1], hq2⟩
    rw [if_neg (fun e => by cases e.1), if_pos (by omega)]
    exact (Srt.put_after (by simp [ltO]; omega) (by omega)).symm
theorem WI.fin {S : List Oa} {f : Oa} {d : Bool} {C : List Oa} {n : Nat} (hn : n = S.length) (h : WI S f n d C) : (if d = false then C ++ [f] else C) = putO S f := by
  unfold WI at h
  rw [hn, List.take_length] at h
  rcases h with ⟨rfl, rfl, hq⟩ | ⟨rfl, rfl, _⟩
  · rw [if_pos rfl]
    exact (Srt.put_end fun q hq' => by
      have := hq q hq'
      exact ⟨by simp [ltO]; omega, by omega⟩).symm
  · rw [if_neg (by simp)]
/-- A block that holds a list with a cap. -/
def MB (w : World) (b : Nat) (cap : Int × Int) (v : Value) : Prop := w.heap[b]? = some (.cells #[.int .i64 cap.1, .int .i64 cap.2, v] 29 (0, 0))
theorem MB.made (w : World) (cap : Int × Int) (v : Value) : MB (w.alloc (.cells #[.int .i64 cap.1, .int .i64 cap.2, v] 29)) w.heap.size cap v := heap_alloc_new w _
theorem MB.chg {F : Nat → Prop} {w w' : World} {b : Nat} {cap : Int × Int} {v : Value} (h : MB w b cap v) (hb : Chg F w w') (hf : ¬ F b) : MB w' b cap v := (hb.block _ (Array.getElem?_eq_some_iff.1 h).1 hf).trans h
theorem MB.below {w w' : World} {b : Nat} {cap : Int × Int} {v : Value} (h : MB w b cap v) (hb : Below w.heap.size w w') : MB w' b cap v := h.chg (.of_below (fun _ => False) hb) id
theorem MB.lt {w : World} {b : Nat} {cap : Int × Int} {v : Value} (h : MB w b cap v) : b < w.heap.size := (Array.getElem?_eq_some_iff.1 h).1
theorem MB.cells {w : World} {b : Nat} {cap : Int × Int} {v : Value} (h : MB w b cap v) : w.cell? ⟨b, 0, none⟩ = some (.int .i64 cap.1) ∧ w.cell? ⟨b, 1, none⟩ = some (.int .i64 cap.2) ∧ w.cell? ⟨b, 2, none⟩ = some v := by unfold MB at h; simp [World.cell?, h]
theorem MB.fz {w : World} {b : Nat} {cap : Int × Int} {v : Value} (h : MB w b cap v) (o : Nat) : w.frozen? ⟨b, o, none⟩ = false := by unfold MB at h; simp [World.frozen?, h]
theorem MB.set1 {w : World} {b : Nat} {cap : Int × Int} {v : Value} (h : MB w b cap v) (v' : Value) : MB (w.setCell ⟨b, 2, none⟩ v') b cap v' := heap_setCell_at v' h
theorem MB.set2 {w : World} {b : Nat} {cap : Int × Int} {v : Value} (h : MB w b cap v) (c' : Int × Int) (v' : Value) : MB (((w.setCell ⟨b, 0, none⟩ (.int .i64 c'.1)).setCell ⟨b, 1, none⟩ (.int .i64 c'.2)).setCell ⟨b, 2, none⟩ v') b c' v' := heap_setCell_at v' (heap_setCell_at _ (heap_setCell_at _ h))
theorem MB.load {w : World} {b : Nat} {cap : Int × Int} {v : Value} (h : MB w b cap v) : (loadVar 29 ⟨b, 0, none⟩).run Try.prog w = .ok (mval cap v) w := by
  obtain ⟨x0, x1, x2⟩ := h.cells
  simp [go_sem, x0, x1, x2]
def OB (v : Value) : Nat → Prop := fun k => v.ownBlock = some k
/-- The blocks of a call of with. -/
structure WC (w wr : World) (b b1 b2 b3 : Nat) (cap : Int × Int) (v : Value) (f : Oa) (vo : Value) (C : List Oa) : Prop where
  m2 : MB wr b cap v
  f3 : OB1 wr b1 f
  m4 : MB wr b2 (0, 0) (.slice none 0 0)
  m5 : MB wr b3 cap vo
  own : OwnL 38 3 oaenc wr (b3 + 1) vo C
  bel : Below b w wr
  ds : b < b1 ∧ b1 < b2 ∧ b2 < b3 ∧ b3 < wr.heap.size
section
variable {w wr wr' : World} {b b1 b2 b3 : Nat} {cap : Int × Int} {v vo vo' : Value} {f x : Oa} {C : List Oa}
theorem WC.no (h : WC w wr b b1 b2 b3 cap v f vo C) {k : Nat} (hk : k ≤ b3) : ¬ OB vo k := fun e => by have := (h.own.lt k e).1; omega
theorem WC.on (h : WC w wr b b1 b2 b3 cap v f vo C) (hb : Below wr.heap.size wr wr') : WC w wr' b b1 b2 b3 cap v f vo C :=
  ⟨h.m2.below hb, h.f3.below hb, h.m4.below hb, h.m5.below hb, h.own.below hb, h.bel.trans (hb.mono (by have := h.ds; omega)), by have := h.ds; have := hb.size; omega⟩
/-- One more element, which lies in a new block. -/
theorem WC.app (h : WC w wr b b1 b2 b3 cap v f vo C) (hl : C.length < 1000000) {w1 : World} (hb : Below wr.heap.size wr w1) {q : Nat} (hx : OB1 w1 q x) :
    ∃ a' m' c' w2, (Builtin.append_ #[27, 27] 27 #[vo, .slice (some ⟨q, 0, none⟩) 1 1]).run Try.prog w1 = .ok (.slice a' m' c') w2 ∧ Chg (OB vo) w1 w2 ∧ (∀ w3, Chg (OB vo) w1 w3 → Below w2.heap.size w2 w3 → WC w (w3.setCell ⟨b3, 2, none⟩ (.slice a' m' c')) b b1 b2 b3 cap v f (.slice a' m' c') (C ++ [x])) := by
  have h1 := h.on hb
  have hd := h1.ds
  obtain ⟨v', w2, hrun, o2, g2, hv2⟩ := own_appO h1.own x hx hl (by omega)
  obtain ⟨a', m', c', rfl⟩ : ∃ a' m' c', v' = .slice a' m' c' := by
    rcases o2.2 with ⟨_, h0⟩ | ⟨g', cap', cur', rfl, _⟩
    · simp at h0
    · exact ⟨_, _, _, rfl⟩
  have hc : Chg (OB vo) w1 w2 := .of_grown g2 fun k e => e
  refine ⟨a', m', c', w2, hrun, hc, fun w3 hc3 hb3 => ?_⟩
  have hst : Chg (fun k => k = b3) w3 (w3.setCell ⟨b3, 2, none⟩ (.slice a' m' c')) := (Chg.refl (fun k => k = b3) w3).setCell (p := ⟨b3, 2, none⟩) (.inl rfl) _
  have own3 := o2.below hb3
  have hs3 := hc3.size
  have nb : ∀ k, Value.ownBlock (.slice a' m' c') = some k → k ≠ b3 := fun k hk e => by have := (o2.lt k hk).1; omega
  exact ⟨(h1.m2.chg hc3 (h1.no (by omega))).chg hst (by show ¬ b = b3; omega), (h1.f3.chg hc3 (h1.no (by omega))).chg hst (by show ¬ b1 = b3; omega), (h1.m4.chg hc3 (h1.no (by omega))).chg hst (by show ¬ b2 = b3; omega),
    (h1.m5.chg hc3 (h1.no (by omega))).set1 _, own3.chg hst nb, h1.bel.trans ((hc3.below (by omega) (fun k hk => by have := (h1.own.lt k hk).1; omega)).trans (hst.below (by omega) (fun k e => by rw [e]; omega))), by simp [World.setCell]; omega⟩
end
theorem res_m {fn : Func} {tmps : Array Value} {w : World} {p b : Nat} {cap : Int × Int} {v : Value} (h : fn.results = #[.cell p 29]) (hp : tmps.getD p undef = .pointer (some ⟨b, 0, none⟩)) (hb : MB w b cap v) :
    (results fn tmps).run Try.prog w = .ok (mval cap v) w := by
  simp only [results, h]
  have hp' : tmps[p]?.getD undef = .pointer (some ⟨b, 0, none⟩) := by simpa [Array.getD_eq_getD_getElem?] using hp
  simp [Sem.run_bind, Result.andThen, hp', asAddr, hb.load]
section
variable {w : World} {v : Value} {S : List Oa} {cap : Int × Int} {f : Oa}
/-- A list with a cap that a call answers. -/
def RetM (w : World) (cap : Int × Int) (S : List Oa) (e : Ending) (w' : World) : Prop := ∃ v, e = .returned (mval cap v) ∧ OV1 w' v S ∧ (∀ b, v.ownBlock = some b → w.heap.size ≤ b ∧ b < w'.heap.size) ∧ Below w.heap.size w w'
set_option maxRecDepth 100000 in
set_option maxHeartbeats 4000000 in
theorem mwith (h : OV1 w v S) (hS : SO S) (hln : S.length < 900000) : Calls Try.prog 62 #[mval cap v, oaval f] w (RetM w cap (putO S f)) := by
  obtain ⟨a, n, cp, rfl, hn, hc, hm, hat⟩ := h.at_
  have HAT := Lib.hid hat
  have hnb : n < 900000 := by omega
  have HN := Lib.hid hn
  obtain ⟨b, hbq⟩ : ∃ b, b = w.heap.size := ⟨_, rfl⟩
  have HBQ := Lib.hid hbq
  obtain ⟨b1, hb1q⟩ : ∃ b1, b1 = b + 1 := ⟨_, rfl⟩
  obtain ⟨b2, hb2q⟩ : ∃ b2, b2 = b1 + 1 := ⟨_, rfl⟩
  obtain ⟨b3, hb3q⟩ : ∃ b3, b3 = b2 + 1 := ⟨_, rfl⟩
  have HI := Lib.hid (show WC w ((((w.alloc (.cells #[.int .i64 cap.1, .int .i64 cap.2, .slice a n cp] 29)).alloc (.cells #[.int .i64 f.id, .slice f.ta f.tn f.tc, .slice f.fa f.fn f.fc] 38)).alloc (.cells #[.int .i64 0, .int .i64 0, .slice none 0 0] 29)).alloc (.cells #[.int .i64 cap.1, .int .i64 cap.2, .slice none 0 0] 29)) b b1 b2 b3 cap (.slice a n cp) f (.slice none 0 0) [] ∧ WI S f 0 false [] from by
    subst hb3q; subst hb2q; subst hb1q; subst hbq
    have s1 : (w.alloc (.cells #[.int .i64 cap.1, .int .i64 cap.2, .slice a n cp] 29)).heap.size = w.heap.size + 1 := by simp
    have s2 : ((w.alloc (.cells #[.int .i64 cap.1, .int .i64 cap.2, .slice a n cp] 29)).alloc (.cells #[.int .i64 f.id, .slice f.ta f.tn f.tc, .slice f.fa f.fn f.fc] 38)).heap.size = w.heap.size + 1 + 1 := by simp
    have s3 : (((w.alloc (.cells #[.int .i64 cap.1, .int .i64 cap.2, .slice a n cp] 29)).alloc (.cells #[.int .i64 f.id, .slice f.ta f.tn f.tc, .slice f.fa f.fn f.fc] 38)).alloc (.cells #[.int .i64 0, .int .i64 0, .slice none 0 0] 29)).heap.size = w.heap.size + 1 + 1 + 1 := by simp
    refine ⟨⟨(MB.made w cap _).below (ba (ba (ba (Below.refl _ _) _) _) _), ?_, ?_, ?_, OwnL.nil _ _ _ _ _, ba (ba (ba (ba (Below.refl _ _) _) _) _) _, by simp⟩, .inl ⟨rfl, rfl, fun q hq => by simp at hq⟩⟩
    · have := (OB1.made (w.alloc (.cells #[.int .i64 cap.1, .int .i64 cap.2, .slice a n cp] 29)) f)
      rw [s1] at this
      exact (this.alloc _).alloc _
    · have := MB.made ((w.alloc (.cells #[.int .i64 cap.1, .int .i64 cap.2, .slice a n cp] 29)).alloc (.cells #[.int .i64 f.id, .slice f.ta f.tn f.tc, .slice f.fa f.fn f.fc] 38)) (0, 0) (.slice none 0 0)
      rw [s2] at this
      exact this.below (ba (Below.refl _ _) _)
    · have := MB.made (((w.alloc (.cells #[.int .i64 cap.1, .int .i64 cap.2, .slice a n cp] 29)).alloc (.cells #[.int .i64 f.id, .slice f.ta f.tn f.tc, .slice f.fa f.fn f.fc] 38)).alloc (.cells #[.int .i64 0, .int .i64 0, .slice none 0 0] 29)) cap (.slice none 0 0)
      rw [s3] at this
      exact this)
  have HSF := Lib.hid hS
  clear hat h hn hS
  go_enter Try.func62, Try.ntmps62
  go_wp2
  rw [← hbq, ← hb1q, ← hb2q, ← hb3q]
  clear hbq hb1q hb2q hb3q
  generalize ((((w.alloc (.cells #[.int .i64 cap.1, .int .i64 cap.2, .slice a n cp] 29)).alloc (.cells #[.int .i64 f.id, .slice f.ta f.tn f.tc, .slice f.fa f.fn f.fc] 38)).alloc (.cells #[.int .i64 0, .int .i64 0, .slice none 0 0] 29)).alloc (.cells #[.int .i64 cap.1, .int .i64 cap.2, .slice none 0 0] 29)) = w1 at *
  go_loopw [6, 7] (fun dv iv wr => ∃ (t : Nat) (d : Bool) (vo : Value) (C : List Oa), t ≤ n ∧ iv = .int .i64 t ∧ dv = .bool d ∧ Hid (WC w wr b b1 b2 b3 cap (.slice a n cp) f vo C ∧ WI S f t d C)) (fun _ iv _ => n - (intOf iv).toNat)
  case atStart => exact ⟨0, false, _, [], Nat.zero_le _, rfl, rfl, HI⟩
  case round =>
    clear HI
    obtain ⟨t, d, vo, C, ht, rfl, rfl, HQ⟩ := hrel
    obtain ⟨w2, rfl⟩ : ∃ w2, w2 = wr := ⟨_, rfl⟩
    by_cases hlt : t < n
    · have hts : (t : Int) < (n : Int) := by omega
      obtain ⟨x, hx⟩ := at_lt (l := S) (i := t) (by rw [← HN.out]; exact hlt)
      obtain ⟨bs, off, rfl, hbs, hcell⟩ := HAT.out t x hx
      have HCX := Lib.hid hcell
      have HBS := Lib.hid (show bs < b by rw [HBQ.out]; exact hbs)
      have hst := HQ.out.2.step HSF.out hx
      have HCL := Lib.hid (show C.length ≤ n + 1 by have := HQ.out.2.len; omega)
      clear hcell hx hbs
      cases d with
      | true =>
        have HWI := Lib.hid (show WI S f (t + 1) true (C ++ if x.id ≠ f.id then [x] else []) from by
          rw [if_neg (fun e => by cases e.1), Bool.true_or] at hst; exact hst)
        clear hst
        have H2 := Lib.hid HQ.out.1
        clear HQ
        obtain ⟨z0, zM, z1⟩ := H2.out.m2.cells
        obtain ⟨y0, yM, y1⟩ := H2.out.m5.cells
        obtain ⟨x0, x1, x2⟩ := H2.out.f3.cells
        have q0 := H2.out.m2.lt
        have q1 : b1 < w2.heap.size := by have := H2.out.ds; omega
        have q2 : b2 < w2.heap.size := by have := H2.out.ds; omega
        have q3 := H2.out.m5.lt
        have qs : bs < w2.heap.size := by have := H2.out.ds; have := HBS.out; omega
        have e0 := ((H2.out.bel).cell (p := ⟨bs, off + t * 3 + 0, none⟩) HBS.out).trans (HCX.out 0 _ rfl)
        have e1 := ((H2.out.bel).cell (p := ⟨bs, off + t * 3 + 1, none⟩) HBS.out).trans (HCX.out 1 _ rfl)
        have e2 := ((H2.out.bel).cell (p := ⟨bs, off + t * 3 + 2, none⟩) HBS.out).trans (HCX.out 2 _ rfl)
        simp only [Nat.add_zero] at e0
        go_wp2
        refine wp_region_pure (by kernel_rfl) (by kernel_rfl) ?_
        repeat (first | go_big_quiet_step ((fail)) | (quiet_step ((fail))))
        refine wpQuiet_nil ?_
        rintro w3 ⟨x3, hx3⟩
        have hb3 := ext_below _ x3
        rw [← hx3] at hb3
        clear hx3 x3
        have hs3 : w2.heap.size + 0 ≤ w3.heap.size := (by have h := hb3.size; first | omega | (simp at h; omega))
        obtain ⟨hc3, hf3, hl3⟩ := bcell hb3
        clear hl3
        have H3 := Lib.hid (H2.out.on hb3)
        clear z0 zM z1 y0 yM y1 x0 x1 x2 q0 q1 q2 q3 qs
        clear hb3 hc3 hf3 e0 e1 e2
        obtain ⟨z0, zM, z1⟩ := H3.out.m2.cells
        obtain ⟨y0, yM, y1⟩ := H3.out.m5.cells
        obtain ⟨x0, x1, x2⟩ := H3.out.f3.cells
        have q0 := H3.out.m2.lt
        have q1 : b1 < w3.heap.size := by have := H3.out.ds; omega
        have q2 : b2 < w3.heap.size := by have := H3.out.ds; omega
        have q3 := H3.out.m5.lt
        have qs : bs < w3.heap.size := by have := H3.out.ds; have := HBS.out; omega
        have e0 := ((H3.out.bel).cell (p := ⟨bs, off + t * 3 + 0, none⟩) HBS.out).trans (HCX.out 0 _ rfl)
        have e1 := ((H3.out.bel).cell (p := ⟨bs, off + t * 3 + 1, none⟩) HBS.out).trans (HCX.out 1 _ rfl)
        have e2 := ((H3.out.bel).cell (p := ⟨bs, off + t * 3 + 2, none⟩) HBS.out).trans (HCX.out 2 _ rfl)
        simp only [Nat.add_zero] at e0
        by_cases hxe : x.id = f.id
        · have hxn : (x.id != f.id) = false := by simpa using hxe
          have hxb : (x.id == f.id) = true := by simpa using hxe
          have HW := Lib.hid (show WI S f (t + 1) true C from by have := HWI.out; rw [if_neg (fun e => e hxe), List.append_nil] at this; exact this)
          clear hxe
          go_wp2
          refine wp_region_pure (by kernel_rfl) (by kernel_rfl) ?_
          repeat (first | go_big_quiet_step ((fail)) | (quiet_step ((fail))))
          refine wpQuiet_nil ?_
          rintro w4 ⟨x4, hx4⟩
          have hb4 := ext_below _ x4
          rw [← hx4] at hb4
          clear hx4 x4
          have hs4 : w3.heap.size + 0 ≤ w4.heap.size := (by have h := hb4.size; first | omega | (simp at h; omega))
          obtain ⟨hc4, hf4, hl4⟩ := bcell hb4
          clear hl4
          have H4 := Lib.hid (H3.out.on hb4)
          clear z0 zM z1 y0 yM y1 x0 x1 x2 q0 q1 q2 q3 qs
          clear hb4 hc4 hf4 e0 e1 e2
          go_wp2
          go_roundw
          case rel => exact ⟨t + 1, true, _, _, by omega, by go_num, rfl, Lib.hid ⟨H4.out, HW.out⟩⟩
          case measure => simp [intOf]; omega
        · have hxn : (x.id != f.id) = true := by simpa using hxe
          have hxb : (x.id == f.id) = false := by simpa using hxe
          have HW := Lib.hid (show WI S f (t + 1) true (C ++ [x]) from by have := HWI.out; rw [if_pos hxe] at this; exact this)
          clear hxe
          go_wp2
          refine wp_region_pure (by kernel_rfl) (by kernel_rfl) ?_
          repeat (first | go_big_quiet_step ((fail)) | (quiet_step ((fail))))
          refine wpQuiet_nil ?_
          rintro w4 ⟨x4, hx4⟩
          have hb4 := ext_below _ x4
          rw [← hx4] at hb4
          clear hx4 x4
          have hs4 : w3.heap.size + 0 ≤ w4.heap.size := (by have h := hb4.size; first | omega | (simp at h; omega))
          obtain ⟨hc4, hf4, hl4⟩ := bcell hb4
          clear hl4
          have H4 := Lib.hid (H3.out.on hb4)
          clear z0 zM z1 y0 yM y1 x0 x1 x2 q0 q1 q2 q3 qs
          clear hb4 hc4 hf4 e0 e1 e2
          obtain ⟨z0, zM, z1⟩ := H4.out.m2.cells
          obtain ⟨y0, yM, y1⟩ := H4.out.m5.cells
          obtain ⟨x0, x1, x2⟩ := H4.out.f3.cells
          have q0 := H4.out.m2.lt
          have q1 : b1 < w4.heap.size := by have := H4.out.ds; omega
          have q2 : b2 < w4.heap.size := by have := H4.out.ds; omega
          have q3 := H4.out.m5.lt
          have qs : bs < w4.heap.size := by have := H4.out.ds; have := HBS.out; omega
          have e0 := ((H4.out.bel).cell (p := ⟨bs, off + t * 3 + 0, none⟩) HBS.out).trans (HCX.out 0 _ rfl)
          have e1 := ((H4.out.bel).cell (p := ⟨bs, off + t * 3 + 1, none⟩) HBS.out).trans (HCX.out 1 _ rfl)
          have e2 := ((H4.out.bel).cell (p := ⟨bs, off + t * 3 + 2, none⟩) HBS.out).trans (HCX.out 2 _ rfl)
          simp only [Nat.add_zero] at e0
          have n3 : ¬ OB vo b3 := H4.out.no (Nat.le_refl _)
          have n2 : ¬ OB vo b := H4.out.no (by have := H4.out.ds; omega)
          have ns : ¬ OB vo bs := fun e => by have := (H4.out.own.lt _ e).1; have := HBS.out; have := H4.out.ds; omega
          go_wp2
          refine Mix.regionL (OB vo) (by kernel_rfl) ?_
          intro w5 hb5
          refine Mix.take_exL _ _ 0 rfl (by kernel_rfl) (by kernel_rfl) (by kernel_rfl) (by kernel_rfl) (by kernel_rfl) (by kernel_rfl) (fun K hK => ?_)
          go_simp
          first | (refine hK _ ?_; clear hK K) | (apply Exists.intro; refine ⟨fun x => ?_, hK _ ?_⟩; (fail); clear hK K)
          refine Mix.take_exL _ _ 1 rfl (by kernel_rfl) (by kernel_rfl) (by kernel_rfl) (by kernel_rfl) (by kernel_rfl) (by kernel_rfl) (fun K hK => ?_)
          go_simp
          first | (refine hK _ ?_; clear hK K) | (apply Exists.intro; refine ⟨fun x => ?_, hK _ ?_⟩; (fail); clear hK K)
          refine Mix.take_exL _ _ 2 rfl (by kernel_rfl) (by kernel_rfl) (by kernel_rfl) (by kernel_rfl) (by kernel_rfl) (by kernel_rfl) (fun K hK => ?_)
          go_simp
          first | (refine hK _ ?_; clear hK K) | (apply Exists.intro; refine ⟨fun x => ?_, hK _ ?_⟩; (fail); clear hK K)
          refine Mix.take_exL _ _ 3 rfl (by kernel_rfl) (by kernel_rfl) (by kernel_rfl) (by kernel_rfl) (by kernel_rfl) (by kernel_rfl) (fun K hK => ?_)
          go_simp
          first | (refine hK _ ?_; clear hK K) | (apply Exists.intro; refine ⟨fun x => ?_, hK _ ?_⟩; (fail); clear hK K)
          refine Mix.take_exL _ _ 4 rfl (by kernel_rfl) (by kernel_rfl) (by kernel_rfl) (by kernel_rfl) (by kernel_rfl) (by kernel_rfl) (fun K hK => ?_)
          go_simp
          first | (refine hK _ ?_; clear hK K) | (apply Exists.intro; refine ⟨fun x => ?_, hK _ ?_⟩; (fail); clear hK K)
          refine Mix.take_exL _ _ 5 rfl (by kernel_rfl) (by kernel_rfl) (by kernel_rfl) (by kernel_rfl) (by kernel_rfl) (by kernel_rfl) (fun K hK => ?_)
          go_simp
          first | (refine hK _ ?_; clear hK K) | (apply Exists.intro; refine ⟨fun x => ?_, hK _ ?_⟩; (fail); clear hK K)
          refine Mix.take_exL _ _ 6 rfl (by kernel_rfl) (by kernel_rfl) (by kernel_rfl) (by kernel_rfl) (by kernel_rfl) (by kernel_rfl) (fun K hK => ?_)
          go_simp
          first | (refine hK _ ?_; clear hK K) | (apply Exists.intro; refine ⟨fun x => ?_, hK _ ?_⟩; (fail); clear hK K)
          refine Mix.allL (rs := [7]) (by kernel_rfl) (by simp) (.of_below _ hb5) (by kernel_rfl) ?_
          intro i6 hi6 w6 hb6 hC6
          simp only [List.mem_cons, List.not_mem_nil, or_false] at hi6
          subst hi6
          have HB6 := Lib.hid (bt hb5 hb6)
          clear hC6 hb5 hb6
          refine Mix.op rfl (by kernel_rfl) ?_
          go_simp
          refine Mix.allL (rs := [8]) (by kernel_rfl) (by simp) (.of_below _ (ba HB6.out _)) (by kernel_rfl) ?_
          intro i7 hi7 w7 hb7 hC7
          simp only [List.mem_cons, List.not_mem_nil, or_false] at hi7
          subst hi7
          have HB7 := Lib.hid (bt (ba HB6.out (.cells #[.int .i64 x.id, .slice x.ta x.tn x.tc, .slice x.fa x.fn x.fc] 38)) hb7)
          have hFX := (OB1.made w6 x).below hb7
          clear hC7 hb7
          obtain ⟨a', m', c', w8, hrun, hch, hnx⟩ := H4.out.app (x := x) (by have := HCL.out; omega) HB7.out hFX
          have HCH := Lib.hid hch; have HNX := Lib.hid hnx; have HRA := Lib.hid hrun
          clear hch hnx hrun hFX
          refine Mix.opApp rfl (by kernel_rfl) _ _ _ rfl rfl rfl HRA.out ?_
          go_simp
          refine Mix.take_exL _ _ 9 rfl (by kernel_rfl) (by kernel_rfl) (by kernel_rfl) (by kernel_rfl) (by kernel_rfl) (by kernel_rfl) (fun K hK => ?_)
          go_simp
          first | (refine hK _ ?_; clear hK K) | (apply Exists.intro; refine ⟨fun x => ?_, hK _ ?_⟩; (fail); clear hK K)
          refine Mix.allL (rs := [10]) (by kernel_rfl) (by simp) ((Chg.of_below _ HB7.out).same HCH.out) (by kernel_rfl) ?_
          intro i9 hi9 w9 hb9 hC9
          simp only [List.mem_cons, List.not_mem_nil, or_false] at hi9
          subst hi9
          have hp9 := HNX.out w9 (HCH.out.then_below hb9) hb9
          have y9 : w9.cell? ⟨b3, 2, none⟩ = some vo := ((HCH.out.then_below hb9).cell (b := b3) (by have := HB7.out.size; omega) n3 2).trans ((HB7.out.cell (p := ⟨b3, 2, none⟩) q3).trans y1)
          have y8 : w9.frozen? ⟨b3, 2, none⟩ = false := ((HCH.out.then_below hb9).frozen (b := b3) (by have := HB7.out.size; omega) n3 2).trans ((World.frozen?_of_block (a := ⟨b3, 2, none⟩) (HB7.out.block b3 q3)).trans (H4.out.m5.fz 2))
          have q9 : b3 < w9.heap.size := by have := HB7.out.size; have := HCH.out.size; have := hb9.size; omega
          have HP9 := Lib.hid hp9
          clear z0 zM z1 y0 yM y1 x0 x1 x2 q0 q1 q2 q3 qs
          clear hC9 hp9 hb9 e0 e1 e2 n3 n2 ns
          refine Mix.op rfl (by kernel_rfl) ?_
          go_simp
          refine Mix.doneL (by kernel_rfl) (by kernel_rfl) ?_
          intro w10 hb10
          have HP10 := Lib.hid (HP9.out.on hb10)
          clear hb10 y9 y8 q9
          go_wp2
          go_roundw
          case rel => exact ⟨t + 1, true, _, _, by omega, by go_num, rfl, Lib.hid ⟨HP10.out, HW.out⟩⟩
          case measure => simp [intOf]; omega
      | false =>
        by_cases h1 : f.id ≤ x.id
        · have HWI := Lib.hid (show WI S f (t + 1) true ((C ++ [f]) ++ if x.id ≠ f.id then [x] else []) from by
            rw [if_pos ⟨rfl, h1⟩, decide_eq_true h1] at hst; exact hst)
          have HCL := Lib.hid (show (C ++ [f]).length ≤ n + 1 by
            have h2 := HQ.out.2
            have h3 := List.length_take_le t S
            unfold WI at h2
            rcases h2 with ⟨_, rfl, _⟩ | ⟨h2, _⟩
            · rw [List.length_append, List.length_singleton]; omega
            · cases h2)
          have h1b : decide (f.id ≤ x.id) = true := decide_eq_true h1
          have H2 := Lib.hid HQ.out.1
          clear HQ hst
          obtain ⟨z0, zM, z1⟩ := H2.out.m2.cells
          obtain ⟨y0, yM, y1⟩ := H2.out.m5.cells
          obtain ⟨x0, x1, x2⟩ := H2.out.f3.cells
          have q0 := H2.out.m2.lt
          have q1 : b1 < w2.heap.size := by have := H2.out.ds; omega
          have q2 : b2 < w2.heap.size := by have := H2.out.ds; omega
          have q3 := H2.out.m5.lt
          have qs : bs < w2.heap.size := by have := H2.out.ds; have := HBS.out; omega
          have e0 := ((H2.out.bel).cell (p := ⟨bs, off + t * 3 + 0, none⟩) HBS.out).trans (HCX.out 0 _ rfl)
          have e1 := ((H2.out.bel).cell (p := ⟨bs, off + t * 3 + 1, none⟩) HBS.out).trans (HCX.out 1 _ rfl)
          have e2 := ((H2.out.bel).cell (p := ⟨bs, off + t * 3 + 2, none⟩) HBS.out).trans (HCX.out 2 _ rfl)
          simp only [Nat.add_zero] at e0
          go_wp2
          refine wp_region_pure (by kernel_rfl) (by kernel_rfl) ?_
          repeat (first | go_big_quiet_step ((fail)) | (quiet_step ((fail))))
          refine wpQuiet_nil ?_
          rintro w30 ⟨x30, hx30⟩
          have hb30 := ext_below _ x30
          rw [← hx30] at hb30
          clear hx30 x30
          have hs30 : w2.heap.size + 0 ≤ w30.heap.size := (by have h := hb30.size; first | omega | (simp at h; omega))
          obtain ⟨hc30, hf30, hl30⟩ := bcell hb30
          clear hl30
          have H30 := Lib.hid (H2.out.on hb30)
          clear z0 zM z1 y0 yM y1 x0 x1 x2 q0 q1 q2 q3 qs
          clear hb30 hc30 hf30 e0 e1 e2
          obtain ⟨a9, m9, c9, w8, hrun, hch, hnx⟩ := H30.out.app (x := f) (by have := HCL.out; rw [List.length_append, List.length_singleton] at this; omega) (ba (Below.refl _ _) _) (OB1.made w30 f)
          have HCH := Lib.hid hch
          have HP9 := Lib.hid (hnx w8 hch (Below.refl _ _))
          have HRA := Lib.hid hrun
          obtain ⟨z0, zM, z1⟩ := H30.out.m2.cells
          obtain ⟨y0, yM, y1⟩ := H30.out.m5.cells
          obtain ⟨x0, x1, x2⟩ := H30.out.f3.cells
          have q0 := H30.out.m2.lt
          have q1 : b1 < w30.heap.size := by have := H30.out.ds; omega
          have q2 : b2 < w30.heap.size := by have := H30.out.ds; omega
          have q3 := H30.out.m5.lt
          have qs : bs < w30.heap.size := by have := H30.out.ds; have := HBS.out; omega
          have n3 : ¬ OB vo b3 := H30.out.no (Nat.le_refl _)
          have y9 : w8.cell? ⟨b3, 2, none⟩ = some vo := (HCH.out.cell (b := b3) (by simp; omega) n3 2).trans (((ba (Below.refl _ _) _ : Below w30.heap.size w30 (w30.alloc _)).cell (p := ⟨b3, 2, none⟩) q3).trans y1)
          have y8 : w8.frozen? ⟨b3, 2, none⟩ = false := (HCH.out.frozen (b := b3) (by simp; omega) n3 2).trans ((World.frozen?_of_block (a := ⟨b3, 2, none⟩) ((ba (Below.refl _ _) _ : Below w30.heap.size w30 (w30.alloc _)).block b3 q3)).trans (H30.out.m5.fz 2))
          have q9 : b3 < w8.heap.size := by have := HCH.out.size; simp at this; omega
          clear hrun hch hnx
          go_wp2_with (at_builtin; refine wpList_app_run rfl _ _ _ rfl rfl rfl HRA.out ?_)
          clear z0 zM z1 y0 yM y1 x0 x1 x2 q0 q1 q2 q3 qs
          clear y9 y8 q9 n3
          generalize w8.setCell ⟨b3, 2, none⟩ (.slice a9 m9 c9) = w3 at *
          have H3 := Lib.hid HP9.out
          clear HP9
          obtain ⟨z0, zM, z1⟩ := H3.out.m2.cells
          obtain ⟨y0, yM, y1⟩ := H3.out.m5.cells
          obtain ⟨x0, x1, x2⟩ := H3.out.f3.cells
          have q0 := H3.out.m2.lt
          have q1 : b1 < w3.heap.size := by have := H3.out.ds; omega
          have q2 : b2 < w3.heap.size := by have := H3.out.ds; omega
          have q3 := H3.out.m5.lt
          have qs : bs < w3.heap.size := by have := H3.out.ds; have := HBS.out; omega
          have e0 := ((H3.out.bel).cell (p := ⟨bs, off + t * 3 + 0, none⟩) HBS.out).trans (HCX.out 0 _ rfl)
          have e1 := ((H3.out.bel).cell (p := ⟨bs, off + t * 3 + 1, none⟩) HBS.out).trans (HCX.out 1 _ rfl)
          have e2 := ((H3.out.bel).cell (p := ⟨bs, off + t * 3 + 2, none⟩) HBS.out).trans (HCX.out 2 _ rfl)
          simp only [Nat.add_zero] at e0
          by_cases hxe : x.id = f.id
          · have hxn : (x.id != f.id) = false := by simpa using hxe
            have hxb : (x.id == f.id) = true := by simpa using hxe
            have HW := Lib.hid (show WI S f (t + 1) true (C ++ [f]) from by have := HWI.out; rw [if_neg (fun e => e hxe), List.append_nil] at this; exact this)
            clear hxe
            go_wp2
            refine wp_region_pure (by kernel_rfl) (by kernel_rfl) ?_
            repeat (first | go_big_quiet_step ((fail)) | (quiet_step ((fail))))
            refine wpQuiet_nil ?_
            rintro w4 ⟨x4, hx4⟩
            have hb4 := ext_below _ x4
            rw [← hx4] at hb4
            clear hx4 x4
            have hs4 : w3.heap.size + 0 ≤ w4.heap.size := (by have h := hb4.size; first | omega | (simp at h; omega))
            obtain ⟨hc4, hf4, hl4⟩ := bcell hb4
            clear hl4
            have H4 := Lib.hid (H3.out.on hb4)
            clear z0 zM z1 y0 yM y1 x0 x1 x2 q0 q1 q2 q3 qs
            clear hb4 hc4 hf4 e0 e1 e2
            go_wp2
            go_roundw
            case rel => exact ⟨t + 1, true, _, _, by omega, by go_num, rfl, Lib.hid ⟨H4.out, HW.out⟩⟩
            case measure => simp [intOf]; omega
          · have hxn : (x.id != f.id) = true := by simpa using hxe
            have hxb : (x.id == f.id) = false := by simpa using hxe
            have HW := Lib.hid (show WI S f (t + 1) true ((C ++ [f]) ++ [x]) from by have := HWI.out; rw [if_pos hxe] at this; exact this)
            clear hxe
            go_wp2
            refine wp_region_pure (by kernel_rfl) (by kernel_rfl) ?_
            repeat (first | go_big_quiet_step ((fail)) | (quiet_step ((fail))))
            refine wpQuiet_nil ?_
            rintro w4 ⟨x4, hx4⟩
            have hb4 := ext_below _ x4
            rw [← hx4] at hb4
            clear hx4 x4
            have hs4 : w3.heap.size + 0 ≤ w4.heap.size := (by have h := hb4.size; first | omega | (simp at h; omega))
            obtain ⟨hc4, hf4, hl4⟩ := bcell hb4
            clear hl4
            have H4 := Lib.hid (H3.out.on hb4)
            clear z0 zM z1 y0 yM y1 x0 x1 x2 q0 q1 q2 q3 qs
            clear hb4 hc4 hf4 e0 e1 e2
            obtain ⟨z0, zM, z1⟩ := H4.out.m2.cells
            obtain ⟨y0, yM, y1⟩ := H4.out.m5.cells
            obtain ⟨x0, x1, x2⟩ := H4.out.f3.cells
            have q0 := H4.out.m2.lt
            have q1 : b1 < w4.heap.size := by have := H4.out.ds; omega
            have q2 : b2 < w4.heap.size := by have := H4.out.ds; omega
            have q3 := H4.out.m5.lt
            have qs : bs < w4.heap.size := by have := H4.out.ds; have := HBS.out; omega
            have e0 := ((H4.out.bel).cell (p := ⟨bs, off + t * 3 + 0, none⟩) HBS.out).trans (HCX.out 0 _ rfl)
            have e1 := ((H4.out.bel).cell (p := ⟨bs, off + t * 3 + 1, none⟩) HBS.out).trans (HCX.out 1 _ rfl)
            have e2 := ((H4.out.bel).cell (p := ⟨bs, off + t * 3 + 2, none⟩) HBS.out).trans (HCX.out 2 _ rfl)
            simp only [Nat.add_zero] at e0
            have n3 : ¬ OB (Value.slice a9 m9 c9) b3 := H4.out.no (Nat.le_refl _)
            have n2 : ¬ OB (Value.slice a9 m9 c9) b := H4.out.no (by have := H4.out.ds; omega)
            have ns : ¬ OB (Value.slice a9 m9 c9) bs := fun e => by have := (H4.out.own.lt _ e).1; have := HBS.out; have := H4.out.ds; omega
            go_wp2
            refine Mix.regionL (OB (Value.slice a9 m9 c9)) (by kernel_rfl) ?_
            intro w5 hb5
            refine Mix.take_exL _ _ 0 rfl (by kernel_rfl) (by kernel_rfl) (by kernel_rfl) (by kernel_rfl) (by kernel_rfl) (by kernel_rfl) (fun K hK => ?_)
            go_simp
            first | (refine hK _ ?_; clear hK K) | (apply Exists.intro; refine ⟨fun x => ?_, hK _ ?_⟩; (fail); clear hK K)
            refine Mix.take_exL _ _ 1 rfl (by kernel_rfl) (by kernel_rfl) (by kernel_rfl) (by kernel_rfl) (by kernel_rfl) (by kernel_rfl) (fun K hK => ?_)
            go_simp
            first | (refine hK _ ?_; clear hK K) | (apply Exists.intro; refine ⟨fun x => ?_, hK _ ?_⟩; (fail); clear hK K)
            refine Mix.take_exL _ _ 2 rfl (by kernel_rfl) (by kernel_rfl) (by kernel_rfl) (by kernel_rfl) (by kernel_rfl) (by kernel_rfl) (fun K hK => ?_)
            go_simp
            first | (refine hK _ ?_; clear hK K) | (apply Exists.intro; refine ⟨fun x => ?_, hK _ ?_⟩; (fail); clear hK K)
            refine Mix.take_exL _ _ 3 rfl (by kernel_rfl) (by kernel_rfl) (by kernel_rfl) (by kernel_rfl) (by kernel_rfl) (by kernel_rfl) (fun K hK => ?_)
            go_simp
            first | (refine hK _ ?_; clear hK K) | (apply Exists.intro; refine ⟨fun x => ?_, hK _ ?_⟩; (fail); clear hK K)
            refine Mix.take_exL _ _ 4 rfl (by kernel_rfl) (by kernel_rfl) (by kernel_rfl) (by kernel_rfl) (by kernel_rfl) (by kernel_rfl) (fun K hK => ?_)
            go_simp
            first | (refine hK _ ?_; clear hK K) | (apply Exists.intro; refine ⟨fun x => ?_, hK _ ?_⟩; (fail); clear hK K)
            refine Mix.take_exL _ _ 5 rfl (by kernel_rfl) (by kernel_rfl) (by kernel_rfl) (by kernel_rfl) (by kernel_rfl) (by kernel_rfl) (fun K hK => ?_)
            go_simp
            first | (refine hK _ ?_; clear hK K) | (apply Exists.intro; refine ⟨fun x => ?_, hK _ ?_⟩; (fail); clear hK K)
            refine Mix.take_exL _ _ 6 rfl (by kernel_rfl) (by kernel_rfl) (by kernel_rfl) (by kernel_rfl) (by kernel_rfl) (by kernel_rfl) (fun K hK => ?_)
            go_simp
            first | (refine hK _ ?_; clear hK K) | (apply Exists.intro; refine ⟨fun x => ?_, hK _ ?_⟩; (fail); clear hK K)
            refine Mix.allL (rs := [7]) (by kernel_rfl) (by simp) (.of_below _ hb5) (by kernel_rfl) ?_
            intro i6 hi6 w6 hb6 hC6
            simp only [List.mem_cons, List.not_mem_nil, or_false] at hi6
            subst hi6
            have HB6 := Lib.hid (bt hb5 hb6)
            clear hC6 hb5 hb6
            refine Mix.op rfl (by kernel_rfl) ?_
            go_simp
            refine Mix.allL (rs := [8]) (by kernel_rfl) (by simp) (.of_below _ (ba HB6.out _)) (by kernel_rfl) ?_
            intro i7 hi7 w7 hb7 hC7
            simp only [List.mem_cons, List.not_mem_nil, or_false] at hi7
            subst hi7
            have HB7 := Lib.hid (bt (ba HB6.out (.cells #[.int .i64 x.id, .slice x.ta x.tn x.tc, .slice x.fa x.fn x.fc] 38)) hb7)
            have hFX := (OB1.made w6 x).below hb7
            clear hC7 hb7
            obtain ⟨a', m', c', w8, hrun, hch, hnx⟩ := H4.out.app (x := x) (by have := HCL.out; omega) HB7.out hFX
            have HCH := Lib.hid hch; have HNX := Lib.hid hnx; have HRA := Lib.hid hrun
            clear hch hnx hrun hFX
            refine Mix.opApp rfl (by kernel_rfl) _ _ _ rfl rfl rfl HRA.out ?_
            go_simp
            refine Mix.take_exL _ _ 9 rfl (by kernel_rfl) (by kernel_rfl) (by kernel_rfl) (by kernel_rfl) (by kernel_rfl) (by kernel_rfl) (fun K hK => ?_)
            go_simp
            first | (refine hK _ ?_; clear hK K) | (apply Exists.intro; refine ⟨fun x => ?_, hK _ ?_⟩; (fail); clear hK K)
            refine Mix.allL (rs := [10]) (by kernel_rfl) (by simp) ((Chg.of_below _ HB7.out).same HCH.out) (by kernel_rfl) ?_
            intro i9 hi9 w9 hb9 hC9
            simp only [List.mem_cons, List.not_mem_nil, or_false] at hi9
            subst hi9
            have hp9 := HNX.out w9 (HCH.out.then_below hb9) hb9
            have y9 : w9.cell? ⟨b3, 2, none⟩ = some (Value.slice a9 m9 c9) := ((HCH.out.then_below hb9).cell (b := b3) (by have := HB7.out.size; omega) n3 2).trans ((HB7.out.cell (p := ⟨b3, 2, none⟩) q3).trans y1)
            have y8 : w9.frozen? ⟨b3, 2, none⟩ = false := ((HCH.out.then_below hb9).frozen (b := b3) (by have := HB7.out.size; omega) n3 2).trans ((World.frozen?_of_block (a := ⟨b3, 2, none⟩) (HB7.out.block b3 q3)).trans (H4.out.m5.fz 2))
            have q9 : b3 < w9.heap.size := by have := HB7.out.size; have := HCH.out.size; have := hb9.size; omega
            have HP9 := Lib.hid hp9
            clear z0 zM z1 y0 yM y1 x0 x1 x2 q0 q1 q2 q3 qs
            clear hC9 hp9 hb9 e0 e1 e2 n3 n2 ns
            refine Mix.op rfl (by kernel_rfl) ?_
            go_simp
            refine Mix.doneL (by kernel_rfl) (by kernel_rfl) ?_
            intro w10 hb10
            have HP10 := Lib.hid (HP9.out.on hb10)
            clear hb10 y9 y8 q9
            go_wp2
            go_roundw
            case rel => exact ⟨t + 1, true, _, _, by omega, by go_num, rfl, Lib.hid ⟨HP10.out, HW.out⟩⟩
            case measure => simp [intOf]; omega
        · have HWI := Lib.hid (show WI S f (t + 1) false (C ++ if x.id ≠ f.id then [x] else []) from by
            rw [if_neg (fun e => h1 e.2), decide_eq_false h1] at hst; exact hst)
          have h1b : decide (f.id ≤ x.id) = false := decide_eq_false h1
          have H2 := Lib.hid HQ.out.1
          clear HQ hst
          obtain ⟨z0, zM, z1⟩ := H2.out.m2.cells
          obtain ⟨y0, yM, y1⟩ := H2.out.m5.cells
          obtain ⟨x0, x1, x2⟩ := H2.out.f3.cells
          have q0 := H2.out.m2.lt
          have q1 : b1 < w2.heap.size := by have := H2.out.ds; omega
          have q2 : b2 < w2.heap.size := by have := H2.out.ds; omega
          have q3 := H2.out.m5.lt
          have qs : bs < w2.heap.size := by have := H2.out.ds; have := HBS.out; omega
          have e0 := ((H2.out.bel).cell (p := ⟨bs, off + t * 3 + 0, none⟩) HBS.out).trans (HCX.out 0 _ rfl)
          have e1 := ((H2.out.bel).cell (p := ⟨bs, off + t * 3 + 1, none⟩) HBS.out).trans (HCX.out 1 _ rfl)
          have e2 := ((H2.out.bel).cell (p := ⟨bs, off + t * 3 + 2, none⟩) HBS.out).trans (HCX.out 2 _ rfl)
          simp only [Nat.add_zero] at e0
          go_wp2
          refine wp_region_pure (by kernel_rfl) (by kernel_rfl) ?_
          repeat (first | go_big_quiet_step ((fail)) | (quiet_step ((fail))))
          refine wpQuiet_nil ?_
          rintro w3 ⟨x3, hx3⟩
          have hb3 := ext_below _ x3
          rw [← hx3] at hb3
          clear hx3 x3
          have hs3 : w2.heap.size + 0 ≤ w3.heap.size := (by have h := hb3.size; first | omega | (simp at h; omega))
          obtain ⟨hc3, hf3, hl3⟩ := bcell hb3
          clear hl3
          have H3 := Lib.hid (H2.out.on hb3)
          clear z0 zM z1 y0 yM y1 x0 x1 x2 q0 q1 q2 q3 qs
          clear hb3 hc3 hf3 e0 e1 e2
          obtain ⟨z0, zM, z1⟩ := H3.out.m2.cells
          obtain ⟨y0, yM, y1⟩ := H3.out.m5.cells
          obtain ⟨x0, x1, x2⟩ := H3.out.f3.cells
          have q0 := H3.out.m2.lt
          have q1 : b1 < w3.heap.size := by have := H3.out.ds; omega
          have q2 : b2 < w3.heap.size := by have := H3.out.ds; omega
          have q3 := H3.out.m5.lt
          have qs : bs < w3.heap.size := by have := H3.out.ds; have := HBS.out; omega
          have e0 := ((H3.out.bel).cell (p := ⟨bs, off + t * 3 + 0, none⟩) HBS.out).trans (HCX.out 0 _ rfl)
          have e1 := ((H3.out.bel).cell (p := ⟨bs, off + t * 3 + 1, none⟩) HBS.out).trans (HCX.out 1 _ rfl)
          have e2 := ((H3.out.bel).cell (p := ⟨bs, off + t * 3 + 2, none⟩) HBS.out).trans (HCX.out 2 _ rfl)
          simp only [Nat.add_zero] at e0
          by_cases hxe : x.id = f.id
          · have hxn : (x.id != f.id) = false := by simpa using hxe
            have hxb : (x.id == f.id) = true := by simpa using hxe
            have HW := Lib.hid (show WI S f (t + 1) false C from by have := HWI.out; rw [if_neg (fun e => e hxe), List.append_nil] at this; exact this)
            clear hxe
            go_wp2
            refine wp_region_pure (by kernel_rfl) (by kernel_rfl) ?_
            repeat (first | go_big_quiet_step ((fail)) | (quiet_step ((fail))))
            refine wpQuiet_nil ?_
            rintro w4 ⟨x4, hx4⟩
            have hb4 := ext_below _ x4
            rw [← hx4] at hb4
            clear hx4 x4
            have hs4 : w3.heap.size + 0 ≤ w4.heap.size := (by have h := hb4.size; first | omega | (simp at h; omega))
            obtain ⟨hc4, hf4, hl4⟩ := bcell hb4
            clear hl4
            have H4 := Lib.hid (H3.out.on hb4)
            clear z0 zM z1 y0 yM y1 x0 x1 x2 q0 q1 q2 q3 qs
            clear hb4 hc4 hf4 e0 e1 e2
            go_wp2
            go_roundw
            case rel => exact ⟨t + 1, false, _, _, by omega, by go_num, rfl, Lib.hid ⟨H4.out, HW.out⟩⟩
            case measure => simp [intOf]; omega
          · have hxn : (x.id != f.id) = true := by simpa using hxe
            have hxb : (x.id == f.id) = false := by simpa using hxe
            have HW := Lib.hid (show WI S f (t + 1) false (C ++ [x]) from by have := HWI.out; rw [if_pos hxe] at this; exact this)
            clear hxe
            go_wp2
            refine wp_region_pure (by kernel_rfl) (by kernel_rfl) ?_
            repeat (first | go_big_quiet_step ((fail)) | (quiet_step ((fail))))
            refine wpQuiet_nil ?_
            rintro w4 ⟨x4, hx4⟩
            have hb4 := ext_below _ x4
            rw [← hx4] at hb4
            clear hx4 x4
            have hs4 : w3.heap.size + 0 ≤ w4.heap.size := (by have h := hb4.size; first | omega | (simp at h; omega))
            obtain ⟨hc4, hf4, hl4⟩ := bcell hb4
            clear hl4
            have H4 := Lib.hid (H3.out.on hb4)
            clear z0 zM z1 y0 yM y1 x0 x1 x2 q0 q1 q2 q3 qs
            clear hb4 hc4 hf4 e0 e1 e2
            obtain ⟨z0, zM, z1⟩ := H4.out.m2.cells
            obtain ⟨y0, yM, y1⟩ := H4.out.m5.cells
            obtain ⟨x0, x1, x2⟩ := H4.out.f3.cells
            have q0 := H4.out.m2.lt
            have q1 : b1 < w4.heap.size := by have := H4.out.ds; omega
            have q2 : b2 < w4.heap.size := by have := H4.out.ds; omega
            have q3 := H4.out.m5.lt
            have qs : bs < w4.heap.size := by have := H4.out.ds; have := HBS.out; omega
            have e0 := ((H4.out.bel).cell (p := ⟨bs, off + t * 3 + 0, none⟩) HBS.out).trans (HCX.out 0 _ rfl)
            have e1 := ((H4.out.bel).cell (p := ⟨bs, off + t * 3 + 1, none⟩) HBS.out).trans (HCX.out 1 _ rfl)
            have e2 := ((H4.out.bel).cell (p := ⟨bs, off + t * 3 + 2, none⟩) HBS.out).trans (HCX.out 2 _ rfl)
            simp only [Nat.add_zero] at e0
            have n3 : ¬ OB vo b3 := H4.out.no (Nat.le_refl _)
            have n2 : ¬ OB vo b := H4.out.no (by have := H4.out.ds; omega)
            have ns : ¬ OB vo bs := fun e => by have := (H4.out.own.lt _ e).1; have := HBS.out; have := H4.out.ds; omega
            go_wp2
            refine Mix.regionL (OB vo) (by kernel_rfl) ?_
            intro w5 hb5
            refine Mix.take_exL _ _ 0 rfl (by kernel_rfl) (by kernel_rfl) (by kernel_rfl) (by kernel_rfl) (by kernel_rfl) (by kernel_rfl) (fun K hK => ?_)
            go_simp
            first | (refine hK _ ?_; clear hK K) | (apply Exists.intro; refine ⟨fun x => ?_, hK _ ?_⟩; (fail); clear hK K)
            refine Mix.take_exL _ _ 1 rfl (by kernel_rfl) (by kernel_rfl) (by kernel_rfl) (by kernel_rfl) (by kernel_rfl) (by kernel_rfl) (fun K hK => ?_)
            go_simp
            first | (refine hK _ ?_; clear hK K) | (apply Exists.intro; refine ⟨fun x => ?_, hK _ ?_⟩; (fail); clear hK K)
            refine Mix.take_exL _ _ 2 rfl (by kernel_rfl) (by kernel_rfl) (by kernel_rfl) (by kernel_rfl) (by kernel_rfl) (by kernel_rfl) (fun K hK => ?_)
            go_simp
            first | (refine hK _ ?_; clear hK K) | (apply Exists.intro; refine ⟨fun x => ?_, hK _ ?_⟩; (fail); clear hK K)
            refine Mix.take_exL _ _ 3 rfl (by kernel_rfl) (by kernel_rfl) (by kernel_rfl) (by kernel_rfl) (by kernel_rfl) (by kernel_rfl) (fun K hK => ?_)
            go_simp
            first | (refine hK _ ?_; clear hK K) | (apply Exists.intro; refine ⟨fun x => ?_, hK _ ?_⟩; (fail); clear hK K)
            refine Mix.take_exL _ _ 4 rfl (by kernel_rfl) (by kernel_rfl) (by kernel_rfl) (by kernel_rfl) (by kernel_rfl) (by kernel_rfl) (fun K hK => ?_)
            go_simp
            first | (refine hK _ ?_; clear hK K) | (apply Exists.intro; refine ⟨fun x => ?_, hK _ ?_⟩; (fail); clear hK K)
            refine Mix.take_exL _ _ 5 rfl (by kernel_rfl) (by kernel_rfl) (by kernel_rfl) (by kernel_rfl) (by kernel_rfl) (by kernel_rfl) (fun K hK => ?_)
            go_simp
            first | (refine hK _ ?_; clear hK K) | (apply Exists.intro; refine ⟨fun x => ?_, hK _ ?_⟩; (fail); clear hK K)
            refine Mix.take_exL _ _ 6 rfl (by kernel_rfl) (by kernel_rfl) (by kernel_rfl) (by kernel_rfl) (by kernel_rfl) (by kernel_rfl) (fun K hK => ?_)
            go_simp
            first | (refine hK _ ?_; clear hK K) | (apply Exists.intro; refine ⟨fun x => ?_, hK _ ?_⟩; (fail); clear hK K)
            refine Mix.allL (rs := [7]) (by kernel_rfl) (by simp) (.of_below _ hb5) (by kernel_rfl) ?_
            intro i6 hi6 w6 hb6 hC6
            simp only [List.mem_cons, List.not_mem_nil, or_false] at hi6
            subst hi6
            have HB6 := Lib.hid (bt hb5 hb6)
            clear hC6 hb5 hb6
            refine Mix.op rfl (by kernel_rfl) ?_
            go_simp
            refine Mix.allL (rs := [8]) (by kernel_rfl) (by simp) (.of_below _ (ba HB6.out _)) (by kernel_rfl) ?_
            intro i7 hi7 w7 hb7 hC7
            simp only [List.mem_cons, List.not_mem_nil, or_false] at hi7
            subst hi7
            have HB7 := Lib.hid (bt (ba HB6.out (.cells #[.int .i64 x.id, .slice x.ta x.tn x.tc, .slice x.fa x.fn x.fc] 38)) hb7)
            have hFX := (OB1.made w6 x).below hb7
            clear hC7 hb7
            obtain ⟨a', m', c', w8, hrun, hch, hnx⟩ := H4.out.app (x := x) (by have := HCL.out; omega) HB7.out hFX
            have HCH := Lib.hid hch; have HNX := Lib.hid hnx; have HRA := Lib.hid hrun
            clear hch hnx hrun hFX
            refine Mix.opApp rfl (by kernel_rfl) _ _ _ rfl rfl rfl HRA.out ?_
            go_simp
            refine Mix.take_exL _ _ 9 rfl (by kernel_rfl) (by kernel_rfl) (by kernel_rfl) (by kernel_rfl) (by kernel_rfl) (by kernel_rfl) (fun K hK => ?_)
            go_simp
            first | (refine hK _ ?_; clear hK K) | (apply Exists.intro; refine ⟨fun x => ?_, hK _ ?_⟩; (fail); clear hK K)
            refine Mix.allL (rs := [10]) (by kernel_rfl) (by simp) ((Chg.of_below _ HB7.out).same HCH.out) (by kernel_rfl) ?_
            intro i9 hi9 w9 hb9 hC9
            simp only [List.mem_cons, List.not_mem_nil, or_false] at hi9
            subst hi9
            have hp9 := HNX.out w9 (HCH.out.then_below hb9) hb9
            have y9 : w9.cell? ⟨b3, 2, none⟩ = some vo := ((HCH.out.then_below hb9).cell (b := b3) (by have := HB7.out.size; omega) n3 2).trans ((HB7.out.cell (p := ⟨b3, 2, none⟩) q3).trans y1)
            have y8 : w9.frozen? ⟨b3, 2, none⟩ = false := ((HCH.out.then_below hb9).frozen (b := b3) (by have := HB7.out.size; omega) n3 2).trans ((World.frozen?_of_block (a := ⟨b3, 2, none⟩) (HB7.out.block b3 q3)).trans (H4.out.m5.fz 2))
            have q9 : b3 < w9.heap.size := by have := HB7.out.size; have := HCH.out.size; have := hb9.size; omega
            have HP9 := Lib.hid hp9
            clear z0 zM z1 y0 yM y1 x0 x1 x2 q0 q1 q2 q3 qs
            clear hC9 hp9 hb9 e0 e1 e2 n3 n2 ns
            refine Mix.op rfl (by kernel_rfl) ?_
            go_simp
            refine Mix.doneL (by kernel_rfl) (by kernel_rfl) ?_
            intro w10 hb10
            have HP10 := Lib.hid (HP9.out.on hb10)
            clear hb10 y9 y8 q9
            go_wp2
            go_roundw
            case rel => exact ⟨t + 1, false, _, _, by omega, by go_num, rfl, Lib.hid ⟨HP10.out, HW.out⟩⟩
            case measure => simp [intOf]; omega
    · obtain rfl : n = t := by omega
      have hfin := HQ.out.2.fin HN.out
      have H2 := Lib.hid HQ.out.1
      cases d with
      | true =>
        rw [if_neg (by simp)] at hfin
        have HFN := Lib.hid hfin
        clear HQ hfin
        obtain ⟨ao, mo, co, hvo⟩ : ∃ ao mo co, vo = .slice ao mo co := by
          rcases H2.out.own.2 with ⟨hv, h0⟩ | ⟨g', cap', cur', hv, _⟩
          · exact ⟨_, _, _, hv⟩
          · exact ⟨_, _, _, hv⟩
        subst hvo
        obtain ⟨z0, zM, z1⟩ := H2.out.m2.cells
        obtain ⟨y0, yM, y1⟩ := H2.out.m5.cells
        obtain ⟨s0, sM, s1⟩ := H2.out.m4.cells
        have s2 := H2.out.m4.fz 0; have s3 := H2.out.m4.fz 1; have s4 := H2.out.m4.fz 2
        have q0 := H2.out.m2.lt
        have q2 := H2.out.m4.lt
        have q3 := H2.out.m5.lt
        go_wp2
        refine bodyPost_ret (res_m Try.results62 rfl (H2.out.m4.set2 cap (.slice ao mo co))) rfl ?_
        have hst : Chg (fun k => k = b2) w2 (((w2.setCell ⟨b2, 0, none⟩ (.int .i64 cap.1)).setCell ⟨b2, 1, none⟩ (.int .i64 cap.2)).setCell ⟨b2, 2, none⟩ (.slice ao mo co)) := (((Chg.refl (fun k => k = b2) w2).setCell (p := ⟨b2, 0, none⟩) (.inl rfl) _).setCell (p := ⟨b2, 1, none⟩) (.inl rfl) _).setCell (p := ⟨b2, 2, none⟩) (.inl rfl) _
        have hd := H2.out.ds
        have hol := H2.out.own.lt
        refine ⟨_, rfl, ?_, fun k hk => ?_, ?_⟩
        · rw [← HFN.out]
          exact (H2.out.own.chg hst (fun k hk e => by have := (hol k hk).1; omega)).rs (fun _ => rfl)
        · have h1 := hol k hk; have h2 := hst.size; rw [← HBQ.out]; exact ⟨by omega, by omega⟩
        · rw [← HBQ.out]
          exact H2.out.bel.trans (hst.below (by omega) fun k e => by rw [e]; omega)
      | false =>
        rw [if_pos rfl] at hfin
        have HFN := Lib.hid hfin
        have hcl : C.length < 1000000 := by have := HQ.out.2.len; omega
        clear HQ hfin
        obtain ⟨a9, m9, c9, w8, hrun, hch, hnx⟩ := H2.out.app (x := f) hcl (ba (Below.refl _ _) _) (OB1.made w2 f)
        have HCH := Lib.hid hch
        have HP9 := Lib.hid (hnx w8 hch (Below.refl _ _))
        have HRA := Lib.hid hrun
        have y1 := H2.out.m5.cells.2.2
        obtain ⟨x0, x1, x2⟩ := H2.out.f3.cells
        have q1 : b1 < w2.heap.size := by have := H2.out.ds; omega
        have q3 := H2.out.m5.lt
        have n3 : ¬ OB vo b3 := H2.out.no (Nat.le_refl _)
        have y9 : w8.cell? ⟨b3, 2, none⟩ = some vo := (HCH.out.cell (b := b3) (by simp; omega) n3 2).trans (((ba (Below.refl _ _) _ : Below w2.heap.size w2 (w2.alloc _)).cell (p := ⟨b3, 2, none⟩) q3).trans y1)
        have y8 : w8.frozen? ⟨b3, 2, none⟩ = false := (HCH.out.frozen (b := b3) (by simp; omega) n3 2).trans ((World.frozen?_of_block (a := ⟨b3, 2, none⟩) ((ba (Below.refl _ _) _ : Below w2.heap.size w2 (w2.alloc _)).block b3 q3)).trans (H2.out.m5.fz 2))
        have q9 : b3 < w8.heap.size := by have := HCH.out.size; simp at this; omega
        have hm4 := (H2.out.m4.below (ba (Below.refl _ _) (.cells #[.int .i64 f.id, .slice f.ta f.tn f.tc, .slice f.fa f.fn f.fc] 38))).chg HCH.out (H2.out.no (by have := H2.out.ds; omega))
        have hm5 := (H2.out.m5.below (ba (Below.refl _ _) (.cells #[.int .i64 f.id, .slice f.ta f.tn f.tc, .slice f.fa f.fn f.fc] 38))).chg HCH.out (H2.out.no (Nat.le_refl _))
        obtain ⟨z0, zM, z1⟩ := H2.out.m2.cells
        have q0 := H2.out.m2.lt
        obtain ⟨s0, sM, s1⟩ := hm4.cells
        have s2 := hm4.fz 0; have s3 := hm4.fz 1; have s4 := hm4.fz 2
        have g2 := hm4.lt
        have y7 := hm5.cells.1
        have y7M := hm5.cells.2.1
        have hne : b2 ≠ b3 := by have := H2.out.ds; omega
        have hne' : b3 ≠ b2 := by have := H2.out.ds; omega
        clear hrun hch hnx
        go_wp2_with (at_builtin; refine wpList_app_run rfl _ _ _ rfl rfl rfl HRA.out ?_)
        refine bodyPost_ret (res_m Try.results62 rfl (HP9.out.m4.set2 cap (.slice a9 m9 c9))) rfl ?_
        have hst : Chg (fun k => k = b2) (w8.setCell ⟨b3, 2, none⟩ (.slice a9 m9 c9)) ((((w8.setCell ⟨b3, 2, none⟩ (.slice a9 m9 c9)).setCell ⟨b2, 0, none⟩ (.int .i64 cap.1)).setCell ⟨b2, 1, none⟩ (.int .i64 cap.2)).setCell ⟨b2, 2, none⟩ (.slice a9 m9 c9)) := (((Chg.refl (fun k => k = b2) (w8.setCell ⟨b3, 2, none⟩ (.slice a9 m9 c9))).setCell (p := ⟨b2, 0, none⟩) (.inl rfl) _).setCell (p := ⟨b2, 1, none⟩) (.inl rfl) _).setCell (p := ⟨b2, 2, none⟩) (.inl rfl) _
        have hd := HP9.out.ds
        have hol := HP9.out.own.lt
        refine ⟨_, rfl, ?_, fun k hk => ?_, ?_⟩
        · rw [← HFN.out]
          exact (HP9.out.own.chg hst (fun k hk e => by have := (hol k hk).1; omega)).rs (fun _ => rfl)
        · have h1 := hol k hk; have h2 := hst.size; rw [← HBQ.out]; exact ⟨by omega, by omega⟩
        · rw [← HBQ.out]
          exact HP9.out.bel.trans (hst.below (by omega) fun k e => by rw [e]; omega)
end
end
section
open Go.RowKit Go.Maps
attribute [local go_sem] ext_cell ext_frozen extC_cell extC_frozen Mix.calmUpon Mix.mUpon
theorem KS.set1 {w : World} {b : Nat} {a : Nat → Int} (h : KS w b a) {j : Nat} (hj : j < 4) (x : Int) : KS (w.setCell ⟨b, j, none⟩ (.int .i64 x)) b (fun i => if i = j then x else a i) := by
  obtain ⟨A, h⟩ := h
  refine ⟨A, (heap_setCell_at (.int .i64 x) h).trans ?_⟩
  have : j = 0 ∨ j = 1 ∨ j = 2 ∨ j = 3 := by omega
  rcases this with rfl | rfl | rfl | rfl <;> rfl
theorem KS.cell {w : World} {b : Nat} {a : Nat → Int} (h : KS w b a) {j : Nat} (hj : j < 4) : w.cell? ⟨b, j, none⟩ = some (.int .i64 (a j)) := by
  obtain ⟨h0, h1, h2, h3⟩ := h.cells
  have : j = 0 ∨ j = 1 ∨ j = 2 ∨ j = 3 := by omega
  rcases this with rfl | rfl | rfl | rfl
  · exact h0
  · exact h1
  · exact h2
  · exact h3
theorem KS.congr {w : World} {b : Nat} {a c : Nat → Int} (h : KS w b a) (he : ∀ j, j < 4 → a j = c j) : KS w b c := by
  obtain ⟨A, h⟩ := h
  refine ⟨A, ?_⟩
  rw [h]; unfold C4; rw [he 0 (by omega), he 1 (by omega), he 2 (by omega), he 3 (by omega)]
theorem KS.load4 {w : World} {b : Nat} {a : Nat → Int} (h : KS w b a) : (loadVar 44 ⟨b, 0, none⟩).run Try.prog w = .ok (S4 a) w := by
  obtain ⟨h0, h1, h2, h3⟩ := h.cells
  have hs := h.lt
  simp [go_sem, h0, h1, h2, h3, hs]
theorem res_a4 {w : World} {b : Nat} {a : Nat → Int} {fn : Func} {tmps : Array Value} {p : Nat} (h : fn.results = #[.cell p 44]) (hp : tmps.getD p undef = .pointer (some ⟨b, 0, none⟩)) (hb : KS w b a) :
    (results fn tmps).run Try.prog w = .ok (S4 a) w := by
  simp only [results, h]
  have hp' : tmps[p]?.getD undef = .pointer (some ⟨b, 0, none⟩) := by simpa [Array.getD_eq_getD_getElem?] using hp
  simp [Sem.run_bind, Result.andThen, hp', asAddr, hb.load4]
set_option maxRecDepth 100000 in
set_option maxHeartbeats 4000000 in
theorem rsumsV (v : Value) (l : List Pt) (h : VR l) (hne : l ≠ []) : PureOn (fun w => Vc w v l) Try.prog 61 #[v] (S4 (kS l)) := by
  intro W hV
  rcases hV with ⟨_, rfl⟩ | ⟨b, off, cap, rfl, h2, h3, h4, h5⟩
  · exact absurd rfl hne
  have hlen := vr_len h
  have HVC := Lib.hid (show Vc W (.slice (some ⟨b, off, none⟩) l.length cap) l from .inr ⟨b, off, cap, rfl, h2, h3, h4, h5⟩)
  have HP := Lib.hid h5
  have HV := Lib.hid ((vok_iff l).2 h)
  have HR := rright_v (.slice (some ⟨b, off, none⟩) l.length cap) l (by omega)
  rw [decide_eq_true h] at HR
  have HR := Lib.hid HR
  have HBW := Lib.hid h4
  obtain ⟨n, hn⟩ : ∃ n, n = l.length := ⟨_, rfl⟩
  have HN := Lib.hid hn
  have hb01 := ba (Below.refl W.heap.size W) (.cells (C4 Z4) 44)
  have hb12 := ba (Below.refl (W.alloc (.cells (C4 Z4) 44)).heap.size (W.alloc (.cells (C4 Z4) 44))) (.cells (C4 Z4) 44)
  have hk0 := (KS.made W Z4 44).below hb12
  have hk1 := KS.made (W.alloc (.cells (C4 Z4) 44)) Z4 44
  rw [show (W.alloc (.cells (C4 Z4) 44)).heap.size = W.heap.size + 1 by simp] at hk1
  have HK0 := Lib.hid hk0; have HK1 := Lib.hid hk1; have HB2 := Lib.hid (bt hb01 hb12)
  rw [← hn] at HR HVC HP HV hlen ⊢
  clear h h2 h3 h4 h5 hk0 hk1 hb01 hb12 hne hn
  go_enter Try.func61, Try.ntmps61
  go_wp2_with fail
  generalize (W.alloc (.cells (C4 Z4) 44)).alloc (.cells (C4 Z4) 44) = w0 at *
  obtain ⟨b0, hb0⟩ : ∃ b, b = W.heap.size := ⟨_, rfl⟩
  rw [← hb0] at HK0 HK1 HB2 HBW ⊢
  have HBQ := Lib.hid hb0
  clear hb0
  obtain ⟨b1, hb1⟩ : ∃ b, b = b0 + 1 := ⟨_, rfl⟩
  rw [← hb1] at HK1 ⊢
  have HB1 := Lib.hid hb1
  clear hb1
  refine (HR.out w0 (HVC.out.on (by rw [← HBQ.out]; exact HB2.out))).mono ?_
  rintro e w1 ⟨rfl, hb3⟩
  have HI := Lib.hid (show SU W w1 w1 b0 b1 (sm (kk l) (aa l) 0) from ⟨HB2.out.trans (hb3.mono (Nat.le_of_lt HK0.out.lt)), HK0.out.below hb3, (HK1.out.below hb3).congr fun j _ => rfl, Chg.refl _ _⟩)
  clear hb3
  go_wp2
  go_loopw [4] (fun iv wr => ∃ t : Nat, t ≤ n ∧ iv = .int .i64 t ∧ Hid (SU W w1 wr b0 b1 (sm (kk l) (aa l) t))) (fun iv _ => n - (intOf iv).toNat)
  case atStart => exact ⟨0, Nat.zero_le _, rfl, HI⟩
  case round =>
    clear HI
    obtain ⟨t, ht, rfl, HQ⟩ := hrel
    obtain ⟨w4, rfl⟩ : ∃ w4, w4 = wr := ⟨_, rfl⟩
    have hSU := HQ.out
    by_cases hlt : t < n
    · have hts : (t : Int) < (n : Int) := by omega
      obtain ⟨c0, c1, c2⟩ := HP.out t hlt
      have HBW4 := Lib.hid (show Below b0 W w4 from hSU.bel)
      replace c0 := (hSU.bel.cell (p := ⟨b, _, none⟩) HBW.out).trans c0
      replace c2 := (hSU.bel.cell (p := ⟨b, _, none⟩) HBW.out).trans c2
      have q0 : b < w4.heap.size := Nat.lt_trans HBW.out hSU.k0.lt
      obtain ⟨⟨k0, k1, _, _⟩, p1, p2⟩ := (HV.out t hlt).1
      obtain ⟨j, hj⟩ : ∃ j : Nat, kk l t = j := ⟨(kk l t).toNat, by omega⟩
      rw [hj] at c0 k1
      have hj4 : j < 4 := by omega
      have hjs : (j : Int) < 4 := by omega
      have e0 := hSU.k1.cell hj4
      have f0 := hSU.k1.fz j
      have e4 := hSU.k1.lt
      have bd1 := sm_bd HV.out j t ht
      have wr1 : IntKind.i64.wrap (sm (kk l) (aa l) t j + aa l t) = sm (kk l) (aa l) t j + aa l t := IntWalk.i64_in _ (by omega)
      have HNX := Lib.hid (show ∀ i, i < 4 → (if i = j then sm (kk l) (aa l) t j + aa l t else sm (kk l) (aa l) t i) = sm (kk l) (aa l) (t + 1) i from fun i _ => by
        show _ = if kk l t = i then sm (kk l) (aa l) t i + aa l t else sm (kk l) (aa l) t i
        rw [hj]
        by_cases hij : i = j
        · rw [if_pos hij, if_pos (by omega), hij]
        · rw [if_neg hij, if_neg (by omega)])
      clear hj bd1 k0 k1 hSU c1 p1 p2
      generalize sm (kk l) (aa l) t j = sj at *
      generalize aa l t = at_ at *
      have HJ := Lib.hid hj4
      go_wp2
      refine Mix.regionL (fun _ => False) (by kernel_rfl) ?_
      intro w5 hb5
      refine Mix.take_exL _ _ 0 rfl (by kernel_rfl) (by kernel_rfl) (by kernel_rfl) (by kernel_rfl) (by kernel_rfl) (by kernel_rfl) (fun K hK => ?_)
      go_simp
      first | (refine hK _ ?_; clear hK K) | (apply Exists.intro; refine ⟨fun x => ?_, hK _ ?_⟩; (fail); clear hK K)
      refine Mix.take_exL _ _ 1 rfl (by kernel_rfl) (by kernel_rfl) (by kernel_rfl) (by kernel_rfl) (by kernel_rfl) (by kernel_rfl) (fun K hK => ?_)
      go_simp
      first | (refine hK _ ?_; clear hK K) | (apply Exists.intro; refine ⟨fun x => ?_, hK _ ?_⟩; (fail); clear hK K)
      refine Mix.take_exL _ _ 2 rfl (by kernel_rfl) (by kernel_rfl) (by kernel_rfl) (by kernel_rfl) (by kernel_rfl) (by kernel_rfl) (fun K hK => ?_)
      go_simp
      first | (refine hK _ ?_; clear hK K) | (apply Exists.intro; refine ⟨fun x => ?_, hK _ ?_⟩; (fail); clear hK K)
      refine Mix.take_exL _ _ 3 rfl (by kernel_rfl) (by kernel_rfl) (by kernel_rfl) (by kernel_rfl) (by kernel_rfl) (by kernel_rfl) (fun K hK => ?_)
      go_simp
      first | (refine hK _ ?_; clear hK K) | (apply Exists.intro; refine ⟨fun x => ?_, hK _ ?_⟩; (fail); clear hK K)
      refine Mix.take_exL _ _ 4 rfl (by kernel_rfl) (by kernel_rfl) (by kernel_rfl) (by kernel_rfl) (by kernel_rfl) (by kernel_rfl) (fun K hK => ?_)
      go_simp
      first | (refine hK _ ?_; clear hK K) | (apply Exists.intro; refine ⟨fun x => ?_, hK _ ?_⟩; (fail); clear hK K)
      refine Mix.take_exL _ _ 5 rfl (by kernel_rfl) (by kernel_rfl) (by kernel_rfl) (by kernel_rfl) (by kernel_rfl) (by kernel_rfl) (fun K hK => ?_)
      go_simp
      first | (refine hK _ ?_; clear hK K) | (apply Exists.intro; refine ⟨fun x => ?_, hK _ ?_⟩; (fail); clear hK K)
      refine Mix.take_exL _ _ 6 rfl (by kernel_rfl) (by kernel_rfl) (by kernel_rfl) (by kernel_rfl) (by kernel_rfl) (by kernel_rfl) (fun K hK => ?_)
      go_simp
      first | (refine hK _ ?_; clear hK K) | (apply Exists.intro; refine ⟨fun x => ?_, hK _ ?_⟩; (fail); clear hK K)
      refine Mix.take_exL _ _ 7 rfl (by kernel_rfl) (by kernel_rfl) (by kernel_rfl) (by kernel_rfl) (by kernel_rfl) (by kernel_rfl) (fun K hK => ?_)
      go_simp
      first | (refine hK _ ?_; clear hK K) | (apply Exists.intro; refine ⟨fun x => ?_, hK _ ?_⟩; (fail); clear hK K)
      refine Mix.take_exL _ _ 8 rfl (by kernel_rfl) (by kernel_rfl) (by kernel_rfl) (by kernel_rfl) (by kernel_rfl) (by kernel_rfl) (fun K hK => ?_)
      go_simp
      first | (refine hK _ ?_; clear hK K) | (apply Exists.intro; refine ⟨fun x => ?_, hK _ ?_⟩; (fail); clear hK K)
      refine Mix.take_exL _ _ 9 rfl (by kernel_rfl) (by kernel_rfl) (by kernel_rfl) (by kernel_rfl) (by kernel_rfl) (by kernel_rfl) (fun K hK => ?_)
      go_simp
      first | (refine hK _ ?_; clear hK K) | (apply Exists.intro; refine ⟨fun x => ?_, hK _ ?_⟩; (fail); clear hK K)
      refine Mix.take_exL _ _ 10 rfl (by kernel_rfl) (by kernel_rfl) (by kernel_rfl) (by kernel_rfl) (by kernel_rfl) (by kernel_rfl) (fun K hK => ?_)
      go_simp
      first | (refine hK _ ?_; clear hK K) | (apply Exists.intro; refine ⟨fun x => ?_, hK _ ?_⟩; (fail); clear hK K)
      refine Mix.take_exL _ _ 11 rfl (by kernel_rfl) (by kernel_rfl) (by kernel_rfl) (by kernel_rfl) (by kernel_rfl) (by kernel_rfl) (fun K hK => ?_)
      go_simp
      first | (refine hK _ ?_; clear hK K) | (apply Exists.intro; refine ⟨fun x => ?_, hK _ ?_⟩; (fail); clear hK K)
      refine Mix.take_exL _ _ 12 rfl (by kernel_rfl) (by kernel_rfl) (by kernel_rfl) (by kernel_rfl) (by kernel_rfl) (by kernel_rfl) (fun K hK => ?_)
      go_simp
      first | (refine hK _ ?_; clear hK K) | (apply Exists.intro; refine ⟨fun x => ?_, hK _ ?_⟩; (fail); clear hK K)
      refine Mix.take_exL _ _ 13 rfl (by kernel_rfl) (by kernel_rfl) (by kernel_rfl) (by kernel_rfl) (by kernel_rfl) (by kernel_rfl) (fun K hK => ?_)
      go_simp
      first | (refine hK _ ?_; clear hK K) | (apply Exists.intro; refine ⟨fun x => ?_, hK _ ?_⟩; (fail); clear hK K)
      refine Mix.take_exL _ _ 14 rfl (by kernel_rfl) (by kernel_rfl) (by kernel_rfl) (by kernel_rfl) (by kernel_rfl) (by kernel_rfl) (fun K hK => ?_)
      go_simp
      first | (refine hK _ ?_; clear hK K) | (apply Exists.intro; refine ⟨fun x => ?_, hK _ ?_⟩; (fail); clear hK K)
      refine Mix.take_exL _ _ 15 rfl (by kernel_rfl) (by kernel_rfl) (by kernel_rfl) (by kernel_rfl) (by kernel_rfl) (by kernel_rfl) (fun K hK => ?_)
      go_simp
      first | (refine hK _ ?_; clear hK K) | (apply Exists.intro; refine ⟨fun x => ?_, hK _ ?_⟩; (fail); clear hK K)
      refine Mix.take_exL _ _ 16 rfl (by kernel_rfl) (by kernel_rfl) (by kernel_rfl) (by kernel_rfl) (by kernel_rfl) (by kernel_rfl) (fun K hK => ?_)
      go_simp
      first | (refine hK _ ?_; clear hK K) | (apply Exists.intro; refine ⟨fun x => ?_, hK _ ?_⟩; (fail); clear hK K)
      refine Mix.take_exL _ _ 17 rfl (by kernel_rfl) (by kernel_rfl) (by kernel_rfl) (by kernel_rfl) (by kernel_rfl) (by kernel_rfl) (fun K hK => ?_)
      go_simp
      first | (refine hK _ ?_; clear hK K) | (apply Exists.intro; refine ⟨fun x => ?_, hK _ ?_⟩; (fail); clear hK K)
      refine Mix.take_exL _ _ 18 rfl (by kernel_rfl) (by kernel_rfl) (by kernel_rfl) (by kernel_rfl) (by kernel_rfl) (by kernel_rfl) (fun K hK => ?_)
      go_simp
      first | (refine hK _ ?_; clear hK K) | (apply Exists.intro; refine ⟨fun x => ?_, hK _ ?_⟩; (fail); clear hK K)
      refine Mix.allL (rs := [19]) (by kernel_rfl) (by simp) (.of_below _ hb5) (by kernel_rfl) ?_
      intro i6 hi6 w6 hb6 hC6
      simp only [List.mem_cons, List.not_mem_nil, or_false] at hi6
      subst hi6
      have HB6 := Lib.hid (bt hb5 hb6)
      have h6 := HQ.out.on HB6.out
      have g0 := h6.k1.cell hj4
      have g1 := h6.k1.fz j
      have g2 := h6.k1.lt
      have H6 := Lib.hid h6
      clear hC6 hb5 hb6 h6 e0 f0 e4 c0 c2 q0
      refine Mix.op rfl (by kernel_rfl) ?_
      go_simp
      refine Mix.doneL (by kernel_rfl) (by kernel_rfl) ?_
      intro w7 hb7
      have HU7 := Lib.hid (show SU W w1 w7 b0 b1 (sm (kk l) (aa l) (t + 1)) from by
        have hc : Chg (fun k => k = b1) w6 (w6.setCell ⟨b1, j, none⟩ (.int .i64 (sj + at_))) := (Chg.refl (fun k => k = b1) w6).setCell (p := ⟨b1, j, none⟩) (.inl rfl) _
        have hs : SU W w1 (w6.setCell ⟨b1, j, none⟩ (.int .i64 (sj + at_))) b0 b1 (sm (kk l) (aa l) (t + 1)) := ⟨H6.out.bel.trans (hc.below (Nat.le_of_lt H6.out.k0.lt) fun k e => by rw [e]; have := HB1.out; omega), H6.out.k0.chg hc (by have := HB1.out; show ¬ b0 = b1; omega), (H6.out.k1.set1 HJ.out _).congr HNX.out, H6.out.ch.same hc⟩
        exact hs.on hb7)
      clear hb7 g0 g1 g2
      go_wp2
      go_roundw
      case rel => exact ⟨t + 1, by omega, by go_num, HU7⟩
      case measure => simp [intOf]; omega
    · obtain rfl : n = t := by omega
      obtain ⟨t0, t1, t2, t3⟩ := hSU.k1.cells
      have t4 := hSU.k1.lt
      obtain ⟨r0, r1, r2, r3⟩ := hSU.k0.cells
      have r4 := hSU.k0.lt
      have g0 := hSU.k0.fz 0; have g1 := hSU.k0.fz 1; have g2 := hSU.k0.fz 2; have g3 := hSU.k0.fz 3
      have HE := Lib.hid (show S4 (sm (kk l) (aa l) n) = S4 (kS l) from s4_congr fun j _ => by rw [HN.out]; exact sm_all l j)
      generalize sm (kk l) (aa l) n = T at *
      have HR0 := Lib.hid (hSU.k0.set4 T)
      have HB12 := Lib.hid (hSU.bel.trans ((ks_chg w4 b0 (.int .i64 (T 0)) (.int .i64 (T 1)) (.int .i64 (T 2)) (.int .i64 (T 3))).below (Nat.le_of_lt hSU.k0.lt) fun k e => by rw [e]; exact Nat.le_refl _))
      clear hSU
      go_wp2
      refine bodyPost_ret (res_a4 Try.results61 rfl HR0.out) rfl ?_
      exact ⟨by rw [HE.out], by rw [← HBQ.out]; exact HB12.out⟩
set_option maxRecDepth 100000 in
set_option maxHeartbeats 4000000 in
theorem rsumsE (a : Option Addr) (cap : Nat) (W : World) (hV : Vc W (.slice a 0 cap) []) : Calls Try.prog 61 #[.slice a 0 cap] W fun e w' => e = .returned (S4 (kS [])) ∧ Below W.heap.size W w' := by
  have HR := rright_v (.slice a 0 cap) [] (by decide)
  rw [decide_eq_true VR.nil] at HR
  have HR := Lib.hid HR
  have HVC := Lib.hid hV
  have hb01 := ba (Below.refl W.heap.size W) (.cells (C4 Z4) 44)
  have hb12 := ba (Below.refl (W.alloc (.cells (C4 Z4) 44)).heap.size (W.alloc (.cells (C4 Z4) 44))) (.cells (C4 Z4) 44)
  have hk0 := (KS.made W Z4 44).below hb12
  have hk1 := KS.made (W.alloc (.cells (C4 Z4) 44)) Z4 44
  rw [show (W.alloc (.cells (C4 Z4) 44)).heap.size = W.heap.size + 1 by simp] at hk1
  have HK0 := Lib.hid hk0; have HK1 := Lib.hid hk1; have HB2 := Lib.hid (bt hb01 hb12)
  clear hk0 hk1 hb01 hb12 hV
  go_enter Try.func61, Try.ntmps61
  go_wp2_with fail
  generalize (W.alloc (.cells (C4 Z4) 44)).alloc (.cells (C4 Z4) 44) = w0 at *
  obtain ⟨b0, hb0⟩ : ∃ b, b = W.heap.size := ⟨_, rfl⟩
  rw [← hb0] at HK0 HK1 HB2 ⊢
  have HBQ := Lib.hid hb0
  clear hb0
  obtain ⟨b1, hb1⟩ : ∃ b, b = b0 + 1 := ⟨_, rfl⟩
  rw [← hb1] at HK1 ⊢
  have HB1 := Lib.hid hb1
  clear hb1
  refine (HR.out w0 (HVC.out.on (by rw [← HBQ.out]; exact HB2.out))).mono ?_
  rintro e w1 ⟨rfl, hb3⟩
  have HI := Lib.hid (show SU W w1 w1 b0 b1 Z4 from ⟨HB2.out.trans (hb3.mono (Nat.le_of_lt HK0.out.lt)), HK0.out.below hb3, HK1.out.below hb3, Chg.refl _ _⟩)
  clear hb3
  go_wp2
  go_loopw [4] (fun iv wr => iv = .int .i64 0 ∧ Hid (SU W w1 wr b0 b1 Z4)) (fun _ _ => 0)
  case atStart => exact ⟨rfl, HI⟩
  case round =>
    clear HI
    obtain ⟨rfl, HQ⟩ := hrel
    obtain ⟨w4, rfl⟩ : ∃ w4, w4 = wr := ⟨_, rfl⟩
    have hSU := HQ.out
    obtain ⟨t0, t1, t2, t3⟩ := hSU.k1.cells
    have t4 := hSU.k1.lt
    obtain ⟨r0, r1, r2, r3⟩ := hSU.k0.cells
    have r4 := hSU.k0.lt
    have g0 := hSU.k0.fz 0; have g1 := hSU.k0.fz 1; have g2 := hSU.k0.fz 2; have g3 := hSU.k0.fz 3
    have HE := Lib.hid (show S4 Z4 = S4 (kS []) from rfl)
    have HR0 := Lib.hid (hSU.k0.set4 Z4)
    have HB12 := Lib.hid (hSU.bel.trans ((ks_chg w4 b0 (.int .i64 0) (.int .i64 0) (.int .i64 0) (.int .i64 0)).below (Nat.le_of_lt hSU.k0.lt) fun k e => by rw [e]; exact Nat.le_refl _))
    clear hSU
    go_wp2
    refine bodyPost_ret (res_a4 Try.results61 rfl HR0.out) rfl ?_
    exact ⟨by rw [← HE.out], by rw [← HBQ.out]; exact HB12.out⟩
theorem rsumsW (v : Value) (l : List Pt) (h : VR l) : PureOn (fun w => Vc w v l) Try.prog 61 #[v] (S4 (kS l)) := by
  intro W hV
  by_cases hl : l = []
  · subst hl
    obtain ⟨a, cap, rfl⟩ := hV.empty
    exact rsumsE a cap W hV
  · exact rsumsV v l h hl W hV
/-- What all have, up to some agent, is no more of a kind than what all have. -/
theorem tot_le {cap most : Int} {S : List Pa} (h : AIn cap most S) (n j : Nat) : 0 ≤ sumA totA (S.take n) j ∧ sumA totA (S.take n) j ≤ sumA totA S j := by
  have key : ∀ (n : Nat) (S : List Pa), (∀ x ∈ S, PaOk x) → 0 ≤ sumA totA (S.take n) j ∧ sumA totA (S.take n) j ≤ sumA totA S j := by
    intro n
    induction n with
    | zero => intro S hS; exact ⟨Int.le_refl _, sumA_nn (f := totA) j fun x hx => (hS x hx).vt⟩
    | succ n ih =>
      intro S hS
      cases S with
      | nil => exact ⟨Int.le_refl _, Int.le_refl _⟩
      | cons x t =>
        rw [List.take_succ_cons, sumA_cons, sumA_cons]
        have h1 := ih t fun y hy => hS y (List.mem_cons_of_mem _ hy)
        have h3 := kS_nn (hS x List.mem_cons_self).vt j
        have e2 : totA x = x.2.1 := rfl
        rw [e2]
        omega
  exact key n S h.ok
abbrev pickA (free : Bool) : Pa → List Pt := if free then freA else totA
theorem AIn.psok {cap most : Int} {S : List Pa} (h : AIn cap most S) (free : Bool) (n : Nat) : SOk (sumA (pickA free) (S.take n)) := by
  cases free with
  | true => exact h.fsok n
  | false =>
    exact sok_all fun j hj => by
      have h1 := tot_le h n j
      have h2 := h.ms j hj
      have h3 := h.m1.2
      show KOk (sumA totA (S.take n)) j
      unfold KOk
      omega
/-- The document's list can be read. -/
structure OL (w : World) (v : Value) (L : List Oa) : Prop where
  rs : RS 3 oaenc w v L
  vec : ∀ x ∈ L, Vc w (.slice x.ta x.tn x.tc) x.tps ∧ Vc w (.slice x.fa x.fn x.fc) x.fps
theorem OL.below {w w' : World} {v : Value} {L : List Oa} (h : OL w v L) (hb : Below w.heap.size w w') : OL w' v L := ⟨h.rs.below hb, fun x hx => ⟨(h.vec x hx).1.on hb, (h.vec x hx).2.on hb⟩⟩
theorem OL.al {w : World} {v : Value} {L : List Oa} (h : OL w v L) : AL w v (L.map Oa.q) ∧ (L.map Oa.q).map Qa.pl = L.map Oa.pl := by
  refine ⟨⟨?_, fun y hy => ?_⟩, by rw [List.map_map]; rfl⟩
  · obtain ⟨a, cap, h0, h1, h2, h3⟩ := h.rs
    refine ⟨a, cap, by rw [List.length_map]; exact h0, by rw [List.length_map]; exact h1, h2, fun hne => ?_⟩
    obtain ⟨b, off, e, hb, hc⟩ := h3 (fun e => hne (by rw [e]; rfl))
    refine ⟨b, off, e, hb, fun i hi j u hu => hc i (by simpa using hi) j u ?_⟩
    rw [List.getElem_map] at hu
    exact hu
  · obtain ⟨x, hx, rfl⟩ := List.mem_map.1 hy
    exact h.vec x hx
/-- Where adding up stands: b the list's block, b0 the answer's, b1 the total's. -/
structure SM (w w0 wr : World) (b b0 b1 : Nat) (T : Nat → Int) : Prop where
  bel : Below b w wr
  k0 : KS wr b0 Z4
  k1 : KS wr b1 T
  ch : Chg (fun k => k = b1) w0 wr
  ds : b < b0 ∧ b0 < b1
theorem SM.on {w w0 wr wr' : World} {b b0 b1 : Nat} {T : Nat → Int} (h : SM w w0 wr b b0 b1 T) (hb : Below wr.heap.size wr wr') : SM w w0 wr' b b0 b1 T :=
  ⟨h.bel.trans (hb.mono (by have := h.k0.lt; have := h.ds; omega)), h.k0.below hb, h.k1.below hb, h.ch.then_below hb, h.ds⟩
section
variable {w : World} {v : Value} {S : List Oa} {cap : Int × Int} {c m : Int}
set_option maxRecDepth 100000 in
set_option maxHeartbeats 8000000 in
theorem msum (h : OL w v S) (hin : AIn c m (S.map Oa.pl)) (free : Bool) : Calls Try.prog 21 #[mval cap v, .bool free] w fun e w' => e = .returned (S4 (sumA (pickA free) (S.map Oa.pl))) ∧ Below w.heap.size w w' := by
  obtain ⟨a, n, cp, rfl, hn, hc, hm, hat⟩ := h.rs.at_
  have hlm : n ≤ 9223372036854775807 := by unfold maxLen at hm; omega
  have HAT := Lib.hid hat
  have HN := Lib.hid hn
  have HV := Lib.hid h.vec
  have HIN := Lib.hid hin
  have e1 : (w.alloc (.cells #[.int .i64 cap.1, .int .i64 cap.2, .slice a n cp] 29)).heap.size = w.heap.size + 1 := by simp
  have e2 : ((w.alloc (.cells #[.int .i64 cap.1, .int .i64 cap.2, .slice a n cp] 29)).alloc (.cells (C4 Z4) 44)).heap.size = w.heap.size + 2 := by simp
  have hb1 := ba (Below.refl w.heap.size w) (.cells #[.int .i64 cap.1, .int .i64 cap.2, .slice a n cp] 29)
  have hb2 := ba hb1 (.cells (C4 Z4) 44)
  have hb3 := ba hb2 (.cells (C4 Z4) 44)
  have hm1 := ((MB.made w cap (.slice a n cp)).below (ba (Below.refl _ _) (.cells (C4 Z4) 44))).below (ba (Below.refl _ _) (.cells (C4 Z4) 44))
  have hk0 := (KS.made (w.alloc (.cells #[.int .i64 cap.1, .int .i64 cap.2, .slice a n cp] 29)) Z4 44).below (ba (Below.refl _ _) (.cells (C4 Z4) 44))
  have hk1 := KS.made ((w.alloc (.cells #[.int .i64 cap.1, .int .i64 cap.2, .slice a n cp] 29)).alloc (.cells (C4 Z4) 44)) Z4 44
  rw [e1] at hk0
  rw [e2] at hk1
  have HM1 := Lib.hid hm1; have HK0 := Lib.hid hk0; have HK1 := Lib.hid hk1; have HB3 := Lib.hid hb3
  clear hat h hn hin e1 e2 hb1 hb2 hb3 hm1 hk0 hk1 hm
  go_enter Try.func21, Try.ntmps21
  go_wp2
  generalize ((w.alloc (.cells #[.int .i64 cap.1, .int .i64 cap.2, .slice a n cp] 29)).alloc (.cells (C4 Z4) 44)).alloc (.cells (C4 Z4) 44) = w0 at *
  obtain ⟨b, hbq⟩ : ∃ b, b = w.heap.size := ⟨_, rfl⟩
  rw [← hbq] at HM1 HK0 HK1 HB3 ⊢
  obtain ⟨b0, hb0q⟩ : ∃ b0, b0 = b + 1 := ⟨_, rfl⟩
  obtain ⟨b1, hb1q⟩ : ∃ b1, b1 = b + 2 := ⟨_, rfl⟩
  rw [← hb0q] at HK0
  rw [← hb1q] at HK1
  have HBQ := Lib.hid hbq
  have HB1 := Lib.hid (show b1 = b0 + 1 ∧ b < b0 by omega)
  rw [← hb0q]
  rw [show b0 + 1 = b1 by omega]
  clear hbq hb0q hb1q
  have HI := Lib.hid (show SM w w0 w0 b b0 b1 (sumA (pickA free) ((S.map Oa.pl).take 0)) from ⟨HB3.out, HK0.out, HK1.out, Chg.refl _ _, by have := HB1.out; omega⟩)
  go_loopw [6] (fun iv wr => ∃ t : Nat, t ≤ n ∧ iv = .int .i64 t ∧ Hid (SM w w0 wr b b0 b1 (sumA (pickA free) ((S.map Oa.pl).take t)))) (fun iv _ => n - (intOf iv).toNat)
  case atStart => exact ⟨0, Nat.zero_le _, rfl, HI⟩
  case round =>
    clear HI
    obtain ⟨t, ht, rfl, HQ⟩ := hrel
    obtain ⟨w4, rfl⟩ : ∃ w4, w4 = wr := ⟨_, rfl⟩
    obtain ⟨T, hT⟩ : ∃ T, T = sumA (pickA free) ((S.map Oa.pl).take t) := ⟨_, rfl⟩
    rw [← hT] at HQ
    have HTQ := Lib.hid hT
    clear hT
    have hMB := HM1.out.chg HQ.out.ch (by have := HQ.out.ds; show ¬ b = b1; omega)
    obtain ⟨z0, zM, z1⟩ := hMB.cells
    have q0 := hMB.lt
    have nb : ¬ b = b1 := by have := HQ.out.ds; omega
    clear hMB
    by_cases hlt : t < n
    · have hts : (t : Int) < (n : Int) := by omega
      obtain ⟨x, hx⟩ := at_lt (l := S) (i := t) (by rw [← HN.out]; exact hlt)
      obtain ⟨bs, off, rfl, hbs, hcell⟩ := HAT.out t x hx
      have hbsb : bs < b := by have := HBQ.out; omega
      have d0 := (HQ.out.bel.cell (p := ⟨bs, _, none⟩) hbsb).trans (hcell 0 _ rfl)
      have d1 := (HQ.out.bel.cell (p := ⟨bs, _, none⟩) hbsb).trans (hcell 1 _ rfl)
      have d2 := (HQ.out.bel.cell (p := ⟨bs, _, none⟩) hbsb).trans (hcell 2 _ rfl)
      simp only [Nat.add_zero] at d0
      have nbs : ¬ bs = b1 := by have := HQ.out.ds; omega
      have qs : bs < w4.heap.size := by have := HQ.out.k0.lt; have := HQ.out.ds; omega
      have hSx : (S.map Oa.pl)[t]? = some x.pl := by rw [List.getElem?_map, hx]; rfl
      have hok := HIN.out.ok _ (List.mem_of_getElem? hSx)
      have hvec := HV.out x (mem_at hx)
      have hstep := fun j => sumA_take (f := pickA free) hSx j
      have HST0 := Lib.hid hstep
      have HSO := Lib.hid (show SOk T ∧ SOk (sumA (pickA free) ((S.map Oa.pl).take (t + 1))) from ⟨by rw [HTQ.out]; exact HIN.out.psok free t, HIN.out.psok free (t + 1)⟩)
      have HBW := Lib.hid (show Below w.heap.size w w4 from by rw [← HBQ.out]; exact HQ.out.bel)
      have HNB := Lib.hid (show ∀ k, k = b1 → w.heap.size ≤ k from fun k e => by have := HBQ.out; have := HQ.out.ds; omega)
      obtain ⟨xi, ta, tn, tc, tps, fa, fn, fc, fps⟩ := x
      cases free with
      | true =>
        have HXV := Lib.hid (show Vc w4 (.slice fa fn fc) fps ∧ VR fps from ⟨hvec.2.on HBW.out, hok.vf⟩)
        have HVK := Lib.hid (show VK (fun k => k = b1) (.slice fa fn fc) fps from (show Vc w (.slice fa fn fc) fps from hvec.2).old HNB.out)
        have HST := Lib.hid (show sumA (pickA true) ((S.map Oa.pl).take (t + 1)) = fun j => T j + kS fps j from funext fun j => by rw [HST0.out j, ← HTQ.out]; rfl)
        have HOK := Lib.hid (show SOk T ∧ SOk (fun j => T j + kS fps j) from ⟨HSO.out.1, by rw [← HST.out]; exact HSO.out.2⟩)
        clear hcell hx hbs hbsb hSx hok hvec hstep
        simp only at d0 d1 d2
        have HOF := Lib.hid fun x : ExtC w4 (fun b => b = b1) => rsumsW (.slice fa fn fc) fps HXV.out.2 _ (HXV.out.1.keep (extC_chg w4 _ x) HVK.out)
        have hadd := refadd_both T (kS fps) true HOK.out.1 (kS_ok HXV.out.2) (decide_eq_true HOK.out.2)
        simp only [if_true] at hadd
        have HAD := Lib.hid hadd
        clear hadd
        go_wp2
        refine Mix.regionC (fun b => b = b1) (by kernel_rfl) ?_
        intro w6 hb6
        refine Mix.take_exC _ _ 1 rfl (by kernel_rfl) (by kernel_rfl) (by kernel_rfl) (by kernel_rfl) (fun K hK => ?_)
        go_simp
        first | (refine hK _ ?_; clear hK K) | (apply Exists.intro; refine ⟨fun x => ?_, hK _ ?_⟩; (fail); clear hK K)
        refine Mix.take_exC _ _ 2 rfl (by kernel_rfl) (by kernel_rfl) (by kernel_rfl) (by kernel_rfl) (fun K hK => ?_)
        go_simp
        first | (refine hK _ ?_; clear hK K) | (apply Exists.intro; refine ⟨fun x => ?_, hK _ ?_⟩; (fail); clear hK K)
        refine Mix.take_exC _ _ 3 rfl (by kernel_rfl) (by kernel_rfl) (by kernel_rfl) (by kernel_rfl) (fun K hK => ?_)
        go_simp
        first | (refine hK _ ?_; clear hK K) | (apply Exists.intro; refine ⟨fun x => ?_, hK _ ?_⟩; (fail); clear hK K)
        refine Mix.take_exC _ _ 4 rfl (by kernel_rfl) (by kernel_rfl) (by kernel_rfl) (by kernel_rfl) (fun K hK => ?_)
        go_simp
        first | (refine hK _ ?_; clear hK K) | (apply Exists.intro; refine ⟨fun x => ?_, hK _ ?_⟩; (fail); clear hK K)
        refine Mix.take_exC _ _ 5 rfl (by kernel_rfl) (by kernel_rfl) (by kernel_rfl) (by kernel_rfl) (fun K hK => ?_)
        go_simp
        first | (refine hK _ ?_; clear hK K) | (apply Exists.intro; refine ⟨fun x => ?_, hK _ ?_⟩; (fail); clear hK K)
        refine Mix.take_exC _ _ 6 rfl (by kernel_rfl) (by kernel_rfl) (by kernel_rfl) (by kernel_rfl) (fun K hK => ?_)
        go_simp
        first | (refine hK _ ?_; clear hK K) | (apply Exists.intro; refine ⟨fun x => ?_, hK _ ?_⟩; (fail); clear hK K)
        refine Mix.take_exC _ _ 7 rfl (by kernel_rfl) (by kernel_rfl) (by kernel_rfl) (by kernel_rfl) (fun K hK => ?_)
        go_simp
        first | (refine hK _ ?_; clear hK K) | (apply Exists.intro; refine ⟨fun x => ?_, hK _ ?_⟩; (exact HOF.out x); clear hK K)
        refine Mix.all (rs := [0]) (by kernel_rfl) (by simp) (.of_below _ hb6) ?_
        intro i7 hi7 w7 hb7 hC7
        simp only [List.mem_cons, List.not_mem_nil, or_false] at hi7
        subst hi7
        have HB7 := Lib.hid (bt hb6 hb7)
        clear hC7 hb6 hb7 z0 zM z1 q0 d0 d1 d2 qs nb nbs
        have hU7 := HQ.out.on HB7.out
        obtain ⟨t0, t1, t2, t3⟩ := hU7.k1.cells
        have t4 := hU7.k1.lt
        clear hU7
        refine Mix.op rfl (by kernel_rfl) ?_
        go_simp
        clear t0 t1 t2 t3 t4
        refine Mix.take_exC _ _ 8 rfl (by kernel_rfl) (by kernel_rfl) (by kernel_rfl) (by kernel_rfl) (fun K hK => ?_)
        go_simp
        first | (refine hK _ ?_; clear hK K) | (apply Exists.intro; refine ⟨fun x => ?_, hK _ ?_⟩; (exact HAD.out _); clear hK K)
        refine Mix.take_exC _ _ 9 rfl (by kernel_rfl) (by kernel_rfl) (by kernel_rfl) (by kernel_rfl) (fun K hK => ?_)
        go_simp
        first | (refine hK _ ?_; clear hK K) | (apply Exists.intro; refine ⟨fun x => ?_, hK _ ?_⟩; (fail); clear hK K)
        refine Mix.take_exC _ _ 10 rfl (by kernel_rfl) (by kernel_rfl) (by kernel_rfl) (by kernel_rfl) (fun K hK => ?_)
        go_simp
        first | (refine hK _ ?_; clear hK K) | (apply Exists.intro; refine ⟨fun x => ?_, hK _ ?_⟩; (fail); clear hK K)
        refine Mix.take_exC _ _ 11 rfl (by kernel_rfl) (by kernel_rfl) (by kernel_rfl) (by kernel_rfl) (fun K hK => ?_)
        go_simp
        first | (refine hK _ ?_; clear hK K) | (apply Exists.intro; refine ⟨fun x => ?_, hK _ ?_⟩; (fail); clear hK K)
        refine Mix.all (rs := [12]) (by kernel_rfl) (by simp) (.of_below _ HB7.out) ?_
        intro i8 hi8 w8 hb8 hC8
        simp only [List.mem_cons, List.not_mem_nil, or_false] at hi8
        subst hi8
        have HB8 := Lib.hid (bt HB7.out hb8)
        clear hC8 hb8
        have hU7 := HQ.out.on HB8.out
        obtain ⟨t0, t1, t2, t3⟩ := hU7.k1.cells
        have t4 := hU7.k1.lt
        have u0 := hU7.k1.fz 0; have u1 := hU7.k1.fz 1; have u2 := hU7.k1.fz 2; have u3 := hU7.k1.fz 3
        have HCx := Lib.hid (ks_chg w8 b1 (.int .i64 (T 0 + kS fps 0)) (.int .i64 (T 1 + kS fps 1)) (.int .i64 (T 2 + kS fps 2)) (.int .i64 (T 3 + kS fps 3)))
        have HU8 := Lib.hid (show SM w w0 _ b b0 b1 (fun k => T k + kS fps k) from ⟨hU7.bel.trans (HCx.out.below (by have := hU7.k0.lt; have := hU7.ds; omega) fun k e => by rw [e]; have := hU7.ds; omega), hU7.k0.chg HCx.out (by have := hU7.ds; show ¬ b0 = b1; omega), hU7.k1.set4 (fun k => T k + kS fps k), hU7.ch.same HCx.out, hU7.ds⟩)
        clear hU7
        refine Mix.op rfl (by kernel_rfl) ?_
        go_simp
        clear t0 t1 t2 t3 t4 u0 u1 u2 u3
        refine Mix.done (by kernel_rfl) ((Chg.of_below _ HB8.out).same HCx.out) ?_
        intro w9 hb9
        have HU9 := Lib.hid (show SM w w0 w9 b b0 b1 (sumA (pickA true) ((S.map Oa.pl).take (t + 1))) from by rw [HST.out]; exact HU8.out.on hb9)
        clear hb9
        go_wp2
        go_roundw
        case rel => exact ⟨t + 1, by omega, by go_num, HU9⟩
        case measure => simp [intOf]; omega
      | false =>
        have HXV := Lib.hid (show Vc w4 (.slice ta tn tc) tps ∧ VR tps from ⟨hvec.1.on HBW.out, hok.vt⟩)
        have HVK := Lib.hid (show VK (fun k => k = b1) (.slice ta tn tc) tps from (show Vc w (.slice ta tn tc) tps from hvec.1).old HNB.out)
        have HST := Lib.hid (show sumA (pickA false) ((S.map Oa.pl).take (t + 1)) = fun j => T j + kS tps j from funext fun j => by rw [HST0.out j, ← HTQ.out]; rfl)
        have HOK := Lib.hid (show SOk T ∧ SOk (fun j => T j + kS tps j) from ⟨HSO.out.1, by rw [← HST.out]; exact HSO.out.2⟩)
        clear hcell hx hbs hbsb hSx hok hvec hstep
        simp only at d0 d1 d2
        have HOF := Lib.hid fun x : ExtC w4 (fun b => b = b1) => rsumsW (.slice ta tn tc) tps HXV.out.2 _ (HXV.out.1.keep (extC_chg w4 _ x) HVK.out)
        have hadd := refadd_both T (kS tps) true HOK.out.1 (kS_ok HXV.out.2) (decide_eq_true HOK.out.2)
        simp only [if_true] at hadd
        have HAD := Lib.hid hadd
        clear hadd
        go_wp2
        refine Mix.regionC (fun b => b = b1) (by kernel_rfl) ?_
        intro w6 hb6
        refine Mix.take_exC _ _ 1 rfl (by kernel_rfl) (by kernel_rfl) (by kernel_rfl) (by kernel_rfl) (fun K hK => ?_)
        go_simp
        first | (refine hK _ ?_; clear hK K) | (apply Exists.intro; refine ⟨fun x => ?_, hK _ ?_⟩; (fail); clear hK K)
        refine Mix.take_exC _ _ 2 rfl (by kernel_rfl) (by kernel_rfl) (by kernel_rfl) (by kernel_rfl) (fun K hK => ?_)
        go_simp
        first | (refine hK _ ?_; clear hK K) | (apply Exists.intro; refine ⟨fun x => ?_, hK _ ?_⟩; (fail); clear hK K)
        refine Mix.take_exC _ _ 3 rfl (by kernel_rfl) (by kernel_rfl) (by kernel_rfl) (by kernel_rfl) (fun K hK => ?_)
        go_simp
        first | (refine hK _ ?_; clear hK K) | (apply Exists.intro; refine ⟨fun x => ?_, hK _ ?_⟩; (fail); clear hK K)
        refine Mix.take_exC _ _ 4 rfl (by kernel_rfl) (by kernel_rfl) (by kernel_rfl) (by kernel_rfl) (fun K hK => ?_)
        go_simp
        first | (refine hK _ ?_; clear hK K) | (apply Exists.intro; refine ⟨fun x => ?_, hK _ ?_⟩; (fail); clear hK K)
        refine Mix.take_exC _ _ 5 rfl (by kernel_rfl) (by kernel_rfl) (by kernel_rfl) (by kernel_rfl) (fun K hK => ?_)
        go_simp
        first | (refine hK _ ?_; clear hK K) | (apply Exists.intro; refine ⟨fun x => ?_, hK _ ?_⟩; (fail); clear hK K)
        refine Mix.take_exC _ _ 6 rfl (by kernel_rfl) (by kernel_rfl) (by kernel_rfl) (by kernel_rfl) (fun K hK => ?_)
        go_simp
        first | (refine hK _ ?_; clear hK K) | (apply Exists.intro; refine ⟨fun x => ?_, hK _ ?_⟩; (fail); clear hK K)
        refine Mix.take_exC _ _ 7 rfl (by kernel_rfl) (by kernel_rfl) (by kernel_rfl) (by kernel_rfl) (fun K hK => ?_)
        go_simp
        first | (refine hK _ ?_; clear hK K) | (apply Exists.intro; refine ⟨fun x => ?_, hK _ ?_⟩; (exact HOF.out x); clear hK K)
        refine Mix.all (rs := [0]) (by kernel_rfl) (by simp) (.of_below _ hb6) ?_
        intro i7 hi7 w7 hb7 hC7
        simp only [List.mem_cons, List.not_mem_nil, or_false] at hi7
        subst hi7
        have HB7 := Lib.hid (bt hb6 hb7)
        clear hC7 hb6 hb7 z0 zM z1 q0 d0 d1 d2 qs nb nbs
        have hU7 := HQ.out.on HB7.out
        obtain ⟨t0, t1, t2, t3⟩ := hU7.k1.cells
        have t4 := hU7.k1.lt
        clear hU7
        refine Mix.op rfl (by kernel_rfl) ?_
        go_simp
        clear t0 t1 t2 t3 t4
        refine Mix.take_exC _ _ 8 rfl (by kernel_rfl) (by kernel_rfl) (by kernel_rfl) (by kernel_rfl) (fun K hK => ?_)
        go_simp
        first | (refine hK _ ?_; clear hK K) | (apply Exists.intro; refine ⟨fun x => ?_, hK _ ?_⟩; (exact HAD.out _); clear hK K)
        refine Mix.take_exC _ _ 9 rfl (by kernel_rfl) (by kernel_rfl) (by kernel_rfl) (by kernel_rfl) (fun K hK => ?_)
        go_simp
        first | (refine hK _ ?_; clear hK K) | (apply Exists.intro; refine ⟨fun x => ?_, hK _ ?_⟩; (fail); clear hK K)
        refine Mix.take_exC _ _ 10 rfl (by kernel_rfl) (by kernel_rfl) (by kernel_rfl) (by kernel_rfl) (fun K hK => ?_)
        go_simp
        first | (refine hK _ ?_; clear hK K) | (apply Exists.intro; refine ⟨fun x => ?_, hK _ ?_⟩; (fail); clear hK K)
        refine Mix.take_exC _ _ 11 rfl (by kernel_rfl) (by kernel_rfl) (by kernel_rfl) (by kernel_rfl) (fun K hK => ?_)
        go_simp
        first | (refine hK _ ?_; clear hK K) | (apply Exists.intro; refine ⟨fun x => ?_, hK _ ?_⟩; (fail); clear hK K)
        refine Mix.all (rs := [12]) (by kernel_rfl) (by simp) (.of_below _ HB7.out) ?_
        intro i8 hi8 w8 hb8 hC8
        simp only [List.mem_cons, List.not_mem_nil, or_false] at hi8
        subst hi8
        have HB8 := Lib.hid (bt HB7.out hb8)
        clear hC8 hb8
        have hU7 := HQ.out.on HB8.out
        obtain ⟨t0, t1, t2, t3⟩ := hU7.k1.cells
        have t4 := hU7.k1.lt
        have u0 := hU7.k1.fz 0; have u1 := hU7.k1.fz 1; have u2 := hU7.k1.fz 2; have u3 := hU7.k1.fz 3
        have HCx := Lib.hid (ks_chg w8 b1 (.int .i64 (T 0 + kS tps 0)) (.int .i64 (T 1 + kS tps 1)) (.int .i64 (T 2 + kS tps 2)) (.int .i64 (T 3 + kS tps 3)))
        have HU8 := Lib.hid (show SM w w0 _ b b0 b1 (fun k => T k + kS tps k) from ⟨hU7.bel.trans (HCx.out.below (by have := hU7.k0.lt; have := hU7.ds; omega) fun k e => by rw [e]; have := hU7.ds; omega), hU7.k0.chg HCx.out (by have := hU7.ds; show ¬ b0 = b1; omega), hU7.k1.set4 (fun k => T k + kS tps k), hU7.ch.same HCx.out, hU7.ds⟩)
        clear hU7
        refine Mix.op rfl (by kernel_rfl) ?_
        go_simp
        clear t0 t1 t2 t3 t4 u0 u1 u2 u3
        refine Mix.done (by kernel_rfl) ((Chg.of_below _ HB8.out).same HCx.out) ?_
        intro w9 hb9
        have HU9 := Lib.hid (show SM w w0 w9 b b0 b1 (sumA (pickA false) ((S.map Oa.pl).take (t + 1))) from by rw [HST.out]; exact HU8.out.on hb9)
        clear hb9
        go_wp2
        go_roundw
        case rel => exact ⟨t + 1, by omega, by go_num, HU9⟩
        case measure => simp [intOf]; omega
    · obtain rfl : n = t := by omega
      have HF := Lib.hid (show T = sumA (pickA free) (S.map Oa.pl) from by
        rw [HTQ.out, List.take_of_length_le]
        rw [HN.out, List.length_map]; exact Nat.le_refl _)
      obtain ⟨t0, t1, t2, t3⟩ := HQ.out.k1.cells
      have t4 := HQ.out.k1.lt
      obtain ⟨r0, r1, r2, r3⟩ := HQ.out.k0.cells
      have r4 := HQ.out.k0.lt
      have g0 := HQ.out.k0.fz 0; have g1 := HQ.out.k0.fz 1; have g2 := HQ.out.k0.fz 2; have g3 := HQ.out.k0.fz 3
      have HR0 := Lib.hid (HQ.out.k0.set4 T)
      have HB12 := Lib.hid (HQ.out.bel.trans ((ks_chg w4 b0 (.int .i64 (T 0)) (.int .i64 (T 1)) (.int .i64 (T 2)) (.int .i64 (T 3))).below (by have := HQ.out.ds; have := HQ.out.k0.lt; omega) fun k e => by have e : k = b0 := e; have := HQ.out.ds; omega))
      go_wp2
      refine bodyPost_ret (res_a4 Try.results21 rfl HR0.out) rfl ?_
      exact ⟨by rw [← HF.out], by rw [← HBQ.out]; exact HB12.out⟩
end
end
section
open Go.RowKit Go.Maps
attribute [local go_sem] ext_cell ext_frozen extC_cell extC_frozen Mix.calmUpon Mix.mUpon
/-- The blocks of the document's list and of its vectors are none of G. -/
structure OD (G : Nat → Prop) (v : Value) (L : List Oa) : Prop where
  own : L = [] ∨ ∀ b, v.ownBlock = some b → ¬ G b
  vec : ∀ x ∈ L, VK G (.slice x.ta x.tn x.tc) x.tps ∧ VK G (.slice x.fa x.fn x.fc) x.fps
theorem rs_keep {α : Type} {k : Nat} {enc : α → List Value} {G : Nat → Prop} {w w' : World} {v : Value} {l : List α} (h : RS k enc w v l) (hc : Chg G w w') (hd : l = [] ∨ ∀ b, v.ownBlock = some b → ¬ G b) : RS k enc w' v l := by
  rcases hd with rfl | hd
  · obtain ⟨a, cap, rfl, h1, h2, _⟩ := h
    exact ⟨a, cap, rfl, h1, h2, fun hn => absurd rfl hn⟩
  · exact h.chg hc hd
theorem OL.keep {G : Nat → Prop} {w w' : World} {v : Value} {L : List Oa} (h : OL w v L) (hc : Chg G w w') (hd : OD G v L) : OL w' v L :=
  ⟨rs_keep h.rs hc hd.own, fun x hx => ⟨(h.vec x hx).1.keep hc (hd.vec x hx).1, (h.vec x hx).2.keep hc (hd.vec x hx).2⟩⟩
/-- Blocks that are newer than all of it. -/
theorem OL.old {G : Nat → Prop} {w : World} {v : Value} {L : List Oa} (h : OL w v L) (hG : ∀ k, G k → w.heap.size ≤ k) : OD G v L := by
  refine ⟨?_, fun x hx => ⟨(h.vec x hx).1.old hG, (h.vec x hx).2.old hG⟩⟩
  by_cases hl : L = []
  · exact .inl hl
  · obtain ⟨a, cap, rfl, h1, h2, h3⟩ := h.rs
    obtain ⟨b, off, rfl, hb, -⟩ := h3 hl
    exact .inr fun b' e hg => by cases e; have := hG _ hg; simp only at this; omega
theorem OD.mono {F G : Nat → Prop} {v : Value} {L : List Oa} (h : OD F v L) (hg : ∀ k, G k → F k) : OD G v L :=
  ⟨h.own.imp id fun h b hb hf => h b hb (hg _ hf), fun x hx => ⟨(h.vec x hx).1.mono hg, (h.vec x hx).2.mono hg⟩⟩
theorem results_cell2 {fn : Func} {p u r : Tmp} {ty : TypeId} (h : fn.results = #[.cell p ty, .tmp u, .tmp r]) (tmps : Array Value) (P : Program) (w : World) :
    (results fn tmps).run P w =
      ((asAddr (tmps.getD p undef)).run P w).andThen fun a w₁ => ((loadVar ty a).run P w₁).andThen fun v w₂ => .ok (.tuple #[v, tmps.getD u undef, tmps.getD r undef]) w₂ := by
  simp only [results, h]
  simp [Sem.run_bind, Result.andThen]
theorem res_mbe {fn : Func} {tmps : Array Value} {w : World} {p u r b : Nat} {cap : Int × Int} {v : Value} (h : fn.results = #[.cell p 29, .tmp u, .tmp r]) (hp : tmps.getD p undef = .pointer (some ⟨b, 0, none⟩)) (hb : MB w b cap v) :
    (results fn tmps).run Try.prog w = .ok (.tuple #[mval cap v, tmps.getD u undef, tmps.getD r undef]) w := by
  rw [results_cell2 h, hp]
  simp [asAddr, Result.andThen, hb.load]
theorem mb_chg (w : World) (b : Nat) (u0 u1 u2 : Value) : Chg (fun k => k = b) w (((w.setCell ⟨b, 0, none⟩ u0).setCell ⟨b, 1, none⟩ u1).setCell ⟨b, 2, none⟩ u2) :=
  (((Chg.refl (fun k => k = b) w).setCell (p := ⟨b, 0, none⟩) (.inl rfl) _).setCell (p := ⟨b, 1, none⟩) (.inl rfl) _).setCell (p := ⟨b, 2, none⟩) (.inl rfl) _
/-- What a call of the document's answers: a list that stays where old blocks are turned that neither the old list nor the act's vectors have. -/
def RetD (w : World) (cap : Int × Int) (v : Value) (L : List Oa) (av : Value) (avs : List Pt) (au : Value) (aus : List Pt) (P' : List Pa) (B : Bool) (E : Int) (e : Ending) (w' : World) : Prop :=
  ∃ v' L', e = .returned (.tuple #[mval cap v', .bool B, .int .i64 E]) ∧ OL w' v' L' ∧ L'.map Oa.pl = P' ∧ SO L' ∧ (∀ G : Nat → Prop, (∀ k, G k → k < w.heap.size) → OD G v L → VK G av avs → VK G au aus → OD G v' L') ∧ Below w.heap.size w w'
section
variable {w : World} {a : Option Addr} {n cp : Nat} {S : List Oa} {cap : Int × Int} {ak ai : Int} {va ua : Option Addr} {vn vc un uc : Nat} {avs aus : List Pt}
theorem RetD.same (h : OL w (.slice a n cp) S) (hS : SO S) {av au : Value} {w' : World} (hb : Below w.heap.size w w') {e : Ending} {B : Bool} {E : Int} (he : e = .returned (.tuple #[mval cap (.slice a n cp), .bool B, .int .i64 E])) {P' : List Pa} (hP : S.map Oa.pl = P') : RetD w cap (.slice a n cp) S av avs au aus P' B E e w' :=
  ⟨_, S, he, h.below hb, hP, hS, fun G _ hd _ _ => hd, hb⟩
set_option maxRecDepth 100000 in
set_option maxHeartbeats 4000000 in
theorem mreg_arg (h : OL w (.slice a n cp) S) (hS : SO S) (hv : Vc w (.slice va vn vc) avs) (hvn : vn = avs.length) (hvl : avs.length < 1000000000) (hu : Vc w (.slice ua un uc) aus) (hno : ¬ regOk ai avs) :
    Calls Try.prog 56 #[mval cap (.slice a n cp), .agg #[.int .i64 ak, .int .i64 ai, .slice va vn vc, .slice ua un uc]] w (RetD w cap (.slice a n cp) S (.slice va vn vc) avs (.slice ua un uc) aus (S.map Oa.pl) false 41) := by
  have HVN := Lib.hid hvn; have HNO := Lib.hid hno; have HVL := Lib.hid hvl
  clear hvn hno hvl
  by_cases k1 : ai < 1
  · have hq0 : decide (ai < 1) = true := decide_eq_true k1
    have e1 : (w.alloc (.cells #[.int .i64 cap.1, .int .i64 cap.2, .slice a n cp] 29)).heap.size = w.heap.size + 1 := by simp
    have e2 : ((w.alloc (.cells #[.int .i64 cap.1, .int .i64 cap.2, .slice a n cp] 29)).alloc (.cells #[.int .i64 ak, .int .i64 ai, .slice va vn vc, .slice ua un uc] 34)).heap.size = w.heap.size + 2 := by simp
    have hb1 := ba (Below.refl w.heap.size w) (.cells #[.int .i64 cap.1, .int .i64 cap.2, .slice a n cp] 29)
    have hb2 := ba hb1 (.cells #[.int .i64 ak, .int .i64 ai, .slice va vn vc, .slice ua un uc] 34)
    have hb3 := ba hb2 (.cells #[.int .i64 0, .int .i64 0, .slice none 0 0] 29)
    have hm1 := ((MB.made w cap (.slice a n cp)).below (ba (Below.refl _ _) (.cells #[.int .i64 ak, .int .i64 ai, .slice va vn vc, .slice ua un uc] 34))).below (ba (Below.refl _ _) (.cells #[.int .i64 0, .int .i64 0, .slice none 0 0] 29))
    have hba : BA (w.alloc (.cells #[.int .i64 cap.1, .int .i64 cap.2, .slice a n cp] 29) |>.alloc (.cells #[.int .i64 ak, .int .i64 ai, .slice va vn vc, .slice ua un uc] 34)) (w.alloc (.cells #[.int .i64 cap.1, .int .i64 cap.2, .slice a n cp] 29)).heap.size ⟨ak, ai, .slice va vn vc, avs, .slice ua un uc, aus⟩ := heap_alloc_new _ _
    have hm2 : BA _ _ _ := ((ba (Below.refl _ _) (.cells #[.int .i64 0, .int .i64 0, .slice none 0 0] 29)).block _ hba.lt).trans hba
    have hm3 := MB.made ((w.alloc (.cells #[.int .i64 cap.1, .int .i64 cap.2, .slice a n cp] 29)).alloc (.cells #[.int .i64 ak, .int .i64 ai, .slice va vn vc, .slice ua un uc] 34)) (0, 0) (.slice none 0 0)
    rw [e1] at hm2
    rw [e2] at hm3
    have HM1 := Lib.hid hm1; have HM2 := Lib.hid hm2; have HM3 := Lib.hid hm3; have HB3 := Lib.hid hb3
    have HL := Lib.hid h; have HSO := Lib.hid hS; have HVV := Lib.hid hv; have HUU := Lib.hid hu
    clear h hS hv hu e1 e2 hb1 hb2 hb3 hm1 hba hm2 hm3
    go_enter Try.func56, Try.ntmps56
    obtain ⟨x0, x1, x2, x3⟩ := HM2.out.cells
    simp only at x0 x1 x2 x3
    have x4 := HM2.out.lt
    go_wp2
    have hmx := MB.made ((w.alloc (.cells #[.int .i64 cap.1, .int .i64 cap.2, .slice a n cp] 29)).alloc (.cells #[.int .i64 ak, .int .i64 ai, .slice va vn vc, .slice ua un uc] 34)) cap (.slice a n cp)
    rw [show ((w.alloc (.cells #[.int .i64 cap.1, .int .i64 cap.2, .slice a n cp] 29)).alloc (.cells #[.int .i64 ak, .int .i64 ai, .slice va vn vc, .slice ua un uc] 34)).heap.size = w.heap.size + 1 + 1 by simp] at hmx
    refine bodyPost_ret (res_mbe Try.results56 rfl hmx) rfl ?_
    exact RetD.same HL.out HSO.out (ba (ba (ba (Below.refl _ _) _) _) _) rfl rfl
  have hq0 : decide (ai < 1) = false := decide_eq_false k1
  by_cases k2 : vn = 0
  · have hq1 : ((vn : Int) == 0) = true := by simp [k2]
    clear k2
    have e1 : (w.alloc (.cells #[.int .i64 cap.1, .int .i64 cap.2, .slice a n cp] 29)).heap.size = w.heap.size + 1 := by simp
    have e2 : ((w.alloc (.cells #[.int .i64 cap.1, .int .i64 cap.2, .slice a n cp] 29)).alloc (.cells #[.int .i64 ak, .int .i64 ai, .slice va vn vc, .slice ua un uc] 34)).heap.size = w.heap.size + 2 := by simp
    have hb1 := ba (Below.refl w.heap.size w) (.cells #[.int .i64 cap.1, .int .i64 cap.2, .slice a n cp] 29)
    have hb2 := ba hb1 (.cells #[.int .i64 ak, .int .i64 ai, .slice va vn vc, .slice ua un uc] 34)
    have hb3 := ba hb2 (.cells #[.int .i64 0, .int .i64 0, .slice none 0 0] 29)
    have hm1 := ((MB.made w cap (.slice a n cp)).below (ba (Below.refl _ _) (.cells #[.int .i64 ak, .int .i64 ai, .slice va vn vc, .slice ua un uc] 34))).below (ba (Below.refl _ _) (.cells #[.int .i64 0, .int .i64 0, .slice none 0 0] 29))
    have hba : BA (w.alloc (.cells #[.int .i64 cap.1, .int .i64 cap.2, .slice a n cp] 29) |>.alloc (.cells #[.int .i64 ak, .int .i64 ai, .slice va vn vc, .slice ua un uc] 34)) (w.alloc (.cells #[.int .i64 cap.1, .int .i64 cap.2, .slice a n cp] 29)).heap.size ⟨ak, ai, .slice va vn vc, avs, .slice ua un uc, aus⟩ := heap_alloc_new _ _
    have hm2 : BA _ _ _ := ((ba (Below.refl _ _) (.cells #[.int .i64 0, .int .i64 0, .slice none 0 0] 29)).block _ hba.lt).trans hba
    have hm3 := MB.made ((w.alloc (.cells #[.int .i64 cap.1, .int .i64 cap.2, .slice a n cp] 29)).alloc (.cells #[.int .i64 ak, .int .i64 ai, .slice va vn vc, .slice ua un uc] 34)) (0, 0) (.slice none 0 0)
    rw [e1] at hm2
    rw [e2] at hm3
    have HM1 := Lib.hid hm1; have HM2 := Lib.hid hm2; have HM3 := Lib.hid hm3; have HB3 := Lib.hid hb3
    have HL := Lib.hid h; have HSO := Lib.hid hS; have HVV := Lib.hid hv; have HUU := Lib.hid hu
    clear h hS hv hu e1 e2 hb1 hb2 hb3 hm1 hba hm2 hm3
    go_enter Try.func56, Try.ntmps56
    obtain ⟨x0, x1, x2, x3⟩ := HM2.out.cells
    simp only at x0 x1 x2 x3
    have x4 := HM2.out.lt
    go_wp2
    have hmx := MB.made ((w.alloc (.cells #[.int .i64 cap.1, .int .i64 cap.2, .slice a n cp] 29)).alloc (.cells #[.int .i64 ak, .int .i64 ai, .slice va vn vc, .slice ua un uc] 34)) cap (.slice a n cp)
    rw [show ((w.alloc (.cells #[.int .i64 cap.1, .int .i64 cap.2, .slice a n cp] 29)).alloc (.cells #[.int .i64 ak, .int .i64 ai, .slice va vn vc, .slice ua un uc] 34)).heap.size = w.heap.size + 1 + 1 by simp] at hmx
    refine bodyPost_ret (res_mbe Try.results56 rfl hmx) rfl ?_
    exact RetD.same HL.out HSO.out (ba (ba (ba (Below.refl _ _) _) _) _) rfl rfl
  have hq1 : ((vn : Int) == 0) = false := by simp [k2]
  have hvr : ¬ VR avs := fun h => HNO.out ⟨by omega, fun e => k2 (by rw [HVN.out, e]; rfl), h⟩
  have hR := fun w1 hV => rright_v (.slice va vn vc) avs HVL.out w1 hV
  rw [decide_eq_false hvr] at hR
  have HR := Lib.hid hR
  clear hvr hR k2
  have e1 : (w.alloc (.cells #[.int .i64 cap.1, .int .i64 cap.2, .slice a n cp] 29)).heap.size = w.heap.size + 1 := by simp
  have e2 : ((w.alloc (.cells #[.int .i64 cap.1, .int .i64 cap.2, .slice a n cp] 29)).alloc (.cells #[.int .i64 ak, .int .i64 ai, .slice va vn vc, .slice ua un uc] 34)).heap.size = w.heap.size + 2 := by simp
  have hb1 := ba (Below.refl w.heap.size w) (.cells #[.int .i64 cap.1, .int .i64 cap.2, .slice a n cp] 29)
  have hb2 := ba hb1 (.cells #[.int .i64 ak, .int .i64 ai, .slice va vn vc, .slice ua un uc] 34)
  have hb3 := ba hb2 (.cells #[.int .i64 0, .int .i64 0, .slice none 0 0] 29)
  have hm1 := ((MB.made w cap (.slice a n cp)).below (ba (Below.refl _ _) (.cells #[.int .i64 ak, .int .i64 ai, .slice va vn vc, .slice ua un uc] 34))).below (ba (Below.refl _ _) (.cells #[.int .i64 0, .int .i64 0, .slice none 0 0] 29))
  have hba : BA (w.alloc (.cells #[.int .i64 cap.1, .int .i64 cap.2, .slice a n cp] 29) |>.alloc (.cells #[.int .i64 ak, .int .i64 ai, .slice va vn vc, .slice ua un uc] 34)) (w.alloc (.cells #[.int .i64 cap.1, .int .i64 cap.2, .slice a n cp] 29)).heap.size ⟨ak, ai, .slice va vn vc, avs, .slice ua un uc, aus⟩ := heap_alloc_new _ _
  have hm2 : BA _ _ _ := ((ba (Below.refl _ _) (.cells #[.int .i64 0, .int .i64 0, .slice none 0 0] 29)).block _ hba.lt).trans hba
  have hm3 := MB.made ((w.alloc (.cells #[.int .i64 cap.1, .int .i64 cap.2, .slice a n cp] 29)).alloc (.cells #[.int .i64 ak, .int .i64 ai, .slice va vn vc, .slice ua un uc] 34)) (0, 0) (.slice none 0 0)
  rw [e1] at hm2
  rw [e2] at hm3
  have HM1 := Lib.hid hm1; have HM2 := Lib.hid hm2; have HM3 := Lib.hid hm3; have HB3 := Lib.hid hb3
  have HL := Lib.hid h; have HSO := Lib.hid hS; have HVV := Lib.hid hv; have HUU := Lib.hid hu
  clear h hS hv hu e1 e2 hb1 hb2 hb3 hm1 hba hm2 hm3
  go_enter Try.func56, Try.ntmps56
  obtain ⟨x0, x1, x2, x3⟩ := HM2.out.cells
  simp only at x0 x1 x2 x3
  have x4 := HM2.out.lt
  go_wp2_with fail
  clear x0 x1 x2 x3 x4 hq0 hq1
  generalize ((w.alloc (.cells #[.int .i64 cap.1, .int .i64 cap.2, .slice a n cp] 29)).alloc (.cells #[.int .i64 ak, .int .i64 ai, .slice va vn vc, .slice ua un uc] 34)).alloc (.cells #[.int .i64 0, .int .i64 0, .slice none 0 0] 29) = w0 at *
  obtain ⟨b, hbq⟩ : ∃ b, b = w.heap.size := ⟨_, rfl⟩
  rw [← hbq] at HM1 HM2 HM3 HB3 ⊢
  obtain ⟨b1, hb1q⟩ : ∃ b1, b1 = b + 1 := ⟨_, rfl⟩
  rw [← hb1q] at HM2 ⊢
  obtain ⟨b2, hb2q⟩ : ∃ b2, b2 = b + 2 := ⟨_, rfl⟩
  rw [← hb2q] at HM3
  rw [show b1 + 1 = b2 by omega]
  have HBQ := Lib.hid hbq
  have HDS := Lib.hid (show b1 = b + 1 ∧ b2 = b + 2 by omega)
  clear hbq hb1q hb2q
  refine (HR.out w0 (HVV.out.on (by rw [← HBQ.out]; exact HB3.out))).mono ?_
  rintro e w1 ⟨rfl, hb4⟩
  have HBW := Lib.hid hb4
  clear hb4
  -- the list is answered as it is: facts at the world behind HBW
  obtain ⟨z0, zM, z1⟩ := (HM1.out.below HBW.out).cells
  have q0 := (HM1.out.below HBW.out).lt
  have hs3 := HM3.out.below HBW.out
  obtain ⟨s0, sM, s1⟩ := hs3.cells
  have s2 := hs3.fz 0; have s3 := hs3.fz 1; have s4 := hs3.fz 2
  have q2 := hs3.lt
  have HR2 := Lib.hid (hs3.set2 cap (.slice a n cp))
  have HQ2 := Lib.hid q2
  clear hs3
  go_wp2
  refine bodyPost_ret (res_mbe Try.results56 rfl HR2.out) rfl ?_
  have hs0 := HM3.out.lt; have hs1 := HBW.out.size; have hds := HDS.out
  refine RetD.same HL.out HSO.out ?_ rfl rfl
  rw [← HBQ.out]
  exact HB3.out.trans ((HBW.out.mono (by omega)).trans ((mb_chg w1 b2 (.int .i64 cap.1) (.int .i64 cap.2) (.slice a n cp)).below (by omega) fun k e => by have e : k = b2 := e; omega))
set_option maxRecDepth 100000 in
set_option maxHeartbeats 4000000 in
theorem mreg_yes (h : OL w (.slice a n cp) S) (hS : SO S) (hv : Vc w (.slice va vn vc) avs) (hvn : vn = avs.length) (hvl : avs.length < 1000000000) (hu : Vc w (.slice ua un uc) aus) (hok : regOk ai avs) {x : Oa} (hx : fndO S ai = some x) (hxs : x.tps = avs) :
    Calls Try.prog 56 #[mval cap (.slice a n cp), .agg #[.int .i64 ak, .int .i64 ai, .slice va vn vc, .slice ua un uc]] w (RetD w cap (.slice a n cp) S (.slice va vn vc) avs (.slice ua un uc) aus (S.map Oa.pl) false 0) := by
  have HVN := Lib.hid hvn; have HOK := Lib.hid hok; have HVL := Lib.hid hvl; have HF := Lib.hid hx
  have hSQ := rsame_any (.slice x.ta x.tn x.tc) (.slice va vn vc) x.tps avs (by rw [hxs]; exact hvl)
  rw [decide_eq_true hxs] at hSQ
  have HSQ := Lib.hid fun (W : World) hV (z : Ext W) => hSQ.quiet (clo_two _ _ _ _) (W := W) hV (x := z)
  clear hvn hok hvl hx hSQ hxs
  -- past the checks of the arguments and At: behind them the world w2; r: where the agent stands
  have hq0 : decide (ai < 1) = false := decide_eq_false (by have := HOK.out.1; omega)
  have hq1 : ((vn : Int) == 0) = false := by
    have : vn ≠ 0 := fun e => HOK.out.2.1 (List.eq_nil_of_length_eq_zero (by rw [← HVN.out]; exact e))
    simp [this]
  have hR := fun w1 hV => rright_v (.slice va vn vc) avs HVL.out w1 hV
  rw [decide_eq_true HOK.out.2.2] at hR
  have HR := Lib.hid hR
  clear hR
  have e1 : (w.alloc (.cells #[.int .i64 cap.1, .int .i64 cap.2, .slice a n cp] 29)).heap.size = w.heap.size + 1 := by simp
  have e2 : ((w.alloc (.cells #[.int .i64 cap.1, .int .i64 cap.2, .slice a n cp] 29)).alloc (.cells #[.int .i64 ak, .int .i64 ai, .slice va vn vc, .slice ua un uc] 34)).heap.size = w.heap.size + 2 := by simp
  have hb1 := ba (Below.refl w.heap.size w) (.cells #[.int .i64 cap.1, .int .i64 cap.2, .slice a n cp] 29)
  have hb2 := ba hb1 (.cells #[.int .i64 ak, .int .i64 ai, .slice va vn vc, .slice ua un uc] 34)
  have hb3 := ba hb2 (.cells #[.int .i64 0, .int .i64 0, .slice none 0 0] 29)
  have hm1 := ((MB.made w cap (.slice a n cp)).below (ba (Below.refl _ _) (.cells #[.int .i64 ak, .int .i64 ai, .slice va vn vc, .slice ua un uc] 34))).below (ba (Below.refl _ _) (.cells #[.int .i64 0, .int .i64 0, .slice none 0 0] 29))
  have hba : BA (w.alloc (.cells #[.int .i64 cap.1, .int .i64 cap.2, .slice a n cp] 29) |>.alloc (.cells #[.int .i64 ak, .int .i64 ai, .slice va vn vc, .slice ua un uc] 34)) (w.alloc (.cells #[.int .i64 cap.1, .int .i64 cap.2, .slice a n cp] 29)).heap.size ⟨ak, ai, .slice va vn vc, avs, .slice ua un uc, aus⟩ := heap_alloc_new _ _
  have hm2 : BA _ _ _ := ((ba (Below.refl _ _) (.cells #[.int .i64 0, .int .i64 0, .slice none 0 0] 29)).block _ hba.lt).trans hba
  have hm3 := MB.made ((w.alloc (.cells #[.int .i64 cap.1, .int .i64 cap.2, .slice a n cp] 29)).alloc (.cells #[.int .i64 ak, .int .i64 ai, .slice va vn vc, .slice ua un uc] 34)) (0, 0) (.slice none 0 0)
  rw [e1] at hm2
  rw [e2] at hm3
  have HM1 := Lib.hid hm1; have HM2 := Lib.hid hm2; have HM3 := Lib.hid hm3; have HB3 := Lib.hid hb3
  have HL := Lib.hid h; have HSO := Lib.hid hS; have HVV := Lib.hid hv; have HUU := Lib.hid hu
  clear h hS hv hu e1 e2 hb1 hb2 hb3 hm1 hba hm2 hm3
  go_enter Try.func56, Try.ntmps56
  obtain ⟨x0, x1, x2, x3⟩ := HM2.out.cells
  simp only at x0 x1 x2 x3
  have x4 := HM2.out.lt
  go_wp2_with fail
  clear x0 x1 x2 x3 x4 hq0 hq1
  generalize ((w.alloc (.cells #[.int .i64 cap.1, .int .i64 cap.2, .slice a n cp] 29)).alloc (.cells #[.int .i64 ak, .int .i64 ai, .slice va vn vc, .slice ua un uc] 34)).alloc (.cells #[.int .i64 0, .int .i64 0, .slice none 0 0] 29) = w0 at *
  obtain ⟨b, hbq⟩ : ∃ b, b = w.heap.size := ⟨_, rfl⟩
  rw [← hbq] at HM1 HM2 HM3 HB3 ⊢
  obtain ⟨b1, hb1q⟩ : ∃ b1, b1 = b + 1 := ⟨_, rfl⟩
  rw [← hb1q] at HM2 ⊢
  obtain ⟨b2, hb2q⟩ : ∃ b2, b2 = b + 2 := ⟨_, rfl⟩
  rw [← hb2q] at HM3
  rw [show b1 + 1 = b2 by omega]
  have HBQ := Lib.hid hbq
  have HDS := Lib.hid (show b1 = b + 1 ∧ b2 = b + 2 by omega)
  clear hbq hb1q hb2q
  refine (HR.out w0 (HVV.out.on (by rw [← HBQ.out]; exact HB3.out))).mono ?_
  rintro e w1 ⟨rfl, hb4⟩
  have HB4 := Lib.hid hb4
  obtain ⟨z0, zM, z1⟩ := (HM1.out.below hb4).cells
  have q0 := (HM1.out.below hb4).lt
  have hm2 : BA w1 b1 _ := (hb4.block _ HM2.out.lt).trans HM2.out
  obtain ⟨x0, x1, x2, x3⟩ := hm2.cells
  simp only at x0 x1 x2 x3
  have x4 := hm2.lt
  clear hb4 hm2
  go_wp2_with fail
  refine (mat (cap := cap) (HL.out.rs.below (by rw [← HBQ.out]; exact HB3.out.trans (HB4.out.mono (by have := HM3.out.lt; have := HDS.out; omega)))) ai).mono ?_
  rintro e w2 ⟨rfl, hb5⟩
  have HBW := Lib.hid (bt HB4.out hb5)
  clear hb5 z0 zM z1 q0 x0 x1 x2 x3 x4
  obtain ⟨ix, hix, hxa⟩ := Srt.pl_at HF.out
  have hpl : (0 ≤ Srt.pl Oa.id S ai) = True := eq_true (by omega)
  rw [hix] at hpl ⊢
  have HBZ := Lib.hid (show Below b w w2 from HB3.out.trans (HBW.out.mono (by have := HM3.out.lt; have := HDS.out; omega)))
  obtain ⟨_, _, _, he, hnl, _, _, hat⟩ := HL.out.rs.at_
  cases he
  obtain ⟨bs, off, rfl, hbs, hcell⟩ := hat ix x hxa
  have hixn : ix < n := by rw [hnl]; exact (List.getElem?_eq_some_iff.1 hxa).1
  have hbsb : bs < b := by have := HBQ.out; omega
  have d1 := (HBZ.out.cell (p := ⟨bs, _, none⟩) hbsb).trans (hcell 1 _ rfl)
  have qs : bs < w2.heap.size := by have := HBZ.out.size; have := HM3.out.lt; have := HBW.out.size; have := HDS.out; omega
  have HVX := Lib.hid (show Vc w2 (.slice x.ta x.tn x.tc) x.tps ∧ Vc w2 (.slice va vn vc) avs from ⟨(HL.out.vec x (mem_at hxa)).1.on (by rw [← HBQ.out]; exact HBZ.out), HVV.out.on (by rw [← HBQ.out]; exact HBZ.out)⟩)
  obtain ⟨z0, zM, z1⟩ := (HM1.out.below HBW.out).cells
  have q0 := (HM1.out.below HBW.out).lt
  have hm2 : BA w2 b1 _ := (HBW.out.block _ HM2.out.lt).trans HM2.out
  obtain ⟨x0, x1, x2, x3⟩ := hm2.cells
  simp only at x0 x1 x2 x3
  have x4 := hm2.lt
  clear hm2 hat hcell hxa hbs hbsb hnl
  obtain ⟨xi, ta, tn, tc, tps, fa, fn, fc, fps⟩ := x
  simp only at d1
  go_wp2
  refine wp_region_pure (by kernel_rfl) (by kernel_rfl) ?_
  repeat (first | go_big_quiet_step ((go_at_call 66; with_reducible exact HSQ.out _ HVX.out _)) | (quiet_step ((go_at_call 66; with_reducible exact HSQ.out _ HVX.out _))))
  refine wpQuiet_nil ?_
  rintro w3 ⟨x7, hx7⟩
  have hb7 := ext_below _ x7
  rw [← hx7] at hb7
  have HBW := Lib.hid (bt HBW.out hb7)
  clear hx7 x7 hb7 z0 zM z1 q0 x0 x1 x2 x3 x4 d1 qs
  -- the list is answered as it is: facts at the world behind HBW
  obtain ⟨z0, zM, z1⟩ := (HM1.out.below HBW.out).cells
  have q0 := (HM1.out.below HBW.out).lt
  have hs3 := HM3.out.below HBW.out
  obtain ⟨s0, sM, s1⟩ := hs3.cells
  have s2 := hs3.fz 0; have s3 := hs3.fz 1; have s4 := hs3.fz 2
  have q2 := hs3.lt
  have HR2 := Lib.hid (hs3.set2 cap (.slice (some ⟨bs, off, none⟩) n cp))
  have HQ2 := Lib.hid q2
  clear hs3
  go_wp2
  refine bodyPost_ret (res_mbe Try.results56 rfl HR2.out) rfl ?_
  have hs0 := HM3.out.lt; have hs1 := HBW.out.size; have hds := HDS.out
  refine RetD.same HL.out HSO.out ?_ rfl rfl
  rw [← HBQ.out]
  exact HB3.out.trans ((HBW.out.mono (by omega)).trans ((mb_chg w3 b2 (.int .i64 cap.1) (.int .i64 cap.2) (.slice (some ⟨bs, off, none⟩) n cp)).below (by omega) fun k e => by have e : k = b2 := e; omega))
set_option maxRecDepth 100000 in
set_option maxHeartbeats 4000000 in
theorem mreg_no (h : OL w (.slice a n cp) S) (hS : SO S) (hv : Vc w (.slice va vn vc) avs) (hvn : vn = avs.length) (hvl : avs.length < 1000000000) (hu : Vc w (.slice ua un uc) aus) (hok : regOk ai avs) {x : Oa} (hx : fndO S ai = some x) (hxl : x.tps.length < 1000000000) (hxs : ¬ x.tps = avs) :
    Calls Try.prog 56 #[mval cap (.slice a n cp), .agg #[.int .i64 ak, .int .i64 ai, .slice va vn vc, .slice ua un uc]] w (RetD w cap (.slice a n cp) S (.slice va vn vc) avs (.slice ua un uc) aus (S.map Oa.pl) false 20) := by
  have HVN := Lib.hid hvn; have HOK := Lib.hid hok; have HVL := Lib.hid hvl; have HF := Lib.hid hx
  have hSQ := rsame_any (.slice x.ta x.tn x.tc) (.slice va vn vc) x.tps avs hxl
  rw [decide_eq_false hxs] at hSQ
  have HSQ := Lib.hid fun (W : World) hV (z : Ext W) => hSQ.quiet (clo_two _ _ _ _) (W := W) hV (x := z)
  clear hvn hok hvl hx hSQ hxs hxl
  -- past the checks of the arguments and At: behind them the world w2; r: where the agent stands
  have hq0 : decide (ai < 1) = false := decide_eq_false (by have := HOK.out.1; omega)
  have hq1 : ((vn : Int) == 0) = false := by
    have : vn ≠ 0 := fun e => HOK.out.2.1 (List.eq_nil_of_length_eq_zero (by rw [← HVN.out]; exact e))
    simp [this]
  have hR := fun w1 hV => rright_v (.slice va vn vc) avs HVL.out w1 hV
  rw [decide_eq_true HOK.out.2.2] at hR
  have HR := Lib.hid hR
  clear hR
  have e1 : (w.alloc (.cells #[.int .i64 cap.1, .int .i64 cap.2, .slice a n cp] 29)).heap.size = w.heap.size + 1 := by simp
  have e2 : ((w.alloc (.cells #[.int .i64 cap.1, .int .i64 cap.2, .slice a n cp] 29)).alloc (.cells #[.int .i64 ak, .int .i64 ai, .slice va vn vc, .slice ua un uc] 34)).heap.size = w.heap.size + 2 := by simp
  have hb1 := ba (Below.refl w.heap.size w) (.cells #[.int .i64 cap.1, .int .i64 cap.2, .slice a n cp] 29)
  have hb2 := ba hb1 (.cells #[.int .i64 ak, .int .i64 ai, .slice va vn vc, .slice ua un uc] 34)
  have hb3 := ba hb2 (.cells #[.int .i64 0, .int .i64 0, .slice none 0 0] 29)
  have hm1 := ((MB.made w cap (.slice a n cp)).below (ba (Below.refl _ _) (.cells #[.int .i64 ak, .int .i64 ai, .slice va vn vc, .slice ua un uc] 34))).below (ba (Below.refl _ _) (.cells #[.int .i64 0, .int .i64 0, .slice none 0 0] 29))
  have hba : BA (w.alloc (.cells #[.int .i64 cap.1, .int .i64 cap.2, .slice a n cp] 29) |>.alloc (.cells #[.int .i64 ak, .int .i64 ai, .slice va vn vc, .slice ua un uc] 34)) (w.alloc (.cells #[.int .i64 cap.1, .int .i64 cap.2, .slice a n cp] 29)).heap.size ⟨ak, ai, .slice va vn vc, avs, .slice ua un uc, aus⟩ := heap_alloc_new _ _
  have hm2 : BA _ _ _ := ((ba (Below.refl _ _) (.cells #[.int .i64 0, .int .i64 0, .slice none 0 0] 29)).block _ hba.lt).trans hba
  have hm3 := MB.made ((w.alloc (.cells #[.int .i64 cap.1, .int .i64 cap.2, .slice a n cp] 29)).alloc (.cells #[.int .i64 ak, .int .i64 ai, .slice va vn vc, .slice ua un uc] 34)) (0, 0) (.slice none 0 0)
  rw [e1] at hm2
  rw [e2] at hm3
  have HM1 := Lib.hid hm1; have HM2 := Lib.hid hm2; have HM3 := Lib.hid hm3; have HB3 := Lib.hid hb3
  have HL := Lib.hid h; have HSO := Lib.hid hS; have HVV := Lib.hid hv; have HUU := Lib.hid hu
  clear h hS hv hu e1 e2 hb1 hb2 hb3 hm1 hba hm2 hm3
  go_enter Try.func56, Try.ntmps56
  obtain ⟨x0, x1, x2, x3⟩ := HM2.out.cells
  simp only at x0 x1 x2 x3
  have x4 := HM2.out.lt
  go_wp2_with fail
  clear x0 x1 x2 x3 x4 hq0 hq1
  generalize ((w.alloc (.cells #[.int .i64 cap.1, .int .i64 cap.2, .slice a n cp] 29)).alloc (.cells #[.int .i64 ak, .int .i64 ai, .slice va vn vc, .slice ua un uc] 34)).alloc (.cells #[.int .i64 0, .int .i64 0, .slice none 0 0] 29) = w0 at *
  obtain ⟨b, hbq⟩ : ∃ b, b = w.heap.size := ⟨_, rfl⟩
  rw [← hbq] at HM1 HM2 HM3 HB3 ⊢
  obtain ⟨b1, hb1q⟩ : ∃ b1, b1 = b + 1 := ⟨_, rfl⟩
  rw [← hb1q] at HM2 ⊢
  obtain ⟨b2, hb2q⟩ : ∃ b2, b2 = b + 2 := ⟨_, rfl⟩
  rw [← hb2q] at HM3
  rw [show b1 + 1 = b2 by omega]
  have HBQ := Lib.hid hbq
  have HDS := Lib.hid (show b1 = b + 1 ∧ b2 = b + 2 by omega)
  clear hbq hb1q hb2q
  refine (HR.out w0 (HVV.out.on (by rw [← HBQ.out]; exact HB3.out))).mono ?_
  rintro e w1 ⟨rfl, hb4⟩
  have HB4 := Lib.hid hb4
  obtain ⟨z0, zM, z1⟩ := (HM1.out.below hb4).cells
  have q0 := (HM1.out.below hb4).lt
  have hm2 : BA w1 b1 _ := (hb4.block _ HM2.out.lt).trans HM2.out
  obtain ⟨x0, x1, x2, x3⟩ := hm2.cells
  simp only at x0 x1 x2 x3
  have x4 := hm2.lt
  clear hb4 hm2
  go_wp2_with fail
  refine (mat (cap := cap) (HL.out.rs.below (by rw [← HBQ.out]; exact HB3.out.trans (HB4.out.mono (by have := HM3.out.lt; have := HDS.out; omega)))) ai).mono ?_
  rintro e w2 ⟨rfl, hb5⟩
  have HBW := Lib.hid (bt HB4.out hb5)
  clear hb5 z0 zM z1 q0 x0 x1 x2 x3 x4
  obtain ⟨ix, hix, hxa⟩ := Srt.pl_at HF.out
  have hpl : (0 ≤ Srt.pl Oa.id S ai) = True := eq_true (by omega)
  rw [hix] at hpl ⊢
  have HBZ := Lib.hid (show Below b w w2 from HB3.out.trans (HBW.out.mono (by have := HM3.out.lt; have := HDS.out; omega)))
  obtain ⟨_, _, _, he, hnl, _, _, hat⟩ := HL.out.rs.at_
  cases he
  obtain ⟨bs, off, rfl, hbs, hcell⟩ := hat ix x hxa
  have hixn : ix < n := by rw [hnl]; exact (List.getElem?_eq_some_iff.1 hxa).1
  have hbsb : bs < b := by have := HBQ.out; omega
  have d1 := (HBZ.out.cell (p := ⟨bs, _, none⟩) hbsb).trans (hcell 1 _ rfl)
  have qs : bs < w2.heap.size := by have := HBZ.out.size; have := HM3.out.lt; have := HBW.out.size; have := HDS.out; omega
  have HVX := Lib.hid (show Vc w2 (.slice x.ta x.tn x.tc) x.tps ∧ Vc w2 (.slice va vn vc) avs from ⟨(HL.out.vec x (mem_at hxa)).1.on (by rw [← HBQ.out]; exact HBZ.out), HVV.out.on (by rw [← HBQ.out]; exact HBZ.out)⟩)
  obtain ⟨z0, zM, z1⟩ := (HM1.out.below HBW.out).cells
  have q0 := (HM1.out.below HBW.out).lt
  have hm2 : BA w2 b1 _ := (HBW.out.block _ HM2.out.lt).trans HM2.out
  obtain ⟨x0, x1, x2, x3⟩ := hm2.cells
  simp only at x0 x1 x2 x3
  have x4 := hm2.lt
  clear hm2 hat hcell hxa hbs hbsb hnl
  obtain ⟨xi, ta, tn, tc, tps, fa, fn, fc, fps⟩ := x
  simp only at d1
  go_wp2
  refine wp_region_pure (by kernel_rfl) (by kernel_rfl) ?_
  repeat (first | go_big_quiet_step ((go_at_call 66; with_reducible exact HSQ.out _ HVX.out _)) | (quiet_step ((go_at_call 66; with_reducible exact HSQ.out _ HVX.out _))))
  refine wpQuiet_nil ?_
  rintro w3 ⟨x7, hx7⟩
  have hb7 := ext_below _ x7
  rw [← hx7] at hb7
  have HBW := Lib.hid (bt HBW.out hb7)
  clear hx7 x7 hb7 z0 zM z1 q0 x0 x1 x2 x3 x4 d1 qs
  -- the list is answered as it is: facts at the world behind HBW
  obtain ⟨z0, zM, z1⟩ := (HM1.out.below HBW.out).cells
  have q0 := (HM1.out.below HBW.out).lt
  have hs3 := HM3.out.below HBW.out
  obtain ⟨s0, sM, s1⟩ := hs3.cells
  have s2 := hs3.fz 0; have s3 := hs3.fz 1; have s4 := hs3.fz 2
  have q2 := hs3.lt
  have HR2 := Lib.hid (hs3.set2 cap (.slice (some ⟨bs, off, none⟩) n cp))
  have HQ2 := Lib.hid q2
  clear hs3
  go_wp2
  refine bodyPost_ret (res_mbe Try.results56 rfl HR2.out) rfl ?_
  have hs0 := HM3.out.lt; have hs1 := HBW.out.size; have hds := HDS.out
  refine RetD.same HL.out HSO.out ?_ rfl rfl
  rw [← HBQ.out]
  exact HB3.out.trans ((HBW.out.mono (by omega)).trans ((mb_chg w3 b2 (.int .i64 cap.1) (.int .i64 cap.2) (.slice (some ⟨bs, off, none⟩) n cp)).below (by omega) fun k e => by have e : k = b2 := e; omega))
end
end
section
open Go.RowKit Go.Maps
attribute [local go_sem] ext_cell ext_frozen extC_cell extC_frozen Mix.calmUpon Mix.mUpon
-- one of the two variables made, in the world wi; qi its block
-- the sums T stored in the variable of block qi, in the world wi
section
variable {w : World} {a : Option Addr} {n cp : Nat} {S : List Oa} {cap : Int × Int} {ak ai : Int} {va ua : Option Addr} {vn vc un uc : Nat} {avs aus : List Pt}
set_option maxRecDepth 100000 in
set_option maxHeartbeats 8000000 in
theorem mreg_new (h : OL w (.slice a n cp) S) (hS : SO S) (hin : AIn cap.1 cap.2 (S.map Oa.pl)) (hln : S.length < 900000) (hv : Vc w (.slice va vn vc) avs) (hvn : vn = avs.length) (hvl : avs.length < 1000000000) (hu : Vc w (.slice ua un uc) aus) (hok : regOk ai avs) (hx : fndO S ai = none) :
    Calls Try.prog 56 #[mval cap (.slice a n cp), .agg #[.int .i64 ak, .int .i64 ai, .slice va vn vc, .slice ua un uc]] w (RetD w cap (.slice a n cp) S (.slice va vn vc) avs (.slice ua un uc) aus (regP cap.1 cap.2 (S.map Oa.pl) ai avs) (regB cap.1 cap.2 (S.map Oa.pl) ai avs) (regE cap.1 cap.2 (S.map Oa.pl) ai avs)) := by
  have HVN := Lib.hid hvn; have HOK := Lib.hid hok; have HVL := Lib.hid hvl
  have HFN := Lib.hid (show fndA (S.map Oa.pl) ai = none from by rw [plo_fnd, hx]; rfl)
  have hpl : decide (0 ≤ Srt.pl Oa.id S ai) = false := by
    rw [Srt.pl_fnd]
    have h9 : Srt.fnd Oa.id S ai = none := hx
    rw [h9]; rfl
  have HPL := Lib.hid hpl
  have HIN := Lib.hid hin
  have HN := Lib.hid (show n = S.length from by
    obtain ⟨_, _, _, he, hn, _, _, _⟩ := h.rs.at_
    cases he; exact hn)
  have HLN := Lib.hid (show n < 900000 from by rw [HN.out]; exact hln)
  clear hvn hok hvl hx hpl hin hln
  have hq0 : decide (ai < 1) = false := decide_eq_false (by have := HOK.out.1; omega)
  have hq1 : ((vn : Int) == 0) = false := by
    have : vn ≠ 0 := fun e => HOK.out.2.1 (List.eq_nil_of_length_eq_zero (by rw [← HVN.out]; exact e))
    simp [this]
  have hR := fun w1 hV => rright_v (.slice va vn vc) avs HVL.out w1 hV
  rw [decide_eq_true HOK.out.2.2] at hR
  have HR := Lib.hid hR
  clear hR
  have e1 : (w.alloc (.cells #[.int .i64 cap.1, .int .i64 cap.2, .slice a n cp] 29)).heap.size = w.heap.size + 1 := by simp
  have e2 : ((w.alloc (.cells #[.int .i64 cap.1, .int .i64 cap.2, .slice a n cp] 29)).alloc (.cells #[.int .i64 ak, .int .i64 ai, .slice va vn vc, .slice ua un uc] 34)).heap.size = w.heap.size + 2 := by simp
  have hb1 := ba (Below.refl w.heap.size w) (.cells #[.int .i64 cap.1, .int .i64 cap.2, .slice a n cp] 29)
  have hb2 := ba hb1 (.cells #[.int .i64 ak, .int .i64 ai, .slice va vn vc, .slice ua un uc] 34)
  have hb3 := ba hb2 (.cells #[.int .i64 0, .int .i64 0, .slice none 0 0] 29)
  have hm1 := ((MB.made w cap (.slice a n cp)).below (ba (Below.refl _ _) (.cells #[.int .i64 ak, .int .i64 ai, .slice va vn vc, .slice ua un uc] 34))).below (ba (Below.refl _ _) (.cells #[.int .i64 0, .int .i64 0, .slice none 0 0] 29))
  have hba : BA (w.alloc (.cells #[.int .i64 cap.1, .int .i64 cap.2, .slice a n cp] 29) |>.alloc (.cells #[.int .i64 ak, .int .i64 ai, .slice va vn vc, .slice ua un uc] 34)) (w.alloc (.cells #[.int .i64 cap.1, .int .i64 cap.2, .slice a n cp] 29)).heap.size ⟨ak, ai, .slice va vn vc, avs, .slice ua un uc, aus⟩ := heap_alloc_new _ _
  have hm2 : BA _ _ _ := ((ba (Below.refl _ _) (.cells #[.int .i64 0, .int .i64 0, .slice none 0 0] 29)).block _ hba.lt).trans hba
  have hm3 := MB.made ((w.alloc (.cells #[.int .i64 cap.1, .int .i64 cap.2, .slice a n cp] 29)).alloc (.cells #[.int .i64 ak, .int .i64 ai, .slice va vn vc, .slice ua un uc] 34)) (0, 0) (.slice none 0 0)
  rw [e1] at hm2
  rw [e2] at hm3
  have HM1 := Lib.hid hm1; have HM2 := Lib.hid hm2; have HM3 := Lib.hid hm3; have HB3 := Lib.hid hb3
  have HL := Lib.hid h; have HSO := Lib.hid hS; have HVV := Lib.hid hv; have HUU := Lib.hid hu
  clear h hS hv hu e1 e2 hb1 hb2 hb3 hm1 hba hm2 hm3
  go_enter Try.func56, Try.ntmps56
  obtain ⟨x0, x1, x2, x3⟩ := HM2.out.cells
  simp only at x0 x1 x2 x3
  have x4 := HM2.out.lt
  go_wp2_with fail
  clear x0 x1 x2 x3 x4 hq0 hq1
  generalize ((w.alloc (.cells #[.int .i64 cap.1, .int .i64 cap.2, .slice a n cp] 29)).alloc (.cells #[.int .i64 ak, .int .i64 ai, .slice va vn vc, .slice ua un uc] 34)).alloc (.cells #[.int .i64 0, .int .i64 0, .slice none 0 0] 29) = w0 at *
  obtain ⟨b, hbq⟩ : ∃ b, b = w.heap.size := ⟨_, rfl⟩
  rw [← hbq] at HM1 HM2 HM3 HB3 ⊢
  obtain ⟨b1, hb1q⟩ : ∃ b1, b1 = b + 1 := ⟨_, rfl⟩
  rw [← hb1q] at HM2 ⊢
  obtain ⟨b2, hb2q⟩ : ∃ b2, b2 = b + 2 := ⟨_, rfl⟩
  rw [← hb2q] at HM3
  rw [show b1 + 1 = b2 by omega]
  have HBQ := Lib.hid hbq
  have HDS := Lib.hid (show b1 = b + 1 ∧ b2 = b + 2 by omega)
  clear hbq hb1q hb2q
  refine (HR.out w0 (HVV.out.on (by rw [← HBQ.out]; exact HB3.out))).mono ?_
  rintro e w1 ⟨rfl, hb4⟩
  have HB4 := Lib.hid hb4
  obtain ⟨z0, zM, z1⟩ := (HM1.out.below hb4).cells
  have q0 := (HM1.out.below hb4).lt
  have hm2 : BA w1 b1 _ := (hb4.block _ HM2.out.lt).trans HM2.out
  obtain ⟨x0, x1, x2, x3⟩ := hm2.cells
  simp only at x0 x1 x2 x3
  have x4 := hm2.lt
  clear hb4 hm2
  go_wp2_with fail
  refine (mat (cap := cap) (HL.out.rs.below (by rw [← HBQ.out]; exact HB3.out.trans (HB4.out.mono (by have := HM3.out.lt; have := HDS.out; omega)))) ai).mono ?_
  rintro e w2 ⟨rfl, hb5⟩
  have HBW := Lib.hid (bt HB4.out hb5)
  clear hb5 z0 zM z1 q0 x0 x1 x2 x3 x4
  have hpl := HPL.out
  generalize Srt.pl Oa.id S ai = r at *
  have hp2 : (0 ≤ r) = False := eq_false (of_decide_eq_false hpl)
  have HBZ := Lib.hid (show Below w.heap.size w w2 from by rw [← HBQ.out]; exact HB3.out.trans (HBW.out.mono (by have := HM3.out.lt; have := HDS.out; omega)))
  obtain ⟨z0, zM, z1⟩ := (HM1.out.below HBW.out).cells
  have q0 := (HM1.out.below HBW.out).lt
  have hm2 : BA w2 b1 _ := (HBW.out.block _ HM2.out.lt).trans HM2.out
  obtain ⟨x0, x1, x2, x3⟩ := hm2.cells
  simp only at x0 x1 x2 x3
  have x4 := hm2.lt
  have hsum := fun x : ExtC w2 (fun _ => False) => msum (cap := cap) (HL.out.below (bt HBZ.out ((extC_chg w2 _ x).below (Nat.le_refl _) fun k h => h.elim))) HIN.out false
  have hof := fun x : ExtC w2 (fun _ => False) => rsumsW (.slice va vn vc) avs HOK.out.2.2 _ (HVV.out.on (bt HBZ.out ((extC_chg w2 _ x).below (Nat.le_refl _) fun k h => h.elim)))
  obtain ⟨s, hs⟩ : ∃ s, s = sumA totA (S.map Oa.pl) := ⟨_, rfl⟩
  obtain ⟨mo, hmo⟩ : ∃ mo, mo = kS avs := ⟨_, rfl⟩
  rw [show pickA false = totA from rfl, ← hs] at hsum
  rw [← hmo] at hof
  have HSUM := Lib.hid hsum; have HOF := Lib.hid hof; have HSQ := Lib.hid hs; have HMQ := Lib.hid hmo
  have HSB := Lib.hid (show ∀ k, k < 4 → 0 ≤ s k ∧ s k ≤ cap.2 from fun k hk => by
    rw [hs]
    have h1 := tot_le HIN.out (S.map Oa.pl).length k
    rw [List.take_length] at h1
    exact ⟨h1.1, HIN.out.ms k hk⟩)
  have HC2 := Lib.hid (show 1 ≤ cap.2 ∧ cap.2 ≤ 9007199254740992 from HIN.out.m1)
  clear hm2 hsum hof hs hmo HPL
  go_wp2
  refine Mix.regionC (fun _ => False) (by kernel_rfl) ?_
  intro w5 hb5
  refine Mix.take_exC _ _ 0 rfl (by kernel_rfl) (by kernel_rfl) (by kernel_rfl) (by kernel_rfl) (fun K hK => ?_)
  go_simp
  first | (refine hK _ ?_; clear hK K) | (apply Exists.intro; refine ⟨fun x => ?_, hK _ ?_⟩; (fail); clear hK K)
  refine Mix.take_exC _ _ 1 rfl (by kernel_rfl) (by kernel_rfl) (by kernel_rfl) (by kernel_rfl) (fun K hK => ?_)
  go_simp
  first | (refine hK _ ?_; clear hK K) | (apply Exists.intro; refine ⟨fun x => ?_, hK _ ?_⟩; (exact HSUM.out x); clear hK K)
  refine Mix.take_exC _ _ 2 rfl (by kernel_rfl) (by kernel_rfl) (by kernel_rfl) (by kernel_rfl) (fun K hK => ?_)
  go_simp
  first | (refine hK _ ?_; clear hK K) | (apply Exists.intro; refine ⟨fun x => ?_, hK _ ?_⟩; (fail); clear hK K)
  refine Mix.take_exC _ _ 3 rfl (by kernel_rfl) (by kernel_rfl) (by kernel_rfl) (by kernel_rfl) (fun K hK => ?_)
  go_simp
  first | (refine hK _ ?_; clear hK K) | (apply Exists.intro; refine ⟨fun x => ?_, hK _ ?_⟩; (fail); clear hK K)
  refine Mix.take_exC _ _ 4 rfl (by kernel_rfl) (by kernel_rfl) (by kernel_rfl) (by kernel_rfl) (fun K hK => ?_)
  go_simp
  first | (refine hK _ ?_; clear hK K) | (apply Exists.intro; refine ⟨fun x => ?_, hK _ ?_⟩; (exact HOF.out x); clear hK K)
  have HBC := Lib.hid hb5
  refine Mix.all (rs := [5, 6]) (by kernel_rfl) (by simp) (.of_below _ hb5) ?_
  intro i6 hi6 w6 hb6 hC6
  have HBC := Lib.hid (bt HBC.out hb6)
  clear hC6 hb5 hb6 z0 zM z1 q0 x0 x1 x2 x3 x4 hpl hp2
  simp only [List.mem_cons, List.not_mem_nil, or_false] at hi6
  rcases hi6 with rfl | rfl
  · have HQ1 := Lib.hid (show w2.heap.size ≤ w6.heap.size from HBC.out.size)
    have hk := KS.made w6 Z4 44
    have hba := ba (Below.refl w6.heap.size w6) (.cells (C4 Z4) 44)
    have HBC := Lib.hid (bt HBC.out hba)
    refine Mix.op rfl (by kernel_rfl) ?_
    go_simp
    generalize w6.alloc (.cells (C4 Z4) 44) = w7 at *
    obtain ⟨q8, hqi⟩ : ∃ q, q = w6.heap.size := ⟨_, rfl⟩
    rw [← hqi] at hk ⊢
    have K8 := Lib.hid hk
    have HQV := Lib.hid hqi
    clear hk hqi
    clear hba
    refine Mix.all (rs := [6]) (by kernel_rfl) (by simp) (.of_below _ HBC.out) ?_
    intro i8 hi8 w8 hb8 hC8
    simp only [List.mem_cons, List.not_mem_nil, or_false] at hi8
    subst hi8
    have HBC := Lib.hid (bt HBC.out hb8)
    have HQ2 := Lib.hid (show w2.heap.size ≤ q8 ∧ q8 < w8.heap.size from ⟨by have := HQV.out; have := HQ1.out; omega, (K8.out.below hb8).lt⟩)
    have K8 := Lib.hid (K8.out.below hb8)
    clear hC8 hb8
    have hk := KS.made w8 Z4 44
    have hba := ba (Below.refl w8.heap.size w8) (.cells (C4 Z4) 44)
    have HBC := Lib.hid (bt HBC.out hba)
    refine Mix.op rfl (by kernel_rfl) ?_
    go_simp
    generalize w8.alloc (.cells (C4 Z4) 44) = w9 at *
    obtain ⟨q9, hqi⟩ : ∃ q, q = w8.heap.size := ⟨_, rfl⟩
    rw [← hqi] at hk ⊢
    have K9 := Lib.hid hk
    have HQV := Lib.hid hqi
    clear hk hqi
    have K8 := Lib.hid (K8.out.below hba)
    have HNE := Lib.hid (show w2.heap.size ≤ q8 ∧ w2.heap.size ≤ q9 ∧ q8 ≠ q9 from by have := HQ2.out; have := HQV.out; omega)
    clear hba
    refine Mix.all (rs := [7]) (by kernel_rfl) (by simp) (.of_below _ HBC.out) ?_
    intro i10 hi10 w10 hb10 hC10
    simp only [List.mem_cons, List.not_mem_nil, or_false] at hi10
    subst hi10
    have HBC := Lib.hid (bt HBC.out hb10)
    have K8 := Lib.hid (K8.out.below hb10); have K9 := Lib.hid (K9.out.below hb10)
    clear hC10 hb10
    obtain ⟨r0, r1, r2, r3⟩ := K8.out.cells
    have r4 := K8.out.lt
    have g0 := K8.out.fz 0; have g1 := K8.out.fz 1; have g2 := K8.out.fz 2; have g3 := K8.out.fz 3
    have HST := Lib.hid (ks_chg w10 q8 (.int .i64 (s 0)) (.int .i64 (s 1)) (.int .i64 (s 2)) (.int .i64 (s 3)))
    have HKN := Lib.hid (K8.out.set4 s)
    refine Mix.op rfl (by kernel_rfl) ?_
    go_simp
    clear r0 r1 r2 r3 r4 g0 g1 g2 g3
    generalize ((((w10).setCell ⟨q8, 0, none⟩ (.int .i64 (s 0))).setCell ⟨q8, 1, none⟩ (.int .i64 (s 1))).setCell ⟨q8, 2, none⟩ (.int .i64 (s 2))).setCell ⟨q8, 3, none⟩ (.int .i64 (s 3)) = w11 at *
    have K8 := HKN
    have K9 := Lib.hid (K9.out.chg HST.out (by have := HNE.out; show ¬ q9 = q8; omega))
    have HBC := Lib.hid (HBC.out.trans (HST.out.below HBC.out.size fun k e => by have e : k = q8 := e; have := HNE.out; omega))
    clear HKN HST
    refine Mix.all (rs := [8]) (by kernel_rfl) (by simp) (.of_below _ HBC.out) ?_
    intro i12 hi12 w12 hb12 hC12
    simp only [List.mem_cons, List.not_mem_nil, or_false] at hi12
    subst hi12
    have HBC := Lib.hid (bt HBC.out hb12)
    have K8 := Lib.hid (K8.out.below hb12); have K9 := Lib.hid (K9.out.below hb12)
    clear hC12 hb12
    obtain ⟨r0, r1, r2, r3⟩ := K9.out.cells
    have r4 := K9.out.lt
    have g0 := K9.out.fz 0; have g1 := K9.out.fz 1; have g2 := K9.out.fz 2; have g3 := K9.out.fz 3
    have HST := Lib.hid (ks_chg w12 q9 (.int .i64 (mo 0)) (.int .i64 (mo 1)) (.int .i64 (mo 2)) (.int .i64 (mo 3)))
    have HKN := Lib.hid (K9.out.set4 mo)
    refine Mix.op rfl (by kernel_rfl) ?_
    go_simp
    clear r0 r1 r2 r3 r4 g0 g1 g2 g3
    generalize ((((w12).setCell ⟨q9, 0, none⟩ (.int .i64 (mo 0))).setCell ⟨q9, 1, none⟩ (.int .i64 (mo 1))).setCell ⟨q9, 2, none⟩ (.int .i64 (mo 2))).setCell ⟨q9, 3, none⟩ (.int .i64 (mo 3)) = w13 at *
    have K9 := HKN
    have K8 := Lib.hid (K8.out.chg HST.out (by have := HNE.out; show ¬ q8 = q9; omega))
    have HBC := Lib.hid (HBC.out.trans (HST.out.below HBC.out.size fun k e => by have e : k = q9 := e; have := HNE.out; omega))
    clear HKN HST
    refine Mix.done (by kernel_rfl) (.of_below _ HBC.out) ?_
    intro w14 hb14
    have HBC := Lib.hid (bt HBC.out hb14)
    have K8 := Lib.hid (K8.out.below hb14); have K9 := Lib.hid (K9.out.below hb14)
    clear hb14
    have HBW := Lib.hid (bt HBW.out HBC.out)
    clear HBC
    go_wp2
    go_loopw [10] (fun kv wr => ∃ k : Nat, k ≤ 4 ∧ kv = .int .i64 k ∧ Hid (∀ j, j < k → s j + mo j ≤ cap.2) ∧ Hid (Below w14.heap.size w14 wr)) (fun kv _ => 4 - (intOf kv).toNat)
    case atStart => exact ⟨0, by omega, rfl, Lib.hid (fun j hj => by omega), Lib.hid (Below.refl _ _)⟩
    case round =>
      obtain ⟨k, hk, rfl, HLE, HB15⟩ := hrel
      obtain ⟨w15, rfl⟩ : ∃ w15, w15 = wr := ⟨_, rfl⟩
      have HBV := Lib.hid (bt HBW.out HB15.out)
      by_cases hk4 : k < 4
      · have hks : (k : Int) < 4 := by omega
        have f8 := (K8.out.below HB15.out).cell hk4
        have f9 := (K9.out.below HB15.out).cell hk4
        have l8 := (K8.out.below HB15.out).lt
        have l9 := (K9.out.below HB15.out).lt
        obtain ⟨z0, zM, z1⟩ := (HM1.out.below HBV.out).cells
        have q0 := (HM1.out.below HBV.out).lt
        have hsb := HSB.out k hk4
        have hwr : IntKind.i64.wrap (cap.2 - s k) = cap.2 - s k := IntWalk.i64_in _ (by have := HC2.out; omega)
        by_cases hbig : cap.2 - s k < mo k
        · have hgd : decide (cap.2 - s k < mo k) = true := decide_eq_true hbig
          have HBG := Lib.hid (show bigS cap.2 (S.map Oa.pl) avs = true from by
            unfold bigS
            rw [Bool.not_eq_true', decide_eq_false_iff_not]
            rintro ⟨h0, h1, h2, h3⟩
            have e : s k = sumA totA (S.map Oa.pl) k := by rw [HSQ.out]
            have e2 : mo k = kS avs k := by rw [HMQ.out]
            have hk' : k = 0 ∨ k = 1 ∨ k = 2 ∨ k = 3 := by omega
            rcases hk' with rfl | rfl | rfl | rfl <;> omega)
          clear hbig hsb
          go_wp2
          refine wp_region_pure (by kernel_rfl) (by kernel_rfl) ?_
          repeat (first | go_big_quiet_step (fail) | (quiet_step (fail)))
          refine wpQuiet_nil ?_
          rintro w16 ⟨x7, hx7⟩
          have hb7 := ext_below _ x7
          rw [← hx7] at hb7
          have HBX := Lib.hid (bt HBV.out hb7)
          clear hx7 x7 hb7 z0 zM z1 q0 f8 f9 l8 l9 hwr hgd
          obtain ⟨z0, zM, z1⟩ := (HM1.out.below HBX.out).cells
          have q0 := (HM1.out.below HBX.out).lt
          have hs3 := HM3.out.below HBX.out
          obtain ⟨s0, sM, s1⟩ := hs3.cells
          have s2 := hs3.fz 0; have s3 := hs3.fz 1; have s4 := hs3.fz 2
          have q2 := hs3.lt
          have HR2 := Lib.hid (hs3.set2 cap (.slice a n cp))
          clear hs3
          go_wp2
          rw [show regP cap.1 cap.2 (S.map Oa.pl) ai avs = S.map Oa.pl from by unfold regP; rw [if_pos HOK.out, HFN.out]; simp only; rw [HBG.out]; rfl,
            show regB cap.1 cap.2 (S.map Oa.pl) ai avs = false from by unfold regB; rw [if_pos HOK.out, HFN.out]; simp only; rw [HBG.out]; rfl,
            show regE cap.1 cap.2 (S.map Oa.pl) ai avs = 31 from by unfold regE; rw [if_pos HOK.out, HFN.out]; simp only; rw [HBG.out]; rfl]
          refine bodyPost_ret (res_mbe Try.results56 rfl HR2.out) rfl ?_
          have hs0 := HM3.out.lt; have hs1 := HBX.out.size; have hds := HDS.out
          refine RetD.same HL.out HSO.out ?_ rfl rfl
          rw [← HBQ.out]
          exact HB3.out.trans ((HBX.out.mono (by omega)).trans ((mb_chg w16 b2 (.int .i64 cap.1) (.int .i64 cap.2) (.slice a n cp)).below (by omega) fun k e => by have e : k = b2 := e; omega))
        · have hgd : decide (cap.2 - s k < mo k) = false := decide_eq_false hbig
          have HLE2 := Lib.hid (show ∀ j, j < k + 1 → s j + mo j ≤ cap.2 from fun j hj => by
            rcases Nat.lt_succ_iff_lt_or_eq.1 hj with h | rfl
            · exact HLE.out j h
            · omega)
          clear hbig hsb
          go_wp2
          refine wp_region_pure (by kernel_rfl) (by kernel_rfl) ?_
          repeat (first | go_big_quiet_step (fail) | (quiet_step (fail)))
          refine wpQuiet_nil ?_
          rintro w16 ⟨x7, hx7⟩
          have hb7 := ext_below _ x7
          rw [← hx7] at hb7
          have HB16 := Lib.hid (bt HB15.out hb7)
          clear hx7 x7 hb7 z0 zM z1 q0 f8 f9 l8 l9 hwr hgd
          go_wp2
          go_roundw
          case rel => exact ⟨k + 1, by omega, by go_num, HLE2, HB16⟩
          case measure => simp [intOf]; omega
      · obtain rfl : k = 4 := by omega
        have HBG := Lib.hid (show bigS cap.2 (S.map Oa.pl) avs = false from by
          unfold bigS
          rw [Bool.not_eq_false', decide_eq_true_eq, ← HSQ.out, ← HMQ.out]
          exact ⟨HLE.out 0 (by decide), HLE.out 1 (by decide), HLE.out 2 (by decide), HLE.out 3 (by decide)⟩)
        by_cases hcp : cap.1 ≤ (n : Int)
        · have hcd : decide (cap.1 ≤ (n : Int)) = true := decide_eq_true hcp
          have hcc : cap.1 ≤ ((S.map Oa.pl).length : Nat) := by rw [List.length_map, ← HN.out]; exact hcp
          have HCC := Lib.hid hcc
          clear hcc
          obtain ⟨z0, zM, z1⟩ := (HM1.out.below HBV.out).cells
          have q0 := (HM1.out.below HBV.out).lt
          have hs3 := HM3.out.below HBV.out
          obtain ⟨s0, sM, s1⟩ := hs3.cells
          have s2 := hs3.fz 0; have s3 := hs3.fz 1; have s4 := hs3.fz 2
          have q2 := hs3.lt
          have HR2 := Lib.hid (hs3.set2 cap (.slice a n cp))
          clear hs3
          go_wp2
          rw [show regP cap.1 cap.2 (S.map Oa.pl) ai avs = S.map Oa.pl from by unfold regP; rw [if_pos HOK.out, HFN.out]; simp only; rw [HBG.out]; simp only [Bool.false_eq_true, if_false, if_pos HCC.out],
            show regB cap.1 cap.2 (S.map Oa.pl) ai avs = false from by unfold regB; rw [if_pos HOK.out, HFN.out]; simp only; rw [HBG.out]; simp only [Bool.false_eq_true, if_false, if_pos HCC.out],
            show regE cap.1 cap.2 (S.map Oa.pl) ai avs = 32 from by unfold regE; rw [if_pos HOK.out, HFN.out]; simp only; rw [HBG.out]; simp only [Bool.false_eq_true, if_false, if_pos HCC.out]]
          refine bodyPost_ret (res_mbe Try.results56 rfl HR2.out) rfl ?_
          have hs0 := HM3.out.lt; have hs1 := HBV.out.size; have hds := HDS.out
          refine RetD.same HL.out HSO.out ?_ rfl rfl
          rw [← HBQ.out]
          exact HB3.out.trans ((HBV.out.mono (by omega)).trans ((mb_chg w15 b2 (.int .i64 cap.1) (.int .i64 cap.2) (.slice a n cp)).below (by omega) fun k e => by have e : k = b2 := e; omega))
        · have hcd : decide (cap.1 ≤ (n : Int)) = false := decide_eq_false hcp
          have HCC := Lib.hid (show ¬ cap.1 ≤ ((S.map Oa.pl).length : Nat) from by rw [List.length_map, ← HN.out]; exact hcp)
          obtain ⟨z0, zM, z1⟩ := (HM1.out.below HBV.out).cells
          have q0 := (HM1.out.below HBV.out).lt
          have hm2 : BA w15 b1 _ := (HBV.out.block _ HM2.out.lt).trans HM2.out
          obtain ⟨x0, x1, x2, x3⟩ := hm2.cells
          simp only at x0 x1 x2 x3
          have x4 := hm2.lt
          have HBZ := Lib.hid (show Below w.heap.size w w15 from by rw [← HBQ.out]; exact HB3.out.trans (HBV.out.mono (by have := HM3.out.lt; have := HDS.out; omega)))
          clear hm2 hcp
          go_wp2_with fail
          refine (mwith (f := ⟨ai, va, vn, vc, avs, va, vn, vc, avs⟩) (HL.out.rs.below HBZ.out) HSO.out (by rw [← HN.out]; exact HLN.out)).mono ?_
          rintro e w16 ⟨v', rfl, hv1, hv2, hb16⟩
          obtain ⟨a', n', c', rfl, -, -, -, -⟩ := RS.at_ hv1
          have HV1 := Lib.hid hv1; have HV2 := Lib.hid hv2
          have HBX := Lib.hid (bt HBV.out hb16)
          have HB1516 := Lib.hid hb16
          clear hv1 hv2 hb16 z0 zM z1 q0 x0 x1 x2 x3 x4 hcd
          have hs3 := HM3.out.below HBX.out
          obtain ⟨s0, sM, s1⟩ := hs3.cells
          have s2 := hs3.fz 0; have s3 := hs3.fz 1; have s4 := hs3.fz 2
          have q2 := hs3.lt
          have HR2 := Lib.hid (hs3.set2 cap (.slice a' n' c'))
          have HMC := Lib.hid (mb_chg w16 b2 (.int .i64 cap.1) (.int .i64 cap.2) (.slice a' n' c'))
          clear hs3
          go_wp2
          rw [show regB cap.1 cap.2 (S.map Oa.pl) ai avs = true from by unfold regB; rw [if_pos HOK.out, HFN.out]; simp only; rw [HBG.out]; simp only [Bool.false_eq_true, if_false, if_neg (Int.not_le.2 HCC.out)],
            show regE cap.1 cap.2 (S.map Oa.pl) ai avs = 0 from by unfold regE; rw [if_pos HOK.out, HFN.out]; simp only; rw [HBG.out]; simp only [Bool.false_eq_true, if_false, if_neg (Int.not_le.2 HCC.out)]]
          refine bodyPost_ret (res_mbe Try.results56 rfl HR2.out) rfl ?_
          have hs0 := HM3.out.lt; have hs1 := HBX.out.size; have hds := HDS.out; have hbq := HBQ.out; have hs15 := HBV.out.size
          have hbl : Below w.heap.size w _ := HBZ.out.trans ((HB1516.out.mono HBZ.out.size).trans (HMC.out.below (B := w.heap.size) (by omega) fun k e => by have e : k = b2 := e; omega))
          refine ⟨_, putO S ⟨ai, va, vn, vc, avs, va, vn, vc, avs⟩, rfl, ⟨RS.chg HV1.out HMC.out fun k hk e => by have := HV2.out k hk; have e : k = b2 := e; omega, fun y hy => ?_⟩, ?_, HSO.out.put ordO _, fun G hG hd hva hua => ⟨.inr fun k hk hg => by have := HV2.out k hk; have := hG k hg; omega, fun y hy => ?_⟩, hbl⟩
          · rcases Srt.mem_put.1 hy with rfl | ⟨hy, _⟩
            · exact ⟨HVV.out.on hbl, HVV.out.on hbl⟩
            · exact ⟨(HL.out.vec y hy).1.on hbl, (HL.out.vec y hy).2.on hbl⟩
          · rw [plo_put]
            unfold regP
            rw [if_pos HOK.out, HFN.out]
            simp only
            rw [HBG.out]
            simp only [Bool.false_eq_true, if_false, if_neg (Int.not_le.2 HCC.out)]
          · rcases Srt.mem_put.1 hy with rfl | ⟨hy, _⟩
            · exact ⟨hva, hva⟩
            · exact hd.vec y hy
  · have HQ1 := Lib.hid (show w2.heap.size ≤ w6.heap.size from HBC.out.size)
    have hk := KS.made w6 Z4 44
    have hba := ba (Below.refl w6.heap.size w6) (.cells (C4 Z4) 44)
    have HBC := Lib.hid (bt HBC.out hba)
    refine Mix.op rfl (by kernel_rfl) ?_
    go_simp
    generalize w6.alloc (.cells (C4 Z4) 44) = w7 at *
    obtain ⟨q9, hqi⟩ : ∃ q, q = w6.heap.size := ⟨_, rfl⟩
    rw [← hqi] at hk ⊢
    have K9 := Lib.hid hk
    have HQV := Lib.hid hqi
    clear hk hqi
    clear hba
    refine Mix.all (rs := [5]) (by kernel_rfl) (by simp) (.of_below _ HBC.out) ?_
    intro i8 hi8 w8 hb8 hC8
    simp only [List.mem_cons, List.not_mem_nil, or_false] at hi8
    subst hi8
    have HBC := Lib.hid (bt HBC.out hb8)
    have HQ2 := Lib.hid (show w2.heap.size ≤ q9 ∧ q9 < w8.heap.size from ⟨by have := HQV.out; have := HQ1.out; omega, (K9.out.below hb8).lt⟩)
    have K9 := Lib.hid (K9.out.below hb8)
    clear hC8 hb8
    have hk := KS.made w8 Z4 44
    have hba := ba (Below.refl w8.heap.size w8) (.cells (C4 Z4) 44)
    have HBC := Lib.hid (bt HBC.out hba)
    refine Mix.op rfl (by kernel_rfl) ?_
    go_simp
    generalize w8.alloc (.cells (C4 Z4) 44) = w9 at *
    obtain ⟨q8, hqi⟩ : ∃ q, q = w8.heap.size := ⟨_, rfl⟩
    rw [← hqi] at hk ⊢
    have K8 := Lib.hid hk
    have HQV := Lib.hid hqi
    clear hk hqi
    have K9 := Lib.hid (K9.out.below hba)
    have HNE := Lib.hid (show w2.heap.size ≤ q8 ∧ w2.heap.size ≤ q9 ∧ q8 ≠ q9 from by have := HQ2.out; have := HQV.out; omega)
    clear hba
    refine Mix.all (rs := [7]) (by kernel_rfl) (by simp) (.of_below _ HBC.out) ?_
    intro i10 hi10 w10 hb10 hC10
    simp only [List.mem_cons, List.not_mem_nil, or_false] at hi10
    subst hi10
    have HBC := Lib.hid (bt HBC.out hb10)
    have K8 := Lib.hid (K8.out.below hb10); have K9 := Lib.hid (K9.out.below hb10)
    clear hC10 hb10
    obtain ⟨r0, r1, r2, r3⟩ := K8.out.cells
    have r4 := K8.out.lt
    have g0 := K8.out.fz 0; have g1 := K8.out.fz 1; have g2 := K8.out.fz 2; have g3 := K8.out.fz 3
    have HST := Lib.hid (ks_chg w10 q8 (.int .i64 (s 0)) (.int .i64 (s 1)) (.int .i64 (s 2)) (.int .i64 (s 3)))
    have HKN := Lib.hid (K8.out.set4 s)
    refine Mix.op rfl (by kernel_rfl) ?_
    go_simp
    clear r0 r1 r2 r3 r4 g0 g1 g2 g3
    generalize ((((w10).setCell ⟨q8, 0, none⟩ (.int .i64 (s 0))).setCell ⟨q8, 1, none⟩ (.int .i64 (s 1))).setCell ⟨q8, 2, none⟩ (.int .i64 (s 2))).setCell ⟨q8, 3, none⟩ (.int .i64 (s 3)) = w11 at *
    have K8 := HKN
    have K9 := Lib.hid (K9.out.chg HST.out (by have := HNE.out; show ¬ q9 = q8; omega))
    have HBC := Lib.hid (HBC.out.trans (HST.out.below HBC.out.size fun k e => by have e : k = q8 := e; have := HNE.out; omega))
    clear HKN HST
    refine Mix.all (rs := [8]) (by kernel_rfl) (by simp) (.of_below _ HBC.out) ?_
    intro i12 hi12 w12 hb12 hC12
    simp only [List.mem_cons, List.not_mem_nil, or_false] at hi12
    subst hi12
    have HBC := Lib.hid (bt HBC.out hb12)
    have K8 := Lib.hid (K8.out.below hb12); have K9 := Lib.hid (K9.out.below hb12)
    clear hC12 hb12
    obtain ⟨r0, r1, r2, r3⟩ := K9.out.cells
    have r4 := K9.out.lt
    have g0 := K9.out.fz 0; have g1 := K9.out.fz 1; have g2 := K9.out.fz 2; have g3 := K9.out.fz 3
    have HST := Lib.hid (ks_chg w12 q9 (.int .i64 (mo 0)) (.int .i64 (mo 1)) (.int .i64 (mo 2)) (.int .i64 (mo 3)))
    have HKN := Lib.hid (K9.out.set4 mo)
    refine Mix.op rfl (by kernel_rfl) ?_
    go_simp
    clear r0 r1 r2 r3 r4 g0 g1 g2 g3
    generalize ((((w12).setCell ⟨q9, 0, none⟩ (.int .i64 (mo 0))).setCell ⟨q9, 1, none⟩ (.int .i64 (mo 1))).setCell ⟨q9, 2, none⟩ (.int .i64 (mo 2))).setCell ⟨q9, 3, none⟩ (.int .i64 (mo 3)) = w13 at *
    have K9 := HKN
    have K8 := Lib.hid (K8.out.chg HST.out (by have := HNE.out; show ¬ q8 = q9; omega))
    have HBC := Lib.hid (HBC.out.trans (HST.out.below HBC.out.size fun k e => by have e : k = q9 := e; have := HNE.out; omega))
    clear HKN HST
    refine Mix.done (by kernel_rfl) (.of_below _ HBC.out) ?_
    intro w14 hb14
    have HBC := Lib.hid (bt HBC.out hb14)
    have K8 := Lib.hid (K8.out.below hb14); have K9 := Lib.hid (K9.out.below hb14)
    clear hb14
    have HBW := Lib.hid (bt HBW.out HBC.out)
    clear HBC
    go_wp2
    go_loopw [10] (fun kv wr => ∃ k : Nat, k ≤ 4 ∧ kv = .int .i64 k ∧ Hid (∀ j, j < k → s j + mo j ≤ cap.2) ∧ Hid (Below w14.heap.size w14 wr)) (fun kv _ => 4 - (intOf kv).toNat)
    case atStart => exact ⟨0, by omega, rfl, Lib.hid (fun j hj => by omega), Lib.hid (Below.refl _ _)⟩
    case round =>
      obtain ⟨k, hk, rfl, HLE, HB15⟩ := hrel
      obtain ⟨w15, rfl⟩ : ∃ w15, w15 = wr := ⟨_, rfl⟩
      have HBV := Lib.hid (bt HBW.out HB15.out)
      by_cases hk4 : k < 4
      · have hks : (k : Int) < 4 := by omega
        have f8 := (K8.out.below HB15.out).cell hk4
        have f9 := (K9.out.below HB15.out).cell hk4
        have l8 := (K8.out.below HB15.out).lt
        have l9 := (K9.out.below HB15.out).lt
        obtain ⟨z0, zM, z1⟩ := (HM1.out.below HBV.out).cells
        have q0 := (HM1.out.below HBV.out).lt
        have hsb := HSB.out k hk4
        have hwr : IntKind.i64.wrap (cap.2 - s k) = cap.2 - s k := IntWalk.i64_in _ (by have := HC2.out; omega)
        by_cases hbig : cap.2 - s k < mo k
        · have hgd : decide (cap.2 - s k < mo k) = true := decide_eq_true hbig
          have HBG := Lib.hid (show bigS cap.2 (S.map Oa.pl) avs = true from by
            unfold bigS
            rw [Bool.not_eq_true', decide_eq_false_iff_not]
            rintro ⟨h0, h1, h2, h3⟩
            have e : s k = sumA totA (S.map Oa.pl) k := by rw [HSQ.out]
            have e2 : mo k = kS avs k := by rw [HMQ.out]
            have hk' : k = 0 ∨ k = 1 ∨ k = 2 ∨ k = 3 := by omega
            rcases hk' with rfl | rfl | rfl | rfl <;> omega)
          clear hbig hsb
          go_wp2
          refine wp_region_pure (by kernel_rfl) (by kernel_rfl) ?_
          repeat (first | go_big_quiet_step (fail) | (quiet_step (fail)))
          refine wpQuiet_nil ?_
          rintro w16 ⟨x7, hx7⟩
          have hb7 := ext_below _ x7
          rw [← hx7] at hb7
          have HBX := Lib.hid (bt HBV.out hb7)
          clear hx7 x7 hb7 z0 zM z1 q0 f8 f9 l8 l9 hwr hgd
          obtain ⟨z0, zM, z1⟩ := (HM1.out.below HBX.out).cells
          have q0 := (HM1.out.below HBX.out).lt
          have hs3 := HM3.out.below HBX.out
          obtain ⟨s0, sM, s1⟩ := hs3.cells
          have s2 := hs3.fz 0; have s3 := hs3.fz 1; have s4 := hs3.fz 2
          have q2 := hs3.lt
          have HR2 := Lib.hid (hs3.set2 cap (.slice a n cp))
          clear hs3
          go_wp2
          rw [show regP cap.1 cap.2 (S.map Oa.pl) ai avs = S.map Oa.pl from by unfold regP; rw [if_pos HOK.out, HFN.out]; simp only; rw [HBG.out]; rfl,
            show regB cap.1 cap.2 (S.map Oa.pl) ai avs = false from by unfold regB; rw [if_pos HOK.out, HFN.out]; simp only; rw [HBG.out]; rfl,
            show regE cap.1 cap.2 (S.map Oa.pl) ai avs = 31 from by unfold regE; rw [if_pos HOK.out, HFN.out]; simp only; rw [HBG.out]; rfl]
          refine bodyPost_ret (res_mbe Try.results56 rfl HR2.out) rfl ?_
          have hs0 := HM3.out.lt; have hs1 := HBX.out.size; have hds := HDS.out
          refine RetD.same HL.out HSO.out ?_ rfl rfl
          rw [← HBQ.out]
          exact HB3.out.trans ((HBX.out.mono (by omega)).trans ((mb_chg w16 b2 (.int .i64 cap.1) (.int .i64 cap.2) (.slice a n cp)).below (by omega) fun k e => by have e : k = b2 := e; omega))
        · have hgd : decide (cap.2 - s k < mo k) = false := decide_eq_false hbig
          have HLE2 := Lib.hid (show ∀ j, j < k + 1 → s j + mo j ≤ cap.2 from fun j hj => by
            rcases Nat.lt_succ_iff_lt_or_eq.1 hj with h | rfl
            · exact HLE.out j h
            · omega)
          clear hbig hsb
          go_wp2
          refine wp_region_pure (by kernel_rfl) (by kernel_rfl) ?_
          repeat (first | go_big_quiet_step (fail) | (quiet_step (fail)))
          refine wpQuiet_nil ?_
          rintro w16 ⟨x7, hx7⟩
          have hb7 := ext_below _ x7
          rw [← hx7] at hb7
          have HB16 := Lib.hid (bt HB15.out hb7)
          clear hx7 x7 hb7 z0 zM z1 q0 f8 f9 l8 l9 hwr hgd
          go_wp2
          go_roundw
          case rel => exact ⟨k + 1, by omega, by go_num, HLE2, HB16⟩
          case measure => simp [intOf]; omega
      · obtain rfl : k = 4 := by omega
        have HBG := Lib.hid (show bigS cap.2 (S.map Oa.pl) avs = false from by
          unfold bigS
          rw [Bool.not_eq_false', decide_eq_true_eq, ← HSQ.out, ← HMQ.out]
          exact ⟨HLE.out 0 (by decide), HLE.out 1 (by decide), HLE.out 2 (by decide), HLE.out 3 (by decide)⟩)
        by_cases hcp : cap.1 ≤ (n : Int)
        · have hcd : decide (cap.1 ≤ (n : Int)) = true := decide_eq_true hcp
          have hcc : cap.1 ≤ ((S.map Oa.pl).length : Nat) := by rw [List.length_map, ← HN.out]; exact hcp
          have HCC := Lib.hid hcc
          clear hcc
          obtain ⟨z0, zM, z1⟩ := (HM1.out.below HBV.out).cells
          have q0 := (HM1.out.below HBV.out).lt
          have hs3 := HM3.out.below HBV.out
          obtain ⟨s0, sM, s1⟩ := hs3.cells
          have s2 := hs3.fz 0; have s3 := hs3.fz 1; have s4 := hs3.fz 2
          have q2 := hs3.lt
          have HR2 := Lib.hid (hs3.set2 cap (.slice a n cp))
          clear hs3
          go_wp2
          rw [show regP cap.1 cap.2 (S.map Oa.pl) ai avs = S.map Oa.pl from by unfold regP; rw [if_pos HOK.out, HFN.out]; simp only; rw [HBG.out]; simp only [Bool.false_eq_true, if_false, if_pos HCC.out],
            show regB cap.1 cap.2 (S.map Oa.pl) ai avs = false from by unfold regB; rw [if_pos HOK.out, HFN.out]; simp only; rw [HBG.out]; simp only [Bool.false_eq_true, if_false, if_pos HCC.out],
            show regE cap.1 cap.2 (S.map Oa.pl) ai avs = 32 from by unfold regE; rw [if_pos HOK.out, HFN.out]; simp only; rw [HBG.out]; simp only [Bool.false_eq_true, if_false, if_pos HCC.out]]
          refine bodyPost_ret (res_mbe Try.results56 rfl HR2.out) rfl ?_
          have hs0 := HM3.out.lt; have hs1 := HBV.out.size; have hds := HDS.out
          refine RetD.same HL.out HSO.out ?_ rfl rfl
          rw [← HBQ.out]
          exact HB3.out.trans ((HBV.out.mono (by omega)).trans ((mb_chg w15 b2 (.int .i64 cap.1) (.int .i64 cap.2) (.slice a n cp)).below (by omega) fun k e => by have e : k = b2 := e; omega))
        · have hcd : decide (cap.1 ≤ (n : Int)) = false := decide_eq_false hcp
          have HCC := Lib.hid (show ¬ cap.1 ≤ ((S.map Oa.pl).length : Nat) from by rw [List.length_map, ← HN.out]; exact hcp)
          obtain ⟨z0, zM, z1⟩ := (HM1.out.below HBV.out).cells
          have q0 := (HM1.out.below HBV.out).lt
          have hm2 : BA w15 b1 _ := (HBV.out.block _ HM2.out.lt).trans HM2.out
          obtain ⟨x0, x1, x2, x3⟩ := hm2.cells
          simp only at x0 x1 x2 x3
          have x4 := hm2.lt
          have HBZ := Lib.hid (show Below w.heap.size w w15 from by rw [← HBQ.out]; exact HB3.out.trans (HBV.out.mono (by have := HM3.out.lt; have := HDS.out; omega)))
          clear hm2 hcp
          go_wp2_with fail
          refine (mwith (f := ⟨ai, va, vn, vc, avs, va, vn, vc, avs⟩) (HL.out.rs.below HBZ.out) HSO.out (by rw [← HN.out]; exact HLN.out)).mono ?_
          rintro e w16 ⟨v', rfl, hv1, hv2, hb16⟩
          obtain ⟨a', n', c', rfl, -, -, -, -⟩ := RS.at_ hv1
          have HV1 := Lib.hid hv1; have HV2 := Lib.hid hv2
          have HBX := Lib.hid (bt HBV.out hb16)
          have HB1516 := Lib.hid hb16
          clear hv1 hv2 hb16 z0 zM z1 q0 x0 x1 x2 x3 x4 hcd
          have hs3 := HM3.out.below HBX.out
          obtain ⟨s0, sM, s1⟩ := hs3.cells
          have s2 := hs3.fz 0; have s3 := hs3.fz 1; have s4 := hs3.fz 2
          have q2 := hs3.lt
          have HR2 := Lib.hid (hs3.set2 cap (.slice a' n' c'))
          have HMC := Lib.hid (mb_chg w16 b2 (.int .i64 cap.1) (.int .i64 cap.2) (.slice a' n' c'))
          clear hs3
          go_wp2
          rw [show regB cap.1 cap.2 (S.map Oa.pl) ai avs = true from by unfold regB; rw [if_pos HOK.out, HFN.out]; simp only; rw [HBG.out]; simp only [Bool.false_eq_true, if_false, if_neg (Int.not_le.2 HCC.out)],
            show regE cap.1 cap.2 (S.map Oa.pl) ai avs = 0 from by unfold regE; rw [if_pos HOK.out, HFN.out]; simp only; rw [HBG.out]; simp only [Bool.false_eq_true, if_false, if_neg (Int.not_le.2 HCC.out)]]
          refine bodyPost_ret (res_mbe Try.results56 rfl HR2.out) rfl ?_
          have hs0 := HM3.out.lt; have hs1 := HBX.out.size; have hds := HDS.out; have hbq := HBQ.out; have hs15 := HBV.out.size
          have hbl : Below w.heap.size w _ := HBZ.out.trans ((HB1516.out.mono HBZ.out.size).trans (HMC.out.below (B := w.heap.size) (by omega) fun k e => by have e : k = b2 := e; omega))
          refine ⟨_, putO S ⟨ai, va, vn, vc, avs, va, vn, vc, avs⟩, rfl, ⟨RS.chg HV1.out HMC.out fun k hk e => by have := HV2.out k hk; have e : k = b2 := e; omega, fun y hy => ?_⟩, ?_, HSO.out.put ordO _, fun G hG hd hva hua => ⟨.inr fun k hk hg => by have := HV2.out k hk; have := hG k hg; omega, fun y hy => ?_⟩, hbl⟩
          · rcases Srt.mem_put.1 hy with rfl | ⟨hy, _⟩
            · exact ⟨HVV.out.on hbl, HVV.out.on hbl⟩
            · exact ⟨(HL.out.vec y hy).1.on hbl, (HL.out.vec y hy).2.on hbl⟩
          · rw [plo_put]
            unfold regP
            rw [if_pos HOK.out, HFN.out]
            simp only
            rw [HBG.out]
            simp only [Bool.false_eq_true, if_false, if_neg (Int.not_le.2 HCC.out)]
          · rcases Srt.mem_put.1 hy with rfl | ⟨hy, _⟩
            · exact ⟨hva, hva⟩
            · exact hd.vec y hy
end
end
end Go.Proofs.Ytennhfkhdfalfaa

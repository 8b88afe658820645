/- manciplelaw28.does: an act on queues and on lists, alike. -/
import Derived.Test.YtnckjacbkhoppaaQM8
import Derived.Test.YtnckjacbkhoppaaQ9
namespace Go.Proofs.Ytnckjacbkhoppaa
open Go.RowKit Go.Maps
attribute [local go_sem] ext_cell ext_frozen extC_cell extC_frozen Mix.calmUpon Mix.mUpon
structure Ac where
  kind : Int
  frame : Int
  n : Int
  va : Option Addr
  vn : Nat
  vc : Nat
  l : List Ev
instance : Inhabited Ac := ⟨⟨0, 0, 0, none, 0, 0, []⟩⟩
def acenc (a : Ac) : List Value := [.int .i64 a.kind, .int .i64 a.frame, .int .i64 a.n, .slice a.va a.vn a.vc]
abbrev acval (a : Ac) : Value := .agg #[.int .i64 a.kind, .int .i64 a.frame, .int .i64 a.n, .slice a.va a.vn a.vc]
abbrev acv (a : Ac) : Value := .slice a.va a.vn a.vc
/-- A block that holds an act. -/
def AB (w : World) (b : Nat) (a : Ac) : Prop := w.heap[b]? = some (.cells #[.int .i64 a.kind, .int .i64 a.frame, .int .i64 a.n, .slice a.va a.vn a.vc] 127 (0, 0))
theorem AB.chg {F : Nat → Prop} {w w' : World} {b : Nat} {a : Ac} (h : AB w b a) (hb : Chg F w w') (hf : ¬ F b) : AB w' b a := (hb.block _ (Array.getElem?_eq_some_iff.1 h).1 hf).trans h
theorem AB.below {w w' : World} {b : Nat} {a : Ac} (h : AB w b a) (hb : Below w.heap.size w w') : AB w' b a := h.chg (.of_below (fun _ => False) hb) id
theorem AB.cells {w : World} {b : Nat} {a : Ac} (h : AB w b a) : w.cell? ⟨b, 0, none⟩ = some (.int .i64 a.kind) ∧ w.cell? ⟨b, 1, none⟩ = some (.int .i64 a.frame) ∧ w.cell? ⟨b, 2, none⟩ = some (.int .i64 a.n) ∧ w.cell? ⟨b, 3, none⟩ = some (.slice a.va a.vn a.vc) := by
  unfold AB at h; simp [World.cell?, h]
/-- The blocks of a call: the list, the act, the answer. -/
structure DB (w wr : World) (b b1 b2 : Nat) (cap : Int) (v : Value) (a : Ac) : Prop where
  m2 : MB wr b cap v
  a3 : AB wr b1 a
  m4 : MB wr b2 0 (.slice none 0 0)
  bel : Below b w wr
  ds : b < b1 ∧ b1 < b2 ∧ b2 < wr.heap.size
theorem DB.on {w wr wr' : World} {b b1 b2 : Nat} {cap : Int} {v : Value} {a : Ac} (h : DB w wr b b1 b2 cap v a) (hb : Below wr.heap.size wr wr') : DB w wr' b b1 b2 cap v a :=
  ⟨h.m2.below hb, h.a3.below hb, h.m4.below hb, h.bel.trans (hb.mono (by have := h.ds; omega)), by have := h.ds; have := hb.size; omega⟩
theorem DB.start (w : World) (cap : Int) (v : Value) (a : Ac) : DB w (((w.alloc (.cells #[.int .i64 cap, v] 123)).alloc (.cells #[.int .i64 a.kind, .int .i64 a.frame, .int .i64 a.n, .slice a.va a.vn a.vc] 127)).alloc (.cells #[.int .i64 0, .slice none 0 0] 123)) w.heap.size (w.heap.size + 1) (w.heap.size + 1 + 1) cap v a := by
  have s1 : (w.alloc (.cells #[.int .i64 cap, v] 123)).heap.size = w.heap.size + 1 := by simp
  have s2 : ((w.alloc (.cells #[.int .i64 cap, v] 123)).alloc (.cells #[.int .i64 a.kind, .int .i64 a.frame, .int .i64 a.n, .slice a.va a.vn a.vc] 127)).heap.size = w.heap.size + 1 + 1 := by simp
  refine ⟨(MB.made w cap _).below (ba (ba (Below.refl _ _) _) _), ?_, ?_, ba (ba (ba (Below.refl _ _) _) _) _, by simp⟩
  · have : AB ((w.alloc (.cells #[.int .i64 cap, v] 123)).alloc (.cells #[.int .i64 a.kind, .int .i64 a.frame, .int .i64 a.n, .slice a.va a.vn a.vc] 127)) (w.heap.size + 1) a := by
      have := heap_alloc_new (w.alloc (.cells #[.int .i64 cap, v] 123)) (.cells #[.int .i64 a.kind, .int .i64 a.frame, .int .i64 a.n, .slice a.va a.vn a.vc] 127)
      rw [s1] at this; exact this
    exact this.below (ba (Below.refl _ _) _)
  · have := MB.made ((w.alloc (.cells #[.int .i64 cap, v] 123)).alloc (.cells #[.int .i64 a.kind, .int .i64 a.frame, .int .i64 a.n, .slice a.va a.vn a.vc] 127)) 0 (.slice none 0 0)
    rw [s2] at this
    exact this
/-- All vectors are short. -/
def Sm (T : List Pq) : Prop := ∀ q ∈ T, ∀ e ∈ q.evs, e.2.2.2.2.length < 1000000
theorem Sm.put {T : List Pq} (h : Sm T) {x : Pq} (hx : ∀ e ∈ x.evs, e.2.2.2.2.length < 1000000) : Sm (putP T x) := fun q hq e he => by
  rcases Srt.mem_put.1 hq with rfl | ⟨hq, _⟩
  · exact hx e he
  · exact h q hq e he
theorem Sm.open_ {T : List Pq} (h : Sm T) (k : Int) : Sm (openM T k) := by
  unfold openM
  cases fndP T k with
  | none => exact h.put fun e he => by cases he
  | some y => exact h
theorem Sm.del {T : List Pq} (h : Sm T) (k : Int) : Sm (delP T k) := fun q hq => h q (Srt.mem_del.1 hq).1
theorem Sm.fnd {T : List Pq} (h : Sm T) {k : Int} {y : Pq} (hy : fndP T k = some y) : ∀ e ∈ y.evs, e.2.2.2.2.length < 1000000 := h y (Srt.fnd_mem hy).1
theorem Sm.put1 {T : List Pq} (h : Sm T) (most : Int) {e : Pe} (he : e.2.2.2.2.length < 1000000) : Sm (put1 most T e) := by
  unfold Go.Proofs.Ytnckjacbkhoppaa.put1
  cases hf : fndP T e.2.1 with
  | none => exact h
  | some y =>
    have hy := h.fnd hf
    simp only
    split
    · exact h.put fun z hz => by
        rcases List.mem_append.1 hz with hz | hz
        · exact hy z (List.mem_of_mem_drop hz)
        · rw [List.mem_singleton.1 hz]; exact he
    · exact h.put fun z hz => by
        rcases List.mem_append.1 hz with hz | hz
        · exact hy z hz
        · rw [List.mem_singleton.1 hz]; exact he
theorem Sm.putM (most : Int) : ∀ {l : List Pe} {T : List Pq}, Sm T → (∀ e ∈ l, e.2.2.2.2.length < 1000000) → Sm (putM most T l)
  | [], _, h, _ => h
  | e :: l, T, h, hl => by
    show Sm (Go.Proofs.Ytnckjacbkhoppaa.putM most (Go.Proofs.Ytnckjacbkhoppaa.put1 most T e) l)
    exact Sm.putM most (h.put1 most (hl e List.mem_cons_self)) fun z hz => hl z (List.mem_cons_of_mem _ hz)
theorem Sm.take {T : List Pq} (h : Sm T) (k n : Int) : Sm (takeM T k n) := by
  unfold takeM
  cases hf : fndP T k with
  | none => exact h
  | some y =>
    simp only
    split
    · exact h
    · exact h.put fun e he => h.fnd hf e (List.mem_of_mem_drop he)
theorem Sm.got {T : List Pq} (h : Sm T) (k n : Int) : ∀ e ∈ gotM T k n, e.2.2.2.2.length < 1000000 := by
  unfold gotM
  cases hf : fndP T k with
  | none => exact fun e he => by cases he
  | some y => exact fun e he => h.fnd hf e (List.mem_of_mem_take he)
/-- The queues, and the list that tells them. -/
structure JS (W w : World) (qp M : Nat) (most : Int) (N L : Nat) (v : Value) (S : List On) (F V : Nat → Prop) : Prop where
  qt : QT w W.heap.size qp M most N (S.map On.pl) F V
  ml : ML w v S
  mk_ : MK F v S
  evl : ∀ o ∈ S, o.l.length ≤ N ∧ 0 ≤ o.lost ∧ o.lost ≤ N ∧ (o.l.length : Int) ≤ most
  bel : Below W.heap.size W w
  len : S.length ≤ L
  sm : Sm (S.map On.pl)
/-- What an act leaves. -/
def JP (W w : World) (v : Value) (S : List On) (F V : Nat → Prop) (qp M : Nat) (most : Int) (N L : Nat) (e : Ending) (w' : World) : Prop :=
  ∃ v' S' F' V', e = .returned (.tuple #[mval most v', .bool true]) ∧ JS W w' qp M most N L v' S' F' V' ∧ Chg F w w' ∧ (∀ k, F' k → F k ∨ w.heap.size ≤ k) ∧ (∀ k, V' k → V k ∨ w.heap.size ≤ k) ∧ ∀ G : Nat → Prop, (∀ k, G k → W.heap.size ≤ k ∧ k < w.heap.size) → MK G v S → MK G v' S'
theorem openO_pl (S : List On) (k : Int) : (openO S k).map On.pl = openM (S.map On.pl) k := by
  unfold openO openM
  rw [plo_fnd]
  cases fndO S k with
  | none => exact plo_put S _
  | some y => rfl
/-- A list that a call by the document answers. -/
def RetL (w : World) (v : Value) (cap : Int) (S S' : List On) (x : Value) (e : Ending) (w' : World) : Prop :=
  ∃ v', e = .returned (.tuple #[mval cap v', x]) ∧ ML w' v' S' ∧ (∀ F : Nat → Prop, (∀ k, F k → k < w.heap.size) → MK F v S → MK F v' S') ∧ Below w.heap.size w w'
theorem RetB.l {w : World} {v : Value} {cap : Int} {S S' : List On} {x : Value} {e : Ending} {w' : World} (h : RetB w v cap S' x e w') (hm : ML w v S) (hs : SO S') (ho : ∀ o ∈ S', o ∈ S ∨ (o.l = [] ∧ o.va = none ∧ o.vn = 0 ∧ o.vc = 0)) : RetL w v cap S S' x e w' := by
  obtain ⟨v', rfl, h1, h2, h3⟩ := h
  have nil : ∀ o : On, (o.l = [] ∧ o.va = none ∧ o.vn = 0 ∧ o.vc = 0) → ov o = .slice none 0 0 ∧ o.l = [] := fun o ⟨e1, e2, e3, e4⟩ => by unfold ov; rw [e2, e3, e4]; exact ⟨rfl, e1⟩
  refine ⟨v', rfl, ⟨h1, fun o hoo => ?_, fun b hb => ?_, fun o hoo b hb => ?_, hs⟩, fun F hF hk => ⟨fun b hb e => ?_, fun o hoo => ?_⟩, h3⟩
  · rcases ho o hoo with h | h
    · exact (hm.ev o h).below h3
    · obtain ⟨e1, e2⟩ := nil o h; rw [e1, e2]; exact EL.nil _
  · rcases h2 b hb with h | h
    · exact Nat.lt_of_lt_of_le (hm.vb b h) h3.size
    · exact h.2
  · rcases ho o hoo with h | h
    · exact Nat.lt_of_lt_of_le (hm.eb o h b hb) h3.size
    · obtain ⟨e1, e2⟩ := nil o h; rw [e1] at hb; cases hb
  · rcases h2 b hb with h | h
    · exact hk.own b h e
    · have := hF b e; omega
  · rcases ho o hoo with h | h
    · exact hk.rec_ o h
    · obtain ⟨e1, e2⟩ := nil o h; rw [e1, e2]; exact ⟨fun b hb => (by cases hb), fun x hx => (by cases hx)⟩
theorem ML.old {F : Nat → Prop} {w : World} {v : Value} {S : List On} (h : ML w v S) (hF : ∀ k, F k → w.heap.size ≤ k) : MK F v S := ⟨fun b hb hf => by have := h.vb b hb; have := hF b hf; omega, fun o ho => (h.ev o ho).old (h.eb o ho) hF⟩
theorem openO_srt {S : List On} (h : SO S) (k : Int) : SO (openO S k) := by
  unfold openO
  cases fndO S k with
  | none => exact h.put ordO _
  | some y => exact h
theorem openO_mem {S : List On} {k : Int} : ∀ o ∈ openO S k, o ∈ S ∨ (o.l = [] ∧ o.va = none ∧ o.vn = 0 ∧ o.vc = 0) := by
  unfold openO
  cases fndO S k with
  | none => exact fun o ho => by rcases Srt.mem_put.1 ho with rfl | ⟨h, _⟩; exact .inr ⟨rfl, rfl, rfl, rfl⟩; exact .inl h
  | some y => exact fun o ho => .inl ho
theorem openO_len (S : List On) (k : Int) : (openO S k).length ≤ S.length + 1 := by
  unfold openO
  cases fndO S k with
  | none => exact Srt.put_le S _
  | some y => exact Nat.le_succ _
section
variable {W w : World} {qp M : Nat} {most : Int} {N L : Nat} {v : Value} {S : List On} {F V : Nat → Prop}
set_option maxRecDepth 100000 in
set_option maxHeartbeats 8000000 in
theorem does_open (h : JS W w qp M most N L v S F V) (hL : L < 800000) (a : Ac) (hk : a.kind = 0) (hf : I64 a.frame) (hmo : 1 ≤ most) : Calls Try.prog 68 #[ptr qp, mval most v, acval a] w (JP W w v S F V qp M most N (L + 1)) := by
  have HJ := Lib.hid h
  obtain ⟨ak, af, an, aa, am, ac, al⟩ := a
  simp only at hk hf
  have hkb : (ak == 0) = true := by simpa using hk
  obtain ⟨q, hq⟩ : ∃ q, q = (fndO S af).isNone := ⟨_, rfl⟩
  have HQC := Lib.hid (show ∀ w5, Below w.heap.size w w5 → Calls Try.prog 72 #[ptr qp, .int .i64 af] w5 fun e w' => e = .returned (.bool q) ∧ QA w5 W.heap.size qp M most N ((openO S af).map On.pl) F V w' from fun w5 hb5 => by
    have h1 := qopen (HJ.out.qt.below hb5) (by have := HJ.out.bel.size; have := hb5.size; omega) (k := af) hf
    rw [plo_fnd, ← openO_pl, show ((fndO S af).map On.pl).isNone = q by rw [hq]; cases fndO S af <;> rfl] at h1
    exact h1)
  have HEV := Lib.hid (show ∀ o ∈ openO S af, o.l.length ≤ N ∧ 0 ≤ o.lost ∧ o.lost ≤ N ∧ (o.l.length : Int) ≤ most from fun o ho => by
    unfold openO at ho
    cases hff : fndO S af with
    | none =>
      rw [hff] at ho
      rcases Srt.mem_put.1 ho with rfl | ⟨h', _⟩
      · exact ⟨Nat.zero_le _, Int.le_refl _, Int.natCast_nonneg _, by show (0 : Int) ≤ most; omega⟩
      · exact HJ.out.evl o h'
    | some y => rw [hff] at ho; exact HJ.out.evl o ho)
  have HLL := Lib.hid (show (openO S af).length ≤ L + 1 from by have h1 := openO_len S af; have h2 := HJ.out.len; omega)
  clear h hk hmo
  obtain ⟨a1, n1, c1, rfl, -, -, -, -⟩ := HJ.out.ml.rs.at_
  have HI := DB.start w most (.slice a1 n1 c1) ⟨ak, af, an, aa, am, ac, al⟩
  obtain ⟨b, hbq⟩ : ∃ b, b = w.heap.size := ⟨_, rfl⟩
  obtain ⟨b1, hb1q⟩ : ∃ b1, b1 = b + 1 := ⟨_, rfl⟩
  obtain ⟨b2, hb2q⟩ : ∃ b2, b2 = b1 + 1 := ⟨_, rfl⟩
  have HBQ := Lib.hid hbq
  rw [← hbq, ← hb1q, ← hb2q] at HI
  replace HI := Lib.hid HI
  go_enter Try.func68, Try.ntmps68
  go_wp2_with fail
  rw [← hbq, ← hb1q, ← hb2q]
  clear hbq hb1q hb2q
  generalize ((w.alloc (.cells #[.int .i64 most, .slice a1 n1 c1] 123)).alloc (.cells #[.int .i64 ak, .int .i64 af, .int .i64 an, .slice aa am ac] 127)).alloc (.cells #[.int .i64 0, .slice none 0 0] 123) = w1 at *
  have HB1 := Lib.hid (show Below w.heap.size w w1 from by have := HI.out.bel; rw [HBQ.out] at this; exact this)
  refine (mopen (cap := most) (HJ.out.ml.rs.below HB1.out) HJ.out.ml.srt (by have := HJ.out.len; omega) af).mono ?_
  intro e w2 hr
  obtain ⟨v2, rfl, hml2, hmk2, hb2⟩ := hr.l (HJ.out.ml.below HB1.out) (openO_srt HJ.out.ml.srt af) openO_mem
  obtain ⟨a2, n2, c2, rfl, -, -, -, -⟩ := hml2.rs.at_
  rw [← hq]
  have HMKB := Lib.hid (show MK (fun j => j = b2) (.slice a2 n2 c2) (openO S af) from hmk2 _ (fun k e => by have h1 : k = b2 := e; have h2 := HI.out.ds; omega) (HJ.out.ml.old fun k e => by have h1 : k = b2 := e; have h2 := HI.out.ds; have h3 := HBQ.out; omega))
  have HMKF := Lib.hid (show MK F (.slice a2 n2 c2) (openO S af) from hmk2 F (fun k e => by have h1 := (HJ.out.qt.fb.1 k e).2.1; have h2 := HB1.out.size; omega) HJ.out.mk_)
  have HMKG := Lib.hid (show ∀ G : Nat → Prop, (∀ k, G k → W.heap.size ≤ k ∧ k < w.heap.size) → MK G (.slice a1 n1 c1) S → MK G (.slice a2 n2 c2) (openO S af) from fun G hG hm => (hmk2 G (fun k e => by have h1 := (hG k e).2; have h2 := HB1.out.size; omega) hm))
  have HSM := Lib.hid (show Sm ((openO S af).map On.pl) from by rw [openO_pl]; exact HJ.out.sm.open_ af)
  clear hr hq hmk2
  -- behind the document's call: v2 (a2, n2, c2) and S2 in world w2; HQC: the queue's call
  have HB2 := Lib.hid hb2
  have HC2 := Lib.hid (HI.out.on hb2)
  have HML2 := Lib.hid hml2
  have HM8 := Lib.hid (MB.made w2 most (.slice a2 n2 c2))
  have HB3 := Lib.hid (ba (Below.refl w2.heap.size w2) (.cells #[.int .i64 most, .slice a2 n2 c2] 123))
  clear hml2 hb2
  obtain ⟨x0, x1, x2, x3⟩ := HC2.out.a3.cells
  have q1 : b1 < w2.heap.size := by have := HC2.out.ds; omega
  go_wp2
  obtain ⟨b8, hb8⟩ : ∃ b8, b8 = w2.heap.size := ⟨_, rfl⟩
  rw [← hb8] at HM8
  rw [← hb8]
  have HB8 := Lib.hid hb8
  generalize w2.alloc (.cells #[.int .i64 most, .slice a2 n2 c2] 123) = w3 at *
  clear x0 x1 x2 x3 q1 hb8
  have HC3 := Lib.hid (HC2.out.on HB3.out)
  have HB03 := Lib.hid (show Below w.heap.size w w3 from bt HB1.out (bt HB2.out HB3.out))
  have HFL := Lib.hid (show ∀ k, w.heap.size ≤ k → ¬ F k ∧ ¬ V k from fun k hk => ⟨fun e => by have := (HJ.out.qt.fb.1 k e).2.1; omega, fun e => by have := (HJ.out.qt.fb.2 k e).2; omega⟩)
  have HDS := Lib.hid (show w.heap.size ≤ b ∧ b < b1 ∧ b1 < b2 ∧ b2 < b8 ∧ b8 < w3.heap.size from by have h1 := HBQ.out; have h2 := HC2.out.ds; have h3 := HB8.out; have h4 := HM8.out.lt; omega)
  obtain ⟨y0, y1⟩ := HM8.out.cells
  obtain ⟨x0, x1, x2, x3⟩ := HC3.out.a3.cells
  have q1 : b1 < w3.heap.size := by have := HDS.out; omega
  have q8 := HM8.out.lt
  have nf1 : ¬ F b1 := (HFL.out b1 (by have := HDS.out; omega)).1
  have nf8 : ¬ F b8 := (HFL.out b8 (by have := HDS.out; omega)).1
  have nb1 : ¬ b1 = b2 := by have := HDS.out; omega
  have nb8 : ¬ b8 = b2 := by have := HDS.out; omega
  refine Mix.regionC (fun k => F k ∨ k = b2) (by kernel_rfl) ?_
  intro w4 hb4
  refine Mix.take_exC _ _ 0 rfl (by kernel_rfl) (by kernel_rfl) (by kernel_rfl) (by kernel_rfl) (fun K hK => ?_)
  go_simp
  first | (refine hK _ ?_; clear hK K) | (apply Exists.intro; refine ⟨fun x => ?_, hK _ ?_⟩; (fail); clear hK K)
  refine Mix.take_exC _ _ 1 rfl (by kernel_rfl) (by kernel_rfl) (by kernel_rfl) (by kernel_rfl) (fun K hK => ?_)
  go_simp
  first | (refine hK _ ?_; clear hK K) | (apply Exists.intro; refine ⟨fun x => ?_, hK _ ?_⟩; (fail); clear hK K)
  refine Mix.take_exC _ _ 2 rfl (by kernel_rfl) (by kernel_rfl) (by kernel_rfl) (by kernel_rfl) (fun K hK => ?_)
  go_simp
  first | (refine hK _ ?_; clear hK K) | (apply Exists.intro; refine ⟨fun x => ?_, hK _ ?_⟩; (fail); clear hK K)
  refine Mix.take_exC _ _ 3 rfl (by kernel_rfl) (by kernel_rfl) (by kernel_rfl) (by kernel_rfl) (fun K hK => ?_)
  go_simp
  first | (refine hK _ ?_; clear hK K) | (apply Exists.intro; refine ⟨fun x => ?_, hK _ ?_⟩; (fail); clear hK K)
  refine Mix.take_exC _ _ 5 rfl (by kernel_rfl) (by kernel_rfl) (by kernel_rfl) (by kernel_rfl) (fun K hK => ?_)
  go_simp
  first | (refine hK _ ?_; clear hK K) | (apply Exists.intro; refine ⟨fun x => ?_, hK _ ?_⟩; (fail); clear hK K)
  refine Mix.all (rs := [4]) (by kernel_rfl) (by simp) (.of_below _ hb4) ?_
  intro i5 hi5 w5 hb5 hC5
  simp only [List.mem_cons, List.not_mem_nil, or_false] at hi5
  subst hi5
  clear hC5
  have HB5 := Lib.hid (bt hb4 hb5)
  clear hb4 hb5
  refine Mix.op rfl (by kernel_rfl) ?_
  go_simp
  refine (HQC.out w5 (bt HB03.out HB5.out)).mono ?_
  rintro e w6 ⟨rfl, F', V', hq6, hF6, hV6, hc6, -, -⟩
  refine ⟨_, rfl, ?_⟩
  have HQ6 := Lib.hid hq6; have HF6 := Lib.hid hF6; have HV6 := Lib.hid hV6; have HC6 := Lib.hid hc6
  clear hq6 hF6 hV6 hc6 y0 y1 x0 x1 x2 x3 q1 q8 nf1 nf8 nb1 nb8
  refine Mix.take_exC _ _ 6 rfl (by kernel_rfl) (by kernel_rfl) (by kernel_rfl) (by kernel_rfl) (fun K hK => ?_)
  go_simp
  first | (refine hK _ ?_; clear hK K) | (apply Exists.intro; refine ⟨fun x => ?_, hK _ ?_⟩; (fail); clear hK K)
  have HG6 := Lib.hid (show Chg (fun k => F k ∨ k = b2) w3 w6 from (Chg.of_below _ HB5.out).same (HC6.out.mono fun k e => .inl e))
  refine Mix.all (rs := [7]) (by kernel_rfl) (by simp) (HG6.out) ?_
  intro i7 hi7 w7 hb7 hC7
  simp only [List.mem_cons, List.not_mem_nil, or_false] at hi7
  subst hi7
  clear hC7
  have HB7 := Lib.hid hb7
  clear hb7
  have HM7 := Lib.hid ((((HC3.out.m4.below HB5.out).chg HC6.out (HFL.out b2 (by have := HDS.out; omega)).1)).below HB7.out)
  obtain ⟨s0, s1⟩ := HM7.out.cells
  have s2 := HM7.out.fz 0; have s3 := HM7.out.fz 1
  have q2 := HM7.out.lt
  refine Mix.op rfl (by kernel_rfl) ?_
  go_simp
  have HM9 := Lib.hid (HM7.out.set2 most (.slice a2 n2 c2))
  have HST := Lib.hid (show Chg (fun j => j = b2) w7 ((w7.setCell ⟨b2, 0, none⟩ (.int .i64 most)).setCell ⟨b2, 1, none⟩ (.slice a2 n2 c2)) from ((Chg.refl (fun j => j = b2) w7).setCell (p := ⟨b2, 0, none⟩) (.inl rfl) _).setCell (p := ⟨b2, 1, none⟩) (.inl rfl) _)
  clear s0 s1 s2 s3 q2
  generalize (w7.setCell ⟨b2, 0, none⟩ (.int .i64 most)).setCell ⟨b2, 1, none⟩ (.slice a2 n2 c2) = w9 at *
  refine Mix.take_exC _ _ 8 rfl (by kernel_rfl) (by kernel_rfl) (by kernel_rfl) (by kernel_rfl) (fun K hK => ?_)
  go_simp
  first | (refine hK _ ?_; clear hK K) | (apply Exists.intro; refine ⟨fun x => ?_, hK _ ?_⟩; (fail); clear hK K)
  refine Mix.done (by kernel_rfl) ((HG6.out.then_below HB7.out).same (HST.out.mono fun k e => .inr e)) ?_
  intro w10 hb10
  have HB10 := Lib.hid hb10
  clear hb10
  go_wp2
  refine bodyPost_ret (res_mt Try.results68 rfl (HM9.out.below HB10.out)) rfl ?_
  have hds := HDS.out
  have hs5 := HB5.out.size
  have nb2 : ¬ F' b2 ∧ ¬ V' b2 := ⟨fun e => by rcases HF6.out b2 e with h | h; exact (HFL.out b2 (by omega)).1 h; omega, fun e => by rcases HV6.out b2 e with h | h; exact (HFL.out b2 (by omega)).2 h; omega⟩
  have hml5 : ML w5 (.slice a2 n2 c2) ((openO S af)) := HML2.out.below (bt HB3.out HB5.out)
  have hmkF : MK F (.slice a2 n2 c2) ((openO S af)) := HMKF.out
  have hml6 : ML w6 (.slice a2 n2 c2) ((openO S af)) := hml5.keep HC6.out hmkF
  have hmkB : MK (fun j => j = b2) (.slice a2 n2 c2) ((openO S af)) := HMKB.out
  have hchg : Chg F w w10 := (((((Chg.of_below F (bt HB03.out HB5.out)).same HC6.out).then_below HB7.out).trans HST.out fun k e => .inr (by have e' : k = b2 := e; omega)).then_below HB10.out)
  exact ⟨_, (openO S af), F', V', rfl, ⟨((HQ6.out.below HB7.out).chg HST.out (fun k hk e => nb2.1 (e ▸ hk)) (fun k hk e => nb2.2 (e ▸ hk))).below HB10.out, ((hml6.below HB7.out).keep HST.out hmkB).below HB10.out, hmkF.more hml5 HF6.out, HEV.out, HJ.out.bel.trans (hchg.below HJ.out.bel.size fun k hk => (HJ.out.qt.fb.1 k hk).1), HLL.out, HSM.out⟩, hchg, fun k hk => (HF6.out k hk).imp id fun h => Nat.le_trans (bt HB03.out HB5.out).size h, fun k hk => (HV6.out k hk).imp id fun h => Nat.le_trans (bt HB03.out HB5.out).size h, HMKG.out⟩
set_option maxRecDepth 100000 in
set_option maxHeartbeats 8000000 in
theorem does_shut (h : JS W w qp M most N L v S F V) (hL : L < 800000) (a : Ac) (hk : a.kind = 1) (hf : I64 a.frame) : Calls Try.prog 68 #[ptr qp, mval most v, acval a] w (JP W w v S F V qp M most N (L + 1)) := by
  have HJ := Lib.hid h
  obtain ⟨ak, af, an, aa, am, ac, al⟩ := a
  simp only at hk hf
  have hkb : (ak == 1) = true := by simpa using hk
  have hkb0 : (ak == 0) = false := by rw [hk]; rfl
  have hsub : ∀ o ∈ delO S af, o ∈ S := fun o ho => (Srt.mem_del.1 ho).1
  have HSUB := Lib.hid hsub
  obtain ⟨q, hq⟩ : ∃ q, q = decide ((delO S af).length < S.length) := ⟨_, rfl⟩
  have hqs : (fndO S af).isSome = q := by
    rw [hq]
    cases hff : fndO S af with
    | some y => have := Srt.del_len h.ml.srt hff; exact (decide_eq_true (show (Srt.del On.frame S af).length < S.length by omega)).symm
    | none => rw [show delO S af = S from Srt.del_same hff]; simp
  have HQC := Lib.hid (show ∀ w5, Below w.heap.size w w5 → Calls Try.prog 104 #[ptr qp, .int .i64 af] w5 fun e w' => e = .returned (.bool q) ∧ QA w5 W.heap.size qp M most N ((delO S af).map On.pl) F V w' from fun w5 hb5 => by
    have h1 := qshut (HJ.out.qt.below hb5) (by have := HJ.out.bel.size; have := hb5.size; omega) (k := af) hf
    rw [plo_fnd, ← plo_del, show ((fndO S af).map On.pl).isSome = q by rw [← hqs]; cases fndO S af <;> rfl] at h1
    exact h1)
  have HEV := Lib.hid (show ∀ o ∈ delO S af, o.l.length ≤ N ∧ 0 ≤ o.lost ∧ o.lost ≤ N ∧ (o.l.length : Int) ≤ most from fun o ho => HJ.out.evl o (HSUB.out o ho))
  have HLL := Lib.hid (show (delO S af).length ≤ L + 1 from by
    have h1 : (delO S af).length ≤ S.length := List.length_filter_le _ _
    have h2 := HJ.out.len; omega)
  clear h hk hsub hqs
  obtain ⟨a1, n1, c1, rfl, -, -, -, -⟩ := HJ.out.ml.rs.at_
  have HI := DB.start w most (.slice a1 n1 c1) ⟨ak, af, an, aa, am, ac, al⟩
  obtain ⟨b, hbq⟩ : ∃ b, b = w.heap.size := ⟨_, rfl⟩
  obtain ⟨b1, hb1q⟩ : ∃ b1, b1 = b + 1 := ⟨_, rfl⟩
  obtain ⟨b2, hb2q⟩ : ∃ b2, b2 = b1 + 1 := ⟨_, rfl⟩
  have HBQ := Lib.hid hbq
  rw [← hbq, ← hb1q, ← hb2q] at HI
  replace HI := Lib.hid HI
  go_enter Try.func68, Try.ntmps68
  go_wp2_with fail
  rw [← hbq, ← hb1q, ← hb2q]
  clear hbq hb1q hb2q
  generalize ((w.alloc (.cells #[.int .i64 most, .slice a1 n1 c1] 123)).alloc (.cells #[.int .i64 ak, .int .i64 af, .int .i64 an, .slice aa am ac] 127)).alloc (.cells #[.int .i64 0, .slice none 0 0] 123) = w1 at *
  have HB1 := Lib.hid (show Below w.heap.size w w1 from by have := HI.out.bel; rw [HBQ.out] at this; exact this)
  refine (mshut (cap := most) (HJ.out.ml.rs.below HB1.out) (by have := HJ.out.len; omega) af).mono ?_
  intro e w2 hr
  obtain ⟨v2, rfl, hml2, hmk2, hb2⟩ := hr.l (HJ.out.ml.below HB1.out) (HJ.out.ml.srt.del af) fun o ho => .inl (HSUB.out o ho)
  obtain ⟨a2, n2, c2, rfl, -, -, -, -⟩ := hml2.rs.at_
  rw [← hq]
  have HMKB := Lib.hid (show MK (fun j => j = b2) (.slice a2 n2 c2) (delO S af) from hmk2 _ (fun k e => by have h1 : k = b2 := e; have h2 := HI.out.ds; omega) (HJ.out.ml.old fun k e => by have h1 : k = b2 := e; have h2 := HI.out.ds; have h3 := HBQ.out; omega))
  have HMKF := Lib.hid (show MK F (.slice a2 n2 c2) (delO S af) from hmk2 F (fun k e => by have h1 := (HJ.out.qt.fb.1 k e).2.1; have h2 := HB1.out.size; omega) HJ.out.mk_)
  have HMKG := Lib.hid (show ∀ G : Nat → Prop, (∀ k, G k → W.heap.size ≤ k ∧ k < w.heap.size) → MK G (.slice a1 n1 c1) S → MK G (.slice a2 n2 c2) (delO S af) from fun G hG hm => (hmk2 G (fun k e => by have h1 := (hG k e).2; have h2 := HB1.out.size; omega) hm))
  have HSM := Lib.hid (show Sm ((delO S af).map On.pl) from by rw [plo_del]; exact HJ.out.sm.del af)
  clear hr hq hmk2
  -- behind the document's call: v2 (a2, n2, c2) and S2 in world w2; HQC: the queue's call
  have HB2 := Lib.hid hb2
  have HC2 := Lib.hid (HI.out.on hb2)
  have HML2 := Lib.hid hml2
  have HM8 := Lib.hid (MB.made w2 most (.slice a2 n2 c2))
  have HB3 := Lib.hid (ba (Below.refl w2.heap.size w2) (.cells #[.int .i64 most, .slice a2 n2 c2] 123))
  clear hml2 hb2
  obtain ⟨x0, x1, x2, x3⟩ := HC2.out.a3.cells
  have q1 : b1 < w2.heap.size := by have := HC2.out.ds; omega
  go_wp2
  obtain ⟨b8, hb8⟩ : ∃ b8, b8 = w2.heap.size := ⟨_, rfl⟩
  rw [← hb8] at HM8
  rw [← hb8]
  have HB8 := Lib.hid hb8
  generalize w2.alloc (.cells #[.int .i64 most, .slice a2 n2 c2] 123) = w3 at *
  clear x0 x1 x2 x3 q1 hb8
  have HC3 := Lib.hid (HC2.out.on HB3.out)
  have HB03 := Lib.hid (show Below w.heap.size w w3 from bt HB1.out (bt HB2.out HB3.out))
  have HFL := Lib.hid (show ∀ k, w.heap.size ≤ k → ¬ F k ∧ ¬ V k from fun k hk => ⟨fun e => by have := (HJ.out.qt.fb.1 k e).2.1; omega, fun e => by have := (HJ.out.qt.fb.2 k e).2; omega⟩)
  have HDS := Lib.hid (show w.heap.size ≤ b ∧ b < b1 ∧ b1 < b2 ∧ b2 < b8 ∧ b8 < w3.heap.size from by have h1 := HBQ.out; have h2 := HC2.out.ds; have h3 := HB8.out; have h4 := HM8.out.lt; omega)
  obtain ⟨y0, y1⟩ := HM8.out.cells
  obtain ⟨x0, x1, x2, x3⟩ := HC3.out.a3.cells
  have q1 : b1 < w3.heap.size := by have := HDS.out; omega
  have q8 := HM8.out.lt
  have nf1 : ¬ F b1 := (HFL.out b1 (by have := HDS.out; omega)).1
  have nf8 : ¬ F b8 := (HFL.out b8 (by have := HDS.out; omega)).1
  have nb1 : ¬ b1 = b2 := by have := HDS.out; omega
  have nb8 : ¬ b8 = b2 := by have := HDS.out; omega
  refine Mix.regionC (fun k => F k ∨ k = b2) (by kernel_rfl) ?_
  intro w4 hb4
  refine Mix.take_exC _ _ 0 rfl (by kernel_rfl) (by kernel_rfl) (by kernel_rfl) (by kernel_rfl) (fun K hK => ?_)
  go_simp
  first | (refine hK _ ?_; clear hK K) | (apply Exists.intro; refine ⟨fun x => ?_, hK _ ?_⟩; (fail); clear hK K)
  refine Mix.take_exC _ _ 1 rfl (by kernel_rfl) (by kernel_rfl) (by kernel_rfl) (by kernel_rfl) (fun K hK => ?_)
  go_simp
  first | (refine hK _ ?_; clear hK K) | (apply Exists.intro; refine ⟨fun x => ?_, hK _ ?_⟩; (fail); clear hK K)
  refine Mix.take_exC _ _ 2 rfl (by kernel_rfl) (by kernel_rfl) (by kernel_rfl) (by kernel_rfl) (fun K hK => ?_)
  go_simp
  first | (refine hK _ ?_; clear hK K) | (apply Exists.intro; refine ⟨fun x => ?_, hK _ ?_⟩; (fail); clear hK K)
  refine Mix.take_exC _ _ 3 rfl (by kernel_rfl) (by kernel_rfl) (by kernel_rfl) (by kernel_rfl) (fun K hK => ?_)
  go_simp
  first | (refine hK _ ?_; clear hK K) | (apply Exists.intro; refine ⟨fun x => ?_, hK _ ?_⟩; (fail); clear hK K)
  refine Mix.take_exC _ _ 5 rfl (by kernel_rfl) (by kernel_rfl) (by kernel_rfl) (by kernel_rfl) (fun K hK => ?_)
  go_simp
  first | (refine hK _ ?_; clear hK K) | (apply Exists.intro; refine ⟨fun x => ?_, hK _ ?_⟩; (fail); clear hK K)
  refine Mix.all (rs := [4]) (by kernel_rfl) (by simp) (.of_below _ hb4) ?_
  intro i5 hi5 w5 hb5 hC5
  simp only [List.mem_cons, List.not_mem_nil, or_false] at hi5
  subst hi5
  clear hC5
  have HB5 := Lib.hid (bt hb4 hb5)
  clear hb4 hb5
  refine Mix.op rfl (by kernel_rfl) ?_
  go_simp
  refine (HQC.out w5 (bt HB03.out HB5.out)).mono ?_
  rintro e w6 ⟨rfl, F', V', hq6, hF6, hV6, hc6, -, -⟩
  refine ⟨_, rfl, ?_⟩
  have HQ6 := Lib.hid hq6; have HF6 := Lib.hid hF6; have HV6 := Lib.hid hV6; have HC6 := Lib.hid hc6
  clear hq6 hF6 hV6 hc6 y0 y1 x0 x1 x2 x3 q1 q8 nf1 nf8 nb1 nb8
  refine Mix.take_exC _ _ 6 rfl (by kernel_rfl) (by kernel_rfl) (by kernel_rfl) (by kernel_rfl) (fun K hK => ?_)
  go_simp
  first | (refine hK _ ?_; clear hK K) | (apply Exists.intro; refine ⟨fun x => ?_, hK _ ?_⟩; (fail); clear hK K)
  have HG6 := Lib.hid (show Chg (fun k => F k ∨ k = b2) w3 w6 from (Chg.of_below _ HB5.out).same (HC6.out.mono fun k e => .inl e))
  refine Mix.all (rs := [7]) (by kernel_rfl) (by simp) (HG6.out) ?_
  intro i7 hi7 w7 hb7 hC7
  simp only [List.mem_cons, List.not_mem_nil, or_false] at hi7
  subst hi7
  clear hC7
  have HB7 := Lib.hid hb7
  clear hb7
  have HM7 := Lib.hid ((((HC3.out.m4.below HB5.out).chg HC6.out (HFL.out b2 (by have := HDS.out; omega)).1)).below HB7.out)
  obtain ⟨s0, s1⟩ := HM7.out.cells
  have s2 := HM7.out.fz 0; have s3 := HM7.out.fz 1
  have q2 := HM7.out.lt
  refine Mix.op rfl (by kernel_rfl) ?_
  go_simp
  have HM9 := Lib.hid (HM7.out.set2 most (.slice a2 n2 c2))
  have HST := Lib.hid (show Chg (fun j => j = b2) w7 ((w7.setCell ⟨b2, 0, none⟩ (.int .i64 most)).setCell ⟨b2, 1, none⟩ (.slice a2 n2 c2)) from ((Chg.refl (fun j => j = b2) w7).setCell (p := ⟨b2, 0, none⟩) (.inl rfl) _).setCell (p := ⟨b2, 1, none⟩) (.inl rfl) _)
  clear s0 s1 s2 s3 q2
  generalize (w7.setCell ⟨b2, 0, none⟩ (.int .i64 most)).setCell ⟨b2, 1, none⟩ (.slice a2 n2 c2) = w9 at *
  refine Mix.take_exC _ _ 8 rfl (by kernel_rfl) (by kernel_rfl) (by kernel_rfl) (by kernel_rfl) (fun K hK => ?_)
  go_simp
  first | (refine hK _ ?_; clear hK K) | (apply Exists.intro; refine ⟨fun x => ?_, hK _ ?_⟩; (fail); clear hK K)
  refine Mix.done (by kernel_rfl) ((HG6.out.then_below HB7.out).same (HST.out.mono fun k e => .inr e)) ?_
  intro w10 hb10
  have HB10 := Lib.hid hb10
  clear hb10
  go_wp2
  refine bodyPost_ret (res_mt Try.results68 rfl (HM9.out.below HB10.out)) rfl ?_
  have hds := HDS.out
  have hs5 := HB5.out.size
  have nb2 : ¬ F' b2 ∧ ¬ V' b2 := ⟨fun e => by rcases HF6.out b2 e with h | h; exact (HFL.out b2 (by omega)).1 h; omega, fun e => by rcases HV6.out b2 e with h | h; exact (HFL.out b2 (by omega)).2 h; omega⟩
  have hml5 : ML w5 (.slice a2 n2 c2) ((delO S af)) := HML2.out.below (bt HB3.out HB5.out)
  have hmkF : MK F (.slice a2 n2 c2) ((delO S af)) := HMKF.out
  have hml6 : ML w6 (.slice a2 n2 c2) ((delO S af)) := hml5.keep HC6.out hmkF
  have hmkB : MK (fun j => j = b2) (.slice a2 n2 c2) ((delO S af)) := HMKB.out
  have hchg : Chg F w w10 := (((((Chg.of_below F (bt HB03.out HB5.out)).same HC6.out).then_below HB7.out).trans HST.out fun k e => .inr (by have e' : k = b2 := e; omega)).then_below HB10.out)
  exact ⟨_, (delO S af), F', V', rfl, ⟨((HQ6.out.below HB7.out).chg HST.out (fun k hk e => nb2.1 (e ▸ hk)) (fun k hk e => nb2.2 (e ▸ hk))).below HB10.out, ((hml6.below HB7.out).keep HST.out hmkB).below HB10.out, hmkF.more hml5 HF6.out, HEV.out, HJ.out.bel.trans (hchg.below HJ.out.bel.size fun k hk => (HJ.out.qt.fb.1 k hk).1), HLL.out, HSM.out⟩, hchg, fun k hk => (HF6.out k hk).imp id fun h => Nat.le_trans (bt HB03.out HB5.out).size h, fun k hk => (HV6.out k hk).imp id fun h => Nat.le_trans (bt HB03.out HB5.out).size h, HMKG.out⟩
set_option maxRecDepth 100000 in
theorem qput_empty (a : Option Addr) (c : Nat) (w : World) : Calls Try.prog 73 #[ptr qp, .slice a 0 c] w fun e w' => e = .returned (.int .i64 0) ∧ Below w.heap.size w w' := by
  go_enter Try.func73, Try.ntmps73
  go_wp2
  go_loopw [5, 12] (fun cv iv wr => cv = .int .i64 0 ∧ iv = .int .i64 0 ∧ Below w.heap.size w wr) (fun _ _ _ => 0)
  case atStart => exact ⟨rfl, rfl, Below.refl _ _⟩
  case round =>
    obtain ⟨rfl, rfl, hb⟩ := hrel
    have HB := Lib.hid hb
    go_wp2
    go_ret
    exact ⟨rfl, HB.out⟩
theorem qputA {T : List Pq} (h : QT w W.heap.size qp M most N T F V) (hBw : Below W.heap.size W w) {va : Value} {l : List Ev} (hA : EL W va l) (ho : l = [] ∨ ∀ b, va.ownBlock = some b → b < W.heap.size) (hI : ∀ x ∈ l, I64 x.frame) (hbig : ∀ x ∈ l, x.ps.length < 1000000) (hN : N + l.length < 1000000) (hM1 : 1 ≤ most) :
    Calls Try.prog 73 #[ptr qp, va] w fun e w' => e = .returned (.int .i64 (cntM most T (l.map Ev.pl) : Nat)) ∧ QA w W.heap.size qp M most (N + l.length) (putM most T (l.map Ev.pl)) F V w' := by
  rcases ho with rfl | ho
  · obtain ⟨a, n, c, rfl, hn, -, -, -⟩ := hA.rs.at_
    obtain rfl : n = 0 := hn
    refine (qput_empty a c w).mono ?_
    rintro e w' ⟨rfl, hb⟩
    exact ⟨rfl, .refl h hb⟩
  · exact qput h hBw.size (hA.below hBw) (hA.old ho fun k hk => (h.fb.1 k hk).1) (fun b hb => Nat.lt_of_lt_of_le (ho b hb) hBw.size) hI hbig hN hM1
set_option maxRecDepth 100000 in
set_option maxHeartbeats 8000000 in
theorem does_put (h : JS W w qp M most N L v S F V) (hL : L < 800000) (a : Ac) (hk : a.kind = 2) (hA : EL W (acv a) a.l) (ho : a.l = [] ∨ ∀ b, (acv a).ownBlock = some b → b < W.heap.size) (hI : ∀ x ∈ a.l, I64 x.frame) (hbig : ∀ x ∈ a.l, x.ps.length < 1000000) (hN : N + a.l.length < 100000) (hmo : 1 ≤ most) :
    Calls Try.prog 68 #[ptr qp, mval most v, acval a] w (JP W w v S F V qp M most (N + a.l.length) (L + 1)) := by
  have HJ := Lib.hid h
  obtain ⟨ak, af, an, aa, am, ac, al⟩ := a
  simp only at hk hA ho hI hbig hN
  have hkb : (ak == 2) = true := by simpa using hk
  have hkb0 : (ak == 0) = false := by rw [hk]; rfl
  have hkb1 : (ak == 1) = false := by rw [hk]; rfl
  have HA := Lib.hid hA
  obtain ⟨q, hq⟩ : ∃ q : Int, q = (cntM most (S.map On.pl) (al.map Ev.pl) : Nat) := ⟨_, rfl⟩
  have HQC0 := Lib.hid (show ∀ w5, Below w.heap.size w w5 → Calls Try.prog 73 #[ptr qp, .slice aa am ac] w5 fun e w' => e = .returned (.int .i64 q) ∧ QA w5 W.heap.size qp M most (N + al.length) (putM most (S.map On.pl) (al.map Ev.pl)) F V w' from fun w5 hb5 => by
    have h1 := qputA (HJ.out.qt.below hb5) (bt HJ.out.bel hb5) HA.out ho hI hbig (by omega) hmo
    rw [← hq] at h1
    exact h1)
  have HNN := Lib.hid hN; have HMO := Lib.hid hmo; have HBG := Lib.hid hbig
  clear h hk hA ho hI hbig hN hmo
  obtain ⟨a1, n1, c1, rfl, -, -, -, -⟩ := HJ.out.ml.rs.at_
  have HI := DB.start w most (.slice a1 n1 c1) ⟨ak, af, an, aa, am, ac, al⟩
  obtain ⟨b, hbq⟩ : ∃ b, b = w.heap.size := ⟨_, rfl⟩
  obtain ⟨b1, hb1q⟩ : ∃ b1, b1 = b + 1 := ⟨_, rfl⟩
  obtain ⟨b2, hb2q⟩ : ∃ b2, b2 = b1 + 1 := ⟨_, rfl⟩
  have HBQ := Lib.hid hbq
  rw [← hbq, ← hb1q, ← hb2q] at HI
  replace HI := Lib.hid HI
  go_enter Try.func68, Try.ntmps68
  go_wp2_with fail
  rw [← hbq, ← hb1q, ← hb2q]
  clear hbq hb1q hb2q
  generalize ((w.alloc (.cells #[.int .i64 most, .slice a1 n1 c1] 123)).alloc (.cells #[.int .i64 ak, .int .i64 af, .int .i64 an, .slice aa am ac] 127)).alloc (.cells #[.int .i64 0, .slice none 0 0] 123) = w1 at *
  have HB1 := Lib.hid (show Below w.heap.size w w1 from by have := HI.out.bel; rw [HBQ.out] at this; exact this)
  refine (mdput (cap := most) (HJ.out.ml.below HB1.out) (by have := HJ.out.len; omega) (HA.out.below (bt HJ.out.bel HB1.out)) HNN.out HJ.out.evl HMO.out).mono ?_
  rintro e w2 ⟨v2, S2, rfl, hml2, hpl2, hlen2, hev2, hmk2, hb2⟩
  obtain ⟨a2, n2, c2, rfl, -, -, -, -⟩ := hml2.rs.at_
  rw [← hq]
  have hvk : ∀ F0 : Nat → Prop, (∀ k, F0 k → W.heap.size ≤ k) → ∀ x ∈ al, VK F0 x.vv x.ps := fun F0 hF x hx => (HA.out.vec x hx).old hF
  have HMKB := Lib.hid (show MK (fun j => j = b2) (.slice a2 n2 c2) S2 from hmk2 _ (fun k e => by have h1 : k = b2 := e; have h2 := HI.out.ds; omega) (HJ.out.ml.old fun k e => by have h1 : k = b2 := e; have h2 := HI.out.ds; have h3 := HBQ.out; omega) (hvk _ fun k e => by have h1 : k = b2 := e; have h2 := HI.out.ds; have h3 := HBQ.out; have h4 := HJ.out.bel.size; omega))
  have HMKF := Lib.hid (show MK F (.slice a2 n2 c2) S2 from hmk2 F (fun k e => by have h1 := (HJ.out.qt.fb.1 k e).2.1; have h2 := HB1.out.size; omega) HJ.out.mk_ (hvk F fun k e => (HJ.out.qt.fb.1 k e).1))
  have HEV := Lib.hid (show ∀ o ∈ S2, o.l.length ≤ N + al.length ∧ 0 ≤ o.lost ∧ o.lost ≤ ((N + al.length : Nat) : Int) ∧ (o.l.length : Int) ≤ most from fun o ho => by have := hev2 o ho; omega)
  have HLL := Lib.hid (show S2.length ≤ L + 1 from by have := HJ.out.len; omega)
  have HQC := Lib.hid (show ∀ w5, Below w.heap.size w w5 → Calls Try.prog 73 #[ptr qp, .slice aa am ac] w5 fun e w' => e = .returned (.int .i64 q) ∧ QA w5 W.heap.size qp M most (N + al.length) (S2.map On.pl) F V w' from by rw [hpl2]; exact HQC0.out)
  have HMKG := Lib.hid (show ∀ G : Nat → Prop, (∀ k, G k → W.heap.size ≤ k ∧ k < w.heap.size) → MK G (.slice a1 n1 c1) S → MK G (.slice a2 n2 c2) (S2) from fun G hG hm => (hmk2 G (fun k e => by have h1 := (hG k e).2; have h2 := HB1.out.size; omega) hm (hvk G fun k e => (hG k e).1)))
  have HSM := Lib.hid (show Sm (S2.map On.pl) from by
    rw [hpl2]
    exact HJ.out.sm.putM most fun e he => by
      obtain ⟨x, hx, rfl⟩ := List.mem_map.1 he
      exact HBG.out x hx)
  clear hq hmk2 hvk hpl2 hlen2 hev2
  -- behind the document's call: v2 (a2, n2, c2) and S2 in world w2; HQC: the queue's call
  have HB2 := Lib.hid hb2
  have HC2 := Lib.hid (HI.out.on hb2)
  have HML2 := Lib.hid hml2
  have HM8 := Lib.hid (MB.made w2 most (.slice a2 n2 c2))
  have HB3 := Lib.hid (ba (Below.refl w2.heap.size w2) (.cells #[.int .i64 most, .slice a2 n2 c2] 123))
  clear hml2 hb2
  obtain ⟨x0, x1, x2, x3⟩ := HC2.out.a3.cells
  have q1 : b1 < w2.heap.size := by have := HC2.out.ds; omega
  go_wp2
  obtain ⟨b8, hb8⟩ : ∃ b8, b8 = w2.heap.size := ⟨_, rfl⟩
  rw [← hb8] at HM8
  rw [← hb8]
  have HB8 := Lib.hid hb8
  generalize w2.alloc (.cells #[.int .i64 most, .slice a2 n2 c2] 123) = w3 at *
  clear x0 x1 x2 x3 q1 hb8
  have HC3 := Lib.hid (HC2.out.on HB3.out)
  have HB03 := Lib.hid (show Below w.heap.size w w3 from bt HB1.out (bt HB2.out HB3.out))
  have HFL := Lib.hid (show ∀ k, w.heap.size ≤ k → ¬ F k ∧ ¬ V k from fun k hk => ⟨fun e => by have := (HJ.out.qt.fb.1 k e).2.1; omega, fun e => by have := (HJ.out.qt.fb.2 k e).2; omega⟩)
  have HDS := Lib.hid (show w.heap.size ≤ b ∧ b < b1 ∧ b1 < b2 ∧ b2 < b8 ∧ b8 < w3.heap.size from by have h1 := HBQ.out; have h2 := HC2.out.ds; have h3 := HB8.out; have h4 := HM8.out.lt; omega)
  obtain ⟨y0, y1⟩ := HM8.out.cells
  obtain ⟨x0, x1, x2, x3⟩ := HC3.out.a3.cells
  have q1 : b1 < w3.heap.size := by have := HDS.out; omega
  have q8 := HM8.out.lt
  have nf1 : ¬ F b1 := (HFL.out b1 (by have := HDS.out; omega)).1
  have nf8 : ¬ F b8 := (HFL.out b8 (by have := HDS.out; omega)).1
  have nb1 : ¬ b1 = b2 := by have := HDS.out; omega
  have nb8 : ¬ b8 = b2 := by have := HDS.out; omega
  refine Mix.regionC (fun k => F k ∨ k = b2) (by kernel_rfl) ?_
  intro w4 hb4
  refine Mix.take_exC _ _ 0 rfl (by kernel_rfl) (by kernel_rfl) (by kernel_rfl) (by kernel_rfl) (fun K hK => ?_)
  go_simp
  first | (refine hK _ ?_; clear hK K) | (apply Exists.intro; refine ⟨fun x => ?_, hK _ ?_⟩; (fail); clear hK K)
  refine Mix.take_exC _ _ 1 rfl (by kernel_rfl) (by kernel_rfl) (by kernel_rfl) (by kernel_rfl) (fun K hK => ?_)
  go_simp
  first | (refine hK _ ?_; clear hK K) | (apply Exists.intro; refine ⟨fun x => ?_, hK _ ?_⟩; (fail); clear hK K)
  refine Mix.take_exC _ _ 2 rfl (by kernel_rfl) (by kernel_rfl) (by kernel_rfl) (by kernel_rfl) (fun K hK => ?_)
  go_simp
  first | (refine hK _ ?_; clear hK K) | (apply Exists.intro; refine ⟨fun x => ?_, hK _ ?_⟩; (fail); clear hK K)
  refine Mix.take_exC _ _ 3 rfl (by kernel_rfl) (by kernel_rfl) (by kernel_rfl) (by kernel_rfl) (fun K hK => ?_)
  go_simp
  first | (refine hK _ ?_; clear hK K) | (apply Exists.intro; refine ⟨fun x => ?_, hK _ ?_⟩; (fail); clear hK K)
  refine Mix.take_exC _ _ 5 rfl (by kernel_rfl) (by kernel_rfl) (by kernel_rfl) (by kernel_rfl) (fun K hK => ?_)
  go_simp
  first | (refine hK _ ?_; clear hK K) | (apply Exists.intro; refine ⟨fun x => ?_, hK _ ?_⟩; (fail); clear hK K)
  refine Mix.all (rs := [4]) (by kernel_rfl) (by simp) (.of_below _ hb4) ?_
  intro i5 hi5 w5 hb5 hC5
  simp only [List.mem_cons, List.not_mem_nil, or_false] at hi5
  subst hi5
  clear hC5
  have HB5 := Lib.hid (bt hb4 hb5)
  clear hb4 hb5
  refine Mix.op rfl (by kernel_rfl) ?_
  go_simp
  refine (HQC.out w5 (bt HB03.out HB5.out)).mono ?_
  rintro e w6 ⟨rfl, F', V', hq6, hF6, hV6, hc6, -, -⟩
  refine ⟨_, rfl, ?_⟩
  have HQ6 := Lib.hid hq6; have HF6 := Lib.hid hF6; have HV6 := Lib.hid hV6; have HC6 := Lib.hid hc6
  clear hq6 hF6 hV6 hc6 y0 y1 x0 x1 x2 x3 q1 q8 nf1 nf8 nb1 nb8
  refine Mix.take_exC _ _ 6 rfl (by kernel_rfl) (by kernel_rfl) (by kernel_rfl) (by kernel_rfl) (fun K hK => ?_)
  go_simp
  first | (refine hK _ ?_; clear hK K) | (apply Exists.intro; refine ⟨fun x => ?_, hK _ ?_⟩; (fail); clear hK K)
  have HG6 := Lib.hid (show Chg (fun k => F k ∨ k = b2) w3 w6 from (Chg.of_below _ HB5.out).same (HC6.out.mono fun k e => .inl e))
  refine Mix.all (rs := [7]) (by kernel_rfl) (by simp) (HG6.out) ?_
  intro i7 hi7 w7 hb7 hC7
  simp only [List.mem_cons, List.not_mem_nil, or_false] at hi7
  subst hi7
  clear hC7
  have HB7 := Lib.hid hb7
  clear hb7
  have HM7 := Lib.hid ((((HC3.out.m4.below HB5.out).chg HC6.out (HFL.out b2 (by have := HDS.out; omega)).1)).below HB7.out)
  obtain ⟨s0, s1⟩ := HM7.out.cells
  have s2 := HM7.out.fz 0; have s3 := HM7.out.fz 1
  have q2 := HM7.out.lt
  refine Mix.op rfl (by kernel_rfl) ?_
  go_simp
  have HM9 := Lib.hid (HM7.out.set2 most (.slice a2 n2 c2))
  have HST := Lib.hid (show Chg (fun j => j = b2) w7 ((w7.setCell ⟨b2, 0, none⟩ (.int .i64 most)).setCell ⟨b2, 1, none⟩ (.slice a2 n2 c2)) from ((Chg.refl (fun j => j = b2) w7).setCell (p := ⟨b2, 0, none⟩) (.inl rfl) _).setCell (p := ⟨b2, 1, none⟩) (.inl rfl) _)
  clear s0 s1 s2 s3 q2
  generalize (w7.setCell ⟨b2, 0, none⟩ (.int .i64 most)).setCell ⟨b2, 1, none⟩ (.slice a2 n2 c2) = w9 at *
  refine Mix.take_exC _ _ 8 rfl (by kernel_rfl) (by kernel_rfl) (by kernel_rfl) (by kernel_rfl) (fun K hK => ?_)
  go_simp
  first | (refine hK _ ?_; clear hK K) | (apply Exists.intro; refine ⟨fun x => ?_, hK _ ?_⟩; (fail); clear hK K)
  refine Mix.done (by kernel_rfl) ((HG6.out.then_below HB7.out).same (HST.out.mono fun k e => .inr e)) ?_
  intro w10 hb10
  have HB10 := Lib.hid hb10
  clear hb10
  go_wp2
  refine bodyPost_ret (res_mt Try.results68 rfl (HM9.out.below HB10.out)) rfl ?_
  have hds := HDS.out
  have hs5 := HB5.out.size
  have nb2 : ¬ F' b2 ∧ ¬ V' b2 := ⟨fun e => by rcases HF6.out b2 e with h | h; exact (HFL.out b2 (by omega)).1 h; omega, fun e => by rcases HV6.out b2 e with h | h; exact (HFL.out b2 (by omega)).2 h; omega⟩
  have hml5 : ML w5 (.slice a2 n2 c2) (S2) := HML2.out.below (bt HB3.out HB5.out)
  have hmkF : MK F (.slice a2 n2 c2) (S2) := HMKF.out
  have hml6 : ML w6 (.slice a2 n2 c2) (S2) := hml5.keep HC6.out hmkF
  have hmkB : MK (fun j => j = b2) (.slice a2 n2 c2) (S2) := HMKB.out
  have hchg : Chg F w w10 := (((((Chg.of_below F (bt HB03.out HB5.out)).same HC6.out).then_below HB7.out).trans HST.out fun k e => .inr (by have e' : k = b2 := e; omega)).then_below HB10.out)
  exact ⟨_, S2, F', V', rfl, ⟨((HQ6.out.below HB7.out).chg HST.out (fun k hk e => nb2.1 (e ▸ hk)) (fun k hk e => nb2.2 (e ▸ hk))).below HB10.out, ((hml6.below HB7.out).keep HST.out hmkB).below HB10.out, hmkF.more hml5 HF6.out, HEV.out, HJ.out.bel.trans (hchg.below HJ.out.bel.size fun k hk => (HJ.out.qt.fb.1 k hk).1), HLL.out, HSM.out⟩, hchg, fun k hk => (HF6.out k hk).imp id fun h => Nat.le_trans (bt HB03.out HB5.out).size h, fun k hk => (HV6.out k hk).imp id fun h => Nat.le_trans (bt HB03.out HB5.out).size h, HMKG.out⟩
set_option maxRecDepth 100000 in
set_option maxHeartbeats 8000000 in
theorem does_take (h : JS W w qp M most N L v S F V) (hL : L < 800000) (hN : N < 100000) (a : Ac) (hk : a.kind ≠ 0 ∧ a.kind ≠ 1 ∧ a.kind ≠ 2) (hf : I64 a.frame) : Calls Try.prog 68 #[ptr qp, mval most v, acval a] w (JP W w v S F V qp M most N (L + 1)) := by
  have HJ := Lib.hid h
  obtain ⟨ak, af, an, aa, am, ac, al⟩ := a
  simp only at hk hf
  have hkb0 : (ak == 0) = false := by simpa using hk.1
  have hkb1 : (ak == 1) = false := by simpa using hk.2.1
  have hkb2 : (ak == 2) = false := by simpa using hk.2.2
  clear h hk
  obtain ⟨a1, n1, c1, rfl, -, -, -, -⟩ := HJ.out.ml.rs.at_
  have HI := DB.start w most (.slice a1 n1 c1) ⟨ak, af, an, aa, am, ac, al⟩
  obtain ⟨b, hbq⟩ : ∃ b, b = w.heap.size := ⟨_, rfl⟩
  obtain ⟨b1, hb1q⟩ : ∃ b1, b1 = b + 1 := ⟨_, rfl⟩
  obtain ⟨b2, hb2q⟩ : ∃ b2, b2 = b1 + 1 := ⟨_, rfl⟩
  have HBQ := Lib.hid hbq
  rw [← hbq, ← hb1q, ← hb2q] at HI
  replace HI := Lib.hid HI
  go_enter Try.func68, Try.ntmps68
  go_wp2_with fail
  rw [← hbq, ← hb1q, ← hb2q]
  clear hbq hb1q hb2q
  generalize ((w.alloc (.cells #[.int .i64 most, .slice a1 n1 c1] 123)).alloc (.cells #[.int .i64 ak, .int .i64 af, .int .i64 an, .slice aa am ac] 127)).alloc (.cells #[.int .i64 0, .slice none 0 0] 123) = w1 at *
  have HB1 := Lib.hid (show Below w.heap.size w w1 from by have := HI.out.bel; rw [HBQ.out] at this; exact this)
  refine (mdtake (cap := most) (HJ.out.ml.below HB1.out) (by have := HJ.out.len; omega) hN HJ.out.evl af an).mono ?_
  rintro e w2 ⟨v2, S2, u2, lu2, rfl, hml2, hpl2, heu2, hlu2, hlen2, hev2, hmk2, hub2, hb2⟩
  obtain ⟨a2, n2, c2, rfl, -, -, -, -⟩ := hml2.rs.at_
  obtain ⟨ua, un, uc, rfl, -, -, -, -⟩ := heu2.rs.at_
  have HB2 := Lib.hid hb2
  have HC2 := Lib.hid (HI.out.on hb2)
  have HML2 := Lib.hid hml2; have HEU2 := Lib.hid heu2; have HLU2 := Lib.hid hlu2; have HPL2 := Lib.hid hpl2
  have hmkf := hmk2 F (fun k e => by have h1 := (HJ.out.qt.fb.1 k e).2.1; have h2 := HB1.out.size; omega) HJ.out.mk_
  have HMKF := Lib.hid hmkf.1; have HEDF := Lib.hid hmkf.2
  have HMKB := Lib.hid (hmk2 (fun j => j = b2) (fun k e => by have h1 : k = b2 := e; have h2 := HI.out.ds; omega) (HJ.out.ml.old fun k e => by have h1 : k = b2 := e; have h2 := HI.out.ds; have h3 := HBQ.out; omega)).1
  have HEV := Lib.hid hev2
  have HLL := Lib.hid (show S2.length ≤ L + 1 from by have := HJ.out.len; omega)
  have HMKG := Lib.hid (show ∀ G : Nat → Prop, (∀ k, G k → W.heap.size ≤ k ∧ k < w.heap.size) → MK G (.slice a1 n1 c1) S → MK G (.slice a2 n2 c2) (S2) from fun G hG hm => (hmk2 G (fun k e => by have h1 := (hG k e).2; have h2 := HB1.out.size; omega) hm).1)
  have HSM := Lib.hid (show Sm (S2.map On.pl) from by rw [hpl2]; exact HJ.out.sm.take af an)
  have HM8 := Lib.hid (MB.made w2 most (.slice a2 n2 c2))
  have HB3 := Lib.hid (ba (Below.refl w2.heap.size w2) (.cells #[.int .i64 most, .slice a2 n2 c2] 123))
  clear hml2 hb2 hpl2 heu2 hlu2 hlen2 hev2 hmk2 hub2 hmkf
  obtain ⟨x0, x1, x2, x3⟩ := HC2.out.a3.cells
  have q1 : b1 < w2.heap.size := by have := HC2.out.ds; omega
  go_wp2
  obtain ⟨b8, hb8⟩ : ∃ b8, b8 = w2.heap.size := ⟨_, rfl⟩
  rw [← hb8] at HM8
  rw [← hb8]
  have HB8 := Lib.hid hb8
  generalize w2.alloc (.cells #[.int .i64 most, .slice a2 n2 c2] 123) = w3 at *
  clear x0 x1 x2 x3 q1 hb8
  have HC3 := Lib.hid (HC2.out.on HB3.out)
  have HB03 := Lib.hid (show Below w.heap.size w w3 from bt HB1.out (bt HB2.out HB3.out))
  have HFL := Lib.hid (show ∀ k, w.heap.size ≤ k → ¬ F k ∧ ¬ V k from fun k hk => ⟨fun e => by have := (HJ.out.qt.fb.1 k e).2.1; omega, fun e => by have := (HJ.out.qt.fb.2 k e).2; omega⟩)
  have HDS := Lib.hid (show w.heap.size ≤ b ∧ b < b1 ∧ b1 < b2 ∧ b2 < b8 ∧ b8 < w3.heap.size from by have h1 := HBQ.out; have h2 := HC2.out.ds; have h3 := HB8.out; have h4 := HM8.out.lt; omega)
  obtain ⟨y0, y1⟩ := HM8.out.cells
  obtain ⟨x0, x1, x2, x3⟩ := HC3.out.a3.cells
  have q1 : b1 < w3.heap.size := by have := HDS.out; omega
  have q8 := HM8.out.lt
  have nf1 : ¬ F b1 := (HFL.out b1 (by have := HDS.out; omega)).1
  have nf8 : ¬ F b8 := (HFL.out b8 (by have := HDS.out; omega)).1
  have nb1 : ¬ b1 = b2 := by have := HDS.out; omega
  have nb8 : ¬ b8 = b2 := by have := HDS.out; omega
  refine Mix.regionC (fun k => F k ∨ k = b2) (by kernel_rfl) ?_
  intro w4 hb4
  refine Mix.take_exC _ _ 0 rfl (by kernel_rfl) (by kernel_rfl) (by kernel_rfl) (by kernel_rfl) (fun K hK => ?_)
  go_simp
  first | (refine hK _ ?_; clear hK K) | (apply Exists.intro; refine ⟨fun x => ?_, hK _ ?_⟩; (fail); clear hK K)
  refine Mix.take_exC _ _ 1 rfl (by kernel_rfl) (by kernel_rfl) (by kernel_rfl) (by kernel_rfl) (fun K hK => ?_)
  go_simp
  first | (refine hK _ ?_; clear hK K) | (apply Exists.intro; refine ⟨fun x => ?_, hK _ ?_⟩; (fail); clear hK K)
  refine Mix.take_exC _ _ 2 rfl (by kernel_rfl) (by kernel_rfl) (by kernel_rfl) (by kernel_rfl) (fun K hK => ?_)
  go_simp
  first | (refine hK _ ?_; clear hK K) | (apply Exists.intro; refine ⟨fun x => ?_, hK _ ?_⟩; (fail); clear hK K)
  refine Mix.take_exC _ _ 3 rfl (by kernel_rfl) (by kernel_rfl) (by kernel_rfl) (by kernel_rfl) (fun K hK => ?_)
  go_simp
  first | (refine hK _ ?_; clear hK K) | (apply Exists.intro; refine ⟨fun x => ?_, hK _ ?_⟩; (fail); clear hK K)
  refine Mix.take_exC _ _ 4 rfl (by kernel_rfl) (by kernel_rfl) (by kernel_rfl) (by kernel_rfl) (fun K hK => ?_)
  go_simp
  first | (refine hK _ ?_; clear hK K) | (apply Exists.intro; refine ⟨fun x => ?_, hK _ ?_⟩; (fail); clear hK K)
  refine Mix.take_exC _ _ 5 rfl (by kernel_rfl) (by kernel_rfl) (by kernel_rfl) (by kernel_rfl) (fun K hK => ?_)
  go_simp
  first | (refine hK _ ?_; clear hK K) | (apply Exists.intro; refine ⟨fun x => ?_, hK _ ?_⟩; (fail); clear hK K)
  refine Mix.take_exC _ _ 7 rfl (by kernel_rfl) (by kernel_rfl) (by kernel_rfl) (by kernel_rfl) (fun K hK => ?_)
  go_simp
  first | (refine hK _ ?_; clear hK K) | (apply Exists.intro; refine ⟨fun x => ?_, hK _ ?_⟩; (fail); clear hK K)
  refine Mix.all (rs := [6]) (by kernel_rfl) (by simp) (.of_below _ hb4) ?_
  intro i5 hi5 w5 hb5 hC5
  simp only [List.mem_cons, List.not_mem_nil, or_false] at hi5
  subst hi5
  clear hC5
  have HB5 := Lib.hid (bt hb4 hb5)
  clear hb4 hb5
  refine Mix.op rfl (by kernel_rfl) ?_
  go_simp
  refine (qtake (HJ.out.qt.below (bt HB03.out HB5.out)) (by have h1 := HJ.out.bel.size; have h2 := HB03.out.size; have h3 := HB5.out.size; omega) (k := af) (n := an) hf (by omega)).mono ?_
  rintro e w6 ⟨u6, lu6, rfl, heu6, hlu6, hub6, -, F', V', hq6, hF6, hV6, hc6, -, -⟩
  refine ⟨_, rfl, ?_⟩
  have HQ6 := Lib.hid hq6; have HF6 := Lib.hid hF6; have HV6 := Lib.hid hV6; have HC6 := Lib.hid hc6; have HE6 := Lib.hid heu6; have HLU6 := Lib.hid hlu6
  clear hq6 hF6 hV6 hc6 y0 y1 x0 x1 x2 x3 q1 q8 nf1 nf8 nb1 nb8 heu6 hlu6 hub6
  have HG6 := Lib.hid (show Chg (fun k => F k ∨ k = b2) w3 w6 from (Chg.of_below _ HB5.out).same (HC6.out.mono fun k e => .inl e))
  refine Mix.all (rs := [8]) (by kernel_rfl) (by simp) (HG6.out) ?_
  intro i7 hi7 w7 hb7 hC7
  simp only [List.mem_cons, List.not_mem_nil, or_false] at hi7
  subst hi7
  clear hC7
  have HB7 := Lib.hid hb7
  clear hb7
  refine Mix.op rfl (by kernel_rfl) ?_
  go_simp
  refine (sev_yes u6 (.slice ua un uc) lu6 lu2 (fun x hx => by
    have h1 : x.pl ∈ lu6.map Ev.pl := List.mem_map.2 ⟨x, hx, rfl⟩
    rw [HLU6.out] at h1
    have h2 := HJ.out.sm.got af an _ h1
    have h3 : x.pl.2.2.2.2 = x.ps := rfl
    rw [h3] at h2; omega) (HLU6.out.trans HLU2.out.symm) w7 (HE6.out.below HB7.out) ((((HEU2.out.below (bt HB3.out HB5.out)).keep HC6.out HEDF.out)).below HB7.out)).mono ?_
  rintro e w8 ⟨rfl, hb8'⟩
  refine ⟨_, rfl, ?_⟩
  have HB78 := Lib.hid (bt HB7.out hb8')
  clear hb8'
  refine Mix.all (rs := [9]) (by kernel_rfl) (by simp) (HG6.out.then_below HB78.out) ?_
  intro i9 hi9 w9 hb9 hC9
  simp only [List.mem_cons, List.not_mem_nil, or_false] at hi9
  subst hi9
  clear hC9
  have HB9 := Lib.hid (bt HB78.out hb9)
  clear hb9
  have HM7 := Lib.hid ((((HC3.out.m4.below HB5.out).chg HC6.out (HFL.out b2 (by have := HDS.out; omega)).1)).below HB9.out)
  obtain ⟨s0, s1⟩ := HM7.out.cells
  have s2 := HM7.out.fz 0; have s3 := HM7.out.fz 1
  have q2 := HM7.out.lt
  refine Mix.op rfl (by kernel_rfl) ?_
  go_simp
  have HM9 := Lib.hid (HM7.out.set2 most (.slice a2 n2 c2))
  have HST := Lib.hid (show Chg (fun j => j = b2) w9 ((w9.setCell ⟨b2, 0, none⟩ (.int .i64 most)).setCell ⟨b2, 1, none⟩ (.slice a2 n2 c2)) from ((Chg.refl (fun j => j = b2) w9).setCell (p := ⟨b2, 0, none⟩) (.inl rfl) _).setCell (p := ⟨b2, 1, none⟩) (.inl rfl) _)
  clear s0 s1 s2 s3 q2
  generalize (w9.setCell ⟨b2, 0, none⟩ (.int .i64 most)).setCell ⟨b2, 1, none⟩ (.slice a2 n2 c2) = w11 at *
  refine Mix.take_exC _ _ 10 rfl (by kernel_rfl) (by kernel_rfl) (by kernel_rfl) (by kernel_rfl) (fun K hK => ?_)
  go_simp
  first | (refine hK _ ?_; clear hK K) | (apply Exists.intro; refine ⟨fun x => ?_, hK _ ?_⟩; (fail); clear hK K)
  refine Mix.done (by kernel_rfl) ((HG6.out.then_below HB9.out).same (HST.out.mono fun k e => .inr e)) ?_
  intro w10 hb10
  have HB10 := Lib.hid hb10
  clear hb10
  go_wp2
  refine bodyPost_ret (res_mt Try.results68 rfl (HM9.out.below HB10.out)) rfl ?_
  have hds := HDS.out
  have hs5 := HB5.out.size
  have nb2 : ¬ F' b2 ∧ ¬ V' b2 := ⟨fun e => by rcases HF6.out b2 e with h | h; exact (HFL.out b2 (by omega)).1 h; omega, fun e => by rcases HV6.out b2 e with h | h; exact (HFL.out b2 (by omega)).2 h; omega⟩
  have hml5 : ML w5 (.slice a2 n2 c2) S2 := HML2.out.below (bt HB3.out HB5.out)
  have hml6 : ML w6 (.slice a2 n2 c2) S2 := hml5.keep HC6.out HMKF.out
  have hq := HQ6.out
  rw [← HPL2.out] at hq
  have hchg : Chg F w w10 := (((((Chg.of_below F (bt HB03.out HB5.out)).same HC6.out).then_below HB9.out).trans HST.out fun k e => .inr (by have e' : k = b2 := e; omega)).then_below HB10.out)
  exact ⟨_, S2, F', V', rfl, ⟨((hq.below HB9.out).chg HST.out (fun k hk e => nb2.1 (e ▸ hk)) (fun k hk e => nb2.2 (e ▸ hk))).below HB10.out, ((hml6.below HB9.out).keep HST.out HMKB.out).below HB10.out, HMKF.out.more hml5 HF6.out, HEV.out, HJ.out.bel.trans (hchg.below HJ.out.bel.size fun k hk => (HJ.out.qt.fb.1 k hk).1), HLL.out, HSM.out⟩, hchg, fun k hk => (HF6.out k hk).imp id fun h => Nat.le_trans (bt HB03.out HB5.out).size h, fun k hk => (HV6.out k hk).imp id fun h => Nat.le_trans (bt HB03.out HB5.out).size h, HMKG.out⟩
end
end Go.Proofs.Ytnckjacbkhoppaa

/- Texts laid together: Tid,Tie,Tif,Tig,Tih,Tik. -/
import Derived.Test.YtgfjmafdfbghnaaGreatTgA
import Derived.Test.YtgfjmafdfbghnaaGreatTgD
namespace Go.Proofs.YtgfjmafdfbghnaaGreat
section
open Go.RowKit Go.Maps
attribute [local go_sem] ext_cell ext_frozen extC_cell extC_frozen Mix.calmUpon Mix.mUpon
def fdenc (d : Fd) : List Value := [.int .i64 d.id, .int .i64 d.wt, .int .i64 d.role, .int .i64 (d.s 0), .int .i64 (d.s 1), .int .i64 (d.s 2), .int .i64 (d.s 3), .bool d.aw]
abbrev fdval (d : Fd) : Value := .agg #[.int .i64 d.id, .int .i64 d.wt, .int .i64 d.role, .int .i64 (d.s 0), .int .i64 (d.s 1), .int .i64 (d.s 2), .int .i64 (d.s 3), .bool d.aw]
abbrev fdcells (d : Fd) : Array Value := #[.int .i64 d.id, .int .i64 d.wt, .int .i64 d.role, .int .i64 (d.s 0), .int .i64 (d.s 1), .int .i64 (d.s 2), .int .i64 (d.s 3), .bool d.aw]
/-- A variable that holds a client of the document's. -/
def DBx (w : World) (b : Nat) (d : Fd) : Prop := w.heap[b]? = some (.cells (fdcells d) 49 (0, 0))
section
variable {F : Nat → Prop} {w w' : World} {b : Nat} {d : Fd}
theorem DBx.made (w : World) (d : Fd) : DBx (w.alloc (.cells (fdcells d) 49)) w.heap.size d := heap_alloc_new w _
theorem DBx.lt (h : DBx w b d) : b < w.heap.size := (Array.getElem?_eq_some_iff.1 h).1
theorem DBx.chg (h : DBx w b d) (hb : Chg F w w') (hf : ¬ F b) : DBx w' b d := (hb.block _ h.lt hf).trans h
theorem DBx.below (h : DBx w b d) (hb : Below w.heap.size w w') : DBx w' b d := (hb.block _ h.lt).trans h
theorem DBx.cells (h : DBx w b d) : w.cell? ⟨b, 0, none⟩ = some (.int .i64 d.id) ∧ w.cell? ⟨b, 1, none⟩ = some (.int .i64 d.wt) ∧ w.cell? ⟨b, 2, none⟩ = some (.int .i64 d.role) ∧ w.cell? ⟨b, 3, none⟩ = some (.int .i64 (d.s 0)) ∧ w.cell? ⟨b, 4, none⟩ = some (.int .i64 (d.s 1)) ∧ w.cell? ⟨b, 5, none⟩ = some (.int .i64 (d.s 2)) ∧ w.cell? ⟨b, 6, none⟩ = some (.int .i64 (d.s 3)) ∧ w.cell? ⟨b, 7, none⟩ = some (.bool d.aw) := by
  unfold DBx at h; simp [World.cell?, h]
theorem DBx.fz (h : DBx w b d) (o : Nat) : w.frozen? ⟨b, o, none⟩ = false := by unfold DBx at h; simp [World.frozen?, h]
end
theorem infoFd : (Tryz.prog.info? 49).map (fun i => (i.zero, i.size, i.bytes)) = some (some (.agg #[.int .i64 0, .int .i64 0, .int .i64 0, .int .i64 0, .int .i64 0, .int .i64 0, .int .i64 0, .bool false]), 8, 64) := by kernel_rfl
theorem own_appFd {w : World} {base : Nat} {v : Value} {l : List Fd} {b : Nat} (h : OwnL 49 8 fdenc w base v l) (x : Fd) (hx : DBx w b x) (hl : l.length < 1000000) (hb : base ≤ w.heap.size) :
    ∃ v' w', (Builtin.append_ #[26, 26] 26 #[v, .slice (some ⟨b, 0, none⟩) 1 1]).run Tryz.prog w = .ok v' w' ∧ OwnL 49 8 fdenc w' base v' (l ++ [x]) ∧ w.grownBy w' v.ownBlock ∧ (v'.ownBlock = v.ownBlock ∨ v'.ownBlock = some w.heap.size) := by
  obtain ⟨i0, hi, hz0, hz1, hz2⟩ := info_parts infoFd
  obtain ⟨x0, x1, x2, x3, x4, x5, x6, x7⟩ := hx.cells
  exact OwnL.app h Tryz.underlying26 hi hz0 hz1 hz2 rfl (by decide) (fun _ => rfl) x (fun j u hj => by
      rcases j with _ | _ | _ | _ | _ | _ | _ | _ | j <;> simp [fdenc] at hj
      · subst hj; exact x0
      · subst hj; exact x1
      · subst hj; exact x2
      · subst hj; exact x3
      · subst hj; exact x4
      · subst hj; exact x5
      · subst hj; exact x6
      · subst hj; exact x7) (fun u hu => by simp [fdenc] at hu; rcases hu with rfl | rfl | rfl | rfl | rfl | rfl | rfl | rfl <;> rfl) (by omega) (by unfold maxLen; omega) hb
abbrev mvx (T : Nat → Int) (v : Value) : Value := .agg #[.int .i64 (T 0), .int .i64 (T 1), .int .i64 (T 2), .int .i64 (T 3), v]
abbrev mcellsx (T : Nat → Int) (v : Value) : Array Value := #[.int .i64 (T 0), .int .i64 (T 1), .int .i64 (T 2), .int .i64 (T 3), v]
/-- A block that holds the document's sorter. -/
def MBx (w : World) (b : Nat) (T : Nat → Int) (v : Value) : Prop := w.heap[b]? = some (.cells (mcellsx T v) 28 (0, 0))
section
variable {F : Nat → Prop} {w w' : World} {b : Nat} {T : Nat → Int} {v : Value}
theorem MBx.made (w : World) (T : Nat → Int) (v : Value) : MBx (w.alloc (.cells (mcellsx T v) 28)) w.heap.size T v := heap_alloc_new w _
theorem MBx.lt (h : MBx w b T v) : b < w.heap.size := (Array.getElem?_eq_some_iff.1 h).1
theorem MBx.chg (h : MBx w b T v) (hb : Chg F w w') (hf : ¬ F b) : MBx w' b T v := (hb.block _ h.lt hf).trans h
theorem MBx.below (h : MBx w b T v) (hb : Below w.heap.size w w') : MBx w' b T v := h.chg (.of_below (fun _ => False) hb) id
theorem MBx.cells (h : MBx w b T v) : w.cell? ⟨b, 0, none⟩ = some (.int .i64 (T 0)) ∧ w.cell? ⟨b, 1, none⟩ = some (.int .i64 (T 1)) ∧ w.cell? ⟨b, 2, none⟩ = some (.int .i64 (T 2)) ∧ w.cell? ⟨b, 3, none⟩ = some (.int .i64 (T 3)) ∧ w.cell? ⟨b, 4, none⟩ = some v := by unfold MBx at h; simp [World.cell?, h]
theorem MBx.fz (h : MBx w b T v) (o : Nat) : w.frozen? ⟨b, o, none⟩ = false := by unfold MBx at h; simp [World.frozen?, h]
theorem MBx.set4 (h : MBx w b T v) (v' : Value) : MBx (w.setCell ⟨b, 4, none⟩ v') b T v' := heap_setCell_at v' h
theorem MBx.load (h : MBx w b T v) : (loadVar 28 ⟨b, 0, none⟩).run Tryz.prog w = .ok (mvx T v) w := by
  obtain ⟨x0, x1, x2, x3, x4⟩ := h.cells
  simp [go_sem, x0, x1, x2, x3, x4]
theorem res_mx {fn : Func} {tmps : Array Value} {p : Nat} (h : fn.results = #[.cell p 28]) (hp : tmps.getD p undef = .pointer (some ⟨b, 0, none⟩)) (hb : MBx w b T v) :
    (results fn tmps).run Tryz.prog w = .ok (mvx T v) w := by
  simp only [results, h]
  have hp' : tmps[p]?.getD undef = .pointer (some ⟨b, 0, none⟩) := by simpa [Array.getD_eq_getD_getElem?] using hp
  simp [Sem.run_bind, Result.andThen, hp', asAddr, hb.load]
end
/-- A list of the document's that a call makes in the variable b3, which was the newest of w3. -/
structure OCx (w3 wr : World) (b3 : Nat) (T : Nat → Int) (vo : Value) (C : List Fd) : Prop where
  bel : Below b3 w3 wr
  lt : b3 < w3.heap.size
  m : MBx wr b3 T vo
  own : OwnL 49 8 fdenc wr (b3 + 1) vo C
def OBx (v : Value) : Nat → Prop := fun k => v.ownBlock = some k
section
variable {w w3 wr wr' : World} {b3 : Nat} {T : Nat → Int} {vo : Value} {C : List Fd} {x : Fd}
theorem OCx.no (h : OCx w3 wr b3 T vo C) {k : Nat} (hk : k ≤ b3) : ¬ OBx vo k := fun e => by have := (h.own.lt k e).1; omega
theorem OCx.sz (h : OCx w3 wr b3 T vo C) : b3 < wr.heap.size := h.m.lt
theorem OCx.on (h : OCx w3 wr b3 T vo C) (hb : Below wr.heap.size wr wr') : OCx w3 wr' b3 T vo C :=
  ⟨h.bel.trans (hb.mono (by have := h.sz; omega)), h.lt, h.m.below hb, h.own.below hb⟩
/-- One more element, which lies in a new block. -/
theorem OCx.app (h : OCx w3 wr b3 T vo C) (hl : C.length < 1000000) {w1 : World} (hb : Below wr.heap.size wr w1) {q : Nat} (hx : DBx w1 q x) :
    ∃ a' m' c' w2, (Builtin.append_ #[26, 26] 26 #[vo, .slice (some ⟨q, 0, none⟩) 1 1]).run Tryz.prog w1 = .ok (.slice a' m' c') w2 ∧ Chg (OBx vo) w1 w2 ∧ (∀ w4, Chg (OBx vo) w1 w4 → Below w2.heap.size w2 w4 → OCx w3 (w4.setCell ⟨b3, 4, none⟩ (.slice a' m' c')) b3 T (.slice a' m' c') (C ++ [x])) := by
  have h1 := h.on hb
  have hd := h1.sz
  obtain ⟨v', w2, hrun, o2, g2, hv2⟩ := own_appFd h1.own x hx hl (by omega)
  obtain ⟨a', m', c', rfl⟩ : ∃ a' m' c', v' = .slice a' m' c' := by
    rcases o2.2 with ⟨_, h0⟩ | ⟨g', cap', cur', rfl, _⟩
    · simp at h0
    · exact ⟨_, _, _, rfl⟩
  have hc : Chg (OBx vo) w1 w2 := .of_grown g2 fun k e => e
  refine ⟨a', m', c', w2, hrun, hc, fun w4 hc3 hb3 => ?_⟩
  have hst : Chg (fun k => k = b3) w4 (w4.setCell ⟨b3, 4, none⟩ (.slice a' m' c')) := (Chg.refl (fun k => k = b3) w4).setCell (p := ⟨b3, 4, none⟩) (.inl rfl) _
  have own3 := o2.below hb3
  have hs3 := hc3.size
  have nb : ∀ k, Value.ownBlock (.slice a' m' c') = some k → k ≠ b3 := fun k hk e => by have := (o2.lt k hk).1; omega
  exact ⟨h1.bel.trans ((hc3.below (by omega) (fun k hk => by have := (h1.own.lt k hk).1; omega)).trans (hst.below (by omega) (fun k e => by rw [e]; omega))), h1.lt,
    (h1.m.chg hc3 (h1.no (by omega))).set4 _, own3.chg hst nb⟩
end
/-- What a call of the document's that answers a sorter gives. -/
def RetMx (w : World) (T : Nat → Int) (C : List Fd) (e : Ending) (w' : World) : Prop := ∃ v, e = .returned (mvx T v) ∧ OwnL 49 8 fdenc w' w.heap.size v C ∧ Below w.heap.size w w'
end
section
open Go.RowKit Go.Maps
attribute [local go_sem] ext_cell ext_frozen extC_cell extC_frozen Mix.calmUpon Mix.mUpon
/-- 'append' within a region that draws its order, by what its run is known to be. -/
theorem Mix.opApp {P : Program} {ops : Array Oper} {i : Nat} {o : Oper} {K : Act → World → Prop} {a : Act} {w : World} (hi : ops[i]? = some o) (hwt : Region.wanted o (yielded ops a.tmps) = true) (s x : Operand) (t : TypeId)
    (ho : o.op = .call { callee := .builtin .append, args := #[s, x], argTypes := #[t, t] }) {vs vx : Value} (hs : a.eval s = vs) (hx : a.eval x = vx) {v' : Value} {w' : World} (hr : (Builtin.append_ #[t, t] o.type #[vs, vx]).run P w = .ok v' w')
    (h : K (a.put o.dst v') w') : Mix.mOp P ops i K a w := by
  refine Mix.op hi hwt ?_
  unfold execOp
  simp only [ho, resolve, invoke, builtin, Sem.run_bind, Sem.run_pure, Result.andThen_ok, List.map_toArray, List.map_cons, List.map_nil, hs, hx, hr, Mix.mUpon]
  exact h
-- what a round reads at the world wq, in the state HQ
-- the element x of the list that came in is appended: state HQ at w2
-- the client c, which lies in the variable b1, is appended to the list L: state HQ at w2
-- the list of the block b3 is answered by way of the block br: state HQ at wq, which holds .slice ao mo co
def set5x (w : World) (b : Nat) (T : Nat → Int) (v : Value) : World := ((((w.setCell ⟨b, 0, none⟩ (.int .i64 (T 0))).setCell ⟨b, 1, none⟩ (.int .i64 (T 1))).setCell ⟨b, 2, none⟩ (.int .i64 (T 2))).setCell ⟨b, 3, none⟩ (.int .i64 (T 3))).setCell ⟨b, 4, none⟩ v
theorem MBx.set5 {w : World} {b : Nat} {T : Nat → Int} {v : Value} (h : MBx w b T v) (T' : Nat → Int) (v' : Value) : MBx (set5x w b T' v') b T' v' := heap_setCell_at v' (heap_setCell_at _ (heap_setCell_at _ (heap_setCell_at _ (heap_setCell_at _ h))))
section
variable {w : World} {v : Value} {C : List Fd} {T : Nat → Int}
set_option maxRecDepth 100000 in
set_option maxHeartbeats 4000000 in
theorem rwithx (h : RS 8 fdenc w v C) (hln : C.length < 900000) (k : Int) (c : Fd) (D : List Fd) (hD : D.length = C.length) (hD2 : ∀ (t : Nat) x, C[t]? = some x → D[t]? = some (if (t : Int) = k then c else x)) :
    Calls Tryz.prog 27 #[mvx T v, .int .i64 k, fdval c] w (RetMx w T (if k < 0 then D ++ [c] else D)) := by
  obtain ⟨a, n, cp, rfl, hn, hc, hm, hat⟩ := h.at_
  have HAT := Lib.hid hat; have HN := Lib.hid hn; have HDL := Lib.hid hD; have HDX := Lib.hid hD2
  have hn9 : n < 900000 := by omega
  obtain ⟨R, hRq⟩ : ∃ R, R = (if k < 0 then D ++ [c] else D) := ⟨_, rfl⟩
  rw [← hRq]
  have HRQ := Lib.hid hRq
  clear hRq
  obtain ⟨b0, hb0⟩ : ∃ b, b = w.heap.size := ⟨_, rfl⟩
  obtain ⟨b1, hb1⟩ : ∃ b, b = b0 + 1 := ⟨_, rfl⟩
  obtain ⟨b2, hb2⟩ : ∃ b, b = b1 + 1 := ⟨_, rfl⟩
  obtain ⟨b3, hb3⟩ : ∃ b, b = b2 + 1 := ⟨_, rfl⟩
  obtain ⟨w1, hw1⟩ : ∃ w1, w1 = (((w.alloc (.cells (mcellsx T (.slice a n cp)) 28)).alloc (.cells (fdcells c) 49)).alloc (.cells (mcellsx (fun _ => 0) (.slice none 0 0)) 28)).alloc (.cells (mcellsx T (.slice none 0 0)) 28) := ⟨_, rfl⟩
  have s1 : (w.alloc (.cells (mcellsx T (.slice a n cp)) 28)).heap.size = b1 := by rw [hb1, hb0]; simp
  have s2 : ((w.alloc (.cells (mcellsx T (.slice a n cp)) 28)).alloc (.cells (fdcells c) 49)).heap.size = b2 := by rw [hb2, hb1, hb0]; simp
  have s3 : (((w.alloc (.cells (mcellsx T (.slice a n cp)) 28)).alloc (.cells (fdcells c) 49)).alloc (.cells (mcellsx (fun _ => 0) (.slice none 0 0)) 28)).heap.size = b3 := by rw [hb3, hb2, hb1, hb0]; simp
  have H0 := Lib.hid (show MBx w1 b0 T (.slice a n cp) from by rw [hw1, hb0]; exact (MBx.made w T _).below (ba (ba (ba (Below.refl _ _) _) _) _))
  have H1 := Lib.hid (show DBx w1 b1 c from by rw [hw1, ← s1]; exact (DBx.made _ c).below (ba (ba (Below.refl _ _) _) _))
  have H2 := Lib.hid (show MBx w1 b2 (fun _ => 0) (.slice none 0 0) from by rw [hw1, ← s2]; exact (MBx.made _ (fun _ => 0) _).below (ba (Below.refl _ _) _))
  have hm3 : MBx w1 b3 T (.slice none 0 0) := by rw [hw1, ← s3]; exact MBx.made _ T _
  have HB := Lib.hid (show Below w.heap.size w w1 from by rw [hw1]; exact ba (ba (ba (ba (Below.refl _ _) _) _) _) _)
  have HI := Lib.hid (show OCx w1 w1 b3 T (.slice none 0 0) (D.take 0) from ⟨Below.refl _ _, hm3.lt, hm3, OwnL.nil _ _ _ _ _⟩)
  have HBB := Lib.hid (And.intro hb0 (And.intro hb1 (And.intro hb2 hb3)))
  have HWS := Lib.hid (show ∀ bs, bs < w.heap.size → ∀ o, w1.cell? ⟨bs, o, none⟩ = w.cell? ⟨bs, o, none⟩ from fun bs hbs o => HB.out.cell (p := ⟨bs, o, none⟩) hbs)
  clear h hat hn hm hc hD hD2 s1 s2 s3 hm3
  go_enter Tryz.func27, Tryz.ntmps27
  go_wp2
  rw [← hb0, ← hb1, ← hb2, ← hb3, ← hw1]
  clear hb0 hb1 hb2 hb3 hw1 HWS
  go_loopw [8] (fun iv wr => ∃ (t : Nat) (vo : Value), t ≤ n ∧ iv = .int .i64 t ∧ Hid (OCx w1 wr b3 T vo (D.take t))) (fun iv _ => n - (intOf iv).toNat)
  case atStart => exact ⟨0, _, Nat.zero_le _, rfl, HI⟩
  case round =>
    clear HI
    obtain ⟨t, vo, ht, rfl, HQ⟩ := hrel
    obtain ⟨w2, rfl⟩ : ∃ w2, w2 = wr := ⟨_, rfl⟩
    by_cases hlt : t < n
    · have hts : (t : Int) < (n : Int) := by omega
      obtain ⟨x, hx⟩ := at_lt (l := C) (i := t) (by rw [← HN.out]; exact hlt)
      obtain ⟨bs, off, rfl, hbs, hcell⟩ := HAT.out t x hx
      have HBS := Lib.hid hbs; have HCX := Lib.hid hcell
      have HCL := Lib.hid (show (D.take t).length < 1000000 by have := List.length_take_le t D; omega)
      have hdx := HDX.out t x hx
      clear hcell hx hbs
      by_cases htk : (t : Int) = k
      · have hb : ((t : Int) == k) = true := by simpa using htk
        rw [if_pos htk] at hdx
        have HW := Lib.hid (take_at hdx)
        clear htk hdx
        have hm0 : MBx w2 b0 T (.slice (some ⟨bs, off, none⟩) n cp) := (HQ.out.bel.block b0 (by have := HBB.out; omega)).trans H0.out
        obtain ⟨m0, m1, m2, m3, m4⟩ := hm0.cells
        have ml := hm0.lt
        clear hm0 m0 m1 m2 m3
        obtain ⟨y0, y1, y2, y3, y4⟩ := HQ.out.m.cells
        have yl := HQ.out.m.lt
        clear y0 y1 y2 y3
        have hbw := HB.out.trans (HQ.out.bel.mono (show w.heap.size ≤ b3 by have := HBB.out; omega))
        have e0 := (hbw.cell (p := ⟨bs, off + t * 8 + 0, none⟩) HBS.out).trans (HCX.out 0 _ rfl)
        have e1 := (hbw.cell (p := ⟨bs, off + t * 8 + 1, none⟩) HBS.out).trans (HCX.out 1 _ rfl)
        have e2 := (hbw.cell (p := ⟨bs, off + t * 8 + 2, none⟩) HBS.out).trans (HCX.out 2 _ rfl)
        have e3 := (hbw.cell (p := ⟨bs, off + t * 8 + 3, none⟩) HBS.out).trans (HCX.out 3 _ rfl)
        have e4 := (hbw.cell (p := ⟨bs, off + t * 8 + 4, none⟩) HBS.out).trans (HCX.out 4 _ rfl)
        have e5 := (hbw.cell (p := ⟨bs, off + t * 8 + 5, none⟩) HBS.out).trans (HCX.out 5 _ rfl)
        have e6 := (hbw.cell (p := ⟨bs, off + t * 8 + 6, none⟩) HBS.out).trans (HCX.out 6 _ rfl)
        have e7 := (hbw.cell (p := ⟨bs, off + t * 8 + 7, none⟩) HBS.out).trans (HCX.out 7 _ rfl)
        simp only [Nat.add_zero] at e0
        have qs : bs < w2.heap.size := by have := HBS.out; have := HBB.out; omega
        clear hbw
        have hd1 : DBx w2 b1 c := (HQ.out.bel.block b1 (by have := HBB.out; omega)).trans H1.out
        obtain ⟨x0, x1, x2, x3, x4, x5, x6, x7⟩ := hd1.cells
        have xl := hd1.lt
        clear hd1
        obtain ⟨a9, m9, c9, w8, hrun, hch, hnx⟩ := HQ.out.app (x := c) (by have := HCL.out; omega) (ba (Below.refl _ _) _) (DBx.made w2 c)
        have HP9 := Lib.hid (hnx w8 hch (Below.refl _ _))
        have HRA := Lib.hid hrun
        have n3 : ¬ OBx vo b3 := HQ.out.no (Nat.le_refl _)
        have y9 : w8.cell? ⟨b3, 4, none⟩ = some vo := (hch.cell (b := b3) (by simp; omega) n3 4).trans (((ba (Below.refl _ _) _ : Below w2.heap.size w2 (w2.alloc _)).cell (p := ⟨b3, 4, none⟩) yl).trans y4)
        have y8 : w8.frozen? ⟨b3, 4, none⟩ = false := (hch.frozen (b := b3) (by simp; omega) n3 4).trans ((World.frozen?_of_block (a := ⟨b3, 4, none⟩) ((ba (Below.refl _ _) _ : Below w2.heap.size w2 (w2.alloc _)).block b3 yl)).trans (HQ.out.m.fz 4))
        have q9 : b3 < w8.heap.size := by have := hch.size; simp at this; omega
        clear hrun hch hnx
        go_wp2_with (at_builtin; refine wpList_app_run rfl _ _ _ rfl rfl rfl HRA.out ?_)
        clear x0 x1 x2 x3 x4 x5 x6 x7 xl n3 y9 y8 q9
        clear m4 ml y4 yl e0 e1 e2 e3 e4 e5 e6 e7 qs
        generalize w8.setCell ⟨b3, 4, none⟩ (.slice a9 m9 c9) = w9 at *
        go_roundw
        case rel => exact ⟨t + 1, _, by omega, by go_num, Lib.hid (by rw [HW.out]; exact HP9.out)⟩
        case measure => simp [intOf]; omega
      · have hb : ((t : Int) == k) = false := by simpa using htk
        rw [if_neg htk] at hdx
        have HW := Lib.hid (take_at hdx)
        clear htk hdx
        have hm0 : MBx w2 b0 T (.slice (some ⟨bs, off, none⟩) n cp) := (HQ.out.bel.block b0 (by have := HBB.out; omega)).trans H0.out
        obtain ⟨m0, m1, m2, m3, m4⟩ := hm0.cells
        have ml := hm0.lt
        clear hm0 m0 m1 m2 m3
        obtain ⟨y0, y1, y2, y3, y4⟩ := HQ.out.m.cells
        have yl := HQ.out.m.lt
        clear y0 y1 y2 y3
        have hbw := HB.out.trans (HQ.out.bel.mono (show w.heap.size ≤ b3 by have := HBB.out; omega))
        have e0 := (hbw.cell (p := ⟨bs, off + t * 8 + 0, none⟩) HBS.out).trans (HCX.out 0 _ rfl)
        have e1 := (hbw.cell (p := ⟨bs, off + t * 8 + 1, none⟩) HBS.out).trans (HCX.out 1 _ rfl)
        have e2 := (hbw.cell (p := ⟨bs, off + t * 8 + 2, none⟩) HBS.out).trans (HCX.out 2 _ rfl)
        have e3 := (hbw.cell (p := ⟨bs, off + t * 8 + 3, none⟩) HBS.out).trans (HCX.out 3 _ rfl)
        have e4 := (hbw.cell (p := ⟨bs, off + t * 8 + 4, none⟩) HBS.out).trans (HCX.out 4 _ rfl)
        have e5 := (hbw.cell (p := ⟨bs, off + t * 8 + 5, none⟩) HBS.out).trans (HCX.out 5 _ rfl)
        have e6 := (hbw.cell (p := ⟨bs, off + t * 8 + 6, none⟩) HBS.out).trans (HCX.out 6 _ rfl)
        have e7 := (hbw.cell (p := ⟨bs, off + t * 8 + 7, none⟩) HBS.out).trans (HCX.out 7 _ rfl)
        simp only [Nat.add_zero] at e0
        have qs : bs < w2.heap.size := by have := HBS.out; have := HBB.out; omega
        clear hbw
        go_upto_region 7 with (fail)
        have n3 : ¬ OBx vo b3 := HQ.out.no (Nat.le_refl _)
        have n0 : ¬ OBx vo b0 := HQ.out.no (by have := HBB.out; omega)
        have ns : ¬ OBx vo bs := HQ.out.no (by have := HBB.out; have := HBS.out; omega)
        refine Mix.regionL (OBx vo) (by kernel_rfl) ?_
        intro w5 hb5
        refine Mix.take_exL _ _ 0 rfl (by kernel_rfl) (by kernel_rfl) (by kernel_rfl) (by kernel_rfl) (by kernel_rfl) (by kernel_rfl) (fun K hK => ?_)
        go_simp
        first | (refine hK _ ?_; clear hK K) | (apply Exists.intro; refine ⟨fun x => ?_, hK _ ?_⟩; (fail); clear hK K)
        refine Mix.take_exL _ _ 1 rfl (by kernel_rfl) (by kernel_rfl) (by kernel_rfl) (by kernel_rfl) (by kernel_rfl) (by kernel_rfl) (fun K hK => ?_)
        go_simp
        first | (refine hK _ ?_; clear hK K) | (apply Exists.intro; refine ⟨fun x => ?_, hK _ ?_⟩; (fail); clear hK K)
        refine Mix.take_exL _ _ 2 rfl (by kernel_rfl) (by kernel_rfl) (by kernel_rfl) (by kernel_rfl) (by kernel_rfl) (by kernel_rfl) (fun K hK => ?_)
        go_simp
        first | (refine hK _ ?_; clear hK K) | (apply Exists.intro; refine ⟨fun x => ?_, hK _ ?_⟩; (fail); clear hK K)
        refine Mix.take_exL _ _ 3 rfl (by kernel_rfl) (by kernel_rfl) (by kernel_rfl) (by kernel_rfl) (by kernel_rfl) (by kernel_rfl) (fun K hK => ?_)
        go_simp
        first | (refine hK _ ?_; clear hK K) | (apply Exists.intro; refine ⟨fun x => ?_, hK _ ?_⟩; (fail); clear hK K)
        refine Mix.take_exL _ _ 4 rfl (by kernel_rfl) (by kernel_rfl) (by kernel_rfl) (by kernel_rfl) (by kernel_rfl) (by kernel_rfl) (fun K hK => ?_)
        go_simp
        first | (refine hK _ ?_; clear hK K) | (apply Exists.intro; refine ⟨fun x => ?_, hK _ ?_⟩; (fail); clear hK K)
        refine Mix.take_exL _ _ 5 rfl (by kernel_rfl) (by kernel_rfl) (by kernel_rfl) (by kernel_rfl) (by kernel_rfl) (by kernel_rfl) (fun K hK => ?_)
        go_simp
        first | (refine hK _ ?_; clear hK K) | (apply Exists.intro; refine ⟨fun x => ?_, hK _ ?_⟩; (fail); clear hK K)
        refine Mix.take_exL _ _ 6 rfl (by kernel_rfl) (by kernel_rfl) (by kernel_rfl) (by kernel_rfl) (by kernel_rfl) (by kernel_rfl) (fun K hK => ?_)
        go_simp
        first | (refine hK _ ?_; clear hK K) | (apply Exists.intro; refine ⟨fun x => ?_, hK _ ?_⟩; (fail); clear hK K)
        refine Mix.allL (rs := [7]) (by kernel_rfl) (by simp) (.of_below _ hb5) (by kernel_rfl) ?_
        intro i6 hi6 w6 hb6 hC6
        simp only [List.mem_cons, List.not_mem_nil, or_false] at hi6
        subst hi6
        have HB6 := Lib.hid (bt hb5 hb6)
        clear hC6 hb5 hb6
        refine Mix.op rfl (by kernel_rfl) ?_
        go_simp
        refine Mix.allL (rs := [8]) (by kernel_rfl) (by simp) (.of_below _ (ba HB6.out _)) (by kernel_rfl) ?_
        intro i7 hi7 w7 hb7 hC7
        simp only [List.mem_cons, List.not_mem_nil, or_false] at hi7
        subst hi7
        have HB7 := Lib.hid (bt (ba HB6.out (.cells (fdcells x) 49)) hb7)
        have hFX := (DBx.made w6 x).below hb7
        clear hC7 hb7
        obtain ⟨a', m', c', w8, hrun, hch, hnx⟩ := HQ.out.app (x := x) (by have := HCL.out; omega) HB7.out hFX
        have HCH := Lib.hid hch; have HNX := Lib.hid hnx; have HRA := Lib.hid hrun
        clear hch hnx hrun hFX
        refine Mix.opApp rfl (by kernel_rfl) _ _ _ rfl rfl rfl HRA.out ?_
        go_simp
        refine Mix.take_exL _ _ 9 rfl (by kernel_rfl) (by kernel_rfl) (by kernel_rfl) (by kernel_rfl) (by kernel_rfl) (by kernel_rfl) (fun K hK => ?_)
        go_simp
        first | (refine hK _ ?_; clear hK K) | (apply Exists.intro; refine ⟨fun x => ?_, hK _ ?_⟩; (fail); clear hK K)
        refine Mix.allL (rs := [10]) (by kernel_rfl) (by simp) ((Chg.of_below _ HB7.out).same HCH.out) (by kernel_rfl) ?_
        intro i9 hi9 w9 hb9 hC9
        simp only [List.mem_cons, List.not_mem_nil, or_false] at hi9
        subst hi9
        have hp9 := HNX.out w9 (HCH.out.then_below hb9) hb9
        have y9 : w9.cell? ⟨b3, 4, none⟩ = some vo := ((HCH.out.then_below hb9).cell (b := b3) (by have := HB7.out.size; omega) n3 4).trans ((HB7.out.cell (p := ⟨b3, 4, none⟩) yl).trans y4)
        have y8 : w9.frozen? ⟨b3, 4, none⟩ = false := ((HCH.out.then_below hb9).frozen (b := b3) (by have := HB7.out.size; omega) n3 4).trans ((World.frozen?_of_block (a := ⟨b3, 4, none⟩) (HB7.out.block b3 yl)).trans (HQ.out.m.fz 4))
        have q9 : b3 < w9.heap.size := by have := HB7.out.size; have := HCH.out.size; have := hb9.size; omega
        have HP9 := Lib.hid hp9
        clear m4 ml y4 yl e0 e1 e2 e3 e4 e5 e6 e7 qs
        clear hC9 hp9 hb9 n3 n0 ns
        refine Mix.op rfl (by kernel_rfl) ?_
        go_simp
        refine Mix.doneL (by kernel_rfl) (by kernel_rfl) ?_
        intro w10 hb10
        have HP10 := Lib.hid (HP9.out.on hb10)
        clear hb10 y9 y8 q9
        go_wp2
        go_roundw
        case rel => exact ⟨t + 1, _, by omega, by go_num, Lib.hid (by rw [HW.out]; exact HP10.out)⟩
        case measure => simp [intOf]; omega
    · obtain rfl : n = t := by omega
      have hq := HQ.out
      rw [List.take_of_length_le (by rw [HDL.out, HN.out]; exact Nat.le_refl _)] at hq
      have HQ := Lib.hid hq
      clear hq
      have hm0 : MBx w2 b0 T (.slice a n cp) := (HQ.out.bel.block b0 (by have := HBB.out; omega)).trans H0.out
      obtain ⟨m0, m1, m2, m3, m4⟩ := hm0.cells
      have ml := hm0.lt
      clear hm0 m0 m1 m2 m3
      by_cases hk : k < 0
      · have HFN := Lib.hid (show D ++ [c] = R from (HRQ.out.trans (if_pos hk)).symm)
        have HCL := Lib.hid (show D.length < 1000000 by have := HDL.out; omega)
        obtain ⟨y0, y1, y2, y3, y4⟩ := HQ.out.m.cells
        have yl := HQ.out.m.lt
        clear y0 y1 y2 y3
        have hd1 : DBx w2 b1 c := (HQ.out.bel.block b1 (by have := HBB.out; omega)).trans H1.out
        obtain ⟨x0, x1, x2, x3, x4, x5, x6, x7⟩ := hd1.cells
        have xl := hd1.lt
        clear hd1
        obtain ⟨a9, m9, c9, w8, hrun, hch, hnx⟩ := HQ.out.app (x := c) (by have := HCL.out; omega) (ba (Below.refl _ _) _) (DBx.made w2 c)
        have HP9 := Lib.hid (hnx w8 hch (Below.refl _ _))
        have HRA := Lib.hid hrun
        have n3 : ¬ OBx vo b3 := HQ.out.no (Nat.le_refl _)
        have y9 : w8.cell? ⟨b3, 4, none⟩ = some vo := (hch.cell (b := b3) (by simp; omega) n3 4).trans (((ba (Below.refl _ _) _ : Below w2.heap.size w2 (w2.alloc _)).cell (p := ⟨b3, 4, none⟩) yl).trans y4)
        have y8 : w8.frozen? ⟨b3, 4, none⟩ = false := (hch.frozen (b := b3) (by simp; omega) n3 4).trans ((World.frozen?_of_block (a := ⟨b3, 4, none⟩) ((ba (Below.refl _ _) _ : Below w2.heap.size w2 (w2.alloc _)).block b3 yl)).trans (HQ.out.m.fz 4))
        have q9 : b3 < w8.heap.size := by have := hch.size; simp at this; omega
        clear hrun hch hnx
        go_upto_region 9 with (fail)
        clear m4 ml
        go_upto_region 10 with (at_builtin; refine wpList_app_run rfl _ _ _ rfl rfl rfl HRA.out ?_)
        clear x0 x1 x2 x3 x4 x5 x6 x7 xl n3 y9 y8 q9
        clear y4 yl
        generalize w8.setCell ⟨b3, 4, none⟩ (.slice a9 m9 c9) = w9 at *
        obtain ⟨ao, hao⟩ : ∃ ao, ao = a9 := ⟨_, rfl⟩
        obtain ⟨mo, hmo⟩ : ∃ mo, mo = m9 := ⟨_, rfl⟩
        obtain ⟨co, hco⟩ : ∃ co, co = c9 := ⟨_, rfl⟩
        rw [← hao, ← hmo, ← hco] at HP9
        clear hao hmo hco
        have hm2 : MBx w9 b2 (fun _ => 0) (.slice none 0 0) := (HP9.out.bel.block b2 (by have := HBB.out; omega)).trans H2.out
        obtain ⟨y0, y1, y2, y3, y4⟩ := HP9.out.m.cells
        have yl := HP9.out.m.lt
        obtain ⟨s0, s1, s2, s3, s4⟩ := hm2.cells
        have f0 := hm2.fz 0; have f1 := hm2.fz 1; have f2 := hm2.fz 2; have f3 := hm2.fz 3; have f4 := hm2.fz 4
        have sl := hm2.lt
        have HR := Lib.hid (hm2.set5 T (.slice ao mo co))
        have HST := Lib.hid (show Chg (fun k => k = b2) w9 (set5x w9 b2 T (.slice ao mo co)) from
          ((((((Chg.refl (fun k => k = b2) w9).setCell (p := ⟨b2, 0, none⟩) (.inl rfl) _).setCell (p := ⟨b2, 1, none⟩) (.inl rfl) _).setCell (p := ⟨b2, 2, none⟩) (.inl rfl) _).setCell (p := ⟨b2, 3, none⟩) (.inl rfl) _).setCell (p := ⟨b2, 4, none⟩) (.inl rfl) _))
        clear hm2
        go_wp2
        refine bodyPost_ret (res_mx Tryz.results27 rfl HR.out) rfl ?_
        have hbb := HBB.out
        have hol := HP9.out.own.lt
        refine ⟨_, rfl, ?_, ?_⟩
        · rw [← HFN.out]
          exact ownsRow_base (HP9.out.own.chg HST.out fun k hk e => by have := (hol k hk).1; have e : k = b2 := e; omega) (by omega)
        · exact (HB.out.trans (HP9.out.bel.mono (by omega))).trans (HST.out.below (by have := HP9.out.sz; omega) fun k e => by have e : k = b2 := e; omega)
      · have HFN := Lib.hid (show D = R from (HRQ.out.trans (if_neg hk)).symm)
        go_upto_region 10 with (fail)
        clear m4 ml
        obtain ⟨ao, mo, co, hvo⟩ : ∃ ao mo co, vo = .slice ao mo co := by
          rcases HQ.out.own.2 with ⟨hv, h0⟩ | ⟨g', cap', cur', hv, _⟩
          · exact ⟨_, _, _, hv⟩
          · exact ⟨_, _, _, hv⟩
        subst hvo
        have hm2 : MBx w2 b2 (fun _ => 0) (.slice none 0 0) := (HQ.out.bel.block b2 (by have := HBB.out; omega)).trans H2.out
        obtain ⟨y0, y1, y2, y3, y4⟩ := HQ.out.m.cells
        have yl := HQ.out.m.lt
        obtain ⟨s0, s1, s2, s3, s4⟩ := hm2.cells
        have f0 := hm2.fz 0; have f1 := hm2.fz 1; have f2 := hm2.fz 2; have f3 := hm2.fz 3; have f4 := hm2.fz 4
        have sl := hm2.lt
        have HR := Lib.hid (hm2.set5 T (.slice ao mo co))
        have HST := Lib.hid (show Chg (fun k => k = b2) w2 (set5x w2 b2 T (.slice ao mo co)) from
          ((((((Chg.refl (fun k => k = b2) w2).setCell (p := ⟨b2, 0, none⟩) (.inl rfl) _).setCell (p := ⟨b2, 1, none⟩) (.inl rfl) _).setCell (p := ⟨b2, 2, none⟩) (.inl rfl) _).setCell (p := ⟨b2, 3, none⟩) (.inl rfl) _).setCell (p := ⟨b2, 4, none⟩) (.inl rfl) _))
        clear hm2
        go_wp2
        refine bodyPost_ret (res_mx Tryz.results27 rfl HR.out) rfl ?_
        have hbb := HBB.out
        have hol := HQ.out.own.lt
        refine ⟨_, rfl, ?_, ?_⟩
        · rw [← HFN.out]
          exact ownsRow_base (HQ.out.own.chg HST.out fun k hk e => by have := (hol k hk).1; have e : k = b2 := e; omega) (by omega)
        · exact (HB.out.trans (HQ.out.bel.mono (by omega))).trans (HST.out.below (by have := HQ.out.sz; omega) fun k e => by have e : k = b2 := e; omega)
end
/-- What At answers. -/
def AtX (C : List Fd) (i z : Int) : Prop := (∃ (k : Nat) (d : Fd), z = k ∧ C[k]? = some d ∧ d.id = i) ∨ (z = -1 ∧ ∀ d ∈ C, d.id ≠ i)
def RetAx (w : World) (C : List Fd) (i : Int) (e : Ending) (w' : World) : Prop := ∃ z, e = .returned (.int .i64 z) ∧ AtX C i z ∧ Below w.heap.size w w'
section
variable {w : World} {v : Value} {C : List Fd} {T : Nat → Int}
set_option maxRecDepth 100000 in
set_option maxHeartbeats 2000000 in
theorem ratx (h : RS 8 fdenc w v C) (i : Int) : Calls Tryz.prog 14 #[mvx T v, .int .i64 i] w (RetAx w C i) := by
  obtain ⟨a, n, cp, rfl, hn, hc, hm, hat⟩ := h.at_
  have hnm : n ≤ 9223372036854775807 := by unfold maxLen at hm; omega
  have HM := Lib.hid (MBx.made w T (.slice a n cp))
  have HB := Lib.hid (ba (Below.refl w.heap.size w) (.cells (mcellsx T (.slice a n cp)) 28))
  have HAT := Lib.hid hat; have HN := Lib.hid hn
  clear h hat hn hm hc
  go_enter Tryz.func14, Tryz.ntmps14
  go_wp2
  generalize w.alloc (.cells (mcellsx T (.slice a n cp)) 28) = w1 at *
  obtain ⟨b, hbq⟩ : ∃ b, b = w.heap.size := ⟨_, rfl⟩
  rw [← hbq] at HM ⊢
  clear hbq
  go_loopw [5] (fun iv wr => ∃ t : Nat, t ≤ n ∧ iv = .int .i64 t ∧ Hid (Below w1.heap.size w1 wr ∧ ∀ d ∈ C.take t, d.id ≠ i)) (fun iv _ => n - (intOf iv).toNat)
  case atStart => exact ⟨0, Nat.zero_le _, rfl, Lib.hid ⟨Below.refl _ _, by simp⟩⟩
  case round =>
    obtain ⟨t, ht, rfl, HQ⟩ := hrel
    obtain ⟨w2, rfl⟩ : ∃ w2, w2 = wr := ⟨_, rfl⟩
    have hm2 := HM.out.below HQ.out.1
    obtain ⟨m0, m1, m2, m3, m4⟩ := hm2.cells
    have ml := hm2.lt
    clear hm2 m0 m1 m2 m3
    by_cases hlt : t < n
    · have hts : (t : Int) < (n : Int) := by omega
      obtain ⟨x, hx⟩ := at_lt (l := C) (i := t) (by rw [← HN.out]; exact hlt)
      obtain ⟨bs, off, rfl, hbs, hcell⟩ := HAT.out t x hx
      have hbw : Below w.heap.size w w2 := bt HB.out HQ.out.1
      have c0 := (hbw.cell (p := ⟨bs, _, none⟩) hbs).trans (hcell 0 _ rfl)
      simp only [Nat.add_zero] at c0
      have hbs2 : bs < w2.heap.size := Nat.lt_of_lt_of_le hbs hbw.size
      have HX := Lib.hid hx
      clear hcell hx hbw hbs
      by_cases h1 : x.id = i
      · have b1 : (x.id == i) = true := by simpa using h1
        have HE := Lib.hid (show AtX C i (t : Int) from .inl ⟨t, x, rfl, HX.out, h1⟩)
        clear h1
        go_wp2
        go_ret
        exact ⟨_, rfl, HE.out, bt HB.out HQ.out.1⟩
      · have b1 : (x.id == i) = false := by simpa using h1
        have HT := Lib.hid (show ∀ d ∈ C.take (t + 1), d.id ≠ i from by
          rw [take_at HX.out]
          intro d hd
          rcases List.mem_append.1 hd with hd | hd
          · exact HQ.out.2 d hd
          · rw [List.mem_singleton.1 hd]; exact h1)
        clear h1
        go_wp2
        go_roundw
        case rel => exact ⟨t + 1, by omega, by go_num, Lib.hid ⟨HQ.out.1, HT.out⟩⟩
        case measure => simp [intOf]; omega
    · obtain rfl : n = t := by omega
      have HE := Lib.hid (show AtX C i (-1) from .inr ⟨rfl, by
        have := HQ.out.2
        rwa [List.take_of_length_le (by rw [HN.out]; exact Nat.le_refl _)] at this⟩)
      go_wp2
      go_ret
      exact ⟨_, rfl, HE.out, bt HB.out HQ.out.1⟩
end
end
section
open Go.RowKit Go.Maps
attribute [local go_sem] ext_cell ext_frozen extC_cell extC_frozen Mix.calmUpon Mix.mUpon
/-- The weight told last. -/
def lastW (L : List Fd) : Int := match L.getLast? with | some d => d.wt | none => 0
theorem lastW_snoc (L : List Fd) (d : Fd) : lastW (L ++ [d]) = d.wt := by unfold lastW; simp
theorem inR_take {C : List Fd} {t : Nat} {x : Fd} {r : Int} (h : C[t]? = some x) : inR (C.take (t + 1)) r = inR (C.take t) r ++ (if x.role = r then [x] else []) := by
  rw [take_at h, inR_app]
  congr 1
  unfold inR
  by_cases e : x.role = r
  · rw [if_pos e]; simp [e]
  · rw [if_neg e]; simp [e]
theorem SU_snoc (L : List Fd) (d : Fd) : SU (L ++ [d]) = fun k => SU L k + d.s k := by
  rw [SU_app]; funext k
  simp [SU]
/-- Sums of a part are at most those of the whole. -/
theorem SU_part {A B : List Fd} (hs : ∀ d ∈ A ++ B, Sm4 d.s) (hu : Sm4 (SU (A ++ B))) : Sm4 (SU A) := fun k hk => by
  have h1 := SU_nonneg (D := A) (fun d hd => hs d (by simp [hd])) hk
  have h2 := SU_nonneg (D := B) (fun d hd => hs d (by simp [hd])) hk
  have h3 := hu k hk
  rw [SU_app] at h3
  simp only at h3
  exact ⟨h1, by omega⟩
theorem SU_take {C : List Fd} (h : TOk C) (t : Nat) (r : Int) : Sm4 (SU (inR (C.take t) r)) := by
  have e : inR C r = inR (C.take t) r ++ inR (C.drop t) r := by rw [← inR_app, List.take_append_drop]
  refine SU_part (B := inR (C.drop t) r) (fun d hd => h.sm d ?_) ?_
  · rw [← e] at hd; exact (mem_inR.1 hd).1
  · rw [← e]; exact h.su r
/-- A variable that holds four numbers. -/
def PBx (w : World) (b : Nat) (n : Nat → Int) : Prop := w.heap[b]? = some (.cells (C4 n) 25 (0, 0))
section
variable {w w' : World} {b : Nat} {n : Nat → Int} {F : Nat → Prop}
theorem PBx.made (w : World) (n : Nat → Int) : PBx (w.alloc (.cells (C4 n) 25)) w.heap.size n := heap_alloc_new w _
theorem PBx.lt (h : PBx w b n) : b < w.heap.size := (Array.getElem?_eq_some_iff.1 h).1
theorem PBx.below (h : PBx w b n) (hb : Below w.heap.size w w') : PBx w' b n := (hb.block _ h.lt).trans h
theorem PBx.cells (h : PBx w b n) : w.cell? ⟨b, 0, none⟩ = some (.int .i64 (n 0)) ∧ w.cell? ⟨b, 1, none⟩ = some (.int .i64 (n 1)) ∧ w.cell? ⟨b, 2, none⟩ = some (.int .i64 (n 2)) ∧ w.cell? ⟨b, 3, none⟩ = some (.int .i64 (n 3)) := by
  unfold PBx at h; simp [World.cell?, h]
theorem PBx.fz (h : PBx w b n) (o : Nat) : w.frozen? ⟨b, o, none⟩ = false := by unfold PBx at h; simp [World.frozen?, h]
theorem PBx.set4 (h : PBx w b n) (r : Nat → Int) : PBx ((((w.setCell ⟨b, 0, none⟩ (.int .i64 (r 0))).setCell ⟨b, 1, none⟩ (.int .i64 (r 1))).setCell ⟨b, 2, none⟩ (.int .i64 (r 2))).setCell ⟨b, 3, none⟩ (.int .i64 (r 3))) b r := heap_setCell_at _ (heap_setCell_at _ (heap_setCell_at _ (heap_setCell_at _ h)))
theorem pbx_chg (w : World) (b : Nat) (r : Nat → Int) : Chg (fun k => k = b) w ((((w.setCell ⟨b, 0, none⟩ (.int .i64 (r 0))).setCell ⟨b, 1, none⟩ (.int .i64 (r 1))).setCell ⟨b, 2, none⟩ (.int .i64 (r 2))).setCell ⟨b, 3, none⟩ (.int .i64 (r 3))) :=
  ((((Chg.refl (fun k => k = b) w).setCell (p := ⟨b, 0, none⟩) (.inl rfl) _).setCell (p := ⟨b, 1, none⟩) (.inl rfl) _).setCell (p := ⟨b, 2, none⟩) (.inl rfl) _).setCell (p := ⟨b, 3, none⟩) (.inl rfl) _
end
theorem res_role {fn : Func} {tmps : Array Value} {w : World} {p q r b : Nat} {v e : Value} {n : Nat → Int} (h : fn.results = #[.tmp p, .cell q 25, .tmp r]) (hp : tmps.getD p undef = v) (hq : tmps.getD q undef = .pointer (some ⟨b, 0, none⟩)) (hr : tmps.getD r undef = e) (hb : PBx w b n) :
    (results fn tmps).run Tryz.prog w = .ok (.tuple #[v, S4 n, e]) w := by
  obtain ⟨h0, h1, h2, h3⟩ := hb.cells
  have hl := hb.lt
  have hq' : tmps[q]?.getD undef = .pointer (some ⟨b, 0, none⟩) := by simpa [Array.getD_eq_getD_getElem?] using hq
  have hp' : tmps[p]?.getD undef = v := by simpa [Array.getD_eq_getD_getElem?] using hp
  have hr' : tmps[r]?.getD undef = e := by simpa [Array.getD_eq_getD_getElem?] using hr
  simp [results, h, go_sem, hp', hq', hr', asAddr, h0, h1, h2, h3, hl]
section
variable {w : World} {v : Value} {C : List Fd} {T : Nat → Int}
set_option maxRecDepth 100000 in
set_option maxHeartbeats 4000000 in
theorem rrolex (h : RS 8 fdenc w v C) (hok : TOk C) (hl : C.length < 900000) (r : Int) : Calls Tryz.prog 18 #[mvx T v, .int .i64 r] w fun e w' => e = .returned (.tuple #[.int .i64 (lastW (inR C r)), S4 (SU (inR C r)), .bool (decide (inR C r ≠ []))]) ∧ Below w.heap.size w w' := by
  obtain ⟨a, n, cp, rfl, hn, hc, hm, hat⟩ := h.at_
  have hn9 : n < 900000 := by omega
  have HAT := Lib.hid hat; have HN := Lib.hid hn; have HOK := Lib.hid hok
  obtain ⟨b0, hb0⟩ : ∃ b, b = w.heap.size := ⟨_, rfl⟩
  obtain ⟨b1, hb1⟩ : ∃ b, b = b0 + 1 := ⟨_, rfl⟩
  obtain ⟨b2, hb2⟩ : ∃ b, b = b1 + 1 := ⟨_, rfl⟩
  obtain ⟨w1, hw1⟩ : ∃ w1, w1 = ((w.alloc (.cells (mcellsx T (.slice a n cp)) 28)).alloc (.cells (C4 (fun _ => 0)) 25)).alloc (.cells (C4 (fun _ => 0)) 25) := ⟨_, rfl⟩
  have s1 : (w.alloc (.cells (mcellsx T (.slice a n cp)) 28)).heap.size = b1 := by rw [hb1, hb0]; simp
  have s2 : ((w.alloc (.cells (mcellsx T (.slice a n cp)) 28)).alloc (.cells (C4 (fun _ => 0)) 25)).heap.size = b2 := by rw [hb2, hb1, hb0]; simp
  have H0 := Lib.hid (show MBx w1 b0 T (.slice a n cp) from by rw [hw1, hb0]; exact (MBx.made w T _).below (ba (ba (Below.refl _ _) _) _))
  have H1 := Lib.hid (show PBx w1 b1 (fun _ => 0) from by rw [hw1, ← s1]; exact (PBx.made _ (fun _ => 0)).below (ba (Below.refl _ _) _))
  have H2 := Lib.hid (show PBx w1 b2 (SU (inR (C.take 0) r)) from by rw [hw1, ← s2]; exact PBx.made _ (fun _ => 0))
  have HB := Lib.hid (show Below w.heap.size w w1 from by rw [hw1]; exact ba (ba (ba (Below.refl _ _) _) _) _)
  have HBB := Lib.hid (And.intro hb0 (And.intro hb1 hb2))
  obtain ⟨R, hR⟩ : ∃ R : Value, R = .tuple #[.int .i64 (lastW (inR C r)), S4 (SU (inR C r)), .bool (decide (inR C r ≠ []))] := ⟨_, rfl⟩
  rw [← hR]
  have HR := Lib.hid hR
  clear h hat hn hm hc hok s1 s2 hR
  go_enter Tryz.func18, Tryz.ntmps18
  go_wp2
  rw [← hb0, ← hb1, ← hb2]
  change Code.wp _ _ _ _ ((w.alloc (.cells (mcellsx T (.slice a n cp)) 28)).alloc (.cells (C4 (fun _ => 0)) 25) |>.alloc (.cells (C4 (fun _ => 0)) 25))
  rw [← hw1]
  clear hb0 hb1 hb2 hw1
  go_loopw [8, 9, 10] (fun wv tv iv wr => ∃ t : Nat, t ≤ n ∧ iv = .int .i64 t ∧ wv = .int .i64 (lastW (inR (C.take t) r)) ∧ tv = .bool (decide (inR (C.take t) r ≠ [])) ∧ Hid (PBx wr b2 (SU (inR (C.take t) r)) ∧ Below b2 w1 wr)) (fun _ _ iv _ => n - (intOf iv).toNat)
  case atStart => exact ⟨0, Nat.zero_le _, rfl, rfl, by simp [inR], Lib.hid ⟨H2.out, Below.refl _ _⟩⟩
  case round =>
    obtain ⟨t, ht, rfl, rfl, rfl, HQ⟩ := hrel
    obtain ⟨w2, rfl⟩ : ∃ w2, w2 = wr := ⟨_, rfl⟩
    have hm0 : MBx w2 b0 T (.slice a n cp) := (HQ.out.2.block b0 (by have := HBB.out; omega)).trans H0.out
    obtain ⟨m0, m1, m2, m3, m4⟩ := hm0.cells
    have ml := hm0.lt
    clear hm0 m0 m1 m2 m3
    obtain ⟨lw, hlw⟩ : ∃ x, x = lastW (inR (C.take t) r) := ⟨_, rfl⟩
    obtain ⟨th, hth⟩ : ∃ x, x = decide (inR (C.take t) r ≠ []) := ⟨_, rfl⟩
    rw [← hlw, ← hth]
    have HLW := Lib.hid hlw; have HTH := Lib.hid hth
    clear hlw hth
    by_cases hlt : t < n
    · have hts : (t : Int) < (n : Int) := by omega
      obtain ⟨x, hx⟩ := at_lt (l := C) (i := t) (by rw [← HN.out]; exact hlt)
      obtain ⟨bs, off, rfl, hbs, hcell⟩ := HAT.out t x hx
      have hbw := HB.out.trans (HQ.out.2.mono (show w.heap.size ≤ b2 by have := HBB.out; omega))
      have e1 := (hbw.cell (p := ⟨bs, off + t * 8 + 1, none⟩) hbs).trans (hcell 1 _ rfl)
      have e2 := (hbw.cell (p := ⟨bs, off + t * 8 + 2, none⟩) hbs).trans (hcell 2 _ rfl)
      have e3 := (hbw.cell (p := ⟨bs, off + t * 8 + 3, none⟩) hbs).trans (hcell 3 _ rfl)
      have e4 := (hbw.cell (p := ⟨bs, off + t * 8 + 4, none⟩) hbs).trans (hcell 4 _ rfl)
      have e5 := (hbw.cell (p := ⟨bs, off + t * 8 + 5, none⟩) hbs).trans (hcell 5 _ rfl)
      have e6 := (hbw.cell (p := ⟨bs, off + t * 8 + 6, none⟩) hbs).trans (hcell 6 _ rfl)
      have qs : bs < w2.heap.size := Nat.lt_of_lt_of_le hbs hbw.size
      have hit := inR_take (r := r) hx
      have HE1 := Lib.hid (hcell 1 _ rfl); have HBS := Lib.hid hbs
      by_cases hr : x.role = r
      · have hb : (x.role == r) = true := by simpa using hr
        rw [if_pos hr] at hit
        have hxs := (HOK.out.sm x (mem_at hx)).ok
        have hso := (SU_take HOK.out t r).ok
        have hsn := (SU_take HOK.out (t + 1) r).ok
        rw [hit, SU_snoc] at hsn
        have hadd := refadd_both (SU (inR (C.take t) r)) x.s true hso hxs (decide_eq_true hsn)
        simp only [if_true] at hadd
        obtain ⟨s0, s1, s2, s3⟩ := HQ.out.1.cells
        have sl := HQ.out.1.lt
        obtain ⟨S, hS⟩ : ∃ S, S = SU (inR (C.take t) r) := ⟨_, rfl⟩
        rw [← hS] at hadd s0 s1 s2 s3
        have HAD := Lib.hid hadd; have HIT := Lib.hid hit; have HSQ := Lib.hid hS
        clear hit hxs hso hsn hadd hS hcell hx hbs hbw hr
        go_upto_region 7 with (fail)
        refine Mix.regionC (fun k => k = b2) (by kernel_rfl) ?_
        intro w3 hb3
        have nb : ¬ b0 = b2 := by have := HBB.out; omega
        have nbs : ¬ bs = b2 := by have := HBB.out; have := HBS.out; omega
        refine Mix.take_exC _ _ 1 rfl (by kernel_rfl) (by kernel_rfl) (by kernel_rfl) (by kernel_rfl) (fun K hK => ?_)
        go_simp
        first | (refine hK _ ?_; clear hK K) | (apply Exists.intro; refine ⟨fun x => ?_, hK _ ?_⟩; (fail); clear hK K)
        refine Mix.take_exC _ _ 2 rfl (by kernel_rfl) (by kernel_rfl) (by kernel_rfl) (by kernel_rfl) (fun K hK => ?_)
        go_simp
        first | (refine hK _ ?_; clear hK K) | (apply Exists.intro; refine ⟨fun x => ?_, hK _ ?_⟩; (fail); clear hK K)
        refine Mix.take_exC _ _ 3 rfl (by kernel_rfl) (by kernel_rfl) (by kernel_rfl) (by kernel_rfl) (fun K hK => ?_)
        go_simp
        first | (refine hK _ ?_; clear hK K) | (apply Exists.intro; refine ⟨fun x => ?_, hK _ ?_⟩; (fail); clear hK K)
        refine Mix.take_exC _ _ 4 rfl (by kernel_rfl) (by kernel_rfl) (by kernel_rfl) (by kernel_rfl) (fun K hK => ?_)
        go_simp
        first | (refine hK _ ?_; clear hK K) | (apply Exists.intro; refine ⟨fun x => ?_, hK _ ?_⟩; (fail); clear hK K)
        refine Mix.take_exC _ _ 5 rfl (by kernel_rfl) (by kernel_rfl) (by kernel_rfl) (by kernel_rfl) (fun K hK => ?_)
        go_simp
        first | (refine hK _ ?_; clear hK K) | (apply Exists.intro; refine ⟨fun x => ?_, hK _ ?_⟩; (fail); clear hK K)
        refine Mix.take_exC _ _ 6 rfl (by kernel_rfl) (by kernel_rfl) (by kernel_rfl) (by kernel_rfl) (fun K hK => ?_)
        go_simp
        first | (refine hK _ ?_; clear hK K) | (apply Exists.intro; refine ⟨fun x => ?_, hK _ ?_⟩; (fail); clear hK K)
        clear nb nbs
        clear s0 s1 s2 s3 sl
        refine Mix.all (rs := [0]) (by kernel_rfl) (by simp) (.of_below _ hb3) ?_
        intro i7 hi7 w7 hb7 hC7
        simp only [List.mem_cons, List.not_mem_nil, or_false] at hi7
        subst hi7
        have HB7 := Lib.hid (bt hb3 hb7)
        clear hC7 hb3 hb7
        have hz7 := HQ.out.1.below HB7.out
        rw [← HSQ.out] at hz7
        obtain ⟨s0, s1, s2, s3⟩ := hz7.cells
        have sl := hz7.lt
        clear hz7
        refine Mix.op rfl (by kernel_rfl) ?_
        go_simp
        clear s0 s1 s2 s3 sl
        refine Mix.take_exC _ _ 7 rfl (by kernel_rfl) (by kernel_rfl) (by kernel_rfl) (by kernel_rfl) (fun K hK => ?_)
        go_simp
        first | (refine hK _ ?_; clear hK K) | (apply Exists.intro; refine ⟨fun x => ?_, hK _ ?_⟩; (exact HAD.out _); clear hK K)
        refine Mix.take_exC _ _ 8 rfl (by kernel_rfl) (by kernel_rfl) (by kernel_rfl) (by kernel_rfl) (fun K hK => ?_)
        go_simp
        first | (refine hK _ ?_; clear hK K) | (apply Exists.intro; refine ⟨fun x => ?_, hK _ ?_⟩; (fail); clear hK K)
        refine Mix.take_exC _ _ 9 rfl (by kernel_rfl) (by kernel_rfl) (by kernel_rfl) (by kernel_rfl) (fun K hK => ?_)
        go_simp
        first | (refine hK _ ?_; clear hK K) | (apply Exists.intro; refine ⟨fun x => ?_, hK _ ?_⟩; (fail); clear hK K)
        refine Mix.take_exC _ _ 10 rfl (by kernel_rfl) (by kernel_rfl) (by kernel_rfl) (by kernel_rfl) (fun K hK => ?_)
        go_simp
        first | (refine hK _ ?_; clear hK K) | (apply Exists.intro; refine ⟨fun x => ?_, hK _ ?_⟩; (fail); clear hK K)
        refine Mix.all (rs := [11]) (by kernel_rfl) (by simp) (.of_below _ HB7.out) ?_
        intro i4 hi4 w4 hb4 hC4
        simp only [List.mem_cons, List.not_mem_nil, or_false] at hi4
        subst hi4
        have HB4 := Lib.hid (bt HB7.out hb4)
        clear hC4 hb4
        have hz4 := HQ.out.1.below HB4.out
        rw [← HSQ.out] at hz4
        obtain ⟨m0, m1, m2, m3⟩ := hz4.cells
        have o0 := hz4.fz 0; have o1 := hz4.fz 1; have o2 := hz4.fz 2; have o3 := hz4.fz 3
        have m4 := hz4.lt
        have HST := Lib.hid (pbx_chg w4 b2 (fun k => S k + x.s k))
        have HZ5 := Lib.hid (hz4.set4 (fun k => S k + x.s k))
        clear hz4
        refine Mix.op rfl (by kernel_rfl) ?_
        go_simp
        clear m0 m1 m2 m3 m4 o0 o1 o2 o3
        (try dsimp only at HST HZ5)
        generalize (((w4.setCell ⟨b2, 0, none⟩ _).setCell ⟨b2, 1, none⟩ _).setCell ⟨b2, 2, none⟩ _).setCell ⟨b2, 3, none⟩ _ = w5 at *
        have hB5 : Below b2 w1 w5 := (HQ.out.2.trans (HB4.out.mono (Nat.le_of_lt HQ.out.1.lt))).trans (HST.out.below (Nat.le_trans (Nat.le_of_lt HQ.out.1.lt) HB4.out.size) fun k e => by have e : k = b2 := e; omega)
        have HB5 := Lib.hid hB5
        clear hB5
        refine Mix.done (by kernel_rfl) ((Chg.of_below _ HB4.out).same HST.out) ?_
        intro w6 hb6
        have HZ6 := Lib.hid (HZ5.out.below hb6)
        have HB6 := Lib.hid (HB5.out.trans (hb6.mono (Nat.le_of_lt HZ5.out.lt)))
        clear hb6
        have HFX := Lib.hid (HB.out.trans (HB6.out.mono (show w.heap.size ≤ b2 by have := HBB.out; omega)))
        have hm0 : MBx w6 b0 T (.slice (some ⟨bs, off, none⟩) n cp) := (HB6.out.block b0 (by have := HBB.out; omega)).trans H0.out
        obtain ⟨m0, m1, m2, m3, m4⟩ := hm0.cells
        have ml := hm0.lt
        clear hm0 m0 m1 m2 m3 e1 e2 e3 e4 e5 e6
        have hbs := HBS.out
        have e1 := (HFX.out.cell (p := ⟨bs, off + t * 8 + 1, none⟩) hbs).trans HE1.out
        have qs : bs < w6.heap.size := Nat.lt_of_lt_of_le hbs HFX.out.size
        clear hbs
        go_wp2
        go_roundw
        case rel => exact ⟨t + 1, by omega, by go_num, by rw [HIT.out, lastW_snoc], by rw [HIT.out]; simp, Lib.hid ⟨by rw [HIT.out, SU_snoc, ← HSQ.out]; exact HZ6.out, HB6.out⟩⟩
        case measure => simp [intOf]; omega
      · rw [if_neg hr, List.append_nil] at hit
        have hb : (x.role == r) = false := by simpa using hr
        have HIT := Lib.hid hit
        clear hit hcell hx hbs hbw hr
        go_wp2
        go_roundw
        case rel => exact ⟨t + 1, by omega, by go_num, by rw [HIT.out, ← HLW.out], by rw [HIT.out, ← HTH.out], Lib.hid ⟨by rw [HIT.out]; exact HQ.out.1, HQ.out.2⟩⟩
        case measure => simp [intOf]; omega
    · obtain rfl : n = t := by omega
      have hC : inR (C.take n) r = inR C r := by rw [HN.out, List.take_length]
      rw [hC] at HQ HLW HTH
      go_upto_region 9 with (fail)
      obtain ⟨z0, z1, z2, z3⟩ := HQ.out.1.cells
      have zl := HQ.out.1.lt
      obtain ⟨S, hS⟩ : ∃ S, S = SU (inR C r) := ⟨_, rfl⟩
      rw [← hS] at z0 z1 z2 z3
      have HSQ := Lib.hid hS
      clear hS hC ml m4
      refine Mix.regionC (fun k => k = b1) (by kernel_rfl) ?_
      intro w3 hb3
      have nb : ¬ b2 = b1 := by have := HBB.out; omega
      refine Mix.take_exC _ _ 0 rfl (by kernel_rfl) (by kernel_rfl) (by kernel_rfl) (by kernel_rfl) (fun K hK => ?_)
      go_simp
      first | (refine hK _ ?_; clear hK K) | (apply Exists.intro; refine ⟨fun x => ?_, hK _ ?_⟩; (fail); clear hK K)
      refine Mix.take_exC _ _ 1 rfl (by kernel_rfl) (by kernel_rfl) (by kernel_rfl) (by kernel_rfl) (fun K hK => ?_)
      go_simp
      first | (refine hK _ ?_; clear hK K) | (apply Exists.intro; refine ⟨fun x => ?_, hK _ ?_⟩; (fail); clear hK K)
      refine Mix.take_exC _ _ 2 rfl (by kernel_rfl) (by kernel_rfl) (by kernel_rfl) (by kernel_rfl) (fun K hK => ?_)
      go_simp
      first | (refine hK _ ?_; clear hK K) | (apply Exists.intro; refine ⟨fun x => ?_, hK _ ?_⟩; (fail); clear hK K)
      refine Mix.take_exC _ _ 3 rfl (by kernel_rfl) (by kernel_rfl) (by kernel_rfl) (by kernel_rfl) (fun K hK => ?_)
      go_simp
      first | (refine hK _ ?_; clear hK K) | (apply Exists.intro; refine ⟨fun x => ?_, hK _ ?_⟩; (fail); clear hK K)
      clear nb z0 z1 z2 z3 zl
      refine Mix.all (rs := [4]) (by kernel_rfl) (by simp) (.of_below _ hb3) ?_
      intro i4 hi4 w4 hb4 hC4
      simp only [List.mem_cons, List.not_mem_nil, or_false] at hi4
      subst hi4
      have HB4 := Lib.hid (bt hb3 hb4)
      clear hC4 hb3 hb4
      have hz4 : PBx w4 b1 (fun _ => 0) := (HB4.out.block b1 (by have := HBB.out; have := HQ.out.1.lt; omega)).trans ((HQ.out.2.block b1 (by have := HBB.out; omega)).trans H1.out)
      obtain ⟨m0, m1, m2, m3⟩ := hz4.cells
      have o0 := hz4.fz 0; have o1 := hz4.fz 1; have o2 := hz4.fz 2; have o3 := hz4.fz 3
      have m4 := hz4.lt
      have HST := Lib.hid (pbx_chg w4 b1 S)
      have HZ5 := Lib.hid (hz4.set4 S)
      clear hz4
      refine Mix.op rfl (by kernel_rfl) ?_
      go_simp
      clear m0 m1 m2 m3 m4 o0 o1 o2 o3
      (try dsimp only at HST HZ5)
      generalize (((w4.setCell ⟨b1, 0, none⟩ _).setCell ⟨b1, 1, none⟩ _).setCell ⟨b1, 2, none⟩ _).setCell ⟨b1, 3, none⟩ _ = w5 at *
      refine Mix.take_exC _ _ 5 rfl (by kernel_rfl) (by kernel_rfl) (by kernel_rfl) (by kernel_rfl) (fun K hK => ?_)
      go_simp
      first | (refine hK _ ?_; clear hK K) | (apply Exists.intro; refine ⟨fun x => ?_, hK _ ?_⟩; (fail); clear hK K)
      refine Mix.done (by kernel_rfl) ((Chg.of_below _ HB4.out).same HST.out) ?_
      intro w6 hb6
      have HZ6 := Lib.hid (HZ5.out.below hb6)
      have hg : w.heap.size ≤ b1 := by have := HBB.out; omega
      have hg2 : Below w.heap.size w w4 := (HB.out.trans (HQ.out.2.mono (show w.heap.size ≤ b2 by have := HBB.out; omega))).trans (HB4.out.mono (Nat.le_trans (show w.heap.size ≤ b2 by have := HBB.out; omega) (Nat.le_of_lt HQ.out.1.lt)))
      have hg5 : Below w.heap.size w w5 := hg2.trans (HST.out.below hg2.size fun k e => by have e : k = b1 := e; omega)
      have HB6 := Lib.hid (hg5.trans (hb6.mono hg5.size))
      clear hb6 hg hg2 hg5
      go_wp2
      refine bodyPost_ret (res_role Tryz.results18 rfl rfl rfl HZ6.out) rfl ?_
      rw [HR.out, ← HSQ.out, ← HLW.out, ← HTH.out]
      exact ⟨rfl, HB6.out⟩
end
end
section
open Go.RowKit Go.Maps
attribute [local go_sem] ext_cell ext_frozen extC_cell extC_frozen Mix.calmUpon Mix.mUpon
/-- A framework as a client of its role's own sorter. -/
def ownc (d : Fd) : Dc := ⟨d.id, ⟨1, d.s, d.aw⟩⟩
def ownD (C : List Fd) (r : Int) : List Dc := (inR C r).map ownc
theorem ownD_len (C : List Fd) (r : Int) : (ownD C r).length ≤ C.length := by
  unfold ownD inR; rw [List.length_map]; exact List.length_filter_le _ _
theorem ownD_take {C : List Fd} {t : Nat} {x : Fd} {r : Int} (h : C[t]? = some x) : ownD (C.take (t + 1)) r = ownD (C.take t) r ++ (if x.role = r then [ownc x] else []) := by
  unfold ownD
  rw [inR_take h, List.map_append]
  congr 1
  by_cases e : x.role = r
  · rw [if_pos e, if_pos e]; rfl
  · rw [if_neg e, if_neg e]; rfl
section
variable {w : World} {v : Value} {C : List Fd} {T : Nat → Int}
set_option maxRecDepth 100000 in
set_option maxHeartbeats 4000000 in
theorem rownx (h : RS 8 fdenc w v C) (hl : C.length < 900) (r : Int) : Calls Tryz.prog 35 #[mvx T v, .int .i64 r] w (RetI (ord9 T (ownD C r) (ownD C r).length) w) := by
  obtain ⟨a, n, cp, rfl, hn, hc, hm, hat⟩ := h.at_
  have hn9 : n < 900 := by omega
  have HAT := Lib.hid hat; have HN := Lib.hid hn
  obtain ⟨b0, hb0⟩ : ∃ b, b = w.heap.size := ⟨_, rfl⟩
  obtain ⟨b1, hb1⟩ : ∃ b, b = b0 + 1 := ⟨_, rfl⟩
  obtain ⟨w1, hw1⟩ : ∃ w1, w1 = (w.alloc (.cells (mcellsx T (.slice a n cp)) 28)).alloc (.cells (mcells9 T (.slice none 0 0)) 115) := ⟨_, rfl⟩
  have s1 : (w.alloc (.cells (mcellsx T (.slice a n cp)) 28)).heap.size = b1 := by rw [hb1, hb0]; simp
  have H0 := Lib.hid (show MBx w1 b0 T (.slice a n cp) from by rw [hw1, hb0]; exact (MBx.made w T _).below (ba (Below.refl _ _) _))
  have hm1 : MB9 w1 b1 T (.slice none 0 0) := by rw [hw1, ← s1]; exact MB9.made _ T _
  have HB := Lib.hid (show Below w.heap.size w w1 from by rw [hw1]; exact ba (ba (Below.refl _ _) _) _)
  have HI := Lib.hid (show OC9 w1 w1 b1 T (.slice none 0 0) (ownD (C.take 0) r) from ⟨Below.refl _ _, hm1.lt, hm1, OwnL.nil _ _ _ _ _⟩)
  have HBB := Lib.hid (And.intro hb0 hb1)
  clear h hat hn hm hc s1 hm1
  go_enter Tryz.func35, Tryz.ntmps35
  go_wp2
  rw [← hb0, ← hb1, ← hw1]
  clear hb0 hb1 hw1
  go_loopw [6] (fun iv wr => ∃ (t : Nat) (vo : Value), t ≤ n ∧ iv = .int .i64 t ∧ Hid (OC9 w1 wr b1 T vo (ownD (C.take t) r))) (fun iv _ => n - (intOf iv).toNat)
  case atStart => exact ⟨0, _, Nat.zero_le _, rfl, HI⟩
  case round =>
    clear HI
    obtain ⟨t, vo, ht, rfl, HQ⟩ := hrel
    obtain ⟨w2, rfl⟩ : ∃ w2, w2 = wr := ⟨_, rfl⟩
    have hm0 : MBx w2 b0 T (.slice a n cp) := (HQ.out.bel.block b0 (by have := HBB.out; omega)).trans H0.out
    obtain ⟨m0, m1, m2, m3, m4⟩ := hm0.cells
    have ml := hm0.lt
    clear hm0 m0 m1 m2 m3
    by_cases hlt : t < n
    · have hts : (t : Int) < (n : Int) := by omega
      obtain ⟨x, hx⟩ := at_lt (l := C) (i := t) (by rw [← HN.out]; exact hlt)
      obtain ⟨bs, off, rfl, hbs, hcell⟩ := HAT.out t x hx
      have HBS := Lib.hid hbs; have HCX := Lib.hid hcell
      have HCL := Lib.hid (show (ownD (C.take t) r).length < 1000000 by have := ownD_len (C.take t) r; have := List.length_take_le t C; omega)
      have hit := ownD_take (r := r) hx
      clear hcell hx hbs
      have hbw := HB.out.trans (HQ.out.bel.mono (show w.heap.size ≤ b1 by have := HBB.out; omega))
      have e0 := (hbw.cell (p := ⟨bs, off + t * 8 + 0, none⟩) HBS.out).trans (HCX.out 0 _ rfl)
      have e1 := (hbw.cell (p := ⟨bs, off + t * 8 + 1, none⟩) HBS.out).trans (HCX.out 1 _ rfl)
      have e2 := (hbw.cell (p := ⟨bs, off + t * 8 + 2, none⟩) HBS.out).trans (HCX.out 2 _ rfl)
      have e3 := (hbw.cell (p := ⟨bs, off + t * 8 + 3, none⟩) HBS.out).trans (HCX.out 3 _ rfl)
      have e4 := (hbw.cell (p := ⟨bs, off + t * 8 + 4, none⟩) HBS.out).trans (HCX.out 4 _ rfl)
      have e5 := (hbw.cell (p := ⟨bs, off + t * 8 + 5, none⟩) HBS.out).trans (HCX.out 5 _ rfl)
      have e6 := (hbw.cell (p := ⟨bs, off + t * 8 + 6, none⟩) HBS.out).trans (HCX.out 6 _ rfl)
      have e7 := (hbw.cell (p := ⟨bs, off + t * 8 + 7, none⟩) HBS.out).trans (HCX.out 7 _ rfl)
      simp only [Nat.add_zero] at e0
      have qs : bs < w2.heap.size := Nat.lt_of_lt_of_le HBS.out hbw.size
      have HX5 := Lib.hid (DBx.made w2 x)
      have HQ5 := Lib.hid (HQ.out.on (ba (Below.refl w2.heap.size w2) (.cells (fdcells x) 49)))
      clear hbw
      go_upto_region 6 with (fail)
      clear e0 e1 e2 e3 e4 e5 e6 e7 qs m4 ml
      clear HQ
      change Code.wp _ _ _ _ (w2.alloc (.cells (fdcells x) 49))
      generalize w2.alloc (.cells (fdcells x) 49) = w5 at *
      generalize w2.heap.size = b5 at *
      obtain ⟨x0, x1, x2, x3, x4, x5, x6, x7⟩ := HX5.out.cells
      have xl := HX5.out.lt
      obtain ⟨y0, y1, y2, y3, y4⟩ := HQ5.out.m.cells
      have yl := HQ5.out.m.lt
      clear y0 y1 y2 y3
      by_cases hr : x.role = r
      · have hb : (x.role == r) = true := by simpa using hr
        rw [if_pos hr] at hit
        have HW := Lib.hid hit
        clear hit
        obtain ⟨a9, m9, c9, w8, hrun, hch, hnx⟩ := HQ5.out.app (x := ownc x) (by have := HCL.out; omega) (ba (Below.refl _ _) _) (DB9.made w5 (ownc x))
        have HP9 := Lib.hid (hnx w8 hch (Below.refl _ _))
        have HRA := Lib.hid hrun
        have n3 : ¬ OB9 vo b1 := HQ5.out.no (Nat.le_refl _)
        have y9 : w8.cell? ⟨b1, 4, none⟩ = some vo := (hch.cell (b := b1) (by simp; omega) n3 4).trans (((ba (Below.refl _ _) _ : Below w5.heap.size w5 (w5.alloc _)).cell (p := ⟨b1, 4, none⟩) yl).trans y4)
        have y8 : w8.frozen? ⟨b1, 4, none⟩ = false := (hch.frozen (b := b1) (by simp; omega) n3 4).trans ((World.frozen?_of_block (a := ⟨b1, 4, none⟩) ((ba (Below.refl _ _) _ : Below w5.heap.size w5 (w5.alloc _)).block b1 yl)).trans (HQ5.out.m.fz 4))
        have q9 : b1 < w8.heap.size := by have := hch.size; simp at this; omega
        clear hrun hch hnx
        go_wp2_with (at_builtin; refine wpList_app_run rfl _ _ _ rfl rfl rfl HRA.out ?_)
        go_roundw
        case rel => exact ⟨t + 1, _, by omega, by go_num, Lib.hid (by rw [HW.out]; exact HP9.out)⟩
        case measure => simp [intOf]; omega
      · have hb : (x.role == r) = false := by simpa using hr
        rw [if_neg hr, List.append_nil] at hit
        have HW := Lib.hid hit
        clear hit
        go_wp2
        go_roundw
        case rel => exact ⟨t + 1, _, by omega, by go_num, Lib.hid (by rw [HW.out]; exact HQ5.out)⟩
        case measure => simp [intOf]; omega
    · obtain rfl : n = t := by omega
      have hq := HQ.out
      rw [List.take_of_length_le (by rw [HN.out]; exact Nat.le_refl _)] at hq
      have HQ := Lib.hid hq
      have HO := Lib.hid (rorder9 (T := T) (hq.own.rs (fun _ => rfl)) (by have := ownD_len C r; have := HN.out; omega))
      obtain ⟨y0, y1, y2, y3, y4⟩ := hq.m.cells
      have yl := hq.m.lt
      clear hq
      go_wp2_with fail
      refine HO.out.mono ?_
      rintro e w5 ⟨v5, rfl, hv5, hb5⟩
      have hg : w.heap.size ≤ w2.heap.size := by have := HQ.out.sz; have := HBB.out; omega
      have HB5 := Lib.hid ((HB.out.trans (HQ.out.bel.mono (show w.heap.size ≤ b1 by have := HBB.out; omega))).trans (hb5.mono hg))
      have HV5 := Lib.hid (ownsRow_base hv5 hg)
      clear y4 yl hv5 hb5 hg m4 ml
      go_wp2
      go_ret
      exact ⟨_, rfl, HV5.out, HB5.out⟩
end
end
section
open Go.RowKit Go.Maps
attribute [local go_sem] ext_cell ext_frozen extC_cell extC_frozen Mix.calmUpon Mix.mUpon
/-- A role as a client of the sorter of the roles. -/
def rolec (C : List Fd) (r : Int) : Dc := ⟨r, ⟨lastW (inR C r), SU (inR C r), (inR C r).any (·.aw)⟩⟩
def rolesD (C : List Fd) : Nat → List Dc
  | 0 => []
  | m + 1 => rolesD C m ++ (if inR C ((m : Int) + 1) = [] then [] else [rolec C ((m : Int) + 1)])
theorem rolesD_len (C : List Fd) : ∀ m, (rolesD C m).length ≤ m
  | 0 => by simp [rolesD]
  | m + 1 => by
    have := rolesD_len C m
    unfold rolesD
    by_cases h : inR C ((m : Int) + 1) = []
    · rw [if_pos h]; simp; omega
    · rw [if_neg h]; simp; omega
theorem inR_any {C : List Fd} {t : Nat} {x : Fd} {r : Int} (h : C[t]? = some x) : (inR (C.take (t + 1)) r).any (·.aw) = ((inR (C.take t) r).any (·.aw) || (x.role == r && x.aw)) := by
  rw [inR_take h, List.any_append]
  congr 1
  by_cases e : x.role = r
  · rw [if_pos e]; simp [e]
  · rw [if_neg e]
    have : (x.role == r) = false := by simpa using e
    simp [this]
section
variable {w : World} {v : Value} {C : List Fd} {T : Nat → Int}
set_option maxRecDepth 100000 in
set_option maxHeartbeats 8000000 in
theorem rrolesx (h : RS 8 fdenc w v C) (hok : TOk C) (hl : C.length < 900000) : Calls Tryz.prog 34 #[mvx T v] w (RetI (ord9 T (rolesD C 32) (rolesD C 32).length) w) := by
  have HRS := Lib.hid h; have HOK := Lib.hid hok
  obtain ⟨a, n, cp, rfl, hn, hc, hm, hat⟩ := h.at_
  have hn9 : n < 900000 := by omega
  have HAT := Lib.hid hat; have HN := Lib.hid hn
  obtain ⟨b0, hb0⟩ : ∃ b, b = w.heap.size := ⟨_, rfl⟩
  obtain ⟨b1, hb1⟩ : ∃ b, b = b0 + 1 := ⟨_, rfl⟩
  obtain ⟨w1, hw1⟩ : ∃ w1, w1 = (w.alloc (.cells (mcellsx T (.slice a n cp)) 28)).alloc (.cells (mcells9 T (.slice none 0 0)) 115) := ⟨_, rfl⟩
  have s1 : (w.alloc (.cells (mcellsx T (.slice a n cp)) 28)).heap.size = b1 := by rw [hb1, hb0]; simp
  have H0 := Lib.hid (show MBx w1 b0 T (.slice a n cp) from by rw [hw1, hb0]; exact (MBx.made w T _).below (ba (Below.refl _ _) _))
  have hm1 : MB9 w1 b1 T (.slice none 0 0) := by rw [hw1, ← s1]; exact MB9.made _ T _
  have HB := Lib.hid (show Below w.heap.size w w1 from by rw [hw1]; exact ba (ba (Below.refl _ _) _) _)
  have HI := Lib.hid (show OC9 w1 w1 b1 T (.slice none 0 0) (rolesD C 0) from ⟨Below.refl _ _, hm1.lt, hm1, OwnL.nil _ _ _ _ _⟩)
  have HBB := Lib.hid (And.intro hb0 hb1)
  clear h hat hn hm hc s1 hm1 hok hl
  go_enter Tryz.func34, Tryz.ntmps34
  go_wp2
  rw [← hb0, ← hb1, ← hw1]
  clear hb0 hb1 hw1
  go_loopw [4] (fun iv wr => ∃ (t : Nat) (r : Int) (vo : Value), t ≤ 32 ∧ r = (t : Int) + 1 ∧ iv = .int .i64 r ∧ Hid (OC9 w1 wr b1 T vo (rolesD C t))) (fun iv _ => 40 - (intOf iv).toNat)
  case atStart => exact ⟨0, _, _, Nat.zero_le _, rfl, rfl, HI⟩
  case round =>
    clear HI
    obtain ⟨t, r, vo, ht, hrt, rfl, HQ⟩ := hrel
    obtain ⟨w2, rfl⟩ : ∃ w2, w2 = wr := ⟨_, rfl⟩
    by_cases hlt : t < 32
    · have hts : r ≤ 32 := by omega
      have hr0 : 1 ≤ r := by omega
      have HB2 := Lib.hid (HB.out.trans (HQ.out.bel.mono (show w.heap.size ≤ b1 by have := HBB.out; omega)))
      have HRL := Lib.hid (rrolex (T := T) (HRS.out.below HB2.out) HOK.out (show C.length < 900000 by have := HN.out; omega) r)
      have hm0 : MBx w2 b0 T (.slice a n cp) := (HQ.out.bel.block b0 (by have := HBB.out; omega)).trans H0.out
      obtain ⟨m0, m1, m2, m3, m4⟩ := hm0.cells
      have ml := hm0.lt
      clear hm0
      have hRD : rolesD C (t + 1) = rolesD C t ++ (if inR C r = [] then [] else [rolec C r]) := by rw [hrt]; rfl
      have HRD := Lib.hid hRD; have HRT := Lib.hid hrt
      have HCL := Lib.hid (show (rolesD C t).length < 1000000 by have := rolesD_len C t; omega)
      clear hRD hrt
      obtain ⟨lw, hlw⟩ : ∃ x, x = lastW (inR C r) := ⟨_, rfl⟩
      obtain ⟨S, hS⟩ : ∃ x, x = SU (inR C r) := ⟨_, rfl⟩
      obtain ⟨th, hth⟩ : ∃ x, x = decide (inR C r ≠ []) := ⟨_, rfl⟩
      rw [← hlw, ← hS, ← hth] at HRL
      have HLW := Lib.hid hlw; have HS := Lib.hid hS; have HTH := Lib.hid hth
      clear hlw hS hth
      go_wp2_with fail
      refine HRL.out.mono ?_
      rintro e w3 ⟨rfl, hb3⟩
      have HQ3 := Lib.hid (HQ.out.on hb3)
      have HP4 := Lib.hid (PBx.made w3 S)
      have HQ4 := Lib.hid (HQ3.out.on (ba (Below.refl w3.heap.size w3) (.cells (C4 S) 25)))
      clear hb3 m0 m1 m2 m3 m4 ml HRL HQ HB2 HQ3
      go_upto_region 6 with (fail)
      generalize w3.alloc (.cells (C4 S) 25) = w4 at *
      generalize w3.heap.size = b4 at *
      have hm0 : MBx w4 b0 T (.slice a n cp) := (HQ4.out.bel.block b0 (by have := HBB.out; omega)).trans H0.out
      obtain ⟨m0, m1, m2, m3, m4⟩ := hm0.cells
      have ml := hm0.lt
      clear hm0 m0 m1 m2 m3
      go_wp2
      go_loopw [8, 9] (fun av iv wr => ∃ s : Nat, s ≤ n ∧ iv = .int .i64 s ∧ av = .bool ((inR (C.take s) r).any (·.aw)) ∧ w4 = wr) (fun _ iv _ => n - (intOf iv).toNat)
      case atStart => exact ⟨0, Nat.zero_le _, rfl, by simp [inR], rfl⟩
      case round =>
        obtain ⟨s, hs, rfl, rfl, rfl⟩ := hrel
        obtain ⟨ak, hak⟩ : ∃ x, x = (inR (C.take s) r).any (·.aw) := ⟨_, rfl⟩
        rw [← hak]
        by_cases hls : s < n
        · have hss : (s : Int) < (n : Int) := by omega
          obtain ⟨x, hx⟩ := at_lt (l := C) (i := s) (by rw [← HN.out]; exact hls)
          obtain ⟨bs, off, rfl, hbs, hcell⟩ := HAT.out s x hx
          have hit := inR_any (r := r) hx
          rw [← hak] at hit
          have HW := Lib.hid hit
          have hbw := HB.out.trans (HQ4.out.bel.mono (show w.heap.size ≤ b1 by have := HBB.out; omega))
          have e2 := (hbw.cell (p := ⟨bs, off + s * 8 + 2, none⟩) hbs).trans (hcell 2 _ rfl)
          have e7 := (hbw.cell (p := ⟨bs, off + s * 8 + 7, none⟩) hbs).trans (hcell 7 _ rfl)
          have qs : bs < w4.heap.size := Nat.lt_of_lt_of_le hbs hbw.size
          clear hit hak hcell hx hbs hbw
          rcases ak with _ | _
          · by_cases hr : x.role = r
            · have hb : (x.role == r) = true := by simpa using hr
              go_wp2
              go_roundw
              case rel => exact ⟨s + 1, by omega, by go_num, by rw [HW.out, hb]; simp, by simp⟩
              case measure => simp [intOf]; omega
            · have hb : (x.role == r) = false := by simpa using hr
              go_wp2
              go_roundw
              case rel => exact ⟨s + 1, by omega, by go_num, by rw [HW.out, hb]; simp, by simp⟩
              case measure => simp [intOf]; omega
          · go_wp2
            go_roundw
            case rel => exact ⟨s + 1, by omega, by go_num, by rw [HW.out]; simp, by simp⟩
            case measure => simp [intOf]; omega
        · obtain rfl : n = s := by omega
          have hC : inR (C.take n) r = inR C r := by rw [HN.out, List.take_length]
          rw [hC] at hak
          have HAK := Lib.hid hak
          clear hC hak
          obtain ⟨y0, y1, y2, y3, y4⟩ := HQ4.out.m.cells
          have yl := HQ4.out.m.lt
          clear y0 y1 y2 y3
          by_cases hne : inR C r = []
          · obtain rfl : th = false := by rw [HTH.out]; simp [hne]
            have HW := HRD.out
            rw [if_pos hne, List.append_nil] at HW
            have HW := Lib.hid HW
            go_wp2
            go_roundw
            case rel => exact ⟨t + 1, _, _, by omega, rfl, by have := HRT.out; go_num, Lib.hid (by rw [HW.out]; exact HQ4.out)⟩
            case measure => simp [intOf]; omega
          · obtain rfl : th = true := by rw [HTH.out]; simp [hne]
            have HW := HRD.out
            rw [if_neg hne] at HW
            have HW := Lib.hid HW
            obtain ⟨s0, s1, s2, s3⟩ := HP4.out.cells
            have sl := HP4.out.lt
            obtain ⟨d, hd⟩ : ∃ d : Dc, d = ⟨r, ⟨lw, S, ak⟩⟩ := ⟨_, rfl⟩
            have HD := Lib.hid (show d = rolec C r from by rw [hd, HLW.out, HS.out, HAK.out]; rfl)
            obtain ⟨a9, m9, c9, w8, hrun, hch, hnx⟩ := HQ4.out.app (x := d) (by have := HCL.out; omega) (ba (Below.refl _ _) _) (DB9.made w4 d)
            subst hd
            have HP9 := Lib.hid (hnx w8 hch (Below.refl _ _))
            have HRA := Lib.hid hrun
            have n3 : ¬ OB9 vo b1 := HQ4.out.no (Nat.le_refl _)
            have y9 : w8.cell? ⟨b1, 4, none⟩ = some vo := (hch.cell (b := b1) (by simp; omega) n3 4).trans (((ba (Below.refl _ _) _ : Below w4.heap.size w4 (w4.alloc _)).cell (p := ⟨b1, 4, none⟩) yl).trans y4)
            have y8 : w8.frozen? ⟨b1, 4, none⟩ = false := (hch.frozen (b := b1) (by simp; omega) n3 4).trans ((World.frozen?_of_block (a := ⟨b1, 4, none⟩) ((ba (Below.refl _ _) _ : Below w4.heap.size w4 (w4.alloc _)).block b1 yl)).trans (HQ4.out.m.fz 4))
            have q9 : b1 < w8.heap.size := by have := hch.size; simp at this; omega
            clear hrun hch hnx
            go_wp2_with (at_builtin; refine wpList_app_run rfl _ _ _ rfl rfl rfl HRA.out ?_)
            go_roundw
            case rel => exact ⟨t + 1, _, _, by omega, rfl, by have := HRT.out; go_num, Lib.hid (by rw [HW.out, ← HD.out]; exact HP9.out)⟩
            case measure => simp [intOf]; omega
    · obtain rfl : t = 32 := by omega
      have hts : ¬ r ≤ 32 := by omega
      have hq := HQ.out
      have HO := Lib.hid (rorder9 (T := T) (hq.own.rs (fun _ => rfl)) (by have := rolesD_len C 32; omega))
      obtain ⟨y0, y1, y2, y3, y4⟩ := hq.m.cells
      have yl := hq.m.lt
      clear hq
      go_wp2_with fail
      refine HO.out.mono ?_
      rintro e w5 ⟨v5, rfl, hv5, hb5⟩
      have hg : w.heap.size ≤ w2.heap.size := by have := HQ.out.sz; have := HBB.out; omega
      have HB5 := Lib.hid ((HB.out.trans (HQ.out.bel.mono (show w.heap.size ≤ b1 by have := HBB.out; omega))).trans (hb5.mono hg))
      have HV5 := Lib.hid (ownsRow_base hv5 hg)
      clear y4 yl hv5 hb5 hg
      go_wp2
      go_ret
      exact ⟨_, rfl, HV5.out, HB5.out⟩
end
end
section
open Go.RowKit Go.Maps
section
variable {C : List Fd} {T : Nat → Int} {r : Int}
/-- The frameworks of a role, as the document lists them, are the clients of its sorter. -/
theorem ownD_dc (h : TOk C) (r : Int) : DC (ownD C r) (GO C r) where
  nd := by
    have : (ownD C r).map (·.id) = (inR C r).map (·.id) := by unfold ownD; rw [List.map_map]; rfl
    rw [this]; exact h.ndR r
  mem := fun d => by
    rw [GO_some h]
    unfold ownD
    rw [List.mem_map]
    constructor
    · rintro ⟨x, hx, rfl⟩
      obtain ⟨h1, h2⟩ := mem_inR.1 hx
      exact ⟨x, h1, h2, rfl, rfl⟩
    · rintro ⟨x, h1, h2, h3, h4⟩
      refine ⟨x, mem_inR.2 ⟨h1, h2⟩, ?_⟩
      cases d; simp only at h3 h4; subst h3; subst h4; rfl
/-- The role's weight is that of each of its frameworks. -/
theorem lastW_of (h : TOk C) {x : Fd} (hx : x ∈ C) : lastW (inR C x.role) = x.wt := by
  unfold lastW
  cases hl : (inR C x.role).getLast? with
  | none =>
    have := List.getLast?_eq_none_iff.1 hl
    have hm : x ∈ inR C x.role := mem_inR.2 ⟨hx, rfl⟩
    rw [this] at hm; cases hm
  | some d =>
    obtain ⟨h1, h2⟩ := mem_inR.1 (List.mem_of_getLast? hl)
    exact h.ww d h1 x hx h2
/-- The sorter of the roles, with those alone awake that have a framework awake. -/
def awR (C : List Fd) (r : Int) : Bool := (inR C r).any (·.aw)
def GTa (C : List Fd) : Int → Option Cl := fun r => (GT C r).map fun c => { c with aw := awR C r }
theorem rolesD_mem (C : List Fd) (d : Dc) : ∀ m, d ∈ rolesD C m ↔ ∃ r : Int, 1 ≤ r ∧ r ≤ m ∧ inR C r ≠ [] ∧ d = rolec C r
  | 0 => by
    constructor
    · intro h; cases h
    · rintro ⟨r, h1, h2, _⟩; omega
  | m + 1 => by
    unfold rolesD
    rw [List.mem_append, rolesD_mem C d m]
    constructor
    · rintro (⟨r, h1, h2, h3, h4⟩ | h1)
      · exact ⟨r, h1, by omega, h3, h4⟩
      · by_cases e : inR C ((m : Int) + 1) = []
        · rw [if_pos e] at h1; cases h1
        · rw [if_neg e] at h1
          exact ⟨(m : Int) + 1, by omega, by omega, e, List.mem_singleton.1 h1⟩
    · rintro ⟨r, h1, h2, h3, h4⟩
      by_cases e : r = (m : Int) + 1
      · right
        subst e
        rw [if_neg h3, h4]; simp
      · exact .inl ⟨r, h1, by omega, h3, h4⟩
theorem rolesD_nd (C : List Fd) : ∀ m, ((rolesD C m).map (·.id)).Nodup
  | 0 => List.nodup_nil
  | m + 1 => by
    unfold rolesD
    rw [List.map_append]
    refine List.nodup_append.2 ⟨rolesD_nd C m, ?_, fun a ha b hb e => ?_⟩
    · split <;> simp
    · obtain ⟨d, hd, rfl⟩ := List.mem_map.1 ha
      obtain ⟨r, h1, h2, h3, rfl⟩ := (rolesD_mem C d m).1 hd
      have e1 : (rolec C r).id = r := rfl
      by_cases h5 : inR C ((m : Int) + 1) = []
      · rw [if_pos h5] at hb; cases hb
      · rw [if_neg h5] at hb
        simp only [List.map_cons, List.map_nil, List.mem_singleton] at hb
        have e2 : (rolec C ((m : Int) + 1)).id = (m : Int) + 1 := rfl
        rw [e2] at hb
        omega
theorem rolesD_dc (h : TOk C) : DC (rolesD C 32) (GTa C) where
  nd := rolesD_nd C 32
  mem := fun d => by
    rw [rolesD_mem]
    unfold GTa
    constructor
    · rintro ⟨r, h1, h2, h3, rfl⟩
      obtain ⟨x, L, hx⟩ := List.exists_cons_of_ne_nil h3
      have hm : x ∈ inR C r := by rw [hx]; simp
      obtain ⟨h4, h5⟩ := mem_inR.1 hm
      have hg := (GT_some (r := r) h).2 ⟨x, h4, h5, rfl⟩
      show (GT C r).map _ = _
      rw [hg]
      subst h5
      show some _ = some (Cl.mk (lastW (inR C x.role)) _ _)
      rw [lastW_of h h4]; rfl
    · intro hd
      obtain ⟨c, hc, he⟩ := Option.map_eq_some_iff.1 hd
      obtain ⟨x, h4, h5, rfl⟩ := (GT_some h).1 hc
      have hr := h.r1 x h4
      rw [h5] at hr
      refine ⟨d.id, hr.1, by omega, fun e => ?_, ?_⟩
      · have : x ∈ inR C d.id := mem_inR.2 ⟨h4, h5⟩
        rw [e] at this; cases this
      · cases d
        simp only at he h5
        subst he
        subst h5
        show Dc.mk _ (Cl.mk _ _ _) = Dc.mk _ (Cl.mk (lastW (inR C x.role)) _ _)
        rw [lastW_of h h4]; rfl
/-- With fewer roles awake the sorter's list is what is left of it. -/
theorem S9.fewer {L : List Pl} (h : S9 T (GT C) L) : S9 T (GTa C) (L.filter fun p => awR C p.i) where
  t := h.t
  ok := fun i c hc => by
    obtain ⟨c0, h0, rfl⟩ := Option.map_eq_some_iff.1 hc
    have q := h.ok i c0 h0
    exact ⟨q.w1, q.w2, q.sm, q.i64⟩
  sl := by
    have hg : HG T (GTa C) = HG T (GT C) := by
      funext i
      unfold HG GTa
      cases GT C i <;> rfl
    rw [hg]
    exact ⟨fun x hx => h.sl.1 x (List.mem_filter.1 hx).1, h.sl.2.sublist List.filter_sublist⟩
  mem := fun p => by
    rw [List.mem_filter, h.mem]
    unfold GTa
    constructor
    · rintro ⟨⟨c, h1, h2, h3⟩, h4⟩
      exact ⟨{ c with aw := awR C p.i }, by rw [h1]; rfl, h4, h3⟩
    · rintro ⟨c, h1, h2, h3⟩
      obtain ⟨c0, h0, rfl⟩ := Option.map_eq_some_iff.1 h1
      refine ⟨⟨c0, h0, ?_, h3⟩, h2⟩
      unfold GT at h0
      split at h0
      · cases h0
      · cases h0; rfl
/-- The order of a role's frameworks, and that of the roles. -/
theorem own_is (h : TOk C) {L : List Pl} (h9 : S9 T (GO C r) L) : ord9 T (ownD C r) (ownD C r).length = L.map (·.i) := ord_eq (ownD_dc h r) h9
theorem roles_is (h : TOk C) {L : List Pl} (h9 : S9 T (GT C) L) : ord9 T (rolesD C 32) (rolesD C 32).length = (L.filter fun p => awR C p.i).map (·.i) := ord_eq (rolesD_dc h) h9.fewer
/-- Of a role that has nobody awake there is nobody in order. -/
theorem own_nil {L : List Pl} (h : TOk C) (h9 : S9 T (GO C r) L) (ha : awR C r = false) : L = [] := by
  cases L with
  | nil => rfl
  | cons p L =>
    obtain ⟨c, h1, h2, _⟩ := (h9.mem p).1 (by simp)
    obtain ⟨d, h3, h4, _, h5⟩ := (GO_some h).1 h1
    have : awR C r = true := List.any_eq_true.2 ⟨d, mem_inR.2 ⟨h3, h4⟩, by rw [h5] at h2; exact h2⟩
    rw [this] at ha; cases ha
end
end
end Go.Proofs.YtgfjmafdfbghnaaGreat

/- The document's sorter: with, without. -/
import Derived.Test.YtgfjmafdfbghnaaSq1
namespace Go.Proofs.Ytgfjmafdfbghnaa
open Go.RowKit Go.Maps
attribute [local go_sem] ext_cell ext_frozen extC_cell extC_frozen Mix.calmUpon Mix.mUpon
/-- 'append' within a region that draws its order, by what its run is known to be. -/
theorem Mix.opApp {P : Program} {ops : Array Oper} {i : Nat} {o : Oper} {K : Act → World → Prop} {a : Act} {w : World} (hi : ops[i]? = some o) (hwt : Region.wanted o (yielded ops a.tmps) = true) (s x : Operand) (t : TypeId)
    (ho : o.op = .call { callee := .builtin .append, args := #[s, x], argTypes := #[t, t] }) {vs vx : Value} (hs : a.eval s = vs) (hx : a.eval x = vx) {v' : Value} {w' : World} (hr : (Builtin.append_ #[t, t] o.type #[vs, vx]).run P w = .ok v' w')
    (h : K (a.put o.dst v') w') : Mix.mOp P ops i K a w := by
  refine Mix.op hi hwt ?_
  unfold execOp
  simp only [ho, resolve, invoke, builtin, Sem.run_bind, Sem.run_pure, Result.andThen_ok, List.map_toArray, List.map_cons, List.map_nil, hs, hx, hr, Mix.mUpon]
  exact h
-- what a round reads at the world wq, in the state HQ
-- the element x of the list that came in is appended: state HQ at w2
-- the client c, which lies in the variable b1, is appended to the list L: state HQ at w2
-- the list of the block b3 is answered by way of the block br: state HQ at wq, which holds .slice ao mo co
def set5w (w : World) (b : Nat) (T : Nat → Int) (v : Value) : World := ((((w.setCell ⟨b, 0, none⟩ (.int .i64 (T 0))).setCell ⟨b, 1, none⟩ (.int .i64 (T 1))).setCell ⟨b, 2, none⟩ (.int .i64 (T 2))).setCell ⟨b, 3, none⟩ (.int .i64 (T 3))).setCell ⟨b, 4, none⟩ v
theorem MB9.set5 {w : World} {b : Nat} {T : Nat → Int} {v : Value} (h : MB9 w b T v) (T' : Nat → Int) (v' : Value) : MB9 (set5w w b T' v') b T' v' := heap_setCell_at v' (heap_setCell_at _ (heap_setCell_at _ (heap_setCell_at _ (heap_setCell_at _ h))))
theorem take_erase {C : List Dc} {x : Dc} {t k : Nat} (hx : C[t]? = some x) : (C.take (t + 1)).eraseIdx k = if t = k then (C.take t).eraseIdx k else (C.take t).eraseIdx k ++ [x] := by
  have hl : (C.take t).length = t := by rw [List.length_take]; have := (List.getElem?_eq_some_iff.1 hx).1; omega
  rw [take_at hx]
  by_cases h1 : t < k
  · rw [if_neg (by omega), List.eraseIdx_of_length_le (by simp; omega), List.eraseIdx_of_length_le (by omega)]
  · by_cases h2 : t = k
    · subst h2
      rw [if_pos rfl, List.eraseIdx_append_of_length_le (by omega), hl, Nat.sub_self, List.eraseIdx_of_length_le (l := C.take t) (by omega)]; simp
    · rw [if_neg h2, List.eraseIdx_append_of_lt_length (by omega)]
section
variable {w : World} {v : Value} {C : List Dc} {T : Nat → Int}
set_option maxRecDepth 100000 in
set_option maxHeartbeats 4000000 in
theorem rwith9 (h : RS 7 dcenc w v C) (hln : C.length < 900000) (k : Int) (c : Dc) (D : List Dc) (hD : D.length = C.length) (hD2 : ∀ (t : Nat) x, C[t]? = some x → D[t]? = some (if (t : Int) = k then c else x)) :
    Calls Try.prog 27 #[mv9 T v, .int .i64 k, dcval c] w (RetM9 w T (if k < 0 then D ++ [c] else D)) := by
  obtain ⟨a, n, cp, rfl, hn, hc, hm, hat⟩ := h.at_
  have HAT := Lib.hid hat; have HN := Lib.hid hn; have HDL := Lib.hid hD; have HDX := Lib.hid hD2
  have hn9 : n < 900000 := by omega
  obtain ⟨R, hRq⟩ : ∃ R, R = (if k < 0 then D ++ [c] else D) := ⟨_, rfl⟩
  rw [← hRq]
  have HRQ := Lib.hid hRq
  clear hRq
  obtain ⟨b0, hb0⟩ : ∃ b, b = w.heap.size := ⟨_, rfl⟩
  obtain ⟨b1, hb1⟩ : ∃ b, b = b0 + 1 := ⟨_, rfl⟩
  obtain ⟨b2, hb2⟩ : ∃ b, b = b1 + 1 := ⟨_, rfl⟩
  obtain ⟨b3, hb3⟩ : ∃ b, b = b2 + 1 := ⟨_, rfl⟩
  obtain ⟨w1, hw1⟩ : ∃ w1, w1 = (((w.alloc (.cells (mcells9 T (.slice a n cp)) 28)).alloc (.cells (dccells c) 52)).alloc (.cells (mcells9 (fun _ => 0) (.slice none 0 0)) 28)).alloc (.cells (mcells9 T (.slice none 0 0)) 28) := ⟨_, rfl⟩
  have s1 : (w.alloc (.cells (mcells9 T (.slice a n cp)) 28)).heap.size = b1 := by rw [hb1, hb0]; simp
  have s2 : ((w.alloc (.cells (mcells9 T (.slice a n cp)) 28)).alloc (.cells (dccells c) 52)).heap.size = b2 := by rw [hb2, hb1, hb0]; simp
  have s3 : (((w.alloc (.cells (mcells9 T (.slice a n cp)) 28)).alloc (.cells (dccells c) 52)).alloc (.cells (mcells9 (fun _ => 0) (.slice none 0 0)) 28)).heap.size = b3 := by rw [hb3, hb2, hb1, hb0]; simp
  have H0 := Lib.hid (show MB9 w1 b0 T (.slice a n cp) from by rw [hw1, hb0]; exact (MB9.made w T _).below (ba (ba (ba (Below.refl _ _) _) _) _))
  have H1 := Lib.hid (show DB9 w1 b1 c from by rw [hw1, ← s1]; exact (DB9.made _ c).below (ba (ba (Below.refl _ _) _) _))
  have H2 := Lib.hid (show MB9 w1 b2 (fun _ => 0) (.slice none 0 0) from by rw [hw1, ← s2]; exact (MB9.made _ (fun _ => 0) _).below (ba (Below.refl _ _) _))
  have hm3 : MB9 w1 b3 T (.slice none 0 0) := by rw [hw1, ← s3]; exact MB9.made _ T _
  have HB := Lib.hid (show Below w.heap.size w w1 from by rw [hw1]; exact ba (ba (ba (ba (Below.refl _ _) _) _) _) _)
  have HI := Lib.hid (show OC9 w1 w1 b3 T (.slice none 0 0) (D.take 0) from ⟨Below.refl _ _, hm3.lt, hm3, OwnL.nil _ _ _ _ _⟩)
  have HBB := Lib.hid (And.intro hb0 (And.intro hb1 (And.intro hb2 hb3)))
  have HWS := Lib.hid (show ∀ bs, bs < w.heap.size → ∀ o, w1.cell? ⟨bs, o, none⟩ = w.cell? ⟨bs, o, none⟩ from fun bs hbs o => HB.out.cell (p := ⟨bs, o, none⟩) hbs)
  clear h hat hn hm hc hD hD2 s1 s2 s3 hm3
  go_enter Try.func27, Try.ntmps27
  go_wp2
  rw [← hb0, ← hb1, ← hb2, ← hb3, ← hw1]
  clear hb0 hb1 hb2 hb3 hw1 HWS
  go_loopw [8] (fun iv wr => ∃ (t : Nat) (vo : Value), t ≤ n ∧ iv = .int .i64 t ∧ Hid (OC9 w1 wr b3 T vo (D.take t))) (fun iv _ => n - (intOf iv).toNat)
  case atStart => exact ⟨0, _, Nat.zero_le _, rfl, HI⟩
  case round =>
    clear HI
    obtain ⟨t, vo, ht, rfl, HQ⟩ := hrel
    obtain ⟨w2, rfl⟩ : ∃ w2, w2 = wr := ⟨_, rfl⟩
    by_cases hlt : t < n
    · have hts : (t : Int) < (n : Int) := by omega
      obtain ⟨x, hx⟩ := at_lt (l := C) (i := t) (by rw [← HN.out]; exact hlt)
      obtain ⟨bs, off, rfl, hbs, hcell⟩ := HAT.out t x hx
      have HBS := Lib.hid hbs; have HCX := Lib.hid hcell
      have HCL := Lib.hid (show (D.take t).length < 1000000 by have := List.length_take_le t D; omega)
      have hdx := HDX.out t x hx
      clear hcell hx hbs
      by_cases htk : (t : Int) = k
      · have hb : ((t : Int) == k) = true := by simpa using htk
        rw [if_pos htk] at hdx
        have HW := Lib.hid (take_at hdx)
        clear htk hdx
        have hm0 : MB9 w2 b0 T (.slice (some ⟨bs, off, none⟩) n cp) := (HQ.out.bel.block b0 (by have := HBB.out; omega)).trans H0.out
        obtain ⟨m0, m1, m2, m3, m4⟩ := hm0.cells
        have ml := hm0.lt
        clear hm0 m0 m1 m2 m3
        obtain ⟨y0, y1, y2, y3, y4⟩ := HQ.out.m.cells
        have yl := HQ.out.m.lt
        clear y0 y1 y2 y3
        have hbw := HB.out.trans (HQ.out.bel.mono (show w.heap.size ≤ b3 by have := HBB.out; omega))
        have e0 := (hbw.cell (p := ⟨bs, off + t * 7 + 0, none⟩) HBS.out).trans (HCX.out 0 _ rfl)
        have e1 := (hbw.cell (p := ⟨bs, off + t * 7 + 1, none⟩) HBS.out).trans (HCX.out 1 _ rfl)
        have e2 := (hbw.cell (p := ⟨bs, off + t * 7 + 2, none⟩) HBS.out).trans (HCX.out 2 _ rfl)
        have e3 := (hbw.cell (p := ⟨bs, off + t * 7 + 3, none⟩) HBS.out).trans (HCX.out 3 _ rfl)
        have e4 := (hbw.cell (p := ⟨bs, off + t * 7 + 4, none⟩) HBS.out).trans (HCX.out 4 _ rfl)
        have e5 := (hbw.cell (p := ⟨bs, off + t * 7 + 5, none⟩) HBS.out).trans (HCX.out 5 _ rfl)
        have e6 := (hbw.cell (p := ⟨bs, off + t * 7 + 6, none⟩) HBS.out).trans (HCX.out 6 _ rfl)
        simp only [Nat.add_zero] at e0
        have qs : bs < w2.heap.size := by have := HBS.out; have := HBB.out; omega
        clear hbw
        have hd1 : DB9 w2 b1 c := (HQ.out.bel.block b1 (by have := HBB.out; omega)).trans H1.out
        obtain ⟨x0, x1, x2, x3, x4, x5, x6⟩ := hd1.cells
        have xl := hd1.lt
        clear hd1
        obtain ⟨a9, m9, c9, w8, hrun, hch, hnx⟩ := HQ.out.app (x := c) (by have := HCL.out; omega) (ba (Below.refl _ _) _) (DB9.made w2 c)
        have HP9 := Lib.hid (hnx w8 hch (Below.refl _ _))
        have HRA := Lib.hid hrun
        have n3 : ¬ OB9 vo b3 := HQ.out.no (Nat.le_refl _)
        have y9 : w8.cell? ⟨b3, 4, none⟩ = some vo := (hch.cell (b := b3) (by simp; omega) n3 4).trans (((ba (Below.refl _ _) _ : Below w2.heap.size w2 (w2.alloc _)).cell (p := ⟨b3, 4, none⟩) yl).trans y4)
        have y8 : w8.frozen? ⟨b3, 4, none⟩ = false := (hch.frozen (b := b3) (by simp; omega) n3 4).trans ((World.frozen?_of_block (a := ⟨b3, 4, none⟩) ((ba (Below.refl _ _) _ : Below w2.heap.size w2 (w2.alloc _)).block b3 yl)).trans (HQ.out.m.fz 4))
        have q9 : b3 < w8.heap.size := by have := hch.size; simp at this; omega
        clear hrun hch hnx
        go_wp2_with (at_builtin; refine wpList_app_run rfl _ _ _ rfl rfl rfl HRA.out ?_)
        clear x0 x1 x2 x3 x4 x5 x6 xl n3 y9 y8 q9
        clear m4 ml y4 yl e0 e1 e2 e3 e4 e5 e6 qs
        generalize w8.setCell ⟨b3, 4, none⟩ (.slice a9 m9 c9) = w9 at *
        go_roundw
        case rel => exact ⟨t + 1, _, by omega, by go_num, Lib.hid (by rw [HW.out]; exact HP9.out)⟩
        case measure => simp [intOf]; omega
      · have hb : ((t : Int) == k) = false := by simpa using htk
        rw [if_neg htk] at hdx
        have HW := Lib.hid (take_at hdx)
        clear htk hdx
        have hm0 : MB9 w2 b0 T (.slice (some ⟨bs, off, none⟩) n cp) := (HQ.out.bel.block b0 (by have := HBB.out; omega)).trans H0.out
        obtain ⟨m0, m1, m2, m3, m4⟩ := hm0.cells
        have ml := hm0.lt
        clear hm0 m0 m1 m2 m3
        obtain ⟨y0, y1, y2, y3, y4⟩ := HQ.out.m.cells
        have yl := HQ.out.m.lt
        clear y0 y1 y2 y3
        have hbw := HB.out.trans (HQ.out.bel.mono (show w.heap.size ≤ b3 by have := HBB.out; omega))
        have e0 := (hbw.cell (p := ⟨bs, off + t * 7 + 0, none⟩) HBS.out).trans (HCX.out 0 _ rfl)
        have e1 := (hbw.cell (p := ⟨bs, off + t * 7 + 1, none⟩) HBS.out).trans (HCX.out 1 _ rfl)
        have e2 := (hbw.cell (p := ⟨bs, off + t * 7 + 2, none⟩) HBS.out).trans (HCX.out 2 _ rfl)
        have e3 := (hbw.cell (p := ⟨bs, off + t * 7 + 3, none⟩) HBS.out).trans (HCX.out 3 _ rfl)
        have e4 := (hbw.cell (p := ⟨bs, off + t * 7 + 4, none⟩) HBS.out).trans (HCX.out 4 _ rfl)
        have e5 := (hbw.cell (p := ⟨bs, off + t * 7 + 5, none⟩) HBS.out).trans (HCX.out 5 _ rfl)
        have e6 := (hbw.cell (p := ⟨bs, off + t * 7 + 6, none⟩) HBS.out).trans (HCX.out 6 _ rfl)
        simp only [Nat.add_zero] at e0
        have qs : bs < w2.heap.size := by have := HBS.out; have := HBB.out; omega
        clear hbw
        go_upto_region 7 with (fail)
        have n3 : ¬ OB9 vo b3 := HQ.out.no (Nat.le_refl _)
        have n0 : ¬ OB9 vo b0 := HQ.out.no (by have := HBB.out; omega)
        have ns : ¬ OB9 vo bs := HQ.out.no (by have := HBB.out; have := HBS.out; omega)
        refine Mix.regionL (OB9 vo) (by kernel_rfl) ?_
        intro w5 hb5
        refine Mix.take_exL _ _ 0 rfl (by kernel_rfl) (by kernel_rfl) (by kernel_rfl) (by kernel_rfl) (by kernel_rfl) (by kernel_rfl) (fun K hK => ?_)
        go_simp
        first | (refine hK _ ?_; clear hK K) | (apply Exists.intro; refine ⟨fun x => ?_, hK _ ?_⟩; (fail); clear hK K)
        refine Mix.take_exL _ _ 1 rfl (by kernel_rfl) (by kernel_rfl) (by kernel_rfl) (by kernel_rfl) (by kernel_rfl) (by kernel_rfl) (fun K hK => ?_)
        go_simp
        first | (refine hK _ ?_; clear hK K) | (apply Exists.intro; refine ⟨fun x => ?_, hK _ ?_⟩; (fail); clear hK K)
        refine Mix.take_exL _ _ 2 rfl (by kernel_rfl) (by kernel_rfl) (by kernel_rfl) (by kernel_rfl) (by kernel_rfl) (by kernel_rfl) (fun K hK => ?_)
        go_simp
        first | (refine hK _ ?_; clear hK K) | (apply Exists.intro; refine ⟨fun x => ?_, hK _ ?_⟩; (fail); clear hK K)
        refine Mix.take_exL _ _ 3 rfl (by kernel_rfl) (by kernel_rfl) (by kernel_rfl) (by kernel_rfl) (by kernel_rfl) (by kernel_rfl) (fun K hK => ?_)
        go_simp
        first | (refine hK _ ?_; clear hK K) | (apply Exists.intro; refine ⟨fun x => ?_, hK _ ?_⟩; (fail); clear hK K)
        refine Mix.take_exL _ _ 4 rfl (by kernel_rfl) (by kernel_rfl) (by kernel_rfl) (by kernel_rfl) (by kernel_rfl) (by kernel_rfl) (fun K hK => ?_)
        go_simp
        first | (refine hK _ ?_; clear hK K) | (apply Exists.intro; refine ⟨fun x => ?_, hK _ ?_⟩; (fail); clear hK K)
        refine Mix.take_exL _ _ 5 rfl (by kernel_rfl) (by kernel_rfl) (by kernel_rfl) (by kernel_rfl) (by kernel_rfl) (by kernel_rfl) (fun K hK => ?_)
        go_simp
        first | (refine hK _ ?_; clear hK K) | (apply Exists.intro; refine ⟨fun x => ?_, hK _ ?_⟩; (fail); clear hK K)
        refine Mix.take_exL _ _ 6 rfl (by kernel_rfl) (by kernel_rfl) (by kernel_rfl) (by kernel_rfl) (by kernel_rfl) (by kernel_rfl) (fun K hK => ?_)
        go_simp
        first | (refine hK _ ?_; clear hK K) | (apply Exists.intro; refine ⟨fun x => ?_, hK _ ?_⟩; (fail); clear hK K)
        refine Mix.allL (rs := [7]) (by kernel_rfl) (by simp) (.of_below _ hb5) (by kernel_rfl) ?_
        intro i6 hi6 w6 hb6 hC6
        simp only [List.mem_cons, List.not_mem_nil, or_false] at hi6
        subst hi6
        have HB6 := Lib.hid (bt hb5 hb6)
        clear hC6 hb5 hb6
        refine Mix.op rfl (by kernel_rfl) ?_
        go_simp
        refine Mix.allL (rs := [8]) (by kernel_rfl) (by simp) (.of_below _ (ba HB6.out _)) (by kernel_rfl) ?_
        intro i7 hi7 w7 hb7 hC7
        simp only [List.mem_cons, List.not_mem_nil, or_false] at hi7
        subst hi7
        have HB7 := Lib.hid (bt (ba HB6.out (.cells (dccells x) 52)) hb7)
        have hFX := (DB9.made w6 x).below hb7
        clear hC7 hb7
        obtain ⟨a', m', c', w8, hrun, hch, hnx⟩ := HQ.out.app (x := x) (by have := HCL.out; omega) HB7.out hFX
        have HCH := Lib.hid hch; have HNX := Lib.hid hnx; have HRA := Lib.hid hrun
        clear hch hnx hrun hFX
        refine Mix.opApp rfl (by kernel_rfl) _ _ _ rfl rfl rfl HRA.out ?_
        go_simp
        refine Mix.take_exL _ _ 9 rfl (by kernel_rfl) (by kernel_rfl) (by kernel_rfl) (by kernel_rfl) (by kernel_rfl) (by kernel_rfl) (fun K hK => ?_)
        go_simp
        first | (refine hK _ ?_; clear hK K) | (apply Exists.intro; refine ⟨fun x => ?_, hK _ ?_⟩; (fail); clear hK K)
        refine Mix.allL (rs := [10]) (by kernel_rfl) (by simp) ((Chg.of_below _ HB7.out).same HCH.out) (by kernel_rfl) ?_
        intro i9 hi9 w9 hb9 hC9
        simp only [List.mem_cons, List.not_mem_nil, or_false] at hi9
        subst hi9
        have hp9 := HNX.out w9 (HCH.out.then_below hb9) hb9
        have y9 : w9.cell? ⟨b3, 4, none⟩ = some vo := ((HCH.out.then_below hb9).cell (b := b3) (by have := HB7.out.size; omega) n3 4).trans ((HB7.out.cell (p := ⟨b3, 4, none⟩) yl).trans y4)
        have y8 : w9.frozen? ⟨b3, 4, none⟩ = false := ((HCH.out.then_below hb9).frozen (b := b3) (by have := HB7.out.size; omega) n3 4).trans ((World.frozen?_of_block (a := ⟨b3, 4, none⟩) (HB7.out.block b3 yl)).trans (HQ.out.m.fz 4))
        have q9 : b3 < w9.heap.size := by have := HB7.out.size; have := HCH.out.size; have := hb9.size; omega
        have HP9 := Lib.hid hp9
        clear m4 ml y4 yl e0 e1 e2 e3 e4 e5 e6 qs
        clear hC9 hp9 hb9 n3 n0 ns
        refine Mix.op rfl (by kernel_rfl) ?_
        go_simp
        refine Mix.doneL (by kernel_rfl) (by kernel_rfl) ?_
        intro w10 hb10
        have HP10 := Lib.hid (HP9.out.on hb10)
        clear hb10 y9 y8 q9
        go_wp2
        go_roundw
        case rel => exact ⟨t + 1, _, by omega, by go_num, Lib.hid (by rw [HW.out]; exact HP10.out)⟩
        case measure => simp [intOf]; omega
    · obtain rfl : n = t := by omega
      have hq := HQ.out
      rw [List.take_of_length_le (by rw [HDL.out, HN.out]; exact Nat.le_refl _)] at hq
      have HQ := Lib.hid hq
      clear hq
      have hm0 : MB9 w2 b0 T (.slice a n cp) := (HQ.out.bel.block b0 (by have := HBB.out; omega)).trans H0.out
      obtain ⟨m0, m1, m2, m3, m4⟩ := hm0.cells
      have ml := hm0.lt
      clear hm0 m0 m1 m2 m3
      by_cases hk : k < 0
      · have HFN := Lib.hid (show D ++ [c] = R from (HRQ.out.trans (if_pos hk)).symm)
        have HCL := Lib.hid (show D.length < 1000000 by have := HDL.out; omega)
        obtain ⟨y0, y1, y2, y3, y4⟩ := HQ.out.m.cells
        have yl := HQ.out.m.lt
        clear y0 y1 y2 y3
        have hd1 : DB9 w2 b1 c := (HQ.out.bel.block b1 (by have := HBB.out; omega)).trans H1.out
        obtain ⟨x0, x1, x2, x3, x4, x5, x6⟩ := hd1.cells
        have xl := hd1.lt
        clear hd1
        obtain ⟨a9, m9, c9, w8, hrun, hch, hnx⟩ := HQ.out.app (x := c) (by have := HCL.out; omega) (ba (Below.refl _ _) _) (DB9.made w2 c)
        have HP9 := Lib.hid (hnx w8 hch (Below.refl _ _))
        have HRA := Lib.hid hrun
        have n3 : ¬ OB9 vo b3 := HQ.out.no (Nat.le_refl _)
        have y9 : w8.cell? ⟨b3, 4, none⟩ = some vo := (hch.cell (b := b3) (by simp; omega) n3 4).trans (((ba (Below.refl _ _) _ : Below w2.heap.size w2 (w2.alloc _)).cell (p := ⟨b3, 4, none⟩) yl).trans y4)
        have y8 : w8.frozen? ⟨b3, 4, none⟩ = false := (hch.frozen (b := b3) (by simp; omega) n3 4).trans ((World.frozen?_of_block (a := ⟨b3, 4, none⟩) ((ba (Below.refl _ _) _ : Below w2.heap.size w2 (w2.alloc _)).block b3 yl)).trans (HQ.out.m.fz 4))
        have q9 : b3 < w8.heap.size := by have := hch.size; simp at this; omega
        clear hrun hch hnx
        go_upto_region 9 with (fail)
        clear m4 ml
        go_upto_region 10 with (at_builtin; refine wpList_app_run rfl _ _ _ rfl rfl rfl HRA.out ?_)
        clear x0 x1 x2 x3 x4 x5 x6 xl n3 y9 y8 q9
        clear y4 yl
        generalize w8.setCell ⟨b3, 4, none⟩ (.slice a9 m9 c9) = w9 at *
        obtain ⟨ao, hao⟩ : ∃ ao, ao = a9 := ⟨_, rfl⟩
        obtain ⟨mo, hmo⟩ : ∃ mo, mo = m9 := ⟨_, rfl⟩
        obtain ⟨co, hco⟩ : ∃ co, co = c9 := ⟨_, rfl⟩
        rw [← hao, ← hmo, ← hco] at HP9
        clear hao hmo hco
        have hm2 : MB9 w9 b2 (fun _ => 0) (.slice none 0 0) := (HP9.out.bel.block b2 (by have := HBB.out; omega)).trans H2.out
        obtain ⟨y0, y1, y2, y3, y4⟩ := HP9.out.m.cells
        have yl := HP9.out.m.lt
        obtain ⟨s0, s1, s2, s3, s4⟩ := hm2.cells
        have f0 := hm2.fz 0; have f1 := hm2.fz 1; have f2 := hm2.fz 2; have f3 := hm2.fz 3; have f4 := hm2.fz 4
        have sl := hm2.lt
        have HR := Lib.hid (hm2.set5 T (.slice ao mo co))
        have HST := Lib.hid (show Chg (fun k => k = b2) w9 (set5w w9 b2 T (.slice ao mo co)) from
          ((((((Chg.refl (fun k => k = b2) w9).setCell (p := ⟨b2, 0, none⟩) (.inl rfl) _).setCell (p := ⟨b2, 1, none⟩) (.inl rfl) _).setCell (p := ⟨b2, 2, none⟩) (.inl rfl) _).setCell (p := ⟨b2, 3, none⟩) (.inl rfl) _).setCell (p := ⟨b2, 4, none⟩) (.inl rfl) _))
        clear hm2
        go_wp2
        refine bodyPost_ret (res_m9 Try.results27 rfl HR.out) rfl ?_
        have hbb := HBB.out
        have hol := HP9.out.own.lt
        refine ⟨_, rfl, ?_, ?_⟩
        · rw [← HFN.out]
          exact ownsRow_base (HP9.out.own.chg HST.out fun k hk e => by have := (hol k hk).1; have e : k = b2 := e; omega) (by omega)
        · exact (HB.out.trans (HP9.out.bel.mono (by omega))).trans (HST.out.below (by have := HP9.out.sz; omega) fun k e => by have e : k = b2 := e; omega)
      · have HFN := Lib.hid (show D = R from (HRQ.out.trans (if_neg hk)).symm)
        go_upto_region 10 with (fail)
        clear m4 ml
        obtain ⟨ao, mo, co, hvo⟩ : ∃ ao mo co, vo = .slice ao mo co := by
          rcases HQ.out.own.2 with ⟨hv, h0⟩ | ⟨g', cap', cur', hv, _⟩
          · exact ⟨_, _, _, hv⟩
          · exact ⟨_, _, _, hv⟩
        subst hvo
        have hm2 : MB9 w2 b2 (fun _ => 0) (.slice none 0 0) := (HQ.out.bel.block b2 (by have := HBB.out; omega)).trans H2.out
        obtain ⟨y0, y1, y2, y3, y4⟩ := HQ.out.m.cells
        have yl := HQ.out.m.lt
        obtain ⟨s0, s1, s2, s3, s4⟩ := hm2.cells
        have f0 := hm2.fz 0; have f1 := hm2.fz 1; have f2 := hm2.fz 2; have f3 := hm2.fz 3; have f4 := hm2.fz 4
        have sl := hm2.lt
        have HR := Lib.hid (hm2.set5 T (.slice ao mo co))
        have HST := Lib.hid (show Chg (fun k => k = b2) w2 (set5w w2 b2 T (.slice ao mo co)) from
          ((((((Chg.refl (fun k => k = b2) w2).setCell (p := ⟨b2, 0, none⟩) (.inl rfl) _).setCell (p := ⟨b2, 1, none⟩) (.inl rfl) _).setCell (p := ⟨b2, 2, none⟩) (.inl rfl) _).setCell (p := ⟨b2, 3, none⟩) (.inl rfl) _).setCell (p := ⟨b2, 4, none⟩) (.inl rfl) _))
        clear hm2
        go_wp2
        refine bodyPost_ret (res_m9 Try.results27 rfl HR.out) rfl ?_
        have hbb := HBB.out
        have hol := HQ.out.own.lt
        refine ⟨_, rfl, ?_, ?_⟩
        · rw [← HFN.out]
          exact ownsRow_base (HQ.out.own.chg HST.out fun k hk e => by have := (hol k hk).1; have e : k = b2 := e; omega) (by omega)
        · exact (HB.out.trans (HQ.out.bel.mono (by omega))).trans (HST.out.below (by have := HQ.out.sz; omega) fun k e => by have e : k = b2 := e; omega)
set_option maxRecDepth 100000 in
set_option maxHeartbeats 4000000 in
theorem rwithout9 (h : RS 7 dcenc w v C) (hln : C.length < 900000) (k : Nat) :
    Calls Try.prog 28 #[mv9 T v, .int .i64 (k : Nat)] w (RetM9 w T (C.eraseIdx k)) := by
  obtain ⟨a, n, cp, rfl, hn, hc, hm, hat⟩ := h.at_
  have HAT := Lib.hid hat; have HN := Lib.hid hn
  have hn9 : n < 900000 := by omega
  obtain ⟨R, hRq⟩ : ∃ R, R = C.eraseIdx k := ⟨_, rfl⟩
  rw [← hRq]
  have HRQ := Lib.hid hRq
  clear hRq
  obtain ⟨b0, hb0⟩ : ∃ b, b = w.heap.size := ⟨_, rfl⟩
  obtain ⟨b2, hb2⟩ : ∃ b, b = b0 + 1 := ⟨_, rfl⟩
  obtain ⟨b3, hb3⟩ : ∃ b, b = b2 + 1 := ⟨_, rfl⟩
  obtain ⟨w1, hw1⟩ : ∃ w1, w1 = ((w.alloc (.cells (mcells9 T (.slice a n cp)) 28)).alloc (.cells (mcells9 (fun _ => 0) (.slice none 0 0)) 28)).alloc (.cells (mcells9 T (.slice none 0 0)) 28) := ⟨_, rfl⟩
  have s1 : (w.alloc (.cells (mcells9 T (.slice a n cp)) 28)).heap.size = b2 := by rw [hb2, hb0]; simp
  have s3 : ((w.alloc (.cells (mcells9 T (.slice a n cp)) 28)).alloc (.cells (mcells9 (fun _ => 0) (.slice none 0 0)) 28)).heap.size = b3 := by rw [hb3, hb2, hb0]; simp
  have H0 := Lib.hid (show MB9 w1 b0 T (.slice a n cp) from by rw [hw1, hb0]; exact (MB9.made w T _).below (ba (ba (Below.refl _ _) _) _))
  have H2 := Lib.hid (show MB9 w1 b2 (fun _ => 0) (.slice none 0 0) from by rw [hw1, ← s1]; exact (MB9.made _ (fun _ => 0) _).below (ba (Below.refl _ _) _))
  have hm3 : MB9 w1 b3 T (.slice none 0 0) := by rw [hw1, ← s3]; exact MB9.made _ T _
  have HB := Lib.hid (show Below w.heap.size w w1 from by rw [hw1]; exact ba (ba (ba (Below.refl _ _) _) _) _)
  have HI := Lib.hid (show OC9 w1 w1 b3 T (.slice none 0 0) ((C.take 0).eraseIdx k) from by simp; exact ⟨Below.refl _ _, hm3.lt, hm3, OwnL.nil _ _ _ _ _⟩)
  have HBB := Lib.hid (And.intro hb0 (And.intro hb2 hb3))
  clear h hat hn hm hc s1 s3 hm3
  go_enter Try.func28, Try.ntmps28
  go_wp2
  rw [← hb0, ← hb2, ← hb3, ← hw1]
  clear hb0 hb2 hb3 hw1
  go_loopw [6] (fun iv wr => ∃ (t : Nat) (vo : Value), t ≤ n ∧ iv = .int .i64 t ∧ Hid (OC9 w1 wr b3 T vo ((C.take t).eraseIdx k))) (fun iv _ => n - (intOf iv).toNat)
  case atStart => exact ⟨0, _, Nat.zero_le _, rfl, HI⟩
  case round =>
    clear HI
    obtain ⟨t, vo, ht, rfl, HQ⟩ := hrel
    obtain ⟨w2, rfl⟩ : ∃ w2, w2 = wr := ⟨_, rfl⟩
    by_cases hlt : t < n
    · have hts : (t : Int) < (n : Int) := by omega
      obtain ⟨x, hx⟩ := at_lt (l := C) (i := t) (by rw [← HN.out]; exact hlt)
      obtain ⟨bs, off, rfl, hbs, hcell⟩ := HAT.out t x hx
      have HBS := Lib.hid hbs; have HCX := Lib.hid hcell
      have HCL := Lib.hid (show ((C.take t).eraseIdx k).length < 1000000 by
        have h1 := List.length_take_le t C
        have h2 := List.length_eraseIdx_le (C.take t) k
        omega)
      have hdx := take_erase (k := k) hx
      clear hcell hx hbs
      by_cases htk : t = k
      · have hb : ((t : Int) != (k : Int)) = false := by simp; omega
        rw [if_pos htk] at hdx
        have HW := Lib.hid hdx
        clear htk hdx
        have hm0 : MB9 w2 b0 T (.slice (some ⟨bs, off, none⟩) n cp) := (HQ.out.bel.block b0 (by have := HBB.out; omega)).trans H0.out
        obtain ⟨m0, m1, m2, m3, m4⟩ := hm0.cells
        have ml := hm0.lt
        clear hm0 m0 m1 m2 m3
        obtain ⟨y0, y1, y2, y3, y4⟩ := HQ.out.m.cells
        have yl := HQ.out.m.lt
        clear y0 y1 y2 y3
        have hbw := HB.out.trans (HQ.out.bel.mono (show w.heap.size ≤ b3 by have := HBB.out; omega))
        have e0 := (hbw.cell (p := ⟨bs, off + t * 7 + 0, none⟩) HBS.out).trans (HCX.out 0 _ rfl)
        have e1 := (hbw.cell (p := ⟨bs, off + t * 7 + 1, none⟩) HBS.out).trans (HCX.out 1 _ rfl)
        have e2 := (hbw.cell (p := ⟨bs, off + t * 7 + 2, none⟩) HBS.out).trans (HCX.out 2 _ rfl)
        have e3 := (hbw.cell (p := ⟨bs, off + t * 7 + 3, none⟩) HBS.out).trans (HCX.out 3 _ rfl)
        have e4 := (hbw.cell (p := ⟨bs, off + t * 7 + 4, none⟩) HBS.out).trans (HCX.out 4 _ rfl)
        have e5 := (hbw.cell (p := ⟨bs, off + t * 7 + 5, none⟩) HBS.out).trans (HCX.out 5 _ rfl)
        have e6 := (hbw.cell (p := ⟨bs, off + t * 7 + 6, none⟩) HBS.out).trans (HCX.out 6 _ rfl)
        simp only [Nat.add_zero] at e0
        have qs : bs < w2.heap.size := by have := HBS.out; have := HBB.out; omega
        clear hbw
        go_wp2
        clear m4 ml y4 yl e0 e1 e2 e3 e4 e5 e6 qs
        go_roundw
        case rel => exact ⟨t + 1, _, by omega, by go_num, Lib.hid (by rw [HW.out]; exact HQ.out)⟩
        case measure => simp [intOf]; omega
      · have hb : ((t : Int) != (k : Int)) = true := by simp; omega
        rw [if_neg htk] at hdx
        have HW := Lib.hid hdx
        clear htk hdx
        have hm0 : MB9 w2 b0 T (.slice (some ⟨bs, off, none⟩) n cp) := (HQ.out.bel.block b0 (by have := HBB.out; omega)).trans H0.out
        obtain ⟨m0, m1, m2, m3, m4⟩ := hm0.cells
        have ml := hm0.lt
        clear hm0 m0 m1 m2 m3
        obtain ⟨y0, y1, y2, y3, y4⟩ := HQ.out.m.cells
        have yl := HQ.out.m.lt
        clear y0 y1 y2 y3
        have hbw := HB.out.trans (HQ.out.bel.mono (show w.heap.size ≤ b3 by have := HBB.out; omega))
        have e0 := (hbw.cell (p := ⟨bs, off + t * 7 + 0, none⟩) HBS.out).trans (HCX.out 0 _ rfl)
        have e1 := (hbw.cell (p := ⟨bs, off + t * 7 + 1, none⟩) HBS.out).trans (HCX.out 1 _ rfl)
        have e2 := (hbw.cell (p := ⟨bs, off + t * 7 + 2, none⟩) HBS.out).trans (HCX.out 2 _ rfl)
        have e3 := (hbw.cell (p := ⟨bs, off + t * 7 + 3, none⟩) HBS.out).trans (HCX.out 3 _ rfl)
        have e4 := (hbw.cell (p := ⟨bs, off + t * 7 + 4, none⟩) HBS.out).trans (HCX.out 4 _ rfl)
        have e5 := (hbw.cell (p := ⟨bs, off + t * 7 + 5, none⟩) HBS.out).trans (HCX.out 5 _ rfl)
        have e6 := (hbw.cell (p := ⟨bs, off + t * 7 + 6, none⟩) HBS.out).trans (HCX.out 6 _ rfl)
        simp only [Nat.add_zero] at e0
        have qs : bs < w2.heap.size := by have := HBS.out; have := HBB.out; omega
        clear hbw
        go_upto_region 6 with (fail)
        have n3 : ¬ OB9 vo b3 := HQ.out.no (Nat.le_refl _)
        have n0 : ¬ OB9 vo b0 := HQ.out.no (by have := HBB.out; omega)
        have ns : ¬ OB9 vo bs := HQ.out.no (by have := HBB.out; have := HBS.out; omega)
        refine Mix.regionL (OB9 vo) (by kernel_rfl) ?_
        intro w5 hb5
        refine Mix.take_exL _ _ 0 rfl (by kernel_rfl) (by kernel_rfl) (by kernel_rfl) (by kernel_rfl) (by kernel_rfl) (by kernel_rfl) (fun K hK => ?_)
        go_simp
        first | (refine hK _ ?_; clear hK K) | (apply Exists.intro; refine ⟨fun x => ?_, hK _ ?_⟩; (fail); clear hK K)
        refine Mix.take_exL _ _ 1 rfl (by kernel_rfl) (by kernel_rfl) (by kernel_rfl) (by kernel_rfl) (by kernel_rfl) (by kernel_rfl) (fun K hK => ?_)
        go_simp
        first | (refine hK _ ?_; clear hK K) | (apply Exists.intro; refine ⟨fun x => ?_, hK _ ?_⟩; (fail); clear hK K)
        refine Mix.take_exL _ _ 2 rfl (by kernel_rfl) (by kernel_rfl) (by kernel_rfl) (by kernel_rfl) (by kernel_rfl) (by kernel_rfl) (fun K hK => ?_)
        go_simp
        first | (refine hK _ ?_; clear hK K) | (apply Exists.intro; refine ⟨fun x => ?_, hK _ ?_⟩; (fail); clear hK K)
        refine Mix.take_exL _ _ 3 rfl (by kernel_rfl) (by kernel_rfl) (by kernel_rfl) (by kernel_rfl) (by kernel_rfl) (by kernel_rfl) (fun K hK => ?_)
        go_simp
        first | (refine hK _ ?_; clear hK K) | (apply Exists.intro; refine ⟨fun x => ?_, hK _ ?_⟩; (fail); clear hK K)
        refine Mix.take_exL _ _ 4 rfl (by kernel_rfl) (by kernel_rfl) (by kernel_rfl) (by kernel_rfl) (by kernel_rfl) (by kernel_rfl) (fun K hK => ?_)
        go_simp
        first | (refine hK _ ?_; clear hK K) | (apply Exists.intro; refine ⟨fun x => ?_, hK _ ?_⟩; (fail); clear hK K)
        refine Mix.take_exL _ _ 5 rfl (by kernel_rfl) (by kernel_rfl) (by kernel_rfl) (by kernel_rfl) (by kernel_rfl) (by kernel_rfl) (fun K hK => ?_)
        go_simp
        first | (refine hK _ ?_; clear hK K) | (apply Exists.intro; refine ⟨fun x => ?_, hK _ ?_⟩; (fail); clear hK K)
        refine Mix.take_exL _ _ 6 rfl (by kernel_rfl) (by kernel_rfl) (by kernel_rfl) (by kernel_rfl) (by kernel_rfl) (by kernel_rfl) (fun K hK => ?_)
        go_simp
        first | (refine hK _ ?_; clear hK K) | (apply Exists.intro; refine ⟨fun x => ?_, hK _ ?_⟩; (fail); clear hK K)
        refine Mix.allL (rs := [7]) (by kernel_rfl) (by simp) (.of_below _ hb5) (by kernel_rfl) ?_
        intro i6 hi6 w6 hb6 hC6
        simp only [List.mem_cons, List.not_mem_nil, or_false] at hi6
        subst hi6
        have HB6 := Lib.hid (bt hb5 hb6)
        clear hC6 hb5 hb6
        refine Mix.op rfl (by kernel_rfl) ?_
        go_simp
        refine Mix.allL (rs := [8]) (by kernel_rfl) (by simp) (.of_below _ (ba HB6.out _)) (by kernel_rfl) ?_
        intro i7 hi7 w7 hb7 hC7
        simp only [List.mem_cons, List.not_mem_nil, or_false] at hi7
        subst hi7
        have HB7 := Lib.hid (bt (ba HB6.out (.cells (dccells x) 52)) hb7)
        have hFX := (DB9.made w6 x).below hb7
        clear hC7 hb7
        obtain ⟨a', m', c', w8, hrun, hch, hnx⟩ := HQ.out.app (x := x) (by have := HCL.out; omega) HB7.out hFX
        have HCH := Lib.hid hch; have HNX := Lib.hid hnx; have HRA := Lib.hid hrun
        clear hch hnx hrun hFX
        refine Mix.opApp rfl (by kernel_rfl) _ _ _ rfl rfl rfl HRA.out ?_
        go_simp
        refine Mix.take_exL _ _ 9 rfl (by kernel_rfl) (by kernel_rfl) (by kernel_rfl) (by kernel_rfl) (by kernel_rfl) (by kernel_rfl) (fun K hK => ?_)
        go_simp
        first | (refine hK _ ?_; clear hK K) | (apply Exists.intro; refine ⟨fun x => ?_, hK _ ?_⟩; (fail); clear hK K)
        refine Mix.allL (rs := [10]) (by kernel_rfl) (by simp) ((Chg.of_below _ HB7.out).same HCH.out) (by kernel_rfl) ?_
        intro i9 hi9 w9 hb9 hC9
        simp only [List.mem_cons, List.not_mem_nil, or_false] at hi9
        subst hi9
        have hp9 := HNX.out w9 (HCH.out.then_below hb9) hb9
        have y9 : w9.cell? ⟨b3, 4, none⟩ = some vo := ((HCH.out.then_below hb9).cell (b := b3) (by have := HB7.out.size; omega) n3 4).trans ((HB7.out.cell (p := ⟨b3, 4, none⟩) yl).trans y4)
        have y8 : w9.frozen? ⟨b3, 4, none⟩ = false := ((HCH.out.then_below hb9).frozen (b := b3) (by have := HB7.out.size; omega) n3 4).trans ((World.frozen?_of_block (a := ⟨b3, 4, none⟩) (HB7.out.block b3 yl)).trans (HQ.out.m.fz 4))
        have q9 : b3 < w9.heap.size := by have := HB7.out.size; have := HCH.out.size; have := hb9.size; omega
        have HP9 := Lib.hid hp9
        clear m4 ml y4 yl e0 e1 e2 e3 e4 e5 e6 qs
        clear hC9 hp9 hb9 n3 n0 ns
        refine Mix.op rfl (by kernel_rfl) ?_
        go_simp
        refine Mix.doneL (by kernel_rfl) (by kernel_rfl) ?_
        intro w10 hb10
        have HP10 := Lib.hid (HP9.out.on hb10)
        clear hb10 y9 y8 q9
        go_wp2
        go_roundw
        case rel => exact ⟨t + 1, _, by omega, by go_num, Lib.hid (by rw [HW.out]; exact HP10.out)⟩
        case measure => simp [intOf]; omega
    · obtain rfl : n = t := by omega
      have hq := HQ.out
      rw [List.take_of_length_le (by rw [HN.out]; exact Nat.le_refl _)] at hq
      have HQ := Lib.hid hq
      clear hq
      have hm0 : MB9 w2 b0 T (.slice a n cp) := (HQ.out.bel.block b0 (by have := HBB.out; omega)).trans H0.out
      obtain ⟨m0, m1, m2, m3, m4⟩ := hm0.cells
      have ml := hm0.lt
      clear hm0 m0 m1 m2 m3
      have HFN := Lib.hid (show C.eraseIdx k = R from HRQ.out.symm)
      go_upto_region 7 with (fail)
      clear m4 ml
      obtain ⟨ao, mo, co, hvo⟩ : ∃ ao mo co, vo = .slice ao mo co := by
        rcases HQ.out.own.2 with ⟨hv, h0⟩ | ⟨g', cap', cur', hv, _⟩
        · exact ⟨_, _, _, hv⟩
        · exact ⟨_, _, _, hv⟩
      subst hvo
      have hm2 : MB9 w2 b2 (fun _ => 0) (.slice none 0 0) := (HQ.out.bel.block b2 (by have := HBB.out; omega)).trans H2.out
      obtain ⟨y0, y1, y2, y3, y4⟩ := HQ.out.m.cells
      have yl := HQ.out.m.lt
      obtain ⟨s0, s1, s2, s3, s4⟩ := hm2.cells
      have f0 := hm2.fz 0; have f1 := hm2.fz 1; have f2 := hm2.fz 2; have f3 := hm2.fz 3; have f4 := hm2.fz 4
      have sl := hm2.lt
      have HR := Lib.hid (hm2.set5 T (.slice ao mo co))
      have HST := Lib.hid (show Chg (fun k => k = b2) w2 (set5w w2 b2 T (.slice ao mo co)) from
        ((((((Chg.refl (fun k => k = b2) w2).setCell (p := ⟨b2, 0, none⟩) (.inl rfl) _).setCell (p := ⟨b2, 1, none⟩) (.inl rfl) _).setCell (p := ⟨b2, 2, none⟩) (.inl rfl) _).setCell (p := ⟨b2, 3, none⟩) (.inl rfl) _).setCell (p := ⟨b2, 4, none⟩) (.inl rfl) _))
      clear hm2
      go_wp2
      refine bodyPost_ret (res_m9 Try.results28 rfl HR.out) rfl ?_
      have hbb := HBB.out
      have hol := HQ.out.own.lt
      refine ⟨_, rfl, ?_, ?_⟩
      · rw [← HFN.out]
        exact ownsRow_base (HQ.out.own.chg HST.out fun k hk e => by have := (hol k hk).1; have e : k = b2 := e; omega) (by omega)
      · exact (HB.out.trans (HQ.out.bel.mono (by omega))).trans (HST.out.below (by have := HQ.out.sz; omega) fun k e => by have e : k = b2 := e; omega)
end
end Go.Proofs.Ytgfjmafdfbghnaa

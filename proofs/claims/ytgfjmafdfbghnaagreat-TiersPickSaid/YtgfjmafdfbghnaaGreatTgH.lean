/- Texts laid together: Tin,Tio,Tip,Tiq. -/
import Derived.Test.YtgfjmafdfbghnaaGreatTgF
import Derived.Test.YtgfjmafdfbghnaaGreatLib2
import Derived.LoopIn
import Derived.LoopNIn
import Derived.OwnWalkIn
import Derived.RangeFuncBound
import Derived.RangeFuncCalls
import Derived.RangeFuncLeaves
import Derived.RangeFuncNested
import Derived.Shelf.Abstract
import Derived.Shelf.AbstractIn
import Derived.Shelf.RegionOpen
import Derived.TacticsInMore
import Derived.WalkKit
namespace Go.Proofs.YtgfjmafdfbghnaaGreat
section
open Go.RowKit Go.Maps
/-- What a loop body that turns the blocks F alone leaves. -/
structure Kw (F : Nat → Prop) (m : Nat) (W W' : World) : Prop where
  os : W'.os = W.os
  tape : W'.tape = W.tape
  output : W'.output = W.output
  size : W.heap.size ≤ W'.heap.size
  block : ∀ k o, W.heap[k]? = some o → ¬ F k → (k < m ∨ o.isCells = true) → W'.heap[k]? = some o
section
variable {F : Nat → Prop} {m : Nat} {A B C : World}
theorem Kw.trans (h : Kw F m A B) (k : Kw F m B C) : Kw F m A C :=
  ⟨k.os.trans h.os, k.tape.trans h.tape, k.output.trans h.output, Nat.le_trans h.size k.size, fun i o ho hf hi => k.block i o (h.block i o ho hf hi) hf hi⟩
theorem Kw.putObj (W : World) (l : Nat) (o o' : Obj) (hl : m ≤ l) (h : W.heap[l]? = some o) (hc : o.isCells = false) : Kw F m W (W.putObj l o') := by
  have hg := grownBy_putObj' W l o'
  refine ⟨hg.os, hg.tape, hg.output, hg.size, fun k q hq hf hk => ?_⟩
  have hne : k ≠ l := fun e => by
    subst e
    rw [hq] at h; injection h with h; subst h
    rcases hk with hk | hk
    · omega
    · rw [hc] at hk; cases hk
  rw [hg.block k (Array.getElem?_eq_some_iff.1 hq).1 (fun e => by injection e with e; exact hne e)]
  exact hq
theorem Kw.of_chg (h : Chg F A B) : Kw F m A B := ⟨h.os, h.tape, h.output, h.size, fun k o ho hf _ => (h.block k (Array.getElem?_eq_some_iff.1 ho).1 hf).trans ho⟩
theorem Kw.chg {w W W' : World} (h : Chg F w W) (hk : Kw F w.heap.size W W') : Chg F w W' :=
  ⟨hk.os.trans h.os, hk.tape.trans h.tape, hk.output.trans h.output, Nat.le_trans h.size hk.size, fun k hkl hf => by
    have hb := h.block k hkl hf
    obtain ⟨o, ho⟩ : ∃ o, W.heap[k]? = some o := ⟨W.heap[k]'(Nat.lt_of_lt_of_le hkl h.size), Array.getElem?_eq_getElem _⟩
    rw [hk.block k o ho hf (.inl hkl), ← hb, ho]⟩
theorem Kw.own {α : Type} {enc : α → List Value} {e k base : Nat} {v : Value} {l : List α} {W W' : World} (hk : Kw F m W W') (h : OwnL e k enc W base v l) (hf : ∀ b, v.ownBlock = some b → ¬ F b) : OwnL e k enc W' base v l := by
  unfold OwnL World.ownsRow at h ⊢
  refine ⟨h.1, ?_⟩
  rcases h.2 with h2 | ⟨g, cap, cur, rfl, h3, h4, h5⟩
  · exact .inl h2
  · exact .inr ⟨g, cap, cur, rfl, h3, hk.block g _ h4 (hf g rfl) (.inr rfl), h5⟩
theorem grown_none {W W' : World} (h : Below W.heap.size W W') : W.grownBy W' none := ⟨h.os, h.tape, h.output, h.size, fun k hk _ => h.block k hk⟩
end
theorem wkD_app (T : Nat → Int) (C : List Fd) (R S : List Int) : wkD T C (R ++ S) = wkD T C R ++ wkD T C S := List.flatMap_append
theorem wkD_pre {T : Nat → Int} {C : List Fd} {R : List Int} {t : Nat} {r : Int} (h : R[t]? = some r) (k : Nat) : wkD T C (R.take t) ++ ((ownO T C r).take k).map (fun i => (r, i)) <+: wkD T C R := by
  have e : wkD T C R = wkD T C (R.take (t + 1)) ++ wkD T C (R.drop (t + 1)) := by rw [← wkD_app, List.take_append_drop]
  rw [e, wkD_take h]
  refine ⟨((ownO T C r).drop k).map (fun i => (r, i)) ++ wkD T C (R.drop (t + 1)), ?_⟩
  rw [← List.append_assoc, List.append_assoc (wkD T C (R.take t)), ← List.map_append, List.take_append_drop]
/-- Roles of which nobody is awake add nothing. -/
theorem wkD_drop (T : Nat → Int) (C : List Fd) (p : Int → Bool) (h : ∀ r, p r = false → ownO T C r = []) : ∀ R, wkD T C (R.filter p) = wkD T C R
  | [] => rfl
  | r :: R => by
    have ih := wkD_drop T C p h R
    unfold wkD at ih ⊢
    rw [List.filter_cons]
    cases hp : p r with
    | true => simp only [if_true, List.flatMap_cons, ih]
    | false => simp only [List.flatMap_cons, h r hp, List.map_nil, List.nil_append]; simpa using ih
section
variable {W0 w : World} {p MR MF : Nat} {lab : Nat → Int} {T : Nat → Int} {t d : Hd} {Q : Int → Option Hd} {fr : Int → Option Int} {D : List Fd} {F : Nat → Prop} {r : Int}
/-- What is yielded in all. -/
def wkO (T : Nat → Int) (D : List Fd) : List (Int × Int) := wkD T D (roleO T D)
theorem own_none (hok : TOk D) (T : Nat → Int) (ha : awR D r = false) : ownO T D r = [] := by
  unfold ownO
  have hx : ∀ m, ord9 T (ownD D r) m = [] := fun m => by
    apply List.eq_nil_of_length_eq_zero
    rw [ord9_count]
    have : ((ownD D r).filter fun d => d.c.aw && decide (rank T (ownD D r) d < m)) = [] := List.filter_eq_nil_iff.2 fun d hd => by
      unfold ownD at hd
      obtain ⟨x, hx, rfl⟩ := List.mem_map.1 hd
      have : x.aw = false := by
        cases hxa : x.aw with
        | false => rfl
        | true => unfold awR at ha; rw [List.any_eq_true.2 ⟨x, hx, hxa⟩] at ha; cases ha
      simp [ownc, this]
    rw [this]; rfl
  exact hx _
theorem wk_is (h : TN W0 w p MR MF lab T t Q fr) (hd : TD T D t Q fr) : wkD T D (t.L.map (·.i)) = wkO T D := by
  have h9 := h.t.s9
  rw [hd.tT, hd.tg] at h9
  unfold wkO roleO
  rw [roles_is hd.ok h9]
  have e : (t.L.filter fun p => awR D p.i).map (·.i) = (t.L.map (·.i)).filter (awR D) := by rw [List.filter_map]; rfl
  rw [e, wkD_drop T D (awR D) fun r => own_none hd.ok T]
theorem own_at (h : TN W0 w p MR MF lab T t Q fr) (hd : TD T D t Q fr) (hr : r ∈ t.L.map (·.i)) : I64 r ∧ ∃ d, Q r = some d ∧ ids d.L = ownO T D r := by
  obtain ⟨q, hq, rfl⟩ := List.mem_map.1 hr
  obtain ⟨c, h1, -, -⟩ := (h.t.s9.mem q).1 hq
  have h2 := hd.dom q.i
  rw [← hd.tg, h1] at h2
  obtain ⟨d, hdq⟩ := Option.isSome_iff_exists.1 h2
  refine ⟨(h.t.s9.ok _ _ h1).i64, d, hdq, ?_⟩
  have h9 := (h.each q.i d hdq).1.s9
  rw [(hd.each q.i d hdq).1, (hd.each q.i d hdq).2] at h9
  exact (own_is hd.ok h9).symm
attribute [local go_sem] Oper.semAt_some
/-- What a pair is handed on as. -/
abbrev prv (x : Int × Int) : Array Value := #[.int .i64 x.1, .int .i64 x.2]
set_option maxRecDepth 100000 in
set_option maxHeartbeats 4000000 in
theorem twalk_in (h : TN W0 w p MR MF lab T t Q fr) (hd : TD T D t Q fr) (hl : D.length < 900000) (hF : ∀ b, F b → b < w.heap.size ∧ W0.heap.size ≤ b ∧ lab b ≤ -2) (hn : NoNode F w) {Bn : Nat} (hB : w.cell? ⟨Bn, 0, none⟩ = some (ptr p)) (hBl : Bn < w.heap.size) (hBF : ¬ F Bn)
    (n : Nat) (hn1 : 1 ≤ n) (l : Nat) (J Jx : List (Int × Int) → World → Prop) (W : World) (hJ : AbidesFrom W.heap.size J) (hW : Chg F w W)
    (hY : ∀ pre x W1, J pre W1 → pre.length < (wkO T D).length → YieldAt Fence.wide (n - 1) Tryz.prog l (prv x) W1 fun e W' => (e = .returned (.bool true) ∧ J (pre ++ [x]) W' ∧ Kw F w.heap.size W1 W') ∨ (e = .returned (.bool false) ∧ Jx (pre ++ [x]) W'))
    (h0 : J [] W) :
    CallsIn Fence.wide n Tryz.prog 58 #[.func (.yield l) #[] #[], .pointer (some ⟨Bn, 0, none⟩)] W fun e W' => (∃ v, e = .returned v) ∧ ((∃ xs, xs = wkO T D ∧ J xs W') ∨ (∃ pre, pre <+: wkO T D ∧ Jx pre W')) := by
  have HTN := Lib.hid fun W (hc : Chg F w W) => h.off hc hn (fun b hb _ => (hF b hb).2.2) fun b hb => (hF b hb).2.1
  have HF := Lib.hid hF; have HD := Lib.hid hd
  have HLT := Lib.hid (hd.lenT h)
  have HOWN := Lib.hid fun r (hr : r ∈ t.L.map (·.i)) => own_at h hd hr
  have hwk := wk_is h hd
  obtain ⟨Rs, hRs⟩ : ∃ Rs, Rs = t.L.map (·.i) := ⟨_, rfl⟩
  rw [← hRs] at HOWN hwk
  rw [← hwk] at hY ⊢
  have HRS := Lib.hid hRs; have HY := Lib.hid hY; have HJ := Lib.hid hJ; have HBX := Lib.hid (And.intro hB (And.intro hBl hBF))
  have HC := Lib.hid hW; have H0 := Lib.hid h0
  clear hd hF hn hB hBl hBF h hJ hY h0 hwk hW hRs
  refine callsIn_of_wp Tryz.func58 rfl trivial ?_ rfl
  simp only [Tryz.ntmps58, List.size_toArray, List.length_cons, List.length_nil, Nat.reduceAdd, Nat.reduceSub, Array.replicate_succ, Array.replicate_zero, List.push_toArray, List.append_toArray, List.nil_append, List.cons_append]
  have hb := (HC.out.cell HBX.out.2.1 HBX.out.2.2 0).trans HBX.out.1
  have hbl := Nat.lt_of_lt_of_le HBX.out.2.1 HC.out.size
  gi_wp2_with fail
  refine ⟨trivial, (callsIn_wide.2 (timade (HTN.out W HC.out).b)).mono ?_⟩
  rintro e w1 ⟨rfl, rfl⟩
  obtain ⟨x0, x1, x2, x3, x4, x5, x6⟩ := (HTN.out w1 HC.out).b.cells
  have xl := (HTN.out w1 HC.out).b.lt
  gi_wp2_with fail
  refine ⟨trivial, (callsIn_wide.2 (sorder (HTN.out w1 HC.out).t.sm (by have := HLT.out; omega))).mono ?_⟩
  rintro e w3 ⟨v3, rfl, hv3, hb3⟩
  clear x0 x1 x2 x3 x4 x5 x6 xl hb hbl
  have hv3' : OwnL 2 1 n1 w3 w1.heap.size v3 Rs := by rw [HRS.out]; exact hv3
  have HC3 := Lib.hid (HC.out.then_below hb3)
  have HJ3 := Lib.hid (HJ.out [] w1 w3 none H0.out (grown_none hb3) fun r e => by cases e)
  have HJW := Lib.hid (show AbidesFrom w1.heap.size J from HJ.out)
  have HV3 := Lib.hid hv3'
  obtain ⟨a3, n3, c3, rfl, hn3, hc3, hm3, -⟩ := (hv3'.rs (fun _ => rfl)).at_
  have HN3 := Lib.hid hn3
  have hm3' : n3 ≤ 9223372036854775807 := by unfold maxLen at hm3; omega
  have HW1 := Lib.hid HC.out.size
  clear hv3 hb3 hv3' hn3 hm3 hc3 H0 HJ HC
  gi_wp2
  gi_loopw [16] (fun iv wr => ∃ s : Nat, s ≤ n3 ∧ iv = .int .i64 s ∧ Hid (Chg F w wr ∧ OwnL 2 1 n1 wr w1.heap.size (.slice a3 n3 c3) Rs ∧ J (wkD T D (Rs.take s)) wr)) (fun iv _ => n3 - (intOf iv).toNat)
  case atStart => exact ⟨0, Nat.zero_le _, rfl, Lib.hid ⟨HC3.out, HV3.out, HJ3.out⟩⟩
  case round =>
    clear HC3 HV3 HJ3
    obtain ⟨s, hs, rfl, HQ⟩ := hrel
    obtain ⟨w4, rfl⟩ : ∃ x, x = wr := ⟨_, rfl⟩
    by_cases hlt : s < n3
    · have hss : (s : Int) < (n3 : Int) := by omega
      obtain ⟨r, hr⟩ := at_lt (l := Rs) (i := s) (by rw [← HN3.out]; exact hlt)
      obtain ⟨a', n', c', he, hna, hca, hma, hat⟩ := (HQ.out.2.1.rs (fun _ => rfl)).at_
      have he1 : a' = a3 := by cases he; rfl
      rw [he1] at hat
      clear he hna hca hma he1
      obtain ⟨bl, ol, rfl, hbl, hcell⟩ := hat s r hr
      have e0 := hcell 0 _ rfl
      simp only [Nat.add_zero, Nat.mul_one] at e0
      obtain ⟨hr64, d, hq, hOl⟩ := HOWN.out r (mem_at hr)
      have hTN := HTN.out w4 HQ.out.1
      have hlk := look_q' hTN.q hr64 hq
      obtain ⟨x0, x1, x2, x3, x4, x5, x6⟩ := hTN.b.cells
      have xl := hTN.b.lt
      have hb := (HQ.out.1.cell HBX.out.2.1 HBX.out.2.2 0).trans HBX.out.1
      have hbx := Nat.lt_of_lt_of_le HBX.out.2.1 HQ.out.1.size
      have HHR := Lib.hid hr
      have HWT := Lib.hid (wkD_take (T := T) (C := D) hr)
      have HPR := Lib.hid (wkD_pre (T := T) (C := D) hr)
      have HOR := Lib.hid (sorder (hTN.each r d hq).1.sm (by have := HD.out.lenR hTN hq; omega))
      rw [hOl] at HOR
      obtain ⟨Ol, hO⟩ : ∃ Ol, Ol = ownO T D r := ⟨_, rfl⟩
      rw [← hO] at HOR HWT HPR
      clear hO hOl hr hat hcell hTN
      gi_wp2_with fail
      refine ⟨trivial, (callsIn_wide.2 HOR.out).mono ?_⟩
      rintro e w5 ⟨v5, rfl, hv5, hb5⟩
      clear x0 x1 x2 x3 x4 x5 x6 xl hb hbx hlk e0 hbl HOR
      have HI5 := Lib.hid (And.intro (HQ.out.1.then_below hb5) (And.intro (HQ.out.2.1.below hb5) (And.intro hv5 (HJW.out _ w4 w5 none HQ.out.2.2 (grown_none hb5) fun r e => by cases e))))
      obtain ⟨a5, n5, c5, rfl, hn5, hc5, hm5, -⟩ := (hv5.rs (fun _ => rfl)).at_
      have HN5 := Lib.hid hn5
      have hm5' : n5 ≤ 9223372036854775807 := by unfold maxLen at hm5; omega
      have HW4 := Lib.hid (show w.heap.size ≤ w4.heap.size from HQ.out.1.size)
      clear hv5 hb5 hn5 hm5 hc5 HQ
      gi_wp2
      gi_loopw [28] (fun iv wr => ∃ k : Nat, k ≤ n5 ∧ iv = .int .i64 k ∧ Hid (Chg F w wr ∧ OwnL 2 1 n1 wr w1.heap.size (.slice (some ⟨bl, ol, none⟩) n3 c3) Rs ∧ OwnL 2 1 n1 wr w4.heap.size (.slice a5 n5 c5) Ol ∧ J (wkD T D (Rs.take s) ++ (Ol.take k).map fun i => (r, i)) wr)) (fun iv _ => n5 - (intOf iv).toNat)
      case atStart => exact ⟨0, Nat.zero_le _, rfl, Lib.hid ⟨HI5.out.1, HI5.out.2.1, HI5.out.2.2.1, by simpa using HI5.out.2.2.2⟩⟩
      case round =>
        clear HI5
        obtain ⟨k, hk, rfl, HI⟩ := hrel
        obtain ⟨w6, rfl⟩ : ∃ x, x = wr := ⟨_, rfl⟩
        by_cases hlk : k < n5
        · have hks : (k : Int) < (n5 : Int) := by omega
          obtain ⟨i, hi⟩ := at_lt (l := Ol) (i := k) (by rw [← HN5.out]; exact hlk)
          obtain ⟨a', n', c', he, hna, hca, hma, hat⟩ := (HI.out.2.2.1.rs (fun _ => rfl)).at_
          have he1 : a' = a5 := by cases he; rfl
          rw [he1] at hat
          clear he hna hca hma he1
          obtain ⟨bo, oo, rfl, hbo, hcell⟩ := hat k i hi
          have e0 := hcell 0 _ rfl
          simp only [Nat.add_zero, Nat.mul_one] at e0
          have hx : (wkD T D (Rs.take s) ++ (Ol.take k).map fun i => (r, i)) ++ [(r, i)] = wkD T D (Rs.take s) ++ (Ol.take (k + 1)).map fun i => (r, i) := by rw [take_at hi, List.map_append, List.append_assoc]; rfl
          have hp := HPR.out (k + 1)
          rw [← hx] at hp
          have hlen : (wkD T D (Rs.take s) ++ (Ol.take k).map fun i => (r, i)).length < (wkD T D Rs).length := by
            have := hp.length_le
            rw [List.length_append] at this
            simp only [List.length_cons, List.length_nil] at this
            omega
          obtain ⟨fn, tmps, assign, body, hy, hR⟩ := HY.out _ (r, i) w6 HI.out.2.2.2 hlen
          have HR := Lib.hid hR; have HX := Lib.hid hx; have HP := Lib.hid hp
          clear hR hx hp hlen hat hcell hi
          dsimp only [prv] at hy
          gi_wp2
          refine HR.out.mono ?_
          rintro e w7 (⟨rfl, hJ7, hk7⟩ | ⟨rfl, hJx7⟩)
          · have HE := Lib.hid (And.intro (Kw.chg HI.out.1 hk7) (And.intro (hk7.own HI.out.2.1 fun b hb hf => by
                have q1 := (HI.out.2.1.lt b hb).1; have q2 := (HF.out b hf).1; have q3 := HW1.out; omega) (And.intro (hk7.own HI.out.2.2.1 fun b hb hf => by
                have q1 := (HI.out.2.2.1.lt b hb).1; have q2 := (HF.out b hf).1; have q3 := HW4.out; omega) (HX.out ▸ hJ7))))
            clear hJ7 hk7 hy e0
            gi_wp2
            go_roundw
            case rel => exact ⟨k + 1, hlk, by go_num, HE⟩
            case measure => simp [intOf]; omega
          · have HE := Lib.hid hJx7
            clear hJx7 hy e0
            gi_wp2
            refine bodyPost_ret (results_none rfl _ _ _) rfl ?_
            exact ⟨⟨_, rfl⟩, .inr ⟨_, HP.out, HE.out⟩⟩
        · obtain rfl : n5 = k := by omega
          have hq := HI.out.2.2.2
          rw [List.take_of_length_le (l := Ol) (by rw [HN5.out]; exact Nat.le_refl _), ← HWT.out] at hq
          have HE := Lib.hid (And.intro HI.out.1 (And.intro HI.out.2.1 hq))
          clear hq
          gi_wp2
          go_roundw
          case rel => exact ⟨s + 1, hlt, by go_num, HE⟩
          case measure => simp [intOf]; omega
    · obtain rfl : n3 = s := by omega
      have hq := HQ.out.2.2
      rw [List.take_of_length_le (l := Rs) (by rw [HN3.out]; exact Nat.le_refl _)] at hq
      have HE := Lib.hid hq
      clear hq
      gi_wp2
      go_end0
      exact ⟨⟨_, rfl⟩, .inl ⟨_, rfl, HE.out⟩⟩
end
end
section
open Go.RowKit Go.Maps
theorem eqPr (k r k' r' : Int) (w : World) : (Op.equalIn 10000 82 (.agg #[.int .i64 k, .int .i64 r]) (.agg #[.int .i64 k', .int .i64 r'])).run Tryz.prog w = .ok (k == k' && r == r') w := by
  have u4 := Tryz.underlying3
  have a4' := Tryz.isAgg3
  have z4 := Tryz.sizeOf3
  have u3 := Tryz.underlying2
  have a3' := Tryz.isAgg2
  have z3 := Tryz.sizeOf2
  rw [show (10000 : Nat) = 9999 + 1 from rfl, Op.equalIn]
  simp only [Sem.run_bind, run_underlying Tryz.underlying82, Result.andThen_ok]
  go_simp
  by_cases e1 : k = k' <;> by_cases e2 : r = r' <;> simp [e1, e2]
theorem eqFn (f : Fn) (a b : Array Value) (w : World) : (binOp .eql 79 (.func f a b) .nilFunc).run Tryz.prog w = .ok (.bool false) w := by
  have h : (Op.equalIn Op.maxDepth 79 (.func f a b) .nilFunc).run Tryz.prog w = .ok false w := by
    rw [show Op.maxDepth = 9999 + 1 from rfl, Op.equalIn]
    simp only [Sem.run_bind, run_underlying Tryz.underlying79, Result.andThen_ok]
    rfl
  simp [binOp, Op.equal, Sem.run_bind, h, Result.andThen]
theorem heap_new_below {w w' : World} {o : Obj} (h : Below (w.alloc o).heap.size (w.alloc o) w') : w'.heap[w.heap.size]? = some o := (h.block _ (by simp)).trans (World.alloc_heap_new w o)
theorem heap_kept {A B : World} {row : Option Nat} {b : Nat} {c : Array Value} {t : TypeId} {z : Nat × Nat} (h : A.heap[b]? = some (.cells c t z)) (hg : A.grownBy B row) (hr : ∀ r, row = some r → ∃ o : Obj, A.heap[r]? = some o ∧ o.isCells = false) : B.heap[b]? = some (.cells c t z) :=
  (hg.block b (Array.getElem?_eq_some_iff.1 h).1 (fun e => by
    obtain ⟨o, ho, hc⟩ := hr b e.symm
    rw [h] at ho; injection ho with ho; subst ho; cases hc)).trans h
attribute [local go_sem] eqPr eqFn Oper.semAt_some
/-- The value that Walk gives. -/
abbrev wkV (b : Nat) : Value := .func (.func 58) #[] #[.pointer (some ⟨b, 0, none⟩)]
section
variable {W0 w : World} {p : Nat} {T : Nat → Int} {D : List Fd} {P F : Nat → Prop} {v lv : Value} {L : List (Int × Int)}
set_option maxRecDepth 100000 in
theorem twalk (v : Value) (hv : ∃ a, v = .pointer a) (w : World) : Calls Tryz.prog 33 #[v] w fun e w' => e = .returned (wkV w.heap.size) ∧ w' = w.alloc (.cells #[v] 23) := by
  obtain ⟨a, rfl⟩ := hv
  go_enter Tryz.func33, Tryz.ntmps33
  go_wp2
  go_ret
  exact ⟨rfl, rfl⟩
/-- The iterator's contract. -/
theorem twalk_stops (h : PX W0 w p T D F) (hl : D.length < 900000) (hF : ∀ b, F b → W0.heap.size ≤ b) (hn : NoNode F w) {Bn : Nat} (hB : w.cell? ⟨Bn, 0, none⟩ = some (ptr p)) (hBl : Bn < w.heap.size) (hBF : ¬ F Bn) (n : Nat) (hn1 : 1 ≤ n) :
    SeqStopsK Fence.wide n Tryz.prog 58 #[.pointer (some ⟨Bn, 0, none⟩)] prv (Kw F w.heap.size) (fun xs => xs = wkO T D) (fun pre => pre <+: wkO T D) (wkO T D).length w := fun l J Jx W hW hJ hJx hY h0 => by
  obtain ⟨MR, MF, lab, t, Q, fr, h1, h2, h3⟩ := h.tn
  exact twalk_in h1 h2 hl (fun b hb => ⟨h.lt b hb, hF b hb, h3 b hb⟩) hn hB hBl hBF n hn1 l J Jx W hJ (.of_below F hW) hY h0
/-- The pairs of an argument. -/
theorem pre_snoc {x : Int × Int} {pre : List (Int × Int)} : (pre ++ [x]) <+: L ↔ pre <+: L ∧ L[pre.length]? = some x := by
  constructor
  · rintro ⟨q, rfl⟩
    refine ⟨⟨[x] ++ q, by simp⟩, by simp⟩
  · rintro ⟨⟨q, rfl⟩, h⟩
    rw [List.getElem?_append_right (Nat.le_refl _), Nat.sub_self] at h
    cases q with
    | nil => cases h
    | cons y q =>
      simp at h; subst h
      exact ⟨q, by simp⟩
theorem pre_all : (∀ M : List (Int × Int), (M <+: L ∧ M.length = L.length) ↔ L = M) := fun M => by
  constructor
  · rintro ⟨h1, h2⟩; exact (h1.eq_of_length h2).symm
  · rintro rfl; exact ⟨List.prefix_refl _, rfl⟩
/-- Is what has come right so far? -/
def gdW (L pre : List (Int × Int)) : Bool := pre.isPrefixOf L
theorem gdW_snoc (L pre : List (Int × Int)) (x : Int × Int) : gdW L (pre ++ [x]) = (gdW L pre && decide (L[pre.length]? = some x)) := by
  unfold gdW
  rw [Bool.eq_iff_iff, Bool.and_eq_true, List.isPrefixOf_iff_prefix, List.isPrefixOf_iff_prefix, decide_eq_true_iff, pre_snoc]
theorem gdW_all (L M : List (Int × Int)) : (gdW L M && decide (M.length = L.length)) = decide (L = M) := by
  rw [Bool.eq_iff_iff, Bool.and_eq_true, decide_eq_true_iff, decide_eq_true_iff, ← pre_all M]
  unfold gdW
  rw [List.isPrefixOf_iff_prefix]
theorem wkO_len (T : Nat → Int) (D : List Fd) : (wkO T D).length ≤ 32 * D.length :=
  Nat.le_trans (wkD_len T D (roleO T D)) (Nat.mul_le_mul_right _ (roleO_len T D))
set_option maxRecDepth 100000 in
set_option maxHeartbeats 4000000 in
theorem walks10 (h : PX W0 w p T D P) (hl : D.length < 900000) (hL : RS 2 prenc w lv L) : Calls Tryz.prog 9 #[ptr p, lv] w fun e w' => e = .returned (.bool (decide (L = wkO T D))) ∧ Below w.heap.size w w' := by
  obtain ⟨a, n, cp, rfl, hn, hc, hm, hat⟩ := hL.at_
  have hn9 : n ≤ 9223372036854775807 := by unfold maxLen at hm; omega
  have HAT := Lib.hid hat; have HN := Lib.hid hn
  have HPL := Lib.hid (show (wkO T D).length < 28800000 from by have := wkO_len T D; omega)
  obtain ⟨b0, hb0⟩ : ∃ b, b = w.heap.size := ⟨_, rfl⟩
  obtain ⟨b1, hb1⟩ : ∃ b, b = b0 + 1 := ⟨_, rfl⟩
  obtain ⟨b2, hb2⟩ : ∃ b, b = b1 + 1 := ⟨_, rfl⟩
  obtain ⟨b3, hb3⟩ : ∃ b, b = b2 + 1 := ⟨_, rfl⟩
  obtain ⟨w1, hw1⟩ : ∃ w1, w1 = ((w.alloc (.cells #[.slice a n cp] 35)).alloc (.cells #[.int .i64 0] 3)).alloc (.cells #[.bool true] 4) := ⟨_, rfl⟩
  obtain ⟨w2, hw2⟩ : ∃ w2, w2 = w1.alloc (.cells #[ptr p] 23) := ⟨_, rfl⟩
  have s1 : w1.heap.size = b3 := by rw [hw1, hb3, hb2, hb1, hb0]; simp
  have s2 : w2.heap.size = b3 + 1 := by rw [hw2, ← s1]; simp
  have hB2 : Below w.heap.size w w2 := by rw [hw2, hw1]; exact ba (ba (ba (ba (Below.refl _ _) _) _) _) _
  have z1 : (w.alloc (.cells #[.slice a n cp] 35)).heap.size = b1 := by rw [hb1, hb0]; simp
  have z2 : ((w.alloc (.cells #[.slice a n cp] 35)).alloc (.cells #[.int .i64 0] 3)).heap.size = b2 := by rw [hb2, hb1, hb0]; simp
  have q0 : w2.heap[b0]? = some (.cells #[.slice a n cp] 35 (0, 0)) := by rw [hw2, hw1, hb0]; exact heap_new_below (ba (ba (ba (Below.refl _ _) _) _) _)
  have q1 : w2.heap[b1]? = some (.cells #[.int .i64 0] 3 (0, 0)) := by rw [hw2, hw1, ← z1]; exact heap_new_below (ba (ba (Below.refl _ _) _) _)
  have q2 : w2.heap[b2]? = some (.cells #[.bool true] 4 (0, 0)) := by rw [hw2, hw1, ← z2]; exact heap_new_below (ba (Below.refl _ _) _)
  have q3 : w2.heap[b3]? = some (.cells #[ptr p] 23 (0, 0)) := by rw [hw2, ← s1]; exact heap_alloc_new w1 _
  have HPX := Lib.hid (h.on (P' := fun k => k = b1 ∨ k = b2) hB2 fun b e => .inr (by omega))
  have HNN := Lib.hid (show NoNode (fun k => k = b1 ∨ k = b2) w2 from fun b hb cs e => by
    rcases hb with rfl | rfl
    · rw [q1] at e; injection e with e; injection e with _ e; cases e
    · rw [q2] at e; injection e with e; injection e with _ e; cases e)
  have HW0 := Lib.hid (show W0.heap.size ≤ w.heap.size from h.bel.size)
  have HS := Lib.hid s2; have HB2 := Lib.hid hB2; have HBB := Lib.hid (And.intro hb0 (And.intro hb1 (And.intro hb2 hb3)))
  have HQ := Lib.hid (And.intro q0 (And.intro q1 (And.intro q2 q3)))
  have HI0 := Lib.hid (show w2.cell? ⟨b3, 0, none⟩ = some (ptr p) from by simp [World.cell?, q3])
  have hd : (b0 + 1 = b1) ∧ (b0 + 1 + 1 = b2) := ⟨hb1.symm, by rw [hb2, hb1]⟩
  have HD := Lib.hid hd
  clear hn hc hm hat hB2 q0 q1 q2 q3 h hL hd s2 z1 z2
  refine (callsIn_wide (n := 5)).1 ?_
  refine callsIn_of_wp_marks Tryz.func9 rfl trivial ?_ rfl
  simp only [Tryz.ntmps9, List.size_toArray, List.length_cons, List.length_nil, Nat.reduceAdd, Nat.reduceSub, Array.replicate_succ, Array.replicate_zero, List.push_toArray, List.append_toArray, List.nil_append, List.cons_append]
  gi_wp2_with fail
  rw [← hb0, HD.out.2, HD.out.1, ← hw1]
  refine ⟨trivial, (callsIn_wide.2 (twalk (ptr p) ⟨_, rfl⟩ w1)).mono ?_⟩
  rintro e w' ⟨rfl, hw'⟩
  rw [← hw2] at hw'
  subst hw'
  rw [s1]
  clear hb0 hb1 hb2 hb3 hw1 hw2 s1
  gi_wp2
  have HST := Lib.hid (twalk_stops HPX.out hl (fun b hb => by have := HW0.out; have := HBB.out; omega) HNN.out (Bn := b3) HI0.out (by have := HS.out; omega) (by have := HBB.out; omega) 4 (by omega))
  refine wpIn_rangeFunc_ownF rfl (by omega) (gf := 58) (lb := #[.pointer (some ⟨b3, 0, none⟩)]) rfl trivial (enters_of Tryz.func58 (by kernel_rfl) rfl) HST.out (fun h k => h.trans k) (fun W l o o' hl h hc _ => Kw.putObj W l o o' hl h hc) (Below.refl _ _) (fun _ => rfl)
    (fun pre W => (W.heap[b0]? = some (.cells #[.slice a n cp] 35 (0, 0)) ∧ W.heap[b1]? = some (.cells #[.int .i64 pre.length] 3 (0, 0)) ∧ W.heap[b2]? = some (.cells #[.bool (gdW L pre)] 4 (0, 0))) ∧ Below w.heap.size w W)
    (fun _ _ _ => False)
    (fun s A B row hs hg hr => ⟨⟨heap_kept hs.1.1 hg (fun r e => (hr r e).2), heap_kept hs.1.2.1 hg (fun r e => (hr r e).2), heap_kept hs.1.2.2 hg (fun r e => (hr r e).2)⟩, hs.2.grown hg hs.2.size (fun k e => Nat.le_trans HB2.out.size (hr k e).1)⟩)
    (fun _ _ _ _ _ hs _ _ => hs)
    ⟨⟨HQ.out.1, HQ.out.2.1, by have := HQ.out.2.2.1; simpa [gdW] using this⟩, HB2.out⟩
    (fun x => { tmps := #[ptr p, .slice a n cp, undef, .pointer (some ⟨b0, 0, none⟩), .bool false, .pointer (some ⟨b1, 0, none⟩), .pointer (some ⟨b2, 0, none⟩), wkV b3, .int .i64 x.1, .int .i64 x.2, ptr p, wkV b3, wkV b3, .bool false, wkV b3, .int .i64 x.1, .int .i64 x.2, undef, undef, undef, undef, undef, undef, undef, undef, undef, undef, undef, undef, undef, undef, undef, undef, undef, undef, undef, undef, undef, undef, undef, undef, undef, undef], defers := [] }) ?assign ?body ?done ?stop
  case assign =>
    intro l x W K hK
    gi_wp2
    exact hK
  case body =>
    intro l pre x W hI hlen
    obtain ⟨⟨h0, h1, h2⟩, hB⟩ := hI
    have hlen' : pre.length < 28800000 := Nat.lt_trans hlen HPL.out
    have hne : b0 ≠ b1 ∧ b0 ≠ b2 ∧ b1 ≠ b2 := by have := HBB.out; omega
    have fin : ∀ (v : Bool), v = gdW L (pre ++ [x]) → ∀ m : Int, m = ((pre ++ [x]).length : Int) → ∀ W', W' = (W.setCell ⟨b2, 0, none⟩ (.bool v)).setCell ⟨b1, 0, none⟩ (.int .i64 m) →
        KeepsOthers W W' ∧ Kw (fun k => k = b1 ∨ k = b2) w'.heap.size W W' ∧ (W'.heap[b0]? = some (.cells #[.slice a n cp] 35 (0, 0)) ∧ W'.heap[b1]? = some (.cells #[.int .i64 (pre ++ [x]).length] 3 (0, 0)) ∧ W'.heap[b2]? = some (.cells #[.bool (gdW L (pre ++ [x]))] 4 (0, 0))) ∧ Below w.heap.size w W' := fun v hv m hm W' hW' => by
      subst hW'
      rw [← hv, ← hm]
      refine ⟨(KeepsOthers.setCell _ _ _).trans (KeepsOthers.setCell _ _ _), Kw.of_chg (((Chg.refl _ W).setCell (p := ⟨b2, 0, none⟩) (.inl (.inr rfl)) _).setCell (p := ⟨b1, 0, none⟩) (.inl (.inl rfl)) _), ⟨?_, ?_, ?_⟩, ?_⟩
      · exact (Below.heap_setCell _ ⟨b1, 0, none⟩ _ b0 hne.1).trans ((Below.heap_setCell _ ⟨b2, 0, none⟩ _ b0 hne.2.1).trans h0)
      · exact heap_setCell_at _ ((Below.heap_setCell _ ⟨b2, 0, none⟩ _ b1 hne.2.2).trans h1)
      · exact (Below.heap_setCell _ ⟨b1, 0, none⟩ _ b2 (Ne.symm hne.2.2)).trans (heap_setCell_at _ h2)
      · exact (hB.setCell (p := ⟨b2, 0, none⟩) (by have := HBB.out; show w.heap.size ≤ b2; omega) _).setCell (p := ⟨b1, 0, none⟩) (by have := HBB.out; show w.heap.size ≤ b1; omega) _
    have hsn := gdW_snoc L pre x
    obtain ⟨g, hg⟩ : ∃ g, g = gdW L pre := ⟨_, rfl⟩
    rw [← hg] at h2 hsn
    have e0 : W.cell? ⟨b0, 0, none⟩ = some (.slice a n cp) := by simp [World.cell?, h0]
    have e1 : W.cell? ⟨b1, 0, none⟩ = some (.int .i64 pre.length) := by simp [World.cell?, h1]
    have f1 : W.frozen? ⟨b1, 0, none⟩ = false := by simp [World.frozen?, h1]
    have e2 : W.cell? ⟨b2, 0, none⟩ = some (.bool g) := by simp [World.cell?, h2]
    have f2 : W.frozen? ⟨b2, 0, none⟩ = false := by simp [World.frozen?, h2]
    have k0 := (Array.getElem?_eq_some_iff.1 h0).1; have k1 := (Array.getElem?_eq_some_iff.1 h1).1; have k2 := (Array.getElem?_eq_some_iff.1 h2).1
    have HFIN := Lib.hid fin
    have HSN := Lib.hid hsn; have HB := Lib.hid hB
    have hne1 := hne.1; have hne2 := hne.2.1; have hne3 := hne.2.2
    clear fin hsn hg hlen h0 h1 h2 hB hne
    cases g with
    | false =>
      gi_wp2
      exact HFIN.out _ (by rw [HSN.out]; rfl) _ (by simp) _ rfl
    | true =>
      by_cases hlt : pre.length < n
      · have hls : (pre.length : Int) < (n : Int) := by omega
        obtain ⟨y, hy⟩ := at_lt (l := L) (i := pre.length) (by rw [← HN.out]; exact hlt)
        obtain ⟨b, off, rfl, hb, hcell⟩ := HAT.out _ y hy
        have c0 := (HB.out.cell (p := ⟨b, off + pre.length * 2 + 0, none⟩) hb).trans (hcell 0 _ rfl)
        have c1 := (HB.out.cell (p := ⟨b, off + pre.length * 2 + 1, none⟩) hb).trans (hcell 1 _ rfl)
        simp only [Nat.add_zero] at c0 c1
        have cl := Nat.lt_of_lt_of_le hb HB.out.size
        have hsn := HSN.out
        rw [hy] at hsn
        have HSY := Lib.hid hsn
        clear hsn hcell hy hb
        by_cases y1 : y.1 = x.1
        · by_cases y2 : y.2 = x.2
          · have HE := Lib.hid (show true = gdW L (pre ++ [x]) from by rw [HSY.out]; have : y = x := Prod.ext y1 y2; simp [this])
            have z1 : (y.1 == x.1) = true := by simpa using y1
            have z2 : (y.2 == x.2) = true := by simpa using y2
            clear y1 y2 HSY HSN
            gi_wp2
            exact HFIN.out _ HE.out _ (by simp) _ rfl
          · have HE := Lib.hid (show false = gdW L (pre ++ [x]) from by rw [HSY.out]; have : y ≠ x := fun e => y2 (by rw [e]); simp [this])
            have z1 : (y.1 == x.1) = true := by simpa using y1
            have z2 : (y.2 == x.2) = false := by simpa using y2
            clear y1 y2 HSY HSN
            gi_wp2
            exact HFIN.out _ HE.out _ (by simp) _ rfl
        · have HE := Lib.hid (show false = gdW L (pre ++ [x]) from by rw [HSY.out]; have : y ≠ x := fun e => y1 (by rw [e]); simp [this])
          have z1 : (y.1 == x.1) = false := by simpa using y1
          clear y1 HSY HSN
          gi_wp2
          exact HFIN.out _ HE.out _ (by simp) _ rfl
      · have hls : ¬ (pre.length : Int) < (n : Int) := by omega
        have HE := Lib.hid (show false = gdW L (pre ++ [x]) from by rw [HSN.out, List.getElem?_eq_none (by rw [← HN.out]; omega)]; rfl)
        clear HSN
        gi_wp2
        exact HFIN.out _ HE.out _ (by simp) _ rfl
  case done =>
    intro E xs W hE hS hI hK
    have HSX := Lib.hid (show xs = wkO T D from hS)
    obtain ⟨⟨h0, h1, h2⟩, hB⟩ := hI
    obtain ⟨g, hg⟩ : ∃ g, g = gdW L xs := ⟨_, rfl⟩
    rw [← hg] at h2
    have e0 : W.cell? ⟨b0, 0, none⟩ = some (.slice a n cp) := by simp [World.cell?, h0]
    have e1 : W.cell? ⟨b1, 0, none⟩ = some (.int .i64 xs.length) := by simp [World.cell?, h1]
    have e2 : W.cell? ⟨b2, 0, none⟩ = some (.bool g) := by simp [World.cell?, h2]
    have k0 := (Array.getElem?_eq_some_iff.1 h0).1; have k1 := (Array.getElem?_eq_some_iff.1 h1).1; have k2 := (Array.getElem?_eq_some_iff.1 h2).1
    have HA := Lib.hid (show decide (L = wkO T D) = (g && decide (xs.length = n)) from by rw [hg, HN.out, gdW_all, ← HSX.out])
    have HBE := Lib.hid (hB.trans (belowK_b (w := w) (Nat.le_refl _) W E _ (.deferred none) (by have := HB2.out.size; omega) hK rfl rfl))
    have HK := Lib.hid hK
    clear hg hS hB hE h0 h1 h2 hK
    cases g with
    | false =>
      gi_wp2
      refine ⟨by simp, .inl ⟨_, _, rfl, run_takeDeferred HK.out, ?_⟩⟩
      exact ⟨_, results_tmp rfl _ _ _, by rw [HA.out]; rfl, HBE.out⟩
    | true =>
      by_cases hx : xs.length = n
      · have hx' : ((xs.length : Int) == (n : Int)) = true := by simp [hx]
        have HA2 := Lib.hid (show decide (L = wkO T D) = true from by rw [HA.out]; simp [hx])
        clear hx
        gi_wp2
        refine ⟨by simp, .inl ⟨_, _, rfl, run_takeDeferred HK.out, ?_⟩⟩
        exact ⟨_, results_tmp rfl _ _ _, by rw [HA2.out]; rfl, HBE.out⟩
      · have hx' : ((xs.length : Int) == (n : Int)) = false := by simp; omega
        have HA2 := Lib.hid (show decide (L = wkO T D) = false from by rw [HA.out]; simp [hx])
        clear hx
        gi_wp2
        refine ⟨by simp, .inl ⟨_, _, rfl, run_takeDeferred HK.out, ?_⟩⟩
        exact ⟨_, results_tmp rfl _ _ _, by rw [HA2.out]; rfl, HBE.out⟩
  case stop =>
    rintro E c pre W _ _ h _
    exact h.elim
end
end
section
open Go.RowKit Go.Maps Go.Sort Go.Shelf
/-- The value of a slice of numbers is spelled so. -/
def Spl (v : Value) : Prop := v = .slice none 0 0 ∨ ∃ b off n c, v = .slice (some ⟨b, off, none⟩) n c
theorem flat_n1 : ∀ l : List Int, l.flatMap n1 = l.map (Value.int .i64 ·)
  | [] => rfl
  | x :: l => by rw [List.flatMap_cons, flat_n1 l]; rfl
theorem srt64_nil' : (([] : List Int).mergeSort fun x y => decide (x ≤ y)) = [] := by simp
theorem n1_len (x : Int) : (n1 x).length = 1 := rfl
theorem OwnL.spl {e base : Nat} {w : World} {v : Value} {l : List Int} (h : OwnL e 1 n1 w base v l) : Spl v := by
  rcases h.2 with ⟨rfl, -⟩ | ⟨g, cap, cur, rfl, -⟩
  · exact .inl rfl
  · exact .inr ⟨g, 0, _, _, rfl⟩
section
variable {w : World} {v : Value} {l : List Int}
set_option maxRecDepth 100000 in
theorem iclone (h : RS 1 n1 w v l) (hs : Spl v) (hl : l.length < 1000000) : Calls Tryz.prog 40 #[v] w fun e w' => ∃ v', e = .returned v' ∧ OwnL 2 1 n1 w' w.heap.size v' l ∧ Below w.heap.size w w' := by
  rcases hs with rfl | ⟨b, off, n, c, rfl⟩
  · obtain ⟨a, n, cp, he, hn, -, -, -⟩ := h.at_
    cases he
    obtain rfl : l = [] := List.eq_nil_of_length_eq_zero hn.symm
    have hcon := AnyE.slices_Clone_nil Lb.Try.cloneI 0 0 w
    change Calls Tryz.prog 40 _ _ _ at hcon
    refine hcon.mono ?_
    rintro e w' ⟨rfl, rfl⟩
    exact ⟨_, rfl, OwnL.nil _ _ _ _ _, Below.refl _ _⟩
  · obtain ⟨a, n', cp, he, hn, -, -, hat⟩ := h.at_
    cases he
    subst hn
    obtain ⟨i0, hi, hz0, hz1, hz2⟩ := info_parts (show (Tryz.prog.info? 2).map (fun i => (i.zero, i.size, i.bytes)) = some (some (.int .i64 0), 1, 8) by kernel_rfl)
    have hcon := AnyE.slices_Clone Lb.Try.cloneI i0 (.int .i64 0) 1 8 hi hz0 hz1 hz2 rfl (by decide) (fun w => Tryz.sizeOf2 w) b off l.length c (l.map (Value.int .i64 ·)) w (by simp) (by unfold maxLen; omega) (by omega) (fun j u hu => by
      have hj : j < l.length := by have := (List.getElem?_eq_some_iff.1 hu).1; simpa using this
      obtain ⟨b', off', e', -, hc⟩ := hat j l[j] (List.getElem?_eq_getElem hj)
      cases e'
      have h0 := hc 0 _ rfl
      rw [List.getElem?_map, List.getElem?_eq_getElem hj] at hu
      injection hu with hu
      subst hu
      simpa using h0) (fun u hu => by
      obtain ⟨x, -, rfl⟩ := List.mem_map.1 hu
      rfl)
    change Calls Tryz.prog 40 _ _ _ at hcon
    refine hcon.mono ?_
    rintro e w' ⟨v', rfl, h1, -, h2⟩
    rw [← flat_n1] at h1
    exact ⟨v', rfl, h1, h2⟩
/-- In rising order. -/
def srt64 (l : List Int) : List Int := l.mergeSort fun x y => decide (x ≤ y)
theorem srt64_perm (l : List Int) : (srt64 l).Perm l := List.mergeSort_perm _ _
theorem srt64_le (l : List Int) : (srt64 l).Pairwise (· ≤ ·) :=
  (List.pairwise_mergeSort (fun a b c h k => by simp only [decide_eq_true_eq] at *; omega) (fun a b => by simp only [Bool.or_eq_true, decide_eq_true_eq]; omega) l).imp fun h => by simpa using h
theorem isort9 {e base : Nat} (h : OwnL e 1 n1 w base v l) (hl : l.length < 1000000) :
    Calls Tryz.prog 41 #[v] w fun e w' => e = .returned (.tuple #[]) ∧ RS 1 n1 w' v (srt64 l) ∧ Chg (fun b => v.ownBlock = some b) w w' := by
  have hR := h.rs n1_len
  rcases h.2 with ⟨rfl, h0⟩ | ⟨b, cap, cur, rfl, h0, hg, h1, h2, h3, h4⟩
  · obtain rfl : l = [] := List.eq_nil_of_length_eq_zero h0
    have hcon := AnyG.slices_Sort_int_none Lb.Try.sortI none 0 w
    change Calls Tryz.prog 41 _ _ _ at hcon
    refine hcon.mono ?_
    rintro e w' ⟨rfl, rfl⟩
    exact ⟨rfl, by unfold srt64; rw [srt64_nil']; exact hR, Chg.refl _ _⟩
  · have hb := (Array.getElem?_eq_some_iff.1 hg).1
    have hH : Holds (Value.int .i64) w b 0 l.toArray := fun j hj => by
      have hj' : j < l.length := by simpa using hj
      obtain ⟨a, n, cap', hv, -, -, -, hat⟩ := hR.at_
      cases hv
      obtain ⟨b', off', e', -, hc⟩ := hat j l[j] (List.getElem?_eq_getElem hj')
      cases e'
      have := hc 0 _ rfl
      refine ⟨?_, by simp [World.frozen?, hg]⟩
      rw [show l.toArray[j]! = l[j] by simp [hj']]
      simpa using this
    have hcon := AnyG.slices_Sort_int Lb.Try.sortI b 0 cap l w hH hb (by omega)
    change Calls Tryz.prog 41 _ _ _ at hcon
    refine hcon.mono ?_
    rintro e w' ⟨rfl, n, os, rfl⟩
    change _ ∧ RS 1 n1 (grow (putRow (Value.int .i64) (Sort.ahead w n) b 0 (srt64 l).toArray) os) _ _ ∧ Chg _ w (grow (putRow (Value.int .i64) (Sort.ahead w n) b 0 (srt64 l).toArray) os)
    have hlen : (srt64 l).length = l.length := (srt64_perm l).length_eq
    have hsz : (srt64 l).toArray.size = l.toArray.size := by simpa using hlen
    have hA : Holds (Value.int .i64) (Sort.ahead w n) b 0 l.toArray := hH
    have h5 := holds_grow (Value.int .i64) _ os b 0 (srt64 l).toArray (by unfold putRow mapBlock; simpa using hb) (holds_putRow (Value.int .i64) (Sort.ahead w n) b 0 l.toArray (srt64 l).toArray hA hsz)
    generalize srt64 l = S at *
    have hchg : Chg (fun k => k = b) w (grow (putRow (Value.int .i64) (Sort.ahead w n) b 0 S.toArray) os) := by
      refine ⟨rfl, rfl, rfl, ?_, fun k hk hne => ?_⟩
      · unfold grow putRow mapBlock Sort.ahead; simp
      · unfold grow putRow mapBlock Sort.ahead
        show (w.heap.modify b _ ++ os)[k]? = _
        rw [Array.getElem?_append_left (by simpa using hk), Array.getElem?_modify, if_neg (Ne.symm hne)]
    refine ⟨rfl, ?_, hchg.mono fun k e => by rw [e]; rfl⟩
    refine ⟨_, cap, by rw [hlen], by omega, h2, fun _ => ⟨b, 0, rfl, Nat.lt_of_lt_of_le hb hchg.size, fun i hi j u hu => ?_⟩⟩
    have hj : j = 0 := by
      have := (List.getElem?_eq_some_iff.1 hu).1; simp [n1] at this; exact this
    subst hj
    have := (h5 i (by simpa using hi)).1
    rw [show S.toArray[i]! = S[i] by simp [hi]] at this
    simp [n1] at hu
    rw [← hu]
    simpa using this
set_option maxRecDepth 1000000 in
set_option maxHeartbeats 2000000 in
theorem isearch_none (x : Int) (w : World) : Calls Tryz.prog 42 #[.slice none 0 0, .int .i64 x] w fun e w' => e = .returned (.tuple #[.int .i64 0, .bool false]) ∧ w' = w := by
  go_enter Tryz.func42, Tryz.ntmps42
  go_wp2
  go_loopw [7, 8] (fun s7 s8 wr => s7 = .int .i64 0 ∧ s8 = .int .i64 0 ∧ wr = w) (fun _ _ _ => 0)
  case atStart => exact ⟨rfl, rfl, rfl⟩
  case round =>
    obtain ⟨rfl, rfl, rfl⟩ := hrel
    go_wp2
    go_ret2
    exact ⟨rfl, rfl⟩
theorem isearch (h : RS 1 n1 w v l) (hs : Spl v) (hl : l.length < 1000000) (hle : l.Pairwise (· ≤ ·)) (x : Int) : Calls Tryz.prog 42 #[v, .int .i64 x] w fun e w' => (∃ i : Int, e = .returned (.tuple #[.int .i64 i, .bool (l.contains x)])) ∧ ∃ q, w' = w.drewN q := by
  rcases hs with rfl | ⟨b, off, n, c, rfl⟩
  · obtain ⟨a, n, cp, he, hn, -, -, -⟩ := h.at_
    cases he
    obtain rfl : l = [] := List.eq_nil_of_length_eq_zero hn.symm
    refine (isearch_none x w).mono ?_
    rintro e w' ⟨rfl, rfl⟩
    exact ⟨⟨0, rfl⟩, 0, rfl⟩
  · obtain ⟨a, n', cp, he, hn, -, -, hat⟩ := h.at_
    cases he
    subst hn
    have hcon := AnyG.slices_BinarySearch_int Lb.Try.searchI b off l.length c l x w (Nat.le_refl _) (by omega) (fun j hj => by
      obtain ⟨b', off', e', -, hc⟩ := hat j l[j] (List.getElem?_eq_getElem hj)
      cases e'
      have h0 := hc 0 _ rfl
      rw [List.getD_eq_getElem?_getD, List.getElem?_eq_getElem hj]
      simpa using h0) (by rw [List.take_length]; exact hle)
    change Calls Tryz.prog 42 _ _ _ at hcon
    rw [List.take_length] at hcon
    refine hcon.mono ?_
    rintro e w' ⟨rfl, q, rfl⟩
    exact ⟨⟨_, rfl⟩, q, rfl⟩
end
end
section
open Go.RowKit Go.Maps
theorem RS.kept {α : Type} [Inhabited α] {k : Nat} {enc : α → List Value} {A B : World} {row : Option Nat} {v : Value} {l : List α} (h : RS k enc A v l) (hp : 0 < k) (hk : ∀ x, (enc x).length = k) (hg : A.grownBy B row) (hr : ∀ r, row = some r → ∃ o : Obj, A.heap[r]? = some o ∧ o.isCells = false) : RS k enc B v l := by
  obtain ⟨a, cap, rfl, h1, h2, h3⟩ := h
  refine ⟨a, cap, rfl, h1, h2, fun hn => ?_⟩
  obtain ⟨b, off, e, hb, hc⟩ := h3 hn
  exact ⟨b, off, e, Nat.lt_of_lt_of_le hb hg.size, fun i hi j u hu => cell_kept (hc i hi j u hu) hg hr⟩
theorem res_pick {fn : Func} {tmps : Array Value} {w : World} {p q b1 b2 : Nat} {x y : Value} (h : fn.results = #[.cell p 2, .cell q 4]) (hp : tmps.getD p undef = .pointer (some ⟨b1, 0, none⟩)) (hq : tmps.getD q undef = .pointer (some ⟨b2, 0, none⟩)) (h1 : w.heap[b1]? = some (.cells #[x] 2 (0, 0))) (h2 : w.heap[b2]? = some (.cells #[y] 4 (0, 0))) :
    (results fn tmps).run Tryz.prog w = .ok (.tuple #[x, y]) w := by
  have c1 : w.cell? ⟨b1, 0, none⟩ = some x := by simp [World.cell?, h1]
  have c2 : w.cell? ⟨b2, 0, none⟩ = some y := by simp [World.cell?, h2]
  have l1 := (Array.getElem?_eq_some_iff.1 h1).1
  have l2 := (Array.getElem?_eq_some_iff.1 h2).1
  have hp' : tmps[p]?.getD undef = .pointer (some ⟨b1, 0, none⟩) := by simpa [Array.getD_eq_getD_getElem?] using hp
  have hq' : tmps[q]?.getD undef = .pointer (some ⟨b2, 0, none⟩) := by simpa [Array.getD_eq_getD_getElem?] using hq
  simp [results, h, go_sem, hp', hq', asAddr, c1, c2, l1, l2]
attribute [local go_sem] Oper.semAt_some
section
variable {W0 w : World} {p : Nat} {T : Nat → Int} {D : List Fd} {P : Nat → Prop} {v : Value} {l : List Int}
/-- The pair that Pick finds. -/
def pickO (T : Nat → Int) (D : List Fd) (l : List Int) : Option (Int × Int) := (wkO T D).find? fun x => l.contains x.2
def pid (o : Option (Int × Int)) : Int := match o with | some x => x.2 | none => 0
set_option maxRecDepth 100000 in
set_option maxHeartbeats 4000000 in
theorem tpick (h : PX W0 w p T D P) (hl : D.length < 900000) (hs : RS 1 n1 w v l) (hsp : Spl v) (hvb : ∀ b, v.ownBlock = some b → b < w.heap.size) (hll : l.length < 1000000) : Calls Tryz.prog 19 #[ptr p, v] w fun e w' => e = .returned (.tuple #[.int .i64 (pid (pickO T D l)), .bool (pickO T D l).isSome]) ∧ Below w.heap.size w w' := by
  obtain ⟨O, hO⟩ : ∃ O, O = pickO T D l := ⟨_, rfl⟩
  rw [← hO]
  obtain ⟨Wk, hWk⟩ : ∃ Wk, Wk = wkO T D := ⟨_, rfl⟩
  have HO := Lib.hid (show O = Wk.find? fun x => l.contains x.2 from by rw [hO, hWk]; rfl)
  have HWK := Lib.hid hWk
  clear hO hWk
  obtain ⟨a, n, cp, rfl⟩ : ∃ a n c, v = .slice a n c := by
    obtain ⟨a, n, c, rfl, -⟩ := hs.at_; exact ⟨_, _, _, rfl⟩
  have HS := Lib.hid hs; have HSP := Lib.hid hsp; have HLL := Lib.hid hll; have H := Lib.hid h; have HL := Lib.hid hl
  obtain ⟨b0, hb0⟩ : ∃ b, b = w.heap.size := ⟨_, rfl⟩
  obtain ⟨b1, hb1⟩ : ∃ b, b = b0 + 1 := ⟨_, rfl⟩
  obtain ⟨b2, hb2⟩ : ∃ b, b = b1 + 1 := ⟨_, rfl⟩
  obtain ⟨w1, hw1⟩ : ∃ w1, w1 = ((w.alloc (.cells #[.slice a n cp] 57)).alloc (.cells #[.int .i64 0] 2)).alloc (.cells #[.bool false] 4) := ⟨_, rfl⟩
  have s1 : w1.heap.size = b2 + 1 := by rw [hw1, hb2, hb1, hb0]; simp
  have z1 : (w.alloc (.cells #[.slice a n cp] 57)).heap.size = b1 := by rw [hb1, hb0]; simp
  have z2 : ((w.alloc (.cells #[.slice a n cp] 57)).alloc (.cells #[.int .i64 0] 2)).heap.size = b2 := by rw [hb2, hb1, hb0]; simp
  have hB1 : Below w.heap.size w w1 := by rw [hw1]; exact ba (ba (ba (Below.refl _ _) _) _) _
  have q0 : w1.heap[b0]? = some (.cells #[.slice a n cp] 57 (0, 0)) := by rw [hw1, hb0]; exact heap_new_below (ba (ba (Below.refl _ _) _) _)
  have q1 : w1.heap[b1]? = some (.cells #[.int .i64 0] 2 (0, 0)) := by rw [hw1, ← z1]; exact heap_new_below (ba (Below.refl _ _) _)
  have q2 : w1.heap[b2]? = some (.cells #[.bool false] 4 (0, 0)) := by rw [hw1, ← z2]; exact heap_new_below (Below.refl _ _)
  have HQ1 := Lib.hid (And.intro q0 (And.intro q1 q2)); have HB1 := Lib.hid hB1; have HS1 := Lib.hid s1
  have HBB := Lib.hid (And.intro hb0 (And.intro hb1 hb2))
  have HD := Lib.hid (show (b0 + 1 = b1) ∧ (b0 + 1 + 1 = b2) from ⟨hb1.symm, by rw [hb2, hb1]⟩)
  clear h hs hsp hll q1 q2 hB1 z1 z2 s1 hl
  refine (callsIn_wide (n := 5)).1 ?_
  refine callsIn_of_wp_marks Tryz.func19 rfl trivial ?_ rfl
  simp only [Tryz.ntmps19, List.size_toArray, List.length_cons, List.length_nil, Nat.reduceAdd, Nat.reduceSub, Array.replicate_succ, Array.replicate_zero, List.push_toArray, List.append_toArray, List.nil_append, List.cons_append]
  gi_wp2_with fail
  rw [← hb0, HD.out.2, HD.out.1, ← hw1]
  clear hb0 hb1 hb2 hw1
  refine ⟨trivial, (callsIn_wide.2 (iclone (HS.out.below HB1.out) HSP.out HLL.out)).mono ?_⟩
  rintro e w2 ⟨v2, rfl, hv2, hb2⟩
  obtain ⟨a2, m2, c2, rfl⟩ := hv2.spelled
  have r0 : w2.heap[b0]? = some (.cells #[.slice a n cp] 57 (0, 0)) := (hb2.block b0 (by have := HS1.out; have := HBB.out; omega)).trans q0
  have e0 : w2.cell? ⟨b0, 0, none⟩ = some (.slice a n cp) := by simp [World.cell?, r0]
  have f0 : w2.frozen? ⟨b0, 0, none⟩ = false := by simp [World.frozen?, r0]
  have k0 := (Array.getElem?_eq_some_iff.1 r0).1
  obtain ⟨w3, hw3⟩ : ∃ w3, w3 = w2.setCell ⟨b0, 0, none⟩ (.slice a2 m2 c2) := ⟨_, rfl⟩
  have hst : Chg (fun k => k = b0) w2 w3 := by rw [hw3]; exact (Chg.refl (fun k => k = b0) w2).setCell (p := ⟨b0, 0, none⟩) (.inl rfl) _
  have g0 : w3.heap[b0]? = some (.cells #[.slice a2 m2 c2] 57 (0, 0)) := by rw [hw3]; exact heap_setCell_at _ r0
  have o3 := hv2.chg hst fun k hk e => by have := (hv2.lt k hk).1; have := HS1.out; have := HBB.out; omega
  have HO3 := Lib.hid o3; have HG0 := Lib.hid g0
  have HC3 := Lib.hid ((Chg.of_below (fun k => k = b0) hb2).same hst)
  have e3 : w3.cell? ⟨b0, 0, none⟩ = some (.slice a2 m2 c2) := by simp [World.cell?, g0]
  have k3 := (Array.getElem?_eq_some_iff.1 g0).1
  clear hv2 hb2 r0 q0 hst g0 o3
  gi_wp2_with fail
  rw [← hw3]
  clear hw3 e0 f0 k0
  refine ⟨trivial, (callsIn_wide.2 (isort9 HO3.out HLL.out)).mono ?_⟩
  rintro e w4 ⟨rfl, hs4, hc4⟩
  clear e3 k3
  obtain ⟨b3, hb3⟩ : ∃ b, b = w4.heap.size := ⟨_, rfl⟩
  obtain ⟨w5, hw5⟩ : ∃ x, x = w4.alloc (.cells #[ptr p] 23) := ⟨_, rfl⟩
  gi_wp2_with fail
  refine ⟨trivial, (callsIn_wide.2 (twalk (ptr p) ⟨_, rfl⟩ w4)).mono ?_⟩
  rintro e w' ⟨rfl, hw'⟩
  rw [← hw5] at hw'
  subst hw'
  rw [← hb3]
  have hov := HO3.out.lt
  have hbb := HBB.out
  have hs1 := HS1.out
  have hb1' := HB1.out.size
  have hc3s := HC3.out.size
  have hB4 : Below w.heap.size w w4 := (HB1.out.trans (HC3.out.below (by omega) fun k e => by have e : k = b0 := e; omega)).trans (hc4.below (by omega) fun k e => by have := (hov k e).1; omega)
  have hB5 : Below w.heap.size w w' := by rw [hw5]; exact ba hB4 _
  have t0 : w4.heap[b0]? = some (.cells #[.slice a2 m2 c2] 57 (0, 0)) := (hc4.block b0 (Array.getElem?_eq_some_iff.1 HG0.out).1 fun e => by have := (hov b0 e).1; omega).trans HG0.out
  have t1 : w4.heap[b1]? = some (.cells #[.int .i64 0] 2 (0, 0)) := (hc4.block b1 (by omega) fun e => by have := (hov b1 e).1; omega).trans ((HC3.out.block b1 (by omega) (by omega)).trans HQ1.out.2.1)
  have t2 : w4.heap[b2]? = some (.cells #[.bool false] 4 (0, 0)) := (hc4.block b2 (by omega) fun e => by have := (hov b2 e).1; omega).trans ((HC3.out.block b2 (by omega) (by omega)).trans HQ1.out.2.2)
  have hl4 : b2 < w4.heap.size := (Array.getElem?_eq_some_iff.1 t2).1
  have hb45 : Below w4.heap.size w4 w' := by rw [hw5]; exact ba (Below.refl _ _) _
  have u0 := (hb45.block b0 (by omega)).trans t0
  have u1 := (hb45.block b1 (by omega)).trans t1
  have u2 := (hb45.block b2 (by omega)).trans t2
  have u3 : w'.heap[b3]? = some (.cells #[ptr p] 23 (0, 0)) := by rw [hw5, hb3]; exact heap_alloc_new w4 _
  have HPX := Lib.hid (H.out.on (P' := fun _ => False) hB5 fun b e => e.elim)
  have HI0 := Lib.hid (And.intro u0 (And.intro u1 (And.intro u2 (And.intro (hs4.below hb45) hB5))))
  have HC5 := Lib.hid (show w'.cell? ⟨b3, 0, none⟩ = some (ptr p) from by simp [World.cell?, u3])
  have HL5 := Lib.hid (show b3 < w'.heap.size from (Array.getElem?_eq_some_iff.1 u3).1)
  have HSP2 := Lib.hid HO3.out.spl
  have HSZ := Lib.hid (show w.heap.size ≤ b1 ∧ w.heap.size ≤ b2 ∧ b0 ≠ b1 ∧ b0 ≠ b2 ∧ b1 ≠ b2 from by omega)
  clear hov hbb hs1 hb1' hc3s hB4 hB5 t0 t1 t2 hl4 hb45 u0 u1 u2 u3 hs4 hc4 hb3 hw5 HO3 HG0 HC3 HQ1 HB1 HS1 HD HBB H HS HSP
  gi_wp2
  have HST := Lib.hid (twalk_stops HPX.out HL.out (fun b e => e.elim) (fun b e => e.elim) (Bn := b3) HC5.out HL5.out id 4 (by omega))
  rw [← HWK.out] at HST
  refine wpIn_rangeFunc_ownF rfl (by omega) (gf := 58) (lb := #[.pointer (some ⟨b3, 0, none⟩)]) rfl trivial (enters_of Tryz.func58 (by kernel_rfl) rfl) HST.out (fun h k => h.trans k) (fun W l o o' hl h hc _ => Kw.putObj W l o o' hl h hc) (Below.refl _ _) (fun _ => rfl)
    (fun pre W => (∀ x ∈ pre, l.contains x.2 = false) ∧ (W.heap[b0]? = some (.cells #[.slice a2 m2 c2] 57 (0, 0)) ∧ W.heap[b1]? = some (.cells #[.int .i64 0] 2 (0, 0)) ∧ W.heap[b2]? = some (.cells #[.bool false] 4 (0, 0)) ∧ RS 1 n1 W (.slice a2 m2 c2) (srt64 l)) ∧ Below w.heap.size w W)
    (fun c pre W => c = .ret ∧ (∃ q x, pre = q ++ [x] ∧ (∀ y ∈ q, l.contains y.2 = false) ∧ l.contains x.2 = true ∧ W.heap[b1]? = some (.cells #[.int .i64 x.2] 2 (0, 0)) ∧ W.heap[b2]? = some (.cells #[.bool true] 4 (0, 0))) ∧ Below w.heap.size w W)
    (fun s A B row hs hg hr => ⟨hs.1, ⟨heap_kept hs.2.1.1 hg (fun r e => (hr r e).2), heap_kept hs.2.1.2.1 hg (fun r e => (hr r e).2), heap_kept hs.2.1.2.2.1 hg (fun r e => (hr r e).2), hs.2.1.2.2.2.kept (by decide) n1_len hg (fun r e => (hr r e).2)⟩, hs.2.2.grown hg hs.2.2.size (fun k e => Nat.le_trans HI0.out.2.2.2.2.size (hr k e).1)⟩)
    (fun c s A B row hs hg hr => by
      obtain ⟨h1, ⟨q, x, h2, h3, h4, h5, h6⟩, h7⟩ := hs
      exact ⟨h1, ⟨q, x, h2, h3, h4, heap_kept h5 hg (fun r e => (hr r e).2), heap_kept h6 hg (fun r e => (hr r e).2)⟩, h7.grown hg h7.size (fun k e => Nat.le_trans HI0.out.2.2.2.2.size (hr k e).1)⟩)
    ⟨fun x hx => by (cases hx), ⟨HI0.out.1, HI0.out.2.1, HI0.out.2.2.1, HI0.out.2.2.2.1⟩, HI0.out.2.2.2.2⟩
    (fun x => { tmps := #[ptr p, .slice a n cp, undef, .pointer (some ⟨b0, 0, none⟩), .pointer (some ⟨b1, 0, none⟩), .pointer (some ⟨b2, 0, none⟩), undef, .int .i64 x.2, undef, undef, .slice a n cp, .slice a2 m2 c2, .slice a2 m2 c2, .tuple #[], ptr p, wkV b3, .int .i64 x.1, .int .i64 x.2, undef, undef, undef, undef, undef, undef, undef, undef], defers := [] }) ?assign ?body ?done ?stop
  case assign =>
    intro l x W K hK
    gi_wp2
    exact hK
  case body =>
    intro lr pre x W hI hlen
    obtain ⟨hp, ⟨h0, h1, h2, hr⟩, hB⟩ := hI
    have e0 : W.cell? ⟨b0, 0, none⟩ = some (.slice a2 m2 c2) := by simp [World.cell?, h0]
    have k0 := (Array.getElem?_eq_some_iff.1 h0).1
    gi_wp2_with fail
    refine ⟨trivial, (CallsIn.inRound lr (callsIn_wide.2 (isearch hr HSP2.out (by rw [(srt64_perm l).length_eq]; exact HLL.out) (srt64_le l) x.2))).mono ?_⟩
    rintro e W2 ⟨⟨i, rfl⟩, q, hW2⟩
    have hcx : (srt64 l).contains x.2 = l.contains x.2 := by
      rw [Bool.eq_iff_iff, List.contains_iff_mem, List.contains_iff_mem]; exact (srt64_perm l).mem_iff
    rw [hcx]
    have hb2 : Below W.heap.size W W2 := by rw [hW2]; exact ⟨rfl, rfl, rfl, Nat.le_refl _, fun _ _ => rfl⟩
    obtain ⟨g, hg⟩ : ∃ g, g = l.contains x.2 := ⟨_, rfl⟩
    rw [← hg]
    have HG := Lib.hid hg
    have r0 := (hb2.block b0 (Array.getElem?_eq_some_iff.1 h0).1).trans h0
    have r1 := (hb2.block b1 (Array.getElem?_eq_some_iff.1 h1).1).trans h1
    have r2 := (hb2.block b2 (Array.getElem?_eq_some_iff.1 h2).1).trans h2
    have e1 : W2.cell? ⟨b1, 0, none⟩ = some (.int .i64 0) := by simp [World.cell?, r1]
    have f1 : W2.frozen? ⟨b1, 0, none⟩ = false := by simp [World.frozen?, r1]
    have e2 : W2.cell? ⟨b2, 0, none⟩ = some (.bool false) := by simp [World.cell?, r2]
    have f2 : W2.frozen? ⟨b2, 0, none⟩ = false := by simp [World.frozen?, r2]
    have k1 := (Array.getElem?_eq_some_iff.1 r1).1; have k2 := (Array.getElem?_eq_some_iff.1 r2).1
    have HKO := Lib.hid (KeepsOthers.of_grownBy (grown_none hb2) (fun j o e => by cases e))
    have HKW := Lib.hid (Kw.of_chg (F := fun _ => False) (m := w'.heap.size) (Chg.of_below _ hb2))
    have HRS := Lib.hid (hr.below hb2)
    have HBL := Lib.hid (hB.trans (hb2.mono hB.size))
    have HR := Lib.hid (And.intro r0 (And.intro r1 r2)); have HP := Lib.hid hp
    clear hg hW2 hcx hb2 h0 h1 h2 hr hB e0 k0 hp r0 r1 r2 hlen
    cases g with
    | false =>
      gi_wp2
      refine ⟨HKO.out, HKW.out, fun y hy => ?_, ⟨HR.out.1, HR.out.2.1, HR.out.2.2, HRS.out⟩, HBL.out⟩
      rcases List.mem_append.1 hy with hy | hy
      · exact HP.out y hy
      · rw [List.mem_singleton.1 hy]; exact HG.out.symm
    | true =>
      have hne12 := HSZ.out.2.2.2.2
      have hne21 := Ne.symm hne12
      gi_wp2
      refine ⟨HKO.out.trans ((KeepsOthers.setCell _ _ _).trans (KeepsOthers.setCell _ _ _)), rfl, ⟨pre, x, rfl, HP.out, HG.out.symm, ?_, ?_⟩, ?_⟩
      · exact (Below.heap_setCell _ ⟨b2, 0, none⟩ _ b1 HSZ.out.2.2.2.2).trans (heap_setCell_at _ HR.out.2.1)
      · exact heap_setCell_at _ ((Below.heap_setCell _ ⟨b1, 0, none⟩ _ b2 (Ne.symm HSZ.out.2.2.2.2)).trans HR.out.2.2)
      · exact (HBL.out.setCell (p := ⟨b1, 0, none⟩) HSZ.out.1 _).setCell (p := ⟨b2, 0, none⟩) HSZ.out.2.1 _
  case done =>
    intro E xs W hE hS hI hK
    have HF := Lib.hid (show O = none from by
      have hS : xs = Wk := hS
      rw [HO.out, ← hS]
      exact List.find?_eq_none.2 fun y hy => by rw [hI.1 y hy]; simp)
    obtain ⟨hp, ⟨h0, h1, h2, hr⟩, hB⟩ := hI
    have e1 : W.cell? ⟨b1, 0, none⟩ = some (.int .i64 0) := by simp [World.cell?, h1]
    have f1 : W.frozen? ⟨b1, 0, none⟩ = false := by simp [World.frozen?, h1]
    have e2 : W.cell? ⟨b2, 0, none⟩ = some (.bool false) := by simp [World.cell?, h2]
    have f2 : W.frozen? ⟨b2, 0, none⟩ = false := by simp [World.frozen?, h2]
    have k1 := (Array.getElem?_eq_some_iff.1 h1).1; have k2 := (Array.getElem?_eq_some_iff.1 h2).1
    obtain ⟨W8, hW8⟩ : ∃ W8, W8 = (W.setCell ⟨b1, 0, none⟩ (.int .i64 0)).setCell ⟨b2, 0, none⟩ (.bool false) := ⟨_, rfl⟩
    have hK8 : W8.heap[E]? = some (.deferred (some [])) := by rw [hW8]; exact (KeepsOthers.setCell _ _ _).same E _ ((KeepsOthers.setCell _ _ _).same E _ hK rfl) rfl
    have c1 : W8.heap[b1]? = some (.cells #[.int .i64 0] 2 (0, 0)) := by rw [hW8]; exact (Below.heap_setCell _ ⟨b2, 0, none⟩ _ b1 HSZ.out.2.2.2.2).trans (heap_setCell_at _ h1)
    have c2 : W8.heap[b2]? = some (.cells #[.bool false] 4 (0, 0)) := by rw [hW8]; exact heap_setCell_at _ ((Below.heap_setCell _ ⟨b1, 0, none⟩ _ b2 (Ne.symm HSZ.out.2.2.2.2)).trans h2)
    have hB8 : Below w.heap.size w W8 := by rw [hW8]; exact (hB.setCell (p := ⟨b1, 0, none⟩) HSZ.out.1 _).setCell (p := ⟨b2, 0, none⟩) HSZ.out.2.1 _
    have HE := Lib.hid (hB8.trans (belowK_b (w := w) (Nat.le_refl _) W8 E _ (.deferred none) (by have := HI0.out.2.2.2.2.size; omega) hK8 rfl rfl))
    have HC1 := Lib.hid (heap_kept c1 (grownBy_putObj' W8 E (.deferred none)) (fun r e => by cases e; exact ⟨_, hK8, rfl⟩))
    have HC2 := Lib.hid (heap_kept c2 (grownBy_putObj' W8 E (.deferred none)) (fun r e => by cases e; exact ⟨_, hK8, rfl⟩))
    have HK8 := Lib.hid hK8; have HW8 := Lib.hid hW8
    clear hK8 c1 c2 hB8 hW8 hp h0 h1 h2 hr hB hS hE hK
    have hne12 := HSZ.out.2.2.2.2
    have hne21 := Ne.symm hne12
    gi_wp2
    rw [← HW8.out]
    refine ⟨by simp, .inl ⟨_, _, rfl, run_takeDeferred HK8.out, ?_⟩⟩
    exact ⟨_, res_pick Tryz.results19 rfl rfl HC1.out HC2.out, by rw [HF.out]; rfl, HE.out⟩
  case stop =>
    intro E c pre W hE hS hX hK
    obtain ⟨rfl, ⟨q, x, rfl, hq, hx, h1, h2⟩, hB⟩ := hX
    have HF := Lib.hid (show O = some x from by
      have hS : q ++ [x] <+: Wk := hS
      obtain ⟨r, hr⟩ := hS
      rw [HO.out, ← hr, List.append_assoc, List.find?_append]
      have : q.find? (fun x => l.contains x.2) = none := List.find?_eq_none.2 fun y hy => by rw [hq y hy]; simp
      rw [this]
      simp only [Option.none_or, List.cons_append, List.nil_append, List.find?_cons, hx])
    have HE := Lib.hid (hB.trans (belowK_b (w := w) (Nat.le_refl _) W E _ (.deferred none) (by have := HI0.out.2.2.2.2.size; omega) hK rfl rfl))
    have HC1 := Lib.hid (heap_kept h1 (grownBy_putObj' W E (.deferred none)) (fun r e => by cases e; exact ⟨_, hK, rfl⟩))
    have HC2 := Lib.hid (heap_kept h2 (grownBy_putObj' W E (.deferred none)) (fun r e => by cases e; exact ⟨_, hK, rfl⟩))
    have HK := Lib.hid hK
    clear hK hB h1 h2 hq hx hS hE
    gi_wp2
    refine ⟨by simp, .inl ⟨_, _, rfl, run_takeDeferred HK.out, ?_⟩⟩
    exact ⟨_, res_pick Tryz.results19 rfl rfl HC1.out HC2.out, by rw [HF.out]; rfl, HE.out⟩
end
end
end Go.Proofs.YtgfjmafdfbghnaaGreat

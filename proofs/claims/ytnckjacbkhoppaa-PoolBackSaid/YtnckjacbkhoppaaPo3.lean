/- pool: turn, stepOf. -/
import Derived.Test.YtnckjacbkhoppaaPo2
import Derived.Shelf.Abstract
import Derived.Laws.EntriesVeiled
namespace Go.Proofs.Ytnckjacbkhoppaa
open Go.RowKit Go.Maps
attribute [local go_sem] ext_cell ext_frozen extC_cell extC_frozen Mix.calmUpon Mix.mUpon
/-- What an operation leaves. -/
def stS (role : Int) (P : List Pt) (k : Int) (ps : List Pt) : List Pt × Int := if k = 2 then tuS P ps 0 role else if k = 3 then tuS P ps role 0 else wo P ps
theorem stS_len {role : Int} {P : List Pt} {k : Int} {ps : List Pt} : (stS role P k ps).1.length ≤ 132 := by
  unfold stS; split
  · exact tuS_len
  · split
    · exact tuS_len
    · exact wo_len
/-- A function value that does an operation. -/
structure DoF (w : World) (F : Nat → Prop) (fn : Nat) (caps : Array Value) (role k : Int) (ps : List Pt) : Prop where
  cf : ∀ (x : Value) (w' : World), (callFunc fn (#[x] ++ caps)).run Try.prog w' = .ok (.enter fn (#[x] ++ caps)) w'
  call : ∀ (w' : World) (pv : Value) (P : List Pt), Chg F w w' → Vc w' pv P → P.length < 1000000000 → Calls Try.prog fn (#[pv] ++ caps) w' (RetS w' (stS role P k ps))
theorem fz0 : (Try.prog.types.size = Try.prog.types.size) := rfl
/-- A block that holds a step. -/
def SB (w : World) (b : Nat) (v : Value) : Prop := w.heap[b]? = some (.cells #[v] 179 (0, 0))
theorem SB.lt {w : World} {b : Nat} {v : Value} (h : SB w b v) : b < w.heap.size := (Array.getElem?_eq_some_iff.1 h).1
theorem SB.c0 {w : World} {b : Nat} {v : Value} (h : SB w b v) : w.cell? ⟨b, 0, none⟩ = some v := by unfold SB at h; simp [World.cell?, h]
theorem SB.fz {w : World} {b : Nat} {v : Value} (h : SB w b v) : w.frozen? ⟨b, 0, none⟩ = false := by unfold SB at h; simp [World.frozen?, h]
theorem cell_hd0 (w : World) (v : Value) (e : TypeId) : (w.alloc (.cells #[v] e)).cell? ⟨w.heap.size, 0, none⟩ = some v := by
  have h := heap_alloc_new w (.cells #[v] e)
  unfold World.cell?
  dsimp only
  rw [h]
  rfl
theorem res_st {fn : Func} {tmps : Array Value} {w : World} {p b : Nat} {v : Value} (h : fn.results = #[.cell p 179]) (hp : tmps.getD p undef = .pointer (some ⟨b, 0, none⟩)) (hb : SB w b v) :
    (results fn tmps).run Try.prog w = .ok (.agg #[v]) w := by
  simp only [results, h]
  have hp' : tmps[p]?.getD undef = .pointer (some ⟨b, 0, none⟩) := by simpa [Array.getD_eq_getD_getElem?] using hp
  have hl : b < w.heap.size := (Array.getElem?_eq_some_iff.1 hb).1
  have h0 : w.cell? ⟨b, 0, none⟩ = some v := by unfold SB at hb; simp [World.cell?, hb]
  simp [Sem.run_bind, Result.andThen, hp', asAddr, go_sem, h0, hl]
set_option maxRecDepth 100000 in
theorem turn_any {W : World} {vv : Value} {ps : List Pt} (role k f t : Int) (hB : Vc W vv ps) (hI : I64s ps) (hps : ps.length < 1000000) (hk : ∀ P, stS role P k ps = tuS P ps f t) (F : Nat → Prop) (hF : ∀ k, F k → k < W.heap.size) (hvk : VK F vv ps) :
    Calls Try.prog 131 #[vv, .int .i64 f, .int .i64 t] W fun e w' => ∃ fn caps, e = .returned (.agg #[.func (.func fn) #[] caps]) ∧ DoF w' F fn caps role k ps ∧ Below W.heap.size W w' := by
  have hmf : ∀ (fn : Fn) (first cap : Array Value) (w : World), (Instr.makeFunc fn first cap).run Try.prog w = .ok (.func fn first cap) w := fun _ _ _ _ => rfl
  obtain ⟨a, c, rfl, -, -⟩ := hB.form
  have HB := Lib.hid hB; have HI := Lib.hid hI; have HPS := Lib.hid hps; have HK := Lib.hid hk
  have HF := Lib.hid hF; have HVK := Lib.hid hvk
  generalize hn : ps.length = n at *
  have HNQ := Lib.hid hn
  clear hn
  have e1 : (W.alloc (.cells #[.slice a n c] 26)).heap.size = W.heap.size + 1 := by simp
  have e2 : ((W.alloc (.cells #[.slice a n c] 26)).alloc (.cells #[.int .i64 f] 3)).heap.size = W.heap.size + 1 + 1 := by simp
  have e3 : (((W.alloc (.cells #[.slice a n c] 26)).alloc (.cells #[.int .i64 f] 3)).alloc (.cells #[.int .i64 t] 3)).heap.size = W.heap.size + 1 + 1 + 1 := by simp
  have b1 := ba (Below.refl W.heap.size W) (.cells #[.slice a n c] 26)
  have b2 := ba b1 (.cells #[.int .i64 f] 3)
  have b3 := ba b2 (.cells #[.int .i64 t] 3)
  have b4 := ba b3 (.cells #[.nilFunc] 179)
  have k1 := ((ba (ba (ba (Below.refl _ (W.alloc (.cells #[.slice a n c] 26))) (.cells #[.int .i64 f] 3)) (.cells #[.int .i64 t] 3)) (.cells #[.nilFunc] 179)).cell (p := ⟨W.heap.size, 0, none⟩) (by simp)).trans (cell_hd0 W (.slice a n c) 26)
  have k2 := ((ba (ba (Below.refl _ ((W.alloc (.cells #[.slice a n c] 26)).alloc (.cells #[.int .i64 f] 3))) (.cells #[.int .i64 t] 3)) (.cells #[.nilFunc] 179)).cell (p := ⟨(W.alloc (.cells #[.slice a n c] 26)).heap.size, 0, none⟩) (by simp)).trans (cell_hd0 _ (.int .i64 f) 3)
  have k3 := ((ba (Below.refl _ (((W.alloc (.cells #[.slice a n c] 26)).alloc (.cells #[.int .i64 f] 3)).alloc (.cells #[.int .i64 t] 3))) (.cells #[.nilFunc] 179)).cell (p := ⟨((W.alloc (.cells #[.slice a n c] 26)).alloc (.cells #[.int .i64 f] 3)).heap.size, 0, none⟩) (by simp)).trans (cell_hd0 _ (.int .i64 t) 3)
  have hs : SB ((((W.alloc (.cells #[.slice a n c] 26)).alloc (.cells #[.int .i64 f] 3)).alloc (.cells #[.int .i64 t] 3)).alloc (.cells #[.nilFunc] 179)) (((W.alloc (.cells #[.slice a n c] 26)).alloc (.cells #[.int .i64 f] 3)).alloc (.cells #[.int .i64 t] 3)).heap.size .nilFunc := heap_alloc_new _ _
  rw [e1] at k2
  rw [e2] at k3
  rw [e3] at hs
  have hs0 := hs.c0
  have hs1 := hs.fz
  have hs2 := hs.lt
  obtain ⟨w4, hw4⟩ : ∃ u, (((W.alloc (.cells #[.slice a n c] 26)).alloc (.cells #[.int .i64 f] 3)).alloc (.cells #[.int .i64 t] 3)).alloc (.cells #[.nilFunc] 179) = u := ⟨_, rfl⟩
  rw [hw4] at b4 k1 k2 k3 hs hs0 hs1 hs2
  have HBL := Lib.hid b4; have HK1 := Lib.hid k1; have HK2 := Lib.hid k2; have HK3 := Lib.hid k3; have HS := Lib.hid hs
  clear hB hI hps hk e1 e2 e3 b1 b2 b3 b4 k1 k2 k3 hs hF hvk
  go_enter Try.func131, Try.ntmps131
  go_wp2
  have hset : SB (w4.setCell ⟨W.heap.size + 1 + 1 + 1, 0, none⟩ (.func (.func 150) #[] #[.pointer (some ⟨W.heap.size, 0, none⟩), .pointer (some ⟨W.heap.size + 1, 0, none⟩), .pointer (some ⟨W.heap.size + 1 + 1, 0, none⟩)])) (W.heap.size + 1 + 1 + 1) (.func (.func 150) #[] #[.pointer (some ⟨W.heap.size, 0, none⟩), .pointer (some ⟨W.heap.size + 1, 0, none⟩), .pointer (some ⟨W.heap.size + 1 + 1, 0, none⟩)]) := heap_setCell_at _ HS.out
  refine bodyPost_ret (res_st Try.results131 rfl hset) rfl ?_
  have hc : Chg (fun k => k = W.heap.size + 1 + 1 + 1) w4 (w4.setCell ⟨W.heap.size + 1 + 1 + 1, 0, none⟩ (.func (.func 150) #[] #[.pointer (some ⟨W.heap.size, 0, none⟩), .pointer (some ⟨W.heap.size + 1, 0, none⟩), .pointer (some ⟨W.heap.size + 1 + 1, 0, none⟩)])) := (Chg.refl (fun k => k = W.heap.size + 1 + 1 + 1) w4).setCell (p := ⟨W.heap.size + 1 + 1 + 1, 0, none⟩) (.inl rfl) _
  have hl4 := HS.out.lt
  have hbel : Below W.heap.size W (w4.setCell ⟨W.heap.size + 1 + 1 + 1, 0, none⟩ (.func (.func 150) #[] #[.pointer (some ⟨W.heap.size, 0, none⟩), .pointer (some ⟨W.heap.size + 1, 0, none⟩), .pointer (some ⟨W.heap.size + 1 + 1, 0, none⟩)])) := HBL.out.trans (hc.below HBL.out.size fun k e => by have e : k = _ := e; omega)
  have j1 := (hc.cell (b := W.heap.size) (by omega) (by show ¬ W.heap.size = _; omega) 0).trans HK1.out
  have j2 := (hc.cell (b := W.heap.size + 1) (by omega) (by show ¬ W.heap.size + 1 = _; omega) 0).trans HK2.out
  have j3 := (hc.cell (b := W.heap.size + 1 + 1) (by omega) (by show ¬ W.heap.size + 1 + 1 = _; omega) 0).trans HK3.out
  have hsz := hc.size
  refine ⟨150, _, rfl, ⟨fun x w' => enters_of Try.func150 (by kernel_rfl) rfl _ _, fun w' pv P hb hV hP => ?_⟩, hbel⟩
  have hs' := hb.size
  have nF : ∀ k, W.heap.size ≤ k → ¬ F k := fun k hk e => by have := HF.out k e; omega
  rw [HK.out]
  exact turn1 hP hV ((HB.out.on hbel).keep hb HVK.out) HI.out (by rw [HNQ.out]; exact HPS.out) ((hb.cell (b := W.heap.size) (by omega) (nF _ (by omega)) 0).trans j1) ((hb.cell (b := W.heap.size + 1) (by omega) (nF _ (by omega)) 0).trans j2) ((hb.cell (b := W.heap.size + 1 + 1) (by omega) (nF _ (by omega)) 0).trans j3) (by omega)
theorem stepof1 {W : World} {pv vv : Value} {P ps : List Pt} {b : Nat} {k i : Int} (hP : P.length < 1000000000) (hA : Vc W pv P) (hB : Vc W vv ps) (hps : ps.length < 1000000) (hk : PB W b k i vv) :
    Calls Try.prog 132 #[pv, ptrP b] W (RetS W (wo P ps)) := by
  have HWO := Lib.hid (without_any hP (by omega) hA hB)
  obtain ⟨a, c, rfl, -, -⟩ := hA.form
  obtain ⟨a', c', rfl, -, -⟩ := hB.form
  obtain ⟨k0, k1, k2⟩ := hk.cells
  have k3 := hk.lt
  generalize P.length = n at *
  generalize ps.length = n' at *
  clear hA hB hP hps hk
  go_enter Try.func132, Try.ntmps132
  go_wp2_with fail
  refine HWO.out.mono ?_
  rintro e w1 ⟨v1, rfl, hv1, hb1⟩
  obtain ⟨a1, c1, rfl, -, -⟩ := hv1.form
  have HR := Lib.hid (show RetS W (wo P ps) (.returned (.tuple #[.slice a1 (wo P ps).1.length c1, .int .i64 (wo P ps).2])) w1 from ⟨_, rfl, hv1, hb1⟩)
  clear hv1 hb1
  generalize (wo P ps).2 = er at *
  generalize (wo P ps).1.length = nr at *
  go_wp2
  refine bodyPost_ret (res_2 Try.results132) rfl ?_
  exact HR.out
set_option maxRecDepth 100000 in
set_option maxHeartbeats 2000000 in
theorem stepOf_any {W : World} {vv : Value} {ps : List Pt} (role k i : Int) (hB : Vc W vv ps) (hI : I64s ps) (hps : ps.length < 1000000) :
    Calls Try.prog 111 #[.int .i64 role, .agg #[.int .i64 k, .int .i64 i, vv]] W fun e w' => ∃ fn caps, e = .returned (.agg #[.func (.func fn) #[] caps]) ∧ DoF w' (fun _ => False) fn caps role k ps ∧ Below W.heap.size W w' := by
  have hmf : ∀ (fn : Fn) (first cap : Array Value) (w : World), (Instr.makeFunc fn first cap).run Try.prog w = .ok (.func fn first cap) w := fun _ _ _ _ => rfl
  obtain ⟨a, c, rfl, -, -⟩ := hB.form
  have hvk : VK (fun k => k = W.heap.size + 1) (.slice a ps.length c) ps := hB.old fun k e => by have e : k = W.heap.size + 1 := e; omega
  have HB := Lib.hid hB; have HI := Lib.hid hI; have HPS := Lib.hid hps
  have HVK := Lib.hid hvk
  clear hvk
  generalize hn : ps.length = n at *
  have HNQ := Lib.hid hn
  have e1 : (W.alloc (.cells #[.int .i64 k, .int .i64 i, .slice a n c] 40)).heap.size = W.heap.size + 1 := by simp
  have b1 := ba (Below.refl W.heap.size W) (.cells #[.int .i64 k, .int .i64 i, .slice a n c] 40)
  have b2 := ba b1 (.cells #[.nilFunc] 179)
  have hp := (PB.made W k i (.slice a n c)).below (ba (Below.refl _ _) (.cells #[.nilFunc] 179))
  have hs : SB ((W.alloc (.cells #[.int .i64 k, .int .i64 i, .slice a n c] 40)).alloc (.cells #[.nilFunc] 179)) (W.alloc (.cells #[.int .i64 k, .int .i64 i, .slice a n c] 40)).heap.size .nilFunc := heap_alloc_new _ _
  rw [e1] at hs
  obtain ⟨w4, hw4⟩ : ∃ u, (W.alloc (.cells #[.int .i64 k, .int .i64 i, .slice a n c] 40)).alloc (.cells #[.nilFunc] 179) = u := ⟨_, rfl⟩
  rw [hw4] at b2 hp hs
  obtain ⟨k0, k1, k2⟩ := hp.cells
  have k3 := hp.lt
  have HBL := Lib.hid b2; have HP := Lib.hid hp; have HS := Lib.hid hs
  have HTU := Lib.hid fun f t (hk : ∀ P, stS role P k ps = tuS P ps f t) => turn_any role k f t (HB.out.on b2) HI.out (by rw [HNQ.out]; exact HPS.out) hk (fun k => k = W.heap.size + 1) (fun k e => by have := HS.out.lt; have e : k = W.heap.size + 1 := e; omega) HVK.out
  clear hB hI hps e1 b1 b2 hp hn
  by_cases h2 : k = 2
  · have h2b : (k == 2) = true := by simp [h2]
    have HT := Lib.hid (HTU.out 0 role fun P => by unfold stS; rw [if_pos h2])
    have hs0 := hs.c0; have hs1 := hs.fz; have hs2 := hs.lt
    clear h2 hs0 hs1 hs2 hs
    go_enter Try.func111, Try.ntmps111
    go_wp2_with fail
    refine HT.out.mono ?_
    rintro e w5 ⟨fn, caps, rfl, hd, hb5⟩
    have hs5 : SB w5 (W.heap.size + 1) .nilFunc := (hb5.block _ HS.out.lt).trans HS.out
    have hs0 := hs5.c0; have hs1 := hs5.fz; have hs2 := hs5.lt
    have HS5 := Lib.hid hs5; have HD := Lib.hid hd; have HB5 := Lib.hid hb5
    have HL5 := Lib.hid hs5.lt
    clear hs5 hd hb5
    go_wp2
    refine bodyPost_ret (res_st Try.results111 rfl (heap_setCell_at (.func (.func fn) #[] caps) HS5.out)) rfl ?_
    have hc : Chg (fun k => k = W.heap.size + 1) w5 (w5.setCell ⟨W.heap.size + 1, 0, none⟩ (.func (.func fn) #[] caps)) := (Chg.refl (fun k => k = W.heap.size + 1) w5).setCell (p := ⟨W.heap.size + 1, 0, none⟩) (.inl rfl) _
    exact ⟨fn, caps, rfl, ⟨HD.out.cf, fun w' pv P hb hV hP => HD.out.call w' pv P (hc.same (hb.mono fun _ h => h.elim)) hV hP⟩, (HBL.out.trans (HB5.out.mono HBL.out.size)).trans (hc.below (by have := HBL.out.size; have := HB5.out.size; omega) fun k e => by have e : k = W.heap.size + 1 := e; omega)⟩
  · have h2b : (k == 2) = false := by simp [h2]
    by_cases h3 : k = 3
    · have h3b : (k == 3) = true := by simp [h3]
      have HT := Lib.hid (HTU.out role 0 fun P => by unfold stS; rw [if_neg h2, if_pos h3])
      clear h2 h3 hs
      go_enter Try.func111, Try.ntmps111
      go_wp2_with fail
      refine HT.out.mono ?_
      rintro e w5 ⟨fn, caps, rfl, hd, hb5⟩
      have hs5 : SB w5 (W.heap.size + 1) .nilFunc := (hb5.block _ HS.out.lt).trans HS.out
      have hs0 := hs5.c0; have hs1 := hs5.fz; have hs2 := hs5.lt
      have HS5 := Lib.hid hs5; have HD := Lib.hid hd; have HB5 := Lib.hid hb5
      have HL5 := Lib.hid hs5.lt
      clear hs5 hd hb5
      go_wp2
      refine bodyPost_ret (res_st Try.results111 rfl (heap_setCell_at (.func (.func fn) #[] caps) HS5.out)) rfl ?_
      have hc : Chg (fun k => k = W.heap.size + 1) w5 (w5.setCell ⟨W.heap.size + 1, 0, none⟩ (.func (.func fn) #[] caps)) := (Chg.refl (fun k => k = W.heap.size + 1) w5).setCell (p := ⟨W.heap.size + 1, 0, none⟩) (.inl rfl) _
      exact ⟨fn, caps, rfl, ⟨HD.out.cf, fun w' pv P hb hV hP => HD.out.call w' pv P (hc.same (hb.mono fun _ h => h.elim)) hV hP⟩, (HBL.out.trans (HB5.out.mono HBL.out.size)).trans (hc.below (by have := HBL.out.size; have := HB5.out.size; omega) fun k e => by have e : k = W.heap.size + 1 := e; omega)⟩
    · have h3b : (k == 3) = false := by simp [h3]
      have HST := Lib.hid (show ∀ P, stS role P k ps = wo P ps from fun P => by unfold stS; rw [if_neg h2, if_neg h3])
      have hs0 := hs.c0; have hs1 := hs.fz; have hs2 := hs.lt
      clear h2 h3
      go_enter Try.func111, Try.ntmps111
      go_wp2
      have hset : SB (w4.setCell ⟨W.heap.size + 1, 0, none⟩ (.func (.func 132) #[] #[.pointer (some ⟨W.heap.size, 0, none⟩)])) (W.heap.size + 1) (.func (.func 132) #[] #[.pointer (some ⟨W.heap.size, 0, none⟩)]) := heap_setCell_at _ HS.out
      refine bodyPost_ret (res_st Try.results111 rfl hset) rfl ?_
      have hc : Chg (fun k => k = W.heap.size + 1) w4 (w4.setCell ⟨W.heap.size + 1, 0, none⟩ (.func (.func 132) #[] #[.pointer (some ⟨W.heap.size, 0, none⟩)])) := (Chg.refl (fun k => k = W.heap.size + 1) w4).setCell (p := ⟨W.heap.size + 1, 0, none⟩) (.inl rfl) _
      have hbel := HBL.out.trans (hc.below HBL.out.size fun k e => by have e : k = _ := e; omega)
      have hpb : PB _ W.heap.size _ _ _ := (hc.block W.heap.size HP.out.lt (by show ¬ W.heap.size = _; omega)).trans HP.out
      refine ⟨132, _, rfl, ⟨fun x w' => enters_of Try.func132 (by kernel_rfl) rfl _ _, fun w' pv P hb hV hP => ?_⟩, hbel⟩
      rw [HST.out]
      have hb' := hb.below (Nat.le_refl _) (fun k h => h.elim)
      exact stepof1 hP hV (HB.out.on (bt hbel hb')) (by rw [HNQ.out]; exact HPS.out) (hpb.below hb')
end Go.Proofs.Ytnckjacbkhoppaa

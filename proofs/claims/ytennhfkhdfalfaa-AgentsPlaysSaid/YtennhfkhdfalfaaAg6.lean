/- agents: Get. -/
import Derived.Test.YtennhfkhdfalfaaAg5
namespace Go.Proofs.Ytennhfkhdfalfaa
open Go.RowKit Go.Maps
attribute [local go_sem] ext_cell ext_frozen extC_cell extC_frozen Mix.calmUpon Mix.mUpon
/-- Block b holds an agent as it is told. -/
def QB (w : World) (b : Nat) (i : Int) (u v : Value) : Prop := w.heap[b]? = some (.cells #[.int .i64 i, u, v] 38 (0, 0))
section
variable {w w' : World} {b : Nat} {i : Int} {u v : Value}
theorem QB.made (w : World) (i : Int) (u v : Value) : QB (w.alloc (.cells #[.int .i64 i, u, v] 38)) w.heap.size i u v := heap_alloc_new w _
theorem QB.lt (h : QB w b i u v) : b < w.heap.size := (Array.getElem?_eq_some_iff.1 h).1
theorem QB.below (h : QB w b i u v) (hb : Below w.heap.size w w') : QB w' b i u v := (hb.block b h.lt).trans h
theorem QB.chg {F : Nat → Prop} (h : QB w b i u v) (hc : Chg F w w') (hf : ¬ F b) : QB w' b i u v := (hc.block b h.lt hf).trans h
theorem QB.cells (h : QB w b i u v) : w.cell? ⟨b, 0, none⟩ = some (.int .i64 i) ∧ w.cell? ⟨b, 1, none⟩ = some u ∧ w.cell? ⟨b, 2, none⟩ = some v := by unfold QB at h; simp [World.cell?, h]
theorem QB.fz (h : QB w b i u v) (o : Nat) : w.frozen? ⟨b, o, none⟩ = false := by unfold QB at h; simp [World.frozen?, h]
theorem QB.set3 (h : QB w b i u v) (i' : Int) (u' v' : Value) : QB (((w.setCell ⟨b, 0, none⟩ (.int .i64 i')).setCell ⟨b, 1, none⟩ u').setCell ⟨b, 2, none⟩ v') b i' u' v' := heap_setCell_at _ (heap_setCell_at _ (heap_setCell_at _ h))
theorem QB.load (h : QB w b i u v) : (loadVar 38 ⟨b, 0, none⟩).run Try.prog w = .ok (.agg #[.int .i64 i, u, v]) w := by
  obtain ⟨h0, h1, h2⟩ := h.cells
  have hs := h.lt
  simp [go_sem, h0, h1, h2, hs]
theorem res_qb {fn : Func} {tmps : Array Value} {p q : Nat} (h : fn.results = #[.cell p 38, .tmp q]) (hp : tmps.getD p undef = .pointer (some ⟨b, 0, none⟩)) (hb : QB w b i u v) :
    (results fn tmps).run Try.prog w = .ok (.tuple #[.agg #[.int .i64 i, u, v], tmps.getD q undef]) w := by
  rw [results_cell_tmp h, hp]
  simp [asAddr, Result.andThen, hb.load]
end
section
variable {W w w' : World} {tp M : Nat} {cap most : Int} {F : Int → Option Ag} {S : List Pa}
set_option maxRecDepth 100000 in
set_option maxHeartbeats 4000000 in
theorem aget_some (h : AT W w tp M cap most F S) {k : Int} (hk : I64 k) {x : Ag} (hf : F k = some x) :
    Calls Try.prog 16 #[ptr tp, .int .i64 k] w fun e w' => ∃ u v, e = .returned (.tuple #[.agg #[.int .i64 k, u, v], .bool true]) ∧ OwnP w' w.heap.size u x.tps ∧ OwnP w' w.heap.size v x.fps ∧ Below w.heap.size w w' := by
  have hb0 := ba (Below.refl w.heap.size w) (.cells #[.int .i64 0, .slice none 0 0, .slice none 0 0] 38)
  have HB0 := Lib.hid hb0
  have HQ0 := Lib.hid (QB.made w 0 (.slice none 0 0) (.slice none 0 0))
  have h := h.below hb0
  clear hb0
  -- the agent is there: behind find, at the world w2, its copy in block b2
  have HFK := Lib.hid hf
  obtain ⟨ta, tc, htv, -, -⟩ := (h.vec k x hf).1.vc.form
  obtain ⟨fa, fc, hfv, -, -⟩ := (h.vec k x hf).2.vc.form
  have HXV := Lib.hid (h.vec k x hf); have HXO := Lib.hid (h.off k x hf)
  obtain ⟨hfp, hpok⟩ := h.some_ok hf
  have HFP := Lib.hid hfp; have HPOK := Lib.hid hpok
  have HA := afind h hk
  unfold afA at HA
  rw [hf] at HA
  obtain ⟨tv, tps, fv, fps⟩ := x
  simp only at htv hfv HA HXV HXO HFP HPOK
  subst htv hfv
  obtain ⟨tn, htn⟩ : ∃ tn, tn = tps.length := ⟨_, rfl⟩
  obtain ⟨fn, hfn⟩ : ∃ fn, fn = fps.length := ⟨_, rfl⟩
  rw [← htn, ← hfn] at HA HXV HXO
  have HTN := Lib.hid (And.intro htn hfn)
  have HA := Lib.hid HA
  have H := Lib.hid h; have HK := Lib.hid hk
  clear hf h htn hfn hfp hpok hk
  go_enter Try.func16, Try.ntmps16
  go_wp2_with fail
  refine HA.out.mono ?_
  rintro e w1 ⟨rfl, hb1⟩
  have hbA := ba (Below.refl w1.heap.size w1) (.cells #[.slice ta tn tc, .slice fa fn fc] 118)
  have HB2 := Lib.hid (bt hb1 hbA)
  have HG2 := Lib.hid (show GB (w1.alloc (.cells #[.slice ta tn tc, .slice fa fn fc] 118)) w1.heap.size (.slice ta tn tc) (.slice fa fn fc) from GB.made w1 _ _)
  have HSZ := Lib.hid hb1.size
  clear hb1 hbA
  go_wp2_with fail
  generalize w1.alloc (.cells #[.slice ta tn tc, .slice fa fn fc] 118) = w2 at *
  obtain ⟨b2, hb2q⟩ : ∃ b2, b2 = w1.heap.size := ⟨_, rfl⟩
  rw [← hb2q] at HG2 HSZ ⊢
  clear hb2q
  generalize w.alloc (.cells #[.int .i64 0, .slice none 0 0, .slice none 0 0] 38) = w0 at *
  obtain ⟨q, hq⟩ : ∃ q, q = w.heap.size := ⟨_, rfl⟩
  rw [← hq] at HB0 HQ0 ⊢
  have HQQ := Lib.hid hq
  clear hq
  have HQ2 := Lib.hid (HQ0.out.below HB2.out)
  obtain ⟨g0, g1⟩ := HG2.out.cells
  have gl := HG2.out.lt
  have gq : ¬ b2 = q := by have := HQ0.out.lt; have := HSZ.out; omega
  have HVT := Lib.hid (HXV.out.1.vc.on HB2.out)
  have HVF := Lib.hid (HXV.out.2.vc.on HB2.out)
  go_wp2
  refine Mix.regionC (fun b => b = q) (by kernel_rfl) ?_
  intro w3 hb3
  refine Mix.take_exC _ _ 0 rfl (by kernel_rfl) (by kernel_rfl) (by kernel_rfl) (by kernel_rfl) (fun K hK => ?_)
  go_simp
  first | (refine hK _ ?_; clear hK K) | (apply Exists.intro; refine ⟨fun x => ?_, hK _ ?_⟩; (fail); clear hK K)
  refine Mix.take_exC _ _ 1 rfl (by kernel_rfl) (by kernel_rfl) (by kernel_rfl) (by kernel_rfl) (fun K hK => ?_)
  go_simp
  first | (refine hK _ ?_; clear hK K) | (apply Exists.intro; refine ⟨fun x => ?_, hK _ ?_⟩; (fail); clear hK K)
  refine Mix.take_exC _ _ 2 rfl (by kernel_rfl) (by kernel_rfl) (by kernel_rfl) (by kernel_rfl) (fun K hK => ?_)
  go_simp
  first | (refine hK _ ?_; clear hK K) | (apply Exists.intro; refine ⟨fun x => ?_, hK _ ?_⟩; (fail); clear hK K)
  refine Mix.take_exC _ _ 4 rfl (by kernel_rfl) (by kernel_rfl) (by kernel_rfl) (by kernel_rfl) (fun K hK => ?_)
  go_simp
  first | (refine hK _ ?_; clear hK K) | (apply Exists.intro; refine ⟨fun x => ?_, hK _ ?_⟩; (fail); clear hK K)
  refine Mix.take_exC _ _ 5 rfl (by kernel_rfl) (by kernel_rfl) (by kernel_rfl) (by kernel_rfl) (fun K hK => ?_)
  go_simp
  first | (refine hK _ ?_; clear hK K) | (apply Exists.intro; refine ⟨fun x => ?_, hK _ ?_⟩; (fail); clear hK K)
  refine Mix.all (rs := [3]) (by kernel_rfl) (by simp) (.of_below _ hb3) ?_
  intro i4 hi4 w4 hb4 hC4
  simp only [List.mem_cons, List.not_mem_nil, or_false] at hi4
  subst hi4
  have HB4 := Lib.hid (bt hb3 hb4)
  clear hC4 hb3 hb4
  refine Mix.op rfl (by kernel_rfl) ?_
  go_simp
  refine (vcopy_any (.slice ta tn tc) tps (Nat.lt_of_le_of_lt (vr_len HPOK.out.vt) (by decide)) w4 (HVT.out.on HB4.out)).mono ?_
  rintro e w5 ⟨u5, rfl, hu5, hb5⟩
  refine ⟨_, rfl, ?_⟩
  obtain ⟨a5, c5, hv5, -, -⟩ := hu5.vc.form
  subst hv5
  obtain ⟨n5, hn5⟩ : ∃ n5, n5 = tps.length := ⟨_, rfl⟩
  rw [← hn5] at hu5 ⊢
  have HS4 := Lib.hid HB4.out.size
  have HB5 := Lib.hid (bt HB4.out hb5)
  have HU5 := Lib.hid hu5
  clear hb5 hn5 hu5
  refine Mix.all (rs := [6]) (by kernel_rfl) (by simp) (.of_below _ HB5.out) ?_
  intro i6 hi6 w6 hb6 hC6
  simp only [List.mem_cons, List.not_mem_nil, or_false] at hi6
  subst hi6
  have HB6 := Lib.hid (bt HB5.out hb6)
  have HU6 := Lib.hid (rowP_grow HU5.out hb6)
  clear hC6 hb6
  refine Mix.op rfl (by kernel_rfl) ?_
  go_simp
  refine (vcopy_any (.slice fa fn fc) fps (Nat.lt_of_le_of_lt (vr_len HPOK.out.vf) (by decide)) w6 (HVF.out.on HB6.out)).mono ?_
  rintro e w7 ⟨u7, rfl, hu7, hb7⟩
  refine ⟨_, rfl, ?_⟩
  obtain ⟨a7, c7, hv7, -, -⟩ := hu7.vc.form
  subst hv7
  obtain ⟨n7, hn7⟩ : ∃ n7, n7 = fps.length := ⟨_, rfl⟩
  rw [← hn7] at hu7 ⊢
  have HS6 := Lib.hid HB6.out.size
  have HB7 := Lib.hid (bt HB6.out hb7)
  have HU7 := Lib.hid hu7
  have HU57 := Lib.hid (rowP_grow HU6.out hb7)
  clear hb7 hn7 hu7 g0 g1 gl gq
  refine Mix.take_exC _ _ 7 rfl (by kernel_rfl) (by kernel_rfl) (by kernel_rfl) (by kernel_rfl) (fun K hK => ?_)
  go_simp
  first | (refine hK _ ?_; clear hK K) | (apply Exists.intro; refine ⟨fun x => ?_, hK _ ?_⟩; (fail); clear hK K)
  refine Mix.all (rs := [8]) (by kernel_rfl) (by simp) (.of_below _ HB7.out) ?_
  intro i8 hi8 w8 hb8 hC8
  simp only [List.mem_cons, List.not_mem_nil, or_false] at hi8
  subst hi8
  have HB8 := Lib.hid (bt HB7.out hb8)
  have HU8 := Lib.hid (rowP_grow HU7.out hb8)
  have HU5 := Lib.hid (rowP_grow HU57.out hb8)
  clear hC8 hb8
  have hq8 := HQ2.out.below HB8.out
  obtain ⟨q0, q1, q2⟩ := hq8.cells
  have y0 := hq8.fz 0; have y1 := hq8.fz 1; have y2 := hq8.fz 2
  have ql := hq8.lt
  have HQ9 := Lib.hid (hq8.set3 k (.slice a5 n5 c5) (.slice a7 n7 c7))
  have HC9 := Lib.hid (show Chg (fun b => b = q) w8 (((w8.setCell ⟨q, 0, none⟩ (.int .i64 k)).setCell ⟨q, 1, none⟩ (.slice a5 n5 c5)).setCell ⟨q, 2, none⟩ (.slice a7 n7 c7)) from (((Chg.refl (fun b => b = q) w8).setCell (p := ⟨q, 0, none⟩) (.inl rfl) _).setCell (p := ⟨q, 1, none⟩) (.inl rfl) _).setCell (p := ⟨q, 2, none⟩) (.inl rfl) _)
  clear hq8
  refine Mix.op rfl (by kernel_rfl) ?_
  go_simp
  clear q0 q1 q2 y0 y1 y2 ql
  generalize ((w8.setCell ⟨q, 0, none⟩ (.int .i64 k)).setCell ⟨q, 1, none⟩ (.slice a5 n5 c5)).setCell ⟨q, 2, none⟩ (.slice a7 n7 c7) = w9 at *
  refine Mix.take_exC _ _ 9 rfl (by kernel_rfl) (by kernel_rfl) (by kernel_rfl) (by kernel_rfl) (fun K hK => ?_)
  go_simp
  first | (refine hK _ ?_; clear hK K) | (apply Exists.intro; refine ⟨fun x => ?_, hK _ ?_⟩; (fail); clear hK K)
  refine Mix.done (by kernel_rfl) ((Chg.of_below _ HB8.out).same HC9.out) ?_
  intro w10 hb10
  have HQ10 := Lib.hid (HQ9.out.below hb10)
  have HB10 := Lib.hid hb10
  clear hb10
  go_wp2
  refine bodyPost_ret (res_qb Try.results16 rfl HQ10.out) rfl ?_
  have hlq : q ≤ w.heap.size := by rw [HQQ.out]; exact Nat.le_refl _
  have hsz2 := HB2.out.size; have hsz0 := HB0.out.size; have hs4 := HS4.out; have hs6 := HS6.out
  have hc : Chg (fun b => b = q) w2 w10 := ((Chg.of_below (fun b => b = q) HB8.out).same HC9.out).then_below HB10.out
  have hql := HQ2.out.lt
  have fin : ∀ (u : Value) (base : Nat) (l : List Pt), w2.heap.size ≤ base → OwnP w8 base u l → OwnP w10 q u l := fun u base l hb ho =>
    ownsRow_base (ownsRow_chg ho (HC9.out.then_below HB10.out) fun b hb' e => by have := (ho.lt b hb').1; have e : b = q := e; omega) (by omega)
  rw [← HQQ.out]
  exact ⟨_, _, rfl, fin _ _ _ hs4 HU5.out, fin _ _ _ hs6 HU8.out, (HB0.out.trans (HB2.out.mono (by have := HQ0.out.lt; omega))).trans (hc.below (by have := HQ0.out.lt; omega) fun b e => by have e : b = q := e; omega)⟩
set_option maxRecDepth 100000 in
set_option maxHeartbeats 4000000 in
theorem aget_none (h : AT W w tp M cap most F S) {k : Int} (hk : I64 k) (hf : F k = none) :
    Calls Try.prog 16 #[ptr tp, .int .i64 k] w fun e w' => e = .returned (.tuple #[.agg #[.int .i64 0, .slice none 0 0, .slice none 0 0], .bool false]) ∧ Below w.heap.size w w' := by
  have hb0 := ba (Below.refl w.heap.size w) (.cells #[.int .i64 0, .slice none 0 0, .slice none 0 0] 38)
  have HB0 := Lib.hid hb0
  have HQ0 := Lib.hid (QB.made w 0 (.slice none 0 0) (.slice none 0 0))
  have h := h.below hb0
  clear hb0
  have HA := afind h hk
  unfold afA at HA
  rw [hf] at HA
  have HA := Lib.hid HA
  have H := Lib.hid h
  have HPL := Lib.hid (show fndA S k = none by rw [h.pl, hf]; rfl)
  clear hf h hk
  go_enter Try.func16, Try.ntmps16
  go_wp2_with fail
  refine HA.out.mono ?_
  rintro e w1 ⟨rfl, hb1⟩
  have HB2 := Lib.hid (bt hb1 (ba (Below.refl w1.heap.size w1) (.cells #[.slice none 0 0, .slice none 0 0] 118)))
  clear hb1
  generalize w.alloc (.cells #[.int .i64 0, .slice none 0 0, .slice none 0 0] 38) = w0 at *
  obtain ⟨q, hq⟩ : ∃ q, q = w.heap.size := ⟨_, rfl⟩
  rw [← hq] at HB0 HQ0 ⊢
  have HQQ := Lib.hid hq
  clear hq
  have hq8 := HQ0.out.below HB2.out
  obtain ⟨q0, q1, q2⟩ := hq8.cells
  have y0 := hq8.fz 0; have y1 := hq8.fz 1; have y2 := hq8.fz 2
  have ql := hq8.lt
  have HQ9 := Lib.hid (hq8.set3 0 (.slice none 0 0) (.slice none 0 0))
  clear hq8
  go_wp2
  refine bodyPost_ret (res_qb Try.results16 rfl (by first | exact HQ9.out | exact HQ9.out.below (bd (Below.refl _ _)))) rfl ?_
  refine ⟨rfl, ?_⟩
  have hb := HB0.out.trans (HB2.out.mono (by have := HQ0.out.lt; omega))
  rw [← HQQ.out]
  first
    | exact bs (bs (bs hb (Nat.le_refl q) _) (Nat.le_refl q) _) (Nat.le_refl q) _
    | exact bd (bs (bs (bs hb (Nat.le_refl q) _) (Nat.le_refl q) _) (Nat.le_refl q) _)
end
end Go.Proofs.Ytennhfkhdfalfaa

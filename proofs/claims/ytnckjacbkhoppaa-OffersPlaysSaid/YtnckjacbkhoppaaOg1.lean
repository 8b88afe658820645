/- offers: manciplelaw24.works. -/
import Derived.Test.YtnckjacbkhoppaaOg0
namespace Go.Proofs.Ytnckjacbkhoppaa
open Go.RowKit Go.Maps
attribute [local go_sem] ext_cell ext_frozen extC_cell extC_frozen Mix.calmUpon Mix.mUpon
set_option maxRecDepth 100000 in
theorem eq4 (a0 a1 a2 a3 b0 b1 b2 b3 : Int) (w : World) : (Op.equalIn 10000 37 (.agg #[.int .i64 a0, .int .i64 a1, .int .i64 a2, .int .i64 a3]) (.agg #[.int .i64 b0, .int .i64 b1, .int .i64 b2, .int .i64 b3])).run Try.prog w = .ok (a0 == b0 && (a1 == b1 && (a2 == b2 && a3 == b3))) w := by
  have u3 := Try.underlying2
  have a3' := Try.isAgg2
  have z3 := Try.sizeOf2
  rw [show (10000 : Nat) = 9999 + 1 from rfl, Op.equalIn]
  simp only [Sem.run_bind, run_underlying Try.underlying37, Result.andThen_ok]
  simp only [Std.Legacy.Range.forIn_eq_forIn_range', Std.Legacy.Range.size, Nat.sub_zero, Nat.add_sub_cancel, Nat.div_one, List.range'_succ, List.range'_zero, List.forIn_cons, List.forIn_nil]
  go_simp
  by_cases h1 : a0 = b0 <;> by_cases h2 : a1 = b1 <;> by_cases h3 : a2 = b2 <;> by_cases h4 : a3 = b3 <;> simp [h1, h2, h3, h4]
attribute [local go_sem] eq4
theorem cell_new (w : World) (c : Array Value) (e : TypeId) (j : Nat) : (w.alloc (.cells c e)).cell? ⟨w.heap.size, j, none⟩ = c[j]? := by
  have h := heap_alloc_new w (.cells c e)
  unfold World.cell?
  dsimp only
  rw [h]
  rfl
abbrev wps : List Pt := [(0, 0, 2)]
abbrev wP1 : List Pf := [(1, 1, 5, wps, 0)]
abbrev wP2 : List Pf := [(1, 1, 5, wps, 0), (2, 1, 6, wps, 0)]
abbrev wP3 : List Pf := [(1, 1, 5, wps, 0), (3, 2, 5, wps, 9)]
theorem wk1 : issN 3 0 (0, 1, 5, wps, 0) = 1 ∧ issE 3 0 (0, 1, 5, wps, 0) = 0 ∧ issL 3 0 (0, 1, 5, wps, 0) = 1 ∧ issP 3 0 [] (0, 1, 5, wps, 0) = wP1 := by decide
theorem wk2 : issN 3 1 (0, 1, 6, wps, 0) = 2 ∧ issE 3 1 (0, 1, 6, wps, 0) = 0 ∧ issL 3 1 (0, 1, 6, wps, 0) = 2 ∧ issP 3 1 wP1 (0, 1, 6, wps, 0) = wP2 := by decide
theorem wk3 : issN 3 2 (0, 2, 5, wps, 9) = 3 ∧ issE 3 2 (0, 2, 5, wps, 9) = 0 ∧ issL 3 2 (0, 2, 5, wps, 9) = 3 ∧ issP 3 2 wP1 (0, 2, 5, wps, 9) = wP3 := by decide
theorem wk4 : issN 3 3 (0, 2, 5, wps, 9) = 0 ∧ issE 3 3 (0, 2, 5, wps, 9) = 34 ∧ issL 3 3 (0, 2, 5, wps, 9) = 3 ∧ issP 3 3 wP3 (0, 2, 5, wps, 9) = wP3 := by decide
theorem wk5 : fndP wP2 2 = some (2, 1, 6, wps, 0) ∧ delP wP2 2 = wP1 := by decide
theorem wk6 : sumP wP3 1 0 = 2 ∧ sumP wP3 1 1 = 0 ∧ sumP wP3 1 2 = 0 ∧ sumP wP3 1 3 = 0 := by decide
theorem wk7 : ((wP3.filter fun x => x.2.2.1 == 5).map (·.1)).length = 2 := by decide
theorem wgo {w : World} {v : Value} {tp : Nat} (hv : Vc w v wps) (hvt : ∀ b, v.ownBlock = some b → b ≠ tp) {f a u : Int} (hf : I64 f) (ha : I64 a) (hu : I64 u) : OGo w tp ⟨0, f, a, v, wps, u⟩ := ⟨hv, .inr hvt, (by show (1 : Nat) < 1000000; decide), hf, ha, hu⟩
set_option maxRecDepth 100000 in
set_option maxHeartbeats 4000000 in
theorem works24 (W : World) : Calls Try.prog 31 #[] W fun e W' => e = .returned (.bool true) ∧ Below W.heap.size W W' := by
  go_enter Try.func31, Try.ntmps31
  go_wp2_with fail
  refine (vonew W (last := 3) (by decide) (by decide)).mono ?_
  rintro e w1 ⟨rfl, h1, hb1⟩
  obtain ⟨tp, htp⟩ : ∃ tp, tp = W.heap.size + 3 := ⟨_, rfl⟩
  rw [← htp] at h1 ⊢
  have hq1 := h1.place
  have hb2 := ba (Below.refl w1.heap.size w1) (.cells #[.int .i64 0, .int .i64 0, .int .i64 2] 86)
  have HV := Lib.hid (show Vc (w1.alloc (.cells #[.int .i64 0, .int .i64 0, .int .i64 2] 86)) (.slice (some ⟨w1.heap.size, 0, none⟩) 1 1) wps from .inr ⟨w1.heap.size, 0, 1, rfl, Nat.le_refl _, by decide, by simp, fun i hi => by
    obtain rfl : i = 0 := by simpa using hi
    exact ⟨cell_new w1 _ _ 0, cell_new w1 _ _ 1, cell_new w1 _ _ 2⟩⟩)
  have HVT := Lib.hid (show ∀ b, (Value.slice (some ⟨w1.heap.size, 0, none⟩) 1 1).ownBlock = some b → b ≠ tp from fun b hb => by have hb : w1.heap.size = b := Option.some.inj hb; omega)
  have HT := Lib.hid (h1.below hb2)
  have HKQ := Lib.hid (show ¬ (fun b => W.heap.size ≤ b ∧ b < w1.heap.size) w1.heap.size from fun e => by have := e.2; omega)
  have HBB := Lib.hid (hb1.trans (hb2.mono hb1.size))
  have HBS := Lib.hid (show W.heap.size ≤ (w1.alloc (.cells #[.int .i64 0, .int .i64 0, .int .i64 2] 86)).heap.size by simp; omega)
  have HQL := Lib.hid (show w1.heap.size < (w1.alloc (.cells #[.int .i64 0, .int .i64 0, .int .i64 2] 86)).heap.size by simp)
  clear h1 hb1 hb2 htp
  generalize (fun b => W.heap.size ≤ b ∧ b < w1.heap.size) = K at *
  obtain ⟨q, hq⟩ : ∃ q, q = w1.heap.size := ⟨_, rfl⟩
  rw [← hq] at HV HVT HKQ HQL
  have hqr := Lib.hid hq
  clear hq1 hq
  go_wp2_with fail
  rw [← hqr.out]
  generalize w1.alloc (.cells #[.int .i64 0, .int .i64 0, .int .i64 2] 86) = w2 at *
  go_wp2_with fail
  refine (voissue HT.out HBS.out ⟨0, 1, 5, .slice (some ⟨q, 0, none⟩) 1 1, wps, 0⟩ (wgo HV.out HVT.out ⟨by decide, by decide⟩ ⟨by decide, by decide⟩ ⟨by decide, by decide⟩)).mono ?_
  rintro e w3 ⟨rfl, K3, h3, hc3, hk3⟩
  rw [show issN 3 0 (Ofr.pl ⟨0, 1, 5, .slice (some ⟨q, 0, none⟩) 1 1, wps, 0⟩) = 1 from wk1.1, show issE 3 0 (Ofr.pl ⟨0, 1, 5, .slice (some ⟨q, 0, none⟩) 1 1, wps, 0⟩) = 0 from wk1.2.1]
  have HV := Lib.hid (HV.out.keep hc3 (.inr fun b hb e => HKQ.out (by cases hb; exact e)))
  have HKQ := Lib.hid (show ¬ K3 q from fun e => (hk3 q e).elim HKQ.out fun e => by have := HQL.out; omega)
  have HBB := Lib.hid (HBB.out.trans (hc3.below HBS.out fun k e => (HT.out.hK k e).1))
  have HT := Lib.hid (show OV w3 W.heap.size tp 3 1 wP1 K3 from (show issL 3 0 (Ofr.pl ⟨0, 1, 5, .slice (some ⟨q, 0, none⟩) 1 1, wps, 0⟩) = 1 from wk1.2.2.1) ▸ (show issP 3 0 [] (Ofr.pl ⟨0, 1, 5, .slice (some ⟨q, 0, none⟩) 1 1, wps, 0⟩) = wP1 from wk1.2.2.2) ▸ h3)
  have HBS := Lib.hid (Nat.le_trans HBS.out hc3.size)
  have HQL := Lib.hid (Nat.lt_of_lt_of_le HQL.out hc3.size)
  clear h3 hc3 hk3
  go_wp2_with fail
  refine (voissue HT.out HBS.out ⟨0, 1, 6, .slice (some ⟨q, 0, none⟩) 1 1, wps, 0⟩ (wgo HV.out HVT.out ⟨by decide, by decide⟩ ⟨by decide, by decide⟩ ⟨by decide, by decide⟩)).mono ?_
  rintro e w4 ⟨rfl, K4, h3, hc3, hk3⟩
  rw [show issN 3 1 (Ofr.pl ⟨0, 1, 6, .slice (some ⟨q, 0, none⟩) 1 1, wps, 0⟩) = 2 from wk2.1, show issE 3 1 (Ofr.pl ⟨0, 1, 6, .slice (some ⟨q, 0, none⟩) 1 1, wps, 0⟩) = 0 from wk2.2.1]
  have HV := Lib.hid (HV.out.keep hc3 (.inr fun b hb e => HKQ.out (by cases hb; exact e)))
  have HKQ := Lib.hid (show ¬ K4 q from fun e => (hk3 q e).elim HKQ.out fun e => by have := HQL.out; omega)
  have HBB := Lib.hid (HBB.out.trans (hc3.below HBS.out fun k e => (HT.out.hK k e).1))
  have HT := Lib.hid (show OV w4 W.heap.size tp 3 2 wP2 K4 from (show issL 3 1 (Ofr.pl ⟨0, 1, 6, .slice (some ⟨q, 0, none⟩) 1 1, wps, 0⟩) = 2 from wk2.2.2.1) ▸ (show issP 3 1 wP1 (Ofr.pl ⟨0, 1, 6, .slice (some ⟨q, 0, none⟩) 1 1, wps, 0⟩) = wP2 from wk2.2.2.2) ▸ h3)
  have HBS := Lib.hid (Nat.le_trans HBS.out hc3.size)
  have HQL := Lib.hid (Nat.lt_of_lt_of_le HQL.out hc3.size)
  clear h3 hc3 hk3
  go_wp2_with fail
  refine (voclose HT.out (by decide) (k := 2) ⟨by decide, by decide⟩).mono ?_
  rintro e w5 ⟨⟨z, rfl, hz, hzv, -⟩, h5, hc5⟩
  obtain ⟨zi, zf, za, zv, zs, zu⟩ := z
  rw [wk5.1] at hz
  have hz' : (zi, zf, za, zs, zu) = ((2, 1, 6, wps, 0) : Pf) := hz
  simp only [Prod.mk.injEq] at hz'
  obtain ⟨rfl, rfl, rfl, rfl, rfl⟩ := hz'
  obtain ⟨ua, uc, huv, -, -⟩ := hzv.form
  simp only at huv
  subst huv
  rw [show (fndP wP2 2).isSome = true from by rw [wk5.1]; rfl]
  have hb8 := ba (Below.refl w5.heap.size w5) (.cells #[.int .i64 2, .int .i64 1, .int .i64 6, .slice ua wps.length uc, .int .i64 0] 61)
  have HT8 := Lib.hid (show OV _ W.heap.size tp 3 2 wP1 K4 from OV.below (wk5.2 ▸ h5) hb8)
  have HVA := Lib.hid (HV.out.keep hc5 (.inr fun b hb e => HKQ.out (by cases hb; exact e)))
  have HV := Lib.hid (HVA.out.on hb8)
  have HBB := Lib.hid (HBB.out.trans ((hc5.below HBS.out fun k e => (HT.out.hK k e).1).trans (hb8.mono (Nat.le_trans HBS.out hc5.size))))
  have HBS := Lib.hid (Nat.le_trans HBS.out (Nat.le_trans hc5.size hb8.size))
  have HQL := Lib.hid (Nat.lt_of_lt_of_le HQL.out (Nat.le_trans hc5.size hb8.size))
  have HT := Lib.hid HT8.out
  have HNO := Lib.hid (show ¬ K4 w5.heap.size from fun e => by have := (h5.hK _ e).2; omega)
  have HKO := Lib.hid (OfB.made w5 2 1 6 (.slice ua wps.length uc) 0)
  clear hz hzv h5 hc5 hb8 HT8 HVA
  have hw8 : w5.alloc (.cells #[.int .i64 2, .int .i64 1, .int .i64 6, .slice ua wps.length uc, .int .i64 0] 61) = w5.alloc (.cells #[.int .i64 2, .int .i64 1, .int .i64 6, .slice ua wps.length uc, .int .i64 0] 61) := rfl
  clear hw8
  go_wp2_with fail
  generalize w5.alloc (.cells #[.int .i64 2, .int .i64 1, .int .i64 6, .slice ua wps.length uc, .int .i64 0] 61) = w8 at *
  obtain ⟨o, ho⟩ : ∃ o, o = w5.heap.size := ⟨_, rfl⟩
  rw [← ho] at HKO HNO ⊢
  clear ho
  have HOL := Lib.hid HKO.out.lt
  go_wp2_with fail
  refine (voissue HT.out HBS.out ⟨0, 2, 5, .slice (some ⟨q, 0, none⟩) 1 1, wps, 9⟩ (wgo HV.out HVT.out ⟨by decide, by decide⟩ ⟨by decide, by decide⟩ ⟨by decide, by decide⟩)).mono ?_
  rintro e w9 ⟨rfl, K9, h3, hc3, hk3⟩
  rw [show issN 3 2 (Ofr.pl ⟨0, 2, 5, .slice (some ⟨q, 0, none⟩) 1 1, wps, 9⟩) = 3 from wk3.1, show issE 3 2 (Ofr.pl ⟨0, 2, 5, .slice (some ⟨q, 0, none⟩) 1 1, wps, 9⟩) = 0 from wk3.2.1]
  have HV := Lib.hid (HV.out.keep hc3 (.inr fun b hb e => HKQ.out (by cases hb; exact e)))
  have HKQ := Lib.hid (show ¬ K9 q from fun e => (hk3 q e).elim HKQ.out fun e => by have := HQL.out; omega)
  have HKO := Lib.hid (HKO.out.chg hc3 HNO.out)
  have HNO := Lib.hid (show ¬ K9 o from fun e => (hk3 o e).elim HNO.out fun e => by have := HOL.out; omega)
  have HOL := Lib.hid (Nat.lt_of_lt_of_le HOL.out hc3.size)
  have HBB := Lib.hid (HBB.out.trans (hc3.below HBS.out fun k e => (HT.out.hK k e).1))
  have HT := Lib.hid (show OV w9 W.heap.size tp 3 3 wP3 K9 from (show issL 3 2 (Ofr.pl ⟨0, 2, 5, .slice (some ⟨q, 0, none⟩) 1 1, wps, 9⟩) = 3 from wk3.2.2.1) ▸ (show issP 3 2 wP1 (Ofr.pl ⟨0, 2, 5, .slice (some ⟨q, 0, none⟩) 1 1, wps, 9⟩) = wP3 from wk3.2.2.2) ▸ h3)
  have HBS := Lib.hid (Nat.le_trans HBS.out hc3.size)
  have HQL := Lib.hid (Nat.lt_of_lt_of_le HQL.out hc3.size)
  clear h3 hc3 hk3
  go_wp2_with fail
  refine (voissue HT.out HBS.out ⟨0, 2, 5, .slice (some ⟨q, 0, none⟩) 1 1, wps, 9⟩ (wgo HV.out HVT.out ⟨by decide, by decide⟩ ⟨by decide, by decide⟩ ⟨by decide, by decide⟩)).mono ?_
  rintro e w10 ⟨rfl, K10, h3, hc3, hk3⟩
  rw [show issN 3 3 (Ofr.pl ⟨0, 2, 5, .slice (some ⟨q, 0, none⟩) 1 1, wps, 9⟩) = 0 from wk4.1, show issE 3 3 (Ofr.pl ⟨0, 2, 5, .slice (some ⟨q, 0, none⟩) 1 1, wps, 9⟩) = 34 from wk4.2.1]
  have HV := Lib.hid (HV.out.keep hc3 (.inr fun b hb e => HKQ.out (by cases hb; exact e)))
  have HKQ := Lib.hid (show ¬ K10 q from fun e => (hk3 q e).elim HKQ.out fun e => by have := HQL.out; omega)
  have HKO := Lib.hid (HKO.out.chg hc3 HNO.out)
  have HNO := Lib.hid (show ¬ K10 o from fun e => (hk3 o e).elim HNO.out fun e => by have := HOL.out; omega)
  have HOL := Lib.hid (Nat.lt_of_lt_of_le HOL.out hc3.size)
  have HBB := Lib.hid (HBB.out.trans (hc3.below HBS.out fun k e => (HT.out.hK k e).1))
  have HT := Lib.hid (show OV w10 W.heap.size tp 3 3 wP3 K10 from (show issL 3 3 (Ofr.pl ⟨0, 2, 5, .slice (some ⟨q, 0, none⟩) 1 1, wps, 9⟩) = 3 from wk4.2.2.1) ▸ (show issP 3 3 wP3 (Ofr.pl ⟨0, 2, 5, .slice (some ⟨q, 0, none⟩) 1 1, wps, 9⟩) = wP3 from wk4.2.2.2) ▸ h3)
  have HBS := Lib.hid (Nat.le_trans HBS.out hc3.size)
  have HQL := Lib.hid (Nat.lt_of_lt_of_le HQL.out hc3.size)
  clear h3 hc3 hk3
  have hS : S4 (sumP wP3 1) = .agg #[.int .i64 2, .int .i64 0, .int .i64 0, .int .i64 0] := by
    unfold S4; rw [wk6.1, wk6.2.1, wk6.2.2.1, wk6.2.2.2]
  have HS := Lib.hid hS
  clear hS
  have c2 := HKO.out.cells.2.2.1
  have c4 := HKO.out.lt
  go_wp2_with fail
  refine (vosum HT.out (by decide) (f := 1) ⟨by decide, by decide⟩).mono ?_
  rintro e w11 ⟨rfl, hb11⟩
  rw [HS.out]
  have HT := Lib.hid (HT.out.below hb11)
  have HBB := Lib.hid (HBB.out.trans (hb11.mono HBS.out))
  have HBS := Lib.hid (Nat.le_trans HBS.out hb11.size)
  clear hb11 c2 c4
  go_wp2_with fail
  refine (voon HT.out (by decide) (f := 5) ⟨by decide, by decide⟩).mono ?_
  rintro e w12 ⟨v, rfl, hr, -, hb12⟩
  obtain ⟨a, n, cp, rfl, hn, -, -, -⟩ := hr.at_
  rw [wk7] at hn
  subst hn
  have HBB := Lib.hid (HBB.out.trans (hb12.mono HBS.out))
  clear hb12 hr
  go_wp2
  go_ret
  exact ⟨rfl, HBB.out⟩
end Go.Proofs.Ytnckjacbkhoppaa

/- tasks: manciplelaw25.works. -/
import Derived.Test.YtnckjacbkhoppaaTb5
namespace Go.Proofs.Ytnckjacbkhoppaa
open Go.RowKit Go.Maps
attribute [local go_sem] ext_cell ext_frozen extC_cell extC_frozen Mix.calmUpon Mix.mUpon
set_option maxRecDepth 100000 in
theorem eq4 (a0 a1 a2 a3 b0 b1 b2 b3 : Int) (w : World) : (Op.equalIn 10000 37 (.agg #[.int .i64 a0, .int .i64 a1, .int .i64 a2, .int .i64 a3]) (.agg #[.int .i64 b0, .int .i64 b1, .int .i64 b2, .int .i64 b3])).run Try.prog w = .ok (a0 == b0 && (a1 == b1 && (a2 == b2 && a3 == b3))) w := by
  have u3 := Try.underlying2
  have a3' := Try.isAgg2
  have z3 := Try.sizeOf2
  rw [show (10000 : Nat) = 9999 + 1 from rfl, Op.equalIn]
  simp only [Sem.run_bind, run_underlying Try.underlying37, Result.andThen_ok]
  simp only [Std.Legacy.Range.forIn_eq_forIn_range', Std.Legacy.Range.size, Nat.sub_zero, Nat.add_sub_cancel, Nat.div_one, List.range'_succ, List.range'_zero, List.forIn_cons, List.forIn_nil]
  go_simp
  by_cases h1 : a0 = b0 <;> by_cases h2 : a1 = b1 <;> by_cases h3 : a2 = b2 <;> by_cases h4 : a3 = b3 <;> simp [h1, h2, h3, h4]
attribute [local go_sem] eq4
abbrev wps : List Pt := [(0, 0, 2)]
abbrev wP1 : List Pk := [(1, 7, 5, wps)]
abbrev wP2 : List Pk := [(1, 7, 5, wps), (2, 7, 5, wps)]
abbrev wP3 : List Pk := [(2, 7, 5, wps)]
theorem wk1 : lauE 2 [] (1, 7, 5, wps) = 0 ∧ lauP 2 [] (1, 7, 5, wps) = wP1 := by decide
theorem wk2 : lauE 2 wP1 (2, 7, 5, wps) = 0 ∧ lauP 2 wP1 (2, 7, 5, wps) = wP2 := by decide
theorem wk3 : lauE 2 wP2 (1, 7, 5, wps) = 42 ∧ lauP 2 wP2 (1, 7, 5, wps) = wP2 := by decide
theorem wk4 : lauE 2 wP2 (1, 8, 5, wps) = 32 ∧ lauP 2 wP2 (1, 8, 5, wps) = wP2 := by decide
theorem wk5 : fndK wP2 ⟨1, 7⟩ = some (1, 7, 5, wps) ∧ delK wP2 ⟨1, 7⟩ = wP3 := by decide
theorem wk6 : sumP wP3 2 0 = 2 ∧ sumP wP3 2 1 = 0 ∧ sumP wP3 2 2 = 0 ∧ sumP wP3 2 3 = 0 := by decide
theorem wk7 : (wP3.filter fun x => x.2.2.1 == 5) = wP3 := by decide
theorem wgo {w : World} {v : Value} (hv : Vc w v wps) {f i : Int} (hf : I64 f) (hi : I64 i) : TGo w ⟨f, i, 5, v, wps⟩ := ⟨hv, (by show (1 : Nat) < 1000000; decide), hf, hi, ⟨by show (-9223372036854775808 : Int) ≤ 5; decide, by show (5 : Int) ≤ 9223372036854775807; decide⟩, fun p hp => by
  rw [List.mem_singleton.1 hp]; exact ⟨⟨by decide, by decide⟩, ⟨by decide, by decide⟩, ⟨by decide, by decide⟩⟩⟩
set_option maxRecDepth 100000 in
set_option maxHeartbeats 4000000 in
theorem works25 (W : World) : Calls Try.prog 49 #[] W fun e W' => e = .returned (.bool true) ∧ Below W.heap.size W W' := by
  go_enter Try.func49, Try.ntmps49
  go_wp2_with fail
  refine (vnew W (cap := 2) (by decide)).mono ?_
  rintro e w1 ⟨rfl, h1, hb1⟩
  obtain ⟨tp, htp⟩ : ∃ tp, tp = W.heap.size + 1 := ⟨_, rfl⟩
  rw [← htp] at h1 ⊢
  have hq1 : W.heap.size + 1 < w1.heap.size := by have := h1.lt.1; omega
  clear htp
  have hb2 := ba (Below.refl w1.heap.size w1) (.cells #[.int .i64 0, .int .i64 0, .int .i64 2] 86)
  have HV := Lib.hid (show Vc (w1.alloc (.cells #[.int .i64 0, .int .i64 0, .int .i64 2] 86)) (.slice (some ⟨w1.heap.size, 0, none⟩) 1 1) wps from .inr ⟨w1.heap.size, 0, 1, rfl, Nat.le_refl _, by decide, by simp, fun i hi => by
    obtain rfl : i = 0 := by simpa using hi
    exact ⟨cell_new w1 _ _ 0, cell_new w1 _ _ 1, cell_new w1 _ _ 2⟩⟩)
  have HT := Lib.hid ((h1.below hb2).mono (V' := fun _ => True) fun _ _ => trivial)
  have HBB := Lib.hid (hb1.trans (hb2.mono hb1.size))
  have HBS := Lib.hid (show W.heap.size ≤ (w1.alloc (.cells #[.int .i64 0, .int .i64 0, .int .i64 2] 86)).heap.size by simp; omega)
  clear h1 hb1 hb2
  obtain ⟨q, hq⟩ : ∃ q, q = w1.heap.size := ⟨_, rfl⟩
  rw [← hq] at HV
  have HQ := Lib.hid (show W.heap.size < q by omega)
  have hqr := Lib.hid hq
  clear hq1 hq
  go_wp2_with fail
  rw [← hqr.out]
  generalize w1.alloc (.cells #[.int .i64 0, .int .i64 0, .int .i64 2] 86) = w2 at *
  go_wp2_with fail
  refine (vlaunch HT.out HBS.out ⟨1, 7, 5, .slice (some ⟨q, 0, none⟩) 1 1, wps⟩ (wgo HV.out ⟨by decide, by decide⟩ ⟨by decide, by decide⟩)).mono ?_
  rintro e w3 ⟨rfl, h3, hc3⟩
  rw [show lauE 2 [] (Tk.pl ⟨1, 7, 5, .slice (some ⟨q, 0, none⟩) 1 1, wps⟩) = 0 from wk1.1]
  have HT := Lib.hid (show TV w3 W.heap.size tp W.heap.size 2 wP1 (fun _ => True) from ((show lauP 2 [] (Tk.pl ⟨1, 7, 5, .slice (some ⟨q, 0, none⟩) 1 1, wps⟩) = wP1 from wk1.2) ▸ h3).mono fun _ _ => trivial)
  have HV := Lib.hid (HV.out.keep hc3 (.inr fun b hb e => by have e : b = W.heap.size := e; have hb : q = b := Option.some.inj hb; have := HQ.out; omega))
  have HBB := Lib.hid (HBB.out.trans (hc3.below HBS.out fun k e => by rw [e]; exact Nat.le_refl _))
  have HBS := Lib.hid (Nat.le_trans HBS.out hc3.size)
  clear h3 hc3
  go_wp2_with fail
  refine (vlaunch HT.out HBS.out ⟨2, 7, 5, .slice (some ⟨q, 0, none⟩) 1 1, wps⟩ (wgo HV.out ⟨by decide, by decide⟩ ⟨by decide, by decide⟩)).mono ?_
  rintro e w4 ⟨rfl, h3, hc3⟩
  rw [show lauE 2 wP1 (Tk.pl ⟨2, 7, 5, .slice (some ⟨q, 0, none⟩) 1 1, wps⟩) = 0 from wk2.1]
  have HT := Lib.hid (show TV w4 W.heap.size tp W.heap.size 2 wP2 (fun _ => True) from ((show lauP 2 wP1 (Tk.pl ⟨2, 7, 5, .slice (some ⟨q, 0, none⟩) 1 1, wps⟩) = wP2 from wk2.2) ▸ h3).mono fun _ _ => trivial)
  have HV := Lib.hid (HV.out.keep hc3 (.inr fun b hb e => by have e : b = W.heap.size := e; have hb : q = b := Option.some.inj hb; have := HQ.out; omega))
  have HBB := Lib.hid (HBB.out.trans (hc3.below HBS.out fun k e => by rw [e]; exact Nat.le_refl _))
  have HBS := Lib.hid (Nat.le_trans HBS.out hc3.size)
  clear h3 hc3
  go_wp2_with fail
  refine (vlaunch HT.out HBS.out ⟨1, 7, 5, .slice (some ⟨q, 0, none⟩) 1 1, wps⟩ (wgo HV.out ⟨by decide, by decide⟩ ⟨by decide, by decide⟩)).mono ?_
  rintro e w5 ⟨rfl, h3, hc3⟩
  rw [show lauE 2 wP2 (Tk.pl ⟨1, 7, 5, .slice (some ⟨q, 0, none⟩) 1 1, wps⟩) = 42 from wk3.1]
  have HT := Lib.hid (show TV w5 W.heap.size tp W.heap.size 2 wP2 (fun _ => True) from ((show lauP 2 wP2 (Tk.pl ⟨1, 7, 5, .slice (some ⟨q, 0, none⟩) 1 1, wps⟩) = wP2 from wk3.2) ▸ h3).mono fun _ _ => trivial)
  have HV := Lib.hid (HV.out.keep hc3 (.inr fun b hb e => by have e : b = W.heap.size := e; have hb : q = b := Option.some.inj hb; have := HQ.out; omega))
  have HBB := Lib.hid (HBB.out.trans (hc3.below HBS.out fun k e => by rw [e]; exact Nat.le_refl _))
  have HBS := Lib.hid (Nat.le_trans HBS.out hc3.size)
  clear h3 hc3
  go_wp2_with fail
  refine (vlaunch HT.out HBS.out ⟨1, 8, 5, .slice (some ⟨q, 0, none⟩) 1 1, wps⟩ (wgo HV.out ⟨by decide, by decide⟩ ⟨by decide, by decide⟩)).mono ?_
  rintro e w6 ⟨rfl, h3, hc3⟩
  rw [show lauE 2 wP2 (Tk.pl ⟨1, 8, 5, .slice (some ⟨q, 0, none⟩) 1 1, wps⟩) = 32 from wk4.1]
  have HT := Lib.hid (show TV w6 W.heap.size tp W.heap.size 2 wP2 (fun _ => True) from ((show lauP 2 wP2 (Tk.pl ⟨1, 8, 5, .slice (some ⟨q, 0, none⟩) 1 1, wps⟩) = wP2 from wk4.2) ▸ h3).mono fun _ _ => trivial)
  have HV := Lib.hid (HV.out.keep hc3 (.inr fun b hb e => by have e : b = W.heap.size := e; have hb : q = b := Option.some.inj hb; have := HQ.out; omega))
  have HBB := Lib.hid (HBB.out.trans (hc3.below HBS.out fun k e => by rw [e]; exact Nat.le_refl _))
  have HBS := Lib.hid (Nat.le_trans HBS.out hc3.size)
  clear h3 hc3
  go_wp2_with fail
  refine (vend HT.out (f := 1) (i := 7) ⟨by decide, by decide⟩ ⟨by decide, by decide⟩).mono ?_
  rintro e w7 ⟨⟨z, rfl, hz, hzv⟩, h7, hc7⟩
  obtain ⟨zf, zi, za, zv, zs⟩ := z
  rw [wk5.1] at hz
  have hz' : (zf, zi, za, zs) = ((1, 7, 5, wps) : Pk) := hz
  simp only [Prod.mk.injEq] at hz'
  obtain ⟨rfl, rfl, rfl, rfl⟩ := hz'
  obtain ⟨ua, uc, huv, -, -⟩ := hzv.form
  simp only at huv
  subst huv
  rw [show (fndK wP2 ⟨1, 7⟩).isSome = true from by rw [wk5.1]; rfl]
  have hb8 := ba (Below.refl w7.heap.size w7) (.cells #[.int .i64 1, .int .i64 7, .int .i64 5, .slice ua wps.length uc] 95)
  have HT8 := Lib.hid (show TV _ W.heap.size tp W.heap.size 2 wP3 (fun _ => True) from TV.below (wk5.2 ▸ h7) hb8)
  have HBB8 := Lib.hid (HBB.out.trans ((hc7.below HBS.out fun k e => by rw [e]; exact Nat.le_refl _).trans (hb8.mono (Nat.le_trans HBS.out hc7.size))))
  have c2 := (KB.made w7 1 7 5 (.slice ua wps.length uc)).cells.2.2.1
  have c4 := (KB.made w7 1 7 5 (.slice ua wps.length uc)).lt
  clear hz hzv h7 hc7 hb8
  have hS : S4 (sumP wP3 2) = .agg #[.int .i64 2, .int .i64 0, .int .i64 0, .int .i64 0] := by
    unfold S4; rw [wk6.1, wk6.2.1, wk6.2.2.1, wk6.2.2.2]
  have HS := Lib.hid hS
  clear hS
  go_wp2_with fail
  refine (vlong HT8.out).mono ?_
  rintro e w9 ⟨rfl, rfl⟩
  clear c2 c4
  go_wp2_with fail
  refine (vsum HT8.out (by decide) 2).mono ?_
  rintro e w10 ⟨rfl, hb10⟩
  rw [HS.out]
  have HT10 := Lib.hid (HT8.out.below hb10)
  have HB10 := Lib.hid (HBB8.out.trans (hb10.mono HBB8.out.size))
  clear hb10
  go_wp2_with fail
  refine (von HT10.out (by decide) 5).mono ?_
  rintro e w11 ⟨v, l, rfl, hl, hpl, -, -, hb11⟩
  rw [wk7] at hpl
  obtain ⟨a, n, cp, rfl, hn, -, -, -⟩ := hl.rs.at_
  obtain rfl : n = 1 := by rw [hn]; have := congrArg List.length hpl; simpa using this
  have HB11 := Lib.hid (HB10.out.trans (hb11.mono HB10.out.size))
  clear hb11 hl hpl hn
  go_wp2
  go_ret
  exact ⟨rfl, HB11.out⟩
end Go.Proofs.Ytnckjacbkhoppaa

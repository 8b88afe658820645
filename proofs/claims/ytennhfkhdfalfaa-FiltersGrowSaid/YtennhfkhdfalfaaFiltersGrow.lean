/- For any acts, any filter and any vector the statement FiltersGrow returns true. Condition: none. -/
import Derived.Test.YtennhfkhdfalfaaFil
namespace Go.Proofs.Ytennhfkhdfalfaa
open Go.RowKit Go.Maps Go.ChangeShapes Go.WideShapes Go.ChangeAt Go.Joins Go.Deep
attribute [local go_sem] ext_cell ext_frozen extC_cell extC_frozen Mix.calmUpon Mix.mUpon
theorem array4 {α : Type} {cs : Array α} (h : cs.size = 4) : ∃ c0 c1 c2 c3, cs = #[c0, c1, c2, c3] := by
  obtain ⟨l⟩ := cs
  match l, h with
  | [c0, c1, c2, c3], _ => exact ⟨c0, c1, c2, c3, rfl⟩
set_option maxRecDepth 100000 in
/-- A filter that came in. -/
theorem open_filter {H : Type} {enc : TypeId × Value → H} {W : World} {base : Nat} {sp : Nat → Bool} {held : Bool} {r : Reach} {b0 : Nat} {v : Value} {d : DataW H} {p : List MemPlace}
    (hv : Value.okWide Try.prog W r b0 72 v) (h : DataW.Trod enc Try.prog W base sp held 72 v d p) (hw : WB Try.prog 72 d) : ∃ f : Fl, v = flval f ∧ FlIn W f := by
  obtain ⟨cs, rfl, hsz⟩ := okWide_struct Try.underlying72 hv
  obtain ⟨c2, c3, c4, c5, rfl⟩ := array4 (hsz.trans (show Try.prog.cellsOf 72 = 4 by kernel_rfl))
  obtain ⟨fuel, hf⟩ := h
  obtain ⟨xs2, n2, _, hdp, _, hlen2, hff2⟩ := DataW.trod_struct Try.underlying72 hf
  obtain ⟨rfl, rfl⟩ := Prod.mk.inj hdp
  match xs2, hlen2 with
  | [z0, z1, z2, z3], _ =>
    have j0 : DataW.trod enc Try.prog W base sp held n2 2 [c2] = some z0 := hff2 0 _ rfl
    have j1 : DataW.trod enc Try.prog W base sp held n2 2 [c3] = some z1 := hff2 1 _ rfl
    have j2 : DataW.trod enc Try.prog W base sp held n2 2 [c4] = some z2 := hff2 2 _ rfl
    have j3 : DataW.trod enc Try.prog W base sp held n2 32 [c5] = some z3 := hff2 3 _ rfl
    have w3 : WB Try.prog 32 z3.1 := hw.part Try.underlying72 (j := 3) rfl rfl
    obtain ⟨a, ea, _, wa⟩ := DataW.trod_int Try.underlying2 j0
    obtain ⟨b, eb, _, wb⟩ := DataW.trod_int Try.underlying2 j1
    obtain ⟨c, ec, _, wc⟩ := DataW.trod_int Try.underlying2 j2
    obtain ⟨l, hvc, hi⟩ := parts_field j3
    have hz := vec_sized j3 w3 hvc
    simp at ea eb ec
    subst ea eb ec
    exact ⟨⟨a, b, c, c5, l⟩, rfl, ⟨i64_wf' wa, i64_wf' wb, i64_wf' wc, hvc, hi, hz⟩⟩
namespace FiltersGrow
open Go.ChangeShapes Go.WideShapes Go.ChangeAt Go.RowKit Go.Joins
theorem own : ownKnob Try.prog.godebug = none := by kernel_rfl
theorem laidOut : laidOutB Try.prog = true := by kernel_rfl
set_option maxRecDepth 100000 in
theorem lifted (os : Os) (started : os.Started) (H : Type) (enc : TypeId × Value → H) :
    ReturnsInHanded {} Try.checked os 7 .any (Rows.filtersGrowSpec.pre6 enc Try.prog Try.f7 Rows.filtersGrowRow.domain false) (Rows.filtersGrowSpec.post enc Try.prog Try.f7 false true false false) := by
  refine returnsInHanded_of_change_sized (C := Try.checked) own started (by kernel_rfl) Try.func7
    (ChangeSpec.witness6 (enc := enc) (C := Try.checked) false ⟨#[], #[.slice none 0 0, .agg #[.int .i64 0, .int .i64 0, .int .i64 0, .slice none 0 0], .slice none 0 0], []⟩ 8 (by kernel_rfl) (by kernel_rfl) (by kernel_rfl) (by kernel_rfl)) ?_
  intro W base args ds gs before hval0 hW hcnd hsz0 _
  have hval : ∀ (j : Nat) t v, Try.f7.params[j]? = some t → args[j]? = some v → Value.okWide Try.prog W .any base t v := hval0
  have hsz : (DataW.weightsEach Try.prog (Try.f7.params.toList ++ Rows.filtersGrowSpec.plain.varTypes Try.prog) (ds ++ gs)).all (· ≤ reachBytes) = true := hsz0
  have hW' := hW
  obtain ⟨p, q, hA0, hV, rfl, hfz, hnd⟩ := hW
  have hA : DataW.TrodAll enc Try.prog W 0 (fun _ => true) true Try.f7.params.toList args.toList ds p := hA0
  rw [Try.params7] at hA hval hsz
  obtain ⟨v0, vs0, d0, ds0, p0, q0, hargs, rfl, rfl, h0, r0⟩ := trodAll_cons hA
  obtain ⟨v1, vs1, d1, ds1, p1, q1, rfl, rfl, rfl, h1, r1⟩ := trodAll_cons r0
  obtain ⟨v2, vs2, d2, ds2, p2, q2, rfl, rfl, rfl, h2, r2⟩ := trodAll_cons r1
  obtain ⟨rfl, rfl, rfl⟩ := trodAll_nil r2
  obtain rfl : args = #[v0, v1, v2] := by cases args; simp_all
  obtain ⟨rfl, rfl⟩ := trodVars_none hV
  have HZ := hsz
  have k0 := h0
  have lt0 : ∀ x ∈ p0, x.block < W.heap.size := by obtain ⟨m, hm⟩ := k0; exact DataW.trod_lt m _ _ _ hm
  have k1 := h1
  have lt1 : ∀ x ∈ p1, x.block < W.heap.size := by obtain ⟨m, hm⟩ := k1; exact DataW.trod_lt m _ _ _ hm
  have k2 := h2
  have lt2 : ∀ x ∈ p2, x.block < W.heap.size := by obtain ⟨m, hm⟩ := k2; exact DataW.trod_lt m _ _ _ hm
  obtain ⟨l, hr, ha, _⟩ := open_facts (hval 0 64 v0 rfl rfl) k0 (WB.arg HZ (j := 0) rfl rfl)
  obtain ⟨f, hfv, hf⟩ := open_filter (hval 1 72 v1 rfl rfl) k1 (WB.arg HZ (j := 1) rfl rfl)
  subst hfv
  obtain ⟨a2, len2, cap2, rfl⟩ := okWide_slice Try.underlying32 (hval 2 32 v2 rfl rfl)
  have ⟨m2, hf2⟩ := k2
  obtain ⟨ps, hu, _⟩ := parts_field hf2
  clear hA0 hval0
  refine (grow26 v0 l f _ ps W hr ha hf hu).mono fun e W' ⟨he, bel⟩ => ?_
  subst he
  exact ⟨_, rfl, _, _, _, [], _, [], hW', trodAll_mk1 (shut_bool Try.underlying4 _), (trodAll_cons_mk (Below.trod laidOut (by kernel_rfl) (of_decide_eq_true (by kernel_rfl)) k0 bel lt0) (trodAll_cons_mk (Below.trod laidOut (by kernel_rfl) (of_decide_eq_true (by kernel_rfl)) k1 bel lt1) (trodAll_cons_mk (Below.trod laidOut (by kernel_rfl) (of_decide_eq_true (by kernel_rfl)) k2 bel lt2) trodAll_mk0))), rfl, bel.frame _, fun h => by cases h⟩
theorem over : Rows.filtersGrowRow.holds Try.pinned (OpenSpec.ofChange Rows.filtersGrowSpec) :=
  OpenClaim.holds_of_wide 7 Try.f7 rfl rfl rfl rfl rfl rfl rfl ⟨rfl, rfl, rfl, rfl, rfl⟩ rfl rfl rfl rfl rfl (by kernel_rfl) Try.func7 (by kernel_rfl)
    (of_decide_eq_true (by kernel_rfl)) (by unfold Func.isWrapper; first | (rw [if_pos (by decide +kernel)]; kernel_rfl) | (rw [if_neg (by decide +kernel)]; exact ⟨rfl, rfl⟩))
    (fun os started H enc _ => lifted os started H enc)
theorem proved : Rows.FiltersGrowSaid := over
end FiltersGrow
end Go.Proofs.Ytennhfkhdfalfaa

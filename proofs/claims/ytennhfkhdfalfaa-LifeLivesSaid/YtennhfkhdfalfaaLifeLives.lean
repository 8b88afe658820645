/- For any events the statement LifeLives returns true. Condition: none. -/
import Derived.Test.YtennhfkhdfalfaaLgC
import Derived.Test.YtennhfkhdfalfaaOpenRS
namespace Go.Proofs.Ytennhfkhdfalfaa
open Go.RowKit Go.Maps Go.ChangeShapes Go.WideShapes Go.ChangeAt Go.Joins Go.Deep
attribute [local go_sem] ext_cell ext_frozen extC_cell extC_frozen Mix.calmUpon Mix.mUpon
set_option maxRecDepth 100000 in
theorem open_evs4 {H : Type} {enc : TypeId × Value → H} {W : World} {base : Nat} {sp : Nat → Bool} {held : Bool} {r : Reach} {b0 : Nat} {v : Value} {d : DataW H} {p : List MemPlace}
    (hv : Value.okWide Try.prog W r b0 94 v) (h : DataW.Trod enc Try.prog W base sp held 94 v d p) : ∃ l : List Ev, RS 5 evenc W v l ∧ ∀ x ∈ l, EIn W x := by
  obtain ⟨l, h1, h2, h3⟩ := open_rs (P := Try.prog) (k := 5) (enc := evenc) (ok := fun a => EIn W a) Try.underlying94 c5ev (fun _ => rfl) (by
  intro m cs x hl hf
  match cs, hl with
  | [c0, c1, c2, c3, c4], _ =>
    obtain ⟨xs, n, _, _, _, hlen, hff⟩ := DataW.trod_struct Try.underlying103 hf
    match xs, hlen with
    | [y0, y1, y2, y3, y4], _ =>
      have k0 : DataW.trod enc Try.prog W base sp held n 3 [c0] = some y0 := hff 0 _ rfl
      have k1 : DataW.trod enc Try.prog W base sp held n 2 [c1] = some y1 := hff 1 _ rfl
      have k2 : DataW.trod enc Try.prog W base sp held n 2 [c2] = some y2 := hff 2 _ rfl
      have k3 : DataW.trod enc Try.prog W base sp held n 2 [c3] = some y3 := hff 3 _ rfl
      have k4 : DataW.trod enc Try.prog W base sp held n 32 [c4] = some y4 := hff 4 _ rfl
      obtain ⟨a, ea, _, wa⟩ := DataW.trod_int Try.underlying3 k0
      obtain ⟨b, eb, _, wb⟩ := DataW.trod_int Try.underlying2 k1
      obtain ⟨c, ec, _, wc⟩ := DataW.trod_int Try.underlying2 k2
      obtain ⟨d, ed, _, wd⟩ := DataW.trod_int Try.underlying2 k3
      obtain ⟨l, hvc, hi⟩ := parts_field k4
      simp at ea eb ec ed
      subst ea eb ec ed
      exact ⟨⟨a, b, c, d, c4, l⟩, rfl, hvc, i64_wf' wb, i64_wf' wc, i64_wf' wd⟩) hv h
  exact ⟨l, h1, h2⟩
namespace LifeLives
open Go.ChangeShapes Go.WideShapes Go.ChangeAt Go.RowKit Go.Joins
theorem own : ownKnob Try.prog.godebug = none := by kernel_rfl
theorem laidOut : laidOutB Try.prog = true := by kernel_rfl
set_option maxRecDepth 100000 in
theorem lifted (os : Os) (started : os.Started) (H : Type) (enc : TypeId × Value → H) :
    ReturnsInHanded {} Try.checked os 9 .any (Rows.lifeLivesSpec.pre6 enc Try.prog Try.f9 Rows.lifeLivesRow.domain false) (Rows.lifeLivesSpec.post enc Try.prog Try.f9 false true false false) := by
  refine returnsInHanded_of_change (C := Try.checked) own started (by kernel_rfl) Try.func9
    (ChangeSpec.witness6 (enc := enc) (C := Try.checked) false ⟨#[], #[.slice none 0 0], []⟩ 8 (by kernel_rfl) (by kernel_rfl) (by kernel_rfl) (by kernel_rfl)) ?_
  intro W base args ds gs before hval0 hW hcnd _
  have hval : ∀ (j : Nat) t v, Try.f9.params[j]? = some t → args[j]? = some v → Value.okWide Try.prog W .any base t v := hval0
  have hW' := hW
  obtain ⟨p, q, hA0, hV, rfl, hfz, hnd⟩ := hW
  have hA : DataW.TrodAll enc Try.prog W 0 (fun _ => true) true Try.f9.params.toList args.toList ds p := hA0
  rw [Try.params9] at hA hval
  obtain ⟨v0, vs0, d0, ds0, p0, q0, hargs, rfl, rfl, h0, r0⟩ := trodAll_cons hA
  obtain ⟨rfl, rfl, rfl⟩ := trodAll_nil r0
  obtain rfl : args = #[v0] := by cases args; simp_all
  obtain ⟨rfl, rfl⟩ := trodVars_none hV
  have k0 := h0
  have lt0 : ∀ x ∈ p0, x.block < W.heap.size := by obtain ⟨m, hm⟩ := k0; exact DataW.trod_lt m _ _ _ hm
  obtain ⟨la, oA, iA⟩ := open_evs4 (hval 0 94 v0 rfl rfl) k0
  clear hA0 hval0
  refine (lives30 v0 la W oA iA).mono fun e W' ⟨he, bel⟩ => ?_
  subst he
  exact ⟨_, rfl, _, _, _, [], _, [], hW', trodAll_mk1 (shut_bool Try.underlying4 _), (trodAll_cons_mk (Below.trod laidOut (by kernel_rfl) (of_decide_eq_true (by kernel_rfl)) k0 bel lt0) trodAll_mk0), rfl, bel.frame _, fun h => by cases h⟩
theorem over : Rows.lifeLivesRow.holds Try.pinned (OpenSpec.ofChange Rows.lifeLivesSpec) :=
  OpenClaim.holds_of_wide 9 Try.f9 rfl rfl rfl rfl rfl rfl rfl ⟨rfl, rfl, rfl, rfl, rfl⟩ rfl rfl rfl rfl rfl (by kernel_rfl) Try.func9 (by kernel_rfl)
    (of_decide_eq_true (by kernel_rfl)) (by unfold Func.isWrapper; first | (rw [if_pos (by decide +kernel)]; kernel_rfl) | (rw [if_neg (by decide +kernel)]; exact ⟨rfl, rfl⟩))
    (fun os started H enc _ => lifted os started H enc)
theorem proved : Rows.LifeLivesSaid := over
end LifeLives
end Go.Proofs.Ytennhfkhdfalfaa

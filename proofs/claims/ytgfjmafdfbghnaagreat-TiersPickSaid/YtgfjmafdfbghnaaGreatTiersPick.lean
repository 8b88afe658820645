/- For any acts and any frameworks the statement TiersPick returns true. Condition: none. -/
import Derived.Test.YtgfjmafdfbghnaaGreatTpc
namespace Go.Proofs.YtgfjmafdfbghnaaGreat
open Go.RowKit Go.ChangeShapes Go.WideShapes Go.ChangeAt Go.Joins Go.Deep Go.Maps
set_option maxRecDepth 100000 in
theorem open_i64 {H : Type} {enc : TypeId × Value → H} {W : World} {base : Nat} {sp : Nat → Bool} {held : Bool} {r : Reach} {b0 : Nat} {v : Value} {d : DataW H} {p : List MemPlace}
    (hv : Value.okWide Tryz.prog W r b0 57 v) (h : DataW.Trod enc Tryz.prog W base sp held 57 v d p) : ∃ l : List Int, RS 1 n1 W v l ∧ (∀ x ∈ l, I64 x) ∧ (∀ b, v.ownBlock = some b → b < W.heap.size) ∧ Spl v := by
  have hv' := hv
  have h' := h
  obtain ⟨l, h1, h2, h3⟩ := open_rs (P := Tryz.prog) (k := 1) (enc := n1) (ok := I64) Tryz.underlying57 c1i10 (fun _ => rfl) (fun m cs x hl hf => by
    match cs, hl with
    | [c0], _ =>
      obtain ⟨q0, e0, _, w0⟩ := DataW.trod_int Tryz.underlying2 hf
      simp at e0
      subst e0
      exact ⟨q0, rfl, i64_of_wf w0⟩) hv h
  refine ⟨l, h1, h2, h3, ?_⟩
  obtain ⟨a0, n0, c0, rfl⟩ : ∃ a n c, v = .slice a n c := by
    obtain ⟨a, n, c, rfl, -⟩ := h1.at_; exact ⟨_, _, _, rfl⟩
  obtain ⟨fuel, hf⟩ := h'
  rcases open_slice Tryz.underlying57 hf with ⟨hc, _⟩ | ⟨a, len, cap, m, kk, D, Pl, hc, _⟩
  · cases hc; exact .inl rfl
  · cases hc
    simp only [Value.okWide, Tryz.underlying57, Cell.okWide, Cell.ok] at hv'
    obtain ⟨_, _, _, hspot, -⟩ := hv'
    exact .inr ⟨a.block, a.off, _, _, by cases a; simp at hspot; subst hspot; rfl⟩
namespace TiersPick
theorem own : ownKnob Tryz.prog.godebug = none := by kernel_rfl
theorem laidOut : laidOutB Tryz.prog = true := by kernel_rfl
set_option maxRecDepth 100000 in
theorem lifted (os : Os) (started : os.Started) (H : Type) (enc : TypeId × Value → H) :
    ReturnsInHanded {} Tryz.checked os 5 .any (Rows.tiersPickSpec.pre6 enc Tryz.prog Tryz.f5 Rows.tiersPickRow.domain false) (Rows.tiersPickSpec.post enc Tryz.prog Tryz.f5 false true false false) := by
  refine returnsInHanded_of_change_sized (C := Tryz.checked) own started (by kernel_rfl) Tryz.func5
    (ChangeSpec.witness6 (enc := enc) (C := Tryz.checked) false ⟨#[], #[.slice none 0 0, .slice none 0 0], []⟩ 8 (by kernel_rfl) (by kernel_rfl) (by kernel_rfl) (by kernel_rfl)) ?_
  intro W base args ds gs before hval0 hW hcnd hsz0 _
  have hval : ∀ (j : Nat) t v, Tryz.f5.params[j]? = some t → args[j]? = some v → Value.okWide Tryz.prog W .any base t v := hval0
  have hsz : (DataW.weightsEach Tryz.prog (Tryz.f5.params.toList ++ Rows.tiersPickSpec.plain.varTypes Tryz.prog) (ds ++ gs)).all (· ≤ reachBytes) = true := hsz0
  have hW' := hW
  obtain ⟨p, q, hA0, hV, rfl, hfz, hnd⟩ := hW
  have hA : DataW.TrodAll enc Tryz.prog W 0 (fun _ => true) true Tryz.f5.params.toList args.toList ds p := hA0
  rw [Tryz.params5] at hA hval hsz
  obtain ⟨v0, vs0, d0, ds0, p0, q0, hargs, rfl, rfl, h0, r0⟩ := trodAll_cons hA
  obtain ⟨v1, vs1, d1, ds1, p1, q1, rfl, rfl, rfl, h1, r1⟩ := trodAll_cons r0
  obtain ⟨rfl, rfl, rfl⟩ := trodAll_nil r1
  obtain rfl : args = #[v0, v1] := by cases args; simp_all
  obtain ⟨rfl, rfl⟩ := trodVars_none hV
  have HZ := hsz
  have k0 := h0
  have lt0 : ∀ x ∈ p0, x.block < W.heap.size := by obtain ⟨m, hm⟩ := k0; exact DataW.trod_lt m _ _ _ hm
  have k1 := h1
  have lt1 : ∀ x ∈ p1, x.block < W.heap.size := by obtain ⟨m, hm⟩ := k1; exact DataW.trod_lt m _ _ _ hm
  obtain ⟨l, hr, ha, _⟩ := open_a10 (hval 0 22 v0 rfl rfl) k0
  obtain ⟨sl, hs, hsi, hsb, hsp⟩ := open_i64 (hval 1 57 v1 rfl rfl) k1
  clear hA0 hval0
  refine (picks10 v0 v1 l sl W hr ha hs hsp hsb hsi).mono fun e W' ⟨he, bel⟩ => ?_
  subst he
  exact ⟨_, rfl, _, _, _, [], _, [], hW', trodAll_mk1 (shut_bool Tryz.underlying4 _), (trodAll_cons_mk (Below.trod laidOut (by kernel_rfl) (of_decide_eq_true (by kernel_rfl)) k0 bel lt0) (trodAll_cons_mk (Below.trod laidOut (by kernel_rfl) (of_decide_eq_true (by kernel_rfl)) k1 bel lt1) trodAll_mk0)), rfl, bel.frame _, fun h => by cases h⟩
theorem over : Rows.tiersPickRow.holds Tryz.pinned (OpenSpec.ofChange Rows.tiersPickSpec) :=
  OpenClaim.holds_of_wide 5 Tryz.f5 rfl rfl rfl rfl rfl rfl rfl ⟨rfl, rfl, rfl, rfl, rfl⟩ rfl rfl rfl rfl rfl (by kernel_rfl) Tryz.func5 (by kernel_rfl)
    (of_decide_eq_true (by kernel_rfl)) (by unfold Func.isWrapper; first | (rw [if_pos (by decide +kernel)]; kernel_rfl) | (rw [if_neg (by decide +kernel)]; exact ⟨rfl, rfl⟩))
    (fun os started H enc _ => lifted os started H enc)
theorem proved : Rows.TiersPickSaid := over
end TiersPick
end Go.Proofs.YtgfjmafdfbghnaaGreat

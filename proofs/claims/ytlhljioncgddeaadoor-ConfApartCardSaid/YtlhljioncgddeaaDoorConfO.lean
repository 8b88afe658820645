/- What the rows of conf lean on: the listed variables, the world's shape, a configuration that came in. -/
import Derived.Test.YtlhljioncgddeaaDoorCards
import Derived.Test.YtlhljioncgddeaaDoorTie
import Derived.Test.YtlhljioncgddeaaDoorOn
import Derived.Test.YtlhljioncgddeaaDoorNum
import Derived.Test.YtlhljioncgddeaaDoorConf8
import Derived.SevenTiedAt
import Derived.ChangeSame
import Derived.LaidMore
import Derived.LaidHandle
import Derived.LaidLaws
import Derived.MakeChecks
import Derived.OpenShut
import Derived.ChangeOld
import Derived.Lib.SmallJoins
import Derived.Laws.IdiomArrays
import Derived.Deep.Strs
import Derived.Stop.LaidErr
import Derived.SizedLaws
import Derived.Shelf.Vars
import Derived.Lay
namespace Go.Proofs.YtlhljioncgddeaaDoor
open Go.RowKit Go.ChangeShapes Go.WideShapes Go.ChangeAt Go.Joins
theorem gT10 : Tryd.prog.globalNamed "internal/strconv.uint64pow10" = some 3 := by kernel_rfl
theorem gT10t : (Tryd.prog.globals[3]?).map (·.type) = some 159 := by kernel_rfl
theorem c64 : Tryd.prog.cellsOf 118 = 1 := by kernel_rfl
theorem c20 : Tryd.prog.cellsOf 159 = 20 := by kernel_rfl
theorem t10_third {x y : String × DataW Unit} {rest : List (String × DataW Unit)} {W : World} (h : laidMet Tryd.prog (x :: y :: ("internal/strconv.uint64pow10", Rows.laid_internal_strconv_uint64pow10) :: rest) W) : T10 W :=
  Lib.tabIs_of_head (rest := rest) gT10 gT10t Tryd.underlying159 Tryd.underlying118 c64 c20 (h.tail.tail)
theorem c1sE : Tryd.prog.cellsOf 9 = 1 := by kernel_rfl
theorem gER : Tryd.prog.globalNamed "strconv.ErrRange" = some 2 := by kernel_rfl
theorem gERt : (Tryd.prog.globals[2]?).map (·.type) = some 100 := by kernel_rfl
theorem gES : Tryd.prog.globalNamed "strconv.ErrSyntax" = some 1 := by kernel_rfl
theorem gESt : (Tryd.prog.globals[1]?).map (·.type) = some 100 := by kernel_rfl
theorem cES : Tryd.prog.cellsOf 166 = 1 := by kernel_rfl
theorem starES : "*" ++ "errors.errorString" = "*errors.errorString" := by decide
theorem rowES (u : TypeId) (h : Tryd.prog.typeName? 3 u = some "*errors.errorString") : u = 164 :=
  typeName_ptr_named (nm := "errors.errorString") (by rw [starES]; kernel_rfl) (by kernel_rfl) (by decide) u (by rw [starES]; exact h)
theorem ev_fifth {a b c d : String × DataW Unit} {rest : List (String × DataW Unit)} {W : World} (h : laidMet Tryd.prog (a :: b :: c :: d :: ("strconv.ErrRange", Rows.laid_strconv_ErrRange) :: ("strconv.ErrSyntax", Rows.laid_strconv_ErrSyntax) :: rest) W) : EV W := by
  obtain ⟨a1, s1, h1, _⟩ := laid_sentinel h.tail.tail.tail.tail gER gERt Tryd.underlying100 rowES Tryd.underlying164 Tryd.underlying166 rfl rfl Tryd.underlying9 cES c1sE
  obtain ⟨a2, s2, h2, _⟩ := laid_sentinel h.tail.tail.tail.tail.tail gES gESt Tryd.underlying100 rowES Tryd.underlying164 Tryd.underlying166 rfl rfl Tryd.underlying9 cES c1sE
  exact ⟨⟨_, _, h2⟩, ⟨_, _, h1⟩⟩
theorem mlSize : 4 < Tryd.prog.globals.size := of_decide_eq_true (by kernel_rfl)
theorem ml_shaped {w : World} (h : w.ShapedOpen Tryd.prog) : ML w := by
  obtain ⟨m, hm⟩ := cell_of_shapedOpen_int (g := 4) (t := 3) (zero := #[.int .i64 0]) (k := .i64) h mlSize (by kernel_rfl) rfl (by kernel_rfl) (by kernel_rfl) Tryd.underlying3
  refine ⟨?_, m, hm⟩
  by_cases hl : 4 < w.heap.size
  · exact hl
  · simp [World.cell?, hl] at hm
/-- The contract of a row may use the world's shape beside what is laid. -/
theorem handed_and_shaped {H : Type} {enc : TypeId × Value → H} {a : Assume} {C : Checked} {os : Os} {f : FuncId} {fn : Func} {s : ChangeSpec} {conds : List PathCond} {apart fresh handsOn again : Bool} {X : World → Array Value → Prop}
    (hX : ∀ (w w' : World) (args : Array Value), w.heap = w'.heap → X w args → X w' args)
    (own : ownKnob C.prog.godebug = none) (started : os.Started) (noInit : C.prog.inits.idxOf? f = none) (hfn : C.prog.funcs[f]? = some fn)
    (witness : ∃ (w : World) (tape : Tape) (i : Input), w.os = os ∧ (w.forCall tape i).Shaped C.prog ∧ i.vars = [] ∧ Input.okWide C.prog (w.forCall tape i) .any w.heap.size f i ∧
      ((s.pre enc C.prog fn conds apart (w.forCall tape i).memory i.args ∧ X (w.forCall tape i).memory i.args) ∧ sizedMet enc C.prog fn (OpenSpec.ofChange s) apart (w.forCall tape i).memory i.args) ∧ a.holds C.prog (lone (Frame.enter C.prog f i.args .normal) [] (w.forCall tape i)))
    (contract : ∀ (W : World) (base : Nat) (args : Array Value) (ds gs : List (DataW H)) (before : List MemPlace),
      (∀ (j : Nat) t v, fn.params[j]? = some t → args[j]? = some v → Value.okWide C.prog W .any base t v) →
      DataW.Whole enc C.prog fn.params.toList s.vars apart W args.toList ds gs before →
      conds.all (PathCond.test C.prog ⟨fn.params.toList, ds, s.plain.varTypes C.prog, gs⟩) = true →
      (DataW.weightsEach C.prog (fn.params.toList ++ s.plain.varTypes C.prog) (ds ++ gs)).all (· ≤ reachBytes) = true → W.ShapedOpen C.prog → X W args →
      a.holds C.prog (lone (Frame.enter C.prog f args .normal) [] W) →
      Calls C.prog f args W fun e W' => ∃ v, e = .returned v ∧ s.post enc C.prog fn apart fresh handsOn again W args v W') :
    ReturnsInHanded a C os f .any (fun w args => (s.pre enc C.prog fn conds apart w args ∧ X w args) ∧ sizedMet enc C.prog fn (OpenSpec.ofChange s) apart w args) (s.post enc C.prog fn apart fresh handsOn again) := by
  refine returnsInHanded_of_calls own started noInit witness fun w tape i _ shaped _ hok hpre hholds => ?_
  obtain ⟨_, _, _, fn', hfn', _, _, _, _, hval⟩ := hok
  obtain rfl : fn' = fn := Option.some.inj (hfn'.symm.trans hfn)
  obtain ⟨⟨⟨ds, gs, before, hw, hc⟩, hx⟩, hz⟩ := hpre
  refine (contract (w.forCall tape i) w.heap.size i.args ds gs before hval (DataW.Whole.of_heap (w' := w.forCall tape i) (by rfl) hw) hc (hz.weights hw) shaped (hX _ _ _ (by rfl) hx) hholds).mono ?_
  rintro e W' ⟨v, rfl, hp⟩
  exact ChangeSpec.post_blind hp
theorem array9 {α : Type} {cs : Array α} (h : cs.size = 9) : ∃ c0 c1 c2 c3 c4 c5 c6 c7 c8, cs = #[c0, c1, c2, c3, c4, c5, c6, c7, c8] := by
  obtain ⟨l⟩ := cs
  match l, h with
  | [c0, c1, c2, c3, c4, c5, c6, c7, c8], _ => exact ⟨c0, c1, c2, c3, c4, c5, c6, c7, c8, rfl⟩
theorem c1iE : Tryd.prog.cellsOf 2 = 1 := by kernel_rfl
set_option maxRecDepth 100000 in
/-- A configuration that came in: its nine numbers. -/
theorem open_conf {H : Type} {enc : TypeId × Value → H} {W : World} {base : Nat} {sp : Nat → Bool} {held : Bool} {r : Reach} {b0 : Nat} {v : Value} {d : DataW H} {p : List MemPlace}
    (hv : Value.okWide Tryd.prog W r b0 43 v) (h : DataW.Trod enc Tryd.prog W base sp held 43 v d p) : ∃ h m i l c n, v = C9 h m i l c n ∧ True := by
  obtain ⟨cs, rfl, hsz⟩ := okWide_struct Tryd.underlying43 hv
  obtain ⟨c0, c1, c2, c3, c4, c5, c6, c7, c8, rfl⟩ := array9 (hsz.trans (show Tryd.prog.cellsOf 43 = 9 by kernel_rfl))
  obtain ⟨fuel, hf⟩ := h
  obtain ⟨xs, n, _, _, _, hlen, hff⟩ := DataW.trod_struct Tryd.underlying43 hf
  have k0 := hff 0 _ rfl
  have k1 := hff 1 _ rfl
  have k2 := hff 2 _ rfl
  have k3 := hff 3 _ rfl
  have k4 := hff 4 _ rfl
  have k5 := hff 5 _ rfl
  match xs, hlen with
  | [y0, y1, y2, y3, y4, y5], _ =>
    have k0' : DataW.trod enc Tryd.prog W base sp held n 2 [c0] = some y0 := k0
    have k1' : DataW.trod enc Tryd.prog W base sp held n 2 [c1] = some y1 := k1
    have k2' : DataW.trod enc Tryd.prog W base sp held n 2 [c2] = some y2 := k2
    have k3' : DataW.trod enc Tryd.prog W base sp held n 2 [c3] = some y3 := k3
    have k4' : DataW.trod enc Tryd.prog W base sp held n 3 [c4] = some y4 := k4
    have k5' : DataW.trod enc Tryd.prog W base sp held n 41 [c5, c6, c7, c8] = some y5 := k5
    obtain ⟨z0, z1, z2, z3, n', _, j0, j1, j2, j3⟩ := trod_array4 Tryd.underlying41 c1iE k5'
    obtain ⟨a0, e0, _, _⟩ := DataW.trod_int Tryd.underlying2 k0'
    obtain ⟨a1, e1, _, _⟩ := DataW.trod_int Tryd.underlying2 k1'
    obtain ⟨a2, e2, _, _⟩ := DataW.trod_int Tryd.underlying2 k2'
    obtain ⟨a3, e3, _, _⟩ := DataW.trod_int Tryd.underlying2 k3'
    obtain ⟨a4, e4, _, _⟩ := DataW.trod_int Tryd.underlying3 k4'
    obtain ⟨a5, e5, _, _⟩ := DataW.trod_int Tryd.underlying2 j0
    obtain ⟨a6, e6, _, _⟩ := DataW.trod_int Tryd.underlying2 j1
    obtain ⟨a7, e7, _, _⟩ := DataW.trod_int Tryd.underlying2 j2
    obtain ⟨a8, e8, _, _⟩ := DataW.trod_int Tryd.underlying2 j3
    simp at e0 e1 e2 e3 e4 e5 e6 e7 e8
    subst e0 e1 e2 e3 e4 e5 e6 e7 e8
    exact ⟨a0, a1, a2, a3, a4, fun k => if k = 0 then a5 else if k = 1 then a6 else if k = 2 then a7 else a8, rfl, trivial⟩
end Go.Proofs.YtlhljioncgddeaaDoor

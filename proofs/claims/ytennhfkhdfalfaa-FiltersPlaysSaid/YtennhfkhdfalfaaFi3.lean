/- filters: tables in memory; New, Long, Blocks. -/
import Derived.Test.YtennhfkhdfalfaaFi2
import Derived.Test.YtennhfkhdfalfaaVecAe
import Derived.Test.YtennhfkhdfalfaaMapF
import Derived.Test.YtennhfkhdfalfaaKeyP
namespace Go.Proofs.Ytennhfkhdfalfaa
open Go.RowKit Go.Maps
attribute [local go_sem] ext_cell ext_frozen extC_cell extC_frozen Mix.calmUpon Mix.mUpon
/-- A list of filters in memory: its block, its slice, what it holds. -/
structure Fx where
  b : Nat
  v : Value
  l : List Fl
abbrev fptr (b : Nat) : Value := .pointer (some ⟨b, 0, none⟩)
abbrev fxval (x : Fx) : Value := fptr x.b
/-- Where a filter lies. -/
abbrev kx (f : Pf) : K2 := ⟨f.1, f.2.1⟩
/-- The filters at a key. -/
def fk (S : List Pf) (k : K2) : List Pf := S.filter fun f => decide (kx f = k)
/-- A filter that a table keeps. -/
structure FOk (f : Pf) : Prop where
  fr : 1 ≤ f.1
  ag : 1 ≤ f.2.1
  ti : 0 ≤ f.2.2.1
  i1 : I64 f.1
  i2 : I64 f.2.1
  i3 : I64 f.2.2.1
  ne : f.2.2.2 ≠ []
  vr : VR f.2.2.2
/-- What a list of the table has in memory. -/
structure FX (w : World) (base : Nat) (x : Fx) : Prop where
  lb : LB w x.b x.v
  new : base ≤ x.b
  own : OwnL 72 4 flenc w base x.v x.l
  vec : ∀ f ∈ x.l, OwnP w base f.vv f.ps
/-- Block tp is a table of the filters S, where a list may be empty; M: its map's block; all its blocks are newer than the world W. -/
structure FQ (W w : World) (tp M : Nat) (cap : Int) (F : K2 → Option Fx) (S : List Pf) : Prop where
  obj : w.heap[tp]? = some (.cells #[.int .i64 cap, .int .i64 (S.length : Nat), .map (some M)] 92 (0, 0))
  map : MapF KP w M F fxval
  bel : Below W.heap.size W w
  new : W.heap.size ≤ tp ∧ W.heap.size ≤ M
  ne : tp ≠ M
  lst : ∀ k x, F k = some x → FX w W.heap.size x
  one : ∀ k k' x x', F k = some x → F k' = some x' → k ≠ k' → x.b ≠ x'.b ∧ ∀ q, x.v.ownBlock = some q → x'.v.ownBlock ≠ some q
  pl : ∀ k, fk S k = match F k with | none => [] | some x => x.l.map Fl.pl
  ok : ∀ f ∈ S, FOk f
  cp : (S.length : Int) ≤ cap
  c1 : 1 ≤ cap ∧ cap ≤ 9223372036854775807
/-- No list is empty. -/
structure FT (W w : World) (tp M : Nat) (cap : Int) (F : K2 → Option Fx) (S : List Pf) : Prop extends FQ W w tp M cap F S where
  nem : ∀ k x, F k = some x → x.l ≠ []
section
variable {W w w' : World} {tp M : Nat} {cap : Int} {F : K2 → Option Fx} {S : List Pf}
theorem FX.below {base : Nat} {x : Fx} (h : FX w base x) (hb : Below w.heap.size w w') : FX w' base x :=
  ⟨h.lb.below hb, h.new, ownsRow_chg h.own (Chg.of_below (fun _ => False) hb) (fun _ _ => id), fun f hf => ownsRow_chg (h.vec f hf) (Chg.of_below (fun _ => False) hb) (fun _ _ => id)⟩
theorem FQ.lt (h : FQ W w tp M cap F S) : tp < w.heap.size ∧ M < w.heap.size := ⟨(Array.getElem?_eq_some_iff.1 h.obj).1, h.map.lt⟩
theorem FQ.below (h : FQ W w tp M cap F S) (hb : Below w.heap.size w w') : FQ W w' tp M cap F S :=
  ⟨(hb.block tp h.lt.1).trans h.obj, h.map.chg (Chg.of_below (fun _ => False) hb) id, h.bel.trans (hb.mono h.bel.size), h.new, h.ne, fun k x hx => (h.lst k x hx).below hb, h.one, h.pl, h.ok, h.cp, h.c1⟩
theorem FT.below (h : FT W w tp M cap F S) (hb : Below w.heap.size w w') : FT W w' tp M cap F S := ⟨h.toFQ.below hb, h.nem⟩
theorem FQ.cells (h : FQ W w tp M cap F S) : w.cell? ⟨tp, 0, none⟩ = some (.int .i64 cap) ∧ w.cell? ⟨tp, 1, none⟩ = some (.int .i64 (S.length : Nat)) ∧ w.cell? ⟨tp, 2, none⟩ = some (.map (some M)) := by
  have := h.obj; simp [World.cell?, this]
theorem FQ.fz (h : FQ W w tp M cap F S) (o : Nat) : w.frozen? ⟨tp, o, none⟩ = false := by have := h.obj; simp [World.frozen?, this]
theorem FQ.look (h : FQ W w tp M cap F S) {k : K2} (hk : I64 k.a ∧ I64 k.b) (c : Bool) : (Instr.lookup 90 (.map (some M)) (pval k) c).run Try.prog w =
    .ok (if c then .tuple #[((F k).map fxval).getD (.pointer none), .bool (F k).isSome] else ((F k).map fxval).getD (.pointer none)) w := by
  have hz : (zeroValue 130).run Try.prog w = .ok (.pointer none) w := Try.zeroValue130 w
  exact h.map.look keyP Try.underlying90 hz (x := k) hk c
theorem makeFm (w : World) : (Instr.makeMap 90 none).run Try.prog w = .ok (.map (some w.heap.size)) (w.alloc (.map #[] 0)) := by kernel_rfl
set_option maxRecDepth 100000 in
theorem fnew (W w : World) (hb : Below W.heap.size W w) {cap : Int} (hc : 1 ≤ cap ∧ cap ≤ 9223372036854775807) : Calls Try.prog 31 #[.int .i64 cap] w fun e w' => e = .returned (fptr (w.heap.size + 1)) ∧ FT W w' (w.heap.size + 1) w.heap.size cap (fun _ => none) [] ∧ Below w.heap.size w w' := by
  have n1 : ¬ cap < 1 := by omega
  have hmm := makeFm
  have HB := Lib.hid hb; have HC := Lib.hid hc
  clear hb hc
  go_enter Try.func31, Try.ntmps31
  go_wp2
  go_ret
  have hs := HB.out.size
  refine ⟨rfl, ⟨⟨?_, ?_, ?_, ⟨by omega, by omega⟩, by omega, (fun k x h => by cases h), (fun k k' x x' h => by cases h), fun k => rfl, (fun x h => by cases h), by have := HC.out; simp; omega, HC.out⟩, fun k x h => by cases h⟩, by (repeat (first | assumption | exact Below.refl _ _ | refine ba ?_ _ | refine bd ?_ | refine bdn ?_ _ | refine bs ?_ (by first | omega | (simp; done) | (simp; omega)) _ | refine bt ?_ (by assumption)))⟩
  · have := heap_alloc_new (w.alloc (.map #[] 0)) (.cells #[.int .i64 cap, .int .i64 0, .map (some w.heap.size)] 92)
    rw [show (w.alloc (.map #[] 0)).heap.size = w.heap.size + 1 by simp] at this
    exact this
  · exact (MapF.made w).chg (.of_below (fun _ => False) (ba (Below.refl _ _) _)) id
  · exact bt HB.out (by (repeat (first | assumption | exact Below.refl _ _ | refine ba ?_ _ | refine bd ?_ | refine bdn ?_ _ | refine bs ?_ (by first | omega | (simp; done) | (simp; omega)) _ | refine bt ?_ (by assumption))))
theorem fnew_none (w : World) {cap : Int} (hc : cap < 1) : Calls Try.prog 31 #[.int .i64 cap] w fun e w' => e = .returned (.pointer none) ∧ w' = w := by
  go_enter Try.func31, Try.ntmps31
  go_wp2
  go_ret
  exact ⟨rfl, rfl⟩
theorem fmade (h : FQ W w tp M cap F S) : Calls Try.prog 81 #[fptr tp] w fun e w' => e = .returned (.bool true) ∧ w' = w := by
  have hl := h.lt.1
  obtain ⟨-, -, c2⟩ := h.cells
  have hmn := fun w : World => Go.run_neq_map_nil (P := Try.prog) w 90 _ _ (some M) Try.underlying90
  clear h
  go_enter Try.func81, Try.ntmps81
  go_wp2
  go_ret
  exact ⟨rfl, rfl⟩
theorem flong (h : FQ W w tp M cap F S) : Calls Try.prog 40 #[fptr tp] w fun e w' => e = .returned (.int .i64 (S.length : Nat)) ∧ w' = w := by
  have H := Lib.hid (fmade h)
  have hl := h.lt.1
  obtain ⟨c0, c1, c2⟩ := h.cells
  clear h
  go_enter Try.func40, Try.ntmps40
  go_wp2_with fail
  refine H.out.mono ?_
  rintro e w1 ⟨rfl, rfl⟩
  go_wp2
  go_ret
  exact ⟨rfl, rfl⟩
end
end Go.Proofs.Ytennhfkhdfalfaa

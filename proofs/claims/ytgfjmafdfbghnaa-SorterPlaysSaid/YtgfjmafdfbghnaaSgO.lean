/- Texts laid together: OpenRS,Sog. -/
import Derived.Test.YtgfjmafdfbghnaaSgN
import Derived.Test.YtgfjmafdfbghnaaRows
import Derived.ChangeOld
import Derived.ChangeSame
import Derived.Deep.Slices
import Derived.Deep.Strs
import Derived.Laws.IdiomArrays
import Derived.Lib.SmallJoins
import Derived.OpenShut
namespace Go.Proofs.Ytgfjmafdfbghnaa
section
open Go.RowKit Go.ChangeShapes Go.WideShapes Go.ChangeAt Go.Joins Go.Deep
theorem add_add' (a : Addr) (h : a.spot = none) (n : Nat) : a.add n = ⟨a.block, a.off + n, none⟩ := by
  unfold Addr.add
  split
  · rename_i h0; subst h0; cases a; simp at h; subst h; rfl
  · rfl
/-- A slice whose elements read as enc tells. -/
theorem open_rs {α : Type} {k : Nat} {enc : α → List Value} {ok : α → Prop} {H : Type} {ec : TypeId × Value → H} {P : Program} {W : World} {base : Nat} {sp : Nat → Bool} {held : Bool} {r : Reach} {b0 : Nat} {T E : TypeId} {v : Value} {d : DataW H} {p : List MemPlace} [Inhabited α]
    (hT : P.underlying T = some (.slice E)) (hC : P.cellsOf E = k) (hlen : ∀ x, (enc x).length = k)
    (helem : ∀ (m : Nat) (cs : List Value) (x : DataW H × List MemPlace), cs.length = k → DataW.trod ec P W base sp held m E cs = some x → ∃ a : α, cs = enc a ∧ ok a)
    (hv : Value.okWide P W r b0 T v) (h : DataW.Trod ec P W base sp held T v d p) : ∃ l : List α, RS k enc W v l ∧ (∀ x ∈ l, ok x) ∧ ∀ b, v.ownBlock = some b → b < W.heap.size := by
  have hv' := hv
  obtain ⟨a0, len0, cap0, rfl⟩ := okWide_slice hT hv
  obtain ⟨fuel, hf⟩ := h
  rcases open_slice hT hf with ⟨hc, _⟩ | ⟨a, len, cap, m, kk, D, Pl, hc, _, hl, hm, hmm, hx, hall⟩
  · cases hc
    exact ⟨[], RS.nil _ _ _, (fun x hx => by cases hx), fun b hb => by cases hb⟩
  · cases hc
    have hlm : len0 ≤ m := by rw [hmm]; split <;> omega
    rw [hC] at hall
    have each : ∀ i, i < len0 → ∃ q : α, (∀ j u, (enc q)[j]? = some u → W.cell? ((a.add (i * k)).add j) = some u) ∧ ok q := by
      intro i hi
      obtain ⟨cs', h1, h2⟩ := hall i (by omega)
      obtain ⟨_, hl', hcell⟩ := World.cells?_some h1
      obtain ⟨q, rfl, hq⟩ := helem _ _ _ hl' h2
      refine ⟨q, fun j u hu => ?_, hq⟩
      rw [hcell j (by have := (List.getElem?_eq_some_iff.1 hu).1; rw [hlen] at this; exact this)]; exact hu
    obtain ⟨q, hq⟩ := choose_lt each
    simp only [Value.okWide, hT, Cell.okWide, Cell.ok] at hv'
    obtain ⟨_, _, _, hspot, row, cells, hsh, _⟩ := hv'
    have hb : a.block < W.heap.size := by
      rcases Nat.lt_or_ge a.block W.heap.size with h' | h'
      · exact h'
      · simp [World.shape?, Array.getElem?_eq_none h'] at hsh
    refine ⟨(List.range len0).map q, ⟨some a, cap0, by simp, by simpa using hl, hm, fun _ => ⟨a.block, a.off, by cases a; simp at hspot; subst hspot; rfl, hb, fun i hi j u hu => ?_⟩⟩, fun x hx => ?_, fun b hb2 => by cases hb2; exact hb⟩
    · have hi' : i < len0 := by simpa using hi
      have := (hq i hi').1 j u (by simpa using hu)
      rw [add_add' a hspot, add_add' _ rfl] at this
      exact this
    · obtain ⟨i, hi, rfl⟩ := List.mem_map.1 hx
      exact (hq i (List.mem_range.1 hi)).2
end
section
open Go.RowKit Go.ChangeShapes Go.WideShapes Go.ChangeAt Go.Joins Go.Deep Go.Maps
def a9enc (a : A9) : List Value := [.int .i64 a.k, .int .i64 a.i, .int .i64 a.x, .int .i64 (a.n 0), .int .i64 (a.n 1), .int .i64 (a.n 2), .int .i64 (a.n 3)]
theorem c7a9 : Try.prog.cellsOf 32 = 7 := by kernel_rfl
theorem c1i9 : Try.prog.cellsOf 2 = 1 := by kernel_rfl
def four9 (a b c d : Int) : Nat → Int | 0 => a | 1 => b | 2 => c | _ => d
set_option maxRecDepth 100000 in
theorem open_a9 {H : Type} {enc : TypeId × Value → H} {W : World} {base : Nat} {sp : Nat → Bool} {held : Bool} {r : Reach} {b0 : Nat} {v : Value} {d : DataW H} {p : List MemPlace}
    (hv : Value.okWide Try.prog W r b0 22 v) (h : DataW.Trod enc Try.prog W base sp held 22 v d p) : ∃ l : List A9, RS 7 a9enc W v l ∧ (∀ x ∈ l, I64 x.i) ∧ ∀ b, v.ownBlock = some b → b < W.heap.size := by
  have : Inhabited A9 := ⟨⟨0, 0, 0, fun _ => 0⟩⟩
  refine open_rs (P := Try.prog) (k := 7) (enc := a9enc) (ok := fun x => I64 x.i) Try.underlying22 c7a9 (fun _ => rfl) (fun m cs x hl hf => ?_) hv h
  match cs, hl with
  | [c0, c1, c2, c3, c4, c5, c6], _ =>
    obtain ⟨xs, n, _, _, _, hlen, hff⟩ := DataW.trod_struct Try.underlying32 hf
    match xs, hlen with
    | [y0, y1, y2, y3], _ =>
      have k0 : DataW.trod enc Try.prog W base sp held n 3 [c0] = some y0 := hff 0 _ rfl
      have k1 : DataW.trod enc Try.prog W base sp held n 2 [c1] = some y1 := hff 1 _ rfl
      have k2 : DataW.trod enc Try.prog W base sp held n 2 [c2] = some y2 := hff 2 _ rfl
      have k3 : DataW.trod enc Try.prog W base sp held n 25 [c3, c4, c5, c6] = some y3 := hff 3 _ rfl
      obtain ⟨z0, z1, z2, z3, m', _, h0, h1, h2, h3⟩ := trod_array4 Try.underlying25 c1i9 k3
      obtain ⟨q0, e0, _, _⟩ := DataW.trod_int Try.underlying3 k0
      obtain ⟨q1, e1, _, w1⟩ := DataW.trod_int Try.underlying2 k1
      obtain ⟨q2, e2, _, w2⟩ := DataW.trod_int Try.underlying2 k2
      obtain ⟨q3, e3, _, w3⟩ := DataW.trod_int Try.underlying2 h0
      obtain ⟨q4, e4, _, w4⟩ := DataW.trod_int Try.underlying2 h1
      obtain ⟨q5, e5, _, w5⟩ := DataW.trod_int Try.underlying2 h2
      obtain ⟨q6, e6, _, w6⟩ := DataW.trod_int Try.underlying2 h3
      simp at e0 e1 e2 e3 e4 e5 e6
      subst e0 e1 e2 e3 e4 e5 e6
      exact ⟨⟨q0, q1, q2, four9 q3 q4 q5 q6⟩, rfl, i64_of_wf w1⟩
end
end Go.Proofs.Ytgfjmafdfbghnaa

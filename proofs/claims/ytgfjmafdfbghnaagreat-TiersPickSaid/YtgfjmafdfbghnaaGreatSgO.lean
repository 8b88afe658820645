/- Texts laid together: OpenRS,Sog. -/
import Derived.Test.YtgfjmafdfbghnaaGreatSgN
import Derived.Test.YtgfjmafdfbghnaaGreatRows
import Derived.ChangeOld
import Derived.ChangeSame
import Derived.Deep.Slices
import Derived.Deep.Strs
import Derived.Laws.IdiomArrays
import Derived.Lib.SmallJoins
import Derived.OpenShut
namespace Go.Proofs.YtgfjmafdfbghnaaGreat
section
open Go.RowKit Go.ChangeShapes Go.WideShapes Go.ChangeAt Go.Joins Go.Deep
theorem add_add' (a : Addr) (h : a.spot = none) (n : Nat) : a.add n = ⟨a.block, a.off + n, none⟩ := by
  unfold Addr.add
  split
  · rename_i h0; subst h0; cases a; simp at h; subst h; rfl
  · rfl
/-- A slice whose elements read as enc tells. -/
theorem open_rs {α : Type} {k : Nat} {enc : α → List Value} {ok : α → Prop} {H : Type} {ec : TypeId × Value → H} {P : Program} {W : World} {base : Nat} {sp : Nat → Bool} {held : Bool} {r : Reach} {b0 : Nat} {T E : TypeId} {v : Value} {d : DataW H} {p : List MemPlace} [Inhabited α]
    (hT : P.underlying T = some (.slice E)) (hC : P.cellsOf E = k) (hlen : ∀ x, (enc x).length = k)
    (helem : ∀ (m : Nat) (cs : List Value) (x : DataW H × List MemPlace), cs.length = k → DataW.trod ec P W base sp held m E cs = some x → ∃ a : α, cs = enc a ∧ ok a)
    (hv : Value.okWide P W r b0 T v) (h : DataW.Trod ec P W base sp held T v d p) : ∃ l : List α, RS k enc W v l ∧ (∀ x ∈ l, ok x) ∧ ∀ b, v.ownBlock = some b → b < W.heap.size := by
  have hv' := hv
  obtain ⟨a0, len0, cap0, rfl⟩ := okWide_slice hT hv
  obtain ⟨fuel, hf⟩ := h
  rcases open_slice hT hf with ⟨hc, _⟩ | ⟨a, len, cap, m, kk, D, Pl, hc, _, hl, hm, hmm, hx, hall⟩
  · cases hc
    exact ⟨[], RS.nil _ _ _, (fun x hx => by cases hx), fun b hb => by cases hb⟩
  · cases hc
    have hlm : len0 ≤ m := by rw [hmm]; split <;> omega
    rw [hC] at hall
    have each : ∀ i, i < len0 → ∃ q : α, (∀ j u, (enc q)[j]? = some u → W.cell? ((a.add (i * k)).add j) = some u) ∧ ok q := by
      intro i hi
      obtain ⟨cs', h1, h2⟩ := hall i (by omega)
      obtain ⟨_, hl', hcell⟩ := World.cells?_some h1
      obtain ⟨q, rfl, hq⟩ := helem _ _ _ hl' h2
      refine ⟨q, fun j u hu => ?_, hq⟩
      rw [hcell j (by have := (List.getElem?_eq_some_iff.1 hu).1; rw [hlen] at this; exact this)]; exact hu
    obtain ⟨q, hq⟩ := choose_lt each
    simp only [Value.okWide, hT, Cell.okWide, Cell.ok] at hv'
    obtain ⟨_, _, _, hspot, row, cells, hsh, _⟩ := hv'
    have hb : a.block < W.heap.size := by
      rcases Nat.lt_or_ge a.block W.heap.size with h' | h'
      · exact h'
      · simp [World.shape?, Array.getElem?_eq_none h'] at hsh
    refine ⟨(List.range len0).map q, ⟨some a, cap0, by simp, by simpa using hl, hm, fun _ => ⟨a.block, a.off, by cases a; simp at hspot; subst hspot; rfl, hb, fun i hi j u hu => ?_⟩⟩, fun x hx => ?_, fun b hb2 => by cases hb2; exact hb⟩
    · have hi' : i < len0 := by simpa using hi
      have := (hq i hi').1 j u (by simpa using hu)
      rw [add_add' a hspot, add_add' _ rfl] at this
      exact this
    · obtain ⟨i, hi, rfl⟩ := List.mem_map.1 hx
      exact (hq i (List.mem_range.1 hi)).2
end
section
open Go.RowKit Go.ChangeShapes Go.WideShapes Go.ChangeAt Go.Joins Go.Deep Go.Maps
def a9enc (a : A9) : List Value := [.int .i64 a.k, .int .i64 a.i, .int .i64 a.x, .int .i64 (a.n 0), .int .i64 (a.n 1), .int .i64 (a.n 2), .int .i64 (a.n 3)]
theorem c1i9 : Tryz.prog.cellsOf 2 = 1 := by kernel_rfl
def four9 (a b c d : Int) : Nat → Int | 0 => a | 1 => b | 2 => c | _ => d
end
end Go.Proofs.YtgfjmafdfbghnaaGreat

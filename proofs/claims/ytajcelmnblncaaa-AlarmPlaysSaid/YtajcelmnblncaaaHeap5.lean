/- heap: a heap as a whole; New, Put. -/
import Derived.Test.YtajcelmnblncaaaHeap4
import Derived.Test.YtajcelmnblncaaaMixL
namespace Go.Proofs.Ytajcelmnblncaaa
open Go.RowKit Go.Maps
attribute [local go_sem] ext_cell ext_frozen extC_cell extC_frozen Mix.calmUpon Mix.mUpon
/-- Block hp is a heap: F its blocks, n how many keys, C their times, s its steps. -/
def HO (w : World) (hp : Nat) (F : Nat → Prop) (n : Nat) (C : Int → Option Int) (s : Int) : Prop :=
  ∃ M v g f, HS w hp M v n g f s ∧ PosOK n g f ∧ Hp n g ∧ con g f = C ∧ F = hF hp M v
/-- What a call on a heap leaves. -/
def HM (w w' : World) (hp : Nat) (F F' : Nat → Prop) (n : Nat) (C : Int → Option Int) (s : Int) : Prop :=
  HO w' hp F' n C s ∧ Chg F w w' ∧ ∀ k, F' k → F k ∨ w.heap.size ≤ k
theorem HO.lt {w : World} {hp : Nat} {F : Nat → Prop} {n : Nat} {C : Int → Option Int} {s : Int} (h : HO w hp F n C s) : ∀ k, F k → k < w.heap.size := by
  obtain ⟨M, v, g, f, h1, _, _, _, rfl⟩ := h; exact h1.lt
theorem HO.below {w w' : World} {hp : Nat} {F : Nat → Prop} {n : Nat} {C : Int → Option Int} {s : Int} (h : HO w hp F n C s) (hb : Below w.heap.size w w') : HO w' hp F n C s := by
  obtain ⟨M, v, g, f, h1, h2, h3, h4, h5⟩ := h; exact ⟨M, v, g, f, h1.below hb, h2, h3, h4, h5⟩
theorem HO.chg {w w' : World} {hp : Nat} {F G : Nat → Prop} {n : Nat} {C : Int → Option Int} {s : Int} (h : HO w hp F n C s) (hc : Chg G w w') (hf : ∀ k, F k → ¬ G k) : HO w' hp F n C s := by
  obtain ⟨M, v, g, f, h1, h2, h3, h4, rfl⟩ := h; exact ⟨M, v, g, f, h1.chg hc hf, h2, h3, h4, rfl⟩
theorem HO.own {w : World} {hp : Nat} {F : Nat → Prop} {n : Nat} {C : Int → Option Int} {s : Int} (h : HO w hp F n C s) : F hp := by
  obtain ⟨M, v, g, f, h1, _, _, _, rfl⟩ := h; exact .inl rfl
def updC (C : Int → Option Int) (k : Int) (t : Option Int) : Int → Option Int := fun k' => if k' = k then t else C k'
theorem makeHp (w : World) : (Instr.makeMap 69 none).run Try.prog w = .ok (.map (some w.heap.size)) (w.alloc (.map #[] 0)) := by kernel_rfl
theorem hnew (w : World) : Calls Try.prog 31 #[] w fun e w' => ∃ F, e = .returned (ptr (w.heap.size + 1)) ∧ HO w' (w.heap.size + 1) F 0 (fun _ => none) 0 ∧ Below w.heap.size w w' ∧ ∀ k, F k → w.heap.size ≤ k := by
  have hmm := makeHp
  go_enter Try.func31, Try.ntmps31
  go_wp2
  go_ret
  have h0 : (((w.alloc (.map #[] 0)).alloc (.cells #[.slice none 0 0, .map (some w.heap.size), .int .i64 0] 71))).heap[w.heap.size + 1]? = some (.cells #[.slice none 0 0, .map (some w.heap.size), .int .i64 0] 71 (0, 0)) := by
    have := heap_alloc_new (w.alloc (.map #[] 0)) (.cells #[.slice none 0 0, .map (some w.heap.size), .int .i64 0] 71)
    simpa using this
  refine ⟨_, rfl, ⟨w.heap.size, .slice none 0 0, fun _ => (0, 0), fun _ => none, ⟨h0, World.ownsRow_nil _ _ _ _, ⟨[], (MapK.made w).below (ba (Below.refl _ _) _) (by simp), fun _ => rfl⟩, by simp [Value.ownBlock], by simp [Value.ownBlock], by omega, fun i hi => by omega, by omega⟩, ⟨fun i hi => by omega, fun k i h => by cases h⟩, fun j h0 h1 => by omega, rfl, rfl⟩, ba (ba (Below.refl _ _) _) _, fun k hk => ?_⟩
  rcases hk with rfl | rfl | hk
  · omega
  · omega
  · cases hk
end Go.Proofs.Ytajcelmnblncaaa

/- The document's frameworks by a list: with. -/
import Derived.Test.YtnckjacbkhoppaaQM2
namespace Go.Proofs.Ytnckjacbkhoppaa
open Go.RowKit Go.Maps
attribute [local go_sem] ext_cell ext_frozen extC_cell extC_frozen Mix.calmUpon Mix.mUpon
/-- Where putting in by the document stands. -/
def WI (S : List On) (f : On) (t : Nat) (d : Bool) (C : List On) : Prop :=
  (d = false ∧ C = S.take t ∧ ∀ q ∈ S.take t, q.frame < f.frame) ∨ (d = true ∧ C = putO (S.take t) f ∧ ∃ q ∈ S.take t, f.frame ≤ q.frame)
theorem WI.len {S : List On} {f : On} {t : Nat} {d : Bool} {C : List On} (h : WI S f t d C) : C.length ≤ t + 1 := by
  have := List.length_take_le t S
  rcases h with ⟨_, rfl, _⟩ | ⟨_, rfl, _⟩
  · omega
  · have h2 := Srt.put_le (key := On.frame) (lt := ltO) (S.take t) f
    show (Srt.put On.frame ltO (S.take t) f).length ≤ t + 1
    omega
theorem lt_of_before {S : List On} (hS : SO S) {t : Nat} {x : On} (hx : S[t]? = some x) : ∀ q ∈ S.take t, q.frame < x.frame := by
  have e := parted_at hx
  rw [e] at hS
  intro q hq
  have := (List.pairwise_append.1 hS).2.2 q hq x List.mem_cons_self
  simpa [ltO] using this.1
/-- Whether it comes in here, and whether the one here stays. -/
theorem WI.step {S : List On} (hS : SO S) {f : On} {t : Nat} {d : Bool} {C : List On} (h : WI S f t d C) {x : On} (hx : S[t]? = some x) :
    WI S f (t + 1) (d || decide (f.frame ≤ x.frame)) ((if d = false ∧ f.frame ≤ x.frame then C ++ [f] else C) ++ (if x.frame ≠ f.frame then [x] else [])) := by
  have ht := take_at hx
  have hb := lt_of_before hS hx
  unfold WI
  rw [ht]
  rcases h with ⟨rfl, rfl, hq⟩ | ⟨rfl, rfl, q, hq1, hq2⟩
  · have hall : ∀ q ∈ S.take t, ltO f q = false ∧ q.frame ≠ f.frame := fun q hq' => by
      have := hq q hq'
      exact ⟨by simp [ltO]; omega, by omega⟩
    by_cases h1 : f.frame ≤ x.frame
    · right
      refine ⟨by simp [h1], ?_, x, by simp, h1⟩
      rw [if_pos ⟨rfl, h1⟩]
      by_cases h2 : x.frame = f.frame
      · rw [if_neg (fun e => e h2), List.append_nil]
        exact (Srt.put_over hall h2).symm
      · rw [if_pos h2]
        have h3 : Srt.put On.frame ltO (S.take t ++ [x]) f = Srt.put On.frame ltO (S.take t) f ++ [x] := Srt.put_after (by simp [ltO]; omega) h2
        show _ = Srt.put On.frame ltO (S.take t ++ [x]) f
        rw [h3, Srt.put_end hall]
    · left
      refine ⟨by simp; omega, ?_, fun q hq' => ?_⟩
      · rw [if_neg (fun e => h1 e.2), if_pos (by omega)]
      · rcases List.mem_append.1 hq' with h | h
        · exact hq q h
        · rw [List.mem_singleton.1 h]; omega
  · right
    have h1 := hb q hq1
    refine ⟨by simp, ?_, q, by simp [hq1], hq2⟩
    rw [if_neg (fun e => by cases e.1), if_pos (by omega)]
    exact (Srt.put_after (by simp [ltO]; omega) (by omega)).symm
theorem WI.fin {S : List On} {f : On} {d : Bool} {C : List On} {n : Nat} (hn : n = S.length) (h : WI S f n d C) : (if d = false then C ++ [f] else C) = putO S f := by
  unfold WI at h
  rw [hn, List.take_length] at h
  rcases h with ⟨rfl, rfl, hq⟩ | ⟨rfl, rfl, _⟩
  · rw [if_pos rfl]
    exact (Srt.put_end fun q hq' => by
      have := hq q hq'
      exact ⟨by simp [ltO]; omega, by omega⟩).symm
  · rw [if_neg (by simp)]
/-- A block that holds a list with a cap. -/
def MB (w : World) (b : Nat) (cap : Int) (v : Value) : Prop := w.heap[b]? = some (.cells #[.int .i64 cap, v] 123 (0, 0))
theorem MB.made (w : World) (cap : Int) (v : Value) : MB (w.alloc (.cells #[.int .i64 cap, v] 123)) w.heap.size cap v := heap_alloc_new w _
theorem MB.chg {F : Nat → Prop} {w w' : World} {b : Nat} {cap : Int} {v : Value} (h : MB w b cap v) (hb : Chg F w w') (hf : ¬ F b) : MB w' b cap v := (hb.block _ (Array.getElem?_eq_some_iff.1 h).1 hf).trans h
theorem MB.below {w w' : World} {b : Nat} {cap : Int} {v : Value} (h : MB w b cap v) (hb : Below w.heap.size w w') : MB w' b cap v := h.chg (.of_below (fun _ => False) hb) id
theorem MB.lt {w : World} {b : Nat} {cap : Int} {v : Value} (h : MB w b cap v) : b < w.heap.size := (Array.getElem?_eq_some_iff.1 h).1
theorem MB.cells {w : World} {b : Nat} {cap : Int} {v : Value} (h : MB w b cap v) : w.cell? ⟨b, 0, none⟩ = some (.int .i64 cap) ∧ w.cell? ⟨b, 1, none⟩ = some v := by unfold MB at h; simp [World.cell?, h]
theorem MB.fz {w : World} {b : Nat} {cap : Int} {v : Value} (h : MB w b cap v) (o : Nat) : w.frozen? ⟨b, o, none⟩ = false := by unfold MB at h; simp [World.frozen?, h]
theorem MB.set1 {w : World} {b : Nat} {cap : Int} {v : Value} (h : MB w b cap v) (v' : Value) : MB (w.setCell ⟨b, 1, none⟩ v') b cap v' := heap_setCell_at v' h
theorem MB.set2 {w : World} {b : Nat} {cap : Int} {v : Value} (h : MB w b cap v) (c' : Int) (v' : Value) : MB ((w.setCell ⟨b, 0, none⟩ (.int .i64 c')).setCell ⟨b, 1, none⟩ v') b c' v' := heap_setCell_at v' (heap_setCell_at _ h)
theorem MB.load {w : World} {b : Nat} {cap : Int} {v : Value} (h : MB w b cap v) : (loadVar 123 ⟨b, 0, none⟩).run Try.prog w = .ok (mval cap v) w := by
  obtain ⟨x0, x1⟩ := h.cells
  simp [go_sem, x0, x1]
end Go.Proofs.Ytnckjacbkhoppaa

/- The worlds of slices.SortFunc, told by lists: what a sort leaves of a row of the call's own. No program in it. -/
import Derived.Test.YtennhfkhdfalfaaRS
import Derived.Test.YtennhfkhdfalfaaSrt
import Derived.Shelf.SlSortCmp.NoneTotal
namespace Go.Proofs.Ytennhfkhdfalfaa
open Go.RowKit Go.Sort Go.Shelf
section
variable {α : Type} [Inhabited α] {enc : α → List Value} {k : Nat} {w : World}
theorem heap_sortWorldK (blk off n : Nat) (d : Array α) (os : Array Obj) (b : Nat) (hb : b < w.heap.size) (hne : b ≠ blk) : (sortWorldK enc k w blk off n d os).heap[b]? = w.heap[b]? := by
  unfold sortWorldK putRowK Go.Sort.putRow mapBlock Go.Sort.grow Go.Sort.ahead
  show (w.heap.modify blk _ ++ os)[b]? = _
  rw [Array.getElem?_append_left (by simpa using hb), Array.getElem?_modify, if_neg (Ne.symm hne)]
theorem chg_sortWorldK (blk off n : Nat) (d : Array α) (os : Array Obj) : Chg (fun b => b = blk) w (sortWorldK enc k w blk off n d os) :=
  ⟨rfl, rfl, rfl, size_sortWorldK_c enc k w blk off n d os, fun b hb hne => heap_sortWorldK blk off n d os b hb hne⟩
theorem own_holds {e base : Nat} {v : Value} {l : List α} (h : OwnL e k enc w base v l) (hk : ∀ x, (enc x).length = k) (hl : l ≠ []) :
    ∃ blk cap, v = .slice (some ⟨blk, 0, none⟩) l.toArray.size cap ∧ l.length ≤ cap ∧ cap ≤ maxLen ∧ base ≤ blk ∧ blk < w.heap.size ∧ HoldsK enc k w blk 0 l.toArray := by
  have hc := fun g hg => World.ownsRow.cells h (g := g) hg
  rcases h.2 with ⟨_, h0⟩ | ⟨b, cap, cur, rfl, h0, hg, h1, h2, h3, h4⟩
  · exact absurd (List.eq_nil_of_length_eq_zero h0) hl
  · refine ⟨b, cap, by simp, h1, h2, h0, (Array.getElem?_eq_some_iff.1 hg).1, fun t ht => ?_⟩
    have ht' : t < l.length * k := by simpa using ht
    have k0 : 0 < k := by
      rcases Nat.eq_zero_or_pos k with h | h
      · subst h; simp at ht'
      · exact h
    have hi : t / k < l.length := by rw [Nat.div_lt_iff_lt_mul k0]; exact ht'
    have hj : t % k < k := Nat.mod_lt _ k0
    refine ⟨?_, ?_⟩
    · rw [get_flatK _ _ _ _ (by simpa using ht')]
      have e1 : l.toArray[t / k]! = l[t / k] := by simp [hi]
      rw [e1]
      have hlen := hk l[t / k]
      have hjl : t % k < (enc l[t / k]).length := by rw [hlen]; exact hj
      have e2 : (enc l[t / k])[t % k]? = some (enc l[t / k])[t % k]! := by rw [List.getElem?_eq_getElem hjl]; simp [hjl]
      have := hc b rfl (t / k * k + t % k) _ ((flat_at hk l _ hi _ hj).trans e2)
      rw [Addr.add_lit, Nat.div_add_mod'] at this
      exact this
    · simp [World.frozen?, hg]
theorem holds_rs {w' : World} {blk cap : Nat} {d : Array α} (h : HoldsK enc k w' blk 0 d) (hk : ∀ x, (enc x).length = k) (h1 : d.size ≤ cap) (h2 : cap ≤ maxLen) (hb : blk < w'.heap.size) :
    RS k enc w' (.slice (some ⟨blk, 0, none⟩) d.size cap) d.toList := by
  refine ⟨_, cap, by simp, by simpa using h1, h2, fun _ => ⟨blk, 0, rfl, hb, fun i hi j u hu => ?_⟩⟩
  have hi' : i < d.size := by simpa using hi
  have hj : j < k := by
    have := (List.getElem?_eq_some_iff.1 hu).1
    rw [hk] at this; exact this
  have := (HoldsK.cell h hi' hj).1
  rw [this]
  have e1 : d[i]! = d.toList[i] := by simp [hi']
  rw [e1]
  have hjl : j < (enc d.toList[i]).length := by rw [hk]; exact hj
  rw [List.getElem?_eq_getElem hjl] at hu
  rw [← hu, getElem!_pos _ j hjl]
/-- A permutation that stands in order is the one list in order. -/
theorem sorted_srt {κ : Type} [DecidableEq κ] {key : α → κ} {lt : α → α → Bool} (O : Srt.Ord key lt) {l S : List α} {d' : Array α} (hS : Srt.In key lt S) (hp : l.Perm S) (h1 : PermIn 0 l.toArray.size l.toArray d') (h2 : SortedIn lt 0 l.toArray.size d') : d'.toList = S := by
  obtain ⟨hs, _, hpp⟩ := h1
  have e1 : (d'.extract 0 l.toArray.size).toList = d'.toList := by rw [← hs, Array.extract_size]
  have e2 : (l.toArray.extract 0 l.toArray.size).toList = l := by rw [Array.extract_size]
  rw [e1, e2] at hpp
  have hps := hpp.trans hp
  have hkeys : (S.map key).Nodup := List.pairwise_map.2 (hS.imp fun h => h.2)
  have hkd : (d'.toList.map key).Nodup := (hps.map key).nodup_iff.2 hkeys
  refine Srt.In.ext O ?_ hS fun x => hps.mem_iff
  rw [Srt.In, List.pairwise_iff_getElem]
  intro i j hi hj hij
  have hkk : key d'.toList[i] ≠ key d'.toList[j] := by
    have := List.pairwise_iff_getElem.1 hkd i j (by simpa using hi) (by simpa using hj) hij
    simpa using this
  have hi' : i < d'.size := by simpa using hi
  have hj' : j < d'.size := by simpa using hj
  have := h2 i j (Nat.zero_le _) hij (by rw [← hs]; exact hj')
  have a1 : d'[i]! = d'.toList[i] := by simp [hi']
  have a2 : d'[j]! = d'.toList[j] := by simp [hj']
  rw [a1, a2] at this
  exact ⟨O.tot _ _ this fun e => hkk e.symm, hkk⟩
end
end Go.Proofs.Ytennhfkhdfalfaa

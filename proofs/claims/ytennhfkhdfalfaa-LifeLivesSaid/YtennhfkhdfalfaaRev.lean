/- slices.Reverse at a row of the call's own. -/
import Derived.Test.YtennhfkhdfalfaaRS
import Derived.Test.YtennhfkhdfalfaaLib
namespace Go.Proofs.Ytennhfkhdfalfaa
open Go.RowKit Go.Sort Go.Shelf
section
variable {α : Type} [Inhabited α] {enc : α → List Value} {k : Nat} {w : World}
theorem chg_putRowK (blk off n : Nat) (d : Array α) : Chg (fun b => b = blk) w (putRowK enc k (Sort.ahead w n) blk off d) := by
  refine ⟨rfl, rfl, rfl, ?_, fun b hb hne => ?_⟩
  · unfold putRowK Go.Sort.putRow mapBlock Go.Sort.ahead
    simp
  · unfold putRowK Go.Sort.putRow mapBlock Go.Sort.ahead
    show (w.heap.modify blk _)[b]? = _
    rw [Array.getElem?_modify, if_neg (Ne.symm hne)]
theorem own_holdsK {e base : Nat} {v : Value} {l : List α} (h : OwnL e k enc w base v l) (hk : ∀ x, (enc x).length = k) (hl : l ≠ []) :
    ∃ blk cap, v = .slice (some ⟨blk, 0, none⟩) l.toArray.size cap ∧ l.length ≤ cap ∧ cap ≤ maxLen ∧ base ≤ blk ∧ blk < w.heap.size ∧ HoldsK enc k w blk 0 l.toArray := by
  have hc := fun g hg => World.ownsRow.cells h (g := g) hg
  rcases h.2 with ⟨_, h0⟩ | ⟨b, cap, cur, rfl, h0, hg, h1, h2, h3, h4⟩
  · exact absurd (List.eq_nil_of_length_eq_zero h0) hl
  · refine ⟨b, cap, by simp, h1, h2, h0, (Array.getElem?_eq_some_iff.1 hg).1, fun t ht => ?_⟩
    have ht' : t < l.length * k := by simpa using ht
    have k0 : 0 < k := by
      rcases Nat.eq_zero_or_pos k with h | h
      · subst h; simp at ht'
      · exact h
    have hi : t / k < l.length := by rw [Nat.div_lt_iff_lt_mul k0]; exact ht'
    have hj : t % k < k := Nat.mod_lt _ k0
    refine ⟨?_, ?_⟩
    · rw [get_flatK _ _ _ _ (by simpa using ht')]
      have e1 : l.toArray[t / k]! = l[t / k] := by simp [hi]
      rw [e1]
      have hlen := hk l[t / k]
      have hjl : t % k < (enc l[t / k]).length := by rw [hlen]; exact hj
      have e2 : (enc l[t / k])[t % k]? = some (enc l[t / k])[t % k]! := by rw [List.getElem?_eq_getElem hjl]; simp [hjl]
      have := hc b rfl (t / k * k + t % k) _ ((flat_at hk l _ hi _ hj).trans e2)
      rw [Addr.add_lit, Nat.div_add_mod'] at this
      exact this
    · simp [World.frozen?, hg]
theorem holdsK_rs {w' : World} {blk cap : Nat} {d : Array α} (h : HoldsK enc k w' blk 0 d) (hk : ∀ x, (enc x).length = k) (h1 : d.size ≤ cap) (h2 : cap ≤ maxLen) (hb : blk < w'.heap.size) :
    RS k enc w' (.slice (some ⟨blk, 0, none⟩) d.size cap) d.toList := by
  refine ⟨_, cap, by simp, by simpa using h1, h2, fun _ => ⟨blk, 0, rfl, hb, fun i hi j u hu => ?_⟩⟩
  have hi' : i < d.size := by simpa using hi
  have hj : j < k := by
    have := (List.getElem?_eq_some_iff.1 hu).1
    rw [hk] at this; exact this
  have := (HoldsK.cell h hi' hj).1
  rw [this]
  have e1 : d[i]! = d.toList[i] := by simp [hi']
  rw [e1]
  have hjl : j < (enc d.toList[i]).length := by rw [hk]; exact hj
  rw [List.getElem?_eq_getElem hjl] at hu
  rw [← hu, getElem!_pos _ j hjl]
/-- The same slice holds the reversed list. -/
theorem rev_own {P : Program} {f e base : Nat} {v : Value} {l : List α} (hk : ∀ x, (enc x).length = k) (h : OwnL e k enc w base v l) (hl : l.length ≤ 9223372036854775807)
    (hrun : ∀ blk cap (d : Array α), HoldsK enc k w blk 0 d → d.size ≤ 9223372036854775807 → Calls P f #[.slice (some ⟨blk, 0, none⟩) d.size cap] w fun e w' => e = .returned (.tuple #[]) ∧ ∃ n, w' = putRowK enc k (Sort.ahead w n) blk 0 d.reverse)
    (hempty : ∀ a cap, Calls P f #[.slice a 0 cap] w fun e w' => e = .returned (.tuple #[]) ∧ w' = w) :
    Calls P f #[v] w fun e w' => e = .returned (.tuple #[]) ∧ RS k enc w' v l.reverse ∧ Chg (fun b => v.ownBlock = some b) w w' := by
  by_cases h0 : l = []
  · subst h0
    obtain ⟨a, cap, rfl, _⟩ := (h.rs hk)
    refine (hempty a cap).mono ?_
    rintro e w' ⟨rfl, rfl⟩
    exact ⟨rfl, h.rs hk, .refl _ _⟩
  · obtain ⟨blk, cap, rfl, h1, h2, h3, h4, h5⟩ := own_holdsK h hk h0
    refine (hrun blk cap l.toArray h5 (by simpa using hl)).mono ?_
    rintro e w' ⟨rfl, n, rfl⟩
    have hc := chg_putRowK (enc := enc) (k := k) (w := w) blk 0 n l.toArray.reverse
    have ha : HoldsK enc k (Sort.ahead w n) blk 0 l.toArray := h5
    have hh := holdsK_putRowK enc k (Sort.ahead w n) blk 0 l.toArray l.toArray.reverse ha (by simp)
    have hr := holdsK_rs hh hk (by simpa using h1) h2 (Nat.lt_of_lt_of_le h4 hc.size)
    refine ⟨rfl, ?_, hc.mono fun b e => by rw [e]; rfl⟩
    simpa using hr
end
end Go.Proofs.Ytennhfkhdfalfaa

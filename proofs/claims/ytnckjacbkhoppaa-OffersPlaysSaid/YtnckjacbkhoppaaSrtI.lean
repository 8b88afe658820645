/- slices.Sort at a row of numbers of the call's own. -/
import Derived.Test.YtnckjacbkhoppaaRS
import Derived.Test.YtnckjacbkhoppaaLib
namespace Go.Proofs.Ytnckjacbkhoppaa
open Go.RowKit Go.Sort Go.Shelf
def ienc (x : Int) : List Value := [.int .i64 x]
theorem ienc_len (x : Int) : (ienc x).length = 1 := rfl
theorem isort_eq {l S : List Int} (hp : l.Perm S) (hS : S.Pairwise (· < ·)) : (l.mergeSort fun x y => decide (x ≤ y)) = S := by
  have h1 : (l.mergeSort fun x y => decide (x ≤ y)).Perm S := (List.mergeSort_perm _ _).trans hp
  have h2 : (l.mergeSort fun x y => decide (x ≤ y)).Pairwise (fun a b => decide (a ≤ b) = true) := List.pairwise_mergeSort (fun a b c h k => by simp only [decide_eq_true_eq] at *; omega) (fun a b => by simp only [Bool.or_eq_true, decide_eq_true_eq]; omega) l
  refine h1.eq_of_pairwise (le := fun a b => a ≤ b) (fun a b _ _ h k => by omega) (h2.imp fun h => by simpa using h) (hS.imp fun h => by omega)
theorem isort {w : World} {e base : Nat} {v : Value} {l S : List Int} (h : OwnL e 1 ienc w base v l) (hp : l.Perm S) (hS : S.Pairwise (· < ·)) (hl : l.length < 1000000) :
    Calls Try.prog 107 #[v] w fun e w' => e = .returned (.tuple #[]) ∧ RS 1 ienc w' v S ∧ Chg (fun b => v.ownBlock = some b) w w' := by
  have hR := h.rs ienc_len
  rcases h.2 with ⟨rfl, h0⟩ | ⟨b, cap, cur, rfl, h0, hg, h1, h2, h3, h4⟩
  · obtain rfl : l = [] := List.eq_nil_of_length_eq_zero h0
    obtain rfl : S = [] := by simpa using hp.symm
    have hcon := AnyG.slices_Sort_int_none Lb.Try.sortI none 0 w
    change Calls Try.prog 107 _ _ _ at hcon
    refine hcon.mono ?_
    rintro e w' ⟨rfl, rfl⟩
    exact ⟨rfl, hR, Chg.refl _ _⟩
  · have hb := (Array.getElem?_eq_some_iff.1 hg).1
    have hH : Holds (Value.int .i64) w b 0 l.toArray := fun j hj => by
      have hj' : j < l.length := by simpa using hj
      obtain ⟨a, n, cap', hv, -, -, -, hat⟩ := hR.at_
      cases hv
      obtain ⟨b', off', e', -, hc⟩ := hat j l[j] (List.getElem?_eq_getElem hj')
      cases e'
      have := hc 0 _ rfl
      refine ⟨?_, by simp [World.frozen?, hg]⟩
      rw [show l.toArray[j]! = l[j] by simp [hj']]
      simpa using this
    have hcon := AnyG.slices_Sort_int Lb.Try.sortI b 0 cap l w hH hb (by omega)
    change Calls Try.prog 107 _ _ _ at hcon
    refine hcon.mono ?_
    rintro e w' ⟨rfl, n, os, rfl⟩
    rw [isort_eq hp hS]
    have hsz : S.toArray.size = l.toArray.size := by simpa using hp.length_eq.symm
    have hA : Holds (Value.int .i64) (Sort.ahead w n) b 0 l.toArray := hH
    have h5 := holds_grow (Value.int .i64) _ os b 0 S.toArray (by unfold putRow mapBlock; simpa using hb) (holds_putRow (Value.int .i64) (Sort.ahead w n) b 0 l.toArray S.toArray hA hsz)
    have hchg : Chg (fun k => k = b) w (grow (putRow (Value.int .i64) (Sort.ahead w n) b 0 S.toArray) os) := by
      refine ⟨rfl, rfl, rfl, ?_, fun k hk hne => ?_⟩
      · unfold grow putRow mapBlock Sort.ahead; simp
      · unfold grow putRow mapBlock Sort.ahead
        show (w.heap.modify b _ ++ os)[k]? = _
        rw [Array.getElem?_append_left (by simpa using hk), Array.getElem?_modify, if_neg (Ne.symm hne)]
    refine ⟨rfl, ?_, hchg.mono fun k e => by rw [e]; rfl⟩
    have hlen := hp.length_eq
    refine ⟨_, cap, by rw [hlen], by omega, h2, fun _ => ⟨b, 0, rfl, Nat.lt_of_lt_of_le hb hchg.size, fun i hi j u hu => ?_⟩⟩
    have hj : j = 0 := by
      have := (List.getElem?_eq_some_iff.1 hu).1; simp [ienc] at this; exact this
    subst hj
    have := (h5 i (by simpa using hi)).1
    rw [show S.toArray[i]! = S[i] by simp [hi]] at this
    simp [ienc] at hu
    rw [← hu]
    simpa using this
end Go.Proofs.Ytnckjacbkhoppaa

/- Texts laid together: Soh,Soi,Soj. -/
import Derived.Test.YtgfjmafdfbghnaaGreatSgO
namespace Go.Proofs.YtgfjmafdfbghnaaGreat
section
open Go.RowKit Go.Maps
def nn (a : Int) : Nat → Int | 0 => a | _ => 0
def Gw0 : Int → Option Cl := fun _ => none
def Gw1 : Int → Option Cl := upd Gw0 1 (some (clN 1))
def Gw2 : Int → Option Cl := upd Gw1 2 (some (clN 3))
def cw1 : Cl := { clN 1 with s := fun k => (clN 1).s k + nn 4 k }
def cw2 : Cl := { clN 3 with s := fun k => (clN 3).s k + nn 9 k }
def Gw3 : Int → Option Cl := upd Gw2 1 (some cw1)
def Gw4 : Int → Option Cl := upd Gw3 2 (some cw2)
theorem sm_nn {a : Int} (h0 : 0 ≤ a) (h1 : a ≤ 9007199254740992) : Sm4 (nn a) := fun k _ => by
  unfold nn; split
  · exact ⟨h0, h1⟩
  · exact ⟨by decide, by decide⟩
theorem sok_nn {a : Int} (h0 : 0 ≤ a) (h1 : a ≤ 9007199254740992) : SOk (nn a) := (sm_nn h0 h1).ok
theorem ew1 : stT (fun _ => 0) Gw0 (nn 10) = (0, nn 10, Gw0) := by unfold stT; rw [if_pos (sm_nn (by decide) (by decide))]
theorem ew2 : stP (nn 10) Gw0 1 1 = (0, nn 10, Gw1) := by unfold stP; rw [if_pos (by decide)]; rfl
theorem ew3 : stP (nn 10) Gw1 2 3 = (0, nn 10, Gw2) := by unfold stP; rw [if_pos (by decide)]; rfl
theorem gv_z {x a : Int} (h0 : 0 ≤ a) (h1 : a ≤ 9007199254740992) : Gv (clN x).s (nn a) := ⟨sok_nn h0 h1, fun k hk => by have := sm_nn h0 h1 k hk; simp [clN]; exact this⟩
theorem gw2_1 : Gw2 1 = some (clN 1) := by simp [Gw2, Gw1, upd]
theorem gw3_2 : Gw3 2 = some (clN 3) := by simp [Gw3, Gw2, upd]
theorem ew4 : stG (nn 10) Gw2 1 (nn 4) = (0, nn 10, Gw3) := by
  unfold stG; rw [gw2_1]; simp only; rw [if_pos (gv_z (by decide) (by decide))]; rfl
theorem ew5 : stG (nn 10) Gw3 2 (nn 9) = (0, nn 10, Gw4) := by
  unfold stG; rw [gw3_2]; simp only; rw [if_pos (gv_z (by decide) (by decide))]; rfl
theorem ew6 : stP (nn 10) Gw4 1 1 = (42, nn 10, Gw4) := by
  unfold stP; rw [if_pos (by decide)]
  have : Gw4 1 = some cw1 := by simp [Gw4, Gw3, upd]
  rw [this]
theorem dw1 : domV cw1.s (nn 10) = (0, 4, 10) := by decide
theorem dw2 : domV cw2.s (nn 10) = (0, 9, 10) := by decide
theorem pw1 : plOf (nn 10) 1 cw1 = ⟨4, 10, 1, 1⟩ := by unfold plOf; rw [dw1]; rfl
theorem pw2 : plOf (nn 10) 2 cw2 = ⟨9, 10, 3, 2⟩ := by unfold plOf; rw [dw2]; rfl
theorem gw4 (i : Int) : Gw4 i = if i = 2 then some cw2 else if i = 1 then some cw1 else none := by
  unfold Gw4 Gw3 Gw2 Gw1 Gw0 upd
  split
  · rfl
  · split <;> rfl
/-- The order that works asks for. -/
theorem s9w {X : List Pl} (h : S9 (nn 10) Gw4 X) : X = [⟨9, 10, 3, 2⟩, ⟨4, 10, 1, 1⟩] := by
  have j1 := h.jh (i := 1) (c := cw1) (by rw [gw4]; rfl)
  have j2 := h.jh (i := 2) (c := cw2) (by rw [gw4]; rfl)
  rw [pw1] at j1; rw [pw2] at j2
  refine SL.uniq (OA_JH (HG (nn 10) Gw4)) h.sl ⟨fun x hx => ?_, ?_⟩ fun p => ?_
  · simp at hx
    rcases hx with rfl | rfl
    · exact j2
    · exact j1
  · simp only [List.pairwise_cons, List.mem_singleton, forall_eq, List.not_mem_nil, false_implies, implies_true, List.Pairwise.nil, and_true]
    rw [plo_lt]
    left
    unfold scmp
    rw [if_pos ⟨j2.1, j1.1⟩]
    decide
  · rw [h.mem p, gw4]
    constructor
    · rintro ⟨c, hc, _, hp⟩
      split at hc
      · rename_i e; cases hc; rw [e, pw2] at hp; simp [hp]
      · split at hc
        · rename_i e; cases hc; rw [e, pw1] at hp; simp [hp]
        · cases hc
    · intro hp
      simp at hp
      rcases hp with rfl | rfl
      · exact ⟨cw2, rfl, rfl, pw2.symm⟩
      · exact ⟨cw1, rfl, rfl, pw1.symm⟩
end
section
open Go.RowKit Go.Maps
attribute [local go_sem] ext_cell ext_frozen extC_cell extC_frozen Mix.calmUpon Mix.mUpon
/-- A sorter of the call's own. -/
def RB (W : World) (sp M : Nat) (T : Nat → Int) (G : Int → Option Cl) (w : World) : Prop := ∃ tp X, SM w sp M tp T G X ∧ S9 T G X ∧ Below W.heap.size W w ∧ W.heap.size ≤ sp ∧ W.heap.size ≤ M ∧ W.heap.size ≤ tp
theorem RD.rb {W w w' : World} {sp M tp : Nat} {s : St} {e : Ending} (hb : Below W.heap.size W w) (h1 : W.heap.size ≤ sp) (h2 : W.heap.size ≤ M) (h3 : W.heap.size ≤ tp) (h : RD sp M tp s w e w') : e = .returned (.int .i64 s.1) ∧ RB W sp M s.2.1 s.2.2 w' := by
  obtain ⟨he, tq, X, h4, h5, h6, h7⟩ := h
  refine ⟨he, tq, X, h4, h5, hb.trans (h6.below hb.size fun k e => by rcases e with e | e | e <;> omega), h1, h2, ?_⟩
  have := hb.size
  rcases h7 with h7 | h7 <;> omega
theorem RB.below {W w w' : World} {sp M : Nat} {T : Nat → Int} {G : Int → Option Cl} (h : RB W sp M T G w) (hb : Below w.heap.size w w') : RB W sp M T G w' := by
  obtain ⟨tp, X, h1, h2, h3, h4⟩ := h
  exact ⟨tp, X, h1.below hb, h2, bt h3 hb, h4⟩
theorem few0 : Few Gw0 0 := ⟨[], fun i h => by simp [Gw0] at h, by simp⟩
theorem few1 : Few Gw1 1 := few0.upd _ _
theorem few2 : Few Gw2 2 := few1.upd _ _
theorem few3 : Few Gw3 3 := few2.upd _ _
theorem few4 : Few Gw4 4 := few3.upd _ _
end
section
open Go.RowKit Go.Maps
/-- S: all clients, each once, at most m. -/
def KS9 (G : Int → Option Cl) (m : Nat) : Prop := ∃ S : List Int, S.Nodup ∧ (∀ i, i ∈ S ↔ (G i).isSome = true) ∧ S.length ≤ m
section
variable {T n : Nat → Int} {G : Int → Option Cl} {m : Nat} {i : Int}
theorem KS9.few (h : KS9 G m) : Few G m := by obtain ⟨S, _, h2, h3⟩ := h; exact ⟨S, fun i hi => (h2 i).2 hi, h3⟩
theorem KS9.more (h : KS9 G m) : KS9 G (m + 1) := by obtain ⟨S, h1, h2, h3⟩ := h; exact ⟨S, h1, h2, by omega⟩
theorem KS9.set (h : KS9 G m) (c : Cl) : KS9 (upd G i (some c)) (m + 1) := by
  obtain ⟨S, h1, h2, h3⟩ := h
  by_cases hi : i ∈ S
  · refine ⟨S, h1, fun j => ?_, by omega⟩
    by_cases e : j = i
    · subst e; simp [upd_at, hi]
    · rw [upd_ne e]; exact h2 j
  · refine ⟨i :: S, List.nodup_cons.2 ⟨hi, h1⟩, fun j => ?_, by simp; omega⟩
    by_cases e : j = i
    · subst e; simp [upd_at]
    · rw [upd_ne e, List.mem_cons, h2 j]; simp [e]
theorem KS9.out (h : KS9 G m) : KS9 (upd G i none) m := by
  obtain ⟨S, h1, h2, h3⟩ := h
  refine ⟨S.erase i, h1.erase i, fun j => ?_, Nat.le_trans (List.length_erase_le ..) h3⟩
  by_cases e : j = i
  · subst e
    rw [upd_at]
    simp [h1.not_mem_erase]
  · rw [upd_ne e, List.mem_erase_of_ne e]; exact h2 j
theorem KS9.stp (h : KS9 G m) (a : A9) : KS9 (stp T G a).2.2 (m + 1) := by
  unfold Proofs.YtgfjmafdfbghnaaGreat.stp
  split
  · unfold stT; split <;> exact h.more
  split
  · unfold stP
    split
    · cases hg : G a.i with
      | none => exact h.set _
      | some c => exact h.more
    · exact h.more
  split
  · unfold stD
    cases hg : G a.i with
    | none => exact h.more
    | some c => exact h.out.more
  split
  · unfold stW
    cases hg : G a.i with
    | none => exact h.more
    | some c =>
      simp only
      split
      · exact h.set _
      · exact h.more
  split
  · unfold stA
    cases hg : G a.i with
    | none => exact h.more
    | some c => exact h.set _
  split
  · unfold stA
    cases hg : G a.i with
    | none => exact h.more
    | some c => exact h.set _
  split
  · unfold stG
    cases hg : G a.i with
    | none => exact h.more
    | some c =>
      simp only
      split
      · exact h.set _
      · exact h.more
  · unfold stK
    cases hg : G a.i with
    | none => exact h.more
    | some c =>
      simp only
      split
      · exact h.set _
      · exact h.more
theorem KS9.nil : KS9 (fun _ => none) 0 := ⟨[], List.nodup_nil, fun i => by simp, by simp⟩
end
end
end Go.Proofs.YtgfjmafdfbghnaaGreat

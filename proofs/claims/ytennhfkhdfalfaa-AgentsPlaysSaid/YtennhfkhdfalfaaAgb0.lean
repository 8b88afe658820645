/- agents, plainly: what taking and giving back leaves; what an act leaves of the sums. -/
import Derived.Test.YtennhfkhdfalfaaAg9
namespace Go.Proofs.Ytennhfkhdfalfaa
open Go.RowKit Go.Maps
theorem sub_add {a b c : List Pt} (h : mrg gSub a b = some c) : mrg gAdd c b = some a := by
  obtain ⟨ha, hb, hc, hg⟩ := mrg_some gSub0 gSubB h
  have hv : ∀ k r, gt a k r = gt c k r + gt b k r := fun k r => by
    have h1 := hg k r; unfold gSub at h1; split at h1
    · have := Option.some.inj h1; omega
    · cases h1
  obtain ⟨l, hl⟩ := mrg_of gAdd0 gAddB hc hb fun k r h => by
    have := gt_nn ha k r; have := hv k r
    unfold gAdd at h; rw [if_pos (by omega)] at h; cases h
  obtain ⟨_, _, hlv, hlg⟩ := mrg_some gAdd0 gAddB hl
  rw [hl, vr_ext hlv ha fun k r => ?_]
  have h1 := hlg k r
  have := gt_nn ha k r; have := hv k r
  unfold gAdd at h1; rw [if_pos (by omega)] at h1
  have := Option.some.inj h1; omega
theorem take_give {cap most : Int} {S : List Pa} (h : AIn cap most S) {k : Int} {v : List Pt} (he : takeE S k v = 0) :
    giveE (takeP S k v) k v = 0 ∧ giveP (takeP S k v) k v = S ∧ VR v ∧ ∀ j, sumA freA (takeP S k v) j + kS v j = sumA freA S j := by
  unfold takeE at he
  cases hf : fndA S k with
  | none => rw [hf] at he; exact absurd (show (43 : Int) = 0 from he) (by decide)
  | some x =>
    rw [hf] at he
    simp only at he
    cases hm : mrg gSub x.2.2 v with
    | none => rw [hm] at he; exact absurd (show (30 : Int) = 0 from he) (by decide)
    | some r =>
      have hx := Srt.fnd_mem hf
      have hxk : x.1 = k := hx.2
      have hok := h.ok x hx.1
      have hP : takeP S k v = putA S (k, x.2.1, r) := by unfold takeP; rw [hf]; simp only; rw [hm]
      have hf2 : fndA (putA S (k, x.2.1, r)) k = some (k, x.2.1, r) := by
        have := Srt.fnd_put (key := akey) (lt := altP) S (k, x.2.1, r) k
        unfold fndA putA; rw [this, if_pos rfl]
      have ha := sub_add hm
      have hs : (mrg gSub x.2.1 x.2.2).isSome = true := (sub_iff _ _).2 hok.ho
      refine ⟨?_, ?_, (mrg_some gSub0 gSubB hm).2.1, fun j => ?_⟩
      · rw [hP]; unfold giveE; rw [hf2]; simp only; rw [ha]; simp only; rw [if_pos hs]
      · rw [hP]; unfold giveP; rw [hf2]; simp only; rw [ha]; simp only; rw [if_pos hs]
        refine Srt.In.ext_fnd ordA ((h.srt.put ordA _).put ordA _) h.srt fun j => ?_
        rw [Srt.fnd_put, Srt.fnd_put]
        by_cases hj : k = j
        · subst hj
          rw [if_pos rfl]
          refine Eq.trans ?_ hf.symm
          rw [← hxk]
        · rw [if_neg hj, if_neg hj]
      · rw [hP]
        have h1 := sumA_old freA j h.srt (x := (k, x.2.1, r)) (y := x) hf
        have h2 := kS_sub hm j
        have e1 : freA (k, x.2.1, r) = r := rfl
        have e2 : freA x = x.2.2 := rfl
        rw [e1, e2] at h1; omega
/-- Whatever is done: the sums change only if the number of agents does. -/
theorem do_sums {cap most : Int} {S : List Pa} (h : AIn cap most S) (a : Aa) (hl : (doP cap most S a).length = S.length) : ∀ j, j < 4 → sumA totA (doP cap most S a) j = sumA totA S j := by
  intro j hj
  have key : ∀ {k : Int} {x : Pa} {t : List Pt} {r : List Pt}, fndA S k = some x → (∀ j, j < 4 → kS t j = kS x.2.1 j) → sumA totA (putA S (k, t, r)) j = sumA totA S j := fun {k x t r} hf hs => by
    have h1 := sumA_old totA j h.srt (x := (k, t, r)) (y := x) hf
    have h2 := hs j hj
    have e1 : totA (k, t, r) = t := rfl
    have e2 : totA x = x.2.1 := rfl
    rw [e1, e2] at h1; omega
  unfold doP at hl ⊢
  split
  · rename_i h0
    rw [if_pos h0] at hl
    unfold regP at hl ⊢
    split
    · rename_i h1
      rw [if_pos h1] at hl
      cases hf : fndA S a.id with
      | some x => rfl
      | none =>
        rw [hf] at hl
        simp only at hl ⊢
        split
        · rfl
        · rename_i h2
          rw [if_neg h2] at hl
          split
          · rfl
          · rename_i h3
            rw [if_neg h3] at hl
            have := Srt.put_len_new (key := akey) (lt := altP) (l := S) (x := (a.id, a.vs, a.vs)) hf
            unfold putA at hl; omega
    · rfl
  · rename_i h0
    rw [if_neg h0] at hl
    split
    · rename_i h1
      rw [if_pos h1] at hl
      cases hf : fndA S a.id with
      | none => rw [show delA S a.id = S from Srt.del_same hf]
      | some x =>
        have := Srt.del_len h.srt hf
        unfold delA at hl; omega
    · split
      · unfold takeP
        cases hf : fndA S a.id with
        | none => rfl
        | some x =>
          simp only
          cases hm : mrg gSub x.2.2 a.vs with
          | none => rfl
          | some r => exact key hf fun _ _ => rfl
      · split
        · unfold giveP
          cases hf : fndA S a.id with
          | none => rfl
          | some x =>
            simp only
            cases hm : mrg gAdd x.2.2 a.vs with
            | none => rfl
            | some r =>
              simp only
              split
              · exact key hf fun _ _ => rfl
              · rfl
        · unfold turnP
          cases hf : fndA S a.id with
          | none => rfl
          | some x =>
            simp only
            cases hm : mrg gAdd x.2.2 a.us with
            | none => rfl
            | some r =>
              simp only
              split
              · split
                · rename_i h5
                  exact key hf (sameK_iff.1 h5)
                · rfl
              · rfl
theorem do_len {cap most : Int} {S : List Pa} (a : Aa) : (doP cap most S a).length ≤ S.length + 1 := by
  have key : ∀ x, (putA S x).length ≤ S.length + 1 := fun x => Srt.put_le (key := akey) (lt := altP) S x
  unfold doP
  split
  · unfold regP; split
    · split
      · omega
      · split
        · omega
        · split
          · omega
          · exact key _
    · omega
  · split
    · exact Nat.le_trans (List.length_filter_le _ _) (Nat.le_succ _)
    · split
      · unfold takeP; split
        · omega
        · split
          · omega
          · exact key _
      · split
        · unfold giveP; split
          · omega
          · split
            · omega
            · split
              · exact key _
              · omega
        · unfold turnP; split
          · omega
          · split
            · omega
            · split
              · split
                · exact key _
                · omega
              · omega
/-- What is free of all has no more of a kind than what all have. -/
theorem free_le {cap most : Int} {S : List Pa} (h : AIn cap most S) (n j : Nat) : 0 ≤ sumA freA (S.take n) j ∧ sumA freA (S.take n) j ≤ sumA totA S j := by
  have hkl : ∀ {a b : List Pt}, HLD a b → kS b j ≤ kS a j := fun {a b} hh => by
    obtain ⟨c, hc⟩ := Option.isSome_iff_exists.1 ((sub_iff a b).2 hh)
    have h1 := kS_sub hc j
    have h2 := kS_nn (mrg_some gSub0 gSubB hc).2.2.1 j
    omega
  have key : ∀ (n : Nat) (S : List Pa), (∀ x ∈ S, PaOk x) → 0 ≤ sumA freA (S.take n) j ∧ sumA freA (S.take n) j ≤ sumA totA S j := by
    intro n
    induction n with
    | zero => intro S hS; exact ⟨Int.le_refl _, sumA_nn (f := totA) j fun x hx => (hS x hx).vt⟩
    | succ n ih =>
      intro S hS
      cases S with
      | nil => exact ⟨Int.le_refl _, Int.le_refl _⟩
      | cons x t =>
        rw [List.take_succ_cons, sumA_cons, sumA_cons]
        have h1 := ih t fun y hy => hS y (List.mem_cons_of_mem _ hy)
        have h2 := hkl (hS x List.mem_cons_self).ho
        have h3 := kS_nn (hS x List.mem_cons_self).vf j
        have e1 : freA x = x.2.2 := rfl
        have e2 : totA x = x.2.1 := rfl
        rw [e1, e2]
        omega
  exact key n S h.ok
theorem sumA_take {f : Pa → List Pt} {S : List Pa} {t : Nat} {x : Pa} (h : S[t]? = some x) (j : Nat) : sumA f (S.take (t + 1)) j = sumA f (S.take t) j + kS (f x) j := by
  unfold sumA
  rw [List.take_add_one, h, List.map_append, List.sum_append]
  simp
theorem AIn.fsok {cap most : Int} {S : List Pa} (h : AIn cap most S) (n : Nat) : SOk (sumA freA (S.take n)) := sok_all fun j hj => by
  have h1 := free_le h n j
  have h2 := h.ms j hj
  have h3 := h.m1.2
  unfold KOk
  omega
end Go.Proofs.Ytennhfkhdfalfaa

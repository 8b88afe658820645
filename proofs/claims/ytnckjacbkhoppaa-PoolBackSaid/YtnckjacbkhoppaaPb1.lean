/- pool: turned and turned back; launched twice. -/
import Derived.Test.YtnckjacbkhoppaaPb0
namespace Go.Proofs.Ytnckjacbkhoppaa
open Go.RowKit
attribute [local go_sem] ext_cell ext_frozen Mix.calmUpon Mix.mUpon
theorem sl_mem {l : List Pt} {k r : Int} (h : sl l k r ≠ 0) : ∃ p ∈ l, p.1 = k ∧ p.2.1 = r := by
  induction l with
  | nil => exact absurd rfl h
  | cons p t ih =>
    rw [sl] at h
    by_cases hp : p.1 = k ∧ p.2.1 = r
    · exact ⟨p, by simp, hp⟩
    · rw [if_neg hp, Int.zero_add] at h
      obtain ⟨q, hq, h2⟩ := ih h
      exact ⟨q, by simp [hq], h2⟩
theorem ofV_mem {l : List Pt} (h : OfOk l) {p : Pt} (hp : p ∈ ofV l) : ∃ q ∈ l, q.2.1 = p.2.1 := by
  have h1 := (gt_pos (k := p.1) (r := p.2.1) (ofV_vr h)).2 ⟨p, hp, rfl, rfl⟩
  rw [ofV_gt h] at h1
  obtain ⟨q, hq, _, h2⟩ := sl_mem (l := l) (k := p.1) (r := p.2.1) (by omega)
  exact ⟨q, hq, h2⟩
theorem mvO_some {S T : List Pt} {f t : Int} (h : mvO S f t = some T) : VR S ∧ LOk 0 f ∧ LOk 0 t ∧ VR T ∧ (∀ k r, gt T k r = sl (S.map (ren f t)) k r) ∧ ∀ p ∈ T, ∃ q ∈ S.map (ren f t), q.2.1 = p.2.1 := by
  unfold mvO at h
  split at h
  · rename_i h0
    unfold ofO at h
    split at h
    · rename_i h1
      have e := Option.some.inj h
      exact ⟨h0.1, h0.2.1, h0.2.2, e ▸ ofV_vr h1, fun k r => e ▸ ofV_gt h1 k r, fun p hp => ofV_mem h1 (e ▸ hp)⟩
    · cases h
  · cases h
theorem gt_role {l : List Pt} {f : Int} (h : ∀ p ∈ l, p.2.1 = f) {k r : Int} (hr : r ≠ f) : gt l k r = 0 := gt_none fun x hx e => hr (by rw [← e.2]; exact h x hx)
theorem mv_back {S T : List Pt} {role : Int} (h : mvO S 0 role = some T) (hS : ∀ p ∈ S, p.2.1 = 0) : VR T ∧ (∀ p ∈ T, p.2.1 = role) ∧ mvO T role 0 = some S := by
  obtain ⟨hv, h0, hr, hTv, hTg, hTm⟩ := mvO_some h
  have hT : ∀ p ∈ T, p.2.1 = role := fun p hp => by
    obtain ⟨q, hq, e⟩ := hTm p hp
    obtain ⟨s, hs, rfl⟩ := List.mem_map.1 hq
    rw [← e, show ren 0 role s = (s.1, role, s.2.2) from if_pos (hS s hs)]
  refine ⟨hTv, hT, ?_⟩
  obtain ⟨m, hm, hmv, -⟩ := mv_all hTv hT hr h0
  rw [hm]
  obtain ⟨_, _, _, _, hmg, _⟩ := mvO_some hm
  refine congrArg some (vr_ext hmv hv fun k r => ?_)
  rw [hmg, sl_ren hT]
  split
  · rename_i hz
    rw [sl_gt hTv, hTg, sl_ren hS, if_pos rfl, sl_gt hv, hz]
  · rename_i hz
    exact (gt_role hS hz).symm
theorem sub_add {a b c : List Pt} (h : mrg gSub a b = some c) : mrg gAdd c b = some a := by
  obtain ⟨ha, hb, hc, hg⟩ := mrg_some gSub0 gSubB h
  have e : ∀ k r, gt c k r + gt b k r = gt a k r := fun k r => by
    have := hg k r
    unfold gSub at this
    split at this
    · have := Option.some.inj this; omega
    · cases this
  obtain ⟨m, hm⟩ := mrg_of gAdd0 gAddB hc hb fun k r hn => by
    unfold gAdd at hn
    rw [e] at hn
    rw [if_pos (gt_nn ha k r).2] at hn; cases hn
  obtain ⟨_, _, hmv, hmg⟩ := mrg_some gAdd0 gAddB hm
  rw [hm]
  refine congrArg some (vr_ext hmv ha fun k r => ?_)
  have := hmg k r
  unfold gAdd at this
  rw [e, if_pos (gt_nn ha k r).2] at this
  exact (Option.some.inj this).symm
/-- What is of the role 0. -/
def zer (l : List Pt) : List Pt := flt (fun x => decide (x = 0)) l
theorem zer_all {l : List Pt} (h : (zer l).length = l.length) : ∀ p ∈ l, p.2.1 = 0 := fun p hp => by
  have := List.length_filter_eq_length_iff.1 h p hp
  simpa using this
theorem back_one {P S T : List Pt} {role : Int} (h : mvO S 0 role = some T) : ((runS P role [(2, 0, S), (3, 0, T)]).2 = 0 → (runS P role [(2, 0, S), (3, 0, T)]).1 = P) ∧ ((runS P role [(2, 0, S), (3, 0, T)]).2 = 30 → (mrg gSub P S).isSome = false) ∧ ((runS P role [(2, 0, S), (3, 0, T)]).2 = 27 → (zer S).length ≠ S.length) := by
  by_cases hS : ∀ p ∈ S, p.2.1 = 0
  · obtain ⟨hTv, hT, hback⟩ := mv_back h hS
    have hfor : forB role [(2, 0, S), (3, 0, T)] = false := by
      unfold forB
      rw [List.any_eq_false]
      intro o ho
      rw [Bool.not_eq_true]
      unfold forO
      rw [List.any_eq_false]
      intro p hp
      rw [Bool.not_eq_true]
      rcases List.mem_cons.1 ho with rfl | ho
      · have := hS p hp
        simp [forP, this]
      · rw [List.mem_singleton.1 ho] at hp ⊢
        have := hT p hp
        simp [forP, this]
    have hex : exS role P [(2, 0, S), (3, 0, T)] = (match mrg gSub P S with | none => ([], 30) | some _ => if (tuS P S 0 role).2 = 0 then (P, 0) else tuS P S 0 role) := by
      rw [exS, show stS role P 2 S = tuS P S 0 role from rfl]
      cases h1 : mrg gSub P S with
      | none =>
        have : tuS P S 0 role = ([], 30) := by unfold tuS; rw [h1]
        rw [this]; rfl
      | some r =>
        show _ = if (tuS P S 0 role).2 = 0 then (P, 0) else tuS P S 0 role
        by_cases hz : (tuS P S 0 role).2 = 0
        · rw [if_pos hz, if_pos hz]
          have h2 : tuS P S 0 role = (match mrg gAdd r T with | none => ([], 31) | some s => (s, 0)) := by unfold tuS; rw [h1, h]; rfl
          cases h3 : mrg gAdd r T with
          | none => rw [h2, h3] at hz; cases hz
          | some s =>
            rw [h2, h3]
            show exS role s [(3, 0, T)] = (P, 0)
            rw [exS, show stS role s 3 T = tuS s T role 0 from rfl]
            have h4 : tuS s T role 0 = (P, 0) := by
              unfold tuS
              rw [(add_sub h3).1, hback]
              show (match mrg gAdd r S with | none => (([] : List Pt), (31 : Int)) | some s => (s, 0)) = (P, 0)
              rw [sub_add h1]
            rw [h4]; rfl
        · rw [if_neg hz, if_neg hz]
    unfold runS
    split
    · rename_i hc
      rw [hex]
      cases h1 : mrg gSub P S with
      | none =>
        refine ⟨fun e => ?_, fun _ => rfl, fun e => ?_⟩
        · have e : (30 : Int) = 0 := e
          cases e
        · have e : (30 : Int) = 27 := e
          cases e
      | some r =>
        show ((if (tuS P S 0 role).2 = 0 then (P, 0) else tuS P S 0 role).2 = 0 → (if (tuS P S 0 role).2 = 0 then (P, 0) else tuS P S 0 role).1 = P) ∧ ((if (tuS P S 0 role).2 = 0 then (P, 0) else tuS P S 0 role).2 = 30 → (some r).isSome = false) ∧ ((if (tuS P S 0 role).2 = 0 then (P, 0) else tuS P S 0 role).2 = 27 → (zer S).length ≠ S.length)
        by_cases hz : (tuS P S 0 role).2 = 0
        · rw [if_pos hz]
          exact ⟨fun _ => rfl, fun e => (by simp at e), fun e => (by simp at e)⟩
        · rw [if_neg hz]
          have h2 : tuS P S 0 role = (match mrg gAdd r T with | none => ([], 31) | some s => (s, 0)) := by unfold tuS; rw [h1, h]; rfl
          cases h3 : mrg gAdd r T with
          | none => rw [h2, h3]; exact ⟨fun e => (by simp at e), fun e => (by simp at e), fun e => (by simp at e)⟩
          | some s => rw [h2, h3] at hz; exact absurd rfl hz
    · rename_i hc
      refine ⟨fun e => absurd e hc, fun e => ?_, fun e => ?_⟩
      · exfalso
        have e : chkE P role [(2, 0, S), (3, 0, T)] = 30 := e
        unfold chkE at e
        rw [hfor] at e
        split at e
        · split at e <;> cases e
        · cases e
      · exfalso
        have e : chkE P role [(2, 0, S), (3, 0, T)] = 27 := e
        unfold chkE at e
        rw [hfor] at e
        split at e
        · split at e <;> cases e
        · cases e
  · refine ⟨?_, ?_, fun _ e => hS (zer_all e)⟩
    all_goals
      intro e
      exfalso
      have hfor : forB role [(2, 0, S), (3, 0, T)] = true := by
        have : ∃ p ∈ S, p.2.1 ≠ 0 := by
          by_cases hx : ∃ p ∈ S, p.2.1 ≠ 0
          · exact hx
          · exact absurd (fun p hp => Classical.byContradiction fun hn => hx ⟨p, hp, hn⟩) hS
        obtain ⟨p, hp, hn⟩ := this
        unfold forB
        rw [List.any_cons]
        have : forO role (2, 0, S) = true := List.any_eq_true.2 ⟨p, hp, by simp [forP, hn]⟩
        rw [this]; rfl
      have hc : chkE P role [(2, 0, S), (3, 0, T)] = 27 ∨ chkE P role [(2, 0, S), (3, 0, T)] = 41 := by
        unfold chkE
        rw [hfor]
        split
        · split
          · exact .inl rfl
          · exact .inr rfl
        · exact .inr rfl
      unfold runS at e
      rw [if_neg (by rcases hc with hc | hc <;> rw [hc] <;> decide)] at e
      have e : chkE P role [(2, 0, S), (3, 0, T)] = _ := e
      rcases hc with hc | hc <;> rw [hc] at e <;> cases e
theorem once_two {P S : List Pt} {role : Int} (h : (runS P role [(1, 1, S)]).2 = 0) : ((runS P role [(1, 1, S), (1, 2, S)]).2 = 0 ↔ (mrg gSub (runS P role [(1, 1, S)]).1 S).isSome = true) := by
  have hc : chkE P role [(1, 1, S), (1, 2, S)] = chkE P role [(1, 1, S)] := by
    have h1 : [((1 : Int), (1 : Int), S), (1, 2, S)].all okO = [((1 : Int), (1 : Int), S)].all okO := by
      simp only [List.all_cons, List.all_nil, Bool.and_true]
      show (okO (1, 1, S) && okO (1, 1, S)) = _
      cases okO (1, 1, S) <;> rfl
    have h2 : forB role [(1, 1, S), (1, 2, S)] = forB role [(1, 1, S)] := by
      unfold forB
      simp only [List.any_cons, List.any_nil, Bool.or_false]
      show (forO role (1, 1, S) || forO role (1, 1, S)) = _
      cases forO role (1, 1, S) <;> rfl
    unfold chkE
    rw [h1, h2]
  unfold runS at h ⊢
  rw [hc]
  split at h
  · rename_i h0
    rw [if_pos h0, if_pos h0]
    have hw : ∀ Q : List Pt, stS role Q 1 S = wo Q S := fun Q => rfl
    rw [exS, hw] at h
    cases h1 : mrg gSub P S with
    | none =>
      have e : wo P S = ([], 30) := by unfold wo; rw [h1]
      rw [e] at h; cases h
    | some r =>
      have e : wo P S = (r, 0) := by unfold wo; rw [h1]
      have e1 : exS role P [(1, 1, S)] = (r, 0) := by rw [exS, hw, e]; rfl
      have e2 : exS role P [(1, 1, S), (1, 2, S)] = exS role r [(1, 2, S)] := by rw [exS, hw, e]; rfl
      rw [e1, e2]
      show (exS role r [(1, 2, S)]).2 = 0 ↔ (mrg gSub r S).isSome = true
      rw [exS, show stS role r 1 S = wo r S from rfl]
      cases h2 : mrg gSub r S with
      | none =>
        have e : wo r S = ([], 30) := by unfold wo; rw [h2]
        rw [e]; exact ⟨fun h => (by simp at h), fun h => (by simp at h)⟩
      | some q =>
        have e : wo r S = (q, 0) := by unfold wo; rw [h2]
        rw [e]; exact ⟨fun _ => rfl, fun _ => rfl⟩
  · rename_i h0
    exact absurd h h0
end Go.Proofs.Ytnckjacbkhoppaa

/- life: what a history's lives are. No program in it. -/
import Derived.Test.YtennhfkhdfalfaaLfD
namespace Go.Proofs.Ytennhfkhdfalfaa
theorem nxt_last (s : HS) (e : Ev) : (nxt s e).last = if e.kind = 6 then e.id else s.last := by
  unfold nxt
  by_cases h1 : e.kind = 1 ∨ e.kind = 2
  · rw [if_pos h1, if_neg (by omega)]; unfold hostN; split <;> rfl
  rw [if_neg h1]
  by_cases h2 : 3 ≤ e.kind ∧ e.kind ≤ 5
  · rw [if_pos h2, if_neg (by omega)]; unfold comeN; split
    · rfl
    · split <;> rfl
  rw [if_neg h2]
  by_cases h3 : e.kind = 6
  · rw [if_pos h3, if_pos h3]; rfl
  rw [if_neg h3, if_neg h3]
  split
  · rfl
  split
  · rfl
  split <;> rfl
theorem nxt_of (s : HS) (e : Ev) : (nxt s e).of = if e.kind = 6 then upd s.of e.id (some (eTh e)) else if cloK e.kind = true then upd s.of e.id none else s.of := by
  unfold nxt
  by_cases h1 : e.kind = 1 ∨ e.kind = 2
  · have hc : ¬ cloK e.kind = true := fun h => by have := of_decide_eq_true h; omega
    rw [if_pos h1, if_neg (by omega), if_neg hc]; unfold hostN; split <;> rfl
  rw [if_neg h1]
  by_cases h2 : 3 ≤ e.kind ∧ e.kind ≤ 5
  · have hc : ¬ cloK e.kind = true := fun h => by have := of_decide_eq_true h; omega
    rw [if_pos h2, if_neg (by omega), if_neg hc]; unfold comeN; split
    · rfl
    · split <;> rfl
  rw [if_neg h2]
  by_cases h3 : e.kind = 6
  · rw [if_pos h3, if_pos h3]; rfl
  rw [if_neg h3, if_neg h3]
  by_cases h4 : cloK e.kind = true
  · rw [if_pos h4, if_pos h4]; rfl
  rw [if_neg h4, if_neg h4]
  split
  · rfl
  split <;> rfl
theorem fit_six {s : HS} {e : Ev} (h : fit s e = true) (hk : e.kind = 6) : s.last < e.id := by
  unfold fit at h
  rw [if_neg (by omega), if_neg (by omega), if_pos hk] at h
  unfold offF at h
  have h1 := Bool.and_eq_true_iff.1 h
  have h2 := Bool.and_eq_true_iff.1 h1.2
  exact of_decide_eq_true h2.1
theorem fit_clo {s : HS} {e : Ev} (h : fit s e = true) (hk : cloK e.kind = true) : ∃ x, s.of e.id = some x := by
  have hk7 : 7 ≤ e.kind ∧ e.kind ≤ 12 := of_decide_eq_true hk
  unfold fit at h
  rw [if_neg (by omega), if_neg (by omega), if_neg (by omega), if_pos hk] at h
  unfold cloF at h
  cases ho : s.of e.id with
  | none => rw [ho] at h; cases h
  | some x => exact ⟨x, rfl⟩
theorem chk_step {s : HS} {e : Ev} {t : List Ev} (h : (chk s (e :: t)).2 = true) : fit s e = true ∧ (chk (nxt s e) t).2 = true := by
  unfold chk at h
  cases hf : fit s e with
  | false => rw [hf] at h; cases h
  | true => rw [hf] at h; exact ⟨rfl, h⟩
theorem chk_le : ∀ (s : HS) (l : List Ev), (chk s l).1 ≤ l.length
  | _, [] => Nat.le_refl _
  | s, e :: t => by
    unfold chk
    have := chk_le (nxt s e) t
    split
    · simp only [List.length_cons]; omega
    · exact Nat.zero_le _
/-- Numbers rise. -/
theorem lvs_rise : ∀ (l : List Ev) (s : HS) (o : Nat), (chk s l).2 = true → (∀ x ∈ lvs l o, s.last < x.id) ∧ (lvs l o).Pairwise fun x y => x.id < y.id
  | [], s, o, _ => ⟨(fun x hx => by cases hx), List.Pairwise.nil⟩
  | e :: t, s, o, h => by
    obtain ⟨h1, h2⟩ := chk_step h
    obtain ⟨i1, i2⟩ := lvs_rise t (nxt s e) (o + 1) h2
    rw [nxt_last] at i1
    unfold lvs
    by_cases hk : e.kind = 6
    · have h6 := fit_six h1 hk
      rw [if_pos hk] at i1 ⊢
      refine ⟨fun x hx => ?_, List.pairwise_cons.2 ⟨fun x hx => i1 x hx, i2⟩⟩
      rcases List.mem_cons.1 hx with rfl | hx
      · exact h6
      · exact Int.lt_trans h6 (i1 x hx)
    · rw [if_neg hk] at i1 ⊢
      exact ⟨i1, i2⟩
/-- An offer ends behind its beginning. -/
theorem lvs_to : ∀ (l : List Ev) (o : Nat), ∀ x ∈ lvs l o, 0 ≤ x.to → x.fr < x.to
  | [], o, x, hx, _ => by cases hx
  | e :: t, o, x, hx, h0 => by
    unfold lvs at hx
    split at hx
    · rcases List.mem_cons.1 hx with rfl | hx
      · unfold lfOf at *
        simp only at *
        cases hc : firstC t (o + 1) e.id with
        | none => rw [hc] at h0; simp at h0
        | some p =>
          obtain ⟨j, y, h1, -⟩ := firstC_at hc
          simp only [Option.map_some, Option.getD_some]
          rw [h1]
          omega
      · exact lvs_to t (o + 1) x hx h0
    · exact lvs_to t (o + 1) x hx h0
def endB (x : Lf) : Bool := decide (0 ≤ x.to)
theorem endB_lf (e : Ev) (o : Nat) (t : List Ev) (n : Nat) (k : Int) : endB (lfOf e o (firstC t n k)) = (firstC t n k).isSome := by
  unfold endB lfOf
  cases h : firstC t n k with
  | none => rfl
  | some p => simp
theorem closes_count : ∀ (l : List Ev) (s : HS) (o : Nat) (K : List Int), (chk s l).2 = true → K.Nodup → (∀ k ∈ K, k ≤ s.last) → (∀ k x, s.of k = some x → k ∈ K) → (∀ k ∈ K, ∃ x, s.of k = some x) →
    l.countP (fun e => cloK e.kind) = (lvs l o).countP endB + K.countP fun k => (firstC l o k).isSome
  | [], s, o, K, _, _, _, _, _ => by
    have : (K.countP fun k => (firstC [] o k).isSome) = 0 := List.countP_eq_zero.2 fun k _ => by simp [firstC]
    rw [this]; rfl
  | e :: t, s, o, K, h, hn, hl, hm, hm' => by
    obtain ⟨h1, h2⟩ := chk_step h
    have hof := nxt_of s e
    have hla := nxt_last s e
    by_cases hk : e.kind = 6
    · have hc : ¬ cloK e.kind = true := fun h => by have := of_decide_eq_true h; omega
      have h6 := fit_six h1 hk
      rw [if_pos hk] at hof hla
      have hnm : e.id ∉ K := fun hm => by have := hl _ hm; omega
      have ih := closes_count t (nxt s e) (o + 1) (e.id :: K) h2 (List.nodup_cons.2 ⟨hnm, hn⟩) (fun k hk => by
        rw [hla]
        rcases List.mem_cons.1 hk with rfl | hk
        · exact Int.le_refl _
        · have := hl k hk; omega) (fun k x hx => by
        rw [hof] at hx
        unfold upd at hx
        split at hx
        · rename_i he; rw [he]; exact List.mem_cons_self
        · exact List.mem_cons_of_mem _ (hm k x hx)) (fun k hk => by
        rw [hof]; unfold upd
        rcases List.mem_cons.1 hk with rfl | hk
        · exact ⟨_, if_pos rfl⟩
        · by_cases he : k = e.id
          · exact ⟨_, if_pos he⟩
          · rw [if_neg he]; exact hm' k hk)
      have hv : lvs (e :: t) o = lfOf e o (firstC t (o + 1) e.id) :: lvs t (o + 1) := by show (if _ then _ else _) = _; rw [if_pos hk]
      rw [List.countP_cons_of_neg (by simpa using hc), ih, hv, List.countP_cons, List.countP_cons, endB_lf]
      have hf : (fun k => (firstC (e :: t) o k).isSome) = fun k => (firstC t (o + 1) k).isSome := by
        funext k; show (if _ then _ else _ : Option (Nat × Int)).isSome = _; rw [if_neg fun h => hc h.1]
      rw [hf]
      omega
    · rw [if_neg hk] at hof hla
      by_cases hc : cloK e.kind = true
      · rw [if_pos hc] at hof
        obtain ⟨x, hx⟩ := fit_clo h1 hc
        have hid := hm _ _ hx
        have ih := closes_count t (nxt s e) (o + 1) (K.erase e.id) h2 (hn.erase _) (fun k hk => by
          rw [hla]; exact hl k (List.mem_of_mem_erase hk)) (fun k x hx => by
          rw [hof] at hx
          unfold upd at hx
          split at hx
          · cases hx
          · rename_i he; exact (List.mem_erase_of_ne he).2 (hm k x hx)) (fun k hk => by
          rw [hof]; unfold upd
          have := (hn.mem_erase_iff).1 hk
          rw [if_neg this.1]; exact hm' k this.2)
        rw [List.countP_cons_of_pos (by simpa using hc), ih]
        have hv : lvs (e :: t) o = lvs t (o + 1) := by show (if _ then _ else _) = _; rw [if_neg hk]
        rw [hv]
        have hp := (List.perm_cons_erase hid).countP_eq fun k => (firstC (e :: t) o k).isSome
        rw [hp, List.countP_cons_of_pos (by show (if _ then _ else _ : Option (Nat × Int)).isSome = true; rw [if_pos ⟨hc, rfl⟩]; rfl)]
        have hf : ((K.erase e.id).countP fun k => (firstC (e :: t) o k).isSome) = (K.erase e.id).countP fun k => (firstC t (o + 1) k).isSome := List.countP_congr fun k hk => by
          have := (hn.mem_erase_iff).1 hk
          show (if _ then _ else _ : Option (Nat × Int)).isSome = true ↔ _
          rw [if_neg fun h => this.1 h.2.symm]
        rw [hf]
        omega
      · rw [if_neg hc] at hof
        have ih := closes_count t (nxt s e) (o + 1) K h2 hn (fun k hk => by rw [hla]; exact hl k hk) (fun k x hx => by rw [hof] at hx; exact hm k x hx) (fun k hk => by rw [hof]; exact hm' k hk)
        rw [List.countP_cons_of_neg (by simpa using hc), ih]
        have hv : lvs (e :: t) o = lvs t (o + 1) := by show (if _ then _ else _) = _; rw [if_neg hk]
        rw [hv]
        have hf : (fun k => (firstC (e :: t) o k).isSome) = fun k => (firstC t (o + 1) k).isSome := by
          funext k; show (if _ then _ else _ : Option (Nat × Int)).isSome = _; rw [if_neg fun h => hc h.1]
        rw [hf]
theorem closes_ends {l : List Ev} (h : (chk hs0 l).2 = true) : l.countP (fun e => cloK e.kind) = (lvs l 0).countP endB := by
  have := closes_count l hs0 0 [] h List.nodup_nil (fun k hk => by cases hk) (fun k x hx => by cases hx) (fun k hk => by cases hk)
  rw [this]; simp
theorem opn_count (L : List Lf) : (opn L).length + L.countP endB = L.length := by
  unfold opn
  rw [List.length_map, ← List.countP_eq_length_filter]
  have : L.countP endB = L.countP fun x => !decide (x.to < 0) := List.countP_congr fun x _ => by
    unfold endB; simp
  rw [this]
  have := List.length_eq_countP_add_countP (l := L) (p := fun x : Lf => decide (x.to < 0))
  simp only [Bool.not_eq_true] at this
  have e : (L.countP fun x => !decide (x.to < 0)) = L.countP fun x => decide (decide (x.to < 0) = false) := List.countP_congr fun x _ => by simp
  rw [e]; exact this.symm
end Go.Proofs.Ytennhfkhdfalfaa

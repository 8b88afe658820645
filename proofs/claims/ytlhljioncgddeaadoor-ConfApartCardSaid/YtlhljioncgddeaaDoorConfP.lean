/- conf.Parse at every string that is not long; at a configuration's own text. Condition: the powers of ten, the error values and MaxLen lie in their variables. -/
import Derived.Test.YtlhljioncgddeaaDoorConfM
namespace Go.Proofs.YtlhljioncgddeaaDoor
open Go.RowKit Go.Proofs
/-- The numbers of s are a valid configuration's, and s is its text. -/
def pOk (s : ByteArray) : Prop := CR (rF s 0) (rF s 1) (rF s 2) (rF s 3) (rF s 4) (fun k => rF s (5 + k)) ∧ cT (rF s 0) (rF s 1) (rF s 2) (rF s 3) (rF s 4) (fun k => rF s (5 + k)) = s
theorem nine_top {h m i l c : Int} {n : Nat → Int} (hr : CR h m i l c n) : ∀ k, k < 9 → 0 ≤ nine h m i l c n k ∧ nine h m i l c n k ≤ 9007199254740992 := by
  obtain ⟨⟨a1, a2, a3, a4, a5, a6, a7, a8, a9, a10⟩, hm⟩ := hr
  intro k hk
  have : k = 0 ∨ k = 1 ∨ k = 2 ∨ k = 3 ∨ k = 4 ∨ k = 5 ∨ k = 6 ∨ k = 7 ∨ k = 8 := by omega
  rcases this with rfl | rfl | rfl | rfl | rfl | rfl | rfl | rfl | rfl
  · exact ⟨a1, a2⟩
  · exact ⟨by show 0 ≤ m; omega, a4⟩
  · exact ⟨a5, a6⟩
  · exact ⟨a7, a8⟩
  · exact ⟨by show 0 ≤ c; omega, by show c ≤ _; omega⟩
  · exact hm 0 (by omega)
  · exact hm 1 (by omega)
  · exact hm 2 (by omega)
  · exact hm 3 (by omega)
theorem cT_yes {h m i l c : Int} {n : Nat → Int} (hr : CR h m i l c n) : cT h m i l c n = ⟨(J (nine h m i l c n) 9).toArray⟩ := by unfold cT; rw [if_pos hr]
theorem cT_no {h m i l c : Int} {n : Nat → Int} (hr : ¬ CR h m i l c n) : cT h m i l c n = ⟨#[]⟩ := by unfold cT; rw [if_neg hr]
theorem cT_size (h m i l c : Int) (n : Nat → Int) : (cT h m i l c n).size ≤ 1000 := by
  by_cases hr : CR h m i l c n
  · rw [cT_yes hr, szl]
    have := J_len (nine h m i l c n) (nine_ok hr) 9 (by omega) (by omega)
    omega
  · rw [cT_no hr]; exact Nat.zero_le _
theorem ct_read {h m i l c : Int} {n : Nat → Int} (hr : CR h m i l c n) : rOk (cT h m i l c n) ∧ ∀ k, k < 9 → rF (cT h m i l c n) k = nine h m i l c n k := by
  rw [cT_yes hr]; exact read_J _ (nine_top hr)
theorem empty_not : ¬ rOk ⟨#[]⟩ := by
  rintro ⟨h, _⟩
  unfold Ps at h
  rw [show min 10 ((ByteArray.mk #[]).size + 1) - 1 = 0 from rfl, Lib.splitB_zero] at h
  simp at h
theorem cT_ne {h m i l c : Int} {n : Nat → Int} (hr : CR h m i l c n) : cT h m i l c n ≠ ⟨#[]⟩ := fun e => empty_not (e ▸ (ct_read hr).1)
theorem cT_inj {h m i l c h' m' i' l' c' : Int} {n n' : Nat → Int} (hr : CR h m i l c n) (hr' : CR h' m' i' l' c' n') (he : cT h m i l c n = cT h' m' i' l' c' n') :
    h = h' ∧ m = m' ∧ i = i' ∧ l = l' ∧ c = c' ∧ n 0 = n' 0 ∧ n 1 = n' 1 ∧ n 2 = n' 2 ∧ n 3 = n' 3 := by
  have a := (ct_read hr).2
  have b := (ct_read hr').2
  rw [← he] at b
  have g : ∀ k, k < 9 → nine h m i l c n k = nine h' m' i' l' c' n' k := fun k hk => (a k hk).symm.trans (b k hk)
  exact ⟨g 0 (by omega), g 1 (by omega), g 2 (by omega), g 3 (by omega), g 4 (by omega), g 5 (by omega), g 6 (by omega), g 7 (by omega), g 8 (by omega)⟩
theorem rV_ct {h m i l c : Int} {n : Nat → Int} (hr : CR h m i l c n) : rV (cT h m i l c n) = C9 h m i l c n := by
  have a := (ct_read hr).2
  show (.agg #[.int .i64 (rF _ 0), .int .i64 (rF _ 1), .int .i64 (rF _ 2), .int .i64 (rF _ 3), .int .i64 (rF _ 4), .int .i64 (rF _ 5), .int .i64 (rF _ 6), .int .i64 (rF _ 7), .int .i64 (rF _ 8)] : Value) = _
  rw [a 0 (by omega), a 1 (by omega), a 2 (by omega), a 3 (by omega), a 4 (by omega), a 5 (by omega), a 6 (by omega), a 7 (by omega), a 8 (by omega)]
  rfl
theorem not_zero {h m i l c : Int} {n : Nat → Int} (hr : CR h m i l c n) : ¬ (h = 0 ∧ m = 0 ∧ i = 0 ∧ l = 0 ∧ c = 0 ∧ n 0 = 0 ∧ n 1 = 0 ∧ n 2 = 0 ∧ n 3 = 0) := by
  rintro ⟨_, _, _, _, h5, _⟩
  obtain ⟨⟨_, _, _, _, _, _, _, _, h9, _⟩, _⟩ := hr
  omega
/-- A valid configuration's text is read back. -/
theorem parse_ct {h m i l c : Int} {n : Nat → Int} (hr : CR h m i l c n) : PureOn CC Tryd.prog 38 #[.string (cT h m i l c n)] (.tuple #[C9 h m i l c n, .bool true]) := by
  have H := read_any (cT h m i l c n) (cT_size h m i l c n)
  rw [if_pos (ct_read hr).1, rV_ct hr] at H
  exact cparse_yes _ h m i l c n H (not_zero hr) rfl
theorem parse_ok {s : ByteArray} (hs : s.size ≤ 1000) (hp : pOk s) : PureOn CC Tryd.prog 38 #[.string s] (.tuple #[rV s, .bool true]) := by
  obtain ⟨h1, h2⟩ := hp
  have H := read_any s hs
  rw [if_pos (by have := (ct_read h1).1; rwa [h2] at this)] at H
  exact cparse_yes _ _ _ _ _ _ _ H (not_zero h1) h2
theorem parse_bad {s : ByteArray} (hs : s.size ≤ 1000) (hp : ¬ pOk s) : PureOn CC Tryd.prog 38 #[.string s] (.tuple #[C9 0 0 0 0 0 Z0, .bool false]) := by
  have H := read_any s hs
  by_cases ho : rOk s
  · rw [if_pos ho] at H
    by_cases hz : rF s 0 = 0 ∧ rF s 1 = 0 ∧ rF s 2 = 0 ∧ rF s 3 = 0 ∧ rF s 4 = 0 ∧ rF s 5 = 0 ∧ rF s 6 = 0 ∧ rF s 7 = 0 ∧ rF s 8 = 0
    · refine cparse_zero s ?_
      have e : rV s = C9 0 0 0 0 0 Z0 := by
        obtain ⟨z0, z1, z2, z3, z4, z5, z6, z7, z8⟩ := hz
        show (.agg #[.int .i64 (rF _ 0), .int .i64 (rF _ 1), .int .i64 (rF _ 2), .int .i64 (rF _ 3), .int .i64 (rF _ 4), .int .i64 (rF _ 5), .int .i64 (rF _ 6), .int .i64 (rF _ 7), .int .i64 (rF _ 8)] : Value) = _
        rw [z0, z1, z2, z3, z4, z5, z6, z7, z8]
        rfl
      rwa [e] at H
    · refine cparse_no s _ _ _ _ _ _ H hz fun e => hp ⟨?_, e⟩
      refine Classical.byContradiction fun hr => ?_
      rw [cT_no hr] at e
      subst e
      exact empty_not ho
  · rw [if_neg ho] at H
    exact cparse_zero s H
end Go.Proofs.YtlhljioncgddeaaDoor

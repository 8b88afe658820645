/- The walk of ConfApart. Condition: the powers of ten, the error values and MaxLen lie in their variables. -/
import Derived.Test.YtlhljioncgddeaaDoorConfL
namespace Go.Proofs.YtlhljioncgddeaaDoor
open Go.RowKit Go.Proofs
attribute [local go_sem] ext_cell ext_frozen Mix.calmUpon Mix.mUpon
set_option maxRecDepth 100000 in
set_option maxHeartbeats 4000000 in
theorem apart_na (h m i l c h' m' i' l' c' : Int) (n n' : Nat → Int) (hr : ¬ CR h m i l c n) : PureOn CC Tryd.prog 10 #[C9 h m i l c n, C9 h' m' i' l' c' n'] (.bool true) := by
  intro W hC
  have HC := Lib.hid hC
  have H1 := Lib.hid (chk_no hr)
  clear hC hr
  go_enter Tryd.func10, Tryd.ntmps10
  go_wp2_with fail
  (with_reducible refine (H1.out _).mono ?_)
  rintro e w1 ⟨rfl, hb1⟩
  have hs1 : W.heap.size + 2 ≤ w1.heap.size := (by have h := hb1.size; first | omega | (simp at h; omega))
  have hz1_0 : W.heap.size < w1.heap.size := (by omega)
  have hz1_1 : W.heap.size + 1 < w1.heap.size := (by omega)
  obtain ⟨hc1, hf1, hl1⟩ := bcell hb1
  clear hl1
  go_wp2_with fail
  (with_reducible refine (works13.app _ (CC.on HC.out (by (repeat (first | assumption | exact Below.refl _ _ | refine ba ?_ _ | refine bd ?_ | refine bdn ?_ _ | refine bs ?_ (by first | omega | (simp; done) | (simp; omega)) _ | refine bt ?_ (by assumption)))))).mono ?_)
  rintro e w2 ⟨rfl, hb2⟩
  have hs2 : w1.heap.size + 0 ≤ w2.heap.size := (by have h := hb2.size; first | omega | (simp at h; omega))
  have hb1_2 := bel hb1 hb2 (by (repeat (first | assumption | exact Below.refl _ _ | refine ba ?_ _ | refine bd ?_ | refine bdn ?_ _ | refine bs ?_ (by first | omega | (simp; done) | (simp; omega)) _ | refine bt ?_ (by assumption))))
  clear hz1_0 hz1_1 hc1 hf1
  obtain ⟨hc1_2, hf1_2, hl1_2⟩ := bcell hb1_2
  clear hl1_2
  have hz2_0 : W.heap.size < w2.heap.size := (by omega)
  have hz2_1 : W.heap.size + 1 < w2.heap.size := (by omega)
  obtain ⟨hc2, hf2, hl2⟩ := bcell hb2
  clear hl2
  go_wp2
  go_ret
  refine ⟨rfl, ?_⟩
  (repeat (first | assumption | exact Below.refl _ _ | refine ba ?_ _ | refine bd ?_ | refine bdn ?_ _ | refine bs ?_ (by first | omega | (simp; done) | (simp; omega)) _ | refine bt ?_ (by assumption)))
set_option maxRecDepth 100000 in
set_option maxHeartbeats 4000000 in
theorem apart_nb (h m i l c h' m' i' l' c' : Int) (n n' : Nat → Int) (hr : CR h m i l c n) (hr' : ¬ CR h' m' i' l' c' n') : PureOn CC Tryd.prog 10 #[C9 h m i l c n, C9 h' m' i' l' c' n'] (.bool true) := by
  intro W hC
  have HC := Lib.hid hC
  have H1 := Lib.hid (chk_yes hr)
  have H2 := Lib.hid (chk_no hr')
  clear hC hr hr'
  go_enter Tryd.func10, Tryd.ntmps10
  go_wp2_with fail
  (with_reducible refine (H1.out _).mono ?_)
  rintro e w1 ⟨rfl, hb1⟩
  have hs1 : W.heap.size + 2 ≤ w1.heap.size := (by have h := hb1.size; first | omega | (simp at h; omega))
  have hz1_0 : W.heap.size < w1.heap.size := (by omega)
  have hz1_1 : W.heap.size + 1 < w1.heap.size := (by omega)
  obtain ⟨hc1, hf1, hl1⟩ := bcell hb1
  clear hl1
  go_wp2_with fail
  (with_reducible refine (H2.out _).mono ?_)
  rintro e w2 ⟨rfl, hb2⟩
  have hs2 : w1.heap.size + 0 ≤ w2.heap.size := (by have h := hb2.size; first | omega | (simp at h; omega))
  have hb1_2 := bel hb1 hb2 (by (repeat (first | assumption | exact Below.refl _ _ | refine ba ?_ _ | refine bd ?_ | refine bdn ?_ _ | refine bs ?_ (by first | omega | (simp; done) | (simp; omega)) _ | refine bt ?_ (by assumption))))
  clear hz1_0 hz1_1 hc1 hf1
  obtain ⟨hc1_2, hf1_2, hl1_2⟩ := bcell hb1_2
  clear hl1_2
  have hz2_0 : W.heap.size < w2.heap.size := (by omega)
  have hz2_1 : W.heap.size + 1 < w2.heap.size := (by omega)
  obtain ⟨hc2, hf2, hl2⟩ := bcell hb2
  clear hl2
  go_wp2_with fail
  (with_reducible refine (works13.app _ (CC.on HC.out (by (repeat (first | assumption | exact Below.refl _ _ | refine ba ?_ _ | refine bd ?_ | refine bdn ?_ _ | refine bs ?_ (by first | omega | (simp; done) | (simp; omega)) _ | refine bt ?_ (by assumption)))))).mono ?_)
  rintro e w3 ⟨rfl, hb3⟩
  have hs3 : w2.heap.size + 0 ≤ w3.heap.size := (by have h := hb3.size; first | omega | (simp at h; omega))
  have hb1_3 := bel hb1_2 hb3 (by (repeat (first | assumption | exact Below.refl _ _ | refine ba ?_ _ | refine bd ?_ | refine bdn ?_ _ | refine bs ?_ (by first | omega | (simp; done) | (simp; omega)) _ | refine bt ?_ (by assumption))))
  have hb2_3 := bel hb2 hb3 (by (repeat (first | assumption | exact Below.refl _ _ | refine ba ?_ _ | refine bd ?_ | refine bdn ?_ _ | refine bs ?_ (by first | omega | (simp; done) | (simp; omega)) _ | refine bt ?_ (by assumption))))
  clear hc1_2 hf1_2 hz2_0 hz2_1 hc2 hf2
  obtain ⟨hc1_3, hf1_3, hl1_3⟩ := bcell hb1_3
  clear hl1_3
  have hz3_0 : W.heap.size < w3.heap.size := (by omega)
  have hz3_1 : W.heap.size + 1 < w3.heap.size := (by omega)
  obtain ⟨hc3, hf3, hl3⟩ := bcell hb3
  clear hl3
  go_wp2
  go_ret
  refine ⟨rfl, ?_⟩
  (repeat (first | assumption | exact Below.refl _ _ | refine ba ?_ _ | refine bd ?_ | refine bdn ?_ _ | refine bs ?_ (by first | omega | (simp; done) | (simp; omega)) _ | refine bt ?_ (by assumption)))
theorem ne_list {S : ByteArray} (h : S ≠ ⟨#[]⟩) : S.toList.isEmpty = false := by
  rw [ByteArray.toList_eq]
  cases hl : S.data.toList with
  | nil => exact absurd (Go.WideShapes.bytes_inj (by rw [hl])) h
  | cons _ _ => rfl
set_option maxRecDepth 100000 in
set_option maxHeartbeats 4000000 in
theorem apart_same (h m i l c : Int) (n : Nat → Int) (hr : CR h m i l c n) : PureOn CC Tryd.prog 10 #[C9 h m i l c n, C9 h m i l c n] (.bool true) := by
  intro W hC
  have HC := Lib.hid hC
  have H1 := Lib.hid (chk_yes hr)
  have H3 := ctext_any h m i l c n
  have hne := cT_ne hr
  have hq : ∀ w, (Op.equalIn 10000 43 (C9 h m i l c n) (C9 h m i l c n)).run Tryd.prog w = .ok true w := fun w => eqC_yes _ _ _ _ _ _ _ _ _ w
  generalize cT h m i l c n = S at H3 hne
  have t2 := streq_yes (rfl : S = S)
  have t1 := strneq_no hne
  have t3 := ne_list hne
  have H3 := Lib.hid H3
  clear hC hr hne
  go_enter Tryd.func10, Tryd.ntmps10
  go_wp2_with fail
  (with_reducible refine (H1.out _).mono ?_)
  rintro e w1 ⟨rfl, hb1⟩
  have hs1 : W.heap.size + 2 ≤ w1.heap.size := (by have h := hb1.size; first | omega | (simp at h; omega))
  have hz1_0 : W.heap.size < w1.heap.size := (by omega)
  have hz1_1 : W.heap.size + 1 < w1.heap.size := (by omega)
  obtain ⟨hc1, hf1, hl1⟩ := bcell hb1
  clear hl1
  go_wp2_with fail
  (with_reducible refine (H1.out _).mono ?_)
  rintro e w2 ⟨rfl, hb2⟩
  have hs2 : w1.heap.size + 0 ≤ w2.heap.size := (by have h := hb2.size; first | omega | (simp at h; omega))
  have hb1_2 := bel hb1 hb2 (by (repeat (first | assumption | exact Below.refl _ _ | refine ba ?_ _ | refine bd ?_ | refine bdn ?_ _ | refine bs ?_ (by first | omega | (simp; done) | (simp; omega)) _ | refine bt ?_ (by assumption))))
  clear hz1_0 hz1_1 hc1 hf1
  obtain ⟨hc1_2, hf1_2, hl1_2⟩ := bcell hb1_2
  clear hl1_2
  have hz2_0 : W.heap.size < w2.heap.size := (by omega)
  have hz2_1 : W.heap.size + 1 < w2.heap.size := (by omega)
  obtain ⟨hc2, hf2, hl2⟩ := bcell hb2
  clear hl2
  go_wp2_with fail
  have hTw : T10 w2 := clo_T10' HC.out.t (by (repeat (first | assumption | exact Below.refl _ _ | refine ba ?_ _ | refine bd ?_ | refine bdn ?_ _ | refine bs ?_ (by first | omega | (simp; done) | (simp; omega)) _ | refine bt ?_ (by assumption))))
  have hCw : CC w2 := CC.on HC.out (by (repeat (first | assumption | exact Below.refl _ _ | refine ba ?_ _ | refine bd ?_ | refine bdn ?_ _ | refine bs ?_ (by first | omega | (simp; done) | (simp; omega)) _ | refine bt ?_ (by assumption))))
  refine wp_region_pure (by kernel_rfl) (by kernel_rfl) ?_
  repeat (first | go_big_quiet_step (((first | (go_at_call 39; first | with_reducible exact H3.out.quiet clo_T10 hTw) | (go_at_call 37; with_reducible exact works13.quiet clo_CC hCw)))) | (quiet_step (((first | (go_at_call 39; first | with_reducible exact H3.out.quiet clo_T10 hTw) | (go_at_call 37; with_reducible exact works13.quiet clo_CC hCw))))))
  refine wpQuiet_nil ?_
  rintro w3 ⟨x3, hx3⟩
  have hb3 := ext_below _ x3
  rw [← hx3] at hb3
  clear hx3 x3
  have hs3 : w2.heap.size + 0 ≤ w3.heap.size := (by have h := hb3.size; first | omega | (simp at h; omega))
  have hb1_3 := bel hb1_2 hb3 (by (repeat (first | assumption | exact Below.refl _ _ | refine ba ?_ _ | refine bd ?_ | refine bdn ?_ _ | refine bs ?_ (by first | omega | (simp; done) | (simp; omega)) _ | refine bt ?_ (by assumption))))
  have hb2_3 := bel hb2 hb3 (by (repeat (first | assumption | exact Below.refl _ _ | refine ba ?_ _ | refine bd ?_ | refine bdn ?_ _ | refine bs ?_ (by first | omega | (simp; done) | (simp; omega)) _ | refine bt ?_ (by assumption))))
  clear hc1_2 hf1_2 hz2_0 hz2_1 hc2 hf2
  obtain ⟨hc1_3, hf1_3, hl1_3⟩ := bcell hb1_3
  clear hl1_3
  have hz3_0 : W.heap.size < w3.heap.size := (by omega)
  have hz3_1 : W.heap.size + 1 < w3.heap.size := (by omega)
  obtain ⟨hc3, hf3, hl3⟩ := bcell hb3
  clear hl3
  go_wp2
  go_ret
  refine ⟨rfl, ?_⟩
  (repeat (first | assumption | exact Below.refl _ _ | refine ba ?_ _ | refine bd ?_ | refine bdn ?_ _ | refine bs ?_ (by first | omega | (simp; done) | (simp; omega)) _ | refine bt ?_ (by assumption)))
set_option maxRecDepth 100000 in
set_option maxHeartbeats 4000000 in
theorem apart_diff (h m i l c h' m' i' l' c' : Int) (n n' : Nat → Int) (hr : CR h m i l c n) (hr' : CR h' m' i' l' c' n') (hd : ¬ (h = h' ∧ m = m' ∧ i = i' ∧ l = l' ∧ c = c' ∧ n 0 = n' 0 ∧ n 1 = n' 1 ∧ n 2 = n' 2 ∧ n 3 = n' 3)) : PureOn CC Tryd.prog 10 #[C9 h m i l c n, C9 h' m' i' l' c' n'] (.bool true) := by
  intro W hC
  have HC := Lib.hid hC
  have H1 := Lib.hid (chk_yes hr)
  have H3 := ctext_any h m i l c n
  have hne := cT_ne hr
  have H2 := Lib.hid (chk_yes hr')
  have H4 := ctext_any h' m' i' l' c' n'
  have hq : ∀ w, (Op.equalIn 10000 43 (C9 h m i l c n) (C9 h' m' i' l' c' n')).run Tryd.prog w = .ok false w := fun w => eqC_no _ _ _ _ _ _ _ _ _ _ _ _ _ _ _ _ _ _ hd w
  have hdd : cT h m i l c n ≠ cT h' m' i' l' c' n' := fun e => hd (cT_inj hr hr' e)
  generalize cT h m i l c n = S at H3 hne hdd
  generalize cT h' m' i' l' c' n' = S' at H4 hdd
  have t2 := streq_no hdd
  have t1 := strneq_no hne
  have t3 := ne_list hne
  have H3 := Lib.hid H3; have H4 := Lib.hid H4
  clear hC hr hne hr' hd hdd
  go_enter Tryd.func10, Tryd.ntmps10
  go_wp2_with fail
  (with_reducible refine (H1.out _).mono ?_)
  rintro e w1 ⟨rfl, hb1⟩
  have hs1 : W.heap.size + 2 ≤ w1.heap.size := (by have h := hb1.size; first | omega | (simp at h; omega))
  have hz1_0 : W.heap.size < w1.heap.size := (by omega)
  have hz1_1 : W.heap.size + 1 < w1.heap.size := (by omega)
  obtain ⟨hc1, hf1, hl1⟩ := bcell hb1
  clear hl1
  go_wp2_with fail
  (with_reducible refine (H2.out _).mono ?_)
  rintro e w2 ⟨rfl, hb2⟩
  have hs2 : w1.heap.size + 0 ≤ w2.heap.size := (by have h := hb2.size; first | omega | (simp at h; omega))
  have hb1_2 := bel hb1 hb2 (by (repeat (first | assumption | exact Below.refl _ _ | refine ba ?_ _ | refine bd ?_ | refine bdn ?_ _ | refine bs ?_ (by first | omega | (simp; done) | (simp; omega)) _ | refine bt ?_ (by assumption))))
  clear hz1_0 hz1_1 hc1 hf1
  obtain ⟨hc1_2, hf1_2, hl1_2⟩ := bcell hb1_2
  clear hl1_2
  have hz2_0 : W.heap.size < w2.heap.size := (by omega)
  have hz2_1 : W.heap.size + 1 < w2.heap.size := (by omega)
  obtain ⟨hc2, hf2, hl2⟩ := bcell hb2
  clear hl2
  go_wp2_with fail
  have hTw : T10 w2 := clo_T10' HC.out.t (by (repeat (first | assumption | exact Below.refl _ _ | refine ba ?_ _ | refine bd ?_ | refine bdn ?_ _ | refine bs ?_ (by first | omega | (simp; done) | (simp; omega)) _ | refine bt ?_ (by assumption))))
  have hCw : CC w2 := CC.on HC.out (by (repeat (first | assumption | exact Below.refl _ _ | refine ba ?_ _ | refine bd ?_ | refine bdn ?_ _ | refine bs ?_ (by first | omega | (simp; done) | (simp; omega)) _ | refine bt ?_ (by assumption))))
  refine wp_region_pure (by kernel_rfl) (by kernel_rfl) ?_
  repeat (first | go_big_quiet_step (((first | (go_at_call 39; first | with_reducible exact H3.out.quiet clo_T10 hTw | with_reducible exact H4.out.quiet clo_T10 hTw) | (go_at_call 37; with_reducible exact works13.quiet clo_CC hCw)))) | (quiet_step (((first | (go_at_call 39; first | with_reducible exact H3.out.quiet clo_T10 hTw | with_reducible exact H4.out.quiet clo_T10 hTw) | (go_at_call 37; with_reducible exact works13.quiet clo_CC hCw))))))
  refine wpQuiet_nil ?_
  rintro w3 ⟨x3, hx3⟩
  have hb3 := ext_below _ x3
  rw [← hx3] at hb3
  clear hx3 x3
  have hs3 : w2.heap.size + 0 ≤ w3.heap.size := (by have h := hb3.size; first | omega | (simp at h; omega))
  have hb1_3 := bel hb1_2 hb3 (by (repeat (first | assumption | exact Below.refl _ _ | refine ba ?_ _ | refine bd ?_ | refine bdn ?_ _ | refine bs ?_ (by first | omega | (simp; done) | (simp; omega)) _ | refine bt ?_ (by assumption))))
  have hb2_3 := bel hb2 hb3 (by (repeat (first | assumption | exact Below.refl _ _ | refine ba ?_ _ | refine bd ?_ | refine bdn ?_ _ | refine bs ?_ (by first | omega | (simp; done) | (simp; omega)) _ | refine bt ?_ (by assumption))))
  clear hc1_2 hf1_2 hz2_0 hz2_1 hc2 hf2
  obtain ⟨hc1_3, hf1_3, hl1_3⟩ := bcell hb1_3
  clear hl1_3
  have hz3_0 : W.heap.size < w3.heap.size := (by omega)
  have hz3_1 : W.heap.size + 1 < w3.heap.size := (by omega)
  obtain ⟨hc3, hf3, hl3⟩ := bcell hb3
  clear hl3
  go_wp2
  go_ret
  refine ⟨rfl, ?_⟩
  (repeat (first | assumption | exact Below.refl _ _ | refine ba ?_ _ | refine bd ?_ | refine bdn ?_ _ | refine bs ?_ (by first | omega | (simp; done) | (simp; omega)) _ | refine bt ?_ (by assumption)))
theorem CR.congr4 {h m i l c : Int} {n n' : Nat → Int} (e0 : n 0 = n' 0) (e1 : n 1 = n' 1) (e2 : n 2 = n' 2) (e3 : n 3 = n' 3) : C9 h m i l c n = C9 h m i l c n' := by
  unfold C9; rw [e0, e1, e2, e3]
theorem apart13 (h m i l c h' m' i' l' c' : Int) (n n' : Nat → Int) : PureOn CC Tryd.prog 10 #[C9 h m i l c n, C9 h' m' i' l' c' n'] (.bool true) := by
  by_cases hr : CR h m i l c n
  · by_cases hr' : CR h' m' i' l' c' n'
    · by_cases hd : h = h' ∧ m = m' ∧ i = i' ∧ l = l' ∧ c = c' ∧ n 0 = n' 0 ∧ n 1 = n' 1 ∧ n 2 = n' 2 ∧ n 3 = n' 3
      · obtain ⟨rfl, rfl, rfl, rfl, rfl, e0, e1, e2, e3⟩ := hd
        rw [← CR.congr4 e0 e1 e2 e3]
        exact apart_same h m i l c n hr
      · exact apart_diff h m i l c h' m' i' l' c' n n' hr hr' hd
    · exact apart_nb h m i l c h' m' i' l' c' n n' hr hr'
  · exact apart_na h m i l c h' m' i' l' c' n n' hr
end Go.Proofs.YtlhljioncgddeaaDoor

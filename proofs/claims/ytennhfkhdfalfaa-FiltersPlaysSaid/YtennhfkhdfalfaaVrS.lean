/- The document's Same of layer 5 at any two slices of parts. -/
import Derived.Test.YtennhfkhdfalfaaVecS
namespace Go.Proofs.Ytennhfkhdfalfaa
open Go.RowKit
attribute [local go_sem] ext_cell ext_frozen Mix.calmUpon Mix.mUpon
theorem rsame_len (va vb : Value) (la lb : List Pt) (hn : la.length ≠ lb.length) (W : World) (hA : Vc W va la) (hB : Vc W vb lb) : Calls Try.prog 66 #[va, vb] W fun e w' => e = .returned (.bool false) ∧ Below W.heap.size W w' := by
  obtain ⟨a, n, c, rfl, h1, _, _⟩ : ∃ a n c, va = .slice a n c ∧ n = la.length ∧ n ≤ c ∧ c ≤ maxLen := by obtain ⟨a, c, h1, h2, h3⟩ := hA.form; exact ⟨a, _, c, h1, rfl, h2, h3⟩
  obtain ⟨a', n', c', rfl, h2, _, _⟩ : ∃ a n c, vb = .slice a n c ∧ n = lb.length ∧ n ≤ c ∧ c ≤ maxLen := by obtain ⟨a, c, h1, h2, h3⟩ := hB.form; exact ⟨a, _, c, h1, rfl, h2, h3⟩
  have hne : n ≠ n' := by omega
  have hnI : ((n : Int) == (n' : Int)) = false := by simp; omega
  clear h1 h2 hn hA hB
  go_enter Try.func66, Try.ntmps66
  go_wp2
  go_ret
  refine ⟨rfl, ?_⟩
  (repeat (first | assumption | exact Below.refl _ _ | refine ba ?_ _ | refine bd ?_ | refine bdn ?_ _ | refine bs ?_ (by first | omega | (simp; done) | (simp; omega)) _ | refine bt ?_ (by assumption)))
theorem rsame_nil (va vb : Value) (W : World) (hA : Vc W va []) (hB : Vc W vb []) : Calls Try.prog 66 #[va, vb] W fun e w' => e = .returned (.bool true) ∧ Below W.heap.size W w' := by
  obtain ⟨a, c, rfl⟩ := hA.empty
  obtain ⟨a', c', rfl⟩ := hB.empty
  clear hA hB
  go_enter Try.func66, Try.ntmps66
  go_wp2
  go_loopw [5] (fun i wr => i = .int .i64 0 ∧ Below W.heap.size W wr) (fun _ _ => 0)
  case atStart => exact ⟨rfl, by (repeat (first | assumption | exact Below.refl _ _ | refine ba ?_ _ | refine bd ?_ | refine bdn ?_ _ | refine bs ?_ (by first | omega | (simp; done) | (simp; omega)) _ | refine bt ?_ (by assumption)))⟩
  case round =>
    obtain ⟨rfl, hb1⟩ := hrel
    go_wp2
    go_ret
    exact ⟨rfl, by (repeat (first | assumption | exact Below.refl _ _ | refine ba ?_ _ | refine bd ?_ | refine bdn ?_ _ | refine bs ?_ (by first | omega | (simp; done) | (simp; omega)) _ | refine bt ?_ (by assumption)))⟩
set_option maxRecDepth 100000 in
set_option maxHeartbeats 2000000 in
theorem rsame_some (va vb : Value) (la lb : List Pt) (hn : la.length = lb.length) (h0 : 0 < la.length) (hbig : la.length < 1000000000) (W : World) (hA : Vc W va la) (hB : Vc W vb lb) : Calls Try.prog 66 #[va, vb] W fun e w' => e = .returned (.bool (decide (la = lb))) ∧ Below W.heap.size W w' := by
  obtain ⟨b, off, n, cap, rfl, h1, k1, k2, k3, hF⟩ := hA.some h0
  obtain ⟨b', off', n', cap', rfl, h2, k1', k2', k3', hG⟩ := hB.some (by omega)
  obtain rfl : n = n' := by omega
  have HN := Lib.hid (And.intro h1 h2)
  have HF := Lib.hid hF; have HG := Lib.hid hG
  have hn0 : 0 < n := by omega
  have hb9 : n < 1000000000 := by omega
  clear hF hG hA hB h1 h2 hn h0 hbig
  go_enter Try.func66, Try.ntmps66
  go_wp2
  go_loopw [5] (fun i wr => ∃ t : Nat, t ≤ n ∧ i = .int .i64 t ∧ Hid (∀ j, j < t → kk la j = kk lb j ∧ rr la j = rr lb j ∧ aa la j = aa lb j) ∧ Below W.heap.size W wr) (fun i _ => n - (intOf i).toNat)
  case atStart => exact ⟨0, Nat.zero_le _, rfl, Lib.hid (fun j hj => by omega), by (repeat (first | assumption | exact Below.refl _ _ | refine ba ?_ _ | refine bd ?_ | refine bdn ?_ _ | refine bs ?_ (by first | omega | (simp; done) | (simp; omega)) _ | refine bt ?_ (by assumption)))⟩
  case round =>
    obtain ⟨t, ht, rfl, HV, hb1⟩ := hrel
    obtain ⟨w1, rfl⟩ : ∃ w1, w1 = wr := ⟨_, rfl⟩
    have hs1 : W.heap.size + 0 ≤ w1.heap.size := (by have h := hb1.size; first | omega | (simp at h; omega))
    obtain ⟨hc1, hf1, hl1⟩ := bcell hb1
    clear hl1
    by_cases hlt : t < n
    · have hts : (t : Int) < (n : Int) := by omega
      obtain ⟨c0, c1, c2⟩ := HF.out t hlt
      obtain ⟨d0, d1, d2⟩ := HG.out t hlt
      have hbl : b < w1.heap.size := Nat.lt_of_lt_of_le k3 hb1.size
      have hbl' : b' < w1.heap.size := Nat.lt_of_lt_of_le k3' hb1.size
      by_cases he : kk la t = kk lb t ∧ rr la t = rr lb t ∧ aa la t = aa lb t
      · have hq := eqP_yes _ _ _ _ _ _ he
        have HW := Lib.hid (show ∀ j, j < t + 1 → kk la j = kk lb j ∧ rr la j = rr lb j ∧ aa la j = aa lb j from fun j hj => by
          by_cases hjt : j = t
          · rw [hjt]; exact he
          · exact HV.out j (by omega))
        clear he
        generalize kk la t = k at *; generalize rr la t = r at *; generalize aa la t = a at *
        generalize kk lb t = k' at *; generalize rr lb t = r' at *; generalize aa lb t = a' at *
        go_wp2_with fail
        refine wp_region_pure (by kernel_rfl) (by kernel_rfl) ?_
        repeat (first | go_big_quiet_step ((fail)) | (quiet_step ((fail))))
        refine wpQuiet_nil ?_
        rintro w2 ⟨x2, hx2⟩
        have hb2 := ext_below _ x2
        rw [← hx2] at hb2
        clear hx2 x2
        have hs2 : w1.heap.size + 0 ≤ w2.heap.size := (by have h := hb2.size; first | omega | (simp at h; omega))
        have hb1_2 := bel hb1 hb2 (by (repeat (first | assumption | exact Below.refl _ _ | refine ba ?_ _ | refine bd ?_ | refine bdn ?_ _ | refine bs ?_ (by first | omega | (simp; done) | (simp; omega)) _ | refine bt ?_ (by assumption))))
        clear hc1 hf1
        obtain ⟨hc2, hf2, hl2⟩ := bcell hb2
        clear hl2
        go_wp2
        go_roundw
        case rel => exact ⟨t + 1, by omega, by go_num, HW, by (repeat (first | assumption | exact Below.refl _ _ | refine ba ?_ _ | refine bd ?_ | refine bdn ?_ _ | refine bs ?_ (by first | omega | (simp; done) | (simp; omega)) _ | refine bt ?_ (by assumption)))⟩
        case measure => simp [intOf]; omega
      ·
        have hq := eqP_no _ _ _ _ _ _ he
        have HX := Lib.hid (show decide (la = lb) = false from decide_eq_false fun h => he (by rw [h]; exact ⟨rfl, rfl, rfl⟩))
        clear he
        generalize kk la t = k at *; generalize rr la t = r at *; generalize aa la t = a at *
        generalize kk lb t = k' at *; generalize rr lb t = r' at *; generalize aa lb t = a' at *
        go_wp2_with fail
        refine wp_region_pure (by kernel_rfl) (by kernel_rfl) ?_
        repeat (first | go_big_quiet_step ((fail)) | (quiet_step ((fail))))
        refine wpQuiet_nil ?_
        rintro w2 ⟨x2, hx2⟩
        have hb2 := ext_below _ x2
        rw [← hx2] at hb2
        clear hx2 x2
        have hs2 : w1.heap.size + 0 ≤ w2.heap.size := (by have h := hb2.size; first | omega | (simp at h; omega))
        have hb1_2 := bel hb1 hb2 (by (repeat (first | assumption | exact Below.refl _ _ | refine ba ?_ _ | refine bd ?_ | refine bdn ?_ _ | refine bs ?_ (by first | omega | (simp; done) | (simp; omega)) _ | refine bt ?_ (by assumption))))
        clear hc1 hf1
        obtain ⟨hc2, hf2, hl2⟩ := bcell hb2
        clear hl2
        go_wp2
        go_ret
        exact ⟨by rw [HX.out]; rfl, by (repeat (first | assumption | exact Below.refl _ _ | refine ba ?_ _ | refine bd ?_ | refine bdn ?_ _ | refine bs ?_ (by first | omega | (simp; done) | (simp; omega)) _ | refine bt ?_ (by assumption)))⟩
    · obtain rfl : n = t := by omega
      have HX := Lib.hid (show decide (la = lb) = true from decide_eq_true (list_same (HN.out.1.symm.trans HN.out.2) fun j hj => HV.out j (by rw [HN.out.1]; exact hj)))
      go_wp2
      go_ret
      exact ⟨by rw [HX.out]; rfl, by (repeat (first | assumption | exact Below.refl _ _ | refine ba ?_ _ | refine bd ?_ | refine bdn ?_ _ | refine bs ?_ (by first | omega | (simp; done) | (simp; omega)) _ | refine bt ?_ (by assumption)))⟩
theorem rsame_any (va vb : Value) (la lb : List Pt) (hl : la.length < 1000000000) : PureOn (fun w => Vc w va la ∧ Vc w vb lb) Try.prog 66 #[va, vb] (.bool (decide (la = lb))) := fun W ⟨hA, hB⟩ => by
  by_cases hn : la.length = lb.length
  · by_cases h0 : 0 < la.length
    · exact rsame_some va vb la lb hn h0 hl W hA hB
    · have e1 : la = [] := List.eq_nil_of_length_eq_zero (by omega)
      have e2 : lb = [] := List.eq_nil_of_length_eq_zero (by omega)
      subst e1 e2
      rw [decide_eq_true rfl]; exact rsame_nil va vb W hA hB
  · rw [decide_eq_false fun h => hn (by rw [h])]; exact rsame_len va vb la lb hn W hA hB
end Go.Proofs.Ytennhfkhdfalfaa

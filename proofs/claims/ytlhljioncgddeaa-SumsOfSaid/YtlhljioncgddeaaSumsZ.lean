/- The walk of SumsOf. Condition: none. -/
import Derived.Test.YtlhljioncgddeaaSumsX
namespace Go.Proofs.Ytlhljioncgddeaa
open Go.RowKit
attribute [local go_sem] ext_cell ext_frozen Mix.calmUpon Mix.mUpon
theorem eq4_yes (a b : Nat → Int) (h : ∀ j, j < 4 → a j = b j) (w : World) : (Op.equalIn 10000 24 (.agg #[.int .i64 (a 0), .int .i64 (a 1), .int .i64 (a 2), .int .i64 (a 3)]) (.agg #[.int .i64 (b 0), .int .i64 (b 1), .int .i64 (b 2), .int .i64 (b 3)])).run Try.prog w = .ok true w := by
  rw [eq4, h 0 (by omega), h 1 (by omega), h 2 (by omega), h 3 (by omega)]; simp
theorem sumsl_long (va vb : Value) (la lb : List Pt) (W : World) (hA : Vc W va la) (hV : Vc W vb lb) (hl : ¬ (la.length ≤ 150 ∧ lb.length ≤ 150)) : Calls Try.prog 3 #[va, vb] W fun e w' => e = .returned (.bool true) ∧ Below W.heap.size W w' := by
  obtain ⟨a, n, c, rfl, hn, _, _⟩ := hA.form'
  obtain ⟨a', n', c', rfl, hn', _, _⟩ := hV.form'
  rw [← hn, ← hn'] at hl
  clear hA hV hn hn'
  by_cases h1 : n ≤ 150
  · have h2 : 150 < n' := by omega
    have h2I : 150 < (n' : Int) := by omega
    have h1I : (n : Int) ≤ 150 := by omega
    clear hl
    go_enter Try.func3, Try.ntmps3
    go_wp2
    go_ret
    refine ⟨rfl, ?_⟩
    (repeat (first | assumption | exact Below.refl _ _ | refine ba ?_ _ | refine bd ?_ | refine bdn ?_ _ | refine bs ?_ (by first | omega | (simp; done) | (simp; omega)) _ | refine bt ?_ (by assumption)))
  · have h2 : 150 < n := by omega
    have h2I : 150 < (n : Int) := by omega
    clear hl h1
    go_enter Try.func3, Try.ntmps3
    go_wp2
    go_ret
    refine ⟨rfl, ?_⟩
    (repeat (first | assumption | exact Below.refl _ _ | refine ba ?_ _ | refine bd ?_ | refine bdn ?_ _ | refine bs ?_ (by first | omega | (simp; done) | (simp; omega)) _ | refine bt ?_ (by assumption)))
set_option maxRecDepth 100000 in
set_option maxHeartbeats 4000000 in
theorem sumsl_bad (va vb : Value) (la lb : List Pt) (W : World) (hA : Vc W va la) (hV : Vc W vb lb) (hl : la.length ≤ 150 ∧ lb.length ≤ 150) (h : ¬ VR la) : Calls Try.prog 3 #[va, vb] W fun e w' => e = .returned (.bool true) ∧ Below W.heap.size W w' := by
  have HA := Lib.hid hA
  obtain ⟨a, n, c, rfl, hn, _, _⟩ := hA.form'
  obtain ⟨a', n', c', rfl, hn', _, _⟩ := hV.form'
  have h1 : n ≤ 150 := by omega
  have h1I : (n : Int) ≤ 150 := by omega
  have h2 : n' ≤ 150 := by omega
  have h2I : (n' : Int) ≤ 150 := by omega
  have S1 := Lib.hid (sums_no (.slice a n c) la (by omega) h)
  have R1 := vecright_v (.slice a n c) la (by omega)
  rw [decide_eq_false h] at R1
  have R1 := Lib.hid R1
  have hq : ∀ w, (Op.equalIn 10000 24 Z0 Z0).run Try.prog w = .ok true w := fun w => eq4_yes (fun _ => 0) (fun _ => 0) (fun _ _ => rfl) w
  clear hA hV hn hn' hl h
  go_enter Try.func3, Try.ntmps3
  go_wp2_with fail
  (with_reducible refine (S1.out.app _ HA.out).mono ?_)
  rintro e w1 ⟨rfl, hb1⟩
  have hs1 : W.heap.size + 0 ≤ w1.heap.size := (by have h := hb1.size; first | omega | (simp at h; omega))
  obtain ⟨hc1, hf1, hl1⟩ := bcell hb1
  clear hl1
  go_wp2_with fail
  (with_reducible refine (R1.out.app _ (HA.out.on (by (repeat (first | assumption | exact Below.refl _ _ | refine ba ?_ _ | refine bd ?_ | refine bdn ?_ _ | refine bs ?_ (by first | omega | (simp; done) | (simp; omega)) _ | refine bt ?_ (by assumption)))))).mono ?_)
  rintro e w2 ⟨rfl, hb2⟩
  have hs2 : w1.heap.size + 1 ≤ w2.heap.size := (by have h := hb2.size; first | omega | (simp at h; omega))
  have hb1_2 := bel hb1 hb2 (by (repeat (first | assumption | exact Below.refl _ _ | refine ba ?_ _ | refine bd ?_ | refine bdn ?_ _ | refine bs ?_ (by first | omega | (simp; done) | (simp; omega)) _ | refine bt ?_ (by assumption))))
  clear hc1 hf1
  have hz2_0 : w1.heap.size < w2.heap.size := (by omega)
  obtain ⟨hc2, hf2, hl2⟩ := bcell hb2
  clear hl2
  go_wp2_with fail
  (with_reducible refine (works6 _).mono ?_)
  rintro e w3 ⟨rfl, hb3⟩
  have hs3 : w2.heap.size + 0 ≤ w3.heap.size := (by have h := hb3.size; first | omega | (simp at h; omega))
  have hb1_3 := bel hb1_2 hb3 (by (repeat (first | assumption | exact Below.refl _ _ | refine ba ?_ _ | refine bd ?_ | refine bdn ?_ _ | refine bs ?_ (by first | omega | (simp; done) | (simp; omega)) _ | refine bt ?_ (by assumption))))
  have hb2_3 := bel hb2 hb3 (by (repeat (first | assumption | exact Below.refl _ _ | refine ba ?_ _ | refine bd ?_ | refine bdn ?_ _ | refine bs ?_ (by first | omega | (simp; done) | (simp; omega)) _ | refine bt ?_ (by assumption))))
  clear hz2_0 hc2 hf2
  obtain ⟨hc2_3, hf2_3, hl2_3⟩ := bcell hb2_3
  clear hl2_3
  have hz3_0 : w1.heap.size < w3.heap.size := (by omega)
  obtain ⟨hc3, hf3, hl3⟩ := bcell hb3
  clear hl3
  go_wp2
  go_ret
  refine ⟨rfl, ?_⟩
  (repeat (first | assumption | exact Below.refl _ _ | refine ba ?_ _ | refine bd ?_ | refine bdn ?_ _ | refine bs ?_ (by first | omega | (simp; done) | (simp; omega)) _ | refine bt ?_ (by assumption)))
set_option maxRecDepth 100000 in
set_option maxHeartbeats 8000000 in
theorem sumsl_good (va vb : Value) (la lb : List Pt) (W : World) (hA : Vc W va la) (hV : Vc W vb lb) (hl : la.length ≤ 150 ∧ lb.length ≤ 150) (h : VR la) : Calls Try.prog 3 #[va, vb] W fun e w' => e = .returned (.bool true) ∧ Below W.heap.size W w' := by
  have HA := Lib.hid hA; have HV := Lib.hid hV
  obtain ⟨a, n, c, rfl, hn, hC⟩ := hA.cells
  obtain ⟨a', n', c', rfl, hn', _, _⟩ := hV.form'
  have HC := Lib.hid hC; have HN := Lib.hid hn; have HVA := Lib.hid h
  have h1 : n ≤ 150 := by omega
  have h1I : (n : Int) ≤ 150 := by omega
  have h2 : n' ≤ 150 := by omega
  have h2I : (n' : Int) ≤ 150 := by omega
  have S1 := sums_v (.slice a n c) la (by omega)
  have S2 := sums_v (.slice a' n' c') lb (by omega)
  have SA := sadd_v la lb
  have hx : ∀ j, sO la j = kS la j := fun j => by unfold sO; rw [if_pos h]
  have P1 := fun w (h : Vc w (.slice a n c) la) (h' : Vc w (.slice a' n' c') lb) => vadd_any (.slice a n c) (.slice a' n' c') la lb (by omega) (by omega) w h h'
  have hs : ((mrg gAdd la lb).isSome = true → ∀ j, sO ((mrg gAdd la lb).getD []) j = sO la j + sO lb j) ∧ ((mrg gAdd la lb).getD []).length ≤ 132 := by
    rcases hm : mrg gAdd la lb with _ | s
    · exact ⟨fun h => (by cases h), by simp⟩
    · exact ⟨fun _ => sO_add hm, vr_len (mrg_some gAdd0 gAddB hm).2.2.1⟩
  unfold RetO at P1
  generalize (mrg gAdd la lb).isSome = q at P1 hs
  generalize (mrg gAdd la lb).getD [] = L at P1 hs
  obtain ⟨hs, hL⟩ := hs
  have S3 := Lib.hid fun v => sums_v v L (by omega)
  generalize sO la = X at *
  generalize sO lb = Y at *
  have HX := Lib.hid hx; have HS := Lib.hid hs
  have S1 := Lib.hid S1; have S2 := Lib.hid S2; have SA := Lib.hid SA; have P1 := Lib.hid P1
  have R1 := vecright_v (.slice a n c) la (by omega)
  rw [decide_eq_true h] at R1
  have R1 := Lib.hid R1
  clear hA hV hn hn' hl h hC hx hs hL
  go_enter Try.func3, Try.ntmps3
  go_wp2_with fail
  (with_reducible refine (S1.out.app _ HA.out).mono ?_)
  rintro e w1 ⟨rfl, hb1⟩
  have hs1 : W.heap.size + 0 ≤ w1.heap.size := (by have h := hb1.size; first | omega | (simp at h; omega))
  obtain ⟨hc1, hf1, hl1⟩ := bcell hb1
  clear hl1
  go_wp2_with fail
  (with_reducible refine (R1.out.app _ (HA.out.on (by (repeat (first | assumption | exact Below.refl _ _ | refine ba ?_ _ | refine bd ?_ | refine bdn ?_ _ | refine bs ?_ (by first | omega | (simp; done) | (simp; omega)) _ | refine bt ?_ (by assumption)))))).mono ?_)
  rintro e w2 ⟨rfl, hb2⟩
  have hs2 : w1.heap.size + 1 ≤ w2.heap.size := (by have h := hb2.size; first | omega | (simp at h; omega))
  have hb1_2 := bel hb1 hb2 (by (repeat (first | assumption | exact Below.refl _ _ | refine ba ?_ _ | refine bd ?_ | refine bdn ?_ _ | refine bs ?_ (by first | omega | (simp; done) | (simp; omega)) _ | refine bt ?_ (by assumption))))
  clear hc1 hf1
  have hz2_0 : w1.heap.size < w2.heap.size := (by omega)
  obtain ⟨hc2, hf2, hl2⟩ := bcell hb2
  clear hl2
  have HB2 := Lib.hid (show Below W.heap.size W w2 by (repeat (first | assumption | exact Below.refl _ _ | refine ba ?_ _ | refine bd ?_ | refine bdn ?_ _ | refine bs ?_ (by first | omega | (simp; done) | (simp; omega)) _ | refine bt ?_ (by assumption))))
  have hxb : w1.heap.size < w2.heap.size := by omega
  have HXC := Lib.hid (show ∀ j, j < 4 → w2.cell? ⟨w1.heap.size, j, none⟩ = some (.int .i64 (X j)) from fun j hj => by
    rw [hb2.cell (p := ⟨w1.heap.size, j, none⟩) (by simp)]
    exact c4_cell w1 X 24 j hj)
  go_wp2
  go_loopw [6] (fun kd wr => ∃ k : Nat, k ≤ 4 ∧ kd = .int .i64 k ∧ Below w2.heap.size w2 wr) (fun kd _ => 4 - (intOf kd).toNat)
  case atStart => exact ⟨0, by omega, rfl, Below.refl _ _⟩
  case round =>
    obtain ⟨k, hk4, rfl, hb3⟩ := hrel
    obtain ⟨w3, rfl⟩ : ∃ w3 : World, w3 = wr := ⟨_, rfl⟩
    have hs3 : w2.heap.size + 0 ≤ w3.heap.size := (by have h := hb3.size; first | omega | (simp at h; omega))
    obtain ⟨hc3, hf3, hl3⟩ := bcell hb3
    clear hl3
    by_cases hlt4 : k < 4
    · have hks : (k : Int) < 4 := by omega
      have hxk := HXC.out k hlt4
      go_wp2
      go_loopw [7, 8] (fun nv i wr => ∃ (t : Nat) (y : Int), t ≤ n ∧ i = .int .i64 t ∧ nv = .int .i64 y ∧ Hid (y = kS (la.take t) k) ∧ Below w3.heap.size w3 wr) (fun _ i _ => n - (intOf i).toNat)
      case atStart => exact ⟨0, 0, Nat.zero_le _, rfl, rfl, Lib.hid (by simp [kS]), Below.refl _ _⟩
      case round =>
        obtain ⟨t, y, ht, rfl, rfl, HY, hb4⟩ := hrel
        obtain ⟨w4, rfl⟩ : ∃ w4 : World, w4 = wr := ⟨_, rfl⟩
        have hs4 : w3.heap.size + 0 ≤ w4.heap.size := (by have h := hb4.size; first | omega | (simp at h; omega))
        have hb3_4 := bel hb3 hb4 (by (repeat (first | assumption | exact Below.refl _ _ | refine ba ?_ _ | refine bd ?_ | refine bdn ?_ _ | refine bs ?_ (by first | omega | (simp; done) | (simp; omega)) _ | refine bt ?_ (by assumption))))
        clear hc3 hf3
        obtain ⟨hc4, hf4, hl4⟩ := bcell hb4
        clear hl4
        have HW4 := Lib.hid (show Below W.heap.size W w4 from bt HB2.out (bt hb3 hb4))
        by_cases hlt5 : t < n
        · have hts : (t : Int) < (n : Int) := by omega
          have hll : t < la.length := by rw [← HN.out]; exact hlt5
          obtain ⟨b, off, rfl, hb, c0, c1, c2⟩ := HC.out t hlt5
          have d0 := (HW4.out.cell (p := ⟨b, off + t * 3, none⟩) hb).trans c0
          have d2 := (HW4.out.cell (p := ⟨b, off + t * 3 + 2, none⟩) hb).trans c2
          have hbl4 : b < w4.heap.size := Nat.lt_of_lt_of_le hb HW4.out.size
          have HT := Lib.hid (show kS (la.take (t + 1)) k = y + if kk la t = (k : Int) then aa la t else 0 by rw [take_succ' hll, kS_snoc, HY.out])
          have hbd := kS_bd (HVA.out.take (t + 1)) k
          have hbd0 := kS_bd (HVA.out.take t) k
          rw [← HY.out] at hbd0
          rw [HT.out] at hbd
          clear hll c0 c1 c2
          generalize kk la t = k2 at *; generalize aa la t = x at *
          by_cases he : k2 = (k : Int)
          · have heq : (k2 == (k : Int)) = true := by simpa using he
            rw [if_pos he] at hbd HT
            have wv : IntKind.i64.wrap (y + x) = y + x := IntWalk.i64_in _ (by omega)
            clear he
            go_wp2
            go_roundw
            case rel => exact ⟨t + 1, y + x, by omega, by go_num, rfl, Lib.hid HT.out.symm, by (repeat (first | assumption | exact Below.refl _ _ | refine ba ?_ _ | refine bd ?_ | refine bdn ?_ _ | refine bs ?_ (by first | omega | (simp; done) | (simp; omega)) _ | refine bt ?_ (by assumption)))⟩
            case measure => simp [intOf]; omega
          · have heq : (k2 == (k : Int)) = false := by simpa using he
            rw [if_neg he] at hbd HT
            clear he
            go_wp2
            go_roundw
            case rel => exact ⟨t + 1, y, by omega, by go_num, rfl, Lib.hid (by rw [HT.out]; omega), by (repeat (first | assumption | exact Below.refl _ _ | refine ba ?_ _ | refine bd ?_ | refine bdn ?_ _ | refine bs ?_ (by first | omega | (simp; done) | (simp; omega)) _ | refine bt ?_ (by assumption)))⟩
            case measure => simp [intOf]; omega
        · obtain rfl : n = t := by omega
          have hY := HY.out
          rw [show la.take n = la from by rw [HN.out]; exact List.take_length, ← HX.out k] at hY
          subst hY
          have e0 := (show Below w2.heap.size w2 w4 from bt hb3 hb4).cell (p := ⟨w1.heap.size, k, none⟩) hxb
          rw [hxk] at e0
          have hxb4 : w1.heap.size < w4.heap.size := by have := hb3.size; have := hb4.size; omega
          go_wp2
          go_roundw
          case rel => exact ⟨k + 1, by omega, by go_num, bt hb3 hb4⟩
          case measure => simp [intOf]; omega
    · obtain rfl : k = 4 := by omega
      have HW3 := Lib.hid (show Below W.heap.size W w3 from bt HB2.out hb3)
      have HX3 := Lib.hid (show ∀ j, j < 4 → w3.cell? ⟨w1.heap.size, j, none⟩ = some (.int .i64 (X j)) from fun j hj => (hb3.cell (p := ⟨w1.heap.size, j, none⟩) hxb).trans (HXC.out j hj))
      have hxb3 : w1.heap.size < w3.heap.size := by have := hb3.size; omega
      have x0 := HX3.out 0 (by omega); have x1 := HX3.out 1 (by omega); have x2 := HX3.out 2 (by omega); have x3 := HX3.out 3 (by omega)
      go_wp2_with fail
      refine (P1.out _ (HA.out.on HW3.out) (HV.out.on HW3.out)).mono ?_
      rintro e w5 ⟨v5, rfl, hv5, hb5⟩
      have HV5 := Lib.hid hv5
      clear hv5
      have hs5 : w3.heap.size + 0 ≤ w5.heap.size := (by have h := hb5.size; first | omega | (simp at h; omega))
      have hb3_5 := bel hb3 hb5 (by (repeat (first | assumption | exact Below.refl _ _ | refine ba ?_ _ | refine bd ?_ | refine bdn ?_ _ | refine bs ?_ (by first | omega | (simp; done) | (simp; omega)) _ | refine bt ?_ (by assumption))))
      clear hc3 hf3
      obtain ⟨hc5, hf5, hl5⟩ := bcell hb5
      clear hl5
      have HW5 := Lib.hid (show Below W.heap.size W w5 from bt HW3.out hb5)
      have hxb5 : w1.heap.size < w5.heap.size := by omega
      have V5 := Lib.hid (fun x : Ext w5 => (HV.out.on HW5.out).on (ext_below _ x))
      go_wp2_with fail
      refine Mix.region0 (by kernel_rfl) ?_
      intro w6 hb6
      refine Mix.take_ex (_) 0 rfl (by kernel_rfl) (by kernel_rfl) (by kernel_rfl) (by kernel_rfl) (fun K hK => ?_)
      go_simp
      first | (refine hK _ ?_; clear hK K) | (apply Exists.intro; refine ⟨fun x => ?_, hK _ ?_⟩; ((go_simp; exact ⟨rfl, rfl⟩)); clear hK K)
      refine Mix.take_ex (_) 1 rfl (by kernel_rfl) (by kernel_rfl) (by kernel_rfl) (by kernel_rfl) (fun K hK => ?_)
      go_simp
      first | (refine hK _ ?_; clear hK K) | (apply Exists.intro; refine ⟨fun x => ?_, hK _ ?_⟩; (fail); clear hK K)
      refine Mix.take_ex (_) 2 rfl (by kernel_rfl) (by kernel_rfl) (by kernel_rfl) (by kernel_rfl) (fun K hK => ?_)
      go_simp
      first | (refine hK _ ?_; clear hK K) | (apply Exists.intro; refine ⟨fun x => ?_, hK _ ?_⟩; ((go_at_call 4; with_reducible exact S2.out.app _ (V5.out _))); clear hK K)
      refine Mix.take_ex (_) 3 rfl (by kernel_rfl) (by kernel_rfl) (by kernel_rfl) (by kernel_rfl) (fun K hK => ?_)
      go_simp
      first | (refine hK _ ?_; clear hK K) | (apply Exists.intro; refine ⟨fun x => ?_, hK _ ?_⟩; ((go_at_call 8; with_reducible exact SA.out _)); clear hK K)
      refine Mix.take_ex (_) 4 rfl (by kernel_rfl) (by kernel_rfl) (by kernel_rfl) (by kernel_rfl) (fun K hK => ?_)
      go_simp
      first | (refine hK _ ?_; clear hK K) | (apply Exists.intro; refine ⟨fun x => ?_, hK _ ?_⟩; (fail); clear hK K)
      refine Mix.take_ex (_) 5 rfl (by kernel_rfl) (by kernel_rfl) (by kernel_rfl) (by kernel_rfl) (fun K hK => ?_)
      go_simp
      first | (refine hK _ ?_; clear hK K) | (apply Exists.intro; refine ⟨fun x => ?_, hK _ ?_⟩; (fail); clear hK K)
      refine Mix.take_ex (_) 6 rfl (by kernel_rfl) (by kernel_rfl) (by kernel_rfl) (by kernel_rfl) (fun K hK => ?_)
      go_simp
      first | (refine hK _ ?_; clear hK K) | (apply Exists.intro; refine ⟨fun x => ?_, hK _ ?_⟩; (fail); clear hK K)
      have hs6 : w5.heap.size + 0 ≤ w6.heap.size := (by have h := hb6.size; first | omega | (simp at h; omega))
      have hb3_6 := bel hb3_5 hb6 (by (repeat (first | assumption | exact Below.refl _ _ | refine ba ?_ _ | refine bd ?_ | refine bdn ?_ _ | refine bs ?_ (by first | omega | (simp; done) | (simp; omega)) _ | refine bt ?_ (by assumption))))
      have hb5_6 := bel hb5 hb6 (by (repeat (first | assumption | exact Below.refl _ _ | refine ba ?_ _ | refine bd ?_ | refine bdn ?_ _ | refine bs ?_ (by first | omega | (simp; done) | (simp; omega)) _ | refine bt ?_ (by assumption))))
      clear hc5 hf5
      obtain ⟨hc6, hf6, hl6⟩ := bcell hb6
      clear hl6
      refine Mix.all (rs := [7]) (by kernel_rfl) (by simp) (Mix.over_of (by (repeat (first | assumption | exact Below.refl _ _ | refine ba ?_ _ | refine bd ?_ | refine bdn ?_ _ | refine bs ?_ (by first | omega | (simp; done) | (simp; omega)) _ | refine bt ?_ (by assumption))))) ?_
      intro i7 hi7 w7 hb7 hC7
      clear hC7
      have hs7 : w6.heap.size + 0 ≤ w7.heap.size := (by have h := hb7.size; first | omega | (simp at h; omega))
      have hb3_7 := bel hb3_6 hb7 (by (repeat (first | assumption | exact Below.refl _ _ | refine ba ?_ _ | refine bd ?_ | refine bdn ?_ _ | refine bs ?_ (by first | omega | (simp; done) | (simp; omega)) _ | refine bt ?_ (by assumption))))
      have hb5_7 := bel hb5_6 hb7 (by (repeat (first | assumption | exact Below.refl _ _ | refine ba ?_ _ | refine bd ?_ | refine bdn ?_ _ | refine bs ?_ (by first | omega | (simp; done) | (simp; omega)) _ | refine bt ?_ (by assumption))))
      have hb6_7 := bel hb6 hb7 (by (repeat (first | assumption | exact Below.refl _ _ | refine ba ?_ _ | refine bd ?_ | refine bdn ?_ _ | refine bs ?_ (by first | omega | (simp; done) | (simp; omega)) _ | refine bt ?_ (by assumption))))
      clear hc6 hf6
      obtain ⟨hc7, hf7, hl7⟩ := bcell hb7
      clear hl7
      simp only [List.mem_cons, List.not_mem_nil, or_false] at hi7
      subst hi7
      refine Mix.op rfl (by kernel_rfl) ?_
      go_simp
      refine Mix.all (rs := [8]) (by kernel_rfl) (by simp) (Mix.over_of (by (repeat (first | assumption | exact Below.refl _ _ | refine ba ?_ _ | refine bd ?_ | refine bdn ?_ _ | refine bs ?_ (by first | omega | (simp; done) | (simp; omega)) _ | refine bt ?_ (by assumption))))) ?_
      intro i8 hi8 w8 hb8 hC8
      clear hC8
      have hs8 : w7.heap.size + 1 ≤ w8.heap.size := (by have h := hb8.size; first | omega | (simp at h; omega))
      have hb3_8 := bel hb3_7 hb8 (by (repeat (first | assumption | exact Below.refl _ _ | refine ba ?_ _ | refine bd ?_ | refine bdn ?_ _ | refine bs ?_ (by first | omega | (simp; done) | (simp; omega)) _ | refine bt ?_ (by assumption))))
      have hb5_8 := bel hb5_7 hb8 (by (repeat (first | assumption | exact Below.refl _ _ | refine ba ?_ _ | refine bd ?_ | refine bdn ?_ _ | refine bs ?_ (by first | omega | (simp; done) | (simp; omega)) _ | refine bt ?_ (by assumption))))
      have hb6_8 := bel hb6_7 hb8 (by (repeat (first | assumption | exact Below.refl _ _ | refine ba ?_ _ | refine bd ?_ | refine bdn ?_ _ | refine bs ?_ (by first | omega | (simp; done) | (simp; omega)) _ | refine bt ?_ (by assumption))))
      have hb7_8 := bel hb7 hb8 (by (repeat (first | assumption | exact Below.refl _ _ | refine ba ?_ _ | refine bd ?_ | refine bdn ?_ _ | refine bs ?_ (by first | omega | (simp; done) | (simp; omega)) _ | refine bt ?_ (by assumption))))
      clear hc7 hf7
      have hz8_0 : w7.heap.size < w8.heap.size := (by omega)
      obtain ⟨hc8, hf8, hl8⟩ := bcell hb8
      clear hl8
      simp only [List.mem_cons, List.not_mem_nil, or_false] at hi8
      subst hi8
      refine Mix.op rfl (by kernel_rfl) ?_
      go_simp
      have HV8 := Lib.hid hb6_8
      have n0 : w8.cell? ⟨w7.heap.size, 0, none⟩ = some (.int .i64 0) := by simp [go_sem, hc8]
      have n1 : w8.cell? ⟨w7.heap.size, 1, none⟩ = some (.int .i64 0) := by simp [go_sem, hc8]
      have n2 : w8.cell? ⟨w7.heap.size, 2, none⟩ = some (.int .i64 0) := by simp [go_sem, hc8]
      have n3 : w8.cell? ⟨w7.heap.size, 3, none⟩ = some (.int .i64 0) := by simp [go_sem, hc8]
      have m8 : w7.heap.size < w8.heap.size := hz8_0
      have m7 : w5.heap.size ≤ w7.heap.size := by omega
      refine Mix.all (rs := [9]) (by kernel_rfl) (by simp) (Mix.over_of (bs (bs (bs (bs HV8.out (by simpa using m7) _) (by simpa using m7) _) (by simpa using m7) _) (by simpa using m7) _)) ?_
      intro i9 hi9 w9 hb9 hC9
      clear hC9
      have t0 : w9.cell? ⟨w7.heap.size, 0, none⟩ = some (.int .i64 (X 0 + Y 0)) := by
        rw [hb9.cell (by simpa using m8)]; simp [go_sem, n0]
      have t1 : w9.cell? ⟨w7.heap.size, 1, none⟩ = some (.int .i64 (X 1 + Y 1)) := by
        rw [hb9.cell (by simpa using m8)]; simp [go_sem, n1]
      have t2 : w9.cell? ⟨w7.heap.size, 2, none⟩ = some (.int .i64 (X 2 + Y 2)) := by
        rw [hb9.cell (by simpa using m8)]; simp [go_sem, n2]
      have t3 : w9.cell? ⟨w7.heap.size, 3, none⟩ = some (.int .i64 (X 3 + Y 3)) := by
        rw [hb9.cell (by simpa using m8)]; simp [go_sem, n3]
      have m9 : w7.heap.size < w9.heap.size := by have := hb9.size; simp at this; omega
      have hb9' : Below w5.heap.size w5 w9 := bt (bs (bs (bs (bs HV8.out (by simpa using m7) _) (by simpa using m7) _) (by simpa using m7) _) (by simpa using m7) _) hb9
      clear hb9 n0 n1 n2 n3 m8 m7 hc8 hf8 hz8_0
      have hb9 := hb9'
      clear hb9'
      have hs9 : w5.heap.size + 0 ≤ w9.heap.size := (by have h := hb9.size; first | omega | (simp at h; omega))
      obtain ⟨hc9, hf9, hl9⟩ := bcell hb9
      clear hl9
      simp only [List.mem_cons, List.not_mem_nil, or_false] at hi9
      subst hi9
      refine Mix.op rfl (by kernel_rfl) ?_
      go_simp
      refine Mix.done (by kernel_rfl) (Mix.over_of (by (repeat (first | assumption | exact Below.refl _ _ | refine ba ?_ _ | refine bd ?_ | refine bdn ?_ _ | refine bs ?_ (by first | omega | (simp; done) | (simp; omega)) _ | refine bt ?_ (by assumption))))) ?_
      intro w10 hb10
      have hs10 : w9.heap.size + 0 ≤ w10.heap.size := (by have h := hb10.size; first | omega | (simp at h; omega))
      have hb9_10 := bel hb9 hb10 (by (repeat (first | assumption | exact Below.refl _ _ | refine ba ?_ _ | refine bd ?_ | refine bdn ?_ _ | refine bs ?_ (by first | omega | (simp; done) | (simp; omega)) _ | refine bt ?_ (by assumption))))
      clear hc9 hf9
      obtain ⟨hc10, hf10, hl10⟩ := bcell hb10
      clear hl10
      have m10 : w7.heap.size < w10.heap.size := by omega
      have HB10 := Lib.hid (show Below w5.heap.size w5 w10 by (repeat (first | assumption | exact Below.refl _ _ | refine ba ?_ _ | refine bd ?_ | refine bdn ?_ _ | refine bs ?_ (by first | omega | (simp; done) | (simp; omega)) _ | refine bt ?_ (by assumption))))
      have X5 := Lib.hid (fun x : Ext w10 => (HV5.out.on HB10.out).on (ext_below _ x))
      have SL := Lib.hid (S3.out v5)
      clear x0 x1 x2 x3 S3
      cases q with
      | false =>
        go_wp2_with fail
        refine Mix.region0 (by kernel_rfl) ?_
        intro w11 hb11
        refine Mix.take_ex (_) 0 rfl (by kernel_rfl) (by kernel_rfl) (by kernel_rfl) (by kernel_rfl) (fun K hK => ?_)
        go_simp
        first | (refine hK _ ?_; clear hK K) | (apply Exists.intro; refine ⟨fun x => ?_, hK _ ?_⟩; (fail); clear hK K)
        refine Mix.take_ex (_) 1 rfl (by kernel_rfl) (by kernel_rfl) (by kernel_rfl) (by kernel_rfl) (fun K hK => ?_)
        go_simp
        first | (refine hK _ ?_; clear hK K) | (apply Exists.intro; refine ⟨fun x => ?_, hK _ ?_⟩; (fail); clear hK K)
        refine Mix.take_ex (_) 2 rfl (by kernel_rfl) (by kernel_rfl) (by kernel_rfl) (by kernel_rfl) (fun K hK => ?_)
        go_simp
        first | (refine hK _ ?_; clear hK K) | (apply Exists.intro; refine ⟨fun x => ?_, hK _ ?_⟩; (fail); clear hK K)
        refine Mix.take_skip (_) 3 rfl (by kernel_rfl) (by kernel_rfl) (by kernel_rfl) (by kernel_rfl) ?_
        go_simp
        refine Mix.take_skip (_) 4 rfl (by kernel_rfl) (by kernel_rfl) (by kernel_rfl) (by kernel_rfl) ?_
        go_simp
        refine Mix.take_skip (_) 5 rfl (by kernel_rfl) (by kernel_rfl) (by kernel_rfl) (by kernel_rfl) ?_
        go_simp
        refine Mix.take_skip (_) 6 rfl (by kernel_rfl) (by kernel_rfl) (by kernel_rfl) (by kernel_rfl) ?_
        go_simp
        refine Mix.take_skip (_) 7 rfl (by kernel_rfl) (by kernel_rfl) (by kernel_rfl) (by kernel_rfl) ?_
        go_simp
        refine Mix.take_skip (_) 8 rfl (by kernel_rfl) (by kernel_rfl) (by kernel_rfl) (by kernel_rfl) ?_
        go_simp
        refine Mix.take_skip (_) 9 rfl (by kernel_rfl) (by kernel_rfl) (by kernel_rfl) (by kernel_rfl) ?_
        go_simp
        refine Mix.take_ex (_) 10 rfl (by kernel_rfl) (by kernel_rfl) (by kernel_rfl) (by kernel_rfl) (fun K hK => ?_)
        go_simp
        first | (refine hK _ ?_; clear hK K) | (apply Exists.intro; refine ⟨fun x => ?_, hK _ ?_⟩; (fail); clear hK K)
        refine Mix.take_ex (_) 11 rfl (by kernel_rfl) (by kernel_rfl) (by kernel_rfl) (by kernel_rfl) (fun K hK => ?_)
        go_simp
        first | (refine hK _ ?_; clear hK K) | (apply Exists.intro; refine ⟨fun x => ?_, hK _ ?_⟩; (fail); clear hK K)
        refine Mix.take_ex (_) 12 rfl (by kernel_rfl) (by kernel_rfl) (by kernel_rfl) (by kernel_rfl) (fun K hK => ?_)
        go_simp
        first | (refine hK _ ?_; clear hK K) | (apply Exists.intro; refine ⟨fun x => ?_, hK _ ?_⟩; ((go_at_call 6; with_reducible exact works6 _)); clear hK K)
        refine Mix.take_ex (_) 13 rfl (by kernel_rfl) (by kernel_rfl) (by kernel_rfl) (by kernel_rfl) (fun K hK => ?_)
        go_simp
        first | (refine hK _ ?_; clear hK K) | (apply Exists.intro; refine ⟨fun x => ?_, hK _ ?_⟩; (fail); clear hK K)
        have hs11 : w10.heap.size + 0 ≤ w11.heap.size := (by have h := hb11.size; first | omega | (simp at h; omega))
        have hb9_11 := bel hb9_10 hb11 (by (repeat (first | assumption | exact Below.refl _ _ | refine ba ?_ _ | refine bd ?_ | refine bdn ?_ _ | refine bs ?_ (by first | omega | (simp; done) | (simp; omega)) _ | refine bt ?_ (by assumption))))
        have hb10_11 := bel hb10 hb11 (by (repeat (first | assumption | exact Below.refl _ _ | refine ba ?_ _ | refine bd ?_ | refine bdn ?_ _ | refine bs ?_ (by first | omega | (simp; done) | (simp; omega)) _ | refine bt ?_ (by assumption))))
        clear hc10 hf10
        obtain ⟨hc11, hf11, hl11⟩ := bcell hb11
        clear hl11
        refine Mix.all (rs := [14]) (by kernel_rfl) (by simp) (Mix.over_of (by (repeat (first | assumption | exact Below.refl _ _ | refine ba ?_ _ | refine bd ?_ | refine bdn ?_ _ | refine bs ?_ (by first | omega | (simp; done) | (simp; omega)) _ | refine bt ?_ (by assumption))))) ?_
        intro i12 hi12 w12 hb12 hC12
        clear hC12
        have hs12 : w11.heap.size + 0 ≤ w12.heap.size := (by have h := hb12.size; first | omega | (simp at h; omega))
        have hb9_12 := bel hb9_11 hb12 (by (repeat (first | assumption | exact Below.refl _ _ | refine ba ?_ _ | refine bd ?_ | refine bdn ?_ _ | refine bs ?_ (by first | omega | (simp; done) | (simp; omega)) _ | refine bt ?_ (by assumption))))
        have hb10_12 := bel hb10_11 hb12 (by (repeat (first | assumption | exact Below.refl _ _ | refine ba ?_ _ | refine bd ?_ | refine bdn ?_ _ | refine bs ?_ (by first | omega | (simp; done) | (simp; omega)) _ | refine bt ?_ (by assumption))))
        have hb11_12 := bel hb11 hb12 (by (repeat (first | assumption | exact Below.refl _ _ | refine ba ?_ _ | refine bd ?_ | refine bdn ?_ _ | refine bs ?_ (by first | omega | (simp; done) | (simp; omega)) _ | refine bt ?_ (by assumption))))
        clear hc11 hf11
        obtain ⟨hc12, hf12, hl12⟩ := bcell hb12
        clear hl12
        simp only [List.mem_cons, List.not_mem_nil, or_false] at hi12
        subst hi12
        refine Mix.op rfl (by kernel_rfl) ?_
        go_simp
        refine Mix.done (by kernel_rfl) (Mix.over_of (by (repeat (first | assumption | exact Below.refl _ _ | refine ba ?_ _ | refine bd ?_ | refine bdn ?_ _ | refine bs ?_ (by first | omega | (simp; done) | (simp; omega)) _ | refine bt ?_ (by assumption))))) ?_
        intro w13 hb13
        have hs13 : w12.heap.size + 0 ≤ w13.heap.size := (by have h := hb13.size; first | omega | (simp at h; omega))
        have hb9_13 := bel hb9_12 hb13 (by (repeat (first | assumption | exact Below.refl _ _ | refine ba ?_ _ | refine bd ?_ | refine bdn ?_ _ | refine bs ?_ (by first | omega | (simp; done) | (simp; omega)) _ | refine bt ?_ (by assumption))))
        have hb10_13 := bel hb10_12 hb13 (by (repeat (first | assumption | exact Below.refl _ _ | refine ba ?_ _ | refine bd ?_ | refine bdn ?_ _ | refine bs ?_ (by first | omega | (simp; done) | (simp; omega)) _ | refine bt ?_ (by assumption))))
        have hb11_13 := bel hb11_12 hb13 (by (repeat (first | assumption | exact Below.refl _ _ | refine ba ?_ _ | refine bd ?_ | refine bdn ?_ _ | refine bs ?_ (by first | omega | (simp; done) | (simp; omega)) _ | refine bt ?_ (by assumption))))
        have hb12_13 := bel hb12 hb13 (by (repeat (first | assumption | exact Below.refl _ _ | refine ba ?_ _ | refine bd ?_ | refine bdn ?_ _ | refine bs ?_ (by first | omega | (simp; done) | (simp; omega)) _ | refine bt ?_ (by assumption))))
        clear hc12 hf12
        obtain ⟨hc13, hf13, hl13⟩ := bcell hb13
        clear hl13
        go_wp2
        go_ret
        refine ⟨rfl, ?_⟩
        exact bt HW5.out (by (repeat (first | assumption | exact Below.refl _ _ | refine ba ?_ _ | refine bd ?_ | refine bdn ?_ _ | refine bs ?_ (by first | omega | (simp; done) | (simp; omega)) _ | refine bt ?_ (by assumption))))
      | true =>
        have hq : ∀ w, (Op.equalIn 10000 24 (.agg #[.int .i64 (sO L 0), .int .i64 (sO L 1), .int .i64 (sO L 2), .int .i64 (sO L 3)]) (.agg #[.int .i64 (X 0 + Y 0), .int .i64 (X 1 + Y 1), .int .i64 (X 2 + Y 2), .int .i64 (X 3 + Y 3)])).run Try.prog w = .ok true w := fun w => eq4_yes (sO L) (fun j => X j + Y j) (fun j _ => HS.out rfl j) w
        go_wp2_with fail
        refine Mix.region0 (by kernel_rfl) ?_
        intro w11 hb11
        refine Mix.take_ex (_) 0 rfl (by kernel_rfl) (by kernel_rfl) (by kernel_rfl) (by kernel_rfl) (fun K hK => ?_)
        go_simp
        first | (refine hK _ ?_; clear hK K) | (apply Exists.intro; refine ⟨fun x => ?_, hK _ ?_⟩; (fail); clear hK K)
        refine Mix.take_ex (_) 1 rfl (by kernel_rfl) (by kernel_rfl) (by kernel_rfl) (by kernel_rfl) (fun K hK => ?_)
        go_simp
        first | (refine hK _ ?_; clear hK K) | (apply Exists.intro; refine ⟨fun x => ?_, hK _ ?_⟩; (fail); clear hK K)
        refine Mix.take_ex (_) 2 rfl (by kernel_rfl) (by kernel_rfl) (by kernel_rfl) (by kernel_rfl) (fun K hK => ?_)
        go_simp
        first | (refine hK _ ?_; clear hK K) | (apply Exists.intro; refine ⟨fun x => ?_, hK _ ?_⟩; (fail); clear hK K)
        refine Mix.take_ex (_) 3 rfl (by kernel_rfl) (by kernel_rfl) (by kernel_rfl) (by kernel_rfl) (fun K hK => ?_)
        go_simp
        first | (refine hK _ ?_; clear hK K) | (apply Exists.intro; refine ⟨fun x => ?_, hK _ ?_⟩; (fail); clear hK K)
        refine Mix.take_ex (_) 4 rfl (by kernel_rfl) (by kernel_rfl) (by kernel_rfl) (by kernel_rfl) (fun K hK => ?_)
        go_simp
        first | (refine hK _ ?_; clear hK K) | (apply Exists.intro; refine ⟨fun x => ?_, hK _ ?_⟩; (fail); clear hK K)
        refine Mix.take_ex (_) 5 rfl (by kernel_rfl) (by kernel_rfl) (by kernel_rfl) (by kernel_rfl) (fun K hK => ?_)
        go_simp
        first | (refine hK _ ?_; clear hK K) | (apply Exists.intro; refine ⟨fun x => ?_, hK _ ?_⟩; (fail); clear hK K)
        refine Mix.take_ex (_) 6 rfl (by kernel_rfl) (by kernel_rfl) (by kernel_rfl) (by kernel_rfl) (fun K hK => ?_)
        go_simp
        first | (refine hK _ ?_; clear hK K) | (apply Exists.intro; refine ⟨fun x => ?_, hK _ ?_⟩; ((go_at_call 4; with_reducible exact SL.out.app _ (X5.out _))); clear hK K)
        refine Mix.take_ex (_) 7 rfl (by kernel_rfl) (by kernel_rfl) (by kernel_rfl) (by kernel_rfl) (fun K hK => ?_)
        go_simp
        first | (refine hK _ ?_; clear hK K) | (apply Exists.intro; refine ⟨fun x => ?_, hK _ ?_⟩; ((go_simp; exact ⟨rfl, rfl⟩)); clear hK K)
        refine Mix.take_ex (_) 8 rfl (by kernel_rfl) (by kernel_rfl) (by kernel_rfl) (by kernel_rfl) (fun K hK => ?_)
        go_simp
        first | (refine hK _ ?_; clear hK K) | (apply Exists.intro; refine ⟨fun x => ?_, hK _ ?_⟩; ((go_simp; exact ⟨rfl, rfl⟩)); clear hK K)
        refine Mix.take_ex (_) 9 rfl (by kernel_rfl) (by kernel_rfl) (by kernel_rfl) (by kernel_rfl) (fun K hK => ?_)
        go_simp
        first | (refine hK _ ?_; clear hK K) | (apply Exists.intro; refine ⟨fun x => ?_, hK _ ?_⟩; (fail); clear hK K)
        refine Mix.take_ex (_) 10 rfl (by kernel_rfl) (by kernel_rfl) (by kernel_rfl) (by kernel_rfl) (fun K hK => ?_)
        go_simp
        first | (refine hK _ ?_; clear hK K) | (apply Exists.intro; refine ⟨fun x => ?_, hK _ ?_⟩; (fail); clear hK K)
        refine Mix.take_ex (_) 11 rfl (by kernel_rfl) (by kernel_rfl) (by kernel_rfl) (by kernel_rfl) (fun K hK => ?_)
        go_simp
        first | (refine hK _ ?_; clear hK K) | (apply Exists.intro; refine ⟨fun x => ?_, hK _ ?_⟩; (fail); clear hK K)
        refine Mix.take_ex (_) 12 rfl (by kernel_rfl) (by kernel_rfl) (by kernel_rfl) (by kernel_rfl) (fun K hK => ?_)
        go_simp
        first | (refine hK _ ?_; clear hK K) | (apply Exists.intro; refine ⟨fun x => ?_, hK _ ?_⟩; ((go_at_call 6; with_reducible exact works6 _)); clear hK K)
        refine Mix.take_ex (_) 13 rfl (by kernel_rfl) (by kernel_rfl) (by kernel_rfl) (by kernel_rfl) (fun K hK => ?_)
        go_simp
        first | (refine hK _ ?_; clear hK K) | (apply Exists.intro; refine ⟨fun x => ?_, hK _ ?_⟩; (fail); clear hK K)
        have hs11 : w10.heap.size + 0 ≤ w11.heap.size := (by have h := hb11.size; first | omega | (simp at h; omega))
        have hb9_11 := bel hb9_10 hb11 (by (repeat (first | assumption | exact Below.refl _ _ | refine ba ?_ _ | refine bd ?_ | refine bdn ?_ _ | refine bs ?_ (by first | omega | (simp; done) | (simp; omega)) _ | refine bt ?_ (by assumption))))
        have hb10_11 := bel hb10 hb11 (by (repeat (first | assumption | exact Below.refl _ _ | refine ba ?_ _ | refine bd ?_ | refine bdn ?_ _ | refine bs ?_ (by first | omega | (simp; done) | (simp; omega)) _ | refine bt ?_ (by assumption))))
        clear hc10 hf10
        obtain ⟨hc11, hf11, hl11⟩ := bcell hb11
        clear hl11
        refine Mix.all (rs := [14]) (by kernel_rfl) (by simp) (Mix.over_of (by (repeat (first | assumption | exact Below.refl _ _ | refine ba ?_ _ | refine bd ?_ | refine bdn ?_ _ | refine bs ?_ (by first | omega | (simp; done) | (simp; omega)) _ | refine bt ?_ (by assumption))))) ?_
        intro i12 hi12 w12 hb12 hC12
        clear hC12
        have hs12 : w11.heap.size + 0 ≤ w12.heap.size := (by have h := hb12.size; first | omega | (simp at h; omega))
        have hb9_12 := bel hb9_11 hb12 (by (repeat (first | assumption | exact Below.refl _ _ | refine ba ?_ _ | refine bd ?_ | refine bdn ?_ _ | refine bs ?_ (by first | omega | (simp; done) | (simp; omega)) _ | refine bt ?_ (by assumption))))
        have hb10_12 := bel hb10_11 hb12 (by (repeat (first | assumption | exact Below.refl _ _ | refine ba ?_ _ | refine bd ?_ | refine bdn ?_ _ | refine bs ?_ (by first | omega | (simp; done) | (simp; omega)) _ | refine bt ?_ (by assumption))))
        have hb11_12 := bel hb11 hb12 (by (repeat (first | assumption | exact Below.refl _ _ | refine ba ?_ _ | refine bd ?_ | refine bdn ?_ _ | refine bs ?_ (by first | omega | (simp; done) | (simp; omega)) _ | refine bt ?_ (by assumption))))
        clear hc11 hf11
        obtain ⟨hc12, hf12, hl12⟩ := bcell hb12
        clear hl12
        simp only [List.mem_cons, List.not_mem_nil, or_false] at hi12
        subst hi12
        refine Mix.op rfl (by kernel_rfl) ?_
        go_simp
        refine Mix.done (by kernel_rfl) (Mix.over_of (by (repeat (first | assumption | exact Below.refl _ _ | refine ba ?_ _ | refine bd ?_ | refine bdn ?_ _ | refine bs ?_ (by first | omega | (simp; done) | (simp; omega)) _ | refine bt ?_ (by assumption))))) ?_
        intro w13 hb13
        have hs13 : w12.heap.size + 0 ≤ w13.heap.size := (by have h := hb13.size; first | omega | (simp at h; omega))
        have hb9_13 := bel hb9_12 hb13 (by (repeat (first | assumption | exact Below.refl _ _ | refine ba ?_ _ | refine bd ?_ | refine bdn ?_ _ | refine bs ?_ (by first | omega | (simp; done) | (simp; omega)) _ | refine bt ?_ (by assumption))))
        have hb10_13 := bel hb10_12 hb13 (by (repeat (first | assumption | exact Below.refl _ _ | refine ba ?_ _ | refine bd ?_ | refine bdn ?_ _ | refine bs ?_ (by first | omega | (simp; done) | (simp; omega)) _ | refine bt ?_ (by assumption))))
        have hb11_13 := bel hb11_12 hb13 (by (repeat (first | assumption | exact Below.refl _ _ | refine ba ?_ _ | refine bd ?_ | refine bdn ?_ _ | refine bs ?_ (by first | omega | (simp; done) | (simp; omega)) _ | refine bt ?_ (by assumption))))
        have hb12_13 := bel hb12 hb13 (by (repeat (first | assumption | exact Below.refl _ _ | refine ba ?_ _ | refine bd ?_ | refine bdn ?_ _ | refine bs ?_ (by first | omega | (simp; done) | (simp; omega)) _ | refine bt ?_ (by assumption))))
        clear hc12 hf12
        obtain ⟨hc13, hf13, hl13⟩ := bcell hb13
        clear hl13
        go_wp2
        go_ret
        refine ⟨rfl, ?_⟩
        exact bt HW5.out (by (repeat (first | assumption | exact Below.refl _ _ | refine ba ?_ _ | refine bd ?_ | refine bdn ?_ _ | refine bs ?_ (by first | omega | (simp; done) | (simp; omega)) _ | refine bt ?_ (by assumption))))
theorem sumsl (va vb : Value) (la lb : List Pt) (W : World) (hA : Vc W va la) (hV : Vc W vb lb) : Calls Try.prog 3 #[va, vb] W fun e w' => e = .returned (.bool true) ∧ Below W.heap.size W w' := by
  by_cases hl : la.length ≤ 150 ∧ lb.length ≤ 150
  · by_cases h : VR la
    · exact sumsl_good va vb la lb W hA hV hl h
    · exact sumsl_bad va vb la lb W hA hV hl h
  · exact sumsl_long va vb la lb W hA hV hl
end Go.Proofs.Ytlhljioncgddeaa

/- For any wide number and any number of places the statement WideShifts returns true: every bit goes to its place, and the number needs as many bits as its highest one tells. No condition. -/
import Derived.Test.YtojfkpmdnhkanaaShift2
import Derived.Test.YtojfkpmdnhkanaaWideDivs
namespace Go.Proofs.Ytojfkpmdnhkanaa
open Go.RowKit DivM
attribute [local go_sem] ext_cell ext_frozen Mix.calmUpon Mix.mUpon

/-- The places that the bits below 'k' need. -/
def topB (V : Int) : Nat → Nat
  | 0 => 0
  | k + 1 => if bw V k then k + 1 else topB V k
theorem topB_le (V : Int) (k : Nat) : topB V k ≤ k := by
  induction k with
  | zero => exact Nat.le_refl _
  | succ k ih => unfold topB; split <;> omega
theorem div_succ (V : Int) (k : Nat) : V / 2 ^ (k + 1) = V / 2 ^ k / 2 := by
  rw [Int.pow_succ, Int.ediv_ediv_of_nonneg (Int.le_of_lt (Int.pow_pos (by decide)))]
theorem topB_hi (V : Int) (k : Nat) (hk : k ≤ 128) (h : V / 2 ^ k = 0) : V / 2 ^ topB V k = 0 := by
  induction k with
  | zero => exact h
  | succ k ih =>
    unfold topB
    split
    · exact h
    · rename_i hb
      rw [bw_nat V k (by omega)] at hb
      rw [div_succ] at h
      refine ih (by omega) ?_
      simp at hb
      omega
theorem topB_lo (V : Int) (k : Nat) (hk : k ≤ 128) (j : Nat) (hj : j < topB V k) : V / 2 ^ j ≠ 0 := by
  induction k with
  | zero => simp [topB] at hj
  | succ k ih =>
    unfold topB at hj
    split at hj
    · rename_i hb
      rw [bw_nat V k (by omega)] at hb
      intro h0
      obtain ⟨t, rfl⟩ : ∃ t, k = j + t := ⟨k - j, by omega⟩
      rw [Int.pow_add, ← Int.ediv_ediv_of_nonneg (Int.le_of_lt (Int.pow_pos (by decide))), h0] at hb
      simp at hb
    · exact ih (by omega) hj
theorem bits_top (V : Int) (hV : Wd V) : Pure Try.prog 30 #[WV V] (.int .i64 (topB V 128 : Nat)) :=
  bits_V V hV _ (topB_le V 128) (fun _ => topB_hi V 128 (Nat.le_refl _) (far_div V hV 128 (Nat.le_refl _))) (topB_lo V 128 (Nat.le_refl _))
theorem bw_down (V : Int) (hV : Wd V) (s k : Nat) (hk : k < 128) : bw (V / 2 ^ s) k = bw V ((k : Int) + s) := by
  rw [bw_nat _ k hk, Int.ediv_ediv_of_nonneg (Int.le_of_lt (Int.pow_pos (by decide))), ← Int.pow_add]
  by_cases h : s + k < 128
  · rw [show (k : Int) + s = ((s + k : Nat) : Int) by omega, bw_nat V _ h]
  · rw [bw_far V _ (by omega), far_div V hV _ (by omega)]
    rfl
theorem bw_up (V : Int) (s k : Nat) (hk : k < 128) : bw (V * 2 ^ s % B128) k = bw V ((k : Int) - s) := by
  rw [bw_nat _ k hk, ← pow128, mod_bit _ 128 k hk]
  by_cases h : s ≤ k
  · obtain ⟨t, rfl⟩ : ∃ t, k = t + s := ⟨k - s, by omega⟩
    rw [show ((t + s : Nat) : Int) - s = (t : Int) by omega, bw_nat V t (by omega), Int.pow_add, Int.mul_ediv_mul_of_pos_left _ _ (Int.pow_pos (by decide))]
  · obtain ⟨t, rfl⟩ : ∃ t, s = t + 1 + k := ⟨s - k - 1, by omega⟩
    rw [bw_neg V _ (by omega), Int.pow_add, ← Int.mul_assoc, Int.mul_ediv_cancel _ (by have : (0 : Int) < 2 ^ k := Int.pow_pos (by decide); omega), Int.pow_succ, ← Int.mul_assoc, Int.mul_emod_left]
    rfl
theorem wd_down (V : Int) (hV : Wd V) (s : Nat) : Wd (V / 2 ^ s) :=
  ⟨Int.ediv_nonneg hV.lo (Int.le_of_lt (Int.pow_pos (by decide))), Int.lt_of_le_of_lt (Int.ediv_le_self _ hV.lo) hV.hi⟩
theorem wd_up (x : Int) : Wd (x % B128) := ⟨Int.emod_nonneg _ (by decide), Int.emod_lt_of_pos _ (by decide)⟩

set_option maxHeartbeats 4000000 in
theorem shifts_core (ah al uh ul dh dl n : Int) (s : Nat) (hn0 : ¬ n < 0) (hs : min n 200 = s) (hsm : s ≤ 200) (bit : Nat → Bool) (top : Nat → Nat) (ht0 : top 0 = 0) (ht : ∀ k, top (k + 1) = if bit k then k + 1 else top k)
    (hU : Pure Try.prog 27 #[W2 ah al, .int .i64 n] (W2 uh ul)) (hD : Pure Try.prog 28 #[W2 ah al, .int .i64 n] (W2 dh dl))
    (h1 : ∀ k : Nat, k < 128 → ∃ x, Pure Try.prog 29 #[W2 uh ul, .int .i64 k] (.bool x) ∧ Pure Try.prog 29 #[W2 ah al, .int .i64 ((k : Int) - s)] (.bool x))
    (h2 : ∀ k : Nat, k < 128 → ∃ x, Pure Try.prog 29 #[W2 dh dl, .int .i64 k] (.bool x) ∧ Pure Try.prog 29 #[W2 ah al, .int .i64 ((k : Int) + s)] (.bool x))
    (h3 : ∀ k : Nat, k < 128 → Pure Try.prog 29 #[W2 ah al, .int .i64 k] (.bool (bit k)))
    (hB : Pure Try.prog 30 #[W2 ah al] (.int .i64 (top 128 : Nat))) :
    Pure Try.prog 6 #[W2 ah al, .int .i64 n] (.bool true) := by
  intro w
  have HU := Lib.hid hU; have HD := Lib.hid hD; have H1 := Lib.hid h1; have H2 := Lib.hid h2; have H3 := Lib.hid h3; have HB := Lib.hid hB; have HT := Lib.hid ht
  clear hU hD h1 h2 h3 hB ht
  go_enter Try.func6, Try.ntmps6
  go_wp2_with fail
  refine Mix.region0 (by kernel_rfl) ?_
  intro w1 hb1
  have hs1 : w.heap.size + 1 ≤ w1.heap.size := (by have h := hb1.size; first | omega | (simp at h; omega))
  have hz1_0 : w.heap.size < w1.heap.size := (by omega)
  obtain ⟨hc1, hf1, hl1⟩ := bcell hb1
  clear hl1
  refine Mix.take_ex (_) 0 rfl (by kernel_rfl) (by kernel_rfl) (by kernel_rfl) (by kernel_rfl) (fun K hK => ?_)
  go_simp
  first | (refine hK _ ?_; clear hK K) | (apply Exists.intro; refine ⟨fun x => ?_, hK _ ?_⟩; ((first | (go_at_call 27; with_reducible exact HU.out _) | (go_at_call 28; with_reducible exact HD.out _))); clear hK K)
  refine Mix.take_ex (_) 1 rfl (by kernel_rfl) (by kernel_rfl) (by kernel_rfl) (by kernel_rfl) (fun K hK => ?_)
  go_simp
  first | (refine hK _ ?_; clear hK K) | (apply Exists.intro; refine ⟨fun x => ?_, hK _ ?_⟩; ((first | (go_at_call 27; with_reducible exact HU.out _) | (go_at_call 28; with_reducible exact HD.out _))); clear hK K)
  refine Mix.take_ex (_) 2 rfl (by kernel_rfl) (by kernel_rfl) (by kernel_rfl) (by kernel_rfl) (fun K hK => ?_)
  go_simp
  first | (refine hK _ ?_; clear hK K) | (apply Exists.intro; refine ⟨fun x => ?_, hK _ ?_⟩; ((first | (go_at_call 27; with_reducible exact HU.out _) | (go_at_call 28; with_reducible exact HD.out _))); clear hK K)
  refine Mix.take_ex (_) 3 rfl (by kernel_rfl) (by kernel_rfl) (by kernel_rfl) (by kernel_rfl) (fun K hK => ?_)
  go_simp
  first | (refine hK _ ?_; clear hK K) | (apply Exists.intro; refine ⟨fun x => ?_, hK _ ?_⟩; ((first | (go_at_call 27; with_reducible exact HU.out _) | (go_at_call 28; with_reducible exact HD.out _))); clear hK K)
  refine Mix.take_ex (_) 4 rfl (by kernel_rfl) (by kernel_rfl) (by kernel_rfl) (by kernel_rfl) (fun K hK => ?_)
  go_simp
  first | (refine hK _ ?_; clear hK K) | (apply Exists.intro; refine ⟨fun x => ?_, hK _ ?_⟩; ((first | (go_at_call 27; with_reducible exact HU.out _) | (go_at_call 28; with_reducible exact HD.out _))); clear hK K)
  refine Mix.take_ex (_) 5 rfl (by kernel_rfl) (by kernel_rfl) (by kernel_rfl) (by kernel_rfl) (fun K hK => ?_)
  go_simp
  first | (refine hK _ ?_; clear hK K) | (apply Exists.intro; refine ⟨fun x => ?_, hK _ ?_⟩; ((first | (go_at_call 27; with_reducible exact HU.out _) | (go_at_call 28; with_reducible exact HD.out _))); clear hK K)
  refine Mix.all (rs := [6, 7]) (by kernel_rfl) (by simp) (Mix.over_of hb1) ?_
  intro i hi w2 hb2 hC2
  have hs2 : w1.heap.size + 0 ≤ w2.heap.size := (by have h := hb2.size; first | omega | (simp at h; omega))
  have hb1_2 := bel hb1 hb2 (by (repeat (first | assumption | exact Below.refl _ _ | refine ba ?_ _ | refine bd ?_ | refine bdn ?_ _ | refine bs ?_ (by first | omega | (simp; done) | (simp; omega)) _ | refine bt ?_ (by assumption))))
  clear hz1_0 hc1 hf1
  obtain ⟨hc1_2, hf1_2, hl1_2⟩ := bcell hb1_2
  clear hl1_2
  have hz2_0 : w.heap.size < w2.heap.size := (by omega)
  obtain ⟨hc2, hf2, hl2⟩ := bcell hb2
  clear hl2
  clear hC2 HU HD
  simp only [List.mem_cons, List.not_mem_nil, or_false] at hi
  rcases hi with rfl | rfl
  · refine Mix.op rfl (by kernel_rfl) ?_
    go_simp
    refine Mix.all (rs := [7]) (by kernel_rfl) (by simp) (Mix.over_of (by (repeat (first | assumption | exact Below.refl _ _ | refine ba ?_ _ | refine bd ?_ | refine bdn ?_ _ | refine bs ?_ (by first | omega | (simp; done) | (simp; omega)) _ | refine bt ?_ (by assumption))))) ?_
    intro i3 hi3 w3 hb3 hC3
    clear hC3
    have hs3 : w2.heap.size + 1 ≤ w3.heap.size := (by have h := hb3.size; first | omega | (simp at h; omega))
    have hb1_3 := bel hb1_2 hb3 (by (repeat (first | assumption | exact Below.refl _ _ | refine ba ?_ _ | refine bd ?_ | refine bdn ?_ _ | refine bs ?_ (by first | omega | (simp; done) | (simp; omega)) _ | refine bt ?_ (by assumption))))
    have hb2_3 := bel hb2 hb3 (by (repeat (first | assumption | exact Below.refl _ _ | refine ba ?_ _ | refine bd ?_ | refine bdn ?_ _ | refine bs ?_ (by first | omega | (simp; done) | (simp; omega)) _ | refine bt ?_ (by assumption))))
    clear hc1_2 hf1_2 hz2_0 hc2 hf2
    obtain ⟨hc1_3, hf1_3, hl1_3⟩ := bcell hb1_3
    clear hl1_3
    have hz3_0 : w.heap.size < w3.heap.size := (by omega)
    have hz3_1 : w2.heap.size < w3.heap.size := (by omega)
    obtain ⟨hc3, hf3, hl3⟩ := bcell hb3
    clear hl3
    simp only [List.mem_cons, List.not_mem_nil, or_false] at hi3
    subst hi3
    refine Mix.op rfl (by kernel_rfl) ?_
    go_simp
    refine Mix.all (rs := [8]) (by kernel_rfl) (by simp) (Mix.over_of (by (repeat (first | assumption | exact Below.refl _ _ | refine ba ?_ _ | refine bd ?_ | refine bdn ?_ _ | refine bs ?_ (by first | omega | (simp; done) | (simp; omega)) _ | refine bt ?_ (by assumption))))) ?_
    intro i4 hi4 w4 hb4 hC4
    clear hC4
    have hs4 : w3.heap.size + 1 ≤ w4.heap.size := (by have h := hb4.size; first | omega | (simp at h; omega))
    have hb1_4 := bel hb1_3 hb4 (by (repeat (first | assumption | exact Below.refl _ _ | refine ba ?_ _ | refine bd ?_ | refine bdn ?_ _ | refine bs ?_ (by first | omega | (simp; done) | (simp; omega)) _ | refine bt ?_ (by assumption))))
    have hb2_4 := bel hb2_3 hb4 (by (repeat (first | assumption | exact Below.refl _ _ | refine ba ?_ _ | refine bd ?_ | refine bdn ?_ _ | refine bs ?_ (by first | omega | (simp; done) | (simp; omega)) _ | refine bt ?_ (by assumption))))
    have hb3_4 := bel hb3 hb4 (by (repeat (first | assumption | exact Below.refl _ _ | refine ba ?_ _ | refine bd ?_ | refine bdn ?_ _ | refine bs ?_ (by first | omega | (simp; done) | (simp; omega)) _ | refine bt ?_ (by assumption))))
    clear hc1_3 hf1_3 hz3_0 hz3_1 hc3 hf3
    obtain ⟨hc1_4, hf1_4, hl1_4⟩ := bcell hb1_4
    clear hl1_4
    obtain ⟨hc3_4, hf3_4, hl3_4⟩ := bcell hb3_4
    clear hl3_4
    have hz4_0 : w.heap.size < w4.heap.size := (by omega)
    have hz4_1 : w2.heap.size < w4.heap.size := (by omega)
    have hz4_2 : w3.heap.size < w4.heap.size := (by omega)
    obtain ⟨hc4, hf4, hl4⟩ := bcell hb4
    clear hl4
    simp only [List.mem_cons, List.not_mem_nil, or_false] at hi4
    subst hi4
    refine Mix.op rfl (by kernel_rfl) ?_
    go_simp
    refine Mix.all (rs := [9]) (by kernel_rfl) (by simp) (Mix.over_of (by (repeat (first | assumption | exact Below.refl _ _ | refine ba ?_ _ | refine bd ?_ | refine bdn ?_ _ | refine bs ?_ (by first | omega | (simp; done) | (simp; omega)) _ | refine bt ?_ (by assumption))))) ?_
    intro i5 hi5 w5 hb5 hC5
    clear hC5
    have hs5 : w4.heap.size + 0 ≤ w5.heap.size := (by have h := hb5.size; first | omega | (simp at h; omega))
    have hz5_0 : w.heap.size < w5.heap.size := (by omega)
    have hz5_1 : w2.heap.size < w5.heap.size := (by omega)
    have hz5_2 : w3.heap.size < w5.heap.size := (by omega)
    have hy5_0_0 : w.heap.size ≤ w4.heap.size := (by omega)
    have hy5_1_0 : w2.heap.size ≤ w4.heap.size := (by omega)
    have hy5_2_0 : w3.heap.size ≤ w4.heap.size := (by omega)
    obtain ⟨hc5, hf5, hl5⟩ := bcell hb5
    clear hl5
    simp only [List.mem_cons, List.not_mem_nil, or_false] at hi5
    subst hi5
    refine Mix.op rfl (by kernel_rfl) ?_
    go_simp
    refine Mix.done (by kernel_rfl) (Mix.over_of (by (repeat (first | assumption | exact Below.refl _ _ | refine ba ?_ _ | refine bd ?_ | refine bdn ?_ _ | refine bs ?_ (by first | omega | (simp; done) | (simp; omega)) _ | refine bt ?_ (by assumption))))) ?_
    intro w6 hb6
    have hs6 : w5.heap.size + 0 ≤ w6.heap.size := (by have h := hb6.size; first | omega | (simp at h; omega))
    have hz6_0 : w.heap.size < w6.heap.size := (by omega)
    have hz6_1 : w2.heap.size < w6.heap.size := (by omega)
    have hz6_2 : w3.heap.size < w6.heap.size := (by omega)
    have hy6_0_0 : w.heap.size ≤ w5.heap.size := (by omega)
    have hy6_1_0 : w2.heap.size ≤ w5.heap.size := (by omega)
    have hy6_2_0 : w3.heap.size ≤ w5.heap.size := (by omega)
    obtain ⟨hc6, hf6, hl6⟩ := bcell hb6
    clear hl6
    go_wp2
    have hsI : (s : Int) ≤ 200 := by omega
    have hsJ : (0 : Int) ≤ s := by omega
    go_loopw [7, 8] (fun m i wr => ∃ k : Nat, k ≤ 128 ∧ i = .int .i64 k ∧ m = .int .i64 (top k : Nat) ∧ Below w6.heap.size w6 wr) (fun _ i _ => 128 - (intOf i).toNat)
    case atStart => exact ⟨0, Nat.zero_le _, rfl, by rw [ht0]; rfl, Below.refl _ _⟩
    case round =>
      obtain ⟨k, hk, rfl, rfl, hb7⟩ := hrel
      obtain ⟨w7, rfl⟩ : ∃ w7, w7 = wr := ⟨_, rfl⟩
      have hs7 : w6.heap.size + 0 ≤ w7.heap.size := (by have h := hb7.size; first | omega | (simp at h; omega))
      have hb6_7 := bel hb6 hb7 (by (repeat (first | assumption | exact Below.refl _ _ | refine ba ?_ _ | refine bd ?_ | refine bdn ?_ _ | refine bs ?_ (by first | omega | (simp; done) | (simp; omega)) _ | refine bt ?_ (by assumption))))
      obtain ⟨hc6_7, hf6_7, hl6_7⟩ := bcell hb6_7
      clear hl6_7
      have hz7_0 : w.heap.size < w7.heap.size := (by omega)
      have hz7_1 : w2.heap.size < w7.heap.size := (by omega)
      have hz7_2 : w3.heap.size < w7.heap.size := (by omega)
      obtain ⟨hc7, hf7, hl7⟩ := bcell hb7
      clear hl7
      by_cases hlt : k < 128
      · obtain ⟨x, X1, X2⟩ := H1.out k hlt
        obtain ⟨y, Y1, Y2⟩ := H2.out k hlt
        have Z := H3.out k hlt
        have hti := HT.out k
        have HX1 := Lib.hid X1; have HX2 := Lib.hid X2; have HY1 := Lib.hid Y1; have HY2 := Lib.hid Y2
        clear X1 X2 Y1 Y2 H1 H2 H3 HT HB ht0
        have hks : (k : Int) < 128 := by omega
        have hkJ : (0 : Int) ≤ k := by omega
        cases hbk : bit k with
        | true =>
          rw [hbk] at Z
          rw [if_pos hbk] at hti
          have HZ := Lib.hid Z
          have HTI := Lib.hid hti
          clear Z hti hbk
          go_wp2_with fail
          refine wp_region_pure (by kernel_rfl) (by kernel_rfl) ?_
          repeat (first | go_big_quiet_step (((go_at_call 29; first | with_reducible exact (HX1.out).quiet | with_reducible exact (HX2.out).quiet | with_reducible exact (HY1.out).quiet | with_reducible exact (HY2.out).quiet))) | (quiet_step (((go_at_call 29; first | with_reducible exact (HX1.out).quiet | with_reducible exact (HX2.out).quiet | with_reducible exact (HY1.out).quiet | with_reducible exact (HY2.out).quiet)))))
          refine wpQuiet_nil ?_
          rintro w8 ⟨x8, hx8⟩
          have hb8 := ext_below _ x8
          rw [← hx8] at hb8
          clear hx8 x8
          have hs8 : w7.heap.size + 0 ≤ w8.heap.size := (by have h := hb8.size; first | omega | (simp at h; omega))
          have hb6_8 := bel hb6_7 hb8 (by (repeat (first | assumption | exact Below.refl _ _ | refine ba ?_ _ | refine bd ?_ | refine bdn ?_ _ | refine bs ?_ (by first | omega | (simp; done) | (simp; omega)) _ | refine bt ?_ (by assumption))))
          have hb7_8 := bel hb7 hb8 (by (repeat (first | assumption | exact Below.refl _ _ | refine ba ?_ _ | refine bd ?_ | refine bdn ?_ _ | refine bs ?_ (by first | omega | (simp; done) | (simp; omega)) _ | refine bt ?_ (by assumption))))
          clear hc6_7 hf6_7 hz7_0 hz7_1 hz7_2 hc7 hf7
          obtain ⟨hc6_8, hf6_8, hl6_8⟩ := bcell hb6_8
          clear hl6_8
          have hz8_0 : w.heap.size < w8.heap.size := (by omega)
          have hz8_1 : w2.heap.size < w8.heap.size := (by omega)
          have hz8_2 : w3.heap.size < w8.heap.size := (by omega)
          obtain ⟨hc8, hf8, hl8⟩ := bcell hb8
          clear hl8
          go_wp2_with fail
          (with_reducible refine (HZ.out w8).mono ?_)
          rintro e w9 ⟨rfl, hb9⟩
          have hs9 : w8.heap.size + 0 ≤ w9.heap.size := (by have h := hb9.size; first | omega | (simp at h; omega))
          have hb6_9 := bel hb6_8 hb9 (by (repeat (first | assumption | exact Below.refl _ _ | refine ba ?_ _ | refine bd ?_ | refine bdn ?_ _ | refine bs ?_ (by first | omega | (simp; done) | (simp; omega)) _ | refine bt ?_ (by assumption))))
          have hb7_9 := bel hb7_8 hb9 (by (repeat (first | assumption | exact Below.refl _ _ | refine ba ?_ _ | refine bd ?_ | refine bdn ?_ _ | refine bs ?_ (by first | omega | (simp; done) | (simp; omega)) _ | refine bt ?_ (by assumption))))
          have hb8_9 := bel hb8 hb9 (by (repeat (first | assumption | exact Below.refl _ _ | refine ba ?_ _ | refine bd ?_ | refine bdn ?_ _ | refine bs ?_ (by first | omega | (simp; done) | (simp; omega)) _ | refine bt ?_ (by assumption))))
          clear hc6_8 hf6_8 hz8_0 hz8_1 hz8_2 hc8 hf8
          obtain ⟨hc6_9, hf6_9, hl6_9⟩ := bcell hb6_9
          clear hl6_9
          have hz9_0 : w.heap.size < w9.heap.size := (by omega)
          have hz9_1 : w2.heap.size < w9.heap.size := (by omega)
          have hz9_2 : w3.heap.size < w9.heap.size := (by omega)
          obtain ⟨hc9, hf9, hl9⟩ := bcell hb9
          clear hl9
          go_wp2
          go_roundw
          case rel => exact ⟨k + 1, by omega, by go_num, by rw [HTI.out]; go_num, by (repeat (first | assumption | exact Below.refl _ _ | refine ba ?_ _ | refine bd ?_ | refine bdn ?_ _ | refine bs ?_ (by first | omega | (simp; done) | (simp; omega)) _ | refine bt ?_ (by assumption)))⟩
          case measure => simp [intOf]; omega
        | false =>
          rw [hbk] at Z
          rw [if_neg (by rw [hbk]; decide)] at hti
          have HZ := Lib.hid Z
          have HTI := Lib.hid hti
          clear Z hti hbk
          go_wp2_with fail
          refine wp_region_pure (by kernel_rfl) (by kernel_rfl) ?_
          repeat (first | go_big_quiet_step (((go_at_call 29; first | with_reducible exact (HX1.out).quiet | with_reducible exact (HX2.out).quiet | with_reducible exact (HY1.out).quiet | with_reducible exact (HY2.out).quiet))) | (quiet_step (((go_at_call 29; first | with_reducible exact (HX1.out).quiet | with_reducible exact (HX2.out).quiet | with_reducible exact (HY1.out).quiet | with_reducible exact (HY2.out).quiet)))))
          refine wpQuiet_nil ?_
          rintro w8 ⟨x8, hx8⟩
          have hb8 := ext_below _ x8
          rw [← hx8] at hb8
          clear hx8 x8
          have hs8 : w7.heap.size + 0 ≤ w8.heap.size := (by have h := hb8.size; first | omega | (simp at h; omega))
          have hb6_8 := bel hb6_7 hb8 (by (repeat (first | assumption | exact Below.refl _ _ | refine ba ?_ _ | refine bd ?_ | refine bdn ?_ _ | refine bs ?_ (by first | omega | (simp; done) | (simp; omega)) _ | refine bt ?_ (by assumption))))
          have hb7_8 := bel hb7 hb8 (by (repeat (first | assumption | exact Below.refl _ _ | refine ba ?_ _ | refine bd ?_ | refine bdn ?_ _ | refine bs ?_ (by first | omega | (simp; done) | (simp; omega)) _ | refine bt ?_ (by assumption))))
          clear hc6_7 hf6_7 hz7_0 hz7_1 hz7_2 hc7 hf7
          obtain ⟨hc6_8, hf6_8, hl6_8⟩ := bcell hb6_8
          clear hl6_8
          have hz8_0 : w.heap.size < w8.heap.size := (by omega)
          have hz8_1 : w2.heap.size < w8.heap.size := (by omega)
          have hz8_2 : w3.heap.size < w8.heap.size := (by omega)
          obtain ⟨hc8, hf8, hl8⟩ := bcell hb8
          clear hl8
          go_wp2_with fail
          (with_reducible refine (HZ.out w8).mono ?_)
          rintro e w9 ⟨rfl, hb9⟩
          have hs9 : w8.heap.size + 0 ≤ w9.heap.size := (by have h := hb9.size; first | omega | (simp at h; omega))
          have hb6_9 := bel hb6_8 hb9 (by (repeat (first | assumption | exact Below.refl _ _ | refine ba ?_ _ | refine bd ?_ | refine bdn ?_ _ | refine bs ?_ (by first | omega | (simp; done) | (simp; omega)) _ | refine bt ?_ (by assumption))))
          have hb7_9 := bel hb7_8 hb9 (by (repeat (first | assumption | exact Below.refl _ _ | refine ba ?_ _ | refine bd ?_ | refine bdn ?_ _ | refine bs ?_ (by first | omega | (simp; done) | (simp; omega)) _ | refine bt ?_ (by assumption))))
          have hb8_9 := bel hb8 hb9 (by (repeat (first | assumption | exact Below.refl _ _ | refine ba ?_ _ | refine bd ?_ | refine bdn ?_ _ | refine bs ?_ (by first | omega | (simp; done) | (simp; omega)) _ | refine bt ?_ (by assumption))))
          clear hc6_8 hf6_8 hz8_0 hz8_1 hz8_2 hc8 hf8
          obtain ⟨hc6_9, hf6_9, hl6_9⟩ := bcell hb6_9
          clear hl6_9
          have hz9_0 : w.heap.size < w9.heap.size := (by omega)
          have hz9_1 : w2.heap.size < w9.heap.size := (by omega)
          have hz9_2 : w3.heap.size < w9.heap.size := (by omega)
          obtain ⟨hc9, hf9, hl9⟩ := bcell hb9
          clear hl9
          go_wp2
          go_roundw
          case rel => exact ⟨k + 1, by omega, by go_num, by rw [HTI.out], by (repeat (first | assumption | exact Below.refl _ _ | refine ba ?_ _ | refine bd ?_ | refine bdn ?_ _ | refine bs ?_ (by first | omega | (simp; done) | (simp; omega)) _ | refine bt ?_ (by assumption)))⟩
          case measure => simp [intOf]; omega
      · obtain rfl : k = 128 := by omega
        clear H1 H2 H3 HT ht0
        go_wp2_with fail
        (with_reducible refine (HB.out w7).mono ?_)
        rintro e w8 ⟨rfl, hb8⟩
        have hs8 : w7.heap.size + 0 ≤ w8.heap.size := (by have h := hb8.size; first | omega | (simp at h; omega))
        have hb6_8 := bel hb6_7 hb8 (by (repeat (first | assumption | exact Below.refl _ _ | refine ba ?_ _ | refine bd ?_ | refine bdn ?_ _ | refine bs ?_ (by first | omega | (simp; done) | (simp; omega)) _ | refine bt ?_ (by assumption))))
        have hb7_8 := bel hb7 hb8 (by (repeat (first | assumption | exact Below.refl _ _ | refine ba ?_ _ | refine bd ?_ | refine bdn ?_ _ | refine bs ?_ (by first | omega | (simp; done) | (simp; omega)) _ | refine bt ?_ (by assumption))))
        clear hc6_7 hf6_7 hz7_0 hz7_1 hz7_2 hc7 hf7
        obtain ⟨hc6_8, hf6_8, hl6_8⟩ := bcell hb6_8
        clear hl6_8
        have hz8_0 : w.heap.size < w8.heap.size := (by omega)
        have hz8_1 : w2.heap.size < w8.heap.size := (by omega)
        have hz8_2 : w3.heap.size < w8.heap.size := (by omega)
        obtain ⟨hc8, hf8, hl8⟩ := bcell hb8
        clear hl8
        go_wp2_with fail
        (with_reducible refine (works1 w8).mono ?_)
        rintro e w9 ⟨rfl, hb9⟩
        have hs9 : w8.heap.size + 0 ≤ w9.heap.size := (by have h := hb9.size; first | omega | (simp at h; omega))
        have hb6_9 := bel hb6_8 hb9 (by (repeat (first | assumption | exact Below.refl _ _ | refine ba ?_ _ | refine bd ?_ | refine bdn ?_ _ | refine bs ?_ (by first | omega | (simp; done) | (simp; omega)) _ | refine bt ?_ (by assumption))))
        have hb7_9 := bel hb7_8 hb9 (by (repeat (first | assumption | exact Below.refl _ _ | refine ba ?_ _ | refine bd ?_ | refine bdn ?_ _ | refine bs ?_ (by first | omega | (simp; done) | (simp; omega)) _ | refine bt ?_ (by assumption))))
        have hb8_9 := bel hb8 hb9 (by (repeat (first | assumption | exact Below.refl _ _ | refine ba ?_ _ | refine bd ?_ | refine bdn ?_ _ | refine bs ?_ (by first | omega | (simp; done) | (simp; omega)) _ | refine bt ?_ (by assumption))))
        clear hc6_8 hf6_8 hz8_0 hz8_1 hz8_2 hc8 hf8
        obtain ⟨hc6_9, hf6_9, hl6_9⟩ := bcell hb6_9
        clear hl6_9
        have hz9_0 : w.heap.size < w9.heap.size := (by omega)
        have hz9_1 : w2.heap.size < w9.heap.size := (by omega)
        have hz9_2 : w3.heap.size < w9.heap.size := (by omega)
        obtain ⟨hc9, hf9, hl9⟩ := bcell hb9
        clear hl9
        go_wp2
        go_ret
        refine ⟨rfl, ?_⟩
        (repeat (first | assumption | exact Below.refl _ _ | refine ba ?_ _ | refine bd ?_ | refine bdn ?_ _ | refine bs ?_ (by first | omega | (simp; done) | (simp; omega)) _ | refine bt ?_ (by assumption)))
  · refine Mix.op rfl (by kernel_rfl) ?_
    go_simp
    refine Mix.all (rs := [6]) (by kernel_rfl) (by simp) (Mix.over_of (by (repeat (first | assumption | exact Below.refl _ _ | refine ba ?_ _ | refine bd ?_ | refine bdn ?_ _ | refine bs ?_ (by first | omega | (simp; done) | (simp; omega)) _ | refine bt ?_ (by assumption))))) ?_
    intro i3 hi3 w3 hb3 hC3
    clear hC3
    have hs3 : w2.heap.size + 1 ≤ w3.heap.size := (by have h := hb3.size; first | omega | (simp at h; omega))
    have hb1_3 := bel hb1_2 hb3 (by (repeat (first | assumption | exact Below.refl _ _ | refine ba ?_ _ | refine bd ?_ | refine bdn ?_ _ | refine bs ?_ (by first | omega | (simp; done) | (simp; omega)) _ | refine bt ?_ (by assumption))))
    have hb2_3 := bel hb2 hb3 (by (repeat (first | assumption | exact Below.refl _ _ | refine ba ?_ _ | refine bd ?_ | refine bdn ?_ _ | refine bs ?_ (by first | omega | (simp; done) | (simp; omega)) _ | refine bt ?_ (by assumption))))
    clear hc1_2 hf1_2 hz2_0 hc2 hf2
    obtain ⟨hc1_3, hf1_3, hl1_3⟩ := bcell hb1_3
    clear hl1_3
    have hz3_0 : w.heap.size < w3.heap.size := (by omega)
    have hz3_1 : w2.heap.size < w3.heap.size := (by omega)
    obtain ⟨hc3, hf3, hl3⟩ := bcell hb3
    clear hl3
    simp only [List.mem_cons, List.not_mem_nil, or_false] at hi3
    subst hi3
    refine Mix.op rfl (by kernel_rfl) ?_
    go_simp
    refine Mix.all (rs := [8]) (by kernel_rfl) (by simp) (Mix.over_of (by (repeat (first | assumption | exact Below.refl _ _ | refine ba ?_ _ | refine bd ?_ | refine bdn ?_ _ | refine bs ?_ (by first | omega | (simp; done) | (simp; omega)) _ | refine bt ?_ (by assumption))))) ?_
    intro i4 hi4 w4 hb4 hC4
    clear hC4
    have hs4 : w3.heap.size + 1 ≤ w4.heap.size := (by have h := hb4.size; first | omega | (simp at h; omega))
    have hb1_4 := bel hb1_3 hb4 (by (repeat (first | assumption | exact Below.refl _ _ | refine ba ?_ _ | refine bd ?_ | refine bdn ?_ _ | refine bs ?_ (by first | omega | (simp; done) | (simp; omega)) _ | refine bt ?_ (by assumption))))
    have hb2_4 := bel hb2_3 hb4 (by (repeat (first | assumption | exact Below.refl _ _ | refine ba ?_ _ | refine bd ?_ | refine bdn ?_ _ | refine bs ?_ (by first | omega | (simp; done) | (simp; omega)) _ | refine bt ?_ (by assumption))))
    have hb3_4 := bel hb3 hb4 (by (repeat (first | assumption | exact Below.refl _ _ | refine ba ?_ _ | refine bd ?_ | refine bdn ?_ _ | refine bs ?_ (by first | omega | (simp; done) | (simp; omega)) _ | refine bt ?_ (by assumption))))
    clear hc1_3 hf1_3 hz3_0 hz3_1 hc3 hf3
    obtain ⟨hc1_4, hf1_4, hl1_4⟩ := bcell hb1_4
    clear hl1_4
    obtain ⟨hc3_4, hf3_4, hl3_4⟩ := bcell hb3_4
    clear hl3_4
    have hz4_0 : w.heap.size < w4.heap.size := (by omega)
    have hz4_1 : w2.heap.size < w4.heap.size := (by omega)
    have hz4_2 : w3.heap.size < w4.heap.size := (by omega)
    obtain ⟨hc4, hf4, hl4⟩ := bcell hb4
    clear hl4
    simp only [List.mem_cons, List.not_mem_nil, or_false] at hi4
    subst hi4
    refine Mix.op rfl (by kernel_rfl) ?_
    go_simp
    refine Mix.all (rs := [9]) (by kernel_rfl) (by simp) (Mix.over_of (by (repeat (first | assumption | exact Below.refl _ _ | refine ba ?_ _ | refine bd ?_ | refine bdn ?_ _ | refine bs ?_ (by first | omega | (simp; done) | (simp; omega)) _ | refine bt ?_ (by assumption))))) ?_
    intro i5 hi5 w5 hb5 hC5
    clear hC5
    have hs5 : w4.heap.size + 0 ≤ w5.heap.size := (by have h := hb5.size; first | omega | (simp at h; omega))
    have hz5_0 : w.heap.size < w5.heap.size := (by omega)
    have hz5_1 : w2.heap.size < w5.heap.size := (by omega)
    have hz5_2 : w3.heap.size < w5.heap.size := (by omega)
    have hy5_0_0 : w.heap.size ≤ w4.heap.size := (by omega)
    have hy5_1_0 : w2.heap.size ≤ w4.heap.size := (by omega)
    have hy5_2_0 : w3.heap.size ≤ w4.heap.size := (by omega)
    obtain ⟨hc5, hf5, hl5⟩ := bcell hb5
    clear hl5
    simp only [List.mem_cons, List.not_mem_nil, or_false] at hi5
    subst hi5
    refine Mix.op rfl (by kernel_rfl) ?_
    go_simp
    refine Mix.done (by kernel_rfl) (Mix.over_of (by (repeat (first | assumption | exact Below.refl _ _ | refine ba ?_ _ | refine bd ?_ | refine bdn ?_ _ | refine bs ?_ (by first | omega | (simp; done) | (simp; omega)) _ | refine bt ?_ (by assumption))))) ?_
    intro w6 hb6
    have hs6 : w5.heap.size + 0 ≤ w6.heap.size := (by have h := hb6.size; first | omega | (simp at h; omega))
    have hz6_0 : w.heap.size < w6.heap.size := (by omega)
    have hz6_1 : w2.heap.size < w6.heap.size := (by omega)
    have hz6_2 : w3.heap.size < w6.heap.size := (by omega)
    have hy6_0_0 : w.heap.size ≤ w5.heap.size := (by omega)
    have hy6_1_0 : w2.heap.size ≤ w5.heap.size := (by omega)
    have hy6_2_0 : w3.heap.size ≤ w5.heap.size := (by omega)
    obtain ⟨hc6, hf6, hl6⟩ := bcell hb6
    clear hl6
    go_wp2
    have hsI : (s : Int) ≤ 200 := by omega
    have hsJ : (0 : Int) ≤ s := by omega
    go_loopw [7, 8] (fun m i wr => ∃ k : Nat, k ≤ 128 ∧ i = .int .i64 k ∧ m = .int .i64 (top k : Nat) ∧ Below w6.heap.size w6 wr) (fun _ i _ => 128 - (intOf i).toNat)
    case atStart => exact ⟨0, Nat.zero_le _, rfl, by rw [ht0]; rfl, Below.refl _ _⟩
    case round =>
      obtain ⟨k, hk, rfl, rfl, hb7⟩ := hrel
      obtain ⟨w7, rfl⟩ : ∃ w7, w7 = wr := ⟨_, rfl⟩
      have hs7 : w6.heap.size + 0 ≤ w7.heap.size := (by have h := hb7.size; first | omega | (simp at h; omega))
      have hb6_7 := bel hb6 hb7 (by (repeat (first | assumption | exact Below.refl _ _ | refine ba ?_ _ | refine bd ?_ | refine bdn ?_ _ | refine bs ?_ (by first | omega | (simp; done) | (simp; omega)) _ | refine bt ?_ (by assumption))))
      obtain ⟨hc6_7, hf6_7, hl6_7⟩ := bcell hb6_7
      clear hl6_7
      have hz7_0 : w.heap.size < w7.heap.size := (by omega)
      have hz7_1 : w2.heap.size < w7.heap.size := (by omega)
      have hz7_2 : w3.heap.size < w7.heap.size := (by omega)
      obtain ⟨hc7, hf7, hl7⟩ := bcell hb7
      clear hl7
      by_cases hlt : k < 128
      · obtain ⟨x, X1, X2⟩ := H1.out k hlt
        obtain ⟨y, Y1, Y2⟩ := H2.out k hlt
        have Z := H3.out k hlt
        have hti := HT.out k
        have HX1 := Lib.hid X1; have HX2 := Lib.hid X2; have HY1 := Lib.hid Y1; have HY2 := Lib.hid Y2
        clear X1 X2 Y1 Y2 H1 H2 H3 HT HB ht0
        have hks : (k : Int) < 128 := by omega
        have hkJ : (0 : Int) ≤ k := by omega
        cases hbk : bit k with
        | true =>
          rw [hbk] at Z
          rw [if_pos hbk] at hti
          have HZ := Lib.hid Z
          have HTI := Lib.hid hti
          clear Z hti hbk
          go_wp2_with fail
          refine wp_region_pure (by kernel_rfl) (by kernel_rfl) ?_
          repeat (first | go_big_quiet_step (((go_at_call 29; first | with_reducible exact (HX1.out).quiet | with_reducible exact (HX2.out).quiet | with_reducible exact (HY1.out).quiet | with_reducible exact (HY2.out).quiet))) | (quiet_step (((go_at_call 29; first | with_reducible exact (HX1.out).quiet | with_reducible exact (HX2.out).quiet | with_reducible exact (HY1.out).quiet | with_reducible exact (HY2.out).quiet)))))
          refine wpQuiet_nil ?_
          rintro w8 ⟨x8, hx8⟩
          have hb8 := ext_below _ x8
          rw [← hx8] at hb8
          clear hx8 x8
          have hs8 : w7.heap.size + 0 ≤ w8.heap.size := (by have h := hb8.size; first | omega | (simp at h; omega))
          have hb6_8 := bel hb6_7 hb8 (by (repeat (first | assumption | exact Below.refl _ _ | refine ba ?_ _ | refine bd ?_ | refine bdn ?_ _ | refine bs ?_ (by first | omega | (simp; done) | (simp; omega)) _ | refine bt ?_ (by assumption))))
          have hb7_8 := bel hb7 hb8 (by (repeat (first | assumption | exact Below.refl _ _ | refine ba ?_ _ | refine bd ?_ | refine bdn ?_ _ | refine bs ?_ (by first | omega | (simp; done) | (simp; omega)) _ | refine bt ?_ (by assumption))))
          clear hc6_7 hf6_7 hz7_0 hz7_1 hz7_2 hc7 hf7
          obtain ⟨hc6_8, hf6_8, hl6_8⟩ := bcell hb6_8
          clear hl6_8
          have hz8_0 : w.heap.size < w8.heap.size := (by omega)
          have hz8_1 : w2.heap.size < w8.heap.size := (by omega)
          have hz8_2 : w3.heap.size < w8.heap.size := (by omega)
          obtain ⟨hc8, hf8, hl8⟩ := bcell hb8
          clear hl8
          go_wp2_with fail
          (with_reducible refine (HZ.out w8).mono ?_)
          rintro e w9 ⟨rfl, hb9⟩
          have hs9 : w8.heap.size + 0 ≤ w9.heap.size := (by have h := hb9.size; first | omega | (simp at h; omega))
          have hb6_9 := bel hb6_8 hb9 (by (repeat (first | assumption | exact Below.refl _ _ | refine ba ?_ _ | refine bd ?_ | refine bdn ?_ _ | refine bs ?_ (by first | omega | (simp; done) | (simp; omega)) _ | refine bt ?_ (by assumption))))
          have hb7_9 := bel hb7_8 hb9 (by (repeat (first | assumption | exact Below.refl _ _ | refine ba ?_ _ | refine bd ?_ | refine bdn ?_ _ | refine bs ?_ (by first | omega | (simp; done) | (simp; omega)) _ | refine bt ?_ (by assumption))))
          have hb8_9 := bel hb8 hb9 (by (repeat (first | assumption | exact Below.refl _ _ | refine ba ?_ _ | refine bd ?_ | refine bdn ?_ _ | refine bs ?_ (by first | omega | (simp; done) | (simp; omega)) _ | refine bt ?_ (by assumption))))
          clear hc6_8 hf6_8 hz8_0 hz8_1 hz8_2 hc8 hf8
          obtain ⟨hc6_9, hf6_9, hl6_9⟩ := bcell hb6_9
          clear hl6_9
          have hz9_0 : w.heap.size < w9.heap.size := (by omega)
          have hz9_1 : w2.heap.size < w9.heap.size := (by omega)
          have hz9_2 : w3.heap.size < w9.heap.size := (by omega)
          obtain ⟨hc9, hf9, hl9⟩ := bcell hb9
          clear hl9
          go_wp2
          go_roundw
          case rel => exact ⟨k + 1, by omega, by go_num, by rw [HTI.out]; go_num, by (repeat (first | assumption | exact Below.refl _ _ | refine ba ?_ _ | refine bd ?_ | refine bdn ?_ _ | refine bs ?_ (by first | omega | (simp; done) | (simp; omega)) _ | refine bt ?_ (by assumption)))⟩
          case measure => simp [intOf]; omega
        | false =>
          rw [hbk] at Z
          rw [if_neg (by rw [hbk]; decide)] at hti
          have HZ := Lib.hid Z
          have HTI := Lib.hid hti
          clear Z hti hbk
          go_wp2_with fail
          refine wp_region_pure (by kernel_rfl) (by kernel_rfl) ?_
          repeat (first | go_big_quiet_step (((go_at_call 29; first | with_reducible exact (HX1.out).quiet | with_reducible exact (HX2.out).quiet | with_reducible exact (HY1.out).quiet | with_reducible exact (HY2.out).quiet))) | (quiet_step (((go_at_call 29; first | with_reducible exact (HX1.out).quiet | with_reducible exact (HX2.out).quiet | with_reducible exact (HY1.out).quiet | with_reducible exact (HY2.out).quiet)))))
          refine wpQuiet_nil ?_
          rintro w8 ⟨x8, hx8⟩
          have hb8 := ext_below _ x8
          rw [← hx8] at hb8
          clear hx8 x8
          have hs8 : w7.heap.size + 0 ≤ w8.heap.size := (by have h := hb8.size; first | omega | (simp at h; omega))
          have hb6_8 := bel hb6_7 hb8 (by (repeat (first | assumption | exact Below.refl _ _ | refine ba ?_ _ | refine bd ?_ | refine bdn ?_ _ | refine bs ?_ (by first | omega | (simp; done) | (simp; omega)) _ | refine bt ?_ (by assumption))))
          have hb7_8 := bel hb7 hb8 (by (repeat (first | assumption | exact Below.refl _ _ | refine ba ?_ _ | refine bd ?_ | refine bdn ?_ _ | refine bs ?_ (by first | omega | (simp; done) | (simp; omega)) _ | refine bt ?_ (by assumption))))
          clear hc6_7 hf6_7 hz7_0 hz7_1 hz7_2 hc7 hf7
          obtain ⟨hc6_8, hf6_8, hl6_8⟩ := bcell hb6_8
          clear hl6_8
          have hz8_0 : w.heap.size < w8.heap.size := (by omega)
          have hz8_1 : w2.heap.size < w8.heap.size := (by omega)
          have hz8_2 : w3.heap.size < w8.heap.size := (by omega)
          obtain ⟨hc8, hf8, hl8⟩ := bcell hb8
          clear hl8
          go_wp2_with fail
          (with_reducible refine (HZ.out w8).mono ?_)
          rintro e w9 ⟨rfl, hb9⟩
          have hs9 : w8.heap.size + 0 ≤ w9.heap.size := (by have h := hb9.size; first | omega | (simp at h; omega))
          have hb6_9 := bel hb6_8 hb9 (by (repeat (first | assumption | exact Below.refl _ _ | refine ba ?_ _ | refine bd ?_ | refine bdn ?_ _ | refine bs ?_ (by first | omega | (simp; done) | (simp; omega)) _ | refine bt ?_ (by assumption))))
          have hb7_9 := bel hb7_8 hb9 (by (repeat (first | assumption | exact Below.refl _ _ | refine ba ?_ _ | refine bd ?_ | refine bdn ?_ _ | refine bs ?_ (by first | omega | (simp; done) | (simp; omega)) _ | refine bt ?_ (by assumption))))
          have hb8_9 := bel hb8 hb9 (by (repeat (first | assumption | exact Below.refl _ _ | refine ba ?_ _ | refine bd ?_ | refine bdn ?_ _ | refine bs ?_ (by first | omega | (simp; done) | (simp; omega)) _ | refine bt ?_ (by assumption))))
          clear hc6_8 hf6_8 hz8_0 hz8_1 hz8_2 hc8 hf8
          obtain ⟨hc6_9, hf6_9, hl6_9⟩ := bcell hb6_9
          clear hl6_9
          have hz9_0 : w.heap.size < w9.heap.size := (by omega)
          have hz9_1 : w2.heap.size < w9.heap.size := (by omega)
          have hz9_2 : w3.heap.size < w9.heap.size := (by omega)
          obtain ⟨hc9, hf9, hl9⟩ := bcell hb9
          clear hl9
          go_wp2
          go_roundw
          case rel => exact ⟨k + 1, by omega, by go_num, by rw [HTI.out], by (repeat (first | assumption | exact Below.refl _ _ | refine ba ?_ _ | refine bd ?_ | refine bdn ?_ _ | refine bs ?_ (by first | omega | (simp; done) | (simp; omega)) _ | refine bt ?_ (by assumption)))⟩
          case measure => simp [intOf]; omega
      · obtain rfl : k = 128 := by omega
        clear H1 H2 H3 HT ht0
        go_wp2_with fail
        (with_reducible refine (HB.out w7).mono ?_)
        rintro e w8 ⟨rfl, hb8⟩
        have hs8 : w7.heap.size + 0 ≤ w8.heap.size := (by have h := hb8.size; first | omega | (simp at h; omega))
        have hb6_8 := bel hb6_7 hb8 (by (repeat (first | assumption | exact Below.refl _ _ | refine ba ?_ _ | refine bd ?_ | refine bdn ?_ _ | refine bs ?_ (by first | omega | (simp; done) | (simp; omega)) _ | refine bt ?_ (by assumption))))
        have hb7_8 := bel hb7 hb8 (by (repeat (first | assumption | exact Below.refl _ _ | refine ba ?_ _ | refine bd ?_ | refine bdn ?_ _ | refine bs ?_ (by first | omega | (simp; done) | (simp; omega)) _ | refine bt ?_ (by assumption))))
        clear hc6_7 hf6_7 hz7_0 hz7_1 hz7_2 hc7 hf7
        obtain ⟨hc6_8, hf6_8, hl6_8⟩ := bcell hb6_8
        clear hl6_8
        have hz8_0 : w.heap.size < w8.heap.size := (by omega)
        have hz8_1 : w2.heap.size < w8.heap.size := (by omega)
        have hz8_2 : w3.heap.size < w8.heap.size := (by omega)
        obtain ⟨hc8, hf8, hl8⟩ := bcell hb8
        clear hl8
        go_wp2_with fail
        (with_reducible refine (works1 w8).mono ?_)
        rintro e w9 ⟨rfl, hb9⟩
        have hs9 : w8.heap.size + 0 ≤ w9.heap.size := (by have h := hb9.size; first | omega | (simp at h; omega))
        have hb6_9 := bel hb6_8 hb9 (by (repeat (first | assumption | exact Below.refl _ _ | refine ba ?_ _ | refine bd ?_ | refine bdn ?_ _ | refine bs ?_ (by first | omega | (simp; done) | (simp; omega)) _ | refine bt ?_ (by assumption))))
        have hb7_9 := bel hb7_8 hb9 (by (repeat (first | assumption | exact Below.refl _ _ | refine ba ?_ _ | refine bd ?_ | refine bdn ?_ _ | refine bs ?_ (by first | omega | (simp; done) | (simp; omega)) _ | refine bt ?_ (by assumption))))
        have hb8_9 := bel hb8 hb9 (by (repeat (first | assumption | exact Below.refl _ _ | refine ba ?_ _ | refine bd ?_ | refine bdn ?_ _ | refine bs ?_ (by first | omega | (simp; done) | (simp; omega)) _ | refine bt ?_ (by assumption))))
        clear hc6_8 hf6_8 hz8_0 hz8_1 hz8_2 hc8 hf8
        obtain ⟨hc6_9, hf6_9, hl6_9⟩ := bcell hb6_9
        clear hl6_9
        have hz9_0 : w.heap.size < w9.heap.size := (by omega)
        have hz9_1 : w2.heap.size < w9.heap.size := (by omega)
        have hz9_2 : w3.heap.size < w9.heap.size := (by omega)
        obtain ⟨hc9, hf9, hl9⟩ := bcell hb9
        clear hl9
        go_wp2
        go_ret
        refine ⟨rfl, ?_⟩
        (repeat (first | assumption | exact Below.refl _ _ | refine ba ?_ _ | refine bd ?_ | refine bdn ?_ _ | refine bs ?_ (by first | omega | (simp; done) | (simp; omega)) _ | refine bt ?_ (by assumption)))
theorem shifts_neg (ah al n : Int) (hn : n < 0) : Pure Try.prog 6 #[W2 ah al, .int .i64 n] (.bool true) := by
  have hU := up_neg ah al n hn
  have hD := down_neg ah al n hn
  intro w
  have HU := Lib.hid hU; have HD := Lib.hid hD
  clear hU hD
  go_enter Try.func6, Try.ntmps6
  go_wp2_with fail
  refine Mix.region0 (by kernel_rfl) ?_
  intro w1 hb1
  have hs1 : w.heap.size + 1 ≤ w1.heap.size := (by have h := hb1.size; first | omega | (simp at h; omega))
  have hz1_0 : w.heap.size < w1.heap.size := (by omega)
  obtain ⟨hc1, hf1, hl1⟩ := bcell hb1
  clear hl1
  refine Mix.take_ex (_) 0 rfl (by kernel_rfl) (by kernel_rfl) (by kernel_rfl) (by kernel_rfl) (fun K hK => ?_)
  go_simp
  first | (refine hK _ ?_; clear hK K) | (apply Exists.intro; refine ⟨fun x => ?_, hK _ ?_⟩; ((first | (go_at_call 27; with_reducible exact HU.out _) | (go_at_call 28; with_reducible exact HD.out _))); clear hK K)
  refine Mix.take_ex (_) 1 rfl (by kernel_rfl) (by kernel_rfl) (by kernel_rfl) (by kernel_rfl) (fun K hK => ?_)
  go_simp
  first | (refine hK _ ?_; clear hK K) | (apply Exists.intro; refine ⟨fun x => ?_, hK _ ?_⟩; ((first | (go_at_call 27; with_reducible exact HU.out _) | (go_at_call 28; with_reducible exact HD.out _))); clear hK K)
  refine Mix.take_ex (_) 2 rfl (by kernel_rfl) (by kernel_rfl) (by kernel_rfl) (by kernel_rfl) (fun K hK => ?_)
  go_simp
  first | (refine hK _ ?_; clear hK K) | (apply Exists.intro; refine ⟨fun x => ?_, hK _ ?_⟩; ((first | (go_at_call 27; with_reducible exact HU.out _) | (go_at_call 28; with_reducible exact HD.out _))); clear hK K)
  refine Mix.take_ex (_) 3 rfl (by kernel_rfl) (by kernel_rfl) (by kernel_rfl) (by kernel_rfl) (fun K hK => ?_)
  go_simp
  first | (refine hK _ ?_; clear hK K) | (apply Exists.intro; refine ⟨fun x => ?_, hK _ ?_⟩; ((first | (go_at_call 27; with_reducible exact HU.out _) | (go_at_call 28; with_reducible exact HD.out _))); clear hK K)
  refine Mix.take_ex (_) 4 rfl (by kernel_rfl) (by kernel_rfl) (by kernel_rfl) (by kernel_rfl) (fun K hK => ?_)
  go_simp
  first | (refine hK _ ?_; clear hK K) | (apply Exists.intro; refine ⟨fun x => ?_, hK _ ?_⟩; ((first | (go_at_call 27; with_reducible exact HU.out _) | (go_at_call 28; with_reducible exact HD.out _))); clear hK K)
  refine Mix.take_ex (_) 5 rfl (by kernel_rfl) (by kernel_rfl) (by kernel_rfl) (by kernel_rfl) (fun K hK => ?_)
  go_simp
  first | (refine hK _ ?_; clear hK K) | (apply Exists.intro; refine ⟨fun x => ?_, hK _ ?_⟩; ((first | (go_at_call 27; with_reducible exact HU.out _) | (go_at_call 28; with_reducible exact HD.out _))); clear hK K)
  refine Mix.all (rs := [6, 7]) (by kernel_rfl) (by simp) (Mix.over_of hb1) ?_
  intro i hi w2 hb2 hC2
  have hs2 : w1.heap.size + 0 ≤ w2.heap.size := (by have h := hb2.size; first | omega | (simp at h; omega))
  have hb1_2 := bel hb1 hb2 (by (repeat (first | assumption | exact Below.refl _ _ | refine ba ?_ _ | refine bd ?_ | refine bdn ?_ _ | refine bs ?_ (by first | omega | (simp; done) | (simp; omega)) _ | refine bt ?_ (by assumption))))
  clear hz1_0 hc1 hf1
  obtain ⟨hc1_2, hf1_2, hl1_2⟩ := bcell hb1_2
  clear hl1_2
  have hz2_0 : w.heap.size < w2.heap.size := (by omega)
  obtain ⟨hc2, hf2, hl2⟩ := bcell hb2
  clear hl2
  clear hC2 HU HD
  simp only [List.mem_cons, List.not_mem_nil, or_false] at hi
  rcases hi with rfl | rfl
  · refine Mix.op rfl (by kernel_rfl) ?_
    go_simp
    refine Mix.all (rs := [7]) (by kernel_rfl) (by simp) (Mix.over_of (by (repeat (first | assumption | exact Below.refl _ _ | refine ba ?_ _ | refine bd ?_ | refine bdn ?_ _ | refine bs ?_ (by first | omega | (simp; done) | (simp; omega)) _ | refine bt ?_ (by assumption))))) ?_
    intro i3 hi3 w3 hb3 hC3
    clear hC3
    have hs3 : w2.heap.size + 1 ≤ w3.heap.size := (by have h := hb3.size; first | omega | (simp at h; omega))
    have hb1_3 := bel hb1_2 hb3 (by (repeat (first | assumption | exact Below.refl _ _ | refine ba ?_ _ | refine bd ?_ | refine bdn ?_ _ | refine bs ?_ (by first | omega | (simp; done) | (simp; omega)) _ | refine bt ?_ (by assumption))))
    have hb2_3 := bel hb2 hb3 (by (repeat (first | assumption | exact Below.refl _ _ | refine ba ?_ _ | refine bd ?_ | refine bdn ?_ _ | refine bs ?_ (by first | omega | (simp; done) | (simp; omega)) _ | refine bt ?_ (by assumption))))
    clear hc1_2 hf1_2 hz2_0 hc2 hf2
    obtain ⟨hc1_3, hf1_3, hl1_3⟩ := bcell hb1_3
    clear hl1_3
    have hz3_0 : w.heap.size < w3.heap.size := (by omega)
    have hz3_1 : w2.heap.size < w3.heap.size := (by omega)
    obtain ⟨hc3, hf3, hl3⟩ := bcell hb3
    clear hl3
    simp only [List.mem_cons, List.not_mem_nil, or_false] at hi3
    subst hi3
    refine Mix.op rfl (by kernel_rfl) ?_
    go_simp
    refine Mix.all (rs := [8]) (by kernel_rfl) (by simp) (Mix.over_of (by (repeat (first | assumption | exact Below.refl _ _ | refine ba ?_ _ | refine bd ?_ | refine bdn ?_ _ | refine bs ?_ (by first | omega | (simp; done) | (simp; omega)) _ | refine bt ?_ (by assumption))))) ?_
    intro i4 hi4 w4 hb4 hC4
    clear hC4
    have hs4 : w3.heap.size + 1 ≤ w4.heap.size := (by have h := hb4.size; first | omega | (simp at h; omega))
    have hb1_4 := bel hb1_3 hb4 (by (repeat (first | assumption | exact Below.refl _ _ | refine ba ?_ _ | refine bd ?_ | refine bdn ?_ _ | refine bs ?_ (by first | omega | (simp; done) | (simp; omega)) _ | refine bt ?_ (by assumption))))
    have hb2_4 := bel hb2_3 hb4 (by (repeat (first | assumption | exact Below.refl _ _ | refine ba ?_ _ | refine bd ?_ | refine bdn ?_ _ | refine bs ?_ (by first | omega | (simp; done) | (simp; omega)) _ | refine bt ?_ (by assumption))))
    have hb3_4 := bel hb3 hb4 (by (repeat (first | assumption | exact Below.refl _ _ | refine ba ?_ _ | refine bd ?_ | refine bdn ?_ _ | refine bs ?_ (by first | omega | (simp; done) | (simp; omega)) _ | refine bt ?_ (by assumption))))
    clear hc1_3 hf1_3 hz3_0 hz3_1 hc3 hf3
    obtain ⟨hc1_4, hf1_4, hl1_4⟩ := bcell hb1_4
    clear hl1_4
    obtain ⟨hc3_4, hf3_4, hl3_4⟩ := bcell hb3_4
    clear hl3_4
    have hz4_0 : w.heap.size < w4.heap.size := (by omega)
    have hz4_1 : w2.heap.size < w4.heap.size := (by omega)
    have hz4_2 : w3.heap.size < w4.heap.size := (by omega)
    obtain ⟨hc4, hf4, hl4⟩ := bcell hb4
    clear hl4
    simp only [List.mem_cons, List.not_mem_nil, or_false] at hi4
    subst hi4
    refine Mix.op rfl (by kernel_rfl) ?_
    go_simp
    refine Mix.all (rs := [9]) (by kernel_rfl) (by simp) (Mix.over_of (by (repeat (first | assumption | exact Below.refl _ _ | refine ba ?_ _ | refine bd ?_ | refine bdn ?_ _ | refine bs ?_ (by first | omega | (simp; done) | (simp; omega)) _ | refine bt ?_ (by assumption))))) ?_
    intro i5 hi5 w5 hb5 hC5
    clear hC5
    have hs5 : w4.heap.size + 0 ≤ w5.heap.size := (by have h := hb5.size; first | omega | (simp at h; omega))
    have hz5_0 : w.heap.size < w5.heap.size := (by omega)
    have hz5_1 : w2.heap.size < w5.heap.size := (by omega)
    have hz5_2 : w3.heap.size < w5.heap.size := (by omega)
    have hy5_0_0 : w.heap.size ≤ w4.heap.size := (by omega)
    have hy5_1_0 : w2.heap.size ≤ w4.heap.size := (by omega)
    have hy5_2_0 : w3.heap.size ≤ w4.heap.size := (by omega)
    obtain ⟨hc5, hf5, hl5⟩ := bcell hb5
    clear hl5
    simp only [List.mem_cons, List.not_mem_nil, or_false] at hi5
    subst hi5
    refine Mix.op rfl (by kernel_rfl) ?_
    go_simp
    refine Mix.done (by kernel_rfl) (Mix.over_of (by (repeat (first | assumption | exact Below.refl _ _ | refine ba ?_ _ | refine bd ?_ | refine bdn ?_ _ | refine bs ?_ (by first | omega | (simp; done) | (simp; omega)) _ | refine bt ?_ (by assumption))))) ?_
    intro w6 hb6
    have hs6 : w5.heap.size + 0 ≤ w6.heap.size := (by have h := hb6.size; first | omega | (simp at h; omega))
    have hz6_0 : w.heap.size < w6.heap.size := (by omega)
    have hz6_1 : w2.heap.size < w6.heap.size := (by omega)
    have hz6_2 : w3.heap.size < w6.heap.size := (by omega)
    have hy6_0_0 : w.heap.size ≤ w5.heap.size := (by omega)
    have hy6_1_0 : w2.heap.size ≤ w5.heap.size := (by omega)
    have hy6_2_0 : w3.heap.size ≤ w5.heap.size := (by omega)
    obtain ⟨hc6, hf6, hl6⟩ := bcell hb6
    clear hl6
    go_wp2_with fail
    (with_reducible refine (works1 w6).mono ?_)
    rintro e w7 ⟨rfl, hb7⟩
    have hs7 : w6.heap.size + 0 ≤ w7.heap.size := (by have h := hb7.size; first | omega | (simp at h; omega))
    have hb6_7 := bel hb6 hb7 (by (repeat (first | assumption | exact Below.refl _ _ | refine ba ?_ _ | refine bd ?_ | refine bdn ?_ _ | refine bs ?_ (by first | omega | (simp; done) | (simp; omega)) _ | refine bt ?_ (by assumption))))
    obtain ⟨hc6_7, hf6_7, hl6_7⟩ := bcell hb6_7
    clear hl6_7
    have hz7_0 : w.heap.size < w7.heap.size := (by omega)
    have hz7_1 : w2.heap.size < w7.heap.size := (by omega)
    have hz7_2 : w3.heap.size < w7.heap.size := (by omega)
    obtain ⟨hc7, hf7, hl7⟩ := bcell hb7
    clear hl7
    go_wp2
    go_ret
    refine ⟨rfl, ?_⟩
    (repeat (first | assumption | exact Below.refl _ _ | refine ba ?_ _ | refine bd ?_ | refine bdn ?_ _ | refine bs ?_ (by first | omega | (simp; done) | (simp; omega)) _ | refine bt ?_ (by assumption)))
  · refine Mix.op rfl (by kernel_rfl) ?_
    go_simp
    refine Mix.all (rs := [6]) (by kernel_rfl) (by simp) (Mix.over_of (by (repeat (first | assumption | exact Below.refl _ _ | refine ba ?_ _ | refine bd ?_ | refine bdn ?_ _ | refine bs ?_ (by first | omega | (simp; done) | (simp; omega)) _ | refine bt ?_ (by assumption))))) ?_
    intro i3 hi3 w3 hb3 hC3
    clear hC3
    have hs3 : w2.heap.size + 1 ≤ w3.heap.size := (by have h := hb3.size; first | omega | (simp at h; omega))
    have hb1_3 := bel hb1_2 hb3 (by (repeat (first | assumption | exact Below.refl _ _ | refine ba ?_ _ | refine bd ?_ | refine bdn ?_ _ | refine bs ?_ (by first | omega | (simp; done) | (simp; omega)) _ | refine bt ?_ (by assumption))))
    have hb2_3 := bel hb2 hb3 (by (repeat (first | assumption | exact Below.refl _ _ | refine ba ?_ _ | refine bd ?_ | refine bdn ?_ _ | refine bs ?_ (by first | omega | (simp; done) | (simp; omega)) _ | refine bt ?_ (by assumption))))
    clear hc1_2 hf1_2 hz2_0 hc2 hf2
    obtain ⟨hc1_3, hf1_3, hl1_3⟩ := bcell hb1_3
    clear hl1_3
    have hz3_0 : w.heap.size < w3.heap.size := (by omega)
    have hz3_1 : w2.heap.size < w3.heap.size := (by omega)
    obtain ⟨hc3, hf3, hl3⟩ := bcell hb3
    clear hl3
    simp only [List.mem_cons, List.not_mem_nil, or_false] at hi3
    subst hi3
    refine Mix.op rfl (by kernel_rfl) ?_
    go_simp
    refine Mix.all (rs := [8]) (by kernel_rfl) (by simp) (Mix.over_of (by (repeat (first | assumption | exact Below.refl _ _ | refine ba ?_ _ | refine bd ?_ | refine bdn ?_ _ | refine bs ?_ (by first | omega | (simp; done) | (simp; omega)) _ | refine bt ?_ (by assumption))))) ?_
    intro i4 hi4 w4 hb4 hC4
    clear hC4
    have hs4 : w3.heap.size + 1 ≤ w4.heap.size := (by have h := hb4.size; first | omega | (simp at h; omega))
    have hb1_4 := bel hb1_3 hb4 (by (repeat (first | assumption | exact Below.refl _ _ | refine ba ?_ _ | refine bd ?_ | refine bdn ?_ _ | refine bs ?_ (by first | omega | (simp; done) | (simp; omega)) _ | refine bt ?_ (by assumption))))
    have hb2_4 := bel hb2_3 hb4 (by (repeat (first | assumption | exact Below.refl _ _ | refine ba ?_ _ | refine bd ?_ | refine bdn ?_ _ | refine bs ?_ (by first | omega | (simp; done) | (simp; omega)) _ | refine bt ?_ (by assumption))))
    have hb3_4 := bel hb3 hb4 (by (repeat (first | assumption | exact Below.refl _ _ | refine ba ?_ _ | refine bd ?_ | refine bdn ?_ _ | refine bs ?_ (by first | omega | (simp; done) | (simp; omega)) _ | refine bt ?_ (by assumption))))
    clear hc1_3 hf1_3 hz3_0 hz3_1 hc3 hf3
    obtain ⟨hc1_4, hf1_4, hl1_4⟩ := bcell hb1_4
    clear hl1_4
    obtain ⟨hc3_4, hf3_4, hl3_4⟩ := bcell hb3_4
    clear hl3_4
    have hz4_0 : w.heap.size < w4.heap.size := (by omega)
    have hz4_1 : w2.heap.size < w4.heap.size := (by omega)
    have hz4_2 : w3.heap.size < w4.heap.size := (by omega)
    obtain ⟨hc4, hf4, hl4⟩ := bcell hb4
    clear hl4
    simp only [List.mem_cons, List.not_mem_nil, or_false] at hi4
    subst hi4
    refine Mix.op rfl (by kernel_rfl) ?_
    go_simp
    refine Mix.all (rs := [9]) (by kernel_rfl) (by simp) (Mix.over_of (by (repeat (first | assumption | exact Below.refl _ _ | refine ba ?_ _ | refine bd ?_ | refine bdn ?_ _ | refine bs ?_ (by first | omega | (simp; done) | (simp; omega)) _ | refine bt ?_ (by assumption))))) ?_
    intro i5 hi5 w5 hb5 hC5
    clear hC5
    have hs5 : w4.heap.size + 0 ≤ w5.heap.size := (by have h := hb5.size; first | omega | (simp at h; omega))
    have hz5_0 : w.heap.size < w5.heap.size := (by omega)
    have hz5_1 : w2.heap.size < w5.heap.size := (by omega)
    have hz5_2 : w3.heap.size < w5.heap.size := (by omega)
    have hy5_0_0 : w.heap.size ≤ w4.heap.size := (by omega)
    have hy5_1_0 : w2.heap.size ≤ w4.heap.size := (by omega)
    have hy5_2_0 : w3.heap.size ≤ w4.heap.size := (by omega)
    obtain ⟨hc5, hf5, hl5⟩ := bcell hb5
    clear hl5
    simp only [List.mem_cons, List.not_mem_nil, or_false] at hi5
    subst hi5
    refine Mix.op rfl (by kernel_rfl) ?_
    go_simp
    refine Mix.done (by kernel_rfl) (Mix.over_of (by (repeat (first | assumption | exact Below.refl _ _ | refine ba ?_ _ | refine bd ?_ | refine bdn ?_ _ | refine bs ?_ (by first | omega | (simp; done) | (simp; omega)) _ | refine bt ?_ (by assumption))))) ?_
    intro w6 hb6
    have hs6 : w5.heap.size + 0 ≤ w6.heap.size := (by have h := hb6.size; first | omega | (simp at h; omega))
    have hz6_0 : w.heap.size < w6.heap.size := (by omega)
    have hz6_1 : w2.heap.size < w6.heap.size := (by omega)
    have hz6_2 : w3.heap.size < w6.heap.size := (by omega)
    have hy6_0_0 : w.heap.size ≤ w5.heap.size := (by omega)
    have hy6_1_0 : w2.heap.size ≤ w5.heap.size := (by omega)
    have hy6_2_0 : w3.heap.size ≤ w5.heap.size := (by omega)
    obtain ⟨hc6, hf6, hl6⟩ := bcell hb6
    clear hl6
    go_wp2_with fail
    (with_reducible refine (works1 w6).mono ?_)
    rintro e w7 ⟨rfl, hb7⟩
    have hs7 : w6.heap.size + 0 ≤ w7.heap.size := (by have h := hb7.size; first | omega | (simp at h; omega))
    have hb6_7 := bel hb6 hb7 (by (repeat (first | assumption | exact Below.refl _ _ | refine ba ?_ _ | refine bd ?_ | refine bdn ?_ _ | refine bs ?_ (by first | omega | (simp; done) | (simp; omega)) _ | refine bt ?_ (by assumption))))
    obtain ⟨hc6_7, hf6_7, hl6_7⟩ := bcell hb6_7
    clear hl6_7
    have hz7_0 : w.heap.size < w7.heap.size := (by omega)
    have hz7_1 : w2.heap.size < w7.heap.size := (by omega)
    have hz7_2 : w3.heap.size < w7.heap.size := (by omega)
    obtain ⟨hc7, hf7, hl7⟩ := bcell hb7
    clear hl7
    go_wp2
    go_ret
    refine ⟨rfl, ?_⟩
    (repeat (first | assumption | exact Below.refl _ _ | refine ba ?_ _ | refine bd ?_ | refine bdn ?_ _ | refine bs ?_ (by first | omega | (simp; done) | (simp; omega)) _ | refine bt ?_ (by assumption)))
theorem shifts_walk (ah al n : Int) (h1 : Word ah) (h2 : Word al) (n0 : -9223372036854775808 ≤ n) (n1 : n ≤ 9223372036854775807) : Pure Try.prog 6 #[W2 ah al, .int .i64 n] (.bool true) := by
  by_cases hn : n < 0
  · exact shifts_neg ah al n hn
  · have hV : WV (ah * 18446744073709551616 + al) = W2 ah al := WV_of ah al h2
    have hW : Wd (ah * 18446744073709551616 + al) := Wd_of h1 h2
    rw [← hV]
    generalize ah * 18446744073709551616 + al = V at *
    clear hV h1 h2
    obtain ⟨s, hs⟩ := Int.eq_ofNat_of_zero_le (show 0 ≤ min n 200 by omega)
    have hs' : (min n 200).toNat = s := by omega
    have hU := up_V V hW n (by omega) n1
    have hD := down_V V hW n (by omega) n1
    rw [hs'] at hU hD
    have wu := wd_up (V * 2 ^ s)
    have wd := wd_down V hW s
    exact shifts_core _ _ _ _ _ _ n s hn hs (by omega) (fun k => bw V k) (topB V) rfl (fun k => by rw [topB]) hU hD
      (fun k hk => ⟨bw V ((k : Int) - s), by rw [← bw_up V s k hk]; exact bit_V _ wu k (by omega) (by omega), bit_V V hW _ (by omega) (by omega)⟩)
      (fun k hk => ⟨bw V ((k : Int) + s), by rw [← bw_down V hW s k hk]; exact bit_V _ wd k (by omega) (by omega), bit_V V hW _ (by omega) (by omega)⟩)
      (fun k hk => bit_V V hW k (by omega) (by omega)) (bits_top V hW)
theorem int_of_wf {x : Int} (h : (Lit.int .i64 x).wf = true) : -9223372036854775808 ≤ x ∧ x ≤ 9223372036854775807 := by
  simp [Lit.wf, IntKind.min, IntKind.max, IntKind.signed, IntKind.bits] at h
  omega
namespace WideShifts
open Go.ChangeShapes Go.WideShapes Go.ChangeAt Go.RowKit
theorem own : ownKnob Try.prog.godebug = none := by kernel_rfl
theorem laidOut : laidOutB Try.prog = true := by kernel_rfl
set_option maxRecDepth 100000 in
theorem lifted (os : Os) (started : os.Started) (H : Type) (enc : TypeId × Value → H) :
    ReturnsInHanded {} Try.checked os 6 .any (Rows.wideShiftsSpec.pre6 enc Try.prog Try.f6 Rows.wideShiftsRow.domain false) (Rows.wideShiftsSpec.post enc Try.prog Try.f6 false true false false) := by
  refine returnsInHanded_of_change (C := Try.checked) own started (by kernel_rfl) Try.func6
    (ChangeSpec.witness6 (enc := enc) (C := Try.checked) false ⟨#[], #[W2 0 0, .int .i64 0], []⟩ 8 (by kernel_rfl) (by kernel_rfl) (by kernel_rfl) (by kernel_rfl)) ?_
  intro W base args ds gs before hval0 hW hcnd _
  have hval : ∀ (j : Nat) t v, Try.f6.params[j]? = some t → args[j]? = some v → Value.okWide Try.prog W .any base t v := hval0
  have hW' := hW
  obtain ⟨p, q, hA0, hV, rfl, hfz, hnd⟩ := hW
  have hA : DataW.TrodAll enc Try.prog W 0 (fun _ => true) true Try.f6.params.toList args.toList ds p := hA0
  rw [Try.params6] at hA hval
  obtain ⟨v0, vs0, d0, ds0, p0, q0, hargs, rfl, rfl, h0, r0⟩ := trodAll_cons hA
  obtain ⟨v1, vs1, d1, ds1, p1, q1, rfl, rfl, rfl, h1, r1⟩ := trodAll_cons r0
  obtain ⟨rfl, rfl, rfl⟩ := trodAll_nil r1
  obtain rfl : args = #[v0, v1] := by cases args; simp_all
  obtain ⟨rfl, rfl⟩ := trodVars_none hV
  have k0 := h0
  have lt0 : ∀ x ∈ p0, x.block < W.heap.size := by obtain ⟨m, hm⟩ := k0; exact DataW.trod_lt m _ _ _ hm
  have k1 := h1
  have lt1 : ∀ x ∈ p1, x.block < W.heap.size := by obtain ⟨m, hm⟩ := k1; exact DataW.trod_lt m _ _ _ hm
  obtain ⟨c0_0, c0_1, y0_0, y0_1, m0, vEq0, rfl, rfl, hy0_0, hy0_1⟩ := Go.Joins.open_agg2 Try.underlying24 (by kernel_rfl) (by kernel_rfl : Try.prog.cellsOf 24 = 2) (hval 0 24 v0 rfl rfl) k0
  obtain ⟨ah, eq0_0, _, wf_ah⟩ := DataW.trod_int Try.underlying22 hy0_0
  obtain ⟨al, eq0_1, _, wf_al⟩ := DataW.trod_int Try.underlying22 hy0_1
  simp at eq0_0 eq0_1
  subst eq0_0 eq0_1
  subst vEq0
  obtain ⟨n, vEq1, _, _, wf_n⟩ := open_int Try.underlying3 (hval 1 3 v1 rfl rfl) k1
  subst vEq1
  clear hA0 hval0
  refine (shifts_walk ah al n (word_of_wf wf_ah) (word_of_wf wf_al) (int_of_wf wf_n).1 (int_of_wf wf_n).2 W).mono fun e W' ⟨he, bel⟩ => ?_
  subst he
  exact ⟨_, rfl, _, _, _, [], _, [], hW', trodAll_mk1 (shut_bool Try.underlying4 _), (trodAll_cons_mk (Below.trod laidOut (by kernel_rfl) (of_decide_eq_true (by kernel_rfl)) k0 bel lt0) (trodAll_cons_mk (Below.trod laidOut (by kernel_rfl) (of_decide_eq_true (by kernel_rfl)) k1 bel lt1) trodAll_mk0)), rfl, bel.frame _, fun h => by cases h⟩
theorem over : Rows.wideShiftsRow.holds Try.pinned (OpenSpec.ofChange Rows.wideShiftsSpec) :=
  OpenClaim.holds_of_wide 6 Try.f6 rfl rfl rfl rfl rfl rfl rfl ⟨rfl, rfl, rfl, rfl, rfl⟩ rfl rfl rfl rfl rfl (by kernel_rfl) Try.func6 (by kernel_rfl)
    (of_decide_eq_true (by kernel_rfl)) (by unfold Func.isWrapper; first | (rw [if_pos (by decide +kernel)]; kernel_rfl) | (rw [if_neg (by decide +kernel)]; exact ⟨rfl, rfl⟩))
    (fun os started H enc _ => lifted os started H enc)
theorem proved : Rows.WideShiftsSaid := over
end WideShifts
end Go.Proofs.Ytojfkpmdnhkanaa

/- For any two sums the statement SumsMany returns true. Condition: none. -/
import Derived.Test.YtmiifcenmkpkiaaSumsH
import Derived.Test.YtmiifcenmkpkiaaSumsDominant
namespace Go.Proofs.Ytmiifcenmkpkiaa
open Go.RowKit
attribute [local go_sem] ext_cell ext_frozen Mix.calmUpon Mix.mUpon eq4
/-- Told by one of the first n kinds. -/
def on (a b : Nat → Int) (N : Int) : Nat → Bool
  | 0 => false
  | n + 1 => on a b N n || (decide (0 < b n) && decide (N = a n / b n))
theorem mn_le {a b : Nat → Int} : ∀ n k, k < n → 0 < b k → mn a b n ≤ a k / b k
  | 0, k, h, _ => by omega
  | n + 1, k, h, hp => by
    unfold mn
    by_cases hk : k = n
    · subst hk; rw [if_pos hp]; omega
    · have := mn_le (a := a) (b := b) n k (by omega) hp
      split <;> omega
theorem on_of {a b : Nat → Int} {N : Int} : ∀ n k, k < n → 0 < b k → N = a k / b k → on a b N n = true
  | 0, k, h, _, _ => by omega
  | n + 1, k, h, hp, he => by
    unfold on
    by_cases hk : k = n
    · subst hk; rw [decide_eq_true hp, decide_eq_true he]; simp
    · rw [on_of n k (by omega) hp he]; rfl
theorem mn_at {a b : Nat → Int} (ha : SOk a) : ∀ n, n ≤ 4 → (mn a b n = 1152921504606846976 ∧ ∀ k, k < n → ¬ 0 < b k) ∨ ∃ k, k < n ∧ 0 < b k ∧ mn a b n = a k / b k
  | 0, _ => .inl ⟨rfl, fun k hk => by omega⟩
  | n + 1, hn => by
    have ih := mn_at (b := b) ha n (by omega)
    by_cases hp : 0 < b n
    · have e : mn a b (n + 1) = min (mn a b n) (a n / b n) := by rw [mn, if_pos hp]
      right
      rw [e]
      have an := sok_at ha n (by omega)
      have hq : a n / b n ≤ 1152921504606846976 := Int.le_trans (Int.ediv_le_self _ an.1) an.2
      rcases ih with ⟨h1, _⟩ | ⟨k, hk, hkp, hke⟩
      · exact ⟨n, by omega, hp, by omega⟩
      · by_cases hle : mn a b n ≤ a n / b n
        · exact ⟨k, by omega, hkp, by rw [← hke]; omega⟩
        · exact ⟨n, by omega, hp, by omega⟩
    · have e : mn a b (n + 1) = mn a b n := by rw [mn, if_neg hp]
      rw [e]
      rcases ih with ⟨h1, h2⟩ | ⟨k, hk, hkp, hke⟩
      · refine .inl ⟨h1, fun k hk => ?_⟩
        by_cases hkn : k = n
        · rw [hkn]; exact hp
        · exact h2 k (by omega)
      · exact .inr ⟨k, by omega, hkp, hke⟩
theorem on_all {a b : Nat → Int} (ha : SOk a) (hb : SOk b) (h0 : e4 b (fun _ => 0) = false) : on a b (mn a b 4) 4 = true := by
  rcases mn_at (b := b) ha 4 (by omega) with ⟨_, h⟩ | ⟨k, hk, hp, he⟩
  · exfalso
    have z : ∀ k, k < 4 → b k = 0 := fun k hk => by have := h k hk; have := (sok_at hb k hk).1; omega
    unfold e4 at h0
    rw [z 0 (by omega), z 1 (by omega), z 2 (by omega), z 3 (by omega)] at h0
    simp at h0
  · exact on_of 4 k hk hp he
theorem holds_mn {a b : Nat → Int} (ha : SOk a) (hb : SOk b) : decide (HOk a b) = decide (0 < mn a b 4) := by
  rw [decide_eq_decide]
  constructor
  · intro h
    rcases mn_at (b := b) ha 4 (by omega) with ⟨h1, _⟩ | ⟨k, hk, hp, he⟩
    · omega
    · rw [he]
      have h1 : 1 ≤ a k / b k := (Int.le_ediv_iff_mul_le hp).2 (by have := hok_at h k hk; omega)
      omega
  · intro h
    have g : ∀ k, k < 4 → b k ≤ a k := fun k hk => by
      by_cases hp : 0 < b k
      · have h1 := mn_le (a := a) (b := b) 4 k hk hp
        have h2 : 1 ≤ a k / b k := by omega
        have := (Int.le_ediv_iff_mul_le hp).1 h2
        omega
      · have := (sok_at hb k hk).1; have := (sok_at ha k hk).1; omega
    exact ⟨ha, hb, g 0 (by omega), g 1 (by omega), g 2 (by omega), g 3 (by omega)⟩
theorem smany_no1 (a b : Nat → Int) (ha : ¬ SOk a) : Pure Try.prog 6 #[S4 a, S4 b] (.bool true) := by
  intro W
  have HM := Lib.hid (many_no1 a b ha)
  have HA := sumsright a
  rw [decide_eq_false ha] at HA
  have HA := Lib.hid HA
  clear ha
  go_enter Try.func6, Try.ntmps6
  go_wp2_with fail
  (with_reducible refine (HM.out _).mono ?_)
  rintro e w1 ⟨rfl, hb1⟩
  have hs1 : W.heap.size + 2 ≤ w1.heap.size := (by have h := hb1.size; first | omega | (simp at h; omega))
  have hz1_0 : W.heap.size < w1.heap.size := (by omega)
  have hz1_1 : W.heap.size + 1 < w1.heap.size := (by omega)
  obtain ⟨hc1, hf1, hl1⟩ := bcell hb1
  clear hl1
  go_wp2_with fail
  (with_reducible refine (HA.out _).mono ?_)
  rintro e w2 ⟨rfl, hb2⟩
  have hs2 : w1.heap.size + 0 ≤ w2.heap.size := (by have h := hb2.size; first | omega | (simp at h; omega))
  have hb1_2 := bel hb1 hb2 (by (repeat (first | assumption | exact Below.refl _ _ | refine ba ?_ _ | refine bd ?_ | refine bdn ?_ _ | refine bs ?_ (by first | omega | (simp; done) | (simp; omega)) _ | refine bt ?_ (by assumption))))
  clear hz1_0 hz1_1 hc1 hf1
  obtain ⟨hc1_2, hf1_2, hl1_2⟩ := bcell hb1_2
  clear hl1_2
  have hz2_0 : W.heap.size < w2.heap.size := (by omega)
  have hz2_1 : W.heap.size + 1 < w2.heap.size := (by omega)
  obtain ⟨hc2, hf2, hl2⟩ := bcell hb2
  clear hl2
  go_wp2_with fail
  (with_reducible refine (works6 _).mono ?_)
  rintro e w3 ⟨rfl, hb3⟩
  have hs3 : w2.heap.size + 0 ≤ w3.heap.size := (by have h := hb3.size; first | omega | (simp at h; omega))
  have hb1_3 := bel hb1_2 hb3 (by (repeat (first | assumption | exact Below.refl _ _ | refine ba ?_ _ | refine bd ?_ | refine bdn ?_ _ | refine bs ?_ (by first | omega | (simp; done) | (simp; omega)) _ | refine bt ?_ (by assumption))))
  have hb2_3 := bel hb2 hb3 (by (repeat (first | assumption | exact Below.refl _ _ | refine ba ?_ _ | refine bd ?_ | refine bdn ?_ _ | refine bs ?_ (by first | omega | (simp; done) | (simp; omega)) _ | refine bt ?_ (by assumption))))
  clear hc1_2 hf1_2 hz2_0 hz2_1 hc2 hf2
  obtain ⟨hc1_3, hf1_3, hl1_3⟩ := bcell hb1_3
  clear hl1_3
  have hz3_0 : W.heap.size < w3.heap.size := (by omega)
  have hz3_1 : W.heap.size + 1 < w3.heap.size := (by omega)
  obtain ⟨hc3, hf3, hl3⟩ := bcell hb3
  clear hl3
  go_wp2
  go_ret
  refine ⟨rfl, ?_⟩
  (repeat (first | assumption | exact Below.refl _ _ | refine ba ?_ _ | refine bd ?_ | refine bdn ?_ _ | refine bs ?_ (by first | omega | (simp; done) | (simp; omega)) _ | refine bt ?_ (by assumption)))
theorem smany_no2 (a b : Nat → Int) (ha : SOk a) (hb : ¬ SOk b) : Pure Try.prog 6 #[S4 a, S4 b] (.bool true) := by
  intro W
  have HM := Lib.hid (many_no2 a b ha hb)
  have HA := sumsright a
  rw [decide_eq_true ha] at HA
  have HA := Lib.hid HA
  have HB := sumsright b
  rw [decide_eq_false hb] at HB
  have HB := Lib.hid HB
  clear ha hb
  go_enter Try.func6, Try.ntmps6
  go_wp2_with fail
  (with_reducible refine (HM.out _).mono ?_)
  rintro e w1 ⟨rfl, hb1⟩
  have hs1 : W.heap.size + 2 ≤ w1.heap.size := (by have h := hb1.size; first | omega | (simp at h; omega))
  have hz1_0 : W.heap.size < w1.heap.size := (by omega)
  have hz1_1 : W.heap.size + 1 < w1.heap.size := (by omega)
  obtain ⟨hc1, hf1, hl1⟩ := bcell hb1
  clear hl1
  go_wp2_with fail
  (with_reducible refine (HA.out _).mono ?_)
  rintro e w2 ⟨rfl, hb2⟩
  have hs2 : w1.heap.size + 0 ≤ w2.heap.size := (by have h := hb2.size; first | omega | (simp at h; omega))
  have hb1_2 := bel hb1 hb2 (by (repeat (first | assumption | exact Below.refl _ _ | refine ba ?_ _ | refine bd ?_ | refine bdn ?_ _ | refine bs ?_ (by first | omega | (simp; done) | (simp; omega)) _ | refine bt ?_ (by assumption))))
  clear hz1_0 hz1_1 hc1 hf1
  obtain ⟨hc1_2, hf1_2, hl1_2⟩ := bcell hb1_2
  clear hl1_2
  have hz2_0 : W.heap.size < w2.heap.size := (by omega)
  have hz2_1 : W.heap.size + 1 < w2.heap.size := (by omega)
  obtain ⟨hc2, hf2, hl2⟩ := bcell hb2
  clear hl2
  go_wp2_with fail
  (with_reducible refine (HB.out _).mono ?_)
  rintro e w3 ⟨rfl, hb3⟩
  have hs3 : w2.heap.size + 0 ≤ w3.heap.size := (by have h := hb3.size; first | omega | (simp at h; omega))
  have hb1_3 := bel hb1_2 hb3 (by (repeat (first | assumption | exact Below.refl _ _ | refine ba ?_ _ | refine bd ?_ | refine bdn ?_ _ | refine bs ?_ (by first | omega | (simp; done) | (simp; omega)) _ | refine bt ?_ (by assumption))))
  have hb2_3 := bel hb2 hb3 (by (repeat (first | assumption | exact Below.refl _ _ | refine ba ?_ _ | refine bd ?_ | refine bdn ?_ _ | refine bs ?_ (by first | omega | (simp; done) | (simp; omega)) _ | refine bt ?_ (by assumption))))
  clear hc1_2 hf1_2 hz2_0 hz2_1 hc2 hf2
  obtain ⟨hc1_3, hf1_3, hl1_3⟩ := bcell hb1_3
  clear hl1_3
  have hz3_0 : W.heap.size < w3.heap.size := (by omega)
  have hz3_1 : W.heap.size + 1 < w3.heap.size := (by omega)
  obtain ⟨hc3, hf3, hl3⟩ := bcell hb3
  clear hl3
  go_wp2_with fail
  (with_reducible refine (works6 _).mono ?_)
  rintro e w4 ⟨rfl, hb4⟩
  have hs4 : w3.heap.size + 0 ≤ w4.heap.size := (by have h := hb4.size; first | omega | (simp at h; omega))
  have hb1_4 := bel hb1_3 hb4 (by (repeat (first | assumption | exact Below.refl _ _ | refine ba ?_ _ | refine bd ?_ | refine bdn ?_ _ | refine bs ?_ (by first | omega | (simp; done) | (simp; omega)) _ | refine bt ?_ (by assumption))))
  have hb2_4 := bel hb2_3 hb4 (by (repeat (first | assumption | exact Below.refl _ _ | refine ba ?_ _ | refine bd ?_ | refine bdn ?_ _ | refine bs ?_ (by first | omega | (simp; done) | (simp; omega)) _ | refine bt ?_ (by assumption))))
  have hb3_4 := bel hb3 hb4 (by (repeat (first | assumption | exact Below.refl _ _ | refine ba ?_ _ | refine bd ?_ | refine bdn ?_ _ | refine bs ?_ (by first | omega | (simp; done) | (simp; omega)) _ | refine bt ?_ (by assumption))))
  clear hc1_3 hf1_3 hz3_0 hz3_1 hc3 hf3
  obtain ⟨hc1_4, hf1_4, hl1_4⟩ := bcell hb1_4
  clear hl1_4
  have hz4_0 : W.heap.size < w4.heap.size := (by omega)
  have hz4_1 : W.heap.size + 1 < w4.heap.size := (by omega)
  obtain ⟨hc4, hf4, hl4⟩ := bcell hb4
  clear hl4
  go_wp2
  go_ret
  refine ⟨rfl, ?_⟩
  (repeat (first | assumption | exact Below.refl _ _ | refine ba ?_ _ | refine bd ?_ | refine bdn ?_ _ | refine bs ?_ (by first | omega | (simp; done) | (simp; omega)) _ | refine bt ?_ (by assumption)))
set_option maxRecDepth 100000 in
theorem smany_no3 (a b : Nat → Int) (ha : SOk a) (hb : SOk b) (h0 : e4 b (fun _ => 0) = true) : Pure Try.prog 6 #[S4 a, S4 b] (.bool true) := by
  intro W
  have HM := Lib.hid (many_no3 a b ha hb h0)
  have HA := sumsright a
  rw [decide_eq_true ha] at HA
  have HA := Lib.hid HA
  have HB := sumsright b
  rw [decide_eq_true hb] at HB
  have HB := Lib.hid HB
  have e0 : (b 0 == 0 && (b 1 == 0 && (b 2 == 0 && b 3 == 0))) = true := h0
  clear ha hb h0
  go_enter Try.func6, Try.ntmps6
  go_wp2_with fail
  (with_reducible refine (HM.out _).mono ?_)
  rintro e w1 ⟨rfl, hb1⟩
  have hs1 : W.heap.size + 2 ≤ w1.heap.size := (by have h := hb1.size; first | omega | (simp at h; omega))
  have hz1_0 : W.heap.size < w1.heap.size := (by omega)
  have hz1_1 : W.heap.size + 1 < w1.heap.size := (by omega)
  obtain ⟨hc1, hf1, hl1⟩ := bcell hb1
  clear hl1
  go_wp2_with fail
  (with_reducible refine (HA.out _).mono ?_)
  rintro e w2 ⟨rfl, hb2⟩
  have hs2 : w1.heap.size + 0 ≤ w2.heap.size := (by have h := hb2.size; first | omega | (simp at h; omega))
  have hb1_2 := bel hb1 hb2 (by (repeat (first | assumption | exact Below.refl _ _ | refine ba ?_ _ | refine bd ?_ | refine bdn ?_ _ | refine bs ?_ (by first | omega | (simp; done) | (simp; omega)) _ | refine bt ?_ (by assumption))))
  clear hz1_0 hz1_1 hc1 hf1
  obtain ⟨hc1_2, hf1_2, hl1_2⟩ := bcell hb1_2
  clear hl1_2
  have hz2_0 : W.heap.size < w2.heap.size := (by omega)
  have hz2_1 : W.heap.size + 1 < w2.heap.size := (by omega)
  obtain ⟨hc2, hf2, hl2⟩ := bcell hb2
  clear hl2
  go_wp2_with fail
  refine (HB.out _).mono ?_
  rintro e w3 ⟨rfl, hb3⟩
  obtain ⟨hca, hcb, hbw, hcs⟩ := two_cells (bt hb1 hb2) hb3
  have d0 := hcb 0 (by omega); have d1 := hcb 1 (by omega); have d2 := hcb 2 (by omega); have d3 := hcb 3 (by omega)
  have HBW := Lib.hid hbw
  clear hca hcb hbw hb1 hb2 hb3
  go_wp2_with fail
  refine (works6 _).mono ?_
  rintro e w4 ⟨rfl, hb4⟩
  go_wp2
  go_ret
  exact ⟨rfl, bt HBW.out hb4⟩
set_option maxRecDepth 100000 in
set_option maxHeartbeats 4000000 in
theorem smany_yes (a b : Nat → Int) (ha : SOk a) (hb : SOk b) (h0 : e4 b (fun _ => 0) = false) : Pure Try.prog 6 #[S4 a, S4 b] (.bool true) := by
  intro W
  have HM := Lib.hid (many_yes a b ha hb h0)
  have HA := sumsright a
  rw [decide_eq_true ha] at HA
  have HA := Lib.hid HA
  have HB := sumsright b
  rw [decide_eq_true hb] at HB
  have HB := Lib.hid HB
  have HH := holds_yes a b ha hb
  rw [holds_mn ha hb] at HH
  have HH := Lib.hid HH
  have HSA := Lib.hid ha; have HSB := Lib.hid hb
  have HLE := Lib.hid (fun k hk hp => mn_le (a := a) (b := b) 4 k hk hp)
  have HON := Lib.hid (on_all ha hb h0)
  have N0 := (mn_bd (b := b) ha 4 (by omega)).1
  have e0 : (b 0 == 0 && (b 1 == 0 && (b 2 == 0 && b 3 == 0))) = false := h0
  clear ha hb h0
  generalize mn a b 4 = N at *
  go_enter Try.func6, Try.ntmps6
  go_wp2_with fail
  (with_reducible refine (HM.out _).mono ?_)
  rintro e w1 ⟨rfl, hb1⟩
  have hs1 : W.heap.size + 2 ≤ w1.heap.size := (by have h := hb1.size; first | omega | (simp at h; omega))
  have hz1_0 : W.heap.size < w1.heap.size := (by omega)
  have hz1_1 : W.heap.size + 1 < w1.heap.size := (by omega)
  obtain ⟨hc1, hf1, hl1⟩ := bcell hb1
  clear hl1
  go_wp2_with fail
  (with_reducible refine (HA.out _).mono ?_)
  rintro e w2 ⟨rfl, hb2⟩
  have hs2 : w1.heap.size + 0 ≤ w2.heap.size := (by have h := hb2.size; first | omega | (simp at h; omega))
  have hb1_2 := bel hb1 hb2 (by (repeat (first | assumption | exact Below.refl _ _ | refine ba ?_ _ | refine bd ?_ | refine bdn ?_ _ | refine bs ?_ (by first | omega | (simp; done) | (simp; omega)) _ | refine bt ?_ (by assumption))))
  clear hz1_0 hz1_1 hc1 hf1
  obtain ⟨hc1_2, hf1_2, hl1_2⟩ := bcell hb1_2
  clear hl1_2
  have hz2_0 : W.heap.size < w2.heap.size := (by omega)
  have hz2_1 : W.heap.size + 1 < w2.heap.size := (by omega)
  obtain ⟨hc2, hf2, hl2⟩ := bcell hb2
  clear hl2
  go_wp2_with fail
  refine (HB.out _).mono ?_
  rintro e w3 ⟨rfl, hb3⟩
  obtain ⟨hca, hcb, hbw, hcs⟩ := two_cells (bt hb1 hb2) hb3
  have d0 := hcb 0 (by omega); have d1 := hcb 1 (by omega); have d2 := hcb 2 (by omega); have d3 := hcb 3 (by omega)
  have HCA := Lib.hid hca; have HCB := Lib.hid hcb; have HBW := Lib.hid hbw
  clear hca hcb hbw hb1 hb2 hb3
  go_wp2
  clear d0 d1 d2 d3
  go_loopw [6, 7] (fun o i wr => ∃ t : Nat, t ≤ 4 ∧ i = .int .i64 t ∧ o = .bool (on a b N t) ∧ Below w3.heap.size w3 wr) (fun _ i _ => 4 - (intOf i).toNat)
  case atStart => exact ⟨0, Nat.zero_le _, rfl, rfl, Below.refl _ _⟩
  case round =>
    obtain ⟨t, ht, rfl, rfl, hb4⟩ := hrel
    have hs3 := hb4.size
    have z0 : W.heap.size < wr.heap.size := by omega
    have z1 : W.heap.size + 1 < wr.heap.size := by omega
    by_cases hlt : t < 4
    · have hts : (t : Int) < 4 := by omega
      have c0 := (hb4.cell (p := ⟨W.heap.size, t, none⟩) (by show W.heap.size < _; omega)).trans (HCA.out t hlt)
      have c1 := (hb4.cell (p := ⟨W.heap.size + 1, t, none⟩) (by show W.heap.size + 1 < _; omega)).trans (HCB.out t hlt)
      have ab := sok_at HSA.out t hlt
      by_cases hp : 0 < b t
      · have hle := HLE.out t hlt hp
        have HS := Lib.hid (show on a b N (t + 1) = (on a b N t || (decide (0 < b t) && decide (N = a t / b t))) from rfl)
        have hp1 : decide (0 < b t) = true := by simpa using hp
        rw [hp1] at HS
        have hz : b t ≠ 0 := by omega
        have hz2 : (b t == 0) = false := by simpa using hz
        have hq := Int.tdiv_eq_ediv_of_nonneg (b := b t) ab.1
        have q0 := Int.ediv_nonneg ab.1 (show 0 ≤ b t by omega)
        have q1 : a t / b t ≤ 1152921504606846976 := Int.le_trans (Int.ediv_le_self _ ab.1) ab.2
        have wq : IntKind.i64.wrap (a t / b t) = a t / b t := IntWalk.i64_in _ (by omega)
        generalize hQ : a t / b t = Q at *
        clear hQ ab
        cases ho : on a b N t with
        | true =>
          rw [ho] at HS
          go_wp2
          go_quiet (fail)
          go_wp2
          go_quiet (fail)
          go_wp2
          go_roundw
          case rel => exact ⟨t + 1, by omega, by go_num, by first | (rw [HS.out]; done) | (rw [HS.out]; rfl), by first | exact bdn hb4 _ | exact bdn (bdn hb4 _) _⟩
          case measure => simp [intOf]; omega
        | false =>
          rw [ho] at HS
          go_wp2
          go_quiet (fail)
          go_wp2
          go_quiet (fail)
          go_wp2
          go_roundw
          case rel => exact ⟨t + 1, by omega, by go_num, by first | (rw [HS.out]; done) | (rw [HS.out]; rfl), by first | exact bdn hb4 _ | exact bdn (bdn hb4 _) _⟩
          case measure => simp [intOf]; omega
      · have hz : b t = 0 := by have := (sok_at HSB.out t hlt).1; omega
        have HS := Lib.hid (show on a b N (t + 1) = on a b N t by
          show (on a b N t || (decide (0 < b t) && decide (N = a t / b t))) = on a b N t
          rw [decide_eq_false hp]; simp)
        rw [hz] at c1
        clear hp hz
        cases ho : on a b N t with
        | true =>
          rw [ho] at HS
          go_wp2
          go_quiet (fail)
          go_wp2
          go_quiet (fail)
          go_wp2
          go_roundw
          case rel => exact ⟨t + 1, by omega, by go_num, by rw [HS.out], by first | exact bdn hb4 _ | exact bdn (bdn hb4 _) _⟩
          case measure => simp [intOf]; omega
        | false =>
          rw [ho] at HS
          go_wp2
          go_quiet (fail)
          go_wp2
          go_quiet (fail)
          go_wp2
          go_roundw
          case rel => exact ⟨t + 1, by omega, by go_num, by first | (rw [HS.out]; done) | (rw [HS.out]; rfl), by first | exact bdn hb4 _ | exact bdn (bdn hb4 _) _⟩
          case measure => simp [intOf]; omega
    · obtain rfl : t = 4 := by omega
      rw [HON.out]
      have g0 := fun k hk => (hb4.cell (p := ⟨W.heap.size, k, none⟩) (by show W.heap.size < _; omega)).trans (HCA.out k hk)
      have g1 := fun k hk => (hb4.cell (p := ⟨W.heap.size + 1, k, none⟩) (by show W.heap.size + 1 < _; omega)).trans (HCB.out k hk)
      have c0 := g0 0 (by omega); have c1 := g0 1 (by omega); have c2 := g0 2 (by omega); have c3 := g0 3 (by omega)
      have d0 := g1 0 (by omega); have d1 := g1 1 (by omega); have d2 := g1 2 (by omega); have d3 := g1 3 (by omega)
      clear g0 g1
      go_wp2_with fail
      refine (HH.out _).mono ?_
      rintro e w5 ⟨rfl, hb5⟩
      clear c0 c1 c2 c3 d0 d1 d2 d3
      go_wp2_with fail
      refine (works6 _).mono ?_
      rintro e w6 ⟨rfl, hb6⟩
      go_wp2
      go_ret
      exact ⟨rfl, bt (bt (bt HBW.out hb4) hb5) hb6⟩
theorem smany_any (a b : Nat → Int) : Pure Try.prog 6 #[S4 a, S4 b] (.bool true) := by
  by_cases ha : SOk a
  · by_cases hb : SOk b
    · cases h0 : e4 b (fun _ => 0) with
      | true => exact smany_no3 a b ha hb h0
      | false => exact smany_yes a b ha hb h0
    · exact smany_no2 a b ha hb
  · exact smany_no1 a b ha
namespace SumsMany
open Go.ChangeShapes Go.WideShapes Go.ChangeAt Go.RowKit
theorem own : ownKnob Try.prog.godebug = none := by kernel_rfl
theorem laidOut : laidOutB Try.prog = true := by kernel_rfl
set_option maxRecDepth 100000 in
theorem lifted (os : Os) (started : os.Started) (H : Type) (enc : TypeId × Value → H) :
    ReturnsInHanded {} Try.checked os 6 .any (Rows.sumsManySpec.pre6 enc Try.prog Try.f6 Rows.sumsManyRow.domain false) (Rows.sumsManySpec.post enc Try.prog Try.f6 false true false false) := by
  refine returnsInHanded_of_change (C := Try.checked) own started (by kernel_rfl) Try.func6
    (ChangeSpec.witness6 (enc := enc) (C := Try.checked) false ⟨#[], #[.agg #[.int .i64 0, .int .i64 0, .int .i64 0, .int .i64 0], .agg #[.int .i64 0, .int .i64 0, .int .i64 0, .int .i64 0]], []⟩ 8 (by kernel_rfl) (by kernel_rfl) (by kernel_rfl) (by kernel_rfl)) ?_
  intro W base args ds gs before hval0 hW hcnd _
  have hval : ∀ (j : Nat) t v, Try.f6.params[j]? = some t → args[j]? = some v → Value.okWide Try.prog W .any base t v := hval0
  have hW' := hW
  obtain ⟨p, q, hA0, hV, rfl, hfz, hnd⟩ := hW
  have hA : DataW.TrodAll enc Try.prog W 0 (fun _ => true) true Try.f6.params.toList args.toList ds p := hA0
  rw [Try.params6] at hA hval
  obtain ⟨v0, vs0, d0, ds0, p0, q0, hargs, rfl, rfl, h0, r0⟩ := trodAll_cons hA
  obtain ⟨v1, vs1, d1, ds1, p1, q1, rfl, rfl, rfl, h1, r1⟩ := trodAll_cons r0
  obtain ⟨rfl, rfl, rfl⟩ := trodAll_nil r1
  obtain rfl : args = #[v0, v1] := by cases args; simp_all
  obtain ⟨rfl, rfl⟩ := trodVars_none hV
  have k0 := h0
  have lt0 : ∀ x ∈ p0, x.block < W.heap.size := by obtain ⟨m, hm⟩ := k0; exact DataW.trod_lt m _ _ _ hm
  have k1 := h1
  have lt1 : ∀ x ∈ p1, x.block < W.heap.size := by obtain ⟨m, hm⟩ := k1; exact DataW.trod_lt m _ _ _ hm
  obtain ⟨a, vEq0, ia⟩ := open_sums (hval 0 23 v0 rfl rfl) k0
  subst vEq0
  obtain ⟨t, vEq1, it⟩ := open_sums (hval 1 23 v1 rfl rfl) k1
  subst vEq1
  clear hA0 hval0
  refine (smany_any a t W).mono fun e W' ⟨he, bel⟩ => ?_
  subst he
  exact ⟨_, rfl, _, _, _, [], _, [], hW', trodAll_mk1 (shut_bool Try.underlying4 _), (trodAll_cons_mk (Below.trod laidOut (by kernel_rfl) (of_decide_eq_true (by kernel_rfl)) k0 bel lt0) (trodAll_cons_mk (Below.trod laidOut (by kernel_rfl) (of_decide_eq_true (by kernel_rfl)) k1 bel lt1) trodAll_mk0)), rfl, bel.frame _, fun h => by cases h⟩
theorem over : Rows.sumsManyRow.holds Try.pinned (OpenSpec.ofChange Rows.sumsManySpec) :=
  OpenClaim.holds_of_wide 6 Try.f6 rfl rfl rfl rfl rfl rfl rfl ⟨rfl, rfl, rfl, rfl, rfl⟩ rfl rfl rfl rfl rfl (by kernel_rfl) Try.func6 (by kernel_rfl)
    (of_decide_eq_true (by kernel_rfl)) (by unfold Func.isWrapper; first | (rw [if_pos (by decide +kernel)]; kernel_rfl) | (rw [if_neg (by decide +kernel)]; exact ⟨rfl, rfl⟩))
    (fun os started H enc _ => lifted os started H enc)
theorem proved : Rows.SumsManySaid := over
end SumsMany
end Go.Proofs.Ytmiifcenmkpkiaa

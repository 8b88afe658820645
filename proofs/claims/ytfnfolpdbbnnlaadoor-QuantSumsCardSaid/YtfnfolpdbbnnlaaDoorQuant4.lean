/- Contracts of quant.Times, quant.Sum, and mancipleref03's. Condition: numbers of int64. -/
import Derived.Test.YtfnfolpdbbnnlaaDoorQuant3
namespace Go.Proofs.YtfnfolpdbbnnlaaDoor
open Go.RowKit
attribute [local go_sem] ext_cell ext_frozen Mix.calmUpon Mix.mUpon
def QT (a n m : Int) : Prop := 0 ≤ a ∧ 0 ≤ n ∧ 0 ≤ m ∧ (0 < a → n ≤ m / a)
theorem qt_bd {a n m : Int} (h : QT a n m) : 0 ≤ a * n ∧ a * n ≤ m := by
  obtain ⟨h1, h2, h3, h4⟩ := h
  refine ⟨Int.mul_nonneg h1 h2, ?_⟩
  by_cases h0 : 0 < a
  · have := (Int.le_ediv_iff_mul_le h0).1 (h4 h0)
    rw [Int.mul_comm]; exact this
  · obtain rfl : a = 0 := by omega
    simpa using h3
set_option maxHeartbeats 1000000 in
theorem qt_yes (a n m : Int) (h : QT a n m) (im : I64 m) : Pure Tryd.prog 22 #[.int .i64 a, .int .i64 n, .int .i64 m] (.tuple #[.int .i64 (a * n), .bool true]) := by
  intro W
  have hb := qt_bd h
  obtain ⟨h1, h2, h3, h4⟩ := h
  obtain ⟨i1, i2⟩ := im
  have w1 : IntKind.i64.wrap (a * n) = a * n := IntWalk.i64_in _ (by omega)
  by_cases h0 : 0 < a
  · have hz : a ≠ 0 := by omega
    have hz2 : (a == 0) = false := by simpa using hz
    have hq := Int.tdiv_eq_ediv_of_nonneg (b := a) h3
    have h5 := h4 h0
    have q0 := Int.ediv_nonneg h3 (show 0 ≤ a by omega)
    have q1 : m / a ≤ m := Int.ediv_le_self _ h3
    have wq : IntKind.i64.wrap (m / a) = m / a := IntWalk.i64_in _ (by omega)
    generalize m / a = Q at *
    obtain ⟨p0, p1⟩ := hb
    clear h4
    go_enter Tryd.func22, Tryd.ntmps22
    go_wp2
    go_ret2
    refine ⟨rfl, ?_⟩
    (repeat (first | assumption | exact Below.refl _ _ | refine ba ?_ _ | refine bd ?_ | refine bdn ?_ _ | refine bs ?_ (by first | omega | (simp; done) | (simp; omega)) _ | refine bt ?_ (by assumption)))
  · obtain rfl : a = 0 := by omega
    simp only [Int.zero_mul] at w1 ⊢
    clear h4 hb
    go_enter Tryd.func22, Tryd.ntmps22
    go_wp2
    go_ret2
    refine ⟨by simp, ?_⟩
    (repeat (first | assumption | exact Below.refl _ _ | refine ba ?_ _ | refine bd ?_ | refine bdn ?_ _ | refine bs ?_ (by first | omega | (simp; done) | (simp; omega)) _ | refine bt ?_ (by assumption)))
theorem qt_n1 (a n m : Int) (im : I64 m) (h1 : a < 0) : Pure Tryd.prog 22 #[.int .i64 a, .int .i64 n, .int .i64 m] (.tuple #[.int .i64 0, .bool false]) := by
  intro W
  obtain ⟨i1, i2⟩ := im
  go_enter Tryd.func22, Tryd.ntmps22
  go_wp2
  go_ret2
  refine ⟨rfl, ?_⟩
  (repeat (first | assumption | exact Below.refl _ _ | refine ba ?_ _ | refine bd ?_ | refine bdn ?_ _ | refine bs ?_ (by first | omega | (simp; done) | (simp; omega)) _ | refine bt ?_ (by assumption)))
theorem qt_n2 (a n m : Int) (im : I64 m) (h1 : 0 ≤ a) (h2 : n < 0) : Pure Tryd.prog 22 #[.int .i64 a, .int .i64 n, .int .i64 m] (.tuple #[.int .i64 0, .bool false]) := by
  intro W
  obtain ⟨i1, i2⟩ := im
  go_enter Tryd.func22, Tryd.ntmps22
  go_wp2
  go_ret2
  refine ⟨rfl, ?_⟩
  (repeat (first | assumption | exact Below.refl _ _ | refine ba ?_ _ | refine bd ?_ | refine bdn ?_ _ | refine bs ?_ (by first | omega | (simp; done) | (simp; omega)) _ | refine bt ?_ (by assumption)))
theorem qt_n3 (a n m : Int) (im : I64 m) (h1 : 0 ≤ a) (h2 : 0 ≤ n) (h3 : m < 0) : Pure Tryd.prog 22 #[.int .i64 a, .int .i64 n, .int .i64 m] (.tuple #[.int .i64 0, .bool false]) := by
  intro W
  obtain ⟨i1, i2⟩ := im
  go_enter Tryd.func22, Tryd.ntmps22
  go_wp2
  go_ret2
  refine ⟨rfl, ?_⟩
  (repeat (first | assumption | exact Below.refl _ _ | refine ba ?_ _ | refine bd ?_ | refine bdn ?_ _ | refine bs ?_ (by first | omega | (simp; done) | (simp; omega)) _ | refine bt ?_ (by assumption)))
theorem qt_n4 (a n m : Int) (im : I64 m) (h0 : 0 < a) (h2 : 0 ≤ n) (h3 : 0 ≤ m) (h5 : m / a < n) : Pure Tryd.prog 22 #[.int .i64 a, .int .i64 n, .int .i64 m] (.tuple #[.int .i64 0, .bool false]) := by
  intro W
  obtain ⟨i1, i2⟩ := im
  have hz : a ≠ 0 := by omega
  have hz2 : (a == 0) = false := by simpa using hz
  have hq := Int.tdiv_eq_ediv_of_nonneg (b := a) h3
  have q0 := Int.ediv_nonneg h3 (show 0 ≤ a by omega)
  have q1 : m / a ≤ m := Int.ediv_le_self _ h3
  have wq : IntKind.i64.wrap (m / a) = m / a := IntWalk.i64_in _ (by omega)
  generalize m / a = Q at *
  go_enter Tryd.func22, Tryd.ntmps22
  go_wp2
  go_ret2
  refine ⟨rfl, ?_⟩
  (repeat (first | assumption | exact Below.refl _ _ | refine ba ?_ _ | refine bd ?_ | refine bdn ?_ _ | refine bs ?_ (by first | omega | (simp; done) | (simp; omega)) _ | refine bt ?_ (by assumption)))
set_option maxHeartbeats 1000000 in
theorem rqt_yes (a n m : Int) (h : QT a n m) (im : I64 m) : Pure Tryd.prog 23 #[.int .i64 a, .int .i64 n, .int .i64 m] (.tuple #[.int .i64 (a * n), .bool true]) := by
  intro W
  have hb := qt_bd h
  obtain ⟨h1, h2, h3, h4⟩ := h
  obtain ⟨i1, i2⟩ := im
  have w1 : IntKind.i64.wrap (a * n) = a * n := IntWalk.i64_in _ (by omega)
  by_cases h0 : 0 < a
  · have hz : a ≠ 0 := by omega
    have hz2 : (a == 0) = false := by simpa using hz
    have hq := Int.tdiv_eq_ediv_of_nonneg (b := a) h3
    have h5 := h4 h0
    have q0 := Int.ediv_nonneg h3 (show 0 ≤ a by omega)
    have q1 : m / a ≤ m := Int.ediv_le_self _ h3
    have wq : IntKind.i64.wrap (m / a) = m / a := IntWalk.i64_in _ (by omega)
    generalize m / a = Q at *
    obtain ⟨p0, p1⟩ := hb
    clear h4
    go_enter Tryd.func23, Tryd.ntmps23
    go_wp2
    go_ret2
    refine ⟨rfl, ?_⟩
    (repeat (first | assumption | exact Below.refl _ _ | refine ba ?_ _ | refine bd ?_ | refine bdn ?_ _ | refine bs ?_ (by first | omega | (simp; done) | (simp; omega)) _ | refine bt ?_ (by assumption)))
  · obtain rfl : a = 0 := by omega
    simp only [Int.zero_mul] at w1 ⊢
    clear h4 hb
    go_enter Tryd.func23, Tryd.ntmps23
    go_wp2
    go_ret2
    refine ⟨by simp, ?_⟩
    (repeat (first | assumption | exact Below.refl _ _ | refine ba ?_ _ | refine bd ?_ | refine bdn ?_ _ | refine bs ?_ (by first | omega | (simp; done) | (simp; omega)) _ | refine bt ?_ (by assumption)))
theorem rqt_n1 (a n m : Int) (im : I64 m) (h1 : a < 0) : Pure Tryd.prog 23 #[.int .i64 a, .int .i64 n, .int .i64 m] (.tuple #[.int .i64 0, .bool false]) := by
  intro W
  obtain ⟨i1, i2⟩ := im
  go_enter Tryd.func23, Tryd.ntmps23
  go_wp2
  go_ret2
  refine ⟨rfl, ?_⟩
  (repeat (first | assumption | exact Below.refl _ _ | refine ba ?_ _ | refine bd ?_ | refine bdn ?_ _ | refine bs ?_ (by first | omega | (simp; done) | (simp; omega)) _ | refine bt ?_ (by assumption)))
theorem rqt_n2 (a n m : Int) (im : I64 m) (h1 : 0 ≤ a) (h2 : n < 0) : Pure Tryd.prog 23 #[.int .i64 a, .int .i64 n, .int .i64 m] (.tuple #[.int .i64 0, .bool false]) := by
  intro W
  obtain ⟨i1, i2⟩ := im
  go_enter Tryd.func23, Tryd.ntmps23
  go_wp2
  go_ret2
  refine ⟨rfl, ?_⟩
  (repeat (first | assumption | exact Below.refl _ _ | refine ba ?_ _ | refine bd ?_ | refine bdn ?_ _ | refine bs ?_ (by first | omega | (simp; done) | (simp; omega)) _ | refine bt ?_ (by assumption)))
theorem rqt_n3 (a n m : Int) (im : I64 m) (h1 : 0 ≤ a) (h2 : 0 ≤ n) (h3 : m < 0) : Pure Tryd.prog 23 #[.int .i64 a, .int .i64 n, .int .i64 m] (.tuple #[.int .i64 0, .bool false]) := by
  intro W
  obtain ⟨i1, i2⟩ := im
  go_enter Tryd.func23, Tryd.ntmps23
  go_wp2
  go_ret2
  refine ⟨rfl, ?_⟩
  (repeat (first | assumption | exact Below.refl _ _ | refine ba ?_ _ | refine bd ?_ | refine bdn ?_ _ | refine bs ?_ (by first | omega | (simp; done) | (simp; omega)) _ | refine bt ?_ (by assumption)))
theorem rqt_n4 (a n m : Int) (im : I64 m) (h0 : 0 < a) (h2 : 0 ≤ n) (h3 : 0 ≤ m) (h5 : m / a < n) : Pure Tryd.prog 23 #[.int .i64 a, .int .i64 n, .int .i64 m] (.tuple #[.int .i64 0, .bool false]) := by
  intro W
  obtain ⟨i1, i2⟩ := im
  have hz : a ≠ 0 := by omega
  have hz2 : (a == 0) = false := by simpa using hz
  have hq := Int.tdiv_eq_ediv_of_nonneg (b := a) h3
  have q0 := Int.ediv_nonneg h3 (show 0 ≤ a by omega)
  have q1 : m / a ≤ m := Int.ediv_le_self _ h3
  have wq : IntKind.i64.wrap (m / a) = m / a := IntWalk.i64_in _ (by omega)
  generalize m / a = Q at *
  go_enter Tryd.func23, Tryd.ntmps23
  go_wp2
  go_ret2
  refine ⟨rfl, ?_⟩
  (repeat (first | assumption | exact Below.refl _ _ | refine ba ?_ _ | refine bd ?_ | refine bdn ?_ _ | refine bs ?_ (by first | omega | (simp; done) | (simp; omega)) _ | refine bt ?_ (by assumption)))
theorem times_any (a n m : Int) (im : I64 m) : ∃ (x : Int) (p : Bool), Pure Tryd.prog 22 #[.int .i64 a, .int .i64 n, .int .i64 m] (.tuple #[.int .i64 x, .bool p]) ∧ Pure Tryd.prog 23 #[.int .i64 a, .int .i64 n, .int .i64 m] (.tuple #[.int .i64 x, .bool p]) := by
  by_cases h1 : 0 ≤ a
  · by_cases h2 : 0 ≤ n
    · by_cases h3 : 0 ≤ m
      · by_cases h4 : 0 < a ∧ m / a < n
        · exact ⟨0, false, qt_n4 a n m im h4.1 h2 h3 h4.2, rqt_n4 a n m im h4.1 h2 h3 h4.2⟩
        · have h : QT a n m := ⟨h1, h2, h3, fun h0 => by
            by_cases h5 : m / a < n
            · exact absurd ⟨h0, h5⟩ h4
            · omega⟩
          exact ⟨a * n, true, qt_yes a n m h im, rqt_yes a n m h im⟩
      · exact ⟨0, false, qt_n3 a n m im h1 h2 (by omega), rqt_n3 a n m im h1 h2 (by omega)⟩
    · exact ⟨0, false, qt_n2 a n m im h1 (by omega), rqt_n2 a n m im h1 (by omega)⟩
  · exact ⟨0, false, qt_n1 a n m im (by omega), rqt_n1 a n m im (by omega)⟩
/-- The cells of a slice of numbers. -/
def Nums (W : World) (b off len : Nat) (l : Nat → Int) : Prop := ∀ i, i < len → W.cell? ⟨b, off + i, none⟩ = some (.int .i64 (l i))
theorem Nums.grow {W X : World} {b off len : Nat} {l : Nat → Int} (h : Nums W b off len l) (hb : b < W.heap.size) (hx : Below W.heap.size W X) : Nums X b off len l := fun i hi => (hx.cell (p := ⟨b, _, none⟩) hb).trans (h i hi)
def su (l : Nat → Int) : Nat → Int
  | 0 => 0
  | n + 1 => su l n + l n
def QS (l : Nat → Int) (len : Nat) (m : Int) : Prop := 0 ≤ m ∧ (∀ i, i < len → 0 ≤ l i) ∧ su l len ≤ m
theorem su_mono {l : Nat → Int} {len : Nat} (h : ∀ i, i < len → 0 ≤ l i) (t : Nat) : ∀ n, t + n ≤ len → su l t ≤ su l (t + n)
  | 0, _ => Int.le_refl _
  | n + 1, hn => by
    have h1 := su_mono h t n (by omega)
    have h2 := h (t + n) (by omega)
    show su l t ≤ su l (t + n) + l (t + n)
    omega
/-- What both sums return. -/
def RS (W : World) (l : Nat → Int) (len : Nat) (m : Int) (e : Ending) (w' : World) : Prop :=
  ∃ (x : Int) (p : Bool), e = .returned (.tuple #[.int .i64 x, .bool p]) ∧ ((QS l len m ∧ x = su l len ∧ p = true) ∨ (¬ QS l len m ∧ x = 0 ∧ p = false)) ∧ Below W.heap.size W w'
theorem not_qs {l : Nat → Int} {len t : Nat} {m : Int} (ht : t < len) (h0 : 0 ≤ su l t) (h : ¬ QA (su l t) (l t) m) : ¬ QS l len m := fun ⟨_, h2, h3⟩ => h ⟨h0, h2 t ht, by
  have h4 := su_mono h2 (t + 1) (len - (t + 1)) (by omega)
  rw [show t + 1 + (len - (t + 1)) = len by omega] at h4
  have h5 : su l (t + 1) = su l t + l t := rfl
  omega⟩
set_option maxRecDepth 100000 in
set_option maxHeartbeats 2000000 in
theorem sum_some (b off len cap : Nat) (l : Nat → Int) (m : Int) (im : I64 m) (W : World) (hb : b < W.heap.size) (hlen : len ≤ 1000000) (hF : Nums W b off len l) :
    Calls Tryd.prog 19 #[.int .i64 m, .slice (some ⟨b, off, none⟩) len cap] W (RS W l len m) := by
  have HF := Lib.hid hF
  clear hF
  by_cases hm : m < 0
  · have HN := Lib.hid (show ¬ QS l len m from fun h => by have := h.1; omega)
    go_enter Tryd.func19, Tryd.ntmps19
    go_wp2
    go_ret2
    exact ⟨_, _, rfl, .inr ⟨HN.out, rfl, rfl⟩, by (repeat (first | assumption | exact Below.refl _ _ | refine ba ?_ _ | refine bd ?_ | refine bdn ?_ _ | refine bs ?_ (by first | omega | (simp; done) | (simp; omega)) _ | refine bt ?_ (by assumption)))⟩
  · have hm0 : 0 ≤ m := by omega
    clear hm
    go_enter Tryd.func19, Tryd.ntmps19
    go_wp2
    go_loopw [6, 15] (fun s i wr => ∃ t : Nat, t ≤ len ∧ i = .int .i64 t ∧ s = .int .i64 (su l t) ∧ Hid (∀ j, j < t → 0 ≤ l j) ∧ 0 ≤ su l t ∧ su l t ≤ m ∧ Below W.heap.size W wr) (fun _ i _ => len - (intOf i).toNat)
    case atStart => exact ⟨0, Nat.zero_le _, rfl, rfl, Lib.hid (fun j hj => by omega), Int.le_refl _, hm0, by (repeat (first | assumption | exact Below.refl _ _ | refine ba ?_ _ | refine bd ?_ | refine bdn ?_ _ | refine bs ?_ (by first | omega | (simp; done) | (simp; omega)) _ | refine bt ?_ (by assumption)))⟩
    case round =>
      obtain ⟨t, ht, rfl, rfl, HJ, s0, s1, hb1⟩ := hrel
      obtain ⟨w1, rfl⟩ : ∃ w1, w1 = wr := ⟨_, rfl⟩
      by_cases hlt : t < len
      · have hts : (t : Int) < (len : Int) := by omega
        have c0 := HF.out.grow hb hb1 t hlt
        by_cases hq : QA (su l t) (l t) m
        · have HA := Lib.hid (qadd_yes (su l t) (l t) m hq im)
          have HN := Lib.hid (show ∀ j, j < t + 1 → 0 ≤ l j from fun j hj => by
            rcases Nat.lt_or_ge j t with h | h
            · exact HJ.out j h
            · obtain rfl : j = t := by omega
              exact hq.2.1)
          have HQ := Lib.hid (show 0 ≤ su l t + l t ∧ su l t + l t ≤ m from ⟨by have := hq.1; have := hq.2.1; omega, hq.2.2⟩)
          clear hq
          go_wp2_with fail
          refine (HA.out _).mono ?_
          rintro e w2 ⟨rfl, hb2⟩
          go_wp2
          go_roundw
          case rel => exact ⟨t + 1, by omega, by go_num, rfl, HN, HQ.out.1, HQ.out.2, bt hb1 hb2⟩
          case measure => simp [intOf]; omega
        · have HA := Lib.hid (qadd_no (su l t) (l t) m hq im)
          have HN := Lib.hid (not_qs hlt s0 hq)
          clear hq
          go_wp2_with fail
          refine (HA.out _).mono ?_
          rintro e w2 ⟨rfl, hb2⟩
          go_wp2
          go_ret2
          exact ⟨_, _, rfl, .inr ⟨HN.out, rfl, rfl⟩, bt hb1 hb2⟩
      · obtain rfl : len = t := by omega
        have HN := Lib.hid (show QS l len m from ⟨hm0, HJ.out, s1⟩)
        go_wp2
        go_ret2
        exact ⟨_, _, rfl, .inl ⟨HN.out, rfl, rfl⟩, hb1⟩
end Go.Proofs.YtfnfolpdbbnnlaaDoor

/- Contract of mancipleref03.Text at every number. -/
import Derived.Test.YtfnfolpdbbnnlaaDoorQuantT
namespace Go.Proofs.YtfnfolpdbbnnlaaDoor
open Go.RowKit
attribute [local go_sem] ext_cell ext_frozen Mix.calmUpon Mix.mUpon
theorem str_app (a b : List UInt8) : (⟨a.toArray⟩ : ByteArray) ++ ⟨b.toArray⟩ = ⟨(a ++ b).toArray⟩ := by
  apply Go.WideShapes.bytes_inj
  simp [ByteArray.data_append]
def fs3 (r : Nat) : Nat → List UInt8
  | 0 => [] | 1 => [dg (r / 100)] | 2 => [dg (r / 100), dg (r / 10 % 10)] | _ => [dg (r / 100), dg (r / 10 % 10), dg (r % 10)]
def rs3 (r : Nat) : Nat → Nat
  | 0 => r | 1 => r % 100 | 2 => r % 10 | _ => 0
def ks3 : Nat → Nat
  | 0 => 100 | 1 => 10 | 2 => 1 | _ => 0
theorem reftext3_no (n : Int) (h : ¬ (0 ≤ n ∧ n ≤ 9007199254740992)) : Pure Tryd.prog 26 #[.int .i64 n] (.string ⟨#[]⟩) := by
  intro W
  by_cases h0 : n < 0
  · clear h
    go_enter Tryd.func26, Tryd.ntmps26
    go_wp2
    go_ret
    refine ⟨rfl, ?_⟩
    (repeat (first | assumption | exact Below.refl _ _ | refine ba ?_ _ | refine bd ?_ | refine bdn ?_ _ | refine bs ?_ (by first | omega | (simp; done) | (simp; omega)) _ | refine bt ?_ (by assumption)))
  · have h1 : 9007199254740992 < n := by omega
    clear h h0
    go_enter Tryd.func26, Tryd.ntmps26
    go_wp2
    go_ret
    refine ⟨rfl, ?_⟩
    (repeat (first | assumption | exact Below.refl _ _ | refine ba ?_ _ | refine bd ?_ | refine bdn ?_ _ | refine bs ?_ (by first | omega | (simp; done) | (simp; omega)) _ | refine bt ?_ (by assumption)))
set_option maxRecDepth 100000 in
set_option maxHeartbeats 2000000 in
theorem reftext3_yes (n : Nat) (hn : n ≤ 9007199254740992) : Pure Tryd.prog 26 #[.int .i64 n] (.string (qT n)) := by
  intro W
  have HF := refdigits_any (n / 1000) (by omega)
  rw [show ((n / 1000 : Nat) : Int) = (n : Int) / 1000 by omega] at HF
  have HF := Lib.hid HF
  have hnI : (n : Int) ≤ 9007199254740992 := by omega
  by_cases h0 : n % 1000 = 0
  · have hr : qT n = ⟨(Lib.decDigits (n / 1000)).toArray⟩ := by unfold qT qL; rw [if_pos h0]
    have h0I : ((n : Int) % 1000 == 0) = true := by simp; omega
    rw [hr]
    clear h0
    go_enter Tryd.func26, Tryd.ntmps26
    go_wp2_with fail
    (with_reducible refine (HF.out _).mono ?_)
    rintro e w1 ⟨rfl, hb1⟩
    have hs1 : W.heap.size + 0 ≤ w1.heap.size := (by have h := hb1.size; first | omega | (simp at h; omega))
    obtain ⟨hc1, hf1, hl1⟩ := bcell hb1
    clear hl1
    go_wp2
    go_ret
    refine ⟨rfl, ?_⟩
    (repeat (first | assumption | exact Below.refl _ _ | refine ba ?_ _ | refine bd ?_ | refine bdn ?_ _ | refine bs ?_ (by first | omega | (simp; done) | (simp; omega)) _ | refine bt ?_ (by assumption)))
  · have hq : qT n = ⟨((Lib.decDigits (n / 1000) ++ [46]) ++ frac (n % 1000)).toArray⟩ := by
      unfold qT qL; rw [if_neg h0, List.append_assoc]; rfl
    have h0I : ((n : Int) % 1000 == 0) = false := by simp; omega
    have hl := dec_len (n / 1000) (by omega)
    have y1 : (ByteArray.mk (Lib.decDigits (n / 1000)).toArray).size + (ByteArray.mk #[46]).size ≤ 9223372036854775807 := by
      show (Lib.decDigits (n / 1000)).toArray.size + 1 ≤ _
      simp; omega
    have hP := str_app (Lib.decDigits (n / 1000)) [46]
    obtain ⟨PL, hPL⟩ : ∃ PL, PL = Lib.decDigits (n / 1000) ++ [46] := ⟨_, rfl⟩
    rw [← hPL] at hq hP
    have hpl : PL.length ≤ 22 := by rw [hPL]; simp; omega
    have HP := Lib.hid hP
    clear hPL hP hl
    rw [hq]
    have er : ((n % 1000 : Nat) : Int) = (n : Int) % 1000 := by omega
    have ER := Lib.hid er
    clear er hq
    generalize hrr : n % 1000 = r at *
    have hr1 : r < 1000 := by omega
    clear hrr
    go_enter Tryd.func26, Tryd.ntmps26
    go_wp2_with fail
    (with_reducible refine (HF.out _).mono ?_)
    rintro e w1 ⟨rfl, hb1⟩
    have hs1 : W.heap.size + 0 ≤ w1.heap.size := (by have h := hb1.size; first | omega | (simp at h; omega))
    obtain ⟨hc1, hf1, hl1⟩ := bcell hb1
    clear hl1
    go_wp2
    rw [HP.out, ← ER.out]
    go_loopw [3, 4, 5] (fun s x k wr => ∃ j : Nat, j ≤ 3 ∧ s = .string ⟨(PL ++ fs3 r j).toArray⟩ ∧ x = .int .i64 (rs3 r j) ∧ k = .int .i64 (ks3 j) ∧ (j = 1 → r ≠ 0) ∧ (j = 2 → r % 100 ≠ 0) ∧ (j = 3 → r % 10 ≠ 0) ∧ Below W.heap.size W wr) (fun _ _ k _ => (intOf k).toNat)
    case atStart => exact ⟨0, by omega, by simp [fs3], rfl, rfl, by omega, by omega, by omega, by (repeat (first | assumption | exact Below.refl _ _ | refine ba ?_ _ | refine bd ?_ | refine bdn ?_ _ | refine bs ?_ (by first | omega | (simp; done) | (simp; omega)) _ | refine bt ?_ (by assumption)))⟩
    case round =>
      obtain ⟨j, hj, rfl, rfl, rfl, j1, j2, j3, hb⟩ := hrel
      rename_i wr
      have hd : ∀ d : Nat, d < 10 → Pure Tryd.prog 60 #[.int .i64 d] (.string ⟨[dg d].toArray⟩) := fun d h => by
        have := refdigits_any d (by omega)
        rw [decDigits_lt d h] at this
        exact this
      have HD := Lib.hid hd
      have HBw := Lib.hid hb
      clear hd hb
      have : j = 0 ∨ j = 1 ∨ j = 2 ∨ j = 3 := by omega
      rcases this with rfl | rfl | rfl | rfl
      · rw [show fs3 r 0 = [] from rfl, show rs3 r 0 = r from rfl, show ks3 0 = 100 from rfl, List.append_nil]
        have H0 := Lib.hid (show Pure Tryd.prog 60 #[.int .i64 ((r : Int) / 100)] (.string ⟨[dg (r / 100)].toArray⟩) from by have h := HD.out (r / 100) (by omega); rw [show ((r / 100 : Nat) : Int) = (r : Int) / 100 by omega] at h; exact h)
        have xI : (0 : Int) < (r : Int) := by omega
        have y2 : (ByteArray.mk PL.toArray).size + (ByteArray.mk [dg (r / 100)].toArray).size ≤ 9223372036854775807 := by
          show PL.toArray.size + 1 ≤ _
          simp; omega
        have HA := Lib.hid (str_app PL [dg (r / 100)])
        go_wp2_with fail
        (with_reducible refine (H0.out _).mono ?_)
        rintro e w2 ⟨rfl, hb2⟩
        have hs2 : wr.heap.size + 0 ≤ w2.heap.size := (by have h := hb2.size; first | omega | (simp at h; omega))
        obtain ⟨hc2, hf2, hl2⟩ := bcell hb2
        clear hl2
        go_wp2
        go_roundw
        case rel => exact ⟨1, by omega, by rw [HA.out]; simp [fs3], by simp only [rs3]; go_num, by simp only [ks3]; go_num, (fun h => by first | omega | (have := HX1.out; omega)), (fun h => by first | omega | (have := HX1.out; omega)), (fun h => by first | omega | (have := HX1.out; omega)), bt HBw.out hb2⟩
        case measure => simp [intOf]
      · obtain ⟨x, hx1, hx2, hx3, hx4⟩ : ∃ x, x = r % 100 ∧ x / 10 = r / 10 % 10 ∧ x % 10 = r % 10 ∧ x < 100 := ⟨_, rfl, by omega, by omega, by omega⟩
        rw [show fs3 r 1 = [dg (r / 100)] from rfl, show rs3 r 1 = x from hx1.symm, show ks3 1 = 10 from rfl]
        by_cases hx0 : x = 0
        · have hfr : frac r = [dg (r / 100)] := by unfold frac; rw [if_neg (by omega), if_neg (by omega)]
          have HFR := Lib.hid hfr
          have HX := Lib.hid hx1
          clear hfr hx1
          subst hx0
          go_wp2
          go_ret
          exact ⟨by rw [HFR.out]; rfl, HBw.out⟩
        · have HX1 := Lib.hid hx1; have HX2 := Lib.hid hx2; have HX3 := Lib.hid hx3
          have H0 := Lib.hid (show Pure Tryd.prog 60 #[.int .i64 ((x : Int) / 10)] (.string ⟨[dg (r / 10 % 10)].toArray⟩) from by have h := HD.out (x / 10) (by omega); rw [show ((x / 10 : Nat) : Int) = (x : Int) / 10 by omega, hx2] at h; exact h)
          clear hx2 hx3
          have xI : (0 : Int) < (x : Int) := by omega
          clear hx1
          have y2 : (ByteArray.mk (PL ++ [dg (r / 100)]).toArray).size + (ByteArray.mk [dg (r / 10 % 10)].toArray).size ≤ 9223372036854775807 := by
            show (PL ++ [dg (r / 100)]).toArray.size + 1 ≤ _
            simp; omega
          have HA := Lib.hid (str_app (PL ++ [dg (r / 100)]) [dg (r / 10 % 10)])
          go_wp2_with fail
          (with_reducible refine (H0.out _).mono ?_)
          rintro e w2 ⟨rfl, hb2⟩
          have hs2 : wr.heap.size + 0 ≤ w2.heap.size := (by have h := hb2.size; first | omega | (simp at h; omega))
          obtain ⟨hc2, hf2, hl2⟩ := bcell hb2
          clear hl2
          go_wp2
          go_roundw
          case rel => exact ⟨2, by omega, by rw [HA.out]; simp [fs3], by simp only [rs3]; rw [← HX3.out]; go_num, by simp only [ks3]; go_num, (fun h => by first | omega | (have := HX1.out; omega)), (fun h => by first | omega | (have := HX1.out; omega)), (fun h => by first | omega | (have := HX1.out; omega)), bt HBw.out hb2⟩
          case measure => simp [intOf]
      · obtain ⟨x, hx1, hx4⟩ : ∃ x, x = r % 10 ∧ x < 10 := ⟨_, rfl, by omega⟩
        rw [show fs3 r 2 = [dg (r / 100), dg (r / 10 % 10)] from rfl, show rs3 r 2 = x from hx1.symm, show ks3 2 = 1 from rfl]
        by_cases hx0 : x = 0
        · have hfr : frac r = [dg (r / 100), dg (r / 10 % 10)] := by unfold frac; rw [if_neg (by omega), if_pos (by omega)]
          have HFR := Lib.hid hfr
          have HX := Lib.hid hx1
          clear hfr hx1
          subst hx0
          go_wp2
          go_ret
          exact ⟨by rw [HFR.out]; rfl, HBw.out⟩
        · have HX1 := Lib.hid hx1
          have H0 := Lib.hid (show Pure Tryd.prog 60 #[.int .i64 ((x : Int))] (.string ⟨[dg (r % 10)].toArray⟩) from by have h := HD.out x (by omega); rw [show dg (r % 10) = dg x by rw [hx1]]; exact h)
          have xI : (0 : Int) < (x : Int) := by omega
          clear hx1
          have y2 : (ByteArray.mk (PL ++ [dg (r / 100), dg (r / 10 % 10)]).toArray).size + (ByteArray.mk [dg (r % 10)].toArray).size ≤ 9223372036854775807 := by
            show (PL ++ [dg (r / 100), dg (r / 10 % 10)]).toArray.size + 1 ≤ _
            simp; omega
          have HA := Lib.hid (str_app (PL ++ [dg (r / 100), dg (r / 10 % 10)]) [dg (r % 10)])
          go_wp2_with fail
          (with_reducible refine (H0.out _).mono ?_)
          rintro e w2 ⟨rfl, hb2⟩
          have hs2 : wr.heap.size + 0 ≤ w2.heap.size := (by have h := hb2.size; first | omega | (simp at h; omega))
          obtain ⟨hc2, hf2, hl2⟩ := bcell hb2
          clear hl2
          go_wp2
          go_roundw
          case rel => exact ⟨3, by omega, by rw [HA.out]; simp [fs3], by simp only [rs3]; go_num, by simp only [ks3]; go_num, (fun h => by first | omega | (have := HX1.out; omega)), (fun h => by first | omega | (have := HX1.out; omega)), (fun h => by first | omega | (have := HX1.out; omega)), bt HBw.out hb2⟩
          case measure => simp [intOf]
      · have hfr : frac r = [dg (r / 100), dg (r / 10 % 10), dg (r % 10)] := by unfold frac; rw [if_pos (by omega)]
        have HFR := Lib.hid hfr
        clear hfr
        rw [show fs3 r 3 = [dg (r / 100), dg (r / 10 % 10), dg (r % 10)] from rfl, show rs3 r 3 = 0 from rfl, show ks3 3 = 0 from rfl]
        go_wp2
        go_ret
        exact ⟨by rw [HFR.out]; rfl, HBw.out⟩
/-- The text of any number, by both. -/
theorem reftext3_any (n : Int) : Pure Tryd.prog 26 #[.int .i64 n] (.string (qTv n)) := by
  unfold qTv
  by_cases h : 0 ≤ n ∧ n ≤ 9007199254740992
  · rw [if_pos h]
    obtain ⟨a, rfl⟩ := Int.eq_ofNat_of_zero_le h.1
    exact reftext3_yes a (by omega)
  · rw [if_neg h]; exact reftext3_no n h
theorem qtext_any (n : Int) : PureOn T10 Tryd.prog 27 #[.int .i64 n] (.string (qTv n)) := by
  unfold qTv
  by_cases h : 0 ≤ n ∧ n ≤ 9007199254740992
  · rw [if_pos h]
    obtain ⟨a, rfl⟩ := Int.eq_ofNat_of_zero_le h.1
    exact qtext_yes a (by omega)
  · rw [if_neg h]; exact (qtext_no n h).on _
end Go.Proofs.YtfnfolpdbbnnlaaDoor

/- Contracts of mancipleref13.Right, conf.Small, conf.Start. -/
import Derived.Test.YtlhljioncgddeaaDoorConf1
namespace Go.Proofs.YtlhljioncgddeaaDoor
open Go.RowKit Go.Proofs
attribute [local go_sem] ext_cell ext_frozen Mix.calmUpon Mix.mUpon
set_option maxRecDepth 100000 in
set_option maxHeartbeats 2000000 in
theorem rr_n (h m i l c : Int) (n : Nat → Int) (hm : ¬ CM n 4) : Pure Tryd.prog 35 #[C9 h m i l c n] (.bool false) := by
  intro W
  have HM := Lib.hid hm
  clear hm
  have HC := Lib.hid (fun (X : World) (hX : Below (conW W h m i l c n).heap.size (conW W h m i l c n) X) => conW_min W X h m i l c n hX)
  go_enter Tryd.func35, Tryd.ntmps35
  go_wp2
  go_loopw [4] (fun x wr => ∃ k : Nat, k ≤ 4 ∧ x = .int .i64 k ∧ Hid (CM n k) ∧ Below (conW W h m i l c n).heap.size (conW W h m i l c n) wr) (fun x _ => 4 - (intOf x).toNat)
  case atStart => exact ⟨0, by omega, rfl, Lib.hid (fun j hj => by omega), Below.refl _ _⟩
  case round =>
    obtain ⟨k, hk, rfl, HK, hb⟩ := hrel
    rename_i wr
    have HBB := Lib.hid hb
    have hbs := hb.size
    have hzw : W.heap.size < wr.heap.size := by simp at hbs; omega
    by_cases hlt : k < 4
    · have hkI : (k : Int) < 4 := by omega
      have hc := HC.out wr hb k hlt
      clear hb hbs
      by_cases hn : 0 ≤ n k ∧ n k ≤ 9007199254740992
      · have HW := Lib.hid (rw_yes hn)
        have HN := Lib.hid (cm_succ HK.out hn)
        clear hn
        go_wp2_with fail
        (with_reducible refine (HW.out _).mono ?_)
        rintro e w5 ⟨rfl, hb5⟩
        go_wp2
        go_roundw
        case rel => exact ⟨k + 1, by omega, by go_num, HN, bt HBB.out hb5⟩
        case measure => simp [intOf]; omega
      · have HW := Lib.hid (rw_no hn)
        clear hn
        go_wp2_with fail
        (with_reducible refine (HW.out _).mono ?_)
        rintro e w5 ⟨rfl, hb5⟩
        go_wp2
        go_ret
        exact ⟨rfl, bt (ba (Below.refl _ _) _) (bt HBB.out hb5)⟩
    · obtain rfl : k = 4 := by omega
      exact absurd HK.out HM.out
set_option maxRecDepth 100000 in
set_option maxHeartbeats 2000000 in
theorem rr_h (h m i l c : Int) (n : Nat → Int) (l0 : ¬ (0 ≤ h ∧ h ≤ 9007199254740992)) (hm : CM n 4) : Pure Tryd.prog 35 #[C9 h m i l c n] (.bool false) := by
  intro W
  have HM := Lib.hid hm
  clear hm
  have L0 := Lib.hid (rw_no l0)
  clear l0
  have HC := Lib.hid (fun (X : World) (hX : Below (conW W h m i l c n).heap.size (conW W h m i l c n) X) => conW_min W X h m i l c n hX)
  go_enter Tryd.func35, Tryd.ntmps35
  go_wp2
  go_loopw [4] (fun x wr => ∃ k : Nat, k ≤ 4 ∧ x = .int .i64 k ∧ Hid (CM n k) ∧ Below (conW W h m i l c n).heap.size (conW W h m i l c n) wr) (fun x _ => 4 - (intOf x).toNat)
  case atStart => exact ⟨0, by omega, rfl, Lib.hid (fun j hj => by omega), Below.refl _ _⟩
  case round =>
    obtain ⟨k, hk, rfl, HK, hb⟩ := hrel
    rename_i wr
    have HBB := Lib.hid hb
    have hbs := hb.size
    have hzw : W.heap.size < wr.heap.size := by simp at hbs; omega
    by_cases hlt : k < 4
    · have hkI : (k : Int) < 4 := by omega
      have hc := HC.out wr hb k hlt
      clear hb hbs
      by_cases hn : 0 ≤ n k ∧ n k ≤ 9007199254740992
      · have HW := Lib.hid (rw_yes hn)
        have HN := Lib.hid (cm_succ HK.out hn)
        clear hn
        go_wp2_with fail
        (with_reducible refine (HW.out _).mono ?_)
        rintro e w5 ⟨rfl, hb5⟩
        go_wp2
        go_roundw
        case rel => exact ⟨k + 1, by omega, by go_num, HN, bt HBB.out hb5⟩
        case measure => simp [intOf]; omega
      · exact absurd (HM.out k hlt) hn
    · obtain rfl : k = 4 := by omega
      have d0 : wr.cell? ⟨W.heap.size, 0, none⟩ = some (.int .i64 h) := (hb.cell (p := ⟨W.heap.size, 0, none⟩) (by simp)).trans (by simp [go_sem])
      have d1 : wr.cell? ⟨W.heap.size, 1, none⟩ = some (.int .i64 m) := (hb.cell (p := ⟨W.heap.size, 1, none⟩) (by simp)).trans (by simp [go_sem])
      have d2 : wr.cell? ⟨W.heap.size, 2, none⟩ = some (.int .i64 i) := (hb.cell (p := ⟨W.heap.size, 2, none⟩) (by simp)).trans (by simp [go_sem])
      have d3 : wr.cell? ⟨W.heap.size, 3, none⟩ = some (.int .i64 l) := (hb.cell (p := ⟨W.heap.size, 3, none⟩) (by simp)).trans (by simp [go_sem])
      have d4 : wr.cell? ⟨W.heap.size, 4, none⟩ = some (.int .i64 c) := (hb.cell (p := ⟨W.heap.size, 4, none⟩) (by simp)).trans (by simp [go_sem])
      have HW0 := Lib.hid (show Below W.heap.size W wr from bt (ba (Below.refl _ _) _) hb)
      clear hb hbs
      go_wp2_with fail
      (with_reducible refine (L0.out _).mono ?_)
      rintro e w1 ⟨rfl, hb1⟩
      have hs1 : wr.heap.size + 0 ≤ w1.heap.size := (by have h := hb1.size; first | omega | (simp at h; omega))
      have hz1_0 : W.heap.size < w1.heap.size := (by omega)
      obtain ⟨hc1, hf1, hl1⟩ := bcell hb1
      clear hl1
      go_wp2
      go_ret
      refine ⟨by first | rfl | simp [*], ?_⟩
      refine bt HW0.out ?_
      (repeat (first | assumption | exact Below.refl _ _ | refine ba ?_ _ | refine bd ?_ | refine bdn ?_ _ | refine bs ?_ (by first | omega | (simp; done) | (simp; omega)) _ | refine bt ?_ (by assumption)))
set_option maxRecDepth 100000 in
set_option maxHeartbeats 2000000 in
theorem rr_m (h m i l c : Int) (n : Nat → Int) (l0 : 0 ≤ h ∧ h ≤ 9007199254740992) (l1 : ¬ (1 ≤ m ∧ m ≤ 9007199254740992)) (hm : CM n 4) : Pure Tryd.prog 35 #[C9 h m i l c n] (.bool false) := by
  intro W
  have HM := Lib.hid hm
  clear hm
  have L0 := Lib.hid (rw_yes l0)
  have L1 := Lib.hid (rw_no l1)
  clear l0 l1
  have HC := Lib.hid (fun (X : World) (hX : Below (conW W h m i l c n).heap.size (conW W h m i l c n) X) => conW_min W X h m i l c n hX)
  go_enter Tryd.func35, Tryd.ntmps35
  go_wp2
  go_loopw [4] (fun x wr => ∃ k : Nat, k ≤ 4 ∧ x = .int .i64 k ∧ Hid (CM n k) ∧ Below (conW W h m i l c n).heap.size (conW W h m i l c n) wr) (fun x _ => 4 - (intOf x).toNat)
  case atStart => exact ⟨0, by omega, rfl, Lib.hid (fun j hj => by omega), Below.refl _ _⟩
  case round =>
    obtain ⟨k, hk, rfl, HK, hb⟩ := hrel
    rename_i wr
    have HBB := Lib.hid hb
    have hbs := hb.size
    have hzw : W.heap.size < wr.heap.size := by simp at hbs; omega
    by_cases hlt : k < 4
    · have hkI : (k : Int) < 4 := by omega
      have hc := HC.out wr hb k hlt
      clear hb hbs
      by_cases hn : 0 ≤ n k ∧ n k ≤ 9007199254740992
      · have HW := Lib.hid (rw_yes hn)
        have HN := Lib.hid (cm_succ HK.out hn)
        clear hn
        go_wp2_with fail
        (with_reducible refine (HW.out _).mono ?_)
        rintro e w5 ⟨rfl, hb5⟩
        go_wp2
        go_roundw
        case rel => exact ⟨k + 1, by omega, by go_num, HN, bt HBB.out hb5⟩
        case measure => simp [intOf]; omega
      · exact absurd (HM.out k hlt) hn
    · obtain rfl : k = 4 := by omega
      have d0 : wr.cell? ⟨W.heap.size, 0, none⟩ = some (.int .i64 h) := (hb.cell (p := ⟨W.heap.size, 0, none⟩) (by simp)).trans (by simp [go_sem])
      have d1 : wr.cell? ⟨W.heap.size, 1, none⟩ = some (.int .i64 m) := (hb.cell (p := ⟨W.heap.size, 1, none⟩) (by simp)).trans (by simp [go_sem])
      have d2 : wr.cell? ⟨W.heap.size, 2, none⟩ = some (.int .i64 i) := (hb.cell (p := ⟨W.heap.size, 2, none⟩) (by simp)).trans (by simp [go_sem])
      have d3 : wr.cell? ⟨W.heap.size, 3, none⟩ = some (.int .i64 l) := (hb.cell (p := ⟨W.heap.size, 3, none⟩) (by simp)).trans (by simp [go_sem])
      have d4 : wr.cell? ⟨W.heap.size, 4, none⟩ = some (.int .i64 c) := (hb.cell (p := ⟨W.heap.size, 4, none⟩) (by simp)).trans (by simp [go_sem])
      have HW0 := Lib.hid (show Below W.heap.size W wr from bt (ba (Below.refl _ _) _) hb)
      clear hb hbs
      go_wp2_with fail
      (with_reducible refine (L0.out _).mono ?_)
      rintro e w1 ⟨rfl, hb1⟩
      have hs1 : wr.heap.size + 0 ≤ w1.heap.size := (by have h := hb1.size; first | omega | (simp at h; omega))
      have hz1_0 : W.heap.size < w1.heap.size := (by omega)
      obtain ⟨hc1, hf1, hl1⟩ := bcell hb1
      clear hl1
      go_wp2_with fail
      (with_reducible refine (L1.out _).mono ?_)
      rintro e w2 ⟨rfl, hb2⟩
      have hs2 : w1.heap.size + 0 ≤ w2.heap.size := (by have h := hb2.size; first | omega | (simp at h; omega))
      have hb1_2 := bel hb1 hb2 (by (repeat (first | assumption | exact Below.refl _ _ | refine ba ?_ _ | refine bd ?_ | refine bdn ?_ _ | refine bs ?_ (by first | omega | (simp; done) | (simp; omega)) _ | refine bt ?_ (by assumption))))
      clear hz1_0 hc1 hf1
      obtain ⟨hc1_2, hf1_2, hl1_2⟩ := bcell hb1_2
      clear hl1_2
      have hz2_0 : W.heap.size < w2.heap.size := (by omega)
      obtain ⟨hc2, hf2, hl2⟩ := bcell hb2
      clear hl2
      go_wp2
      go_ret
      refine ⟨by first | rfl | simp [*], ?_⟩
      refine bt HW0.out ?_
      (repeat (first | assumption | exact Below.refl _ _ | refine ba ?_ _ | refine bd ?_ | refine bdn ?_ _ | refine bs ?_ (by first | omega | (simp; done) | (simp; omega)) _ | refine bt ?_ (by assumption)))
set_option maxRecDepth 100000 in
set_option maxHeartbeats 2000000 in
theorem rr_i (h m i l c : Int) (n : Nat → Int) (l0 : 0 ≤ h ∧ h ≤ 9007199254740992) (l1 : 1 ≤ m ∧ m ≤ 9007199254740992) (l2 : ¬ (0 ≤ i ∧ i ≤ 9007199254740992)) (hm : CM n 4) : Pure Tryd.prog 35 #[C9 h m i l c n] (.bool false) := by
  intro W
  have HM := Lib.hid hm
  clear hm
  have L0 := Lib.hid (rw_yes l0)
  have L1 := Lib.hid (rw_yes l1)
  have L2 := Lib.hid (rw_no l2)
  clear l0 l1 l2
  have HC := Lib.hid (fun (X : World) (hX : Below (conW W h m i l c n).heap.size (conW W h m i l c n) X) => conW_min W X h m i l c n hX)
  go_enter Tryd.func35, Tryd.ntmps35
  go_wp2
  go_loopw [4] (fun x wr => ∃ k : Nat, k ≤ 4 ∧ x = .int .i64 k ∧ Hid (CM n k) ∧ Below (conW W h m i l c n).heap.size (conW W h m i l c n) wr) (fun x _ => 4 - (intOf x).toNat)
  case atStart => exact ⟨0, by omega, rfl, Lib.hid (fun j hj => by omega), Below.refl _ _⟩
  case round =>
    obtain ⟨k, hk, rfl, HK, hb⟩ := hrel
    rename_i wr
    have HBB := Lib.hid hb
    have hbs := hb.size
    have hzw : W.heap.size < wr.heap.size := by simp at hbs; omega
    by_cases hlt : k < 4
    · have hkI : (k : Int) < 4 := by omega
      have hc := HC.out wr hb k hlt
      clear hb hbs
      by_cases hn : 0 ≤ n k ∧ n k ≤ 9007199254740992
      · have HW := Lib.hid (rw_yes hn)
        have HN := Lib.hid (cm_succ HK.out hn)
        clear hn
        go_wp2_with fail
        (with_reducible refine (HW.out _).mono ?_)
        rintro e w5 ⟨rfl, hb5⟩
        go_wp2
        go_roundw
        case rel => exact ⟨k + 1, by omega, by go_num, HN, bt HBB.out hb5⟩
        case measure => simp [intOf]; omega
      · exact absurd (HM.out k hlt) hn
    · obtain rfl : k = 4 := by omega
      have d0 : wr.cell? ⟨W.heap.size, 0, none⟩ = some (.int .i64 h) := (hb.cell (p := ⟨W.heap.size, 0, none⟩) (by simp)).trans (by simp [go_sem])
      have d1 : wr.cell? ⟨W.heap.size, 1, none⟩ = some (.int .i64 m) := (hb.cell (p := ⟨W.heap.size, 1, none⟩) (by simp)).trans (by simp [go_sem])
      have d2 : wr.cell? ⟨W.heap.size, 2, none⟩ = some (.int .i64 i) := (hb.cell (p := ⟨W.heap.size, 2, none⟩) (by simp)).trans (by simp [go_sem])
      have d3 : wr.cell? ⟨W.heap.size, 3, none⟩ = some (.int .i64 l) := (hb.cell (p := ⟨W.heap.size, 3, none⟩) (by simp)).trans (by simp [go_sem])
      have d4 : wr.cell? ⟨W.heap.size, 4, none⟩ = some (.int .i64 c) := (hb.cell (p := ⟨W.heap.size, 4, none⟩) (by simp)).trans (by simp [go_sem])
      have HW0 := Lib.hid (show Below W.heap.size W wr from bt (ba (Below.refl _ _) _) hb)
      clear hb hbs
      go_wp2_with fail
      (with_reducible refine (L0.out _).mono ?_)
      rintro e w1 ⟨rfl, hb1⟩
      have hs1 : wr.heap.size + 0 ≤ w1.heap.size := (by have h := hb1.size; first | omega | (simp at h; omega))
      have hz1_0 : W.heap.size < w1.heap.size := (by omega)
      obtain ⟨hc1, hf1, hl1⟩ := bcell hb1
      clear hl1
      go_wp2_with fail
      (with_reducible refine (L1.out _).mono ?_)
      rintro e w2 ⟨rfl, hb2⟩
      have hs2 : w1.heap.size + 0 ≤ w2.heap.size := (by have h := hb2.size; first | omega | (simp at h; omega))
      have hb1_2 := bel hb1 hb2 (by (repeat (first | assumption | exact Below.refl _ _ | refine ba ?_ _ | refine bd ?_ | refine bdn ?_ _ | refine bs ?_ (by first | omega | (simp; done) | (simp; omega)) _ | refine bt ?_ (by assumption))))
      clear hz1_0 hc1 hf1
      obtain ⟨hc1_2, hf1_2, hl1_2⟩ := bcell hb1_2
      clear hl1_2
      have hz2_0 : W.heap.size < w2.heap.size := (by omega)
      obtain ⟨hc2, hf2, hl2⟩ := bcell hb2
      clear hl2
      go_wp2_with fail
      (with_reducible refine (L2.out _).mono ?_)
      rintro e w3 ⟨rfl, hb3⟩
      have hs3 : w2.heap.size + 0 ≤ w3.heap.size := (by have h := hb3.size; first | omega | (simp at h; omega))
      have hb1_3 := bel hb1_2 hb3 (by (repeat (first | assumption | exact Below.refl _ _ | refine ba ?_ _ | refine bd ?_ | refine bdn ?_ _ | refine bs ?_ (by first | omega | (simp; done) | (simp; omega)) _ | refine bt ?_ (by assumption))))
      have hb2_3 := bel hb2 hb3 (by (repeat (first | assumption | exact Below.refl _ _ | refine ba ?_ _ | refine bd ?_ | refine bdn ?_ _ | refine bs ?_ (by first | omega | (simp; done) | (simp; omega)) _ | refine bt ?_ (by assumption))))
      clear hc1_2 hf1_2 hz2_0 hc2 hf2
      obtain ⟨hc1_3, hf1_3, hl1_3⟩ := bcell hb1_3
      clear hl1_3
      have hz3_0 : W.heap.size < w3.heap.size := (by omega)
      obtain ⟨hc3, hf3, hl3⟩ := bcell hb3
      clear hl3
      go_wp2
      go_ret
      refine ⟨by first | rfl | simp [*], ?_⟩
      refine bt HW0.out ?_
      (repeat (first | assumption | exact Below.refl _ _ | refine ba ?_ _ | refine bd ?_ | refine bdn ?_ _ | refine bs ?_ (by first | omega | (simp; done) | (simp; omega)) _ | refine bt ?_ (by assumption)))
set_option maxRecDepth 100000 in
set_option maxHeartbeats 2000000 in
theorem rr_l (h m i l c : Int) (n : Nat → Int) (l0 : 0 ≤ h ∧ h ≤ 9007199254740992) (l1 : 1 ≤ m ∧ m ≤ 9007199254740992) (l2 : 0 ≤ i ∧ i ≤ 9007199254740992) (l3 : ¬ (0 ≤ l ∧ l ≤ 9007199254740992)) (hm : CM n 4) : Pure Tryd.prog 35 #[C9 h m i l c n] (.bool false) := by
  intro W
  have HM := Lib.hid hm
  clear hm
  have L0 := Lib.hid (rw_yes l0)
  have L1 := Lib.hid (rw_yes l1)
  have L2 := Lib.hid (rw_yes l2)
  have L3 := Lib.hid (rw_no l3)
  clear l0 l1 l2 l3
  have HC := Lib.hid (fun (X : World) (hX : Below (conW W h m i l c n).heap.size (conW W h m i l c n) X) => conW_min W X h m i l c n hX)
  go_enter Tryd.func35, Tryd.ntmps35
  go_wp2
  go_loopw [4] (fun x wr => ∃ k : Nat, k ≤ 4 ∧ x = .int .i64 k ∧ Hid (CM n k) ∧ Below (conW W h m i l c n).heap.size (conW W h m i l c n) wr) (fun x _ => 4 - (intOf x).toNat)
  case atStart => exact ⟨0, by omega, rfl, Lib.hid (fun j hj => by omega), Below.refl _ _⟩
  case round =>
    obtain ⟨k, hk, rfl, HK, hb⟩ := hrel
    rename_i wr
    have HBB := Lib.hid hb
    have hbs := hb.size
    have hzw : W.heap.size < wr.heap.size := by simp at hbs; omega
    by_cases hlt : k < 4
    · have hkI : (k : Int) < 4 := by omega
      have hc := HC.out wr hb k hlt
      clear hb hbs
      by_cases hn : 0 ≤ n k ∧ n k ≤ 9007199254740992
      · have HW := Lib.hid (rw_yes hn)
        have HN := Lib.hid (cm_succ HK.out hn)
        clear hn
        go_wp2_with fail
        (with_reducible refine (HW.out _).mono ?_)
        rintro e w5 ⟨rfl, hb5⟩
        go_wp2
        go_roundw
        case rel => exact ⟨k + 1, by omega, by go_num, HN, bt HBB.out hb5⟩
        case measure => simp [intOf]; omega
      · exact absurd (HM.out k hlt) hn
    · obtain rfl : k = 4 := by omega
      have d0 : wr.cell? ⟨W.heap.size, 0, none⟩ = some (.int .i64 h) := (hb.cell (p := ⟨W.heap.size, 0, none⟩) (by simp)).trans (by simp [go_sem])
      have d1 : wr.cell? ⟨W.heap.size, 1, none⟩ = some (.int .i64 m) := (hb.cell (p := ⟨W.heap.size, 1, none⟩) (by simp)).trans (by simp [go_sem])
      have d2 : wr.cell? ⟨W.heap.size, 2, none⟩ = some (.int .i64 i) := (hb.cell (p := ⟨W.heap.size, 2, none⟩) (by simp)).trans (by simp [go_sem])
      have d3 : wr.cell? ⟨W.heap.size, 3, none⟩ = some (.int .i64 l) := (hb.cell (p := ⟨W.heap.size, 3, none⟩) (by simp)).trans (by simp [go_sem])
      have d4 : wr.cell? ⟨W.heap.size, 4, none⟩ = some (.int .i64 c) := (hb.cell (p := ⟨W.heap.size, 4, none⟩) (by simp)).trans (by simp [go_sem])
      have HW0 := Lib.hid (show Below W.heap.size W wr from bt (ba (Below.refl _ _) _) hb)
      clear hb hbs
      go_wp2_with fail
      (with_reducible refine (L0.out _).mono ?_)
      rintro e w1 ⟨rfl, hb1⟩
      have hs1 : wr.heap.size + 0 ≤ w1.heap.size := (by have h := hb1.size; first | omega | (simp at h; omega))
      have hz1_0 : W.heap.size < w1.heap.size := (by omega)
      obtain ⟨hc1, hf1, hl1⟩ := bcell hb1
      clear hl1
      go_wp2_with fail
      (with_reducible refine (L1.out _).mono ?_)
      rintro e w2 ⟨rfl, hb2⟩
      have hs2 : w1.heap.size + 0 ≤ w2.heap.size := (by have h := hb2.size; first | omega | (simp at h; omega))
      have hb1_2 := bel hb1 hb2 (by (repeat (first | assumption | exact Below.refl _ _ | refine ba ?_ _ | refine bd ?_ | refine bdn ?_ _ | refine bs ?_ (by first | omega | (simp; done) | (simp; omega)) _ | refine bt ?_ (by assumption))))
      clear hz1_0 hc1 hf1
      obtain ⟨hc1_2, hf1_2, hl1_2⟩ := bcell hb1_2
      clear hl1_2
      have hz2_0 : W.heap.size < w2.heap.size := (by omega)
      obtain ⟨hc2, hf2, hl2⟩ := bcell hb2
      clear hl2
      go_wp2_with fail
      (with_reducible refine (L2.out _).mono ?_)
      rintro e w3 ⟨rfl, hb3⟩
      have hs3 : w2.heap.size + 0 ≤ w3.heap.size := (by have h := hb3.size; first | omega | (simp at h; omega))
      have hb1_3 := bel hb1_2 hb3 (by (repeat (first | assumption | exact Below.refl _ _ | refine ba ?_ _ | refine bd ?_ | refine bdn ?_ _ | refine bs ?_ (by first | omega | (simp; done) | (simp; omega)) _ | refine bt ?_ (by assumption))))
      have hb2_3 := bel hb2 hb3 (by (repeat (first | assumption | exact Below.refl _ _ | refine ba ?_ _ | refine bd ?_ | refine bdn ?_ _ | refine bs ?_ (by first | omega | (simp; done) | (simp; omega)) _ | refine bt ?_ (by assumption))))
      clear hc1_2 hf1_2 hz2_0 hc2 hf2
      obtain ⟨hc1_3, hf1_3, hl1_3⟩ := bcell hb1_3
      clear hl1_3
      have hz3_0 : W.heap.size < w3.heap.size := (by omega)
      obtain ⟨hc3, hf3, hl3⟩ := bcell hb3
      clear hl3
      go_wp2_with fail
      (with_reducible refine (L3.out _).mono ?_)
      rintro e w4 ⟨rfl, hb4⟩
      have hs4 : w3.heap.size + 0 ≤ w4.heap.size := (by have h := hb4.size; first | omega | (simp at h; omega))
      have hb1_4 := bel hb1_3 hb4 (by (repeat (first | assumption | exact Below.refl _ _ | refine ba ?_ _ | refine bd ?_ | refine bdn ?_ _ | refine bs ?_ (by first | omega | (simp; done) | (simp; omega)) _ | refine bt ?_ (by assumption))))
      have hb2_4 := bel hb2_3 hb4 (by (repeat (first | assumption | exact Below.refl _ _ | refine ba ?_ _ | refine bd ?_ | refine bdn ?_ _ | refine bs ?_ (by first | omega | (simp; done) | (simp; omega)) _ | refine bt ?_ (by assumption))))
      have hb3_4 := bel hb3 hb4 (by (repeat (first | assumption | exact Below.refl _ _ | refine ba ?_ _ | refine bd ?_ | refine bdn ?_ _ | refine bs ?_ (by first | omega | (simp; done) | (simp; omega)) _ | refine bt ?_ (by assumption))))
      clear hc1_3 hf1_3 hz3_0 hc3 hf3
      obtain ⟨hc1_4, hf1_4, hl1_4⟩ := bcell hb1_4
      clear hl1_4
      have hz4_0 : W.heap.size < w4.heap.size := (by omega)
      obtain ⟨hc4, hf4, hl4⟩ := bcell hb4
      clear hl4
      go_wp2
      go_ret
      refine ⟨by first | rfl | simp [*], ?_⟩
      refine bt HW0.out ?_
      (repeat (first | assumption | exact Below.refl _ _ | refine ba ?_ _ | refine bd ?_ | refine bdn ?_ _ | refine bs ?_ (by first | omega | (simp; done) | (simp; omega)) _ | refine bt ?_ (by assumption)))
set_option maxRecDepth 100000 in
set_option maxHeartbeats 2000000 in
theorem rr_c (h m i l c : Int) (n : Nat → Int) (l0 : 0 ≤ h ∧ h ≤ 9007199254740992) (l1 : 1 ≤ m ∧ m ≤ 9007199254740992) (l2 : 0 ≤ i ∧ i ≤ 9007199254740992) (l3 : 0 ≤ l ∧ l ≤ 9007199254740992) (l4 : c < 1) (hm : CM n 4) : Pure Tryd.prog 35 #[C9 h m i l c n] (.bool false) := by
  intro W
  have HM := Lib.hid hm
  clear hm
  have L0 := Lib.hid (rw_yes l0)
  have L1 := Lib.hid (rw_yes l1)
  have L2 := Lib.hid (rw_yes l2)
  have L3 := Lib.hid (rw_yes l3)
  clear l0 l1 l2 l3
  have HC := Lib.hid (fun (X : World) (hX : Below (conW W h m i l c n).heap.size (conW W h m i l c n) X) => conW_min W X h m i l c n hX)
  go_enter Tryd.func35, Tryd.ntmps35
  go_wp2
  go_loopw [4] (fun x wr => ∃ k : Nat, k ≤ 4 ∧ x = .int .i64 k ∧ Hid (CM n k) ∧ Below (conW W h m i l c n).heap.size (conW W h m i l c n) wr) (fun x _ => 4 - (intOf x).toNat)
  case atStart => exact ⟨0, by omega, rfl, Lib.hid (fun j hj => by omega), Below.refl _ _⟩
  case round =>
    obtain ⟨k, hk, rfl, HK, hb⟩ := hrel
    rename_i wr
    have HBB := Lib.hid hb
    have hbs := hb.size
    have hzw : W.heap.size < wr.heap.size := by simp at hbs; omega
    by_cases hlt : k < 4
    · have hkI : (k : Int) < 4 := by omega
      have hc := HC.out wr hb k hlt
      clear hb hbs
      by_cases hn : 0 ≤ n k ∧ n k ≤ 9007199254740992
      · have HW := Lib.hid (rw_yes hn)
        have HN := Lib.hid (cm_succ HK.out hn)
        clear hn
        go_wp2_with fail
        (with_reducible refine (HW.out _).mono ?_)
        rintro e w5 ⟨rfl, hb5⟩
        go_wp2
        go_roundw
        case rel => exact ⟨k + 1, by omega, by go_num, HN, bt HBB.out hb5⟩
        case measure => simp [intOf]; omega
      · exact absurd (HM.out k hlt) hn
    · obtain rfl : k = 4 := by omega
      have d0 : wr.cell? ⟨W.heap.size, 0, none⟩ = some (.int .i64 h) := (hb.cell (p := ⟨W.heap.size, 0, none⟩) (by simp)).trans (by simp [go_sem])
      have d1 : wr.cell? ⟨W.heap.size, 1, none⟩ = some (.int .i64 m) := (hb.cell (p := ⟨W.heap.size, 1, none⟩) (by simp)).trans (by simp [go_sem])
      have d2 : wr.cell? ⟨W.heap.size, 2, none⟩ = some (.int .i64 i) := (hb.cell (p := ⟨W.heap.size, 2, none⟩) (by simp)).trans (by simp [go_sem])
      have d3 : wr.cell? ⟨W.heap.size, 3, none⟩ = some (.int .i64 l) := (hb.cell (p := ⟨W.heap.size, 3, none⟩) (by simp)).trans (by simp [go_sem])
      have d4 : wr.cell? ⟨W.heap.size, 4, none⟩ = some (.int .i64 c) := (hb.cell (p := ⟨W.heap.size, 4, none⟩) (by simp)).trans (by simp [go_sem])
      have HW0 := Lib.hid (show Below W.heap.size W wr from bt (ba (Below.refl _ _) _) hb)
      clear hb hbs
      go_wp2_with fail
      (with_reducible refine (L0.out _).mono ?_)
      rintro e w1 ⟨rfl, hb1⟩
      have hs1 : wr.heap.size + 0 ≤ w1.heap.size := (by have h := hb1.size; first | omega | (simp at h; omega))
      have hz1_0 : W.heap.size < w1.heap.size := (by omega)
      obtain ⟨hc1, hf1, hl1⟩ := bcell hb1
      clear hl1
      go_wp2_with fail
      (with_reducible refine (L1.out _).mono ?_)
      rintro e w2 ⟨rfl, hb2⟩
      have hs2 : w1.heap.size + 0 ≤ w2.heap.size := (by have h := hb2.size; first | omega | (simp at h; omega))
      have hb1_2 := bel hb1 hb2 (by (repeat (first | assumption | exact Below.refl _ _ | refine ba ?_ _ | refine bd ?_ | refine bdn ?_ _ | refine bs ?_ (by first | omega | (simp; done) | (simp; omega)) _ | refine bt ?_ (by assumption))))
      clear hz1_0 hc1 hf1
      obtain ⟨hc1_2, hf1_2, hl1_2⟩ := bcell hb1_2
      clear hl1_2
      have hz2_0 : W.heap.size < w2.heap.size := (by omega)
      obtain ⟨hc2, hf2, hl2⟩ := bcell hb2
      clear hl2
      go_wp2_with fail
      (with_reducible refine (L2.out _).mono ?_)
      rintro e w3 ⟨rfl, hb3⟩
      have hs3 : w2.heap.size + 0 ≤ w3.heap.size := (by have h := hb3.size; first | omega | (simp at h; omega))
      have hb1_3 := bel hb1_2 hb3 (by (repeat (first | assumption | exact Below.refl _ _ | refine ba ?_ _ | refine bd ?_ | refine bdn ?_ _ | refine bs ?_ (by first | omega | (simp; done) | (simp; omega)) _ | refine bt ?_ (by assumption))))
      have hb2_3 := bel hb2 hb3 (by (repeat (first | assumption | exact Below.refl _ _ | refine ba ?_ _ | refine bd ?_ | refine bdn ?_ _ | refine bs ?_ (by first | omega | (simp; done) | (simp; omega)) _ | refine bt ?_ (by assumption))))
      clear hc1_2 hf1_2 hz2_0 hc2 hf2
      obtain ⟨hc1_3, hf1_3, hl1_3⟩ := bcell hb1_3
      clear hl1_3
      have hz3_0 : W.heap.size < w3.heap.size := (by omega)
      obtain ⟨hc3, hf3, hl3⟩ := bcell hb3
      clear hl3
      go_wp2_with fail
      (with_reducible refine (L3.out _).mono ?_)
      rintro e w4 ⟨rfl, hb4⟩
      have hs4 : w3.heap.size + 0 ≤ w4.heap.size := (by have h := hb4.size; first | omega | (simp at h; omega))
      have hb1_4 := bel hb1_3 hb4 (by (repeat (first | assumption | exact Below.refl _ _ | refine ba ?_ _ | refine bd ?_ | refine bdn ?_ _ | refine bs ?_ (by first | omega | (simp; done) | (simp; omega)) _ | refine bt ?_ (by assumption))))
      have hb2_4 := bel hb2_3 hb4 (by (repeat (first | assumption | exact Below.refl _ _ | refine ba ?_ _ | refine bd ?_ | refine bdn ?_ _ | refine bs ?_ (by first | omega | (simp; done) | (simp; omega)) _ | refine bt ?_ (by assumption))))
      have hb3_4 := bel hb3 hb4 (by (repeat (first | assumption | exact Below.refl _ _ | refine ba ?_ _ | refine bd ?_ | refine bdn ?_ _ | refine bs ?_ (by first | omega | (simp; done) | (simp; omega)) _ | refine bt ?_ (by assumption))))
      clear hc1_3 hf1_3 hz3_0 hc3 hf3
      obtain ⟨hc1_4, hf1_4, hl1_4⟩ := bcell hb1_4
      clear hl1_4
      have hz4_0 : W.heap.size < w4.heap.size := (by omega)
      obtain ⟨hc4, hf4, hl4⟩ := bcell hb4
      clear hl4
      go_wp2
      go_ret
      refine ⟨by first | rfl | simp [*], ?_⟩
      refine bt HW0.out ?_
      (repeat (first | assumption | exact Below.refl _ _ | refine ba ?_ _ | refine bd ?_ | refine bdn ?_ _ | refine bs ?_ (by first | omega | (simp; done) | (simp; omega)) _ | refine bt ?_ (by assumption)))
set_option maxRecDepth 100000 in
set_option maxHeartbeats 2000000 in
theorem rr_d (h m i l c : Int) (n : Nat → Int) (l0 : 0 ≤ h ∧ h ≤ 9007199254740992) (l1 : 1 ≤ m ∧ m ≤ 9007199254740992) (l2 : 0 ≤ i ∧ i ≤ 9007199254740992) (l3 : 0 ≤ l ∧ l ≤ 9007199254740992) (l4 : 1 ≤ c) (l5 : 4096 < c) (hm : CM n 4) : Pure Tryd.prog 35 #[C9 h m i l c n] (.bool false) := by
  intro W
  have HM := Lib.hid hm
  clear hm
  have L0 := Lib.hid (rw_yes l0)
  have L1 := Lib.hid (rw_yes l1)
  have L2 := Lib.hid (rw_yes l2)
  have L3 := Lib.hid (rw_yes l3)
  clear l0 l1 l2 l3
  have HC := Lib.hid (fun (X : World) (hX : Below (conW W h m i l c n).heap.size (conW W h m i l c n) X) => conW_min W X h m i l c n hX)
  go_enter Tryd.func35, Tryd.ntmps35
  go_wp2
  go_loopw [4] (fun x wr => ∃ k : Nat, k ≤ 4 ∧ x = .int .i64 k ∧ Hid (CM n k) ∧ Below (conW W h m i l c n).heap.size (conW W h m i l c n) wr) (fun x _ => 4 - (intOf x).toNat)
  case atStart => exact ⟨0, by omega, rfl, Lib.hid (fun j hj => by omega), Below.refl _ _⟩
  case round =>
    obtain ⟨k, hk, rfl, HK, hb⟩ := hrel
    rename_i wr
    have HBB := Lib.hid hb
    have hbs := hb.size
    have hzw : W.heap.size < wr.heap.size := by simp at hbs; omega
    by_cases hlt : k < 4
    · have hkI : (k : Int) < 4 := by omega
      have hc := HC.out wr hb k hlt
      clear hb hbs
      by_cases hn : 0 ≤ n k ∧ n k ≤ 9007199254740992
      · have HW := Lib.hid (rw_yes hn)
        have HN := Lib.hid (cm_succ HK.out hn)
        clear hn
        go_wp2_with fail
        (with_reducible refine (HW.out _).mono ?_)
        rintro e w5 ⟨rfl, hb5⟩
        go_wp2
        go_roundw
        case rel => exact ⟨k + 1, by omega, by go_num, HN, bt HBB.out hb5⟩
        case measure => simp [intOf]; omega
      · exact absurd (HM.out k hlt) hn
    · obtain rfl : k = 4 := by omega
      have d0 : wr.cell? ⟨W.heap.size, 0, none⟩ = some (.int .i64 h) := (hb.cell (p := ⟨W.heap.size, 0, none⟩) (by simp)).trans (by simp [go_sem])
      have d1 : wr.cell? ⟨W.heap.size, 1, none⟩ = some (.int .i64 m) := (hb.cell (p := ⟨W.heap.size, 1, none⟩) (by simp)).trans (by simp [go_sem])
      have d2 : wr.cell? ⟨W.heap.size, 2, none⟩ = some (.int .i64 i) := (hb.cell (p := ⟨W.heap.size, 2, none⟩) (by simp)).trans (by simp [go_sem])
      have d3 : wr.cell? ⟨W.heap.size, 3, none⟩ = some (.int .i64 l) := (hb.cell (p := ⟨W.heap.size, 3, none⟩) (by simp)).trans (by simp [go_sem])
      have d4 : wr.cell? ⟨W.heap.size, 4, none⟩ = some (.int .i64 c) := (hb.cell (p := ⟨W.heap.size, 4, none⟩) (by simp)).trans (by simp [go_sem])
      have HW0 := Lib.hid (show Below W.heap.size W wr from bt (ba (Below.refl _ _) _) hb)
      clear hb hbs
      go_wp2_with fail
      (with_reducible refine (L0.out _).mono ?_)
      rintro e w1 ⟨rfl, hb1⟩
      have hs1 : wr.heap.size + 0 ≤ w1.heap.size := (by have h := hb1.size; first | omega | (simp at h; omega))
      have hz1_0 : W.heap.size < w1.heap.size := (by omega)
      obtain ⟨hc1, hf1, hl1⟩ := bcell hb1
      clear hl1
      go_wp2_with fail
      (with_reducible refine (L1.out _).mono ?_)
      rintro e w2 ⟨rfl, hb2⟩
      have hs2 : w1.heap.size + 0 ≤ w2.heap.size := (by have h := hb2.size; first | omega | (simp at h; omega))
      have hb1_2 := bel hb1 hb2 (by (repeat (first | assumption | exact Below.refl _ _ | refine ba ?_ _ | refine bd ?_ | refine bdn ?_ _ | refine bs ?_ (by first | omega | (simp; done) | (simp; omega)) _ | refine bt ?_ (by assumption))))
      clear hz1_0 hc1 hf1
      obtain ⟨hc1_2, hf1_2, hl1_2⟩ := bcell hb1_2
      clear hl1_2
      have hz2_0 : W.heap.size < w2.heap.size := (by omega)
      obtain ⟨hc2, hf2, hl2⟩ := bcell hb2
      clear hl2
      go_wp2_with fail
      (with_reducible refine (L2.out _).mono ?_)
      rintro e w3 ⟨rfl, hb3⟩
      have hs3 : w2.heap.size + 0 ≤ w3.heap.size := (by have h := hb3.size; first | omega | (simp at h; omega))
      have hb1_3 := bel hb1_2 hb3 (by (repeat (first | assumption | exact Below.refl _ _ | refine ba ?_ _ | refine bd ?_ | refine bdn ?_ _ | refine bs ?_ (by first | omega | (simp; done) | (simp; omega)) _ | refine bt ?_ (by assumption))))
      have hb2_3 := bel hb2 hb3 (by (repeat (first | assumption | exact Below.refl _ _ | refine ba ?_ _ | refine bd ?_ | refine bdn ?_ _ | refine bs ?_ (by first | omega | (simp; done) | (simp; omega)) _ | refine bt ?_ (by assumption))))
      clear hc1_2 hf1_2 hz2_0 hc2 hf2
      obtain ⟨hc1_3, hf1_3, hl1_3⟩ := bcell hb1_3
      clear hl1_3
      have hz3_0 : W.heap.size < w3.heap.size := (by omega)
      obtain ⟨hc3, hf3, hl3⟩ := bcell hb3
      clear hl3
      go_wp2_with fail
      (with_reducible refine (L3.out _).mono ?_)
      rintro e w4 ⟨rfl, hb4⟩
      have hs4 : w3.heap.size + 0 ≤ w4.heap.size := (by have h := hb4.size; first | omega | (simp at h; omega))
      have hb1_4 := bel hb1_3 hb4 (by (repeat (first | assumption | exact Below.refl _ _ | refine ba ?_ _ | refine bd ?_ | refine bdn ?_ _ | refine bs ?_ (by first | omega | (simp; done) | (simp; omega)) _ | refine bt ?_ (by assumption))))
      have hb2_4 := bel hb2_3 hb4 (by (repeat (first | assumption | exact Below.refl _ _ | refine ba ?_ _ | refine bd ?_ | refine bdn ?_ _ | refine bs ?_ (by first | omega | (simp; done) | (simp; omega)) _ | refine bt ?_ (by assumption))))
      have hb3_4 := bel hb3 hb4 (by (repeat (first | assumption | exact Below.refl _ _ | refine ba ?_ _ | refine bd ?_ | refine bdn ?_ _ | refine bs ?_ (by first | omega | (simp; done) | (simp; omega)) _ | refine bt ?_ (by assumption))))
      clear hc1_3 hf1_3 hz3_0 hc3 hf3
      obtain ⟨hc1_4, hf1_4, hl1_4⟩ := bcell hb1_4
      clear hl1_4
      have hz4_0 : W.heap.size < w4.heap.size := (by omega)
      obtain ⟨hc4, hf4, hl4⟩ := bcell hb4
      clear hl4
      go_wp2
      go_ret
      refine ⟨by first | rfl | simp [*], ?_⟩
      refine bt HW0.out ?_
      (repeat (first | assumption | exact Below.refl _ _ | refine ba ?_ _ | refine bd ?_ | refine bdn ?_ _ | refine bs ?_ (by first | omega | (simp; done) | (simp; omega)) _ | refine bt ?_ (by assumption)))
set_option maxRecDepth 100000 in
set_option maxHeartbeats 2000000 in
theorem rr_y (h m i l c : Int) (n : Nat → Int) (l0 : 0 ≤ h ∧ h ≤ 9007199254740992) (l1 : 1 ≤ m ∧ m ≤ 9007199254740992) (l2 : 0 ≤ i ∧ i ≤ 9007199254740992) (l3 : 0 ≤ l ∧ l ≤ 9007199254740992) (l4 : 1 ≤ c) (l5 : c ≤ 4096) (hm : CM n 4) : Pure Tryd.prog 35 #[C9 h m i l c n] (.bool true) := by
  intro W
  have HM := Lib.hid hm
  clear hm
  have L0 := Lib.hid (rw_yes l0)
  have L1 := Lib.hid (rw_yes l1)
  have L2 := Lib.hid (rw_yes l2)
  have L3 := Lib.hid (rw_yes l3)
  clear l0 l1 l2 l3
  have HC := Lib.hid (fun (X : World) (hX : Below (conW W h m i l c n).heap.size (conW W h m i l c n) X) => conW_min W X h m i l c n hX)
  go_enter Tryd.func35, Tryd.ntmps35
  go_wp2
  go_loopw [4] (fun x wr => ∃ k : Nat, k ≤ 4 ∧ x = .int .i64 k ∧ Hid (CM n k) ∧ Below (conW W h m i l c n).heap.size (conW W h m i l c n) wr) (fun x _ => 4 - (intOf x).toNat)
  case atStart => exact ⟨0, by omega, rfl, Lib.hid (fun j hj => by omega), Below.refl _ _⟩
  case round =>
    obtain ⟨k, hk, rfl, HK, hb⟩ := hrel
    rename_i wr
    have HBB := Lib.hid hb
    have hbs := hb.size
    have hzw : W.heap.size < wr.heap.size := by simp at hbs; omega
    by_cases hlt : k < 4
    · have hkI : (k : Int) < 4 := by omega
      have hc := HC.out wr hb k hlt
      clear hb hbs
      by_cases hn : 0 ≤ n k ∧ n k ≤ 9007199254740992
      · have HW := Lib.hid (rw_yes hn)
        have HN := Lib.hid (cm_succ HK.out hn)
        clear hn
        go_wp2_with fail
        (with_reducible refine (HW.out _).mono ?_)
        rintro e w5 ⟨rfl, hb5⟩
        go_wp2
        go_roundw
        case rel => exact ⟨k + 1, by omega, by go_num, HN, bt HBB.out hb5⟩
        case measure => simp [intOf]; omega
      · exact absurd (HM.out k hlt) hn
    · obtain rfl : k = 4 := by omega
      have d0 : wr.cell? ⟨W.heap.size, 0, none⟩ = some (.int .i64 h) := (hb.cell (p := ⟨W.heap.size, 0, none⟩) (by simp)).trans (by simp [go_sem])
      have d1 : wr.cell? ⟨W.heap.size, 1, none⟩ = some (.int .i64 m) := (hb.cell (p := ⟨W.heap.size, 1, none⟩) (by simp)).trans (by simp [go_sem])
      have d2 : wr.cell? ⟨W.heap.size, 2, none⟩ = some (.int .i64 i) := (hb.cell (p := ⟨W.heap.size, 2, none⟩) (by simp)).trans (by simp [go_sem])
      have d3 : wr.cell? ⟨W.heap.size, 3, none⟩ = some (.int .i64 l) := (hb.cell (p := ⟨W.heap.size, 3, none⟩) (by simp)).trans (by simp [go_sem])
      have d4 : wr.cell? ⟨W.heap.size, 4, none⟩ = some (.int .i64 c) := (hb.cell (p := ⟨W.heap.size, 4, none⟩) (by simp)).trans (by simp [go_sem])
      have HW0 := Lib.hid (show Below W.heap.size W wr from bt (ba (Below.refl _ _) _) hb)
      clear hb hbs
      go_wp2_with fail
      (with_reducible refine (L0.out _).mono ?_)
      rintro e w1 ⟨rfl, hb1⟩
      have hs1 : wr.heap.size + 0 ≤ w1.heap.size := (by have h := hb1.size; first | omega | (simp at h; omega))
      have hz1_0 : W.heap.size < w1.heap.size := (by omega)
      obtain ⟨hc1, hf1, hl1⟩ := bcell hb1
      clear hl1
      go_wp2_with fail
      (with_reducible refine (L1.out _).mono ?_)
      rintro e w2 ⟨rfl, hb2⟩
      have hs2 : w1.heap.size + 0 ≤ w2.heap.size := (by have h := hb2.size; first | omega | (simp at h; omega))
      have hb1_2 := bel hb1 hb2 (by (repeat (first | assumption | exact Below.refl _ _ | refine ba ?_ _ | refine bd ?_ | refine bdn ?_ _ | refine bs ?_ (by first | omega | (simp; done) | (simp; omega)) _ | refine bt ?_ (by assumption))))
      clear hz1_0 hc1 hf1
      obtain ⟨hc1_2, hf1_2, hl1_2⟩ := bcell hb1_2
      clear hl1_2
      have hz2_0 : W.heap.size < w2.heap.size := (by omega)
      obtain ⟨hc2, hf2, hl2⟩ := bcell hb2
      clear hl2
      go_wp2_with fail
      (with_reducible refine (L2.out _).mono ?_)
      rintro e w3 ⟨rfl, hb3⟩
      have hs3 : w2.heap.size + 0 ≤ w3.heap.size := (by have h := hb3.size; first | omega | (simp at h; omega))
      have hb1_3 := bel hb1_2 hb3 (by (repeat (first | assumption | exact Below.refl _ _ | refine ba ?_ _ | refine bd ?_ | refine bdn ?_ _ | refine bs ?_ (by first | omega | (simp; done) | (simp; omega)) _ | refine bt ?_ (by assumption))))
      have hb2_3 := bel hb2 hb3 (by (repeat (first | assumption | exact Below.refl _ _ | refine ba ?_ _ | refine bd ?_ | refine bdn ?_ _ | refine bs ?_ (by first | omega | (simp; done) | (simp; omega)) _ | refine bt ?_ (by assumption))))
      clear hc1_2 hf1_2 hz2_0 hc2 hf2
      obtain ⟨hc1_3, hf1_3, hl1_3⟩ := bcell hb1_3
      clear hl1_3
      have hz3_0 : W.heap.size < w3.heap.size := (by omega)
      obtain ⟨hc3, hf3, hl3⟩ := bcell hb3
      clear hl3
      go_wp2_with fail
      (with_reducible refine (L3.out _).mono ?_)
      rintro e w4 ⟨rfl, hb4⟩
      have hs4 : w3.heap.size + 0 ≤ w4.heap.size := (by have h := hb4.size; first | omega | (simp at h; omega))
      have hb1_4 := bel hb1_3 hb4 (by (repeat (first | assumption | exact Below.refl _ _ | refine ba ?_ _ | refine bd ?_ | refine bdn ?_ _ | refine bs ?_ (by first | omega | (simp; done) | (simp; omega)) _ | refine bt ?_ (by assumption))))
      have hb2_4 := bel hb2_3 hb4 (by (repeat (first | assumption | exact Below.refl _ _ | refine ba ?_ _ | refine bd ?_ | refine bdn ?_ _ | refine bs ?_ (by first | omega | (simp; done) | (simp; omega)) _ | refine bt ?_ (by assumption))))
      have hb3_4 := bel hb3 hb4 (by (repeat (first | assumption | exact Below.refl _ _ | refine ba ?_ _ | refine bd ?_ | refine bdn ?_ _ | refine bs ?_ (by first | omega | (simp; done) | (simp; omega)) _ | refine bt ?_ (by assumption))))
      clear hc1_3 hf1_3 hz3_0 hc3 hf3
      obtain ⟨hc1_4, hf1_4, hl1_4⟩ := bcell hb1_4
      clear hl1_4
      have hz4_0 : W.heap.size < w4.heap.size := (by omega)
      obtain ⟨hc4, hf4, hl4⟩ := bcell hb4
      clear hl4
      go_wp2
      go_ret
      refine ⟨by first | rfl | simp [*], ?_⟩
      refine bt HW0.out ?_
      (repeat (first | assumption | exact Below.refl _ _ | refine ba ?_ _ | refine bd ?_ | refine bdn ?_ _ | refine bs ?_ (by first | omega | (simp; done) | (simp; omega)) _ | refine bt ?_ (by assumption)))
theorem refright13_any (h m i l c : Int) (n : Nat → Int) : Pure Tryd.prog 35 #[C9 h m i l c n] (.bool (decide (CR h m i l c n))) := by
  by_cases hm : CM n 4
  · by_cases lh : 0 ≤ h ∧ h ≤ 9007199254740992
    · by_cases lm : 1 ≤ m ∧ m ≤ 9007199254740992
      · by_cases li : 0 ≤ i ∧ i ≤ 9007199254740992
        · by_cases ll : 0 ≤ l ∧ l ≤ 9007199254740992
          · by_cases lc : 1 ≤ c
            · by_cases ld : c ≤ 4096
              · rw [decide_eq_true (show CR h m i l c n from ⟨⟨lh.1, lh.2, lm.1, lm.2, li.1, li.2, ll.1, ll.2, lc, ld⟩, hm⟩)]; exact rr_y h m i l c n lh lm li ll lc ld hm
              · rw [decide_eq_false (show ¬ CR h m i l c n from fun x => ld x.1.2.2.2.2.2.2.2.2.2)]; exact rr_d h m i l c n lh lm li ll lc (by omega) hm
            · rw [decide_eq_false (show ¬ CR h m i l c n from fun x => lc x.1.2.2.2.2.2.2.2.2.1)]; exact rr_c h m i l c n lh lm li ll (by omega) hm
          · rw [decide_eq_false (show ¬ CR h m i l c n from fun x => ll ⟨x.1.2.2.2.2.2.2.1, x.1.2.2.2.2.2.2.2.1⟩)]; exact rr_l h m i l c n lh lm li ll hm
        · rw [decide_eq_false (show ¬ CR h m i l c n from fun x => li ⟨x.1.2.2.2.2.1, x.1.2.2.2.2.2.1⟩)]; exact rr_i h m i l c n lh lm li hm
      · rw [decide_eq_false (show ¬ CR h m i l c n from fun x => lm ⟨x.1.2.2.1, x.1.2.2.2.1⟩)]; exact rr_m h m i l c n lh lm hm
    · rw [decide_eq_false (show ¬ CR h m i l c n from fun x => lh ⟨x.1.1, x.1.2.1⟩)]; exact rr_h h m i l c n lh hm
  · rw [decide_eq_false (show ¬ CR h m i l c n from fun x => hm x.2)]; exact rr_n h m i l c n hm
end Go.Proofs.YtlhljioncgddeaaDoor

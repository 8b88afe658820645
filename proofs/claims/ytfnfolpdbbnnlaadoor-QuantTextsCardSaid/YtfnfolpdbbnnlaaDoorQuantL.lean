/- The walk of QuantTexts. Condition: the powers of ten lie in their variable. -/
import Derived.Test.YtfnfolpdbbnnlaaDoorQuantP
namespace Go.Proofs.YtfnfolpdbbnnlaaDoor
open Go.RowKit
attribute [local go_sem] ext_cell ext_frozen Mix.calmUpon Mix.mUpon
theorem qL_25 : qL 25 = [48, 46, 48, 50, 53] := by
  unfold qL
  rw [if_neg (by decide), decDigits_lt _ (by decide)]
  decide
theorem qL_1500 : qL 1500 = [49, 46, 53] := by
  unfold qL
  rw [if_neg (by decide), decDigits_lt _ (by decide)]
  decide
set_option maxRecDepth 100000 in
set_option maxHeartbeats 2000000 in
theorem works3b : PureOn T10 Tryd.prog 24 #[] (.bool true) := by
  intro W hT
  have HT := Lib.hid hT
  have H1 := Lib.hid (show Pure Tryd.prog 21 #[.int .i64 3, .int .i64 4, .int .i64 7] (.tuple #[.int .i64 7, .bool true]) from qadd_yes 3 4 7 (by decide) ⟨by decide, by decide⟩)
  have H2 := Lib.hid (qadd_no 3 4 6 (by decide) ⟨by decide, by decide⟩)
  have h3 := qparse_any ⟨#[48, 46, 48, 50, 53]⟩
  rw [show (⟨#[48, 46, 48, 50, 53]⟩ : ByteArray).data.toList = qL 25 from qL_25.symm, qP_qL 25 (by decide)] at h3
  have H3 := Lib.hid (show PureOn T10 Tryd.prog 25 #[.string ⟨#[48, 46, 48, 50, 53]⟩] (.tuple #[.int .i64 25, .bool true]) from h3)
  have h4 := qtext_yes 1500 (by decide)
  rw [show qT 1500 = ⟨#[49, 46, 53]⟩ by unfold qT; rw [qL_1500]] at h4
  have H4 := Lib.hid (show PureOn T10 Tryd.prog 27 #[.int .i64 1500] (.string ⟨#[49, 46, 53]⟩) from h4)
  clear hT h3 h4
  go_enter Tryd.func24, Tryd.ntmps24
  go_wp2_with fail
  (with_reducible refine (H1.out _).mono ?_)
  rintro e w1 ⟨rfl, hb1⟩
  have hs1 : W.heap.size + 0 ≤ w1.heap.size := (by have h := hb1.size; first | omega | (simp at h; omega))
  obtain ⟨hc1, hf1, hl1⟩ := bcell hb1
  clear hl1
  go_wp2_with fail
  (with_reducible refine (H2.out _).mono ?_)
  rintro e w2 ⟨rfl, hb2⟩
  have hs2 : w1.heap.size + 0 ≤ w2.heap.size := (by have h := hb2.size; first | omega | (simp at h; omega))
  have hb1_2 := bel hb1 hb2 (by (repeat (first | assumption | exact Below.refl _ _ | refine ba ?_ _ | refine bd ?_ | refine bdn ?_ _ | refine bs ?_ (by first | omega | (simp; done) | (simp; omega)) _ | refine bt ?_ (by assumption))))
  clear hc1 hf1
  obtain ⟨hc2, hf2, hl2⟩ := bcell hb2
  clear hl2
  go_wp2_with fail
  (with_reducible refine (H3.out.app _ (T10.up HT.out (by (repeat (first | assumption | exact Below.refl _ _ | refine ba ?_ _ | refine bd ?_ | refine bdn ?_ _ | refine bs ?_ (by first | omega | (simp; done) | (simp; omega)) _ | refine bt ?_ (by assumption)))))).mono ?_)
  rintro e w3 ⟨rfl, hb3⟩
  have hs3 : w2.heap.size + 0 ≤ w3.heap.size := (by have h := hb3.size; first | omega | (simp at h; omega))
  have hb1_3 := bel hb1_2 hb3 (by (repeat (first | assumption | exact Below.refl _ _ | refine ba ?_ _ | refine bd ?_ | refine bdn ?_ _ | refine bs ?_ (by first | omega | (simp; done) | (simp; omega)) _ | refine bt ?_ (by assumption))))
  have hb2_3 := bel hb2 hb3 (by (repeat (first | assumption | exact Below.refl _ _ | refine ba ?_ _ | refine bd ?_ | refine bdn ?_ _ | refine bs ?_ (by first | omega | (simp; done) | (simp; omega)) _ | refine bt ?_ (by assumption))))
  clear hc2 hf2
  obtain ⟨hc3, hf3, hl3⟩ := bcell hb3
  clear hl3
  go_wp2_with fail
  (with_reducible refine (H4.out.app _ (T10.up HT.out (by (repeat (first | assumption | exact Below.refl _ _ | refine ba ?_ _ | refine bd ?_ | refine bdn ?_ _ | refine bs ?_ (by first | omega | (simp; done) | (simp; omega)) _ | refine bt ?_ (by assumption)))))).mono ?_)
  rintro e w4 ⟨rfl, hb4⟩
  have hs4 : w3.heap.size + 0 ≤ w4.heap.size := (by have h := hb4.size; first | omega | (simp at h; omega))
  have hb1_4 := bel hb1_3 hb4 (by (repeat (first | assumption | exact Below.refl _ _ | refine ba ?_ _ | refine bd ?_ | refine bdn ?_ _ | refine bs ?_ (by first | omega | (simp; done) | (simp; omega)) _ | refine bt ?_ (by assumption))))
  have hb2_4 := bel hb2_3 hb4 (by (repeat (first | assumption | exact Below.refl _ _ | refine ba ?_ _ | refine bd ?_ | refine bdn ?_ _ | refine bs ?_ (by first | omega | (simp; done) | (simp; omega)) _ | refine bt ?_ (by assumption))))
  have hb3_4 := bel hb3 hb4 (by (repeat (first | assumption | exact Below.refl _ _ | refine ba ?_ _ | refine bd ?_ | refine bdn ?_ _ | refine bs ?_ (by first | omega | (simp; done) | (simp; omega)) _ | refine bt ?_ (by assumption))))
  clear hc3 hf3
  obtain ⟨hc4, hf4, hl4⟩ := bcell hb4
  clear hl4
  go_wp2
  go_ret
  refine ⟨rfl, ?_⟩
  (repeat (first | assumption | exact Below.refl _ _ | refine ba ?_ _ | refine bd ?_ | refine bdn ?_ _ | refine bs ?_ (by first | omega | (simp; done) | (simp; omega)) _ | refine bt ?_ (by assumption)))
theorem qTv_list (n : Nat) (h : n ≤ 9007199254740992) : qTv (n : Int) = qT n := by
  unfold qTv; rw [if_pos ⟨by omega, by omega⟩]; rfl
theorem law_long (n : Int) (s : ByteArray) (h : 100 < s.size) : Pure Tryd.prog 5 #[.int .i64 n, .string s] (.bool true) := by
  intro W
  have hI : 100 < (s.size : Int) := by omega
  go_enter Tryd.func5, Tryd.ntmps5
  go_wp2
  go_ret
  refine ⟨rfl, ?_⟩
  (repeat (first | assumption | exact Below.refl _ _ | refine ba ?_ _ | refine bd ?_ | refine bdn ?_ _ | refine bs ?_ (by first | omega | (simp; done) | (simp; omega)) _ | refine bt ?_ (by assumption)))
set_option maxRecDepth 100000 in
set_option maxHeartbeats 4000000 in
theorem law_yy (n : Nat) (s : ByteArray) (hl : s.size ≤ 100) (hn : n ≤ 9007199254740992) (k : Nat) (hk : qP s.data.toList = (k, true)) : PureOn T10 Tryd.prog 5 #[.int .i64 n, .string s] (.bool true) := by
  intro W hT
  have HT := Lib.hid hT
  have hI : (s.size : Int) ≤ 100 := by omega
  have hnI : (n : Int) ≤ 9007199254740992 := by omega
  have H1 := reftext3_any (n : Int)
  rw [qTv_list n hn] at H1
  have H1 := Lib.hid H1
  have h2 := qparse_any (qT n)
  rw [qT_list, qP_qL n hn] at h2
  have H2 := Lib.hid (show PureOn T10 Tryd.prog 25 #[.string (qT n)] (.tuple #[.int .i64 (n : Int), .bool true]) from h2)
  have h3 := qparse_any s
  rw [hk] at h3
  have H3 := Lib.hid (show PureOn T10 Tryd.prog 25 #[.string s] (.tuple #[.int .i64 (k : Int), .bool true]) from h3)
  have H4 := Lib.hid (qtext_yes n hn)
  have H5 := qright_any (n : Int)
  rw [decide_eq_true ⟨by omega, by omega⟩] at H5
  have H5 := Lib.hid H5
  obtain ⟨hk1, hk2⟩ := qP_some hk
  have H6 := reftext3_any (k : Int)
  rw [qTv_list k hk1, show qT k = s by apply Go.WideShapes.bytes_inj; rw [qT_list, hk2]] at H6
  have H6 := Lib.hid H6
  clear hT h2 h3 hk hk2
  go_enter Tryd.func5, Tryd.ntmps5
  go_wp2_with fail
  (with_reducible refine (H1.out _).mono ?_)
  rintro e w1 ⟨rfl, hb1⟩
  have hs1 : W.heap.size + 0 ≤ w1.heap.size := (by have h := hb1.size; first | omega | (simp at h; omega))
  obtain ⟨hc1, hf1, hl1⟩ := bcell hb1
  clear hl1
  go_wp2_with fail
  (with_reducible refine (H2.out.app _ (T10.up HT.out (by (repeat (first | assumption | exact Below.refl _ _ | refine ba ?_ _ | refine bd ?_ | refine bdn ?_ _ | refine bs ?_ (by first | omega | (simp; done) | (simp; omega)) _ | refine bt ?_ (by assumption)))))).mono ?_)
  rintro e w2 ⟨rfl, hb2⟩
  have hs2 : w1.heap.size + 0 ≤ w2.heap.size := (by have h := hb2.size; first | omega | (simp at h; omega))
  have hb1_2 := bel hb1 hb2 (by (repeat (first | assumption | exact Below.refl _ _ | refine ba ?_ _ | refine bd ?_ | refine bdn ?_ _ | refine bs ?_ (by first | omega | (simp; done) | (simp; omega)) _ | refine bt ?_ (by assumption))))
  clear hc1 hf1
  obtain ⟨hc2, hf2, hl2⟩ := bcell hb2
  clear hl2
  go_wp2_with fail
  (with_reducible refine (H3.out.app _ (T10.up HT.out (by (repeat (first | assumption | exact Below.refl _ _ | refine ba ?_ _ | refine bd ?_ | refine bdn ?_ _ | refine bs ?_ (by first | omega | (simp; done) | (simp; omega)) _ | refine bt ?_ (by assumption)))))).mono ?_)
  rintro e w3 ⟨rfl, hb3⟩
  have hs3 : w2.heap.size + 0 ≤ w3.heap.size := (by have h := hb3.size; first | omega | (simp at h; omega))
  have hb1_3 := bel hb1_2 hb3 (by (repeat (first | assumption | exact Below.refl _ _ | refine ba ?_ _ | refine bd ?_ | refine bdn ?_ _ | refine bs ?_ (by first | omega | (simp; done) | (simp; omega)) _ | refine bt ?_ (by assumption))))
  have hb2_3 := bel hb2 hb3 (by (repeat (first | assumption | exact Below.refl _ _ | refine ba ?_ _ | refine bd ?_ | refine bdn ?_ _ | refine bs ?_ (by first | omega | (simp; done) | (simp; omega)) _ | refine bt ?_ (by assumption))))
  clear hc2 hf2
  obtain ⟨hc3, hf3, hl3⟩ := bcell hb3
  clear hl3
  go_wp2_with fail
  (with_reducible refine (H4.out.app _ (T10.up HT.out (by (repeat (first | assumption | exact Below.refl _ _ | refine ba ?_ _ | refine bd ?_ | refine bdn ?_ _ | refine bs ?_ (by first | omega | (simp; done) | (simp; omega)) _ | refine bt ?_ (by assumption)))))).mono ?_)
  rintro e w4 ⟨rfl, hb4⟩
  have hs4 : w3.heap.size + 0 ≤ w4.heap.size := (by have h := hb4.size; first | omega | (simp at h; omega))
  have hb1_4 := bel hb1_3 hb4 (by (repeat (first | assumption | exact Below.refl _ _ | refine ba ?_ _ | refine bd ?_ | refine bdn ?_ _ | refine bs ?_ (by first | omega | (simp; done) | (simp; omega)) _ | refine bt ?_ (by assumption))))
  have hb2_4 := bel hb2_3 hb4 (by (repeat (first | assumption | exact Below.refl _ _ | refine ba ?_ _ | refine bd ?_ | refine bdn ?_ _ | refine bs ?_ (by first | omega | (simp; done) | (simp; omega)) _ | refine bt ?_ (by assumption))))
  have hb3_4 := bel hb3 hb4 (by (repeat (first | assumption | exact Below.refl _ _ | refine ba ?_ _ | refine bd ?_ | refine bdn ?_ _ | refine bs ?_ (by first | omega | (simp; done) | (simp; omega)) _ | refine bt ?_ (by assumption))))
  clear hc3 hf3
  obtain ⟨hc4, hf4, hl4⟩ := bcell hb4
  clear hl4
  go_wp2_with fail
  (with_reducible refine (H1.out _).mono ?_)
  rintro e w5 ⟨rfl, hb5⟩
  have hs5 : w4.heap.size + 0 ≤ w5.heap.size := (by have h := hb5.size; first | omega | (simp at h; omega))
  have hb1_5 := bel hb1_4 hb5 (by (repeat (first | assumption | exact Below.refl _ _ | refine ba ?_ _ | refine bd ?_ | refine bdn ?_ _ | refine bs ?_ (by first | omega | (simp; done) | (simp; omega)) _ | refine bt ?_ (by assumption))))
  have hb2_5 := bel hb2_4 hb5 (by (repeat (first | assumption | exact Below.refl _ _ | refine ba ?_ _ | refine bd ?_ | refine bdn ?_ _ | refine bs ?_ (by first | omega | (simp; done) | (simp; omega)) _ | refine bt ?_ (by assumption))))
  have hb3_5 := bel hb3_4 hb5 (by (repeat (first | assumption | exact Below.refl _ _ | refine ba ?_ _ | refine bd ?_ | refine bdn ?_ _ | refine bs ?_ (by first | omega | (simp; done) | (simp; omega)) _ | refine bt ?_ (by assumption))))
  have hb4_5 := bel hb4 hb5 (by (repeat (first | assumption | exact Below.refl _ _ | refine ba ?_ _ | refine bd ?_ | refine bdn ?_ _ | refine bs ?_ (by first | omega | (simp; done) | (simp; omega)) _ | refine bt ?_ (by assumption))))
  clear hc4 hf4
  obtain ⟨hc5, hf5, hl5⟩ := bcell hb5
  clear hl5
  go_wp2_with fail
  (with_reducible refine (H5.out _).mono ?_)
  rintro e w6 ⟨rfl, hb6⟩
  have hs6 : w5.heap.size + 0 ≤ w6.heap.size := (by have h := hb6.size; first | omega | (simp at h; omega))
  have hb1_6 := bel hb1_5 hb6 (by (repeat (first | assumption | exact Below.refl _ _ | refine ba ?_ _ | refine bd ?_ | refine bdn ?_ _ | refine bs ?_ (by first | omega | (simp; done) | (simp; omega)) _ | refine bt ?_ (by assumption))))
  have hb2_6 := bel hb2_5 hb6 (by (repeat (first | assumption | exact Below.refl _ _ | refine ba ?_ _ | refine bd ?_ | refine bdn ?_ _ | refine bs ?_ (by first | omega | (simp; done) | (simp; omega)) _ | refine bt ?_ (by assumption))))
  have hb3_6 := bel hb3_5 hb6 (by (repeat (first | assumption | exact Below.refl _ _ | refine ba ?_ _ | refine bd ?_ | refine bdn ?_ _ | refine bs ?_ (by first | omega | (simp; done) | (simp; omega)) _ | refine bt ?_ (by assumption))))
  have hb4_6 := bel hb4_5 hb6 (by (repeat (first | assumption | exact Below.refl _ _ | refine ba ?_ _ | refine bd ?_ | refine bdn ?_ _ | refine bs ?_ (by first | omega | (simp; done) | (simp; omega)) _ | refine bt ?_ (by assumption))))
  have hb5_6 := bel hb5 hb6 (by (repeat (first | assumption | exact Below.refl _ _ | refine ba ?_ _ | refine bd ?_ | refine bdn ?_ _ | refine bs ?_ (by first | omega | (simp; done) | (simp; omega)) _ | refine bt ?_ (by assumption))))
  clear hc5 hf5
  obtain ⟨hc6, hf6, hl6⟩ := bcell hb6
  clear hl6
  go_wp2_with fail
  (with_reducible refine (H6.out _).mono ?_)
  rintro e w7 ⟨rfl, hb7⟩
  have hs7 : w6.heap.size + 0 ≤ w7.heap.size := (by have h := hb7.size; first | omega | (simp at h; omega))
  have hb1_7 := bel hb1_6 hb7 (by (repeat (first | assumption | exact Below.refl _ _ | refine ba ?_ _ | refine bd ?_ | refine bdn ?_ _ | refine bs ?_ (by first | omega | (simp; done) | (simp; omega)) _ | refine bt ?_ (by assumption))))
  have hb2_7 := bel hb2_6 hb7 (by (repeat (first | assumption | exact Below.refl _ _ | refine ba ?_ _ | refine bd ?_ | refine bdn ?_ _ | refine bs ?_ (by first | omega | (simp; done) | (simp; omega)) _ | refine bt ?_ (by assumption))))
  have hb3_7 := bel hb3_6 hb7 (by (repeat (first | assumption | exact Below.refl _ _ | refine ba ?_ _ | refine bd ?_ | refine bdn ?_ _ | refine bs ?_ (by first | omega | (simp; done) | (simp; omega)) _ | refine bt ?_ (by assumption))))
  have hb4_7 := bel hb4_6 hb7 (by (repeat (first | assumption | exact Below.refl _ _ | refine ba ?_ _ | refine bd ?_ | refine bdn ?_ _ | refine bs ?_ (by first | omega | (simp; done) | (simp; omega)) _ | refine bt ?_ (by assumption))))
  have hb5_7 := bel hb5_6 hb7 (by (repeat (first | assumption | exact Below.refl _ _ | refine ba ?_ _ | refine bd ?_ | refine bdn ?_ _ | refine bs ?_ (by first | omega | (simp; done) | (simp; omega)) _ | refine bt ?_ (by assumption))))
  have hb6_7 := bel hb6 hb7 (by (repeat (first | assumption | exact Below.refl _ _ | refine ba ?_ _ | refine bd ?_ | refine bdn ?_ _ | refine bs ?_ (by first | omega | (simp; done) | (simp; omega)) _ | refine bt ?_ (by assumption))))
  clear hc6 hf6
  obtain ⟨hc7, hf7, hl7⟩ := bcell hb7
  clear hl7
  go_wp2_with fail
  (with_reducible refine (works3b.app _ (T10.up HT.out (by (repeat (first | assumption | exact Below.refl _ _ | refine ba ?_ _ | refine bd ?_ | refine bdn ?_ _ | refine bs ?_ (by first | omega | (simp; done) | (simp; omega)) _ | refine bt ?_ (by assumption)))))).mono ?_)
  rintro e w8 ⟨rfl, hb8⟩
  have hs8 : w7.heap.size + 0 ≤ w8.heap.size := (by have h := hb8.size; first | omega | (simp at h; omega))
  have hb1_8 := bel hb1_7 hb8 (by (repeat (first | assumption | exact Below.refl _ _ | refine ba ?_ _ | refine bd ?_ | refine bdn ?_ _ | refine bs ?_ (by first | omega | (simp; done) | (simp; omega)) _ | refine bt ?_ (by assumption))))
  have hb2_8 := bel hb2_7 hb8 (by (repeat (first | assumption | exact Below.refl _ _ | refine ba ?_ _ | refine bd ?_ | refine bdn ?_ _ | refine bs ?_ (by first | omega | (simp; done) | (simp; omega)) _ | refine bt ?_ (by assumption))))
  have hb3_8 := bel hb3_7 hb8 (by (repeat (first | assumption | exact Below.refl _ _ | refine ba ?_ _ | refine bd ?_ | refine bdn ?_ _ | refine bs ?_ (by first | omega | (simp; done) | (simp; omega)) _ | refine bt ?_ (by assumption))))
  have hb4_8 := bel hb4_7 hb8 (by (repeat (first | assumption | exact Below.refl _ _ | refine ba ?_ _ | refine bd ?_ | refine bdn ?_ _ | refine bs ?_ (by first | omega | (simp; done) | (simp; omega)) _ | refine bt ?_ (by assumption))))
  have hb5_8 := bel hb5_7 hb8 (by (repeat (first | assumption | exact Below.refl _ _ | refine ba ?_ _ | refine bd ?_ | refine bdn ?_ _ | refine bs ?_ (by first | omega | (simp; done) | (simp; omega)) _ | refine bt ?_ (by assumption))))
  have hb6_8 := bel hb6_7 hb8 (by (repeat (first | assumption | exact Below.refl _ _ | refine ba ?_ _ | refine bd ?_ | refine bdn ?_ _ | refine bs ?_ (by first | omega | (simp; done) | (simp; omega)) _ | refine bt ?_ (by assumption))))
  have hb7_8 := bel hb7 hb8 (by (repeat (first | assumption | exact Below.refl _ _ | refine ba ?_ _ | refine bd ?_ | refine bdn ?_ _ | refine bs ?_ (by first | omega | (simp; done) | (simp; omega)) _ | refine bt ?_ (by assumption))))
  clear hc7 hf7
  obtain ⟨hc8, hf8, hl8⟩ := bcell hb8
  clear hl8
  go_wp2
  go_ret
  refine ⟨rfl, ?_⟩
  (repeat (first | assumption | exact Below.refl _ _ | refine ba ?_ _ | refine bd ?_ | refine bdn ?_ _ | refine bs ?_ (by first | omega | (simp; done) | (simp; omega)) _ | refine bt ?_ (by assumption)))
set_option maxRecDepth 100000 in
set_option maxHeartbeats 4000000 in
theorem law_yn (n : Nat) (s : ByteArray) (hl : s.size ≤ 100) (hn : n ≤ 9007199254740992) (hk : qP s.data.toList = (0, false)) : PureOn T10 Tryd.prog 5 #[.int .i64 n, .string s] (.bool true) := by
  intro W hT
  have HT := Lib.hid hT
  have hI : (s.size : Int) ≤ 100 := by omega
  have hnI : (n : Int) ≤ 9007199254740992 := by omega
  have H1 := reftext3_any (n : Int)
  rw [qTv_list n hn] at H1
  have H1 := Lib.hid H1
  have h2 := qparse_any (qT n)
  rw [qT_list, qP_qL n hn] at h2
  have H2 := Lib.hid (show PureOn T10 Tryd.prog 25 #[.string (qT n)] (.tuple #[.int .i64 (n : Int), .bool true]) from h2)
  have h3 := qparse_any s
  rw [hk] at h3
  have H3 := Lib.hid (show PureOn T10 Tryd.prog 25 #[.string s] (.tuple #[.int .i64 0, .bool false]) from h3)
  have H4 := Lib.hid (qtext_yes n hn)
  have H5 := qright_any (n : Int)
  rw [decide_eq_true ⟨by omega, by omega⟩] at H5
  have H5 := Lib.hid H5
  clear hT h2 h3 hk
  go_enter Tryd.func5, Tryd.ntmps5
  go_wp2_with fail
  (with_reducible refine (H1.out _).mono ?_)
  rintro e w1 ⟨rfl, hb1⟩
  have hs1 : W.heap.size + 0 ≤ w1.heap.size := (by have h := hb1.size; first | omega | (simp at h; omega))
  obtain ⟨hc1, hf1, hl1⟩ := bcell hb1
  clear hl1
  go_wp2_with fail
  (with_reducible refine (H2.out.app _ (T10.up HT.out (by (repeat (first | assumption | exact Below.refl _ _ | refine ba ?_ _ | refine bd ?_ | refine bdn ?_ _ | refine bs ?_ (by first | omega | (simp; done) | (simp; omega)) _ | refine bt ?_ (by assumption)))))).mono ?_)
  rintro e w2 ⟨rfl, hb2⟩
  have hs2 : w1.heap.size + 0 ≤ w2.heap.size := (by have h := hb2.size; first | omega | (simp at h; omega))
  have hb1_2 := bel hb1 hb2 (by (repeat (first | assumption | exact Below.refl _ _ | refine ba ?_ _ | refine bd ?_ | refine bdn ?_ _ | refine bs ?_ (by first | omega | (simp; done) | (simp; omega)) _ | refine bt ?_ (by assumption))))
  clear hc1 hf1
  obtain ⟨hc2, hf2, hl2⟩ := bcell hb2
  clear hl2
  go_wp2_with fail
  (with_reducible refine (H3.out.app _ (T10.up HT.out (by (repeat (first | assumption | exact Below.refl _ _ | refine ba ?_ _ | refine bd ?_ | refine bdn ?_ _ | refine bs ?_ (by first | omega | (simp; done) | (simp; omega)) _ | refine bt ?_ (by assumption)))))).mono ?_)
  rintro e w3 ⟨rfl, hb3⟩
  have hs3 : w2.heap.size + 0 ≤ w3.heap.size := (by have h := hb3.size; first | omega | (simp at h; omega))
  have hb1_3 := bel hb1_2 hb3 (by (repeat (first | assumption | exact Below.refl _ _ | refine ba ?_ _ | refine bd ?_ | refine bdn ?_ _ | refine bs ?_ (by first | omega | (simp; done) | (simp; omega)) _ | refine bt ?_ (by assumption))))
  have hb2_3 := bel hb2 hb3 (by (repeat (first | assumption | exact Below.refl _ _ | refine ba ?_ _ | refine bd ?_ | refine bdn ?_ _ | refine bs ?_ (by first | omega | (simp; done) | (simp; omega)) _ | refine bt ?_ (by assumption))))
  clear hc2 hf2
  obtain ⟨hc3, hf3, hl3⟩ := bcell hb3
  clear hl3
  go_wp2_with fail
  (with_reducible refine (H4.out.app _ (T10.up HT.out (by (repeat (first | assumption | exact Below.refl _ _ | refine ba ?_ _ | refine bd ?_ | refine bdn ?_ _ | refine bs ?_ (by first | omega | (simp; done) | (simp; omega)) _ | refine bt ?_ (by assumption)))))).mono ?_)
  rintro e w4 ⟨rfl, hb4⟩
  have hs4 : w3.heap.size + 0 ≤ w4.heap.size := (by have h := hb4.size; first | omega | (simp at h; omega))
  have hb1_4 := bel hb1_3 hb4 (by (repeat (first | assumption | exact Below.refl _ _ | refine ba ?_ _ | refine bd ?_ | refine bdn ?_ _ | refine bs ?_ (by first | omega | (simp; done) | (simp; omega)) _ | refine bt ?_ (by assumption))))
  have hb2_4 := bel hb2_3 hb4 (by (repeat (first | assumption | exact Below.refl _ _ | refine ba ?_ _ | refine bd ?_ | refine bdn ?_ _ | refine bs ?_ (by first | omega | (simp; done) | (simp; omega)) _ | refine bt ?_ (by assumption))))
  have hb3_4 := bel hb3 hb4 (by (repeat (first | assumption | exact Below.refl _ _ | refine ba ?_ _ | refine bd ?_ | refine bdn ?_ _ | refine bs ?_ (by first | omega | (simp; done) | (simp; omega)) _ | refine bt ?_ (by assumption))))
  clear hc3 hf3
  obtain ⟨hc4, hf4, hl4⟩ := bcell hb4
  clear hl4
  go_wp2_with fail
  (with_reducible refine (H1.out _).mono ?_)
  rintro e w5 ⟨rfl, hb5⟩
  have hs5 : w4.heap.size + 0 ≤ w5.heap.size := (by have h := hb5.size; first | omega | (simp at h; omega))
  have hb1_5 := bel hb1_4 hb5 (by (repeat (first | assumption | exact Below.refl _ _ | refine ba ?_ _ | refine bd ?_ | refine bdn ?_ _ | refine bs ?_ (by first | omega | (simp; done) | (simp; omega)) _ | refine bt ?_ (by assumption))))
  have hb2_5 := bel hb2_4 hb5 (by (repeat (first | assumption | exact Below.refl _ _ | refine ba ?_ _ | refine bd ?_ | refine bdn ?_ _ | refine bs ?_ (by first | omega | (simp; done) | (simp; omega)) _ | refine bt ?_ (by assumption))))
  have hb3_5 := bel hb3_4 hb5 (by (repeat (first | assumption | exact Below.refl _ _ | refine ba ?_ _ | refine bd ?_ | refine bdn ?_ _ | refine bs ?_ (by first | omega | (simp; done) | (simp; omega)) _ | refine bt ?_ (by assumption))))
  have hb4_5 := bel hb4 hb5 (by (repeat (first | assumption | exact Below.refl _ _ | refine ba ?_ _ | refine bd ?_ | refine bdn ?_ _ | refine bs ?_ (by first | omega | (simp; done) | (simp; omega)) _ | refine bt ?_ (by assumption))))
  clear hc4 hf4
  obtain ⟨hc5, hf5, hl5⟩ := bcell hb5
  clear hl5
  go_wp2_with fail
  (with_reducible refine (H5.out _).mono ?_)
  rintro e w6 ⟨rfl, hb6⟩
  have hs6 : w5.heap.size + 0 ≤ w6.heap.size := (by have h := hb6.size; first | omega | (simp at h; omega))
  have hb1_6 := bel hb1_5 hb6 (by (repeat (first | assumption | exact Below.refl _ _ | refine ba ?_ _ | refine bd ?_ | refine bdn ?_ _ | refine bs ?_ (by first | omega | (simp; done) | (simp; omega)) _ | refine bt ?_ (by assumption))))
  have hb2_6 := bel hb2_5 hb6 (by (repeat (first | assumption | exact Below.refl _ _ | refine ba ?_ _ | refine bd ?_ | refine bdn ?_ _ | refine bs ?_ (by first | omega | (simp; done) | (simp; omega)) _ | refine bt ?_ (by assumption))))
  have hb3_6 := bel hb3_5 hb6 (by (repeat (first | assumption | exact Below.refl _ _ | refine ba ?_ _ | refine bd ?_ | refine bdn ?_ _ | refine bs ?_ (by first | omega | (simp; done) | (simp; omega)) _ | refine bt ?_ (by assumption))))
  have hb4_6 := bel hb4_5 hb6 (by (repeat (first | assumption | exact Below.refl _ _ | refine ba ?_ _ | refine bd ?_ | refine bdn ?_ _ | refine bs ?_ (by first | omega | (simp; done) | (simp; omega)) _ | refine bt ?_ (by assumption))))
  have hb5_6 := bel hb5 hb6 (by (repeat (first | assumption | exact Below.refl _ _ | refine ba ?_ _ | refine bd ?_ | refine bdn ?_ _ | refine bs ?_ (by first | omega | (simp; done) | (simp; omega)) _ | refine bt ?_ (by assumption))))
  clear hc5 hf5
  obtain ⟨hc6, hf6, hl6⟩ := bcell hb6
  clear hl6
  go_wp2_with fail
  (with_reducible refine (works3b.app _ (T10.up HT.out (by (repeat (first | assumption | exact Below.refl _ _ | refine ba ?_ _ | refine bd ?_ | refine bdn ?_ _ | refine bs ?_ (by first | omega | (simp; done) | (simp; omega)) _ | refine bt ?_ (by assumption)))))).mono ?_)
  rintro e w7 ⟨rfl, hb7⟩
  have hs7 : w6.heap.size + 0 ≤ w7.heap.size := (by have h := hb7.size; first | omega | (simp at h; omega))
  have hb1_7 := bel hb1_6 hb7 (by (repeat (first | assumption | exact Below.refl _ _ | refine ba ?_ _ | refine bd ?_ | refine bdn ?_ _ | refine bs ?_ (by first | omega | (simp; done) | (simp; omega)) _ | refine bt ?_ (by assumption))))
  have hb2_7 := bel hb2_6 hb7 (by (repeat (first | assumption | exact Below.refl _ _ | refine ba ?_ _ | refine bd ?_ | refine bdn ?_ _ | refine bs ?_ (by first | omega | (simp; done) | (simp; omega)) _ | refine bt ?_ (by assumption))))
  have hb3_7 := bel hb3_6 hb7 (by (repeat (first | assumption | exact Below.refl _ _ | refine ba ?_ _ | refine bd ?_ | refine bdn ?_ _ | refine bs ?_ (by first | omega | (simp; done) | (simp; omega)) _ | refine bt ?_ (by assumption))))
  have hb4_7 := bel hb4_6 hb7 (by (repeat (first | assumption | exact Below.refl _ _ | refine ba ?_ _ | refine bd ?_ | refine bdn ?_ _ | refine bs ?_ (by first | omega | (simp; done) | (simp; omega)) _ | refine bt ?_ (by assumption))))
  have hb5_7 := bel hb5_6 hb7 (by (repeat (first | assumption | exact Below.refl _ _ | refine ba ?_ _ | refine bd ?_ | refine bdn ?_ _ | refine bs ?_ (by first | omega | (simp; done) | (simp; omega)) _ | refine bt ?_ (by assumption))))
  have hb6_7 := bel hb6 hb7 (by (repeat (first | assumption | exact Below.refl _ _ | refine ba ?_ _ | refine bd ?_ | refine bdn ?_ _ | refine bs ?_ (by first | omega | (simp; done) | (simp; omega)) _ | refine bt ?_ (by assumption))))
  clear hc6 hf6
  obtain ⟨hc7, hf7, hl7⟩ := bcell hb7
  clear hl7
  go_wp2
  go_ret
  refine ⟨rfl, ?_⟩
  (repeat (first | assumption | exact Below.refl _ _ | refine ba ?_ _ | refine bd ?_ | refine bdn ?_ _ | refine bs ?_ (by first | omega | (simp; done) | (simp; omega)) _ | refine bt ?_ (by assumption)))
set_option maxRecDepth 100000 in
set_option maxHeartbeats 4000000 in
theorem law_ny (n : Int) (s : ByteArray) (hl : s.size ≤ 100) (hn : n < 0) (k : Nat) (hk : qP s.data.toList = (k, true)) : PureOn T10 Tryd.prog 5 #[.int .i64 n, .string s] (.bool true) := by
  intro W hT
  have HT := Lib.hid hT
  have hI : (s.size : Int) ≤ 100 := by omega
  have H1 := reftext3_any n
  have hq : ¬ (0 ≤ n ∧ n ≤ 9007199254740992) := by omega
  rw [show qTv n = ⟨#[]⟩ from if_neg hq] at H1
  have H1 := Lib.hid H1
  have h2 := qparse_any ⟨#[]⟩
  rw [show (⟨#[]⟩ : ByteArray).data.toList = [] from rfl, qP_nil] at h2
  have H2 := Lib.hid (show PureOn T10 Tryd.prog 25 #[.string ⟨#[]⟩] (.tuple #[.int .i64 0, .bool false]) from h2)
  have h3 := qparse_any s
  rw [hk] at h3
  have H3 := Lib.hid (show PureOn T10 Tryd.prog 25 #[.string s] (.tuple #[.int .i64 (k : Int), .bool true]) from h3)
  have H4 := Lib.hid ((qtext_no n hq).on T10)
  have H5 := qright_any n
  rw [decide_eq_false hq] at H5
  have H5 := Lib.hid H5
  obtain ⟨hk1, hk2⟩ := qP_some hk
  have H6 := reftext3_any (k : Int)
  rw [qTv_list k hk1, show qT k = s by apply Go.WideShapes.bytes_inj; rw [qT_list, hk2]] at H6
  have H6 := Lib.hid H6
  clear hq hT h2 h3 hk hk2
  go_enter Tryd.func5, Tryd.ntmps5
  go_wp2_with fail
  (with_reducible refine (H1.out _).mono ?_)
  rintro e w1 ⟨rfl, hb1⟩
  have hs1 : W.heap.size + 0 ≤ w1.heap.size := (by have h := hb1.size; first | omega | (simp at h; omega))
  obtain ⟨hc1, hf1, hl1⟩ := bcell hb1
  clear hl1
  go_wp2_with fail
  (with_reducible refine (H2.out.app _ (T10.up HT.out (by (repeat (first | assumption | exact Below.refl _ _ | refine ba ?_ _ | refine bd ?_ | refine bdn ?_ _ | refine bs ?_ (by first | omega | (simp; done) | (simp; omega)) _ | refine bt ?_ (by assumption)))))).mono ?_)
  rintro e w2 ⟨rfl, hb2⟩
  have hs2 : w1.heap.size + 0 ≤ w2.heap.size := (by have h := hb2.size; first | omega | (simp at h; omega))
  have hb1_2 := bel hb1 hb2 (by (repeat (first | assumption | exact Below.refl _ _ | refine ba ?_ _ | refine bd ?_ | refine bdn ?_ _ | refine bs ?_ (by first | omega | (simp; done) | (simp; omega)) _ | refine bt ?_ (by assumption))))
  clear hc1 hf1
  obtain ⟨hc2, hf2, hl2⟩ := bcell hb2
  clear hl2
  go_wp2_with fail
  (with_reducible refine (H3.out.app _ (T10.up HT.out (by (repeat (first | assumption | exact Below.refl _ _ | refine ba ?_ _ | refine bd ?_ | refine bdn ?_ _ | refine bs ?_ (by first | omega | (simp; done) | (simp; omega)) _ | refine bt ?_ (by assumption)))))).mono ?_)
  rintro e w3 ⟨rfl, hb3⟩
  have hs3 : w2.heap.size + 0 ≤ w3.heap.size := (by have h := hb3.size; first | omega | (simp at h; omega))
  have hb1_3 := bel hb1_2 hb3 (by (repeat (first | assumption | exact Below.refl _ _ | refine ba ?_ _ | refine bd ?_ | refine bdn ?_ _ | refine bs ?_ (by first | omega | (simp; done) | (simp; omega)) _ | refine bt ?_ (by assumption))))
  have hb2_3 := bel hb2 hb3 (by (repeat (first | assumption | exact Below.refl _ _ | refine ba ?_ _ | refine bd ?_ | refine bdn ?_ _ | refine bs ?_ (by first | omega | (simp; done) | (simp; omega)) _ | refine bt ?_ (by assumption))))
  clear hc2 hf2
  obtain ⟨hc3, hf3, hl3⟩ := bcell hb3
  clear hl3
  go_wp2_with fail
  (with_reducible refine (H4.out.app _ (T10.up HT.out (by (repeat (first | assumption | exact Below.refl _ _ | refine ba ?_ _ | refine bd ?_ | refine bdn ?_ _ | refine bs ?_ (by first | omega | (simp; done) | (simp; omega)) _ | refine bt ?_ (by assumption)))))).mono ?_)
  rintro e w4 ⟨rfl, hb4⟩
  have hs4 : w3.heap.size + 0 ≤ w4.heap.size := (by have h := hb4.size; first | omega | (simp at h; omega))
  have hb1_4 := bel hb1_3 hb4 (by (repeat (first | assumption | exact Below.refl _ _ | refine ba ?_ _ | refine bd ?_ | refine bdn ?_ _ | refine bs ?_ (by first | omega | (simp; done) | (simp; omega)) _ | refine bt ?_ (by assumption))))
  have hb2_4 := bel hb2_3 hb4 (by (repeat (first | assumption | exact Below.refl _ _ | refine ba ?_ _ | refine bd ?_ | refine bdn ?_ _ | refine bs ?_ (by first | omega | (simp; done) | (simp; omega)) _ | refine bt ?_ (by assumption))))
  have hb3_4 := bel hb3 hb4 (by (repeat (first | assumption | exact Below.refl _ _ | refine ba ?_ _ | refine bd ?_ | refine bdn ?_ _ | refine bs ?_ (by first | omega | (simp; done) | (simp; omega)) _ | refine bt ?_ (by assumption))))
  clear hc3 hf3
  obtain ⟨hc4, hf4, hl4⟩ := bcell hb4
  clear hl4
  go_wp2_with fail
  (with_reducible refine (H1.out _).mono ?_)
  rintro e w5 ⟨rfl, hb5⟩
  have hs5 : w4.heap.size + 0 ≤ w5.heap.size := (by have h := hb5.size; first | omega | (simp at h; omega))
  have hb1_5 := bel hb1_4 hb5 (by (repeat (first | assumption | exact Below.refl _ _ | refine ba ?_ _ | refine bd ?_ | refine bdn ?_ _ | refine bs ?_ (by first | omega | (simp; done) | (simp; omega)) _ | refine bt ?_ (by assumption))))
  have hb2_5 := bel hb2_4 hb5 (by (repeat (first | assumption | exact Below.refl _ _ | refine ba ?_ _ | refine bd ?_ | refine bdn ?_ _ | refine bs ?_ (by first | omega | (simp; done) | (simp; omega)) _ | refine bt ?_ (by assumption))))
  have hb3_5 := bel hb3_4 hb5 (by (repeat (first | assumption | exact Below.refl _ _ | refine ba ?_ _ | refine bd ?_ | refine bdn ?_ _ | refine bs ?_ (by first | omega | (simp; done) | (simp; omega)) _ | refine bt ?_ (by assumption))))
  have hb4_5 := bel hb4 hb5 (by (repeat (first | assumption | exact Below.refl _ _ | refine ba ?_ _ | refine bd ?_ | refine bdn ?_ _ | refine bs ?_ (by first | omega | (simp; done) | (simp; omega)) _ | refine bt ?_ (by assumption))))
  clear hc4 hf4
  obtain ⟨hc5, hf5, hl5⟩ := bcell hb5
  clear hl5
  go_wp2_with fail
  (with_reducible refine (H5.out _).mono ?_)
  rintro e w6 ⟨rfl, hb6⟩
  have hs6 : w5.heap.size + 0 ≤ w6.heap.size := (by have h := hb6.size; first | omega | (simp at h; omega))
  have hb1_6 := bel hb1_5 hb6 (by (repeat (first | assumption | exact Below.refl _ _ | refine ba ?_ _ | refine bd ?_ | refine bdn ?_ _ | refine bs ?_ (by first | omega | (simp; done) | (simp; omega)) _ | refine bt ?_ (by assumption))))
  have hb2_6 := bel hb2_5 hb6 (by (repeat (first | assumption | exact Below.refl _ _ | refine ba ?_ _ | refine bd ?_ | refine bdn ?_ _ | refine bs ?_ (by first | omega | (simp; done) | (simp; omega)) _ | refine bt ?_ (by assumption))))
  have hb3_6 := bel hb3_5 hb6 (by (repeat (first | assumption | exact Below.refl _ _ | refine ba ?_ _ | refine bd ?_ | refine bdn ?_ _ | refine bs ?_ (by first | omega | (simp; done) | (simp; omega)) _ | refine bt ?_ (by assumption))))
  have hb4_6 := bel hb4_5 hb6 (by (repeat (first | assumption | exact Below.refl _ _ | refine ba ?_ _ | refine bd ?_ | refine bdn ?_ _ | refine bs ?_ (by first | omega | (simp; done) | (simp; omega)) _ | refine bt ?_ (by assumption))))
  have hb5_6 := bel hb5 hb6 (by (repeat (first | assumption | exact Below.refl _ _ | refine ba ?_ _ | refine bd ?_ | refine bdn ?_ _ | refine bs ?_ (by first | omega | (simp; done) | (simp; omega)) _ | refine bt ?_ (by assumption))))
  clear hc5 hf5
  obtain ⟨hc6, hf6, hl6⟩ := bcell hb6
  clear hl6
  go_wp2_with fail
  (with_reducible refine (H6.out _).mono ?_)
  rintro e w7 ⟨rfl, hb7⟩
  have hs7 : w6.heap.size + 0 ≤ w7.heap.size := (by have h := hb7.size; first | omega | (simp at h; omega))
  have hb1_7 := bel hb1_6 hb7 (by (repeat (first | assumption | exact Below.refl _ _ | refine ba ?_ _ | refine bd ?_ | refine bdn ?_ _ | refine bs ?_ (by first | omega | (simp; done) | (simp; omega)) _ | refine bt ?_ (by assumption))))
  have hb2_7 := bel hb2_6 hb7 (by (repeat (first | assumption | exact Below.refl _ _ | refine ba ?_ _ | refine bd ?_ | refine bdn ?_ _ | refine bs ?_ (by first | omega | (simp; done) | (simp; omega)) _ | refine bt ?_ (by assumption))))
  have hb3_7 := bel hb3_6 hb7 (by (repeat (first | assumption | exact Below.refl _ _ | refine ba ?_ _ | refine bd ?_ | refine bdn ?_ _ | refine bs ?_ (by first | omega | (simp; done) | (simp; omega)) _ | refine bt ?_ (by assumption))))
  have hb4_7 := bel hb4_6 hb7 (by (repeat (first | assumption | exact Below.refl _ _ | refine ba ?_ _ | refine bd ?_ | refine bdn ?_ _ | refine bs ?_ (by first | omega | (simp; done) | (simp; omega)) _ | refine bt ?_ (by assumption))))
  have hb5_7 := bel hb5_6 hb7 (by (repeat (first | assumption | exact Below.refl _ _ | refine ba ?_ _ | refine bd ?_ | refine bdn ?_ _ | refine bs ?_ (by first | omega | (simp; done) | (simp; omega)) _ | refine bt ?_ (by assumption))))
  have hb6_7 := bel hb6 hb7 (by (repeat (first | assumption | exact Below.refl _ _ | refine ba ?_ _ | refine bd ?_ | refine bdn ?_ _ | refine bs ?_ (by first | omega | (simp; done) | (simp; omega)) _ | refine bt ?_ (by assumption))))
  clear hc6 hf6
  obtain ⟨hc7, hf7, hl7⟩ := bcell hb7
  clear hl7
  go_wp2_with fail
  (with_reducible refine (works3b.app _ (T10.up HT.out (by (repeat (first | assumption | exact Below.refl _ _ | refine ba ?_ _ | refine bd ?_ | refine bdn ?_ _ | refine bs ?_ (by first | omega | (simp; done) | (simp; omega)) _ | refine bt ?_ (by assumption)))))).mono ?_)
  rintro e w8 ⟨rfl, hb8⟩
  have hs8 : w7.heap.size + 0 ≤ w8.heap.size := (by have h := hb8.size; first | omega | (simp at h; omega))
  have hb1_8 := bel hb1_7 hb8 (by (repeat (first | assumption | exact Below.refl _ _ | refine ba ?_ _ | refine bd ?_ | refine bdn ?_ _ | refine bs ?_ (by first | omega | (simp; done) | (simp; omega)) _ | refine bt ?_ (by assumption))))
  have hb2_8 := bel hb2_7 hb8 (by (repeat (first | assumption | exact Below.refl _ _ | refine ba ?_ _ | refine bd ?_ | refine bdn ?_ _ | refine bs ?_ (by first | omega | (simp; done) | (simp; omega)) _ | refine bt ?_ (by assumption))))
  have hb3_8 := bel hb3_7 hb8 (by (repeat (first | assumption | exact Below.refl _ _ | refine ba ?_ _ | refine bd ?_ | refine bdn ?_ _ | refine bs ?_ (by first | omega | (simp; done) | (simp; omega)) _ | refine bt ?_ (by assumption))))
  have hb4_8 := bel hb4_7 hb8 (by (repeat (first | assumption | exact Below.refl _ _ | refine ba ?_ _ | refine bd ?_ | refine bdn ?_ _ | refine bs ?_ (by first | omega | (simp; done) | (simp; omega)) _ | refine bt ?_ (by assumption))))
  have hb5_8 := bel hb5_7 hb8 (by (repeat (first | assumption | exact Below.refl _ _ | refine ba ?_ _ | refine bd ?_ | refine bdn ?_ _ | refine bs ?_ (by first | omega | (simp; done) | (simp; omega)) _ | refine bt ?_ (by assumption))))
  have hb6_8 := bel hb6_7 hb8 (by (repeat (first | assumption | exact Below.refl _ _ | refine ba ?_ _ | refine bd ?_ | refine bdn ?_ _ | refine bs ?_ (by first | omega | (simp; done) | (simp; omega)) _ | refine bt ?_ (by assumption))))
  have hb7_8 := bel hb7 hb8 (by (repeat (first | assumption | exact Below.refl _ _ | refine ba ?_ _ | refine bd ?_ | refine bdn ?_ _ | refine bs ?_ (by first | omega | (simp; done) | (simp; omega)) _ | refine bt ?_ (by assumption))))
  clear hc7 hf7
  obtain ⟨hc8, hf8, hl8⟩ := bcell hb8
  clear hl8
  go_wp2
  go_ret
  refine ⟨rfl, ?_⟩
  (repeat (first | assumption | exact Below.refl _ _ | refine ba ?_ _ | refine bd ?_ | refine bdn ?_ _ | refine bs ?_ (by first | omega | (simp; done) | (simp; omega)) _ | refine bt ?_ (by assumption)))
set_option maxRecDepth 100000 in
set_option maxHeartbeats 4000000 in
theorem law_nn (n : Int) (s : ByteArray) (hl : s.size ≤ 100) (hn : n < 0) (hk : qP s.data.toList = (0, false)) : PureOn T10 Tryd.prog 5 #[.int .i64 n, .string s] (.bool true) := by
  intro W hT
  have HT := Lib.hid hT
  have hI : (s.size : Int) ≤ 100 := by omega
  have H1 := reftext3_any n
  have hq : ¬ (0 ≤ n ∧ n ≤ 9007199254740992) := by omega
  rw [show qTv n = ⟨#[]⟩ from if_neg hq] at H1
  have H1 := Lib.hid H1
  have h2 := qparse_any ⟨#[]⟩
  rw [show (⟨#[]⟩ : ByteArray).data.toList = [] from rfl, qP_nil] at h2
  have H2 := Lib.hid (show PureOn T10 Tryd.prog 25 #[.string ⟨#[]⟩] (.tuple #[.int .i64 0, .bool false]) from h2)
  have h3 := qparse_any s
  rw [hk] at h3
  have H3 := Lib.hid (show PureOn T10 Tryd.prog 25 #[.string s] (.tuple #[.int .i64 0, .bool false]) from h3)
  have H4 := Lib.hid ((qtext_no n hq).on T10)
  have H5 := qright_any n
  rw [decide_eq_false hq] at H5
  have H5 := Lib.hid H5
  clear hq hT h2 h3 hk
  go_enter Tryd.func5, Tryd.ntmps5
  go_wp2_with fail
  (with_reducible refine (H1.out _).mono ?_)
  rintro e w1 ⟨rfl, hb1⟩
  have hs1 : W.heap.size + 0 ≤ w1.heap.size := (by have h := hb1.size; first | omega | (simp at h; omega))
  obtain ⟨hc1, hf1, hl1⟩ := bcell hb1
  clear hl1
  go_wp2_with fail
  (with_reducible refine (H2.out.app _ (T10.up HT.out (by (repeat (first | assumption | exact Below.refl _ _ | refine ba ?_ _ | refine bd ?_ | refine bdn ?_ _ | refine bs ?_ (by first | omega | (simp; done) | (simp; omega)) _ | refine bt ?_ (by assumption)))))).mono ?_)
  rintro e w2 ⟨rfl, hb2⟩
  have hs2 : w1.heap.size + 0 ≤ w2.heap.size := (by have h := hb2.size; first | omega | (simp at h; omega))
  have hb1_2 := bel hb1 hb2 (by (repeat (first | assumption | exact Below.refl _ _ | refine ba ?_ _ | refine bd ?_ | refine bdn ?_ _ | refine bs ?_ (by first | omega | (simp; done) | (simp; omega)) _ | refine bt ?_ (by assumption))))
  clear hc1 hf1
  obtain ⟨hc2, hf2, hl2⟩ := bcell hb2
  clear hl2
  go_wp2_with fail
  (with_reducible refine (H3.out.app _ (T10.up HT.out (by (repeat (first | assumption | exact Below.refl _ _ | refine ba ?_ _ | refine bd ?_ | refine bdn ?_ _ | refine bs ?_ (by first | omega | (simp; done) | (simp; omega)) _ | refine bt ?_ (by assumption)))))).mono ?_)
  rintro e w3 ⟨rfl, hb3⟩
  have hs3 : w2.heap.size + 0 ≤ w3.heap.size := (by have h := hb3.size; first | omega | (simp at h; omega))
  have hb1_3 := bel hb1_2 hb3 (by (repeat (first | assumption | exact Below.refl _ _ | refine ba ?_ _ | refine bd ?_ | refine bdn ?_ _ | refine bs ?_ (by first | omega | (simp; done) | (simp; omega)) _ | refine bt ?_ (by assumption))))
  have hb2_3 := bel hb2 hb3 (by (repeat (first | assumption | exact Below.refl _ _ | refine ba ?_ _ | refine bd ?_ | refine bdn ?_ _ | refine bs ?_ (by first | omega | (simp; done) | (simp; omega)) _ | refine bt ?_ (by assumption))))
  clear hc2 hf2
  obtain ⟨hc3, hf3, hl3⟩ := bcell hb3
  clear hl3
  go_wp2_with fail
  (with_reducible refine (H4.out.app _ (T10.up HT.out (by (repeat (first | assumption | exact Below.refl _ _ | refine ba ?_ _ | refine bd ?_ | refine bdn ?_ _ | refine bs ?_ (by first | omega | (simp; done) | (simp; omega)) _ | refine bt ?_ (by assumption)))))).mono ?_)
  rintro e w4 ⟨rfl, hb4⟩
  have hs4 : w3.heap.size + 0 ≤ w4.heap.size := (by have h := hb4.size; first | omega | (simp at h; omega))
  have hb1_4 := bel hb1_3 hb4 (by (repeat (first | assumption | exact Below.refl _ _ | refine ba ?_ _ | refine bd ?_ | refine bdn ?_ _ | refine bs ?_ (by first | omega | (simp; done) | (simp; omega)) _ | refine bt ?_ (by assumption))))
  have hb2_4 := bel hb2_3 hb4 (by (repeat (first | assumption | exact Below.refl _ _ | refine ba ?_ _ | refine bd ?_ | refine bdn ?_ _ | refine bs ?_ (by first | omega | (simp; done) | (simp; omega)) _ | refine bt ?_ (by assumption))))
  have hb3_4 := bel hb3 hb4 (by (repeat (first | assumption | exact Below.refl _ _ | refine ba ?_ _ | refine bd ?_ | refine bdn ?_ _ | refine bs ?_ (by first | omega | (simp; done) | (simp; omega)) _ | refine bt ?_ (by assumption))))
  clear hc3 hf3
  obtain ⟨hc4, hf4, hl4⟩ := bcell hb4
  clear hl4
  go_wp2_with fail
  (with_reducible refine (H1.out _).mono ?_)
  rintro e w5 ⟨rfl, hb5⟩
  have hs5 : w4.heap.size + 0 ≤ w5.heap.size := (by have h := hb5.size; first | omega | (simp at h; omega))
  have hb1_5 := bel hb1_4 hb5 (by (repeat (first | assumption | exact Below.refl _ _ | refine ba ?_ _ | refine bd ?_ | refine bdn ?_ _ | refine bs ?_ (by first | omega | (simp; done) | (simp; omega)) _ | refine bt ?_ (by assumption))))
  have hb2_5 := bel hb2_4 hb5 (by (repeat (first | assumption | exact Below.refl _ _ | refine ba ?_ _ | refine bd ?_ | refine bdn ?_ _ | refine bs ?_ (by first | omega | (simp; done) | (simp; omega)) _ | refine bt ?_ (by assumption))))
  have hb3_5 := bel hb3_4 hb5 (by (repeat (first | assumption | exact Below.refl _ _ | refine ba ?_ _ | refine bd ?_ | refine bdn ?_ _ | refine bs ?_ (by first | omega | (simp; done) | (simp; omega)) _ | refine bt ?_ (by assumption))))
  have hb4_5 := bel hb4 hb5 (by (repeat (first | assumption | exact Below.refl _ _ | refine ba ?_ _ | refine bd ?_ | refine bdn ?_ _ | refine bs ?_ (by first | omega | (simp; done) | (simp; omega)) _ | refine bt ?_ (by assumption))))
  clear hc4 hf4
  obtain ⟨hc5, hf5, hl5⟩ := bcell hb5
  clear hl5
  go_wp2_with fail
  (with_reducible refine (H5.out _).mono ?_)
  rintro e w6 ⟨rfl, hb6⟩
  have hs6 : w5.heap.size + 0 ≤ w6.heap.size := (by have h := hb6.size; first | omega | (simp at h; omega))
  have hb1_6 := bel hb1_5 hb6 (by (repeat (first | assumption | exact Below.refl _ _ | refine ba ?_ _ | refine bd ?_ | refine bdn ?_ _ | refine bs ?_ (by first | omega | (simp; done) | (simp; omega)) _ | refine bt ?_ (by assumption))))
  have hb2_6 := bel hb2_5 hb6 (by (repeat (first | assumption | exact Below.refl _ _ | refine ba ?_ _ | refine bd ?_ | refine bdn ?_ _ | refine bs ?_ (by first | omega | (simp; done) | (simp; omega)) _ | refine bt ?_ (by assumption))))
  have hb3_6 := bel hb3_5 hb6 (by (repeat (first | assumption | exact Below.refl _ _ | refine ba ?_ _ | refine bd ?_ | refine bdn ?_ _ | refine bs ?_ (by first | omega | (simp; done) | (simp; omega)) _ | refine bt ?_ (by assumption))))
  have hb4_6 := bel hb4_5 hb6 (by (repeat (first | assumption | exact Below.refl _ _ | refine ba ?_ _ | refine bd ?_ | refine bdn ?_ _ | refine bs ?_ (by first | omega | (simp; done) | (simp; omega)) _ | refine bt ?_ (by assumption))))
  have hb5_6 := bel hb5 hb6 (by (repeat (first | assumption | exact Below.refl _ _ | refine ba ?_ _ | refine bd ?_ | refine bdn ?_ _ | refine bs ?_ (by first | omega | (simp; done) | (simp; omega)) _ | refine bt ?_ (by assumption))))
  clear hc5 hf5
  obtain ⟨hc6, hf6, hl6⟩ := bcell hb6
  clear hl6
  go_wp2_with fail
  (with_reducible refine (works3b.app _ (T10.up HT.out (by (repeat (first | assumption | exact Below.refl _ _ | refine ba ?_ _ | refine bd ?_ | refine bdn ?_ _ | refine bs ?_ (by first | omega | (simp; done) | (simp; omega)) _ | refine bt ?_ (by assumption)))))).mono ?_)
  rintro e w7 ⟨rfl, hb7⟩
  have hs7 : w6.heap.size + 0 ≤ w7.heap.size := (by have h := hb7.size; first | omega | (simp at h; omega))
  have hb1_7 := bel hb1_6 hb7 (by (repeat (first | assumption | exact Below.refl _ _ | refine ba ?_ _ | refine bd ?_ | refine bdn ?_ _ | refine bs ?_ (by first | omega | (simp; done) | (simp; omega)) _ | refine bt ?_ (by assumption))))
  have hb2_7 := bel hb2_6 hb7 (by (repeat (first | assumption | exact Below.refl _ _ | refine ba ?_ _ | refine bd ?_ | refine bdn ?_ _ | refine bs ?_ (by first | omega | (simp; done) | (simp; omega)) _ | refine bt ?_ (by assumption))))
  have hb3_7 := bel hb3_6 hb7 (by (repeat (first | assumption | exact Below.refl _ _ | refine ba ?_ _ | refine bd ?_ | refine bdn ?_ _ | refine bs ?_ (by first | omega | (simp; done) | (simp; omega)) _ | refine bt ?_ (by assumption))))
  have hb4_7 := bel hb4_6 hb7 (by (repeat (first | assumption | exact Below.refl _ _ | refine ba ?_ _ | refine bd ?_ | refine bdn ?_ _ | refine bs ?_ (by first | omega | (simp; done) | (simp; omega)) _ | refine bt ?_ (by assumption))))
  have hb5_7 := bel hb5_6 hb7 (by (repeat (first | assumption | exact Below.refl _ _ | refine ba ?_ _ | refine bd ?_ | refine bdn ?_ _ | refine bs ?_ (by first | omega | (simp; done) | (simp; omega)) _ | refine bt ?_ (by assumption))))
  have hb6_7 := bel hb6 hb7 (by (repeat (first | assumption | exact Below.refl _ _ | refine ba ?_ _ | refine bd ?_ | refine bdn ?_ _ | refine bs ?_ (by first | omega | (simp; done) | (simp; omega)) _ | refine bt ?_ (by assumption))))
  clear hc6 hf6
  obtain ⟨hc7, hf7, hl7⟩ := bcell hb7
  clear hl7
  go_wp2
  go_ret
  refine ⟨rfl, ?_⟩
  (repeat (first | assumption | exact Below.refl _ _ | refine ba ?_ _ | refine bd ?_ | refine bdn ?_ _ | refine bs ?_ (by first | omega | (simp; done) | (simp; omega)) _ | refine bt ?_ (by assumption)))
set_option maxRecDepth 100000 in
set_option maxHeartbeats 4000000 in
theorem law_my (n : Int) (s : ByteArray) (hl : s.size ≤ 100) (hn : 9007199254740992 < n) (k : Nat) (hk : qP s.data.toList = (k, true)) : PureOn T10 Tryd.prog 5 #[.int .i64 n, .string s] (.bool true) := by
  intro W hT
  have HT := Lib.hid hT
  have hI : (s.size : Int) ≤ 100 := by omega
  have H1 := reftext3_any n
  have hq : ¬ (0 ≤ n ∧ n ≤ 9007199254740992) := by omega
  rw [show qTv n = ⟨#[]⟩ from if_neg hq] at H1
  have H1 := Lib.hid H1
  have h2 := qparse_any ⟨#[]⟩
  rw [show (⟨#[]⟩ : ByteArray).data.toList = [] from rfl, qP_nil] at h2
  have H2 := Lib.hid (show PureOn T10 Tryd.prog 25 #[.string ⟨#[]⟩] (.tuple #[.int .i64 0, .bool false]) from h2)
  have h3 := qparse_any s
  rw [hk] at h3
  have H3 := Lib.hid (show PureOn T10 Tryd.prog 25 #[.string s] (.tuple #[.int .i64 (k : Int), .bool true]) from h3)
  have H4 := Lib.hid ((qtext_no n hq).on T10)
  have H5 := qright_any n
  rw [decide_eq_false hq] at H5
  have H5 := Lib.hid H5
  obtain ⟨hk1, hk2⟩ := qP_some hk
  have H6 := reftext3_any (k : Int)
  rw [qTv_list k hk1, show qT k = s by apply Go.WideShapes.bytes_inj; rw [qT_list, hk2]] at H6
  have H6 := Lib.hid H6
  clear hq hT h2 h3 hk hk2
  go_enter Tryd.func5, Tryd.ntmps5
  go_wp2_with fail
  (with_reducible refine (H1.out _).mono ?_)
  rintro e w1 ⟨rfl, hb1⟩
  have hs1 : W.heap.size + 0 ≤ w1.heap.size := (by have h := hb1.size; first | omega | (simp at h; omega))
  obtain ⟨hc1, hf1, hl1⟩ := bcell hb1
  clear hl1
  go_wp2_with fail
  (with_reducible refine (H2.out.app _ (T10.up HT.out (by (repeat (first | assumption | exact Below.refl _ _ | refine ba ?_ _ | refine bd ?_ | refine bdn ?_ _ | refine bs ?_ (by first | omega | (simp; done) | (simp; omega)) _ | refine bt ?_ (by assumption)))))).mono ?_)
  rintro e w2 ⟨rfl, hb2⟩
  have hs2 : w1.heap.size + 0 ≤ w2.heap.size := (by have h := hb2.size; first | omega | (simp at h; omega))
  have hb1_2 := bel hb1 hb2 (by (repeat (first | assumption | exact Below.refl _ _ | refine ba ?_ _ | refine bd ?_ | refine bdn ?_ _ | refine bs ?_ (by first | omega | (simp; done) | (simp; omega)) _ | refine bt ?_ (by assumption))))
  clear hc1 hf1
  obtain ⟨hc2, hf2, hl2⟩ := bcell hb2
  clear hl2
  go_wp2_with fail
  (with_reducible refine (H3.out.app _ (T10.up HT.out (by (repeat (first | assumption | exact Below.refl _ _ | refine ba ?_ _ | refine bd ?_ | refine bdn ?_ _ | refine bs ?_ (by first | omega | (simp; done) | (simp; omega)) _ | refine bt ?_ (by assumption)))))).mono ?_)
  rintro e w3 ⟨rfl, hb3⟩
  have hs3 : w2.heap.size + 0 ≤ w3.heap.size := (by have h := hb3.size; first | omega | (simp at h; omega))
  have hb1_3 := bel hb1_2 hb3 (by (repeat (first | assumption | exact Below.refl _ _ | refine ba ?_ _ | refine bd ?_ | refine bdn ?_ _ | refine bs ?_ (by first | omega | (simp; done) | (simp; omega)) _ | refine bt ?_ (by assumption))))
  have hb2_3 := bel hb2 hb3 (by (repeat (first | assumption | exact Below.refl _ _ | refine ba ?_ _ | refine bd ?_ | refine bdn ?_ _ | refine bs ?_ (by first | omega | (simp; done) | (simp; omega)) _ | refine bt ?_ (by assumption))))
  clear hc2 hf2
  obtain ⟨hc3, hf3, hl3⟩ := bcell hb3
  clear hl3
  go_wp2_with fail
  (with_reducible refine (H4.out.app _ (T10.up HT.out (by (repeat (first | assumption | exact Below.refl _ _ | refine ba ?_ _ | refine bd ?_ | refine bdn ?_ _ | refine bs ?_ (by first | omega | (simp; done) | (simp; omega)) _ | refine bt ?_ (by assumption)))))).mono ?_)
  rintro e w4 ⟨rfl, hb4⟩
  have hs4 : w3.heap.size + 0 ≤ w4.heap.size := (by have h := hb4.size; first | omega | (simp at h; omega))
  have hb1_4 := bel hb1_3 hb4 (by (repeat (first | assumption | exact Below.refl _ _ | refine ba ?_ _ | refine bd ?_ | refine bdn ?_ _ | refine bs ?_ (by first | omega | (simp; done) | (simp; omega)) _ | refine bt ?_ (by assumption))))
  have hb2_4 := bel hb2_3 hb4 (by (repeat (first | assumption | exact Below.refl _ _ | refine ba ?_ _ | refine bd ?_ | refine bdn ?_ _ | refine bs ?_ (by first | omega | (simp; done) | (simp; omega)) _ | refine bt ?_ (by assumption))))
  have hb3_4 := bel hb3 hb4 (by (repeat (first | assumption | exact Below.refl _ _ | refine ba ?_ _ | refine bd ?_ | refine bdn ?_ _ | refine bs ?_ (by first | omega | (simp; done) | (simp; omega)) _ | refine bt ?_ (by assumption))))
  clear hc3 hf3
  obtain ⟨hc4, hf4, hl4⟩ := bcell hb4
  clear hl4
  go_wp2_with fail
  (with_reducible refine (H1.out _).mono ?_)
  rintro e w5 ⟨rfl, hb5⟩
  have hs5 : w4.heap.size + 0 ≤ w5.heap.size := (by have h := hb5.size; first | omega | (simp at h; omega))
  have hb1_5 := bel hb1_4 hb5 (by (repeat (first | assumption | exact Below.refl _ _ | refine ba ?_ _ | refine bd ?_ | refine bdn ?_ _ | refine bs ?_ (by first | omega | (simp; done) | (simp; omega)) _ | refine bt ?_ (by assumption))))
  have hb2_5 := bel hb2_4 hb5 (by (repeat (first | assumption | exact Below.refl _ _ | refine ba ?_ _ | refine bd ?_ | refine bdn ?_ _ | refine bs ?_ (by first | omega | (simp; done) | (simp; omega)) _ | refine bt ?_ (by assumption))))
  have hb3_5 := bel hb3_4 hb5 (by (repeat (first | assumption | exact Below.refl _ _ | refine ba ?_ _ | refine bd ?_ | refine bdn ?_ _ | refine bs ?_ (by first | omega | (simp; done) | (simp; omega)) _ | refine bt ?_ (by assumption))))
  have hb4_5 := bel hb4 hb5 (by (repeat (first | assumption | exact Below.refl _ _ | refine ba ?_ _ | refine bd ?_ | refine bdn ?_ _ | refine bs ?_ (by first | omega | (simp; done) | (simp; omega)) _ | refine bt ?_ (by assumption))))
  clear hc4 hf4
  obtain ⟨hc5, hf5, hl5⟩ := bcell hb5
  clear hl5
  go_wp2_with fail
  (with_reducible refine (H5.out _).mono ?_)
  rintro e w6 ⟨rfl, hb6⟩
  have hs6 : w5.heap.size + 0 ≤ w6.heap.size := (by have h := hb6.size; first | omega | (simp at h; omega))
  have hb1_6 := bel hb1_5 hb6 (by (repeat (first | assumption | exact Below.refl _ _ | refine ba ?_ _ | refine bd ?_ | refine bdn ?_ _ | refine bs ?_ (by first | omega | (simp; done) | (simp; omega)) _ | refine bt ?_ (by assumption))))
  have hb2_6 := bel hb2_5 hb6 (by (repeat (first | assumption | exact Below.refl _ _ | refine ba ?_ _ | refine bd ?_ | refine bdn ?_ _ | refine bs ?_ (by first | omega | (simp; done) | (simp; omega)) _ | refine bt ?_ (by assumption))))
  have hb3_6 := bel hb3_5 hb6 (by (repeat (first | assumption | exact Below.refl _ _ | refine ba ?_ _ | refine bd ?_ | refine bdn ?_ _ | refine bs ?_ (by first | omega | (simp; done) | (simp; omega)) _ | refine bt ?_ (by assumption))))
  have hb4_6 := bel hb4_5 hb6 (by (repeat (first | assumption | exact Below.refl _ _ | refine ba ?_ _ | refine bd ?_ | refine bdn ?_ _ | refine bs ?_ (by first | omega | (simp; done) | (simp; omega)) _ | refine bt ?_ (by assumption))))
  have hb5_6 := bel hb5 hb6 (by (repeat (first | assumption | exact Below.refl _ _ | refine ba ?_ _ | refine bd ?_ | refine bdn ?_ _ | refine bs ?_ (by first | omega | (simp; done) | (simp; omega)) _ | refine bt ?_ (by assumption))))
  clear hc5 hf5
  obtain ⟨hc6, hf6, hl6⟩ := bcell hb6
  clear hl6
  go_wp2_with fail
  (with_reducible refine (H6.out _).mono ?_)
  rintro e w7 ⟨rfl, hb7⟩
  have hs7 : w6.heap.size + 0 ≤ w7.heap.size := (by have h := hb7.size; first | omega | (simp at h; omega))
  have hb1_7 := bel hb1_6 hb7 (by (repeat (first | assumption | exact Below.refl _ _ | refine ba ?_ _ | refine bd ?_ | refine bdn ?_ _ | refine bs ?_ (by first | omega | (simp; done) | (simp; omega)) _ | refine bt ?_ (by assumption))))
  have hb2_7 := bel hb2_6 hb7 (by (repeat (first | assumption | exact Below.refl _ _ | refine ba ?_ _ | refine bd ?_ | refine bdn ?_ _ | refine bs ?_ (by first | omega | (simp; done) | (simp; omega)) _ | refine bt ?_ (by assumption))))
  have hb3_7 := bel hb3_6 hb7 (by (repeat (first | assumption | exact Below.refl _ _ | refine ba ?_ _ | refine bd ?_ | refine bdn ?_ _ | refine bs ?_ (by first | omega | (simp; done) | (simp; omega)) _ | refine bt ?_ (by assumption))))
  have hb4_7 := bel hb4_6 hb7 (by (repeat (first | assumption | exact Below.refl _ _ | refine ba ?_ _ | refine bd ?_ | refine bdn ?_ _ | refine bs ?_ (by first | omega | (simp; done) | (simp; omega)) _ | refine bt ?_ (by assumption))))
  have hb5_7 := bel hb5_6 hb7 (by (repeat (first | assumption | exact Below.refl _ _ | refine ba ?_ _ | refine bd ?_ | refine bdn ?_ _ | refine bs ?_ (by first | omega | (simp; done) | (simp; omega)) _ | refine bt ?_ (by assumption))))
  have hb6_7 := bel hb6 hb7 (by (repeat (first | assumption | exact Below.refl _ _ | refine ba ?_ _ | refine bd ?_ | refine bdn ?_ _ | refine bs ?_ (by first | omega | (simp; done) | (simp; omega)) _ | refine bt ?_ (by assumption))))
  clear hc6 hf6
  obtain ⟨hc7, hf7, hl7⟩ := bcell hb7
  clear hl7
  go_wp2_with fail
  (with_reducible refine (works3b.app _ (T10.up HT.out (by (repeat (first | assumption | exact Below.refl _ _ | refine ba ?_ _ | refine bd ?_ | refine bdn ?_ _ | refine bs ?_ (by first | omega | (simp; done) | (simp; omega)) _ | refine bt ?_ (by assumption)))))).mono ?_)
  rintro e w8 ⟨rfl, hb8⟩
  have hs8 : w7.heap.size + 0 ≤ w8.heap.size := (by have h := hb8.size; first | omega | (simp at h; omega))
  have hb1_8 := bel hb1_7 hb8 (by (repeat (first | assumption | exact Below.refl _ _ | refine ba ?_ _ | refine bd ?_ | refine bdn ?_ _ | refine bs ?_ (by first | omega | (simp; done) | (simp; omega)) _ | refine bt ?_ (by assumption))))
  have hb2_8 := bel hb2_7 hb8 (by (repeat (first | assumption | exact Below.refl _ _ | refine ba ?_ _ | refine bd ?_ | refine bdn ?_ _ | refine bs ?_ (by first | omega | (simp; done) | (simp; omega)) _ | refine bt ?_ (by assumption))))
  have hb3_8 := bel hb3_7 hb8 (by (repeat (first | assumption | exact Below.refl _ _ | refine ba ?_ _ | refine bd ?_ | refine bdn ?_ _ | refine bs ?_ (by first | omega | (simp; done) | (simp; omega)) _ | refine bt ?_ (by assumption))))
  have hb4_8 := bel hb4_7 hb8 (by (repeat (first | assumption | exact Below.refl _ _ | refine ba ?_ _ | refine bd ?_ | refine bdn ?_ _ | refine bs ?_ (by first | omega | (simp; done) | (simp; omega)) _ | refine bt ?_ (by assumption))))
  have hb5_8 := bel hb5_7 hb8 (by (repeat (first | assumption | exact Below.refl _ _ | refine ba ?_ _ | refine bd ?_ | refine bdn ?_ _ | refine bs ?_ (by first | omega | (simp; done) | (simp; omega)) _ | refine bt ?_ (by assumption))))
  have hb6_8 := bel hb6_7 hb8 (by (repeat (first | assumption | exact Below.refl _ _ | refine ba ?_ _ | refine bd ?_ | refine bdn ?_ _ | refine bs ?_ (by first | omega | (simp; done) | (simp; omega)) _ | refine bt ?_ (by assumption))))
  have hb7_8 := bel hb7 hb8 (by (repeat (first | assumption | exact Below.refl _ _ | refine ba ?_ _ | refine bd ?_ | refine bdn ?_ _ | refine bs ?_ (by first | omega | (simp; done) | (simp; omega)) _ | refine bt ?_ (by assumption))))
  clear hc7 hf7
  obtain ⟨hc8, hf8, hl8⟩ := bcell hb8
  clear hl8
  go_wp2
  go_ret
  refine ⟨rfl, ?_⟩
  (repeat (first | assumption | exact Below.refl _ _ | refine ba ?_ _ | refine bd ?_ | refine bdn ?_ _ | refine bs ?_ (by first | omega | (simp; done) | (simp; omega)) _ | refine bt ?_ (by assumption)))
set_option maxRecDepth 100000 in
set_option maxHeartbeats 4000000 in
theorem law_mn (n : Int) (s : ByteArray) (hl : s.size ≤ 100) (hn : 9007199254740992 < n) (hk : qP s.data.toList = (0, false)) : PureOn T10 Tryd.prog 5 #[.int .i64 n, .string s] (.bool true) := by
  intro W hT
  have HT := Lib.hid hT
  have hI : (s.size : Int) ≤ 100 := by omega
  have H1 := reftext3_any n
  have hq : ¬ (0 ≤ n ∧ n ≤ 9007199254740992) := by omega
  rw [show qTv n = ⟨#[]⟩ from if_neg hq] at H1
  have H1 := Lib.hid H1
  have h2 := qparse_any ⟨#[]⟩
  rw [show (⟨#[]⟩ : ByteArray).data.toList = [] from rfl, qP_nil] at h2
  have H2 := Lib.hid (show PureOn T10 Tryd.prog 25 #[.string ⟨#[]⟩] (.tuple #[.int .i64 0, .bool false]) from h2)
  have h3 := qparse_any s
  rw [hk] at h3
  have H3 := Lib.hid (show PureOn T10 Tryd.prog 25 #[.string s] (.tuple #[.int .i64 0, .bool false]) from h3)
  have H4 := Lib.hid ((qtext_no n hq).on T10)
  have H5 := qright_any n
  rw [decide_eq_false hq] at H5
  have H5 := Lib.hid H5
  clear hq hT h2 h3 hk
  go_enter Tryd.func5, Tryd.ntmps5
  go_wp2_with fail
  (with_reducible refine (H1.out _).mono ?_)
  rintro e w1 ⟨rfl, hb1⟩
  have hs1 : W.heap.size + 0 ≤ w1.heap.size := (by have h := hb1.size; first | omega | (simp at h; omega))
  obtain ⟨hc1, hf1, hl1⟩ := bcell hb1
  clear hl1
  go_wp2_with fail
  (with_reducible refine (H2.out.app _ (T10.up HT.out (by (repeat (first | assumption | exact Below.refl _ _ | refine ba ?_ _ | refine bd ?_ | refine bdn ?_ _ | refine bs ?_ (by first | omega | (simp; done) | (simp; omega)) _ | refine bt ?_ (by assumption)))))).mono ?_)
  rintro e w2 ⟨rfl, hb2⟩
  have hs2 : w1.heap.size + 0 ≤ w2.heap.size := (by have h := hb2.size; first | omega | (simp at h; omega))
  have hb1_2 := bel hb1 hb2 (by (repeat (first | assumption | exact Below.refl _ _ | refine ba ?_ _ | refine bd ?_ | refine bdn ?_ _ | refine bs ?_ (by first | omega | (simp; done) | (simp; omega)) _ | refine bt ?_ (by assumption))))
  clear hc1 hf1
  obtain ⟨hc2, hf2, hl2⟩ := bcell hb2
  clear hl2
  go_wp2_with fail
  (with_reducible refine (H3.out.app _ (T10.up HT.out (by (repeat (first | assumption | exact Below.refl _ _ | refine ba ?_ _ | refine bd ?_ | refine bdn ?_ _ | refine bs ?_ (by first | omega | (simp; done) | (simp; omega)) _ | refine bt ?_ (by assumption)))))).mono ?_)
  rintro e w3 ⟨rfl, hb3⟩
  have hs3 : w2.heap.size + 0 ≤ w3.heap.size := (by have h := hb3.size; first | omega | (simp at h; omega))
  have hb1_3 := bel hb1_2 hb3 (by (repeat (first | assumption | exact Below.refl _ _ | refine ba ?_ _ | refine bd ?_ | refine bdn ?_ _ | refine bs ?_ (by first | omega | (simp; done) | (simp; omega)) _ | refine bt ?_ (by assumption))))
  have hb2_3 := bel hb2 hb3 (by (repeat (first | assumption | exact Below.refl _ _ | refine ba ?_ _ | refine bd ?_ | refine bdn ?_ _ | refine bs ?_ (by first | omega | (simp; done) | (simp; omega)) _ | refine bt ?_ (by assumption))))
  clear hc2 hf2
  obtain ⟨hc3, hf3, hl3⟩ := bcell hb3
  clear hl3
  go_wp2_with fail
  (with_reducible refine (H4.out.app _ (T10.up HT.out (by (repeat (first | assumption | exact Below.refl _ _ | refine ba ?_ _ | refine bd ?_ | refine bdn ?_ _ | refine bs ?_ (by first | omega | (simp; done) | (simp; omega)) _ | refine bt ?_ (by assumption)))))).mono ?_)
  rintro e w4 ⟨rfl, hb4⟩
  have hs4 : w3.heap.size + 0 ≤ w4.heap.size := (by have h := hb4.size; first | omega | (simp at h; omega))
  have hb1_4 := bel hb1_3 hb4 (by (repeat (first | assumption | exact Below.refl _ _ | refine ba ?_ _ | refine bd ?_ | refine bdn ?_ _ | refine bs ?_ (by first | omega | (simp; done) | (simp; omega)) _ | refine bt ?_ (by assumption))))
  have hb2_4 := bel hb2_3 hb4 (by (repeat (first | assumption | exact Below.refl _ _ | refine ba ?_ _ | refine bd ?_ | refine bdn ?_ _ | refine bs ?_ (by first | omega | (simp; done) | (simp; omega)) _ | refine bt ?_ (by assumption))))
  have hb3_4 := bel hb3 hb4 (by (repeat (first | assumption | exact Below.refl _ _ | refine ba ?_ _ | refine bd ?_ | refine bdn ?_ _ | refine bs ?_ (by first | omega | (simp; done) | (simp; omega)) _ | refine bt ?_ (by assumption))))
  clear hc3 hf3
  obtain ⟨hc4, hf4, hl4⟩ := bcell hb4
  clear hl4
  go_wp2_with fail
  (with_reducible refine (H1.out _).mono ?_)
  rintro e w5 ⟨rfl, hb5⟩
  have hs5 : w4.heap.size + 0 ≤ w5.heap.size := (by have h := hb5.size; first | omega | (simp at h; omega))
  have hb1_5 := bel hb1_4 hb5 (by (repeat (first | assumption | exact Below.refl _ _ | refine ba ?_ _ | refine bd ?_ | refine bdn ?_ _ | refine bs ?_ (by first | omega | (simp; done) | (simp; omega)) _ | refine bt ?_ (by assumption))))
  have hb2_5 := bel hb2_4 hb5 (by (repeat (first | assumption | exact Below.refl _ _ | refine ba ?_ _ | refine bd ?_ | refine bdn ?_ _ | refine bs ?_ (by first | omega | (simp; done) | (simp; omega)) _ | refine bt ?_ (by assumption))))
  have hb3_5 := bel hb3_4 hb5 (by (repeat (first | assumption | exact Below.refl _ _ | refine ba ?_ _ | refine bd ?_ | refine bdn ?_ _ | refine bs ?_ (by first | omega | (simp; done) | (simp; omega)) _ | refine bt ?_ (by assumption))))
  have hb4_5 := bel hb4 hb5 (by (repeat (first | assumption | exact Below.refl _ _ | refine ba ?_ _ | refine bd ?_ | refine bdn ?_ _ | refine bs ?_ (by first | omega | (simp; done) | (simp; omega)) _ | refine bt ?_ (by assumption))))
  clear hc4 hf4
  obtain ⟨hc5, hf5, hl5⟩ := bcell hb5
  clear hl5
  go_wp2_with fail
  (with_reducible refine (H5.out _).mono ?_)
  rintro e w6 ⟨rfl, hb6⟩
  have hs6 : w5.heap.size + 0 ≤ w6.heap.size := (by have h := hb6.size; first | omega | (simp at h; omega))
  have hb1_6 := bel hb1_5 hb6 (by (repeat (first | assumption | exact Below.refl _ _ | refine ba ?_ _ | refine bd ?_ | refine bdn ?_ _ | refine bs ?_ (by first | omega | (simp; done) | (simp; omega)) _ | refine bt ?_ (by assumption))))
  have hb2_6 := bel hb2_5 hb6 (by (repeat (first | assumption | exact Below.refl _ _ | refine ba ?_ _ | refine bd ?_ | refine bdn ?_ _ | refine bs ?_ (by first | omega | (simp; done) | (simp; omega)) _ | refine bt ?_ (by assumption))))
  have hb3_6 := bel hb3_5 hb6 (by (repeat (first | assumption | exact Below.refl _ _ | refine ba ?_ _ | refine bd ?_ | refine bdn ?_ _ | refine bs ?_ (by first | omega | (simp; done) | (simp; omega)) _ | refine bt ?_ (by assumption))))
  have hb4_6 := bel hb4_5 hb6 (by (repeat (first | assumption | exact Below.refl _ _ | refine ba ?_ _ | refine bd ?_ | refine bdn ?_ _ | refine bs ?_ (by first | omega | (simp; done) | (simp; omega)) _ | refine bt ?_ (by assumption))))
  have hb5_6 := bel hb5 hb6 (by (repeat (first | assumption | exact Below.refl _ _ | refine ba ?_ _ | refine bd ?_ | refine bdn ?_ _ | refine bs ?_ (by first | omega | (simp; done) | (simp; omega)) _ | refine bt ?_ (by assumption))))
  clear hc5 hf5
  obtain ⟨hc6, hf6, hl6⟩ := bcell hb6
  clear hl6
  go_wp2_with fail
  (with_reducible refine (works3b.app _ (T10.up HT.out (by (repeat (first | assumption | exact Below.refl _ _ | refine ba ?_ _ | refine bd ?_ | refine bdn ?_ _ | refine bs ?_ (by first | omega | (simp; done) | (simp; omega)) _ | refine bt ?_ (by assumption)))))).mono ?_)
  rintro e w7 ⟨rfl, hb7⟩
  have hs7 : w6.heap.size + 0 ≤ w7.heap.size := (by have h := hb7.size; first | omega | (simp at h; omega))
  have hb1_7 := bel hb1_6 hb7 (by (repeat (first | assumption | exact Below.refl _ _ | refine ba ?_ _ | refine bd ?_ | refine bdn ?_ _ | refine bs ?_ (by first | omega | (simp; done) | (simp; omega)) _ | refine bt ?_ (by assumption))))
  have hb2_7 := bel hb2_6 hb7 (by (repeat (first | assumption | exact Below.refl _ _ | refine ba ?_ _ | refine bd ?_ | refine bdn ?_ _ | refine bs ?_ (by first | omega | (simp; done) | (simp; omega)) _ | refine bt ?_ (by assumption))))
  have hb3_7 := bel hb3_6 hb7 (by (repeat (first | assumption | exact Below.refl _ _ | refine ba ?_ _ | refine bd ?_ | refine bdn ?_ _ | refine bs ?_ (by first | omega | (simp; done) | (simp; omega)) _ | refine bt ?_ (by assumption))))
  have hb4_7 := bel hb4_6 hb7 (by (repeat (first | assumption | exact Below.refl _ _ | refine ba ?_ _ | refine bd ?_ | refine bdn ?_ _ | refine bs ?_ (by first | omega | (simp; done) | (simp; omega)) _ | refine bt ?_ (by assumption))))
  have hb5_7 := bel hb5_6 hb7 (by (repeat (first | assumption | exact Below.refl _ _ | refine ba ?_ _ | refine bd ?_ | refine bdn ?_ _ | refine bs ?_ (by first | omega | (simp; done) | (simp; omega)) _ | refine bt ?_ (by assumption))))
  have hb6_7 := bel hb6 hb7 (by (repeat (first | assumption | exact Below.refl _ _ | refine ba ?_ _ | refine bd ?_ | refine bdn ?_ _ | refine bs ?_ (by first | omega | (simp; done) | (simp; omega)) _ | refine bt ?_ (by assumption))))
  clear hc6 hf6
  obtain ⟨hc7, hf7, hl7⟩ := bcell hb7
  clear hl7
  go_wp2
  go_ret
  refine ⟨rfl, ?_⟩
  (repeat (first | assumption | exact Below.refl _ _ | refine ba ?_ _ | refine bd ?_ | refine bdn ?_ _ | refine bs ?_ (by first | omega | (simp; done) | (simp; omega)) _ | refine bt ?_ (by assumption)))
theorem qt_any (n : Int) (s : ByteArray) : PureOn T10 Tryd.prog 5 #[.int .i64 n, .string s] (.bool true) := by
  by_cases hl : 100 < s.size
  · exact (law_long n s hl).on _
  · have hl' : s.size ≤ 100 := by omega
    rcases hq : qP s.data.toList with ⟨k, b⟩
    by_cases h0 : n < 0
    · cases b with
      | true => exact law_ny n s hl' h0 k hq
      | false => obtain rfl := qP_none hq; exact law_nn n s hl' h0 hq
    · by_cases h1 : 9007199254740992 < n
      · cases b with
        | true => exact law_my n s hl' h1 k hq
        | false => obtain rfl := qP_none hq; exact law_mn n s hl' h1 hq
      · obtain ⟨a, rfl⟩ := Int.eq_ofNat_of_zero_le (show 0 ≤ n by omega)
        cases b with
        | true => exact law_yy a s hl' (by omega) k hq
        | false => obtain rfl := qP_none hq; exact law_yn a s hl' (by omega) hq
end Go.Proofs.YtfnfolpdbbnnlaaDoor

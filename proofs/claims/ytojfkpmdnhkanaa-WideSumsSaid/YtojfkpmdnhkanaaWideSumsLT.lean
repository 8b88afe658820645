/- For any two wide numbers the statement WideSums returns true: the sum, the difference and which one is greater are what paper tells. No condition. -/
import Derived.Test.YtojfkpmdnhkanaaSumRow
namespace Go.Proofs.Ytojfkpmdnhkanaa
open Go.RowKit
attribute [local go_sem] ext_cell ext_frozen Mix.calmUpon Mix.mUpon

set_option maxHeartbeats 16000000 in
theorem sums_lt (ah al bh bl sh sl dh dl x1 A B D : Int) (fits f1 : Bool)
    (hA : Pure Try.prog 11 #[W2 ah al, W2 bh bl] (.tuple #[W2 sh sl, .bool fits])) (hS : Pure Try.prog 12 #[W2 ah al, W2 bh bl] (.tuple #[W2 dh dl, .bool false]))
    (hOa : ∀ w, Calls Try.prog 14 #[W2 ah al] w (RetInts w (digs 8 A))) (hOb : ∀ w, Calls Try.prog 14 #[W2 bh bl] w (RetInts w (digs 8 B))) (hOd : ∀ w, Calls Try.prog 14 #[W2 dh dl] w (RetInts w (digs 8 D)))
    (hLab : ∀ (w : World) (va vb : Value), Ints w va (digs 8 A) → Ints w vb (digs 8 B) → Calls Try.prog 13 #[va, vb] w fun e w' => e = .returned (.bool true) ∧ Below w.heap.size w w')
    (hLba : ∀ (w : World) (va vb : Value), Ints w va (digs 8 B) → Ints w vb (digs 8 A) → Calls Try.prog 13 #[va, vb] w fun e w' => e = .returned (.bool false) ∧ Below w.heap.size w w')
    (hSab : ∀ (w : World) (va vb : Value), Ints w va (digs 8 A) → Ints w vb (digs 8 B) → Calls Try.prog 16 #[va, vb] w (RetInts w (digs 9 (A + B))))
    (hSdb : ∀ (w : World) (va vb : Value), Ints w va (digs 8 D) → Ints w vb (digs 8 B) → Calls Try.prog 16 #[va, vb] w (RetRow w 9 (digs 9 (D + B))))
    (hH : ∀ (w : World) (v : Value), Ints w v (digs 9 (D + B)) → Calls Try.prog 15 #[v] w fun e w' => e = .returned (.tuple #[u ah, u x1, .bool f1]) ∧ Below w.heap.size w w')
    (hI1 : ∀ (w : World) (v : Value), Ints w v (digs 9 (A + B)) → Calls Try.prog 17 #[W2 sh sl, .bool fits, v] w fun e w' => e = .returned (.bool true) ∧ Below w.heap.size w w')
    (hI2 : ∀ (w : World) (v : Value), Ints w v ((digs 9 (D + B)).take 8 ++ [1]) → Calls Try.prog 17 #[W2 ah al, .bool false, v] w fun e w' => e = .returned (.bool true) ∧ Below w.heap.size w w')
    (hC : Pure Try.prog 19 #[W2 ah al, W2 bh bl] (.int .i64 (-1))) :
    Pure Try.prog 3 #[W2 ah al, W2 bh bl] (.bool true) := by
  intro w
  have HA := Lib.hid hA; have HS := Lib.hid hS; have HOa := Lib.hid hOa; have HOb := Lib.hid hOb; have HOd := Lib.hid hOd; have HLab := Lib.hid hLab; have HLba := Lib.hid hLba
  have HSab := Lib.hid hSab; have HSdb := Lib.hid hSdb; have HH := Lib.hid hH; have HI1 := Lib.hid hI1; have HI2 := Lib.hid hI2; have HC := Lib.hid hC
  have HAF := Lib.hid (after_any true)
  clear hA hS hOa hOb hOd hLab hLba hSab hSdb hH hI1 hI2 hC
  go_enter Try.func3, Try.ntmps3
  go_wp2_with fail
  (with_reducible refine (HA.out _).mono ?_)
  rintro e w1 ⟨rfl, hb1⟩
  have hs1 : w.heap.size + 2 ≤ w1.heap.size := (by have h := hb1.size; first | omega | (simp at h; omega))
  have hz1_0 : w.heap.size < w1.heap.size := (by omega)
  have hz1_1 : w.heap.size + 1 < w1.heap.size := (by omega)
  obtain ⟨hc1, hf1, hl1⟩ := bcell hb1
  clear hl1
  go_wp2_with fail
  (with_reducible refine (HS.out _).mono ?_)
  rintro e w2 ⟨rfl, hb2⟩
  have hs2 : w1.heap.size + 1 ≤ w2.heap.size := (by have h := hb2.size; first | omega | (simp at h; omega))
  have hb1_2 := bel hb1 hb2 (by (repeat (first | assumption | exact Below.refl _ _ | refine ba ?_ _ | refine bd ?_ | refine bdn ?_ _ | refine bs ?_ (by first | omega | (simp; done) | (simp; omega)) _ | refine bt ?_ (by assumption))))
  clear hz1_0 hz1_1 hc1 hf1
  obtain ⟨hc1_2, hf1_2, hl1_2⟩ := bcell hb1_2
  clear hl1_2
  have hz2_0 : w.heap.size < w2.heap.size := (by omega)
  have hz2_1 : w.heap.size + 1 < w2.heap.size := (by omega)
  have hz2_2 : w1.heap.size < w2.heap.size := (by omega)
  obtain ⟨hc2, hf2, hl2⟩ := bcell hb2
  clear hl2
  go_wp2_with fail
  refine Mix.region0 (by kernel_rfl) ?_
  intro w3 hb3
  have hs3 : w2.heap.size + 1 ≤ w3.heap.size := (by have h := hb3.size; first | omega | (simp at h; omega))
  have hz3_0 : w.heap.size < w3.heap.size := (by omega)
  have hz3_1 : w.heap.size + 1 < w3.heap.size := (by omega)
  have hz3_2 : w1.heap.size < w3.heap.size := (by omega)
  have hz3_3 : w2.heap.size < w3.heap.size := (by omega)
  have hy3_0_0 : w.heap.size ≤ w2.heap.size := (by omega)
  have hy3_1_0 : w.heap.size + 1 ≤ w2.heap.size := (by omega)
  have hy3_2_0 : w1.heap.size ≤ w2.heap.size := (by omega)
  obtain ⟨hc3, hf3, hl3⟩ := bcell hb3
  clear hl3
  refine Mix.take_ex (_) 0 rfl (by kernel_rfl) (by kernel_rfl) (by kernel_rfl) (by kernel_rfl) (fun K hK => ?_)
  go_simp
  first | (refine hK _ ?_; clear hK K) | (apply Exists.intro; refine ⟨fun x => ?_, hK _ ?_⟩; (fail); clear hK K)
  refine Mix.take_ex (_) 2 rfl (by kernel_rfl) (by kernel_rfl) (by kernel_rfl) (by kernel_rfl) (fun K hK => ?_)
  go_simp
  first | (refine hK _ ?_; clear hK K) | (apply Exists.intro; refine ⟨fun x => ?_, hK _ ?_⟩; (fail); clear hK K)
  refine Mix.take_ex (_) 5 rfl (by kernel_rfl) (by kernel_rfl) (by kernel_rfl) (by kernel_rfl) (fun K hK => ?_)
  go_simp
  first | (refine hK _ ?_; clear hK K) | (apply Exists.intro; refine ⟨fun x => ?_, hK _ ?_⟩; (fail); clear hK K)
  refine Mix.take_ex (_) 7 rfl (by kernel_rfl) (by kernel_rfl) (by kernel_rfl) (by kernel_rfl) (fun K hK => ?_)
  go_simp
  first | (refine hK _ ?_; clear hK K) | (apply Exists.intro; refine ⟨fun x => ?_, hK _ ?_⟩; (fail); clear hK K)
  refine Mix.all (rs := [1]) (by kernel_rfl) (by simp) (Mix.over_of (by (repeat (first | assumption | exact Below.refl _ _ | refine ba ?_ _ | refine bd ?_ | refine bdn ?_ _ | refine bs ?_ (by first | omega | (simp; done) | (simp; omega)) _ | refine bt ?_ (by assumption))))) ?_
  intro i4 hi4 w4 hb4 hC4
  clear hC4
  have hs4 : w3.heap.size + 0 ≤ w4.heap.size := (by have h := hb4.size; first | omega | (simp at h; omega))
  have hb3_4 := bel hb3 hb4 (by (repeat (first | assumption | exact Below.refl _ _ | refine ba ?_ _ | refine bd ?_ | refine bdn ?_ _ | refine bs ?_ (by first | omega | (simp; done) | (simp; omega)) _ | refine bt ?_ (by assumption))))
  obtain ⟨hc3_4, hf3_4, hl3_4⟩ := bcell hb3_4
  clear hl3_4
  have hz4_0 : w.heap.size < w4.heap.size := (by omega)
  have hz4_1 : w.heap.size + 1 < w4.heap.size := (by omega)
  have hz4_2 : w1.heap.size < w4.heap.size := (by omega)
  have hz4_3 : w2.heap.size < w4.heap.size := (by omega)
  obtain ⟨hc4, hf4, hl4⟩ := bcell hb4
  clear hl4
  simp only [List.mem_cons, List.not_mem_nil, or_false] at hi4
  subst hi4
  refine Mix.op rfl (by kernel_rfl) ?_
  go_simp
  refine (HOa.out _).mono ?_
  rintro e w5 ⟨v5, rfl, hv5, hb5⟩
  refine ⟨_, rfl, ?_⟩
  have hs5 : w4.heap.size + 0 ≤ w5.heap.size := (by have h := hb5.size; first | omega | (simp at h; omega))
  have hb3_5 := bel hb3_4 hb5 (by (repeat (first | assumption | exact Below.refl _ _ | refine ba ?_ _ | refine bd ?_ | refine bdn ?_ _ | refine bs ?_ (by first | omega | (simp; done) | (simp; omega)) _ | refine bt ?_ (by assumption))))
  have hb4_5 := bel hb4 hb5 (by (repeat (first | assumption | exact Below.refl _ _ | refine ba ?_ _ | refine bd ?_ | refine bdn ?_ _ | refine bs ?_ (by first | omega | (simp; done) | (simp; omega)) _ | refine bt ?_ (by assumption))))
  clear hc3_4 hf3_4 hz4_0 hz4_1 hz4_2 hz4_3 hc4 hf4
  obtain ⟨hc3_5, hf3_5, hl3_5⟩ := bcell hb3_5
  clear hl3_5
  have hz5_0 : w.heap.size < w5.heap.size := (by omega)
  have hz5_1 : w.heap.size + 1 < w5.heap.size := (by omega)
  have hz5_2 : w1.heap.size < w5.heap.size := (by omega)
  have hz5_3 : w2.heap.size < w5.heap.size := (by omega)
  obtain ⟨hc5, hf5, hl5⟩ := bcell hb5
  clear hl5
  refine Mix.all (rs := [3]) (by kernel_rfl) (by simp) (Mix.over_of (by (repeat (first | assumption | exact Below.refl _ _ | refine ba ?_ _ | refine bd ?_ | refine bdn ?_ _ | refine bs ?_ (by first | omega | (simp; done) | (simp; omega)) _ | refine bt ?_ (by assumption))))) ?_
  intro i6 hi6 w6 hb6 hC6
  clear hC6
  have hs6 : w5.heap.size + 0 ≤ w6.heap.size := (by have h := hb6.size; first | omega | (simp at h; omega))
  have hb3_6 := bel hb3_5 hb6 (by (repeat (first | assumption | exact Below.refl _ _ | refine ba ?_ _ | refine bd ?_ | refine bdn ?_ _ | refine bs ?_ (by first | omega | (simp; done) | (simp; omega)) _ | refine bt ?_ (by assumption))))
  have hb4_6 := bel hb4_5 hb6 (by (repeat (first | assumption | exact Below.refl _ _ | refine ba ?_ _ | refine bd ?_ | refine bdn ?_ _ | refine bs ?_ (by first | omega | (simp; done) | (simp; omega)) _ | refine bt ?_ (by assumption))))
  have hb5_6 := bel hb5 hb6 (by (repeat (first | assumption | exact Below.refl _ _ | refine ba ?_ _ | refine bd ?_ | refine bdn ?_ _ | refine bs ?_ (by first | omega | (simp; done) | (simp; omega)) _ | refine bt ?_ (by assumption))))
  clear hc3_5 hf3_5 hz5_0 hz5_1 hz5_2 hz5_3 hc5 hf5
  obtain ⟨hc3_6, hf3_6, hl3_6⟩ := bcell hb3_6
  clear hl3_6
  have hz6_0 : w.heap.size < w6.heap.size := (by omega)
  have hz6_1 : w.heap.size + 1 < w6.heap.size := (by omega)
  have hz6_2 : w1.heap.size < w6.heap.size := (by omega)
  have hz6_3 : w2.heap.size < w6.heap.size := (by omega)
  obtain ⟨hc6, hf6, hl6⟩ := bcell hb6
  clear hl6
  simp only [List.mem_cons, List.not_mem_nil, or_false] at hi6
  subst hi6
  refine Mix.op rfl (by kernel_rfl) ?_
  go_simp
  refine (HOb.out _).mono ?_
  rintro e w7 ⟨v7, rfl, hv7, hb7⟩
  refine ⟨_, rfl, ?_⟩
  have hs7 : w6.heap.size + 0 ≤ w7.heap.size := (by have h := hb7.size; first | omega | (simp at h; omega))
  have hb3_7 := bel hb3_6 hb7 (by (repeat (first | assumption | exact Below.refl _ _ | refine ba ?_ _ | refine bd ?_ | refine bdn ?_ _ | refine bs ?_ (by first | omega | (simp; done) | (simp; omega)) _ | refine bt ?_ (by assumption))))
  have hb4_7 := bel hb4_6 hb7 (by (repeat (first | assumption | exact Below.refl _ _ | refine ba ?_ _ | refine bd ?_ | refine bdn ?_ _ | refine bs ?_ (by first | omega | (simp; done) | (simp; omega)) _ | refine bt ?_ (by assumption))))
  have hb5_7 := bel hb5_6 hb7 (by (repeat (first | assumption | exact Below.refl _ _ | refine ba ?_ _ | refine bd ?_ | refine bdn ?_ _ | refine bs ?_ (by first | omega | (simp; done) | (simp; omega)) _ | refine bt ?_ (by assumption))))
  have hb6_7 := bel hb6 hb7 (by (repeat (first | assumption | exact Below.refl _ _ | refine ba ?_ _ | refine bd ?_ | refine bdn ?_ _ | refine bs ?_ (by first | omega | (simp; done) | (simp; omega)) _ | refine bt ?_ (by assumption))))
  clear hc3_6 hf3_6 hz6_0 hz6_1 hz6_2 hz6_3 hc6 hf6
  obtain ⟨hc3_7, hf3_7, hl3_7⟩ := bcell hb3_7
  clear hl3_7
  have hz7_0 : w.heap.size < w7.heap.size := (by omega)
  have hz7_1 : w.heap.size + 1 < w7.heap.size := (by omega)
  have hz7_2 : w1.heap.size < w7.heap.size := (by omega)
  have hz7_3 : w2.heap.size < w7.heap.size := (by omega)
  obtain ⟨hc7, hf7, hl7⟩ := bcell hb7
  clear hl7
  refine Mix.all (rs := [4]) (by kernel_rfl) (by simp) (Mix.over_of (by (repeat (first | assumption | exact Below.refl _ _ | refine ba ?_ _ | refine bd ?_ | refine bdn ?_ _ | refine bs ?_ (by first | omega | (simp; done) | (simp; omega)) _ | refine bt ?_ (by assumption))))) ?_
  intro i8 hi8 w8 hb8 hC8
  clear hC8
  have hs8 : w7.heap.size + 0 ≤ w8.heap.size := (by have h := hb8.size; first | omega | (simp at h; omega))
  have hb3_8 := bel hb3_7 hb8 (by (repeat (first | assumption | exact Below.refl _ _ | refine ba ?_ _ | refine bd ?_ | refine bdn ?_ _ | refine bs ?_ (by first | omega | (simp; done) | (simp; omega)) _ | refine bt ?_ (by assumption))))
  have hb4_8 := bel hb4_7 hb8 (by (repeat (first | assumption | exact Below.refl _ _ | refine ba ?_ _ | refine bd ?_ | refine bdn ?_ _ | refine bs ?_ (by first | omega | (simp; done) | (simp; omega)) _ | refine bt ?_ (by assumption))))
  have hb5_8 := bel hb5_7 hb8 (by (repeat (first | assumption | exact Below.refl _ _ | refine ba ?_ _ | refine bd ?_ | refine bdn ?_ _ | refine bs ?_ (by first | omega | (simp; done) | (simp; omega)) _ | refine bt ?_ (by assumption))))
  have hb6_8 := bel hb6_7 hb8 (by (repeat (first | assumption | exact Below.refl _ _ | refine ba ?_ _ | refine bd ?_ | refine bdn ?_ _ | refine bs ?_ (by first | omega | (simp; done) | (simp; omega)) _ | refine bt ?_ (by assumption))))
  have hb7_8 := bel hb7 hb8 (by (repeat (first | assumption | exact Below.refl _ _ | refine ba ?_ _ | refine bd ?_ | refine bdn ?_ _ | refine bs ?_ (by first | omega | (simp; done) | (simp; omega)) _ | refine bt ?_ (by assumption))))
  clear hc3_7 hf3_7 hz7_0 hz7_1 hz7_2 hz7_3 hc7 hf7
  obtain ⟨hc3_8, hf3_8, hl3_8⟩ := bcell hb3_8
  clear hl3_8
  have hz8_0 : w.heap.size < w8.heap.size := (by omega)
  have hz8_1 : w.heap.size + 1 < w8.heap.size := (by omega)
  have hz8_2 : w1.heap.size < w8.heap.size := (by omega)
  have hz8_3 : w2.heap.size < w8.heap.size := (by omega)
  obtain ⟨hc8, hf8, hl8⟩ := bcell hb8
  clear hl8
  simp only [List.mem_cons, List.not_mem_nil, or_false] at hi8
  subst hi8
  refine Mix.op rfl (by kernel_rfl) ?_
  go_simp
  refine (HLab.out _ _ _ (hv5.grow hb6_8) (hv7.grow hb8)).mono ?_
  rintro e w9 ⟨rfl, hb9⟩
  refine ⟨_, rfl, ?_⟩
  have hs9 : w8.heap.size + 0 ≤ w9.heap.size := (by have h := hb9.size; first | omega | (simp at h; omega))
  have hb3_9 := bel hb3_8 hb9 (by (repeat (first | assumption | exact Below.refl _ _ | refine ba ?_ _ | refine bd ?_ | refine bdn ?_ _ | refine bs ?_ (by first | omega | (simp; done) | (simp; omega)) _ | refine bt ?_ (by assumption))))
  have hb4_9 := bel hb4_8 hb9 (by (repeat (first | assumption | exact Below.refl _ _ | refine ba ?_ _ | refine bd ?_ | refine bdn ?_ _ | refine bs ?_ (by first | omega | (simp; done) | (simp; omega)) _ | refine bt ?_ (by assumption))))
  have hb5_9 := bel hb5_8 hb9 (by (repeat (first | assumption | exact Below.refl _ _ | refine ba ?_ _ | refine bd ?_ | refine bdn ?_ _ | refine bs ?_ (by first | omega | (simp; done) | (simp; omega)) _ | refine bt ?_ (by assumption))))
  have hb6_9 := bel hb6_8 hb9 (by (repeat (first | assumption | exact Below.refl _ _ | refine ba ?_ _ | refine bd ?_ | refine bdn ?_ _ | refine bs ?_ (by first | omega | (simp; done) | (simp; omega)) _ | refine bt ?_ (by assumption))))
  have hb7_9 := bel hb7_8 hb9 (by (repeat (first | assumption | exact Below.refl _ _ | refine ba ?_ _ | refine bd ?_ | refine bdn ?_ _ | refine bs ?_ (by first | omega | (simp; done) | (simp; omega)) _ | refine bt ?_ (by assumption))))
  have hb8_9 := bel hb8 hb9 (by (repeat (first | assumption | exact Below.refl _ _ | refine ba ?_ _ | refine bd ?_ | refine bdn ?_ _ | refine bs ?_ (by first | omega | (simp; done) | (simp; omega)) _ | refine bt ?_ (by assumption))))
  clear hc3_8 hf3_8 hz8_0 hz8_1 hz8_2 hz8_3 hc8 hf8
  obtain ⟨hc3_9, hf3_9, hl3_9⟩ := bcell hb3_9
  clear hl3_9
  have hz9_0 : w.heap.size < w9.heap.size := (by omega)
  have hz9_1 : w.heap.size + 1 < w9.heap.size := (by omega)
  have hz9_2 : w1.heap.size < w9.heap.size := (by omega)
  have hz9_3 : w2.heap.size < w9.heap.size := (by omega)
  obtain ⟨hc9, hf9, hl9⟩ := bcell hb9
  clear hl9
  refine Mix.all (rs := [6]) (by kernel_rfl) (by simp) (Mix.over_of (by (repeat (first | assumption | exact Below.refl _ _ | refine ba ?_ _ | refine bd ?_ | refine bdn ?_ _ | refine bs ?_ (by first | omega | (simp; done) | (simp; omega)) _ | refine bt ?_ (by assumption))))) ?_
  intro i10 hi10 w10 hb10 hC10
  clear hC10
  have hs10 : w9.heap.size + 0 ≤ w10.heap.size := (by have h := hb10.size; first | omega | (simp at h; omega))
  have hb3_10 := bel hb3_9 hb10 (by (repeat (first | assumption | exact Below.refl _ _ | refine ba ?_ _ | refine bd ?_ | refine bdn ?_ _ | refine bs ?_ (by first | omega | (simp; done) | (simp; omega)) _ | refine bt ?_ (by assumption))))
  have hb4_10 := bel hb4_9 hb10 (by (repeat (first | assumption | exact Below.refl _ _ | refine ba ?_ _ | refine bd ?_ | refine bdn ?_ _ | refine bs ?_ (by first | omega | (simp; done) | (simp; omega)) _ | refine bt ?_ (by assumption))))
  have hb5_10 := bel hb5_9 hb10 (by (repeat (first | assumption | exact Below.refl _ _ | refine ba ?_ _ | refine bd ?_ | refine bdn ?_ _ | refine bs ?_ (by first | omega | (simp; done) | (simp; omega)) _ | refine bt ?_ (by assumption))))
  have hb6_10 := bel hb6_9 hb10 (by (repeat (first | assumption | exact Below.refl _ _ | refine ba ?_ _ | refine bd ?_ | refine bdn ?_ _ | refine bs ?_ (by first | omega | (simp; done) | (simp; omega)) _ | refine bt ?_ (by assumption))))
  have hb7_10 := bel hb7_9 hb10 (by (repeat (first | assumption | exact Below.refl _ _ | refine ba ?_ _ | refine bd ?_ | refine bdn ?_ _ | refine bs ?_ (by first | omega | (simp; done) | (simp; omega)) _ | refine bt ?_ (by assumption))))
  have hb8_10 := bel hb8_9 hb10 (by (repeat (first | assumption | exact Below.refl _ _ | refine ba ?_ _ | refine bd ?_ | refine bdn ?_ _ | refine bs ?_ (by first | omega | (simp; done) | (simp; omega)) _ | refine bt ?_ (by assumption))))
  have hb9_10 := bel hb9 hb10 (by (repeat (first | assumption | exact Below.refl _ _ | refine ba ?_ _ | refine bd ?_ | refine bdn ?_ _ | refine bs ?_ (by first | omega | (simp; done) | (simp; omega)) _ | refine bt ?_ (by assumption))))
  clear hc3_9 hf3_9 hz9_0 hz9_1 hz9_2 hz9_3 hc9 hf9
  obtain ⟨hc3_10, hf3_10, hl3_10⟩ := bcell hb3_10
  clear hl3_10
  have hz10_0 : w.heap.size < w10.heap.size := (by omega)
  have hz10_1 : w.heap.size + 1 < w10.heap.size := (by omega)
  have hz10_2 : w1.heap.size < w10.heap.size := (by omega)
  have hz10_3 : w2.heap.size < w10.heap.size := (by omega)
  obtain ⟨hc10, hf10, hl10⟩ := bcell hb10
  clear hl10
  simp only [List.mem_cons, List.not_mem_nil, or_false] at hi10
  subst hi10
  refine Mix.op rfl (by kernel_rfl) ?_
  go_simp
  refine (HOb.out _).mono ?_
  rintro e w11 ⟨v11, rfl, hv11, hb11⟩
  refine ⟨_, rfl, ?_⟩
  have hs11 : w10.heap.size + 0 ≤ w11.heap.size := (by have h := hb11.size; first | omega | (simp at h; omega))
  have hb3_11 := bel hb3_10 hb11 (by (repeat (first | assumption | exact Below.refl _ _ | refine ba ?_ _ | refine bd ?_ | refine bdn ?_ _ | refine bs ?_ (by first | omega | (simp; done) | (simp; omega)) _ | refine bt ?_ (by assumption))))
  have hb4_11 := bel hb4_10 hb11 (by (repeat (first | assumption | exact Below.refl _ _ | refine ba ?_ _ | refine bd ?_ | refine bdn ?_ _ | refine bs ?_ (by first | omega | (simp; done) | (simp; omega)) _ | refine bt ?_ (by assumption))))
  have hb5_11 := bel hb5_10 hb11 (by (repeat (first | assumption | exact Below.refl _ _ | refine ba ?_ _ | refine bd ?_ | refine bdn ?_ _ | refine bs ?_ (by first | omega | (simp; done) | (simp; omega)) _ | refine bt ?_ (by assumption))))
  have hb6_11 := bel hb6_10 hb11 (by (repeat (first | assumption | exact Below.refl _ _ | refine ba ?_ _ | refine bd ?_ | refine bdn ?_ _ | refine bs ?_ (by first | omega | (simp; done) | (simp; omega)) _ | refine bt ?_ (by assumption))))
  have hb7_11 := bel hb7_10 hb11 (by (repeat (first | assumption | exact Below.refl _ _ | refine ba ?_ _ | refine bd ?_ | refine bdn ?_ _ | refine bs ?_ (by first | omega | (simp; done) | (simp; omega)) _ | refine bt ?_ (by assumption))))
  have hb8_11 := bel hb8_10 hb11 (by (repeat (first | assumption | exact Below.refl _ _ | refine ba ?_ _ | refine bd ?_ | refine bdn ?_ _ | refine bs ?_ (by first | omega | (simp; done) | (simp; omega)) _ | refine bt ?_ (by assumption))))
  have hb9_11 := bel hb9_10 hb11 (by (repeat (first | assumption | exact Below.refl _ _ | refine ba ?_ _ | refine bd ?_ | refine bdn ?_ _ | refine bs ?_ (by first | omega | (simp; done) | (simp; omega)) _ | refine bt ?_ (by assumption))))
  have hb10_11 := bel hb10 hb11 (by (repeat (first | assumption | exact Below.refl _ _ | refine ba ?_ _ | refine bd ?_ | refine bdn ?_ _ | refine bs ?_ (by first | omega | (simp; done) | (simp; omega)) _ | refine bt ?_ (by assumption))))
  clear hc3_10 hf3_10 hz10_0 hz10_1 hz10_2 hz10_3 hc10 hf10
  obtain ⟨hc3_11, hf3_11, hl3_11⟩ := bcell hb3_11
  clear hl3_11
  have hz11_0 : w.heap.size < w11.heap.size := (by omega)
  have hz11_1 : w.heap.size + 1 < w11.heap.size := (by omega)
  have hz11_2 : w1.heap.size < w11.heap.size := (by omega)
  have hz11_3 : w2.heap.size < w11.heap.size := (by omega)
  obtain ⟨hc11, hf11, hl11⟩ := bcell hb11
  clear hl11
  refine Mix.all (rs := [8]) (by kernel_rfl) (by simp) (Mix.over_of (by (repeat (first | assumption | exact Below.refl _ _ | refine ba ?_ _ | refine bd ?_ | refine bdn ?_ _ | refine bs ?_ (by first | omega | (simp; done) | (simp; omega)) _ | refine bt ?_ (by assumption))))) ?_
  intro i12 hi12 w12 hb12 hC12
  clear hC12
  have hs12 : w11.heap.size + 0 ≤ w12.heap.size := (by have h := hb12.size; first | omega | (simp at h; omega))
  have hb3_12 := bel hb3_11 hb12 (by (repeat (first | assumption | exact Below.refl _ _ | refine ba ?_ _ | refine bd ?_ | refine bdn ?_ _ | refine bs ?_ (by first | omega | (simp; done) | (simp; omega)) _ | refine bt ?_ (by assumption))))
  have hb4_12 := bel hb4_11 hb12 (by (repeat (first | assumption | exact Below.refl _ _ | refine ba ?_ _ | refine bd ?_ | refine bdn ?_ _ | refine bs ?_ (by first | omega | (simp; done) | (simp; omega)) _ | refine bt ?_ (by assumption))))
  have hb5_12 := bel hb5_11 hb12 (by (repeat (first | assumption | exact Below.refl _ _ | refine ba ?_ _ | refine bd ?_ | refine bdn ?_ _ | refine bs ?_ (by first | omega | (simp; done) | (simp; omega)) _ | refine bt ?_ (by assumption))))
  have hb6_12 := bel hb6_11 hb12 (by (repeat (first | assumption | exact Below.refl _ _ | refine ba ?_ _ | refine bd ?_ | refine bdn ?_ _ | refine bs ?_ (by first | omega | (simp; done) | (simp; omega)) _ | refine bt ?_ (by assumption))))
  have hb7_12 := bel hb7_11 hb12 (by (repeat (first | assumption | exact Below.refl _ _ | refine ba ?_ _ | refine bd ?_ | refine bdn ?_ _ | refine bs ?_ (by first | omega | (simp; done) | (simp; omega)) _ | refine bt ?_ (by assumption))))
  have hb8_12 := bel hb8_11 hb12 (by (repeat (first | assumption | exact Below.refl _ _ | refine ba ?_ _ | refine bd ?_ | refine bdn ?_ _ | refine bs ?_ (by first | omega | (simp; done) | (simp; omega)) _ | refine bt ?_ (by assumption))))
  have hb9_12 := bel hb9_11 hb12 (by (repeat (first | assumption | exact Below.refl _ _ | refine ba ?_ _ | refine bd ?_ | refine bdn ?_ _ | refine bs ?_ (by first | omega | (simp; done) | (simp; omega)) _ | refine bt ?_ (by assumption))))
  have hb10_12 := bel hb10_11 hb12 (by (repeat (first | assumption | exact Below.refl _ _ | refine ba ?_ _ | refine bd ?_ | refine bdn ?_ _ | refine bs ?_ (by first | omega | (simp; done) | (simp; omega)) _ | refine bt ?_ (by assumption))))
  have hb11_12 := bel hb11 hb12 (by (repeat (first | assumption | exact Below.refl _ _ | refine ba ?_ _ | refine bd ?_ | refine bdn ?_ _ | refine bs ?_ (by first | omega | (simp; done) | (simp; omega)) _ | refine bt ?_ (by assumption))))
  clear hc3_11 hf3_11 hz11_0 hz11_1 hz11_2 hz11_3 hc11 hf11
  obtain ⟨hc3_12, hf3_12, hl3_12⟩ := bcell hb3_12
  clear hl3_12
  have hz12_0 : w.heap.size < w12.heap.size := (by omega)
  have hz12_1 : w.heap.size + 1 < w12.heap.size := (by omega)
  have hz12_2 : w1.heap.size < w12.heap.size := (by omega)
  have hz12_3 : w2.heap.size < w12.heap.size := (by omega)
  obtain ⟨hc12, hf12, hl12⟩ := bcell hb12
  clear hl12
  simp only [List.mem_cons, List.not_mem_nil, or_false] at hi12
  subst hi12
  refine Mix.op rfl (by kernel_rfl) ?_
  go_simp
  refine (HOa.out _).mono ?_
  rintro e w13 ⟨v13, rfl, hv13, hb13⟩
  refine ⟨_, rfl, ?_⟩
  have hs13 : w12.heap.size + 0 ≤ w13.heap.size := (by have h := hb13.size; first | omega | (simp at h; omega))
  have hb3_13 := bel hb3_12 hb13 (by (repeat (first | assumption | exact Below.refl _ _ | refine ba ?_ _ | refine bd ?_ | refine bdn ?_ _ | refine bs ?_ (by first | omega | (simp; done) | (simp; omega)) _ | refine bt ?_ (by assumption))))
  have hb4_13 := bel hb4_12 hb13 (by (repeat (first | assumption | exact Below.refl _ _ | refine ba ?_ _ | refine bd ?_ | refine bdn ?_ _ | refine bs ?_ (by first | omega | (simp; done) | (simp; omega)) _ | refine bt ?_ (by assumption))))
  have hb5_13 := bel hb5_12 hb13 (by (repeat (first | assumption | exact Below.refl _ _ | refine ba ?_ _ | refine bd ?_ | refine bdn ?_ _ | refine bs ?_ (by first | omega | (simp; done) | (simp; omega)) _ | refine bt ?_ (by assumption))))
  have hb6_13 := bel hb6_12 hb13 (by (repeat (first | assumption | exact Below.refl _ _ | refine ba ?_ _ | refine bd ?_ | refine bdn ?_ _ | refine bs ?_ (by first | omega | (simp; done) | (simp; omega)) _ | refine bt ?_ (by assumption))))
  have hb7_13 := bel hb7_12 hb13 (by (repeat (first | assumption | exact Below.refl _ _ | refine ba ?_ _ | refine bd ?_ | refine bdn ?_ _ | refine bs ?_ (by first | omega | (simp; done) | (simp; omega)) _ | refine bt ?_ (by assumption))))
  have hb8_13 := bel hb8_12 hb13 (by (repeat (first | assumption | exact Below.refl _ _ | refine ba ?_ _ | refine bd ?_ | refine bdn ?_ _ | refine bs ?_ (by first | omega | (simp; done) | (simp; omega)) _ | refine bt ?_ (by assumption))))
  have hb9_13 := bel hb9_12 hb13 (by (repeat (first | assumption | exact Below.refl _ _ | refine ba ?_ _ | refine bd ?_ | refine bdn ?_ _ | refine bs ?_ (by first | omega | (simp; done) | (simp; omega)) _ | refine bt ?_ (by assumption))))
  have hb10_13 := bel hb10_12 hb13 (by (repeat (first | assumption | exact Below.refl _ _ | refine ba ?_ _ | refine bd ?_ | refine bdn ?_ _ | refine bs ?_ (by first | omega | (simp; done) | (simp; omega)) _ | refine bt ?_ (by assumption))))
  have hb11_13 := bel hb11_12 hb13 (by (repeat (first | assumption | exact Below.refl _ _ | refine ba ?_ _ | refine bd ?_ | refine bdn ?_ _ | refine bs ?_ (by first | omega | (simp; done) | (simp; omega)) _ | refine bt ?_ (by assumption))))
  have hb12_13 := bel hb12 hb13 (by (repeat (first | assumption | exact Below.refl _ _ | refine ba ?_ _ | refine bd ?_ | refine bdn ?_ _ | refine bs ?_ (by first | omega | (simp; done) | (simp; omega)) _ | refine bt ?_ (by assumption))))
  clear hc3_12 hf3_12 hz12_0 hz12_1 hz12_2 hz12_3 hc12 hf12
  obtain ⟨hc3_13, hf3_13, hl3_13⟩ := bcell hb3_13
  clear hl3_13
  have hz13_0 : w.heap.size < w13.heap.size := (by omega)
  have hz13_1 : w.heap.size + 1 < w13.heap.size := (by omega)
  have hz13_2 : w1.heap.size < w13.heap.size := (by omega)
  have hz13_3 : w2.heap.size < w13.heap.size := (by omega)
  obtain ⟨hc13, hf13, hl13⟩ := bcell hb13
  clear hl13
  refine Mix.all (rs := [9]) (by kernel_rfl) (by simp) (Mix.over_of (by (repeat (first | assumption | exact Below.refl _ _ | refine ba ?_ _ | refine bd ?_ | refine bdn ?_ _ | refine bs ?_ (by first | omega | (simp; done) | (simp; omega)) _ | refine bt ?_ (by assumption))))) ?_
  intro i14 hi14 w14 hb14 hC14
  clear hC14
  have hs14 : w13.heap.size + 0 ≤ w14.heap.size := (by have h := hb14.size; first | omega | (simp at h; omega))
  have hb3_14 := bel hb3_13 hb14 (by (repeat (first | assumption | exact Below.refl _ _ | refine ba ?_ _ | refine bd ?_ | refine bdn ?_ _ | refine bs ?_ (by first | omega | (simp; done) | (simp; omega)) _ | refine bt ?_ (by assumption))))
  have hb4_14 := bel hb4_13 hb14 (by (repeat (first | assumption | exact Below.refl _ _ | refine ba ?_ _ | refine bd ?_ | refine bdn ?_ _ | refine bs ?_ (by first | omega | (simp; done) | (simp; omega)) _ | refine bt ?_ (by assumption))))
  have hb5_14 := bel hb5_13 hb14 (by (repeat (first | assumption | exact Below.refl _ _ | refine ba ?_ _ | refine bd ?_ | refine bdn ?_ _ | refine bs ?_ (by first | omega | (simp; done) | (simp; omega)) _ | refine bt ?_ (by assumption))))
  have hb6_14 := bel hb6_13 hb14 (by (repeat (first | assumption | exact Below.refl _ _ | refine ba ?_ _ | refine bd ?_ | refine bdn ?_ _ | refine bs ?_ (by first | omega | (simp; done) | (simp; omega)) _ | refine bt ?_ (by assumption))))
  have hb7_14 := bel hb7_13 hb14 (by (repeat (first | assumption | exact Below.refl _ _ | refine ba ?_ _ | refine bd ?_ | refine bdn ?_ _ | refine bs ?_ (by first | omega | (simp; done) | (simp; omega)) _ | refine bt ?_ (by assumption))))
  have hb8_14 := bel hb8_13 hb14 (by (repeat (first | assumption | exact Below.refl _ _ | refine ba ?_ _ | refine bd ?_ | refine bdn ?_ _ | refine bs ?_ (by first | omega | (simp; done) | (simp; omega)) _ | refine bt ?_ (by assumption))))
  have hb9_14 := bel hb9_13 hb14 (by (repeat (first | assumption | exact Below.refl _ _ | refine ba ?_ _ | refine bd ?_ | refine bdn ?_ _ | refine bs ?_ (by first | omega | (simp; done) | (simp; omega)) _ | refine bt ?_ (by assumption))))
  have hb10_14 := bel hb10_13 hb14 (by (repeat (first | assumption | exact Below.refl _ _ | refine ba ?_ _ | refine bd ?_ | refine bdn ?_ _ | refine bs ?_ (by first | omega | (simp; done) | (simp; omega)) _ | refine bt ?_ (by assumption))))
  have hb11_14 := bel hb11_13 hb14 (by (repeat (first | assumption | exact Below.refl _ _ | refine ba ?_ _ | refine bd ?_ | refine bdn ?_ _ | refine bs ?_ (by first | omega | (simp; done) | (simp; omega)) _ | refine bt ?_ (by assumption))))
  have hb12_14 := bel hb12_13 hb14 (by (repeat (first | assumption | exact Below.refl _ _ | refine ba ?_ _ | refine bd ?_ | refine bdn ?_ _ | refine bs ?_ (by first | omega | (simp; done) | (simp; omega)) _ | refine bt ?_ (by assumption))))
  have hb13_14 := bel hb13 hb14 (by (repeat (first | assumption | exact Below.refl _ _ | refine ba ?_ _ | refine bd ?_ | refine bdn ?_ _ | refine bs ?_ (by first | omega | (simp; done) | (simp; omega)) _ | refine bt ?_ (by assumption))))
  clear hc3_13 hf3_13 hz13_0 hz13_1 hz13_2 hz13_3 hc13 hf13
  obtain ⟨hc3_14, hf3_14, hl3_14⟩ := bcell hb3_14
  clear hl3_14
  have hz14_0 : w.heap.size < w14.heap.size := (by omega)
  have hz14_1 : w.heap.size + 1 < w14.heap.size := (by omega)
  have hz14_2 : w1.heap.size < w14.heap.size := (by omega)
  have hz14_3 : w2.heap.size < w14.heap.size := (by omega)
  obtain ⟨hc14, hf14, hl14⟩ := bcell hb14
  clear hl14
  simp only [List.mem_cons, List.not_mem_nil, or_false] at hi14
  subst hi14
  refine Mix.op rfl (by kernel_rfl) ?_
  go_simp
  refine (HLba.out _ _ _ (hv11.grow hb12_14) (hv13.grow hb14)).mono ?_
  rintro e w15 ⟨rfl, hb15⟩
  refine ⟨_, rfl, ?_⟩
  have hs15 : w14.heap.size + 0 ≤ w15.heap.size := (by have h := hb15.size; first | omega | (simp at h; omega))
  have hb3_15 := bel hb3_14 hb15 (by (repeat (first | assumption | exact Below.refl _ _ | refine ba ?_ _ | refine bd ?_ | refine bdn ?_ _ | refine bs ?_ (by first | omega | (simp; done) | (simp; omega)) _ | refine bt ?_ (by assumption))))
  have hb4_15 := bel hb4_14 hb15 (by (repeat (first | assumption | exact Below.refl _ _ | refine ba ?_ _ | refine bd ?_ | refine bdn ?_ _ | refine bs ?_ (by first | omega | (simp; done) | (simp; omega)) _ | refine bt ?_ (by assumption))))
  have hb5_15 := bel hb5_14 hb15 (by (repeat (first | assumption | exact Below.refl _ _ | refine ba ?_ _ | refine bd ?_ | refine bdn ?_ _ | refine bs ?_ (by first | omega | (simp; done) | (simp; omega)) _ | refine bt ?_ (by assumption))))
  have hb6_15 := bel hb6_14 hb15 (by (repeat (first | assumption | exact Below.refl _ _ | refine ba ?_ _ | refine bd ?_ | refine bdn ?_ _ | refine bs ?_ (by first | omega | (simp; done) | (simp; omega)) _ | refine bt ?_ (by assumption))))
  have hb7_15 := bel hb7_14 hb15 (by (repeat (first | assumption | exact Below.refl _ _ | refine ba ?_ _ | refine bd ?_ | refine bdn ?_ _ | refine bs ?_ (by first | omega | (simp; done) | (simp; omega)) _ | refine bt ?_ (by assumption))))
  have hb8_15 := bel hb8_14 hb15 (by (repeat (first | assumption | exact Below.refl _ _ | refine ba ?_ _ | refine bd ?_ | refine bdn ?_ _ | refine bs ?_ (by first | omega | (simp; done) | (simp; omega)) _ | refine bt ?_ (by assumption))))
  have hb9_15 := bel hb9_14 hb15 (by (repeat (first | assumption | exact Below.refl _ _ | refine ba ?_ _ | refine bd ?_ | refine bdn ?_ _ | refine bs ?_ (by first | omega | (simp; done) | (simp; omega)) _ | refine bt ?_ (by assumption))))
  have hb10_15 := bel hb10_14 hb15 (by (repeat (first | assumption | exact Below.refl _ _ | refine ba ?_ _ | refine bd ?_ | refine bdn ?_ _ | refine bs ?_ (by first | omega | (simp; done) | (simp; omega)) _ | refine bt ?_ (by assumption))))
  have hb11_15 := bel hb11_14 hb15 (by (repeat (first | assumption | exact Below.refl _ _ | refine ba ?_ _ | refine bd ?_ | refine bdn ?_ _ | refine bs ?_ (by first | omega | (simp; done) | (simp; omega)) _ | refine bt ?_ (by assumption))))
  have hb12_15 := bel hb12_14 hb15 (by (repeat (first | assumption | exact Below.refl _ _ | refine ba ?_ _ | refine bd ?_ | refine bdn ?_ _ | refine bs ?_ (by first | omega | (simp; done) | (simp; omega)) _ | refine bt ?_ (by assumption))))
  have hb13_15 := bel hb13_14 hb15 (by (repeat (first | assumption | exact Below.refl _ _ | refine ba ?_ _ | refine bd ?_ | refine bdn ?_ _ | refine bs ?_ (by first | omega | (simp; done) | (simp; omega)) _ | refine bt ?_ (by assumption))))
  have hb14_15 := bel hb14 hb15 (by (repeat (first | assumption | exact Below.refl _ _ | refine ba ?_ _ | refine bd ?_ | refine bdn ?_ _ | refine bs ?_ (by first | omega | (simp; done) | (simp; omega)) _ | refine bt ?_ (by assumption))))
  clear hc3_14 hf3_14 hz14_0 hz14_1 hz14_2 hz14_3 hc14 hf14
  obtain ⟨hc3_15, hf3_15, hl3_15⟩ := bcell hb3_15
  clear hl3_15
  have hz15_0 : w.heap.size < w15.heap.size := (by omega)
  have hz15_1 : w.heap.size + 1 < w15.heap.size := (by omega)
  have hz15_2 : w1.heap.size < w15.heap.size := (by omega)
  have hz15_3 : w2.heap.size < w15.heap.size := (by omega)
  obtain ⟨hc15, hf15, hl15⟩ := bcell hb15
  clear hl15
  refine Mix.take_ex (_) 10 rfl (by kernel_rfl) (by kernel_rfl) (by kernel_rfl) (by kernel_rfl) (fun K hK => ?_)
  go_simp
  first | (refine hK _ ?_; clear hK K) | (apply Exists.intro; refine ⟨fun x => ?_, hK _ ?_⟩; (fail); clear hK K)
  refine Mix.take_ex (_) 11 rfl (by kernel_rfl) (by kernel_rfl) (by kernel_rfl) (by kernel_rfl) (fun K hK => ?_)
  go_simp
  first | (refine hK _ ?_; clear hK K) | (apply Exists.intro; refine ⟨fun x => ?_, hK _ ?_⟩; (fail); clear hK K)
  refine Mix.done (by kernel_rfl) (Mix.over_of (by (repeat (first | assumption | exact Below.refl _ _ | refine ba ?_ _ | refine bd ?_ | refine bdn ?_ _ | refine bs ?_ (by first | omega | (simp; done) | (simp; omega)) _ | refine bt ?_ (by assumption))))) ?_
  intro w16 hb16
  have hs16 : w15.heap.size + 0 ≤ w16.heap.size := (by have h := hb16.size; first | omega | (simp at h; omega))
  have hb3_16 := bel hb3_15 hb16 (by (repeat (first | assumption | exact Below.refl _ _ | refine ba ?_ _ | refine bd ?_ | refine bdn ?_ _ | refine bs ?_ (by first | omega | (simp; done) | (simp; omega)) _ | refine bt ?_ (by assumption))))
  have hb4_16 := bel hb4_15 hb16 (by (repeat (first | assumption | exact Below.refl _ _ | refine ba ?_ _ | refine bd ?_ | refine bdn ?_ _ | refine bs ?_ (by first | omega | (simp; done) | (simp; omega)) _ | refine bt ?_ (by assumption))))
  have hb5_16 := bel hb5_15 hb16 (by (repeat (first | assumption | exact Below.refl _ _ | refine ba ?_ _ | refine bd ?_ | refine bdn ?_ _ | refine bs ?_ (by first | omega | (simp; done) | (simp; omega)) _ | refine bt ?_ (by assumption))))
  have hb6_16 := bel hb6_15 hb16 (by (repeat (first | assumption | exact Below.refl _ _ | refine ba ?_ _ | refine bd ?_ | refine bdn ?_ _ | refine bs ?_ (by first | omega | (simp; done) | (simp; omega)) _ | refine bt ?_ (by assumption))))
  have hb7_16 := bel hb7_15 hb16 (by (repeat (first | assumption | exact Below.refl _ _ | refine ba ?_ _ | refine bd ?_ | refine bdn ?_ _ | refine bs ?_ (by first | omega | (simp; done) | (simp; omega)) _ | refine bt ?_ (by assumption))))
  have hb8_16 := bel hb8_15 hb16 (by (repeat (first | assumption | exact Below.refl _ _ | refine ba ?_ _ | refine bd ?_ | refine bdn ?_ _ | refine bs ?_ (by first | omega | (simp; done) | (simp; omega)) _ | refine bt ?_ (by assumption))))
  have hb9_16 := bel hb9_15 hb16 (by (repeat (first | assumption | exact Below.refl _ _ | refine ba ?_ _ | refine bd ?_ | refine bdn ?_ _ | refine bs ?_ (by first | omega | (simp; done) | (simp; omega)) _ | refine bt ?_ (by assumption))))
  have hb10_16 := bel hb10_15 hb16 (by (repeat (first | assumption | exact Below.refl _ _ | refine ba ?_ _ | refine bd ?_ | refine bdn ?_ _ | refine bs ?_ (by first | omega | (simp; done) | (simp; omega)) _ | refine bt ?_ (by assumption))))
  have hb11_16 := bel hb11_15 hb16 (by (repeat (first | assumption | exact Below.refl _ _ | refine ba ?_ _ | refine bd ?_ | refine bdn ?_ _ | refine bs ?_ (by first | omega | (simp; done) | (simp; omega)) _ | refine bt ?_ (by assumption))))
  have hb12_16 := bel hb12_15 hb16 (by (repeat (first | assumption | exact Below.refl _ _ | refine ba ?_ _ | refine bd ?_ | refine bdn ?_ _ | refine bs ?_ (by first | omega | (simp; done) | (simp; omega)) _ | refine bt ?_ (by assumption))))
  have hb13_16 := bel hb13_15 hb16 (by (repeat (first | assumption | exact Below.refl _ _ | refine ba ?_ _ | refine bd ?_ | refine bdn ?_ _ | refine bs ?_ (by first | omega | (simp; done) | (simp; omega)) _ | refine bt ?_ (by assumption))))
  have hb14_16 := bel hb14_15 hb16 (by (repeat (first | assumption | exact Below.refl _ _ | refine ba ?_ _ | refine bd ?_ | refine bdn ?_ _ | refine bs ?_ (by first | omega | (simp; done) | (simp; omega)) _ | refine bt ?_ (by assumption))))
  have hb15_16 := bel hb15 hb16 (by (repeat (first | assumption | exact Below.refl _ _ | refine ba ?_ _ | refine bd ?_ | refine bdn ?_ _ | refine bs ?_ (by first | omega | (simp; done) | (simp; omega)) _ | refine bt ?_ (by assumption))))
  clear hc3_15 hf3_15 hz15_0 hz15_1 hz15_2 hz15_3 hc15 hf15
  obtain ⟨hc3_16, hf3_16, hl3_16⟩ := bcell hb3_16
  clear hl3_16
  have hz16_0 : w.heap.size < w16.heap.size := (by omega)
  have hz16_1 : w.heap.size + 1 < w16.heap.size := (by omega)
  have hz16_2 : w1.heap.size < w16.heap.size := (by omega)
  have hz16_3 : w2.heap.size < w16.heap.size := (by omega)
  obtain ⟨hc16, hf16, hl16⟩ := bcell hb16
  clear hl16
  clear hv5 hv7 hv11 hv13
  go_wp2_with fail
  refine Mix.region0 (by kernel_rfl) ?_
  intro w17 hb17
  have hs17 : w16.heap.size + 0 ≤ w17.heap.size := (by have h := hb17.size; first | omega | (simp at h; omega))
  have hz17_0 : w.heap.size < w17.heap.size := (by omega)
  have hz17_1 : w.heap.size + 1 < w17.heap.size := (by omega)
  have hz17_2 : w1.heap.size < w17.heap.size := (by omega)
  have hz17_3 : w2.heap.size < w17.heap.size := (by omega)
  have hy17_0_0 : w.heap.size ≤ w16.heap.size := (by omega)
  have hy17_1_0 : w.heap.size + 1 ≤ w16.heap.size := (by omega)
  have hy17_2_0 : w1.heap.size ≤ w16.heap.size := (by omega)
  have hy17_3_0 : w2.heap.size ≤ w16.heap.size := (by omega)
  obtain ⟨hc17, hf17, hl17⟩ := bcell hb17
  clear hl17
  refine Mix.take_ex (_) 0 rfl (by kernel_rfl) (by kernel_rfl) (by kernel_rfl) (by kernel_rfl) (fun K hK => ?_)
  go_simp
  first | (refine hK _ ?_; clear hK K) | (apply Exists.intro; refine ⟨fun x => ?_, hK _ ?_⟩; (fail); clear hK K)
  refine Mix.take_ex (_) 2 rfl (by kernel_rfl) (by kernel_rfl) (by kernel_rfl) (by kernel_rfl) (fun K hK => ?_)
  go_simp
  first | (refine hK _ ?_; clear hK K) | (apply Exists.intro; refine ⟨fun x => ?_, hK _ ?_⟩; (fail); clear hK K)
  refine Mix.all (rs := [1]) (by kernel_rfl) (by simp) (Mix.over_of (by (repeat (first | assumption | exact Below.refl _ _ | refine ba ?_ _ | refine bd ?_ | refine bdn ?_ _ | refine bs ?_ (by first | omega | (simp; done) | (simp; omega)) _ | refine bt ?_ (by assumption))))) ?_
  intro i18 hi18 w18 hb18 hC18
  clear hC18
  have hs18 : w17.heap.size + 0 ≤ w18.heap.size := (by have h := hb18.size; first | omega | (simp at h; omega))
  have hb17_18 := bel hb17 hb18 (by (repeat (first | assumption | exact Below.refl _ _ | refine ba ?_ _ | refine bd ?_ | refine bdn ?_ _ | refine bs ?_ (by first | omega | (simp; done) | (simp; omega)) _ | refine bt ?_ (by assumption))))
  obtain ⟨hc17_18, hf17_18, hl17_18⟩ := bcell hb17_18
  clear hl17_18
  have hz18_0 : w.heap.size < w18.heap.size := (by omega)
  have hz18_1 : w.heap.size + 1 < w18.heap.size := (by omega)
  have hz18_2 : w1.heap.size < w18.heap.size := (by omega)
  have hz18_3 : w2.heap.size < w18.heap.size := (by omega)
  obtain ⟨hc18, hf18, hl18⟩ := bcell hb18
  clear hl18
  simp only [List.mem_cons, List.not_mem_nil, or_false] at hi18
  subst hi18
  refine Mix.op rfl (by kernel_rfl) ?_
  go_simp
  refine (HOd.out _).mono ?_
  rintro e w19 ⟨v19, rfl, hv19, hb19⟩
  refine ⟨_, rfl, ?_⟩
  have hs19 : w18.heap.size + 0 ≤ w19.heap.size := (by have h := hb19.size; first | omega | (simp at h; omega))
  have hb17_19 := bel hb17_18 hb19 (by (repeat (first | assumption | exact Below.refl _ _ | refine ba ?_ _ | refine bd ?_ | refine bdn ?_ _ | refine bs ?_ (by first | omega | (simp; done) | (simp; omega)) _ | refine bt ?_ (by assumption))))
  have hb18_19 := bel hb18 hb19 (by (repeat (first | assumption | exact Below.refl _ _ | refine ba ?_ _ | refine bd ?_ | refine bdn ?_ _ | refine bs ?_ (by first | omega | (simp; done) | (simp; omega)) _ | refine bt ?_ (by assumption))))
  clear hc17_18 hf17_18 hz18_0 hz18_1 hz18_2 hz18_3 hc18 hf18
  obtain ⟨hc17_19, hf17_19, hl17_19⟩ := bcell hb17_19
  clear hl17_19
  have hz19_0 : w.heap.size < w19.heap.size := (by omega)
  have hz19_1 : w.heap.size + 1 < w19.heap.size := (by omega)
  have hz19_2 : w1.heap.size < w19.heap.size := (by omega)
  have hz19_3 : w2.heap.size < w19.heap.size := (by omega)
  obtain ⟨hc19, hf19, hl19⟩ := bcell hb19
  clear hl19
  refine Mix.all (rs := [3]) (by kernel_rfl) (by simp) (Mix.over_of (by (repeat (first | assumption | exact Below.refl _ _ | refine ba ?_ _ | refine bd ?_ | refine bdn ?_ _ | refine bs ?_ (by first | omega | (simp; done) | (simp; omega)) _ | refine bt ?_ (by assumption))))) ?_
  intro i20 hi20 w20 hb20 hC20
  clear hC20
  have hs20 : w19.heap.size + 0 ≤ w20.heap.size := (by have h := hb20.size; first | omega | (simp at h; omega))
  have hb17_20 := bel hb17_19 hb20 (by (repeat (first | assumption | exact Below.refl _ _ | refine ba ?_ _ | refine bd ?_ | refine bdn ?_ _ | refine bs ?_ (by first | omega | (simp; done) | (simp; omega)) _ | refine bt ?_ (by assumption))))
  have hb18_20 := bel hb18_19 hb20 (by (repeat (first | assumption | exact Below.refl _ _ | refine ba ?_ _ | refine bd ?_ | refine bdn ?_ _ | refine bs ?_ (by first | omega | (simp; done) | (simp; omega)) _ | refine bt ?_ (by assumption))))
  have hb19_20 := bel hb19 hb20 (by (repeat (first | assumption | exact Below.refl _ _ | refine ba ?_ _ | refine bd ?_ | refine bdn ?_ _ | refine bs ?_ (by first | omega | (simp; done) | (simp; omega)) _ | refine bt ?_ (by assumption))))
  clear hc17_19 hf17_19 hz19_0 hz19_1 hz19_2 hz19_3 hc19 hf19
  obtain ⟨hc17_20, hf17_20, hl17_20⟩ := bcell hb17_20
  clear hl17_20
  have hz20_0 : w.heap.size < w20.heap.size := (by omega)
  have hz20_1 : w.heap.size + 1 < w20.heap.size := (by omega)
  have hz20_2 : w1.heap.size < w20.heap.size := (by omega)
  have hz20_3 : w2.heap.size < w20.heap.size := (by omega)
  obtain ⟨hc20, hf20, hl20⟩ := bcell hb20
  clear hl20
  simp only [List.mem_cons, List.not_mem_nil, or_false] at hi20
  subst hi20
  refine Mix.op rfl (by kernel_rfl) ?_
  go_simp
  refine (HOb.out _).mono ?_
  rintro e w21 ⟨v21, rfl, hv21, hb21⟩
  refine ⟨_, rfl, ?_⟩
  have hs21 : w20.heap.size + 0 ≤ w21.heap.size := (by have h := hb21.size; first | omega | (simp at h; omega))
  have hb17_21 := bel hb17_20 hb21 (by (repeat (first | assumption | exact Below.refl _ _ | refine ba ?_ _ | refine bd ?_ | refine bdn ?_ _ | refine bs ?_ (by first | omega | (simp; done) | (simp; omega)) _ | refine bt ?_ (by assumption))))
  have hb18_21 := bel hb18_20 hb21 (by (repeat (first | assumption | exact Below.refl _ _ | refine ba ?_ _ | refine bd ?_ | refine bdn ?_ _ | refine bs ?_ (by first | omega | (simp; done) | (simp; omega)) _ | refine bt ?_ (by assumption))))
  have hb19_21 := bel hb19_20 hb21 (by (repeat (first | assumption | exact Below.refl _ _ | refine ba ?_ _ | refine bd ?_ | refine bdn ?_ _ | refine bs ?_ (by first | omega | (simp; done) | (simp; omega)) _ | refine bt ?_ (by assumption))))
  have hb20_21 := bel hb20 hb21 (by (repeat (first | assumption | exact Below.refl _ _ | refine ba ?_ _ | refine bd ?_ | refine bdn ?_ _ | refine bs ?_ (by first | omega | (simp; done) | (simp; omega)) _ | refine bt ?_ (by assumption))))
  clear hc17_20 hf17_20 hz20_0 hz20_1 hz20_2 hz20_3 hc20 hf20
  obtain ⟨hc17_21, hf17_21, hl17_21⟩ := bcell hb17_21
  clear hl17_21
  have hz21_0 : w.heap.size < w21.heap.size := (by omega)
  have hz21_1 : w.heap.size + 1 < w21.heap.size := (by omega)
  have hz21_2 : w1.heap.size < w21.heap.size := (by omega)
  have hz21_3 : w2.heap.size < w21.heap.size := (by omega)
  obtain ⟨hc21, hf21, hl21⟩ := bcell hb21
  clear hl21
  refine Mix.all (rs := [4]) (by kernel_rfl) (by simp) (Mix.over_of (by (repeat (first | assumption | exact Below.refl _ _ | refine ba ?_ _ | refine bd ?_ | refine bdn ?_ _ | refine bs ?_ (by first | omega | (simp; done) | (simp; omega)) _ | refine bt ?_ (by assumption))))) ?_
  intro i22 hi22 w22 hb22 hC22
  clear hC22
  have hs22 : w21.heap.size + 0 ≤ w22.heap.size := (by have h := hb22.size; first | omega | (simp at h; omega))
  have hb17_22 := bel hb17_21 hb22 (by (repeat (first | assumption | exact Below.refl _ _ | refine ba ?_ _ | refine bd ?_ | refine bdn ?_ _ | refine bs ?_ (by first | omega | (simp; done) | (simp; omega)) _ | refine bt ?_ (by assumption))))
  have hb18_22 := bel hb18_21 hb22 (by (repeat (first | assumption | exact Below.refl _ _ | refine ba ?_ _ | refine bd ?_ | refine bdn ?_ _ | refine bs ?_ (by first | omega | (simp; done) | (simp; omega)) _ | refine bt ?_ (by assumption))))
  have hb19_22 := bel hb19_21 hb22 (by (repeat (first | assumption | exact Below.refl _ _ | refine ba ?_ _ | refine bd ?_ | refine bdn ?_ _ | refine bs ?_ (by first | omega | (simp; done) | (simp; omega)) _ | refine bt ?_ (by assumption))))
  have hb20_22 := bel hb20_21 hb22 (by (repeat (first | assumption | exact Below.refl _ _ | refine ba ?_ _ | refine bd ?_ | refine bdn ?_ _ | refine bs ?_ (by first | omega | (simp; done) | (simp; omega)) _ | refine bt ?_ (by assumption))))
  have hb21_22 := bel hb21 hb22 (by (repeat (first | assumption | exact Below.refl _ _ | refine ba ?_ _ | refine bd ?_ | refine bdn ?_ _ | refine bs ?_ (by first | omega | (simp; done) | (simp; omega)) _ | refine bt ?_ (by assumption))))
  clear hc17_21 hf17_21 hz21_0 hz21_1 hz21_2 hz21_3 hc21 hf21
  obtain ⟨hc17_22, hf17_22, hl17_22⟩ := bcell hb17_22
  clear hl17_22
  have hz22_0 : w.heap.size < w22.heap.size := (by omega)
  have hz22_1 : w.heap.size + 1 < w22.heap.size := (by omega)
  have hz22_2 : w1.heap.size < w22.heap.size := (by omega)
  have hz22_3 : w2.heap.size < w22.heap.size := (by omega)
  obtain ⟨hc22, hf22, hl22⟩ := bcell hb22
  clear hl22
  simp only [List.mem_cons, List.not_mem_nil, or_false] at hi22
  subst hi22
  refine Mix.op rfl (by kernel_rfl) ?_
  go_simp
  refine (HSdb.out _ _ _ (hv19.grow hb20_22) (hv21.grow hb22)).mono ?_
  rintro e w23 ⟨v23, rfl, hv23, hb23⟩
  refine ⟨_, rfl, ?_⟩
  have hs23 : w22.heap.size + 0 ≤ w23.heap.size := (by have h := hb23.size; first | omega | (simp at h; omega))
  have hb17_23 := bel hb17_22 hb23 (by (repeat (first | assumption | exact Below.refl _ _ | refine ba ?_ _ | refine bd ?_ | refine bdn ?_ _ | refine bs ?_ (by first | omega | (simp; done) | (simp; omega)) _ | refine bt ?_ (by assumption))))
  have hb18_23 := bel hb18_22 hb23 (by (repeat (first | assumption | exact Below.refl _ _ | refine ba ?_ _ | refine bd ?_ | refine bdn ?_ _ | refine bs ?_ (by first | omega | (simp; done) | (simp; omega)) _ | refine bt ?_ (by assumption))))
  have hb19_23 := bel hb19_22 hb23 (by (repeat (first | assumption | exact Below.refl _ _ | refine ba ?_ _ | refine bd ?_ | refine bdn ?_ _ | refine bs ?_ (by first | omega | (simp; done) | (simp; omega)) _ | refine bt ?_ (by assumption))))
  have hb20_23 := bel hb20_22 hb23 (by (repeat (first | assumption | exact Below.refl _ _ | refine ba ?_ _ | refine bd ?_ | refine bdn ?_ _ | refine bs ?_ (by first | omega | (simp; done) | (simp; omega)) _ | refine bt ?_ (by assumption))))
  have hb21_23 := bel hb21_22 hb23 (by (repeat (first | assumption | exact Below.refl _ _ | refine ba ?_ _ | refine bd ?_ | refine bdn ?_ _ | refine bs ?_ (by first | omega | (simp; done) | (simp; omega)) _ | refine bt ?_ (by assumption))))
  have hb22_23 := bel hb22 hb23 (by (repeat (first | assumption | exact Below.refl _ _ | refine ba ?_ _ | refine bd ?_ | refine bdn ?_ _ | refine bs ?_ (by first | omega | (simp; done) | (simp; omega)) _ | refine bt ?_ (by assumption))))
  clear hc17_22 hf17_22 hz22_0 hz22_1 hz22_2 hz22_3 hc22 hf22
  obtain ⟨hc17_23, hf17_23, hl17_23⟩ := bcell hb17_23
  clear hl17_23
  have hz23_0 : w.heap.size < w23.heap.size := (by omega)
  have hz23_1 : w.heap.size + 1 < w23.heap.size := (by omega)
  have hz23_2 : w1.heap.size < w23.heap.size := (by omega)
  have hz23_3 : w2.heap.size < w23.heap.size := (by omega)
  obtain ⟨hc23, hf23, hl23⟩ := bcell hb23
  clear hl23
  have hi23 : Ints w23 v23 (digs 9 (D + B)) := Ints.of hv23 (by rw [digs_len])
  refine Mix.all (rs := [5]) (by kernel_rfl) (by simp) (Mix.over_of (by (repeat (first | assumption | exact Below.refl _ _ | refine ba ?_ _ | refine bd ?_ | refine bdn ?_ _ | refine bs ?_ (by first | omega | (simp; done) | (simp; omega)) _ | refine bt ?_ (by assumption))))) ?_
  intro i24 hi24 w24 hb24 hC24
  clear hC24
  have hs24 : w23.heap.size + 0 ≤ w24.heap.size := (by have h := hb24.size; first | omega | (simp at h; omega))
  have hb17_24 := bel hb17_23 hb24 (by (repeat (first | assumption | exact Below.refl _ _ | refine ba ?_ _ | refine bd ?_ | refine bdn ?_ _ | refine bs ?_ (by first | omega | (simp; done) | (simp; omega)) _ | refine bt ?_ (by assumption))))
  have hb18_24 := bel hb18_23 hb24 (by (repeat (first | assumption | exact Below.refl _ _ | refine ba ?_ _ | refine bd ?_ | refine bdn ?_ _ | refine bs ?_ (by first | omega | (simp; done) | (simp; omega)) _ | refine bt ?_ (by assumption))))
  have hb19_24 := bel hb19_23 hb24 (by (repeat (first | assumption | exact Below.refl _ _ | refine ba ?_ _ | refine bd ?_ | refine bdn ?_ _ | refine bs ?_ (by first | omega | (simp; done) | (simp; omega)) _ | refine bt ?_ (by assumption))))
  have hb20_24 := bel hb20_23 hb24 (by (repeat (first | assumption | exact Below.refl _ _ | refine ba ?_ _ | refine bd ?_ | refine bdn ?_ _ | refine bs ?_ (by first | omega | (simp; done) | (simp; omega)) _ | refine bt ?_ (by assumption))))
  have hb21_24 := bel hb21_23 hb24 (by (repeat (first | assumption | exact Below.refl _ _ | refine ba ?_ _ | refine bd ?_ | refine bdn ?_ _ | refine bs ?_ (by first | omega | (simp; done) | (simp; omega)) _ | refine bt ?_ (by assumption))))
  have hb22_24 := bel hb22_23 hb24 (by (repeat (first | assumption | exact Below.refl _ _ | refine ba ?_ _ | refine bd ?_ | refine bdn ?_ _ | refine bs ?_ (by first | omega | (simp; done) | (simp; omega)) _ | refine bt ?_ (by assumption))))
  have hb23_24 := bel hb23 hb24 (by (repeat (first | assumption | exact Below.refl _ _ | refine ba ?_ _ | refine bd ?_ | refine bdn ?_ _ | refine bs ?_ (by first | omega | (simp; done) | (simp; omega)) _ | refine bt ?_ (by assumption))))
  clear hc17_23 hf17_23 hz23_0 hz23_1 hz23_2 hz23_3 hc23 hf23
  obtain ⟨hc17_24, hf17_24, hl17_24⟩ := bcell hb17_24
  clear hl17_24
  have hz24_0 : w.heap.size < w24.heap.size := (by omega)
  have hz24_1 : w.heap.size + 1 < w24.heap.size := (by omega)
  have hz24_2 : w1.heap.size < w24.heap.size := (by omega)
  have hz24_3 : w2.heap.size < w24.heap.size := (by omega)
  obtain ⟨hc24, hf24, hl24⟩ := bcell hb24
  clear hl24
  simp only [List.mem_cons, List.not_mem_nil, or_false] at hi24
  subst hi24
  refine Mix.op rfl (by kernel_rfl) ?_
  go_simp
  refine (HH.out _ _ (hi23.grow hb24)).mono ?_
  rintro e w25 ⟨rfl, hb25⟩
  refine ⟨_, rfl, ?_⟩
  have hs25 : w24.heap.size + 0 ≤ w25.heap.size := (by have h := hb25.size; first | omega | (simp at h; omega))
  have hb17_25 := bel hb17_24 hb25 (by (repeat (first | assumption | exact Below.refl _ _ | refine ba ?_ _ | refine bd ?_ | refine bdn ?_ _ | refine bs ?_ (by first | omega | (simp; done) | (simp; omega)) _ | refine bt ?_ (by assumption))))
  have hb18_25 := bel hb18_24 hb25 (by (repeat (first | assumption | exact Below.refl _ _ | refine ba ?_ _ | refine bd ?_ | refine bdn ?_ _ | refine bs ?_ (by first | omega | (simp; done) | (simp; omega)) _ | refine bt ?_ (by assumption))))
  have hb19_25 := bel hb19_24 hb25 (by (repeat (first | assumption | exact Below.refl _ _ | refine ba ?_ _ | refine bd ?_ | refine bdn ?_ _ | refine bs ?_ (by first | omega | (simp; done) | (simp; omega)) _ | refine bt ?_ (by assumption))))
  have hb20_25 := bel hb20_24 hb25 (by (repeat (first | assumption | exact Below.refl _ _ | refine ba ?_ _ | refine bd ?_ | refine bdn ?_ _ | refine bs ?_ (by first | omega | (simp; done) | (simp; omega)) _ | refine bt ?_ (by assumption))))
  have hb21_25 := bel hb21_24 hb25 (by (repeat (first | assumption | exact Below.refl _ _ | refine ba ?_ _ | refine bd ?_ | refine bdn ?_ _ | refine bs ?_ (by first | omega | (simp; done) | (simp; omega)) _ | refine bt ?_ (by assumption))))
  have hb22_25 := bel hb22_24 hb25 (by (repeat (first | assumption | exact Below.refl _ _ | refine ba ?_ _ | refine bd ?_ | refine bdn ?_ _ | refine bs ?_ (by first | omega | (simp; done) | (simp; omega)) _ | refine bt ?_ (by assumption))))
  have hb23_25 := bel hb23_24 hb25 (by (repeat (first | assumption | exact Below.refl _ _ | refine ba ?_ _ | refine bd ?_ | refine bdn ?_ _ | refine bs ?_ (by first | omega | (simp; done) | (simp; omega)) _ | refine bt ?_ (by assumption))))
  have hb24_25 := bel hb24 hb25 (by (repeat (first | assumption | exact Below.refl _ _ | refine ba ?_ _ | refine bd ?_ | refine bdn ?_ _ | refine bs ?_ (by first | omega | (simp; done) | (simp; omega)) _ | refine bt ?_ (by assumption))))
  clear hc17_24 hf17_24 hz24_0 hz24_1 hz24_2 hz24_3 hc24 hf24
  obtain ⟨hc17_25, hf17_25, hl17_25⟩ := bcell hb17_25
  clear hl17_25
  have hz25_0 : w.heap.size < w25.heap.size := (by omega)
  have hz25_1 : w.heap.size + 1 < w25.heap.size := (by omega)
  have hz25_2 : w1.heap.size < w25.heap.size := (by omega)
  have hz25_3 : w2.heap.size < w25.heap.size := (by omega)
  obtain ⟨hc25, hf25, hl25⟩ := bcell hb25
  clear hl25
  refine Mix.take_ex (_) 6 rfl (by kernel_rfl) (by kernel_rfl) (by kernel_rfl) (by kernel_rfl) (fun K hK => ?_)
  go_simp
  first | (refine hK _ ?_; clear hK K) | (apply Exists.intro; refine ⟨fun x => ?_, hK _ ?_⟩; (fail); clear hK K)
  refine Mix.take_ex (_) 7 rfl (by kernel_rfl) (by kernel_rfl) (by kernel_rfl) (by kernel_rfl) (fun K hK => ?_)
  go_simp
  first | (refine hK _ ?_; clear hK K) | (apply Exists.intro; refine ⟨fun x => ?_, hK _ ?_⟩; (fail); clear hK K)
  refine Mix.take_ex (_) 8 rfl (by kernel_rfl) (by kernel_rfl) (by kernel_rfl) (by kernel_rfl) (fun K hK => ?_)
  go_simp
  first | (refine hK _ ?_; clear hK K) | (apply Exists.intro; refine ⟨fun x => ?_, hK _ ?_⟩; (fail); clear hK K)
  refine Mix.take_ex (_) 9 rfl (by kernel_rfl) (by kernel_rfl) (by kernel_rfl) (by kernel_rfl) (fun K hK => ?_)
  go_simp
  first | (refine hK _ ?_; clear hK K) | (apply Exists.intro; refine ⟨fun x => ?_, hK _ ?_⟩; (fail); clear hK K)
  refine Mix.take_ex (_) 10 rfl (by kernel_rfl) (by kernel_rfl) (by kernel_rfl) (by kernel_rfl) (fun K hK => ?_)
  go_simp
  first | (refine hK _ ?_; clear hK K) | (apply Exists.intro; refine ⟨fun x => ?_, hK _ ?_⟩; (fail); clear hK K)
  refine Mix.take_ex (_) 11 rfl (by kernel_rfl) (by kernel_rfl) (by kernel_rfl) (by kernel_rfl) (fun K hK => ?_)
  go_simp
  first | (refine hK _ ?_; clear hK K) | (apply Exists.intro; refine ⟨fun x => ?_, hK _ ?_⟩; (fail); clear hK K)
  refine Mix.take_ex (_) 12 rfl (by kernel_rfl) (by kernel_rfl) (by kernel_rfl) (by kernel_rfl) (fun K hK => ?_)
  go_simp
  first | (refine hK _ ?_; clear hK K) | (apply Exists.intro; refine ⟨fun x => ?_, hK _ ?_⟩; (fail); clear hK K)
  refine Mix.done (by kernel_rfl) (Mix.over_of (by (repeat (first | assumption | exact Below.refl _ _ | refine ba ?_ _ | refine bd ?_ | refine bdn ?_ _ | refine bs ?_ (by first | omega | (simp; done) | (simp; omega)) _ | refine bt ?_ (by assumption))))) ?_
  intro w26 hb26
  have hs26 : w25.heap.size + 0 ≤ w26.heap.size := (by have h := hb26.size; first | omega | (simp at h; omega))
  have hb17_26 := bel hb17_25 hb26 (by (repeat (first | assumption | exact Below.refl _ _ | refine ba ?_ _ | refine bd ?_ | refine bdn ?_ _ | refine bs ?_ (by first | omega | (simp; done) | (simp; omega)) _ | refine bt ?_ (by assumption))))
  have hb18_26 := bel hb18_25 hb26 (by (repeat (first | assumption | exact Below.refl _ _ | refine ba ?_ _ | refine bd ?_ | refine bdn ?_ _ | refine bs ?_ (by first | omega | (simp; done) | (simp; omega)) _ | refine bt ?_ (by assumption))))
  have hb19_26 := bel hb19_25 hb26 (by (repeat (first | assumption | exact Below.refl _ _ | refine ba ?_ _ | refine bd ?_ | refine bdn ?_ _ | refine bs ?_ (by first | omega | (simp; done) | (simp; omega)) _ | refine bt ?_ (by assumption))))
  have hb20_26 := bel hb20_25 hb26 (by (repeat (first | assumption | exact Below.refl _ _ | refine ba ?_ _ | refine bd ?_ | refine bdn ?_ _ | refine bs ?_ (by first | omega | (simp; done) | (simp; omega)) _ | refine bt ?_ (by assumption))))
  have hb21_26 := bel hb21_25 hb26 (by (repeat (first | assumption | exact Below.refl _ _ | refine ba ?_ _ | refine bd ?_ | refine bdn ?_ _ | refine bs ?_ (by first | omega | (simp; done) | (simp; omega)) _ | refine bt ?_ (by assumption))))
  have hb22_26 := bel hb22_25 hb26 (by (repeat (first | assumption | exact Below.refl _ _ | refine ba ?_ _ | refine bd ?_ | refine bdn ?_ _ | refine bs ?_ (by first | omega | (simp; done) | (simp; omega)) _ | refine bt ?_ (by assumption))))
  have hb23_26 := bel hb23_25 hb26 (by (repeat (first | assumption | exact Below.refl _ _ | refine ba ?_ _ | refine bd ?_ | refine bdn ?_ _ | refine bs ?_ (by first | omega | (simp; done) | (simp; omega)) _ | refine bt ?_ (by assumption))))
  have hb24_26 := bel hb24_25 hb26 (by (repeat (first | assumption | exact Below.refl _ _ | refine ba ?_ _ | refine bd ?_ | refine bdn ?_ _ | refine bs ?_ (by first | omega | (simp; done) | (simp; omega)) _ | refine bt ?_ (by assumption))))
  have hb25_26 := bel hb25 hb26 (by (repeat (first | assumption | exact Below.refl _ _ | refine ba ?_ _ | refine bd ?_ | refine bdn ?_ _ | refine bs ?_ (by first | omega | (simp; done) | (simp; omega)) _ | refine bt ?_ (by assumption))))
  clear hc17_25 hf17_25 hz25_0 hz25_1 hz25_2 hz25_3 hc25 hf25
  obtain ⟨hc17_26, hf17_26, hl17_26⟩ := bcell hb17_26
  clear hl17_26
  have hz26_0 : w.heap.size < w26.heap.size := (by omega)
  have hz26_1 : w.heap.size + 1 < w26.heap.size := (by omega)
  have hz26_2 : w1.heap.size < w26.heap.size := (by omega)
  have hz26_3 : w2.heap.size < w26.heap.size := (by omega)
  obtain ⟨hc26, hf26, hl26⟩ := bcell hb26
  clear hl26
  clear hv19 hv21 hv23 hi23
  go_wp2_with fail
  refine Mix.region0 (by kernel_rfl) ?_
  intro w27 hb27
  have hs27 : w26.heap.size + 0 ≤ w27.heap.size := (by have h := hb27.size; first | omega | (simp at h; omega))
  have hz27_0 : w.heap.size < w27.heap.size := (by omega)
  have hz27_1 : w.heap.size + 1 < w27.heap.size := (by omega)
  have hz27_2 : w1.heap.size < w27.heap.size := (by omega)
  have hz27_3 : w2.heap.size < w27.heap.size := (by omega)
  have hy27_0_0 : w.heap.size ≤ w26.heap.size := (by omega)
  have hy27_1_0 : w.heap.size + 1 ≤ w26.heap.size := (by omega)
  have hy27_2_0 : w1.heap.size ≤ w26.heap.size := (by omega)
  have hy27_3_0 : w2.heap.size ≤ w26.heap.size := (by omega)
  obtain ⟨hc27, hf27, hl27⟩ := bcell hb27
  clear hl27
  refine Mix.take_ex (_) 0 rfl (by kernel_rfl) (by kernel_rfl) (by kernel_rfl) (by kernel_rfl) (fun K hK => ?_)
  go_simp
  first | (refine hK _ ?_; clear hK K) | (apply Exists.intro; refine ⟨fun x => ?_, hK _ ?_⟩; (fail); clear hK K)
  refine Mix.take_ex (_) 1 rfl (by kernel_rfl) (by kernel_rfl) (by kernel_rfl) (by kernel_rfl) (fun K hK => ?_)
  go_simp
  first | (refine hK _ ?_; clear hK K) | (apply Exists.intro; refine ⟨fun x => ?_, hK _ ?_⟩; (fail); clear hK K)
  refine Mix.take_ex (_) 2 rfl (by kernel_rfl) (by kernel_rfl) (by kernel_rfl) (by kernel_rfl) (fun K hK => ?_)
  go_simp
  first | (refine hK _ ?_; clear hK K) | (apply Exists.intro; refine ⟨fun x => ?_, hK _ ?_⟩; (fail); clear hK K)
  refine Mix.take_ex (_) 4 rfl (by kernel_rfl) (by kernel_rfl) (by kernel_rfl) (by kernel_rfl) (fun K hK => ?_)
  go_simp
  first | (refine hK _ ?_; clear hK K) | (apply Exists.intro; refine ⟨fun x => ?_, hK _ ?_⟩; (fail); clear hK K)
  refine Mix.all (rs := [3]) (by kernel_rfl) (by simp) (Mix.over_of (by (repeat (first | assumption | exact Below.refl _ _ | refine ba ?_ _ | refine bd ?_ | refine bdn ?_ _ | refine bs ?_ (by first | omega | (simp; done) | (simp; omega)) _ | refine bt ?_ (by assumption))))) ?_
  intro i28 hi28 w28 hb28 hC28
  clear hC28
  have hs28 : w27.heap.size + 0 ≤ w28.heap.size := (by have h := hb28.size; first | omega | (simp at h; omega))
  have hb27_28 := bel hb27 hb28 (by (repeat (first | assumption | exact Below.refl _ _ | refine ba ?_ _ | refine bd ?_ | refine bdn ?_ _ | refine bs ?_ (by first | omega | (simp; done) | (simp; omega)) _ | refine bt ?_ (by assumption))))
  obtain ⟨hc27_28, hf27_28, hl27_28⟩ := bcell hb27_28
  clear hl27_28
  have hz28_0 : w.heap.size < w28.heap.size := (by omega)
  have hz28_1 : w.heap.size + 1 < w28.heap.size := (by omega)
  have hz28_2 : w1.heap.size < w28.heap.size := (by omega)
  have hz28_3 : w2.heap.size < w28.heap.size := (by omega)
  obtain ⟨hc28, hf28, hl28⟩ := bcell hb28
  clear hl28
  simp only [List.mem_cons, List.not_mem_nil, or_false] at hi28
  subst hi28
  refine Mix.op rfl (by kernel_rfl) ?_
  go_simp
  refine (HOa.out _).mono ?_
  rintro e w29 ⟨v29, rfl, hv29, hb29⟩
  refine ⟨_, rfl, ?_⟩
  have hs29 : w28.heap.size + 0 ≤ w29.heap.size := (by have h := hb29.size; first | omega | (simp at h; omega))
  have hb27_29 := bel hb27_28 hb29 (by (repeat (first | assumption | exact Below.refl _ _ | refine ba ?_ _ | refine bd ?_ | refine bdn ?_ _ | refine bs ?_ (by first | omega | (simp; done) | (simp; omega)) _ | refine bt ?_ (by assumption))))
  have hb28_29 := bel hb28 hb29 (by (repeat (first | assumption | exact Below.refl _ _ | refine ba ?_ _ | refine bd ?_ | refine bdn ?_ _ | refine bs ?_ (by first | omega | (simp; done) | (simp; omega)) _ | refine bt ?_ (by assumption))))
  clear hc27_28 hf27_28 hz28_0 hz28_1 hz28_2 hz28_3 hc28 hf28
  obtain ⟨hc27_29, hf27_29, hl27_29⟩ := bcell hb27_29
  clear hl27_29
  have hz29_0 : w.heap.size < w29.heap.size := (by omega)
  have hz29_1 : w.heap.size + 1 < w29.heap.size := (by omega)
  have hz29_2 : w1.heap.size < w29.heap.size := (by omega)
  have hz29_3 : w2.heap.size < w29.heap.size := (by omega)
  obtain ⟨hc29, hf29, hl29⟩ := bcell hb29
  clear hl29
  refine Mix.all (rs := [5]) (by kernel_rfl) (by simp) (Mix.over_of (by (repeat (first | assumption | exact Below.refl _ _ | refine ba ?_ _ | refine bd ?_ | refine bdn ?_ _ | refine bs ?_ (by first | omega | (simp; done) | (simp; omega)) _ | refine bt ?_ (by assumption))))) ?_
  intro i30 hi30 w30 hb30 hC30
  clear hC30
  have hs30 : w29.heap.size + 0 ≤ w30.heap.size := (by have h := hb30.size; first | omega | (simp at h; omega))
  have hb27_30 := bel hb27_29 hb30 (by (repeat (first | assumption | exact Below.refl _ _ | refine ba ?_ _ | refine bd ?_ | refine bdn ?_ _ | refine bs ?_ (by first | omega | (simp; done) | (simp; omega)) _ | refine bt ?_ (by assumption))))
  have hb28_30 := bel hb28_29 hb30 (by (repeat (first | assumption | exact Below.refl _ _ | refine ba ?_ _ | refine bd ?_ | refine bdn ?_ _ | refine bs ?_ (by first | omega | (simp; done) | (simp; omega)) _ | refine bt ?_ (by assumption))))
  have hb29_30 := bel hb29 hb30 (by (repeat (first | assumption | exact Below.refl _ _ | refine ba ?_ _ | refine bd ?_ | refine bdn ?_ _ | refine bs ?_ (by first | omega | (simp; done) | (simp; omega)) _ | refine bt ?_ (by assumption))))
  clear hc27_29 hf27_29 hz29_0 hz29_1 hz29_2 hz29_3 hc29 hf29
  obtain ⟨hc27_30, hf27_30, hl27_30⟩ := bcell hb27_30
  clear hl27_30
  have hz30_0 : w.heap.size < w30.heap.size := (by omega)
  have hz30_1 : w.heap.size + 1 < w30.heap.size := (by omega)
  have hz30_2 : w1.heap.size < w30.heap.size := (by omega)
  have hz30_3 : w2.heap.size < w30.heap.size := (by omega)
  obtain ⟨hc30, hf30, hl30⟩ := bcell hb30
  clear hl30
  simp only [List.mem_cons, List.not_mem_nil, or_false] at hi30
  subst hi30
  refine Mix.op rfl (by kernel_rfl) ?_
  go_simp
  refine (HOb.out _).mono ?_
  rintro e w31 ⟨v31, rfl, hv31, hb31⟩
  refine ⟨_, rfl, ?_⟩
  have hs31 : w30.heap.size + 0 ≤ w31.heap.size := (by have h := hb31.size; first | omega | (simp at h; omega))
  have hb27_31 := bel hb27_30 hb31 (by (repeat (first | assumption | exact Below.refl _ _ | refine ba ?_ _ | refine bd ?_ | refine bdn ?_ _ | refine bs ?_ (by first | omega | (simp; done) | (simp; omega)) _ | refine bt ?_ (by assumption))))
  have hb28_31 := bel hb28_30 hb31 (by (repeat (first | assumption | exact Below.refl _ _ | refine ba ?_ _ | refine bd ?_ | refine bdn ?_ _ | refine bs ?_ (by first | omega | (simp; done) | (simp; omega)) _ | refine bt ?_ (by assumption))))
  have hb29_31 := bel hb29_30 hb31 (by (repeat (first | assumption | exact Below.refl _ _ | refine ba ?_ _ | refine bd ?_ | refine bdn ?_ _ | refine bs ?_ (by first | omega | (simp; done) | (simp; omega)) _ | refine bt ?_ (by assumption))))
  have hb30_31 := bel hb30 hb31 (by (repeat (first | assumption | exact Below.refl _ _ | refine ba ?_ _ | refine bd ?_ | refine bdn ?_ _ | refine bs ?_ (by first | omega | (simp; done) | (simp; omega)) _ | refine bt ?_ (by assumption))))
  clear hc27_30 hf27_30 hz30_0 hz30_1 hz30_2 hz30_3 hc30 hf30
  obtain ⟨hc27_31, hf27_31, hl27_31⟩ := bcell hb27_31
  clear hl27_31
  have hz31_0 : w.heap.size < w31.heap.size := (by omega)
  have hz31_1 : w.heap.size + 1 < w31.heap.size := (by omega)
  have hz31_2 : w1.heap.size < w31.heap.size := (by omega)
  have hz31_3 : w2.heap.size < w31.heap.size := (by omega)
  obtain ⟨hc31, hf31, hl31⟩ := bcell hb31
  clear hl31
  refine Mix.all (rs := [6]) (by kernel_rfl) (by simp) (Mix.over_of (by (repeat (first | assumption | exact Below.refl _ _ | refine ba ?_ _ | refine bd ?_ | refine bdn ?_ _ | refine bs ?_ (by first | omega | (simp; done) | (simp; omega)) _ | refine bt ?_ (by assumption))))) ?_
  intro i32 hi32 w32 hb32 hC32
  clear hC32
  have hs32 : w31.heap.size + 0 ≤ w32.heap.size := (by have h := hb32.size; first | omega | (simp at h; omega))
  have hb27_32 := bel hb27_31 hb32 (by (repeat (first | assumption | exact Below.refl _ _ | refine ba ?_ _ | refine bd ?_ | refine bdn ?_ _ | refine bs ?_ (by first | omega | (simp; done) | (simp; omega)) _ | refine bt ?_ (by assumption))))
  have hb28_32 := bel hb28_31 hb32 (by (repeat (first | assumption | exact Below.refl _ _ | refine ba ?_ _ | refine bd ?_ | refine bdn ?_ _ | refine bs ?_ (by first | omega | (simp; done) | (simp; omega)) _ | refine bt ?_ (by assumption))))
  have hb29_32 := bel hb29_31 hb32 (by (repeat (first | assumption | exact Below.refl _ _ | refine ba ?_ _ | refine bd ?_ | refine bdn ?_ _ | refine bs ?_ (by first | omega | (simp; done) | (simp; omega)) _ | refine bt ?_ (by assumption))))
  have hb30_32 := bel hb30_31 hb32 (by (repeat (first | assumption | exact Below.refl _ _ | refine ba ?_ _ | refine bd ?_ | refine bdn ?_ _ | refine bs ?_ (by first | omega | (simp; done) | (simp; omega)) _ | refine bt ?_ (by assumption))))
  have hb31_32 := bel hb31 hb32 (by (repeat (first | assumption | exact Below.refl _ _ | refine ba ?_ _ | refine bd ?_ | refine bdn ?_ _ | refine bs ?_ (by first | omega | (simp; done) | (simp; omega)) _ | refine bt ?_ (by assumption))))
  clear hc27_31 hf27_31 hz31_0 hz31_1 hz31_2 hz31_3 hc31 hf31
  obtain ⟨hc27_32, hf27_32, hl27_32⟩ := bcell hb27_32
  clear hl27_32
  have hz32_0 : w.heap.size < w32.heap.size := (by omega)
  have hz32_1 : w.heap.size + 1 < w32.heap.size := (by omega)
  have hz32_2 : w1.heap.size < w32.heap.size := (by omega)
  have hz32_3 : w2.heap.size < w32.heap.size := (by omega)
  obtain ⟨hc32, hf32, hl32⟩ := bcell hb32
  clear hl32
  simp only [List.mem_cons, List.not_mem_nil, or_false] at hi32
  subst hi32
  refine Mix.op rfl (by kernel_rfl) ?_
  go_simp
  refine (HSab.out _ _ _ (hv29.grow hb30_32) (hv31.grow hb32)).mono ?_
  rintro e w33 ⟨v33, rfl, hv33, hb33⟩
  refine ⟨_, rfl, ?_⟩
  have hs33 : w32.heap.size + 0 ≤ w33.heap.size := (by have h := hb33.size; first | omega | (simp at h; omega))
  have hb27_33 := bel hb27_32 hb33 (by (repeat (first | assumption | exact Below.refl _ _ | refine ba ?_ _ | refine bd ?_ | refine bdn ?_ _ | refine bs ?_ (by first | omega | (simp; done) | (simp; omega)) _ | refine bt ?_ (by assumption))))
  have hb28_33 := bel hb28_32 hb33 (by (repeat (first | assumption | exact Below.refl _ _ | refine ba ?_ _ | refine bd ?_ | refine bdn ?_ _ | refine bs ?_ (by first | omega | (simp; done) | (simp; omega)) _ | refine bt ?_ (by assumption))))
  have hb29_33 := bel hb29_32 hb33 (by (repeat (first | assumption | exact Below.refl _ _ | refine ba ?_ _ | refine bd ?_ | refine bdn ?_ _ | refine bs ?_ (by first | omega | (simp; done) | (simp; omega)) _ | refine bt ?_ (by assumption))))
  have hb30_33 := bel hb30_32 hb33 (by (repeat (first | assumption | exact Below.refl _ _ | refine ba ?_ _ | refine bd ?_ | refine bdn ?_ _ | refine bs ?_ (by first | omega | (simp; done) | (simp; omega)) _ | refine bt ?_ (by assumption))))
  have hb31_33 := bel hb31_32 hb33 (by (repeat (first | assumption | exact Below.refl _ _ | refine ba ?_ _ | refine bd ?_ | refine bdn ?_ _ | refine bs ?_ (by first | omega | (simp; done) | (simp; omega)) _ | refine bt ?_ (by assumption))))
  have hb32_33 := bel hb32 hb33 (by (repeat (first | assumption | exact Below.refl _ _ | refine ba ?_ _ | refine bd ?_ | refine bdn ?_ _ | refine bs ?_ (by first | omega | (simp; done) | (simp; omega)) _ | refine bt ?_ (by assumption))))
  clear hc27_32 hf27_32 hz32_0 hz32_1 hz32_2 hz32_3 hc32 hf32
  obtain ⟨hc27_33, hf27_33, hl27_33⟩ := bcell hb27_33
  clear hl27_33
  have hz33_0 : w.heap.size < w33.heap.size := (by omega)
  have hz33_1 : w.heap.size + 1 < w33.heap.size := (by omega)
  have hz33_2 : w1.heap.size < w33.heap.size := (by omega)
  have hz33_3 : w2.heap.size < w33.heap.size := (by omega)
  obtain ⟨hc33, hf33, hl33⟩ := bcell hb33
  clear hl33
  refine Mix.all (rs := [7]) (by kernel_rfl) (by simp) (Mix.over_of (by (repeat (first | assumption | exact Below.refl _ _ | refine ba ?_ _ | refine bd ?_ | refine bdn ?_ _ | refine bs ?_ (by first | omega | (simp; done) | (simp; omega)) _ | refine bt ?_ (by assumption))))) ?_
  intro i34 hi34 w34 hb34 hC34
  clear hC34
  have hs34 : w33.heap.size + 0 ≤ w34.heap.size := (by have h := hb34.size; first | omega | (simp at h; omega))
  have hb27_34 := bel hb27_33 hb34 (by (repeat (first | assumption | exact Below.refl _ _ | refine ba ?_ _ | refine bd ?_ | refine bdn ?_ _ | refine bs ?_ (by first | omega | (simp; done) | (simp; omega)) _ | refine bt ?_ (by assumption))))
  have hb28_34 := bel hb28_33 hb34 (by (repeat (first | assumption | exact Below.refl _ _ | refine ba ?_ _ | refine bd ?_ | refine bdn ?_ _ | refine bs ?_ (by first | omega | (simp; done) | (simp; omega)) _ | refine bt ?_ (by assumption))))
  have hb29_34 := bel hb29_33 hb34 (by (repeat (first | assumption | exact Below.refl _ _ | refine ba ?_ _ | refine bd ?_ | refine bdn ?_ _ | refine bs ?_ (by first | omega | (simp; done) | (simp; omega)) _ | refine bt ?_ (by assumption))))
  have hb30_34 := bel hb30_33 hb34 (by (repeat (first | assumption | exact Below.refl _ _ | refine ba ?_ _ | refine bd ?_ | refine bdn ?_ _ | refine bs ?_ (by first | omega | (simp; done) | (simp; omega)) _ | refine bt ?_ (by assumption))))
  have hb31_34 := bel hb31_33 hb34 (by (repeat (first | assumption | exact Below.refl _ _ | refine ba ?_ _ | refine bd ?_ | refine bdn ?_ _ | refine bs ?_ (by first | omega | (simp; done) | (simp; omega)) _ | refine bt ?_ (by assumption))))
  have hb32_34 := bel hb32_33 hb34 (by (repeat (first | assumption | exact Below.refl _ _ | refine ba ?_ _ | refine bd ?_ | refine bdn ?_ _ | refine bs ?_ (by first | omega | (simp; done) | (simp; omega)) _ | refine bt ?_ (by assumption))))
  have hb33_34 := bel hb33 hb34 (by (repeat (first | assumption | exact Below.refl _ _ | refine ba ?_ _ | refine bd ?_ | refine bdn ?_ _ | refine bs ?_ (by first | omega | (simp; done) | (simp; omega)) _ | refine bt ?_ (by assumption))))
  clear hc27_33 hf27_33 hz33_0 hz33_1 hz33_2 hz33_3 hc33 hf33
  obtain ⟨hc27_34, hf27_34, hl27_34⟩ := bcell hb27_34
  clear hl27_34
  have hz34_0 : w.heap.size < w34.heap.size := (by omega)
  have hz34_1 : w.heap.size + 1 < w34.heap.size := (by omega)
  have hz34_2 : w1.heap.size < w34.heap.size := (by omega)
  have hz34_3 : w2.heap.size < w34.heap.size := (by omega)
  obtain ⟨hc34, hf34, hl34⟩ := bcell hb34
  clear hl34
  simp only [List.mem_cons, List.not_mem_nil, or_false] at hi34
  subst hi34
  refine Mix.op rfl (by kernel_rfl) ?_
  go_simp
  refine (HI1.out _ _ (hv33.grow hb34)).mono ?_
  rintro e w35 ⟨rfl, hb35⟩
  refine ⟨_, rfl, ?_⟩
  have hs35 : w34.heap.size + 0 ≤ w35.heap.size := (by have h := hb35.size; first | omega | (simp at h; omega))
  have hb27_35 := bel hb27_34 hb35 (by (repeat (first | assumption | exact Below.refl _ _ | refine ba ?_ _ | refine bd ?_ | refine bdn ?_ _ | refine bs ?_ (by first | omega | (simp; done) | (simp; omega)) _ | refine bt ?_ (by assumption))))
  have hb28_35 := bel hb28_34 hb35 (by (repeat (first | assumption | exact Below.refl _ _ | refine ba ?_ _ | refine bd ?_ | refine bdn ?_ _ | refine bs ?_ (by first | omega | (simp; done) | (simp; omega)) _ | refine bt ?_ (by assumption))))
  have hb29_35 := bel hb29_34 hb35 (by (repeat (first | assumption | exact Below.refl _ _ | refine ba ?_ _ | refine bd ?_ | refine bdn ?_ _ | refine bs ?_ (by first | omega | (simp; done) | (simp; omega)) _ | refine bt ?_ (by assumption))))
  have hb30_35 := bel hb30_34 hb35 (by (repeat (first | assumption | exact Below.refl _ _ | refine ba ?_ _ | refine bd ?_ | refine bdn ?_ _ | refine bs ?_ (by first | omega | (simp; done) | (simp; omega)) _ | refine bt ?_ (by assumption))))
  have hb31_35 := bel hb31_34 hb35 (by (repeat (first | assumption | exact Below.refl _ _ | refine ba ?_ _ | refine bd ?_ | refine bdn ?_ _ | refine bs ?_ (by first | omega | (simp; done) | (simp; omega)) _ | refine bt ?_ (by assumption))))
  have hb32_35 := bel hb32_34 hb35 (by (repeat (first | assumption | exact Below.refl _ _ | refine ba ?_ _ | refine bd ?_ | refine bdn ?_ _ | refine bs ?_ (by first | omega | (simp; done) | (simp; omega)) _ | refine bt ?_ (by assumption))))
  have hb33_35 := bel hb33_34 hb35 (by (repeat (first | assumption | exact Below.refl _ _ | refine ba ?_ _ | refine bd ?_ | refine bdn ?_ _ | refine bs ?_ (by first | omega | (simp; done) | (simp; omega)) _ | refine bt ?_ (by assumption))))
  have hb34_35 := bel hb34 hb35 (by (repeat (first | assumption | exact Below.refl _ _ | refine ba ?_ _ | refine bd ?_ | refine bdn ?_ _ | refine bs ?_ (by first | omega | (simp; done) | (simp; omega)) _ | refine bt ?_ (by assumption))))
  clear hc27_34 hf27_34 hz34_0 hz34_1 hz34_2 hz34_3 hc34 hf34
  obtain ⟨hc27_35, hf27_35, hl27_35⟩ := bcell hb27_35
  clear hl27_35
  have hz35_0 : w.heap.size < w35.heap.size := (by omega)
  have hz35_1 : w.heap.size + 1 < w35.heap.size := (by omega)
  have hz35_2 : w1.heap.size < w35.heap.size := (by omega)
  have hz35_3 : w2.heap.size < w35.heap.size := (by omega)
  obtain ⟨hc35, hf35, hl35⟩ := bcell hb35
  clear hl35
  clear hv29 hv31 hv33
  refine Mix.take_ex (_) 8 rfl (by kernel_rfl) (by kernel_rfl) (by kernel_rfl) (by kernel_rfl) (fun K hK => ?_)
  go_simp
  first | (refine hK _ ?_; clear hK K) | (apply Exists.intro; refine ⟨fun x => ?_, hK _ ?_⟩; (fail); clear hK K)
  refine Mix.take_ex (_) 9 rfl (by kernel_rfl) (by kernel_rfl) (by kernel_rfl) (by kernel_rfl) (fun K hK => ?_)
  go_simp
  first | (refine hK _ ?_; clear hK K) | (apply Exists.intro; refine ⟨fun x => ?_, hK _ ?_⟩; (fail); clear hK K)
  refine Mix.take_ex (_) 10 rfl (by kernel_rfl) (by kernel_rfl) (by kernel_rfl) (by kernel_rfl) (fun K hK => ?_)
  go_simp
  first | (refine hK _ ?_; clear hK K) | (apply Exists.intro; refine ⟨fun x => ?_, hK _ ?_⟩; (fail); clear hK K)
  refine Mix.take_ex (_) 11 rfl (by kernel_rfl) (by kernel_rfl) (by kernel_rfl) (by kernel_rfl) (fun K hK => ?_)
  go_simp
  first | (refine hK _ ?_; clear hK K) | (apply Exists.intro; refine ⟨fun x => ?_, hK _ ?_⟩; (fail); clear hK K)
  refine Mix.take_ex (_) 12 rfl (by kernel_rfl) (by kernel_rfl) (by kernel_rfl) (by kernel_rfl) (fun K hK => ?_)
  go_simp
  first | (refine hK _ ?_; clear hK K) | (apply Exists.intro; refine ⟨fun x => ?_, hK _ ?_⟩; (fail); clear hK K)
  refine Mix.take_ex (_) 13 rfl (by kernel_rfl) (by kernel_rfl) (by kernel_rfl) (by kernel_rfl) (fun K hK => ?_)
  go_simp
  first | (refine hK _ ?_; clear hK K) | (apply Exists.intro; refine ⟨fun x => ?_, hK _ ?_⟩; (fail); clear hK K)
  refine Mix.take_ex (_) 14 rfl (by kernel_rfl) (by kernel_rfl) (by kernel_rfl) (by kernel_rfl) (fun K hK => ?_)
  go_simp
  first | (refine hK _ ?_; clear hK K) | (apply Exists.intro; refine ⟨fun x => ?_, hK _ ?_⟩; (fail); clear hK K)
  refine Mix.take_ex (_) 15 rfl (by kernel_rfl) (by kernel_rfl) (by kernel_rfl) (by kernel_rfl) (fun K hK => ?_)
  go_simp
  first | (refine hK _ ?_; clear hK K) | (apply Exists.intro; refine ⟨fun x => ?_, hK _ ?_⟩; (fail); clear hK K)
  refine Mix.take_ex (_) 16 rfl (by kernel_rfl) (by kernel_rfl) (by kernel_rfl) (by kernel_rfl) (fun K hK => ?_)
  go_simp
  first | (refine hK _ ?_; clear hK K) | (apply Exists.intro; refine ⟨fun x => ?_, hK _ ?_⟩; (fail); clear hK K)
  refine Mix.take_ex (_) 17 rfl (by kernel_rfl) (by kernel_rfl) (by kernel_rfl) (by kernel_rfl) (fun K hK => ?_)
  go_simp
  first | (refine hK _ ?_; clear hK K) | (apply Exists.intro; refine ⟨fun x => ?_, hK _ ?_⟩; (fail); clear hK K)
  refine Mix.take_ex (_) 18 rfl (by kernel_rfl) (by kernel_rfl) (by kernel_rfl) (by kernel_rfl) (fun K hK => ?_)
  go_simp
  first | (refine hK _ ?_; clear hK K) | (apply Exists.intro; refine ⟨fun x => ?_, hK _ ?_⟩; (fail); clear hK K)
  refine Mix.take_ex (_) 19 rfl (by kernel_rfl) (by kernel_rfl) (by kernel_rfl) (by kernel_rfl) (fun K hK => ?_)
  go_simp
  first | (refine hK _ ?_; clear hK K) | (apply Exists.intro; refine ⟨fun x => ?_, hK _ ?_⟩; (fail); clear hK K)
  refine Mix.take_ex (_) 20 rfl (by kernel_rfl) (by kernel_rfl) (by kernel_rfl) (by kernel_rfl) (fun K hK => ?_)
  go_simp
  first | (refine hK _ ?_; clear hK K) | (apply Exists.intro; refine ⟨fun x => ?_, hK _ ?_⟩; (fail); clear hK K)
  refine Mix.take_ex (_) 21 rfl (by kernel_rfl) (by kernel_rfl) (by kernel_rfl) (by kernel_rfl) (fun K hK => ?_)
  go_simp
  first | (refine hK _ ?_; clear hK K) | (apply Exists.intro; refine ⟨fun x => ?_, hK _ ?_⟩; (fail); clear hK K)
  refine Mix.take_ex (_) 22 rfl (by kernel_rfl) (by kernel_rfl) (by kernel_rfl) (by kernel_rfl) (fun K hK => ?_)
  go_simp
  first | (refine hK _ ?_; clear hK K) | (apply Exists.intro; refine ⟨fun x => ?_, hK _ ?_⟩; (fail); clear hK K)
  refine Mix.take_ex (_) 23 rfl (by kernel_rfl) (by kernel_rfl) (by kernel_rfl) (by kernel_rfl) (fun K hK => ?_)
  go_simp
  first | (refine hK _ ?_; clear hK K) | (apply Exists.intro; refine ⟨fun x => ?_, hK _ ?_⟩; (fail); clear hK K)
  refine Mix.take_ex (_) 25 rfl (by kernel_rfl) (by kernel_rfl) (by kernel_rfl) (by kernel_rfl) (fun K hK => ?_)
  go_simp
  first | (refine hK _ ?_; clear hK K) | (apply Exists.intro; refine ⟨fun x => ?_, hK _ ?_⟩; (fail); clear hK K)
  refine Mix.take_ex (_) 29 rfl (by kernel_rfl) (by kernel_rfl) (by kernel_rfl) (by kernel_rfl) (fun K hK => ?_)
  go_simp
  first | (refine hK _ ?_; clear hK K) | (apply Exists.intro; refine ⟨fun x => ?_, hK _ ?_⟩; (fail); clear hK K)
  refine Mix.all (rs := [24]) (by kernel_rfl) (by simp) (Mix.over_of (by (repeat (first | assumption | exact Below.refl _ _ | refine ba ?_ _ | refine bd ?_ | refine bdn ?_ _ | refine bs ?_ (by first | omega | (simp; done) | (simp; omega)) _ | refine bt ?_ (by assumption))))) ?_
  intro i36 hi36 w36 hb36 hC36
  clear hC36
  have hs36 : w35.heap.size + 0 ≤ w36.heap.size := (by have h := hb36.size; first | omega | (simp at h; omega))
  have hb27_36 := bel hb27_35 hb36 (by (repeat (first | assumption | exact Below.refl _ _ | refine ba ?_ _ | refine bd ?_ | refine bdn ?_ _ | refine bs ?_ (by first | omega | (simp; done) | (simp; omega)) _ | refine bt ?_ (by assumption))))
  have hb28_36 := bel hb28_35 hb36 (by (repeat (first | assumption | exact Below.refl _ _ | refine ba ?_ _ | refine bd ?_ | refine bdn ?_ _ | refine bs ?_ (by first | omega | (simp; done) | (simp; omega)) _ | refine bt ?_ (by assumption))))
  have hb29_36 := bel hb29_35 hb36 (by (repeat (first | assumption | exact Below.refl _ _ | refine ba ?_ _ | refine bd ?_ | refine bdn ?_ _ | refine bs ?_ (by first | omega | (simp; done) | (simp; omega)) _ | refine bt ?_ (by assumption))))
  have hb30_36 := bel hb30_35 hb36 (by (repeat (first | assumption | exact Below.refl _ _ | refine ba ?_ _ | refine bd ?_ | refine bdn ?_ _ | refine bs ?_ (by first | omega | (simp; done) | (simp; omega)) _ | refine bt ?_ (by assumption))))
  have hb31_36 := bel hb31_35 hb36 (by (repeat (first | assumption | exact Below.refl _ _ | refine ba ?_ _ | refine bd ?_ | refine bdn ?_ _ | refine bs ?_ (by first | omega | (simp; done) | (simp; omega)) _ | refine bt ?_ (by assumption))))
  have hb32_36 := bel hb32_35 hb36 (by (repeat (first | assumption | exact Below.refl _ _ | refine ba ?_ _ | refine bd ?_ | refine bdn ?_ _ | refine bs ?_ (by first | omega | (simp; done) | (simp; omega)) _ | refine bt ?_ (by assumption))))
  have hb33_36 := bel hb33_35 hb36 (by (repeat (first | assumption | exact Below.refl _ _ | refine ba ?_ _ | refine bd ?_ | refine bdn ?_ _ | refine bs ?_ (by first | omega | (simp; done) | (simp; omega)) _ | refine bt ?_ (by assumption))))
  have hb34_36 := bel hb34_35 hb36 (by (repeat (first | assumption | exact Below.refl _ _ | refine ba ?_ _ | refine bd ?_ | refine bdn ?_ _ | refine bs ?_ (by first | omega | (simp; done) | (simp; omega)) _ | refine bt ?_ (by assumption))))
  have hb35_36 := bel hb35 hb36 (by (repeat (first | assumption | exact Below.refl _ _ | refine ba ?_ _ | refine bd ?_ | refine bdn ?_ _ | refine bs ?_ (by first | omega | (simp; done) | (simp; omega)) _ | refine bt ?_ (by assumption))))
  clear hc27_35 hf27_35 hz35_0 hz35_1 hz35_2 hz35_3 hc35 hf35
  obtain ⟨hc27_36, hf27_36, hl27_36⟩ := bcell hb27_36
  clear hl27_36
  have hz36_0 : w.heap.size < w36.heap.size := (by omega)
  have hz36_1 : w.heap.size + 1 < w36.heap.size := (by omega)
  have hz36_2 : w1.heap.size < w36.heap.size := (by omega)
  have hz36_3 : w2.heap.size < w36.heap.size := (by omega)
  obtain ⟨hc36, hf36, hl36⟩ := bcell hb36
  clear hl36
  simp only [List.mem_cons, List.not_mem_nil, or_false] at hi36
  subst hi36
  refine Mix.op rfl (by kernel_rfl) ?_
  go_simp
  refine (HOd.out _).mono ?_
  rintro e w37 ⟨v37, rfl, hv37, hb37⟩
  refine ⟨_, rfl, ?_⟩
  have hs37 : w36.heap.size + 0 ≤ w37.heap.size := (by have h := hb37.size; first | omega | (simp at h; omega))
  have hb27_37 := bel hb27_36 hb37 (by (repeat (first | assumption | exact Below.refl _ _ | refine ba ?_ _ | refine bd ?_ | refine bdn ?_ _ | refine bs ?_ (by first | omega | (simp; done) | (simp; omega)) _ | refine bt ?_ (by assumption))))
  have hb28_37 := bel hb28_36 hb37 (by (repeat (first | assumption | exact Below.refl _ _ | refine ba ?_ _ | refine bd ?_ | refine bdn ?_ _ | refine bs ?_ (by first | omega | (simp; done) | (simp; omega)) _ | refine bt ?_ (by assumption))))
  have hb29_37 := bel hb29_36 hb37 (by (repeat (first | assumption | exact Below.refl _ _ | refine ba ?_ _ | refine bd ?_ | refine bdn ?_ _ | refine bs ?_ (by first | omega | (simp; done) | (simp; omega)) _ | refine bt ?_ (by assumption))))
  have hb30_37 := bel hb30_36 hb37 (by (repeat (first | assumption | exact Below.refl _ _ | refine ba ?_ _ | refine bd ?_ | refine bdn ?_ _ | refine bs ?_ (by first | omega | (simp; done) | (simp; omega)) _ | refine bt ?_ (by assumption))))
  have hb31_37 := bel hb31_36 hb37 (by (repeat (first | assumption | exact Below.refl _ _ | refine ba ?_ _ | refine bd ?_ | refine bdn ?_ _ | refine bs ?_ (by first | omega | (simp; done) | (simp; omega)) _ | refine bt ?_ (by assumption))))
  have hb32_37 := bel hb32_36 hb37 (by (repeat (first | assumption | exact Below.refl _ _ | refine ba ?_ _ | refine bd ?_ | refine bdn ?_ _ | refine bs ?_ (by first | omega | (simp; done) | (simp; omega)) _ | refine bt ?_ (by assumption))))
  have hb33_37 := bel hb33_36 hb37 (by (repeat (first | assumption | exact Below.refl _ _ | refine ba ?_ _ | refine bd ?_ | refine bdn ?_ _ | refine bs ?_ (by first | omega | (simp; done) | (simp; omega)) _ | refine bt ?_ (by assumption))))
  have hb34_37 := bel hb34_36 hb37 (by (repeat (first | assumption | exact Below.refl _ _ | refine ba ?_ _ | refine bd ?_ | refine bdn ?_ _ | refine bs ?_ (by first | omega | (simp; done) | (simp; omega)) _ | refine bt ?_ (by assumption))))
  have hb35_37 := bel hb35_36 hb37 (by (repeat (first | assumption | exact Below.refl _ _ | refine ba ?_ _ | refine bd ?_ | refine bdn ?_ _ | refine bs ?_ (by first | omega | (simp; done) | (simp; omega)) _ | refine bt ?_ (by assumption))))
  have hb36_37 := bel hb36 hb37 (by (repeat (first | assumption | exact Below.refl _ _ | refine ba ?_ _ | refine bd ?_ | refine bdn ?_ _ | refine bs ?_ (by first | omega | (simp; done) | (simp; omega)) _ | refine bt ?_ (by assumption))))
  clear hc27_36 hf27_36 hz36_0 hz36_1 hz36_2 hz36_3 hc36 hf36
  obtain ⟨hc27_37, hf27_37, hl27_37⟩ := bcell hb27_37
  clear hl27_37
  have hz37_0 : w.heap.size < w37.heap.size := (by omega)
  have hz37_1 : w.heap.size + 1 < w37.heap.size := (by omega)
  have hz37_2 : w1.heap.size < w37.heap.size := (by omega)
  have hz37_3 : w2.heap.size < w37.heap.size := (by omega)
  obtain ⟨hc37, hf37, hl37⟩ := bcell hb37
  clear hl37
  refine Mix.all (rs := [26]) (by kernel_rfl) (by simp) (Mix.over_of (by (repeat (first | assumption | exact Below.refl _ _ | refine ba ?_ _ | refine bd ?_ | refine bdn ?_ _ | refine bs ?_ (by first | omega | (simp; done) | (simp; omega)) _ | refine bt ?_ (by assumption))))) ?_
  intro i38 hi38 w38 hb38 hC38
  clear hC38
  have hs38 : w37.heap.size + 0 ≤ w38.heap.size := (by have h := hb38.size; first | omega | (simp at h; omega))
  have hb27_38 := bel hb27_37 hb38 (by (repeat (first | assumption | exact Below.refl _ _ | refine ba ?_ _ | refine bd ?_ | refine bdn ?_ _ | refine bs ?_ (by first | omega | (simp; done) | (simp; omega)) _ | refine bt ?_ (by assumption))))
  have hb28_38 := bel hb28_37 hb38 (by (repeat (first | assumption | exact Below.refl _ _ | refine ba ?_ _ | refine bd ?_ | refine bdn ?_ _ | refine bs ?_ (by first | omega | (simp; done) | (simp; omega)) _ | refine bt ?_ (by assumption))))
  have hb29_38 := bel hb29_37 hb38 (by (repeat (first | assumption | exact Below.refl _ _ | refine ba ?_ _ | refine bd ?_ | refine bdn ?_ _ | refine bs ?_ (by first | omega | (simp; done) | (simp; omega)) _ | refine bt ?_ (by assumption))))
  have hb30_38 := bel hb30_37 hb38 (by (repeat (first | assumption | exact Below.refl _ _ | refine ba ?_ _ | refine bd ?_ | refine bdn ?_ _ | refine bs ?_ (by first | omega | (simp; done) | (simp; omega)) _ | refine bt ?_ (by assumption))))
  have hb31_38 := bel hb31_37 hb38 (by (repeat (first | assumption | exact Below.refl _ _ | refine ba ?_ _ | refine bd ?_ | refine bdn ?_ _ | refine bs ?_ (by first | omega | (simp; done) | (simp; omega)) _ | refine bt ?_ (by assumption))))
  have hb32_38 := bel hb32_37 hb38 (by (repeat (first | assumption | exact Below.refl _ _ | refine ba ?_ _ | refine bd ?_ | refine bdn ?_ _ | refine bs ?_ (by first | omega | (simp; done) | (simp; omega)) _ | refine bt ?_ (by assumption))))
  have hb33_38 := bel hb33_37 hb38 (by (repeat (first | assumption | exact Below.refl _ _ | refine ba ?_ _ | refine bd ?_ | refine bdn ?_ _ | refine bs ?_ (by first | omega | (simp; done) | (simp; omega)) _ | refine bt ?_ (by assumption))))
  have hb34_38 := bel hb34_37 hb38 (by (repeat (first | assumption | exact Below.refl _ _ | refine ba ?_ _ | refine bd ?_ | refine bdn ?_ _ | refine bs ?_ (by first | omega | (simp; done) | (simp; omega)) _ | refine bt ?_ (by assumption))))
  have hb35_38 := bel hb35_37 hb38 (by (repeat (first | assumption | exact Below.refl _ _ | refine ba ?_ _ | refine bd ?_ | refine bdn ?_ _ | refine bs ?_ (by first | omega | (simp; done) | (simp; omega)) _ | refine bt ?_ (by assumption))))
  have hb36_38 := bel hb36_37 hb38 (by (repeat (first | assumption | exact Below.refl _ _ | refine ba ?_ _ | refine bd ?_ | refine bdn ?_ _ | refine bs ?_ (by first | omega | (simp; done) | (simp; omega)) _ | refine bt ?_ (by assumption))))
  have hb37_38 := bel hb37 hb38 (by (repeat (first | assumption | exact Below.refl _ _ | refine ba ?_ _ | refine bd ?_ | refine bdn ?_ _ | refine bs ?_ (by first | omega | (simp; done) | (simp; omega)) _ | refine bt ?_ (by assumption))))
  clear hc27_37 hf27_37 hz37_0 hz37_1 hz37_2 hz37_3 hc37 hf37
  obtain ⟨hc27_38, hf27_38, hl27_38⟩ := bcell hb27_38
  clear hl27_38
  have hz38_0 : w.heap.size < w38.heap.size := (by omega)
  have hz38_1 : w.heap.size + 1 < w38.heap.size := (by omega)
  have hz38_2 : w1.heap.size < w38.heap.size := (by omega)
  have hz38_3 : w2.heap.size < w38.heap.size := (by omega)
  obtain ⟨hc38, hf38, hl38⟩ := bcell hb38
  clear hl38
  simp only [List.mem_cons, List.not_mem_nil, or_false] at hi38
  subst hi38
  refine Mix.op rfl (by kernel_rfl) ?_
  go_simp
  refine (HOb.out _).mono ?_
  rintro e w39 ⟨v39, rfl, hv39, hb39⟩
  refine ⟨_, rfl, ?_⟩
  have hs39 : w38.heap.size + 0 ≤ w39.heap.size := (by have h := hb39.size; first | omega | (simp at h; omega))
  have hb27_39 := bel hb27_38 hb39 (by (repeat (first | assumption | exact Below.refl _ _ | refine ba ?_ _ | refine bd ?_ | refine bdn ?_ _ | refine bs ?_ (by first | omega | (simp; done) | (simp; omega)) _ | refine bt ?_ (by assumption))))
  have hb28_39 := bel hb28_38 hb39 (by (repeat (first | assumption | exact Below.refl _ _ | refine ba ?_ _ | refine bd ?_ | refine bdn ?_ _ | refine bs ?_ (by first | omega | (simp; done) | (simp; omega)) _ | refine bt ?_ (by assumption))))
  have hb29_39 := bel hb29_38 hb39 (by (repeat (first | assumption | exact Below.refl _ _ | refine ba ?_ _ | refine bd ?_ | refine bdn ?_ _ | refine bs ?_ (by first | omega | (simp; done) | (simp; omega)) _ | refine bt ?_ (by assumption))))
  have hb30_39 := bel hb30_38 hb39 (by (repeat (first | assumption | exact Below.refl _ _ | refine ba ?_ _ | refine bd ?_ | refine bdn ?_ _ | refine bs ?_ (by first | omega | (simp; done) | (simp; omega)) _ | refine bt ?_ (by assumption))))
  have hb31_39 := bel hb31_38 hb39 (by (repeat (first | assumption | exact Below.refl _ _ | refine ba ?_ _ | refine bd ?_ | refine bdn ?_ _ | refine bs ?_ (by first | omega | (simp; done) | (simp; omega)) _ | refine bt ?_ (by assumption))))
  have hb32_39 := bel hb32_38 hb39 (by (repeat (first | assumption | exact Below.refl _ _ | refine ba ?_ _ | refine bd ?_ | refine bdn ?_ _ | refine bs ?_ (by first | omega | (simp; done) | (simp; omega)) _ | refine bt ?_ (by assumption))))
  have hb33_39 := bel hb33_38 hb39 (by (repeat (first | assumption | exact Below.refl _ _ | refine ba ?_ _ | refine bd ?_ | refine bdn ?_ _ | refine bs ?_ (by first | omega | (simp; done) | (simp; omega)) _ | refine bt ?_ (by assumption))))
  have hb34_39 := bel hb34_38 hb39 (by (repeat (first | assumption | exact Below.refl _ _ | refine ba ?_ _ | refine bd ?_ | refine bdn ?_ _ | refine bs ?_ (by first | omega | (simp; done) | (simp; omega)) _ | refine bt ?_ (by assumption))))
  have hb35_39 := bel hb35_38 hb39 (by (repeat (first | assumption | exact Below.refl _ _ | refine ba ?_ _ | refine bd ?_ | refine bdn ?_ _ | refine bs ?_ (by first | omega | (simp; done) | (simp; omega)) _ | refine bt ?_ (by assumption))))
  have hb36_39 := bel hb36_38 hb39 (by (repeat (first | assumption | exact Below.refl _ _ | refine ba ?_ _ | refine bd ?_ | refine bdn ?_ _ | refine bs ?_ (by first | omega | (simp; done) | (simp; omega)) _ | refine bt ?_ (by assumption))))
  have hb37_39 := bel hb37_38 hb39 (by (repeat (first | assumption | exact Below.refl _ _ | refine ba ?_ _ | refine bd ?_ | refine bdn ?_ _ | refine bs ?_ (by first | omega | (simp; done) | (simp; omega)) _ | refine bt ?_ (by assumption))))
  have hb38_39 := bel hb38 hb39 (by (repeat (first | assumption | exact Below.refl _ _ | refine ba ?_ _ | refine bd ?_ | refine bdn ?_ _ | refine bs ?_ (by first | omega | (simp; done) | (simp; omega)) _ | refine bt ?_ (by assumption))))
  clear hc27_38 hf27_38 hz38_0 hz38_1 hz38_2 hz38_3 hc38 hf38
  obtain ⟨hc27_39, hf27_39, hl27_39⟩ := bcell hb27_39
  clear hl27_39
  have hz39_0 : w.heap.size < w39.heap.size := (by omega)
  have hz39_1 : w.heap.size + 1 < w39.heap.size := (by omega)
  have hz39_2 : w1.heap.size < w39.heap.size := (by omega)
  have hz39_3 : w2.heap.size < w39.heap.size := (by omega)
  obtain ⟨hc39, hf39, hl39⟩ := bcell hb39
  clear hl39
  refine Mix.all (rs := [27]) (by kernel_rfl) (by simp) (Mix.over_of (by (repeat (first | assumption | exact Below.refl _ _ | refine ba ?_ _ | refine bd ?_ | refine bdn ?_ _ | refine bs ?_ (by first | omega | (simp; done) | (simp; omega)) _ | refine bt ?_ (by assumption))))) ?_
  intro i40 hi40 w40 hb40 hC40
  clear hC40
  have hs40 : w39.heap.size + 0 ≤ w40.heap.size := (by have h := hb40.size; first | omega | (simp at h; omega))
  have hb27_40 := bel hb27_39 hb40 (by (repeat (first | assumption | exact Below.refl _ _ | refine ba ?_ _ | refine bd ?_ | refine bdn ?_ _ | refine bs ?_ (by first | omega | (simp; done) | (simp; omega)) _ | refine bt ?_ (by assumption))))
  have hb28_40 := bel hb28_39 hb40 (by (repeat (first | assumption | exact Below.refl _ _ | refine ba ?_ _ | refine bd ?_ | refine bdn ?_ _ | refine bs ?_ (by first | omega | (simp; done) | (simp; omega)) _ | refine bt ?_ (by assumption))))
  have hb29_40 := bel hb29_39 hb40 (by (repeat (first | assumption | exact Below.refl _ _ | refine ba ?_ _ | refine bd ?_ | refine bdn ?_ _ | refine bs ?_ (by first | omega | (simp; done) | (simp; omega)) _ | refine bt ?_ (by assumption))))
  have hb30_40 := bel hb30_39 hb40 (by (repeat (first | assumption | exact Below.refl _ _ | refine ba ?_ _ | refine bd ?_ | refine bdn ?_ _ | refine bs ?_ (by first | omega | (simp; done) | (simp; omega)) _ | refine bt ?_ (by assumption))))
  have hb31_40 := bel hb31_39 hb40 (by (repeat (first | assumption | exact Below.refl _ _ | refine ba ?_ _ | refine bd ?_ | refine bdn ?_ _ | refine bs ?_ (by first | omega | (simp; done) | (simp; omega)) _ | refine bt ?_ (by assumption))))
  have hb32_40 := bel hb32_39 hb40 (by (repeat (first | assumption | exact Below.refl _ _ | refine ba ?_ _ | refine bd ?_ | refine bdn ?_ _ | refine bs ?_ (by first | omega | (simp; done) | (simp; omega)) _ | refine bt ?_ (by assumption))))
  have hb33_40 := bel hb33_39 hb40 (by (repeat (first | assumption | exact Below.refl _ _ | refine ba ?_ _ | refine bd ?_ | refine bdn ?_ _ | refine bs ?_ (by first | omega | (simp; done) | (simp; omega)) _ | refine bt ?_ (by assumption))))
  have hb34_40 := bel hb34_39 hb40 (by (repeat (first | assumption | exact Below.refl _ _ | refine ba ?_ _ | refine bd ?_ | refine bdn ?_ _ | refine bs ?_ (by first | omega | (simp; done) | (simp; omega)) _ | refine bt ?_ (by assumption))))
  have hb35_40 := bel hb35_39 hb40 (by (repeat (first | assumption | exact Below.refl _ _ | refine ba ?_ _ | refine bd ?_ | refine bdn ?_ _ | refine bs ?_ (by first | omega | (simp; done) | (simp; omega)) _ | refine bt ?_ (by assumption))))
  have hb36_40 := bel hb36_39 hb40 (by (repeat (first | assumption | exact Below.refl _ _ | refine ba ?_ _ | refine bd ?_ | refine bdn ?_ _ | refine bs ?_ (by first | omega | (simp; done) | (simp; omega)) _ | refine bt ?_ (by assumption))))
  have hb37_40 := bel hb37_39 hb40 (by (repeat (first | assumption | exact Below.refl _ _ | refine ba ?_ _ | refine bd ?_ | refine bdn ?_ _ | refine bs ?_ (by first | omega | (simp; done) | (simp; omega)) _ | refine bt ?_ (by assumption))))
  have hb38_40 := bel hb38_39 hb40 (by (repeat (first | assumption | exact Below.refl _ _ | refine ba ?_ _ | refine bd ?_ | refine bdn ?_ _ | refine bs ?_ (by first | omega | (simp; done) | (simp; omega)) _ | refine bt ?_ (by assumption))))
  have hb39_40 := bel hb39 hb40 (by (repeat (first | assumption | exact Below.refl _ _ | refine ba ?_ _ | refine bd ?_ | refine bdn ?_ _ | refine bs ?_ (by first | omega | (simp; done) | (simp; omega)) _ | refine bt ?_ (by assumption))))
  clear hc27_39 hf27_39 hz39_0 hz39_1 hz39_2 hz39_3 hc39 hf39
  obtain ⟨hc27_40, hf27_40, hl27_40⟩ := bcell hb27_40
  clear hl27_40
  have hz40_0 : w.heap.size < w40.heap.size := (by omega)
  have hz40_1 : w.heap.size + 1 < w40.heap.size := (by omega)
  have hz40_2 : w1.heap.size < w40.heap.size := (by omega)
  have hz40_3 : w2.heap.size < w40.heap.size := (by omega)
  obtain ⟨hc40, hf40, hl40⟩ := bcell hb40
  clear hl40
  simp only [List.mem_cons, List.not_mem_nil, or_false] at hi40
  subst hi40
  refine Mix.op rfl (by kernel_rfl) ?_
  go_simp
  refine (HSdb.out _ _ _ (hv37.grow hb38_40) (hv39.grow hb40)).mono ?_
  rintro e w41 ⟨v41, rfl, hv41, hb41⟩
  refine ⟨_, rfl, ?_⟩
  have hs41 : w40.heap.size + 0 ≤ w41.heap.size := (by have h := hb41.size; first | omega | (simp at h; omega))
  have hb27_41 := bel hb27_40 hb41 (by (repeat (first | assumption | exact Below.refl _ _ | refine ba ?_ _ | refine bd ?_ | refine bdn ?_ _ | refine bs ?_ (by first | omega | (simp; done) | (simp; omega)) _ | refine bt ?_ (by assumption))))
  have hb28_41 := bel hb28_40 hb41 (by (repeat (first | assumption | exact Below.refl _ _ | refine ba ?_ _ | refine bd ?_ | refine bdn ?_ _ | refine bs ?_ (by first | omega | (simp; done) | (simp; omega)) _ | refine bt ?_ (by assumption))))
  have hb29_41 := bel hb29_40 hb41 (by (repeat (first | assumption | exact Below.refl _ _ | refine ba ?_ _ | refine bd ?_ | refine bdn ?_ _ | refine bs ?_ (by first | omega | (simp; done) | (simp; omega)) _ | refine bt ?_ (by assumption))))
  have hb30_41 := bel hb30_40 hb41 (by (repeat (first | assumption | exact Below.refl _ _ | refine ba ?_ _ | refine bd ?_ | refine bdn ?_ _ | refine bs ?_ (by first | omega | (simp; done) | (simp; omega)) _ | refine bt ?_ (by assumption))))
  have hb31_41 := bel hb31_40 hb41 (by (repeat (first | assumption | exact Below.refl _ _ | refine ba ?_ _ | refine bd ?_ | refine bdn ?_ _ | refine bs ?_ (by first | omega | (simp; done) | (simp; omega)) _ | refine bt ?_ (by assumption))))
  have hb32_41 := bel hb32_40 hb41 (by (repeat (first | assumption | exact Below.refl _ _ | refine ba ?_ _ | refine bd ?_ | refine bdn ?_ _ | refine bs ?_ (by first | omega | (simp; done) | (simp; omega)) _ | refine bt ?_ (by assumption))))
  have hb33_41 := bel hb33_40 hb41 (by (repeat (first | assumption | exact Below.refl _ _ | refine ba ?_ _ | refine bd ?_ | refine bdn ?_ _ | refine bs ?_ (by first | omega | (simp; done) | (simp; omega)) _ | refine bt ?_ (by assumption))))
  have hb34_41 := bel hb34_40 hb41 (by (repeat (first | assumption | exact Below.refl _ _ | refine ba ?_ _ | refine bd ?_ | refine bdn ?_ _ | refine bs ?_ (by first | omega | (simp; done) | (simp; omega)) _ | refine bt ?_ (by assumption))))
  have hb35_41 := bel hb35_40 hb41 (by (repeat (first | assumption | exact Below.refl _ _ | refine ba ?_ _ | refine bd ?_ | refine bdn ?_ _ | refine bs ?_ (by first | omega | (simp; done) | (simp; omega)) _ | refine bt ?_ (by assumption))))
  have hb36_41 := bel hb36_40 hb41 (by (repeat (first | assumption | exact Below.refl _ _ | refine ba ?_ _ | refine bd ?_ | refine bdn ?_ _ | refine bs ?_ (by first | omega | (simp; done) | (simp; omega)) _ | refine bt ?_ (by assumption))))
  have hb37_41 := bel hb37_40 hb41 (by (repeat (first | assumption | exact Below.refl _ _ | refine ba ?_ _ | refine bd ?_ | refine bdn ?_ _ | refine bs ?_ (by first | omega | (simp; done) | (simp; omega)) _ | refine bt ?_ (by assumption))))
  have hb38_41 := bel hb38_40 hb41 (by (repeat (first | assumption | exact Below.refl _ _ | refine ba ?_ _ | refine bd ?_ | refine bdn ?_ _ | refine bs ?_ (by first | omega | (simp; done) | (simp; omega)) _ | refine bt ?_ (by assumption))))
  have hb39_41 := bel hb39_40 hb41 (by (repeat (first | assumption | exact Below.refl _ _ | refine ba ?_ _ | refine bd ?_ | refine bdn ?_ _ | refine bs ?_ (by first | omega | (simp; done) | (simp; omega)) _ | refine bt ?_ (by assumption))))
  have hb40_41 := bel hb40 hb41 (by (repeat (first | assumption | exact Below.refl _ _ | refine ba ?_ _ | refine bd ?_ | refine bdn ?_ _ | refine bs ?_ (by first | omega | (simp; done) | (simp; omega)) _ | refine bt ?_ (by assumption))))
  clear hc27_40 hf27_40 hz40_0 hz40_1 hz40_2 hz40_3 hc40 hf40
  obtain ⟨hc27_41, hf27_41, hl27_41⟩ := bcell hb27_41
  clear hl27_41
  have hz41_0 : w.heap.size < w41.heap.size := (by omega)
  have hz41_1 : w.heap.size + 1 < w41.heap.size := (by omega)
  have hz41_2 : w1.heap.size < w41.heap.size := (by omega)
  have hz41_3 : w2.heap.size < w41.heap.size := (by omega)
  obtain ⟨hc41, hf41, hl41⟩ := bcell hb41
  clear hl41
  clear hv37 hv39
  obtain ⟨g, cap, rfl, hg0, hg1, hcap⟩ := row_open hv41 (by decide)
  have hcap8 : (8 : Int) ≤ (cap : Int) := by omega
  have hne8 : ¬ (cap = 0) := by omega
  refine Mix.take_ex (_) 28 rfl (by kernel_rfl) (by kernel_rfl) (by kernel_rfl) (by kernel_rfl) (fun K hK => ?_)
  go_simp
  first | (refine hK _ ?_; clear hK K) | (apply Exists.intro; refine ⟨fun x => ?_, hK _ ?_⟩; (fail); clear hK K)
  refine Mix.take_ex (_) 30 rfl (by kernel_rfl) (by kernel_rfl) (by kernel_rfl) (by kernel_rfl) (fun K hK => ?_)
  go_simp
  first | (refine hK _ ?_; clear hK K) | (apply Exists.intro; refine ⟨fun x => ?_, hK _ ?_⟩; ((go_at_call 18; with_reducible exact HAF.out _)); clear hK K)
  refine Mix.all (rs := [31]) (by kernel_rfl) (by simp) (Mix.over_of (by (repeat (first | assumption | exact Below.refl _ _ | refine ba ?_ _ | refine bd ?_ | refine bdn ?_ _ | refine bs ?_ (by first | omega | (simp; done) | (simp; omega)) _ | refine bt ?_ (by assumption))))) ?_
  intro i42 hi42 w42 hb42 hC42
  clear hC42
  have hs42 : w41.heap.size + 0 ≤ w42.heap.size := (by have h := hb42.size; first | omega | (simp at h; omega))
  have hb27_42 := bel hb27_41 hb42 (by (repeat (first | assumption | exact Below.refl _ _ | refine ba ?_ _ | refine bd ?_ | refine bdn ?_ _ | refine bs ?_ (by first | omega | (simp; done) | (simp; omega)) _ | refine bt ?_ (by assumption))))
  have hb28_42 := bel hb28_41 hb42 (by (repeat (first | assumption | exact Below.refl _ _ | refine ba ?_ _ | refine bd ?_ | refine bdn ?_ _ | refine bs ?_ (by first | omega | (simp; done) | (simp; omega)) _ | refine bt ?_ (by assumption))))
  have hb29_42 := bel hb29_41 hb42 (by (repeat (first | assumption | exact Below.refl _ _ | refine ba ?_ _ | refine bd ?_ | refine bdn ?_ _ | refine bs ?_ (by first | omega | (simp; done) | (simp; omega)) _ | refine bt ?_ (by assumption))))
  have hb30_42 := bel hb30_41 hb42 (by (repeat (first | assumption | exact Below.refl _ _ | refine ba ?_ _ | refine bd ?_ | refine bdn ?_ _ | refine bs ?_ (by first | omega | (simp; done) | (simp; omega)) _ | refine bt ?_ (by assumption))))
  have hb31_42 := bel hb31_41 hb42 (by (repeat (first | assumption | exact Below.refl _ _ | refine ba ?_ _ | refine bd ?_ | refine bdn ?_ _ | refine bs ?_ (by first | omega | (simp; done) | (simp; omega)) _ | refine bt ?_ (by assumption))))
  have hb32_42 := bel hb32_41 hb42 (by (repeat (first | assumption | exact Below.refl _ _ | refine ba ?_ _ | refine bd ?_ | refine bdn ?_ _ | refine bs ?_ (by first | omega | (simp; done) | (simp; omega)) _ | refine bt ?_ (by assumption))))
  have hb33_42 := bel hb33_41 hb42 (by (repeat (first | assumption | exact Below.refl _ _ | refine ba ?_ _ | refine bd ?_ | refine bdn ?_ _ | refine bs ?_ (by first | omega | (simp; done) | (simp; omega)) _ | refine bt ?_ (by assumption))))
  have hb34_42 := bel hb34_41 hb42 (by (repeat (first | assumption | exact Below.refl _ _ | refine ba ?_ _ | refine bd ?_ | refine bdn ?_ _ | refine bs ?_ (by first | omega | (simp; done) | (simp; omega)) _ | refine bt ?_ (by assumption))))
  have hb35_42 := bel hb35_41 hb42 (by (repeat (first | assumption | exact Below.refl _ _ | refine ba ?_ _ | refine bd ?_ | refine bdn ?_ _ | refine bs ?_ (by first | omega | (simp; done) | (simp; omega)) _ | refine bt ?_ (by assumption))))
  have hb36_42 := bel hb36_41 hb42 (by (repeat (first | assumption | exact Below.refl _ _ | refine ba ?_ _ | refine bd ?_ | refine bdn ?_ _ | refine bs ?_ (by first | omega | (simp; done) | (simp; omega)) _ | refine bt ?_ (by assumption))))
  have hb37_42 := bel hb37_41 hb42 (by (repeat (first | assumption | exact Below.refl _ _ | refine ba ?_ _ | refine bd ?_ | refine bdn ?_ _ | refine bs ?_ (by first | omega | (simp; done) | (simp; omega)) _ | refine bt ?_ (by assumption))))
  have hb38_42 := bel hb38_41 hb42 (by (repeat (first | assumption | exact Below.refl _ _ | refine ba ?_ _ | refine bd ?_ | refine bdn ?_ _ | refine bs ?_ (by first | omega | (simp; done) | (simp; omega)) _ | refine bt ?_ (by assumption))))
  have hb39_42 := bel hb39_41 hb42 (by (repeat (first | assumption | exact Below.refl _ _ | refine ba ?_ _ | refine bd ?_ | refine bdn ?_ _ | refine bs ?_ (by first | omega | (simp; done) | (simp; omega)) _ | refine bt ?_ (by assumption))))
  have hb40_42 := bel hb40_41 hb42 (by (repeat (first | assumption | exact Below.refl _ _ | refine ba ?_ _ | refine bd ?_ | refine bdn ?_ _ | refine bs ?_ (by first | omega | (simp; done) | (simp; omega)) _ | refine bt ?_ (by assumption))))
  have hb41_42 := bel hb41 hb42 (by (repeat (first | assumption | exact Below.refl _ _ | refine ba ?_ _ | refine bd ?_ | refine bdn ?_ _ | refine bs ?_ (by first | omega | (simp; done) | (simp; omega)) _ | refine bt ?_ (by assumption))))
  clear hc27_41 hf27_41 hz41_0 hz41_1 hz41_2 hz41_3 hc41 hf41
  obtain ⟨hc27_42, hf27_42, hl27_42⟩ := bcell hb27_42
  clear hl27_42
  have hz42_0 : w.heap.size < w42.heap.size := (by omega)
  have hz42_1 : w.heap.size + 1 < w42.heap.size := (by omega)
  have hz42_2 : w1.heap.size < w42.heap.size := (by omega)
  have hz42_3 : w2.heap.size < w42.heap.size := (by omega)
  obtain ⟨hc42, hf42, hl42⟩ := bcell hb42
  clear hl42
  simp only [List.mem_cons, List.not_mem_nil, or_false] at hi42
  subst hi42
  refine Mix.op rfl (by kernel_rfl) ?_
  go_simp
  refine Mix.all (rs := [32]) (by kernel_rfl) (by simp) (Mix.over_of (by (repeat (first | assumption | exact Below.refl _ _ | refine ba ?_ _ | refine bd ?_ | refine bdn ?_ _ | refine bs ?_ (by first | omega | (simp; done) | (simp; omega)) _ | refine bt ?_ (by assumption))))) ?_
  intro i43 hi43 w43 hb43 hC43
  clear hC43
  have hs43 : w42.heap.size + 1 ≤ w43.heap.size := (by have h := hb43.size; first | omega | (simp at h; omega))
  have hb27_43 := bel hb27_42 hb43 (by (repeat (first | assumption | exact Below.refl _ _ | refine ba ?_ _ | refine bd ?_ | refine bdn ?_ _ | refine bs ?_ (by first | omega | (simp; done) | (simp; omega)) _ | refine bt ?_ (by assumption))))
  have hb28_43 := bel hb28_42 hb43 (by (repeat (first | assumption | exact Below.refl _ _ | refine ba ?_ _ | refine bd ?_ | refine bdn ?_ _ | refine bs ?_ (by first | omega | (simp; done) | (simp; omega)) _ | refine bt ?_ (by assumption))))
  have hb29_43 := bel hb29_42 hb43 (by (repeat (first | assumption | exact Below.refl _ _ | refine ba ?_ _ | refine bd ?_ | refine bdn ?_ _ | refine bs ?_ (by first | omega | (simp; done) | (simp; omega)) _ | refine bt ?_ (by assumption))))
  have hb30_43 := bel hb30_42 hb43 (by (repeat (first | assumption | exact Below.refl _ _ | refine ba ?_ _ | refine bd ?_ | refine bdn ?_ _ | refine bs ?_ (by first | omega | (simp; done) | (simp; omega)) _ | refine bt ?_ (by assumption))))
  have hb31_43 := bel hb31_42 hb43 (by (repeat (first | assumption | exact Below.refl _ _ | refine ba ?_ _ | refine bd ?_ | refine bdn ?_ _ | refine bs ?_ (by first | omega | (simp; done) | (simp; omega)) _ | refine bt ?_ (by assumption))))
  have hb32_43 := bel hb32_42 hb43 (by (repeat (first | assumption | exact Below.refl _ _ | refine ba ?_ _ | refine bd ?_ | refine bdn ?_ _ | refine bs ?_ (by first | omega | (simp; done) | (simp; omega)) _ | refine bt ?_ (by assumption))))
  have hb33_43 := bel hb33_42 hb43 (by (repeat (first | assumption | exact Below.refl _ _ | refine ba ?_ _ | refine bd ?_ | refine bdn ?_ _ | refine bs ?_ (by first | omega | (simp; done) | (simp; omega)) _ | refine bt ?_ (by assumption))))
  have hb34_43 := bel hb34_42 hb43 (by (repeat (first | assumption | exact Below.refl _ _ | refine ba ?_ _ | refine bd ?_ | refine bdn ?_ _ | refine bs ?_ (by first | omega | (simp; done) | (simp; omega)) _ | refine bt ?_ (by assumption))))
  have hb35_43 := bel hb35_42 hb43 (by (repeat (first | assumption | exact Below.refl _ _ | refine ba ?_ _ | refine bd ?_ | refine bdn ?_ _ | refine bs ?_ (by first | omega | (simp; done) | (simp; omega)) _ | refine bt ?_ (by assumption))))
  have hb36_43 := bel hb36_42 hb43 (by (repeat (first | assumption | exact Below.refl _ _ | refine ba ?_ _ | refine bd ?_ | refine bdn ?_ _ | refine bs ?_ (by first | omega | (simp; done) | (simp; omega)) _ | refine bt ?_ (by assumption))))
  have hb37_43 := bel hb37_42 hb43 (by (repeat (first | assumption | exact Below.refl _ _ | refine ba ?_ _ | refine bd ?_ | refine bdn ?_ _ | refine bs ?_ (by first | omega | (simp; done) | (simp; omega)) _ | refine bt ?_ (by assumption))))
  have hb38_43 := bel hb38_42 hb43 (by (repeat (first | assumption | exact Below.refl _ _ | refine ba ?_ _ | refine bd ?_ | refine bdn ?_ _ | refine bs ?_ (by first | omega | (simp; done) | (simp; omega)) _ | refine bt ?_ (by assumption))))
  have hb39_43 := bel hb39_42 hb43 (by (repeat (first | assumption | exact Below.refl _ _ | refine ba ?_ _ | refine bd ?_ | refine bdn ?_ _ | refine bs ?_ (by first | omega | (simp; done) | (simp; omega)) _ | refine bt ?_ (by assumption))))
  have hb40_43 := bel hb40_42 hb43 (by (repeat (first | assumption | exact Below.refl _ _ | refine ba ?_ _ | refine bd ?_ | refine bdn ?_ _ | refine bs ?_ (by first | omega | (simp; done) | (simp; omega)) _ | refine bt ?_ (by assumption))))
  have hb41_43 := bel hb41_42 hb43 (by (repeat (first | assumption | exact Below.refl _ _ | refine ba ?_ _ | refine bd ?_ | refine bdn ?_ _ | refine bs ?_ (by first | omega | (simp; done) | (simp; omega)) _ | refine bt ?_ (by assumption))))
  have hb42_43 := bel hb42 hb43 (by (repeat (first | assumption | exact Below.refl _ _ | refine ba ?_ _ | refine bd ?_ | refine bdn ?_ _ | refine bs ?_ (by first | omega | (simp; done) | (simp; omega)) _ | refine bt ?_ (by assumption))))
  clear hc27_42 hf27_42 hz42_0 hz42_1 hz42_2 hz42_3 hc42 hf42
  obtain ⟨hc27_43, hf27_43, hl27_43⟩ := bcell hb27_43
  clear hl27_43
  have hz43_0 : w.heap.size < w43.heap.size := (by omega)
  have hz43_1 : w.heap.size + 1 < w43.heap.size := (by omega)
  have hz43_2 : w1.heap.size < w43.heap.size := (by omega)
  have hz43_3 : w2.heap.size < w43.heap.size := (by omega)
  have hz43_4 : w42.heap.size < w43.heap.size := (by omega)
  obtain ⟨hc43, hf43, hl43⟩ := bcell hb43
  clear hl43
  simp only [List.mem_cons, List.not_mem_nil, or_false] at hi43
  subst hi43
  refine Mix.op rfl (by kernel_rfl) ?_
  have hr43 := ownsRow_grow (row_take hv41 (show 8 ≤ 9 by decide)) hb42_43
  have hx43 : w43.cell? ⟨w42.heap.size, 0, none⟩ = some (.int .i64 1) := by rw [hc43 _ _ (by simp)]; simp [go_sem]
  refine append_one _ _ rfl (v := .slice (some ⟨g, 0, none⟩) 8 cap) rfl (ad := ⟨w42.heap.size, 0, none⟩) (c := 1) rfl hr43 hx43 (by decide) (by omega) ?_
  intro v44 w44 hv44 hg44
  have hs44 : w43.heap.size + 0 ≤ w44.heap.size := hg44.size
  have hb27_44 : Below w26.heap.size w26 w44 := hb27_43.grown hg44 (by omega) (fun k hk => by simp [Value.ownBlock] at hk; omega)
  have hi44 : Ints w44 v44 ((digs 9 (D + B)).take 8 ++ [1]) := Ints.of hv44 (by simp [digs_len])
  clear hr43 hx43 hv41 hg44 hv44
  clear hc27_43 hf27_43 hz43_0 hz43_1 hz43_2 hz43_3 hz43_4 hc43 hf43
  have hb44 : Below w44.heap.size w44 w44 := Below.refl _ _
  obtain ⟨hc27_44, hf27_44, hl27_44⟩ := bcell hb27_44
  clear hl27_44
  have hz44_0 : w.heap.size < w44.heap.size := (by omega)
  have hz44_1 : w.heap.size + 1 < w44.heap.size := (by omega)
  have hz44_2 : w1.heap.size < w44.heap.size := (by omega)
  have hz44_3 : w2.heap.size < w44.heap.size := (by omega)
  go_simp
  refine Mix.all (rs := [33]) (by kernel_rfl) (by simp) (Mix.over_of (by (repeat (first | assumption | exact Below.refl _ _ | refine ba ?_ _ | refine bd ?_ | refine bdn ?_ _ | refine bs ?_ (by first | omega | (simp; done) | (simp; omega)) _ | refine bt ?_ (by assumption))))) ?_
  intro i45 hi45 w45 hb45 hC45
  clear hC45
  have hs45 : w44.heap.size + 0 ≤ w45.heap.size := (by have h := hb45.size; first | omega | (simp at h; omega))
  have hb27_45 := bel hb27_44 hb45 (by (repeat (first | assumption | exact Below.refl _ _ | refine ba ?_ _ | refine bd ?_ | refine bdn ?_ _ | refine bs ?_ (by first | omega | (simp; done) | (simp; omega)) _ | refine bt ?_ (by assumption))))
  have hb44_45 := bel hb44 hb45 (by (repeat (first | assumption | exact Below.refl _ _ | refine ba ?_ _ | refine bd ?_ | refine bdn ?_ _ | refine bs ?_ (by first | omega | (simp; done) | (simp; omega)) _ | refine bt ?_ (by assumption))))
  clear hc27_44 hf27_44 hz44_0 hz44_1 hz44_2 hz44_3
  obtain ⟨hc27_45, hf27_45, hl27_45⟩ := bcell hb27_45
  clear hl27_45
  have hz45_0 : w.heap.size < w45.heap.size := (by omega)
  have hz45_1 : w.heap.size + 1 < w45.heap.size := (by omega)
  have hz45_2 : w1.heap.size < w45.heap.size := (by omega)
  have hz45_3 : w2.heap.size < w45.heap.size := (by omega)
  obtain ⟨hc45, hf45, hl45⟩ := bcell hb45
  clear hl45
  simp only [List.mem_cons, List.not_mem_nil, or_false] at hi45
  subst hi45
  refine Mix.op rfl (by kernel_rfl) ?_
  go_simp
  refine (HI2.out _ _ (hi44.grow hb45)).mono ?_
  rintro e w46 ⟨rfl, hb46⟩
  refine ⟨_, rfl, ?_⟩
  have hs46 : w45.heap.size + 0 ≤ w46.heap.size := (by have h := hb46.size; first | omega | (simp at h; omega))
  have hb27_46 := bel hb27_45 hb46 (by (repeat (first | assumption | exact Below.refl _ _ | refine ba ?_ _ | refine bd ?_ | refine bdn ?_ _ | refine bs ?_ (by first | omega | (simp; done) | (simp; omega)) _ | refine bt ?_ (by assumption))))
  have hb44_46 := bel hb44_45 hb46 (by (repeat (first | assumption | exact Below.refl _ _ | refine ba ?_ _ | refine bd ?_ | refine bdn ?_ _ | refine bs ?_ (by first | omega | (simp; done) | (simp; omega)) _ | refine bt ?_ (by assumption))))
  have hb45_46 := bel hb45 hb46 (by (repeat (first | assumption | exact Below.refl _ _ | refine ba ?_ _ | refine bd ?_ | refine bdn ?_ _ | refine bs ?_ (by first | omega | (simp; done) | (simp; omega)) _ | refine bt ?_ (by assumption))))
  clear hc27_45 hf27_45 hz45_0 hz45_1 hz45_2 hz45_3 hc45 hf45
  obtain ⟨hc27_46, hf27_46, hl27_46⟩ := bcell hb27_46
  clear hl27_46
  have hz46_0 : w.heap.size < w46.heap.size := (by omega)
  have hz46_1 : w.heap.size + 1 < w46.heap.size := (by omega)
  have hz46_2 : w1.heap.size < w46.heap.size := (by omega)
  have hz46_3 : w2.heap.size < w46.heap.size := (by omega)
  obtain ⟨hc46, hf46, hl46⟩ := bcell hb46
  clear hl46
  clear hb44
  refine Mix.take_ex (_) 34 rfl (by kernel_rfl) (by kernel_rfl) (by kernel_rfl) (by kernel_rfl) (fun K hK => ?_)
  go_simp
  first | (refine hK _ ?_; clear hK K) | (apply Exists.intro; refine ⟨fun x => ?_, hK _ ?_⟩; (fail); clear hK K)
  refine Mix.take_ex (_) 35 rfl (by kernel_rfl) (by kernel_rfl) (by kernel_rfl) (by kernel_rfl) (fun K hK => ?_)
  go_simp
  first | (refine hK _ ?_; clear hK K) | (apply Exists.intro; refine ⟨fun x => ?_, hK _ ?_⟩; (fail); clear hK K)
  refine Mix.take_ex (_) 36 rfl (by kernel_rfl) (by kernel_rfl) (by kernel_rfl) (by kernel_rfl) (fun K hK => ?_)
  go_simp
  first | (refine hK _ ?_; clear hK K) | (apply Exists.intro; refine ⟨fun x => ?_, hK _ ?_⟩; (fail); clear hK K)
  refine Mix.take_ex (_) 37 rfl (by kernel_rfl) (by kernel_rfl) (by kernel_rfl) (by kernel_rfl) (fun K hK => ?_)
  go_simp
  first | (refine hK _ ?_; clear hK K) | (apply Exists.intro; refine ⟨fun x => ?_, hK _ ?_⟩; (fail); clear hK K)
  refine Mix.take_ex (_) 38 rfl (by kernel_rfl) (by kernel_rfl) (by kernel_rfl) (by kernel_rfl) (fun K hK => ?_)
  go_simp
  first | (refine hK _ ?_; clear hK K) | (apply Exists.intro; refine ⟨fun x => ?_, hK _ ?_⟩; ((go_at_call 19; with_reducible exact HC.out _)); clear hK K)
  refine Mix.take_ex (_) 39 rfl (by kernel_rfl) (by kernel_rfl) (by kernel_rfl) (by kernel_rfl) (fun K hK => ?_)
  go_simp
  first | (refine hK _ ?_; clear hK K) | (apply Exists.intro; refine ⟨fun x => ?_, hK _ ?_⟩; ((go_at_call 20; with_reducible exact works1 _)); clear hK K)
  refine Mix.take_ex (_) 40 rfl (by kernel_rfl) (by kernel_rfl) (by kernel_rfl) (by kernel_rfl) (fun K hK => ?_)
  go_simp
  first | (refine hK _ ?_; clear hK K) | (apply Exists.intro; refine ⟨fun x => ?_, hK _ ?_⟩; ((go_at_call 20; with_reducible exact works1 _)); clear hK K)
  refine Mix.take_ex (_) 41 rfl (by kernel_rfl) (by kernel_rfl) (by kernel_rfl) (by kernel_rfl) (fun K hK => ?_)
  go_simp
  first | (refine hK _ ?_; clear hK K) | (apply Exists.intro; refine ⟨fun x => ?_, hK _ ?_⟩; ((go_at_call 20; with_reducible exact works1 _)); clear hK K)
  refine Mix.take_ex (_) 42 rfl (by kernel_rfl) (by kernel_rfl) (by kernel_rfl) (by kernel_rfl) (fun K hK => ?_)
  go_simp
  first | (refine hK _ ?_; clear hK K) | (apply Exists.intro; refine ⟨fun x => ?_, hK _ ?_⟩; ((go_at_call 20; with_reducible exact works1 _)); clear hK K)
  refine Mix.take_ex (_) 43 rfl (by kernel_rfl) (by kernel_rfl) (by kernel_rfl) (by kernel_rfl) (fun K hK => ?_)
  go_simp
  first | (refine hK _ ?_; clear hK K) | (apply Exists.intro; refine ⟨fun x => ?_, hK _ ?_⟩; ((go_at_call 20; with_reducible exact works1 _)); clear hK K)
  refine Mix.take_ex (_) 44 rfl (by kernel_rfl) (by kernel_rfl) (by kernel_rfl) (by kernel_rfl) (fun K hK => ?_)
  go_simp
  first | (refine hK _ ?_; clear hK K) | (apply Exists.intro; refine ⟨fun x => ?_, hK _ ?_⟩; ((go_at_call 20; with_reducible exact works1 _)); clear hK K)
  refine Mix.take_ex (_) 45 rfl (by kernel_rfl) (by kernel_rfl) (by kernel_rfl) (by kernel_rfl) (fun K hK => ?_)
  go_simp
  first | (refine hK _ ?_; clear hK K) | (apply Exists.intro; refine ⟨fun x => ?_, hK _ ?_⟩; ((go_at_call 20; with_reducible exact works1 _)); clear hK K)
  refine Mix.done (by kernel_rfl) (Mix.over_of (by (repeat (first | assumption | exact Below.refl _ _ | refine ba ?_ _ | refine bd ?_ | refine bdn ?_ _ | refine bs ?_ (by first | omega | (simp; done) | (simp; omega)) _ | refine bt ?_ (by assumption))))) ?_
  intro w47 hb47
  have hs47 : w46.heap.size + 0 ≤ w47.heap.size := (by have h := hb47.size; first | omega | (simp at h; omega))
  have hb27_47 := bel hb27_46 hb47 (by (repeat (first | assumption | exact Below.refl _ _ | refine ba ?_ _ | refine bd ?_ | refine bdn ?_ _ | refine bs ?_ (by first | omega | (simp; done) | (simp; omega)) _ | refine bt ?_ (by assumption))))
  have hb44_47 := bel hb44_46 hb47 (by (repeat (first | assumption | exact Below.refl _ _ | refine ba ?_ _ | refine bd ?_ | refine bdn ?_ _ | refine bs ?_ (by first | omega | (simp; done) | (simp; omega)) _ | refine bt ?_ (by assumption))))
  have hb45_47 := bel hb45_46 hb47 (by (repeat (first | assumption | exact Below.refl _ _ | refine ba ?_ _ | refine bd ?_ | refine bdn ?_ _ | refine bs ?_ (by first | omega | (simp; done) | (simp; omega)) _ | refine bt ?_ (by assumption))))
  have hb46_47 := bel hb46 hb47 (by (repeat (first | assumption | exact Below.refl _ _ | refine ba ?_ _ | refine bd ?_ | refine bdn ?_ _ | refine bs ?_ (by first | omega | (simp; done) | (simp; omega)) _ | refine bt ?_ (by assumption))))
  clear hc27_46 hf27_46 hz46_0 hz46_1 hz46_2 hz46_3 hc46 hf46
  obtain ⟨hc27_47, hf27_47, hl27_47⟩ := bcell hb27_47
  clear hl27_47
  have hz47_0 : w.heap.size < w47.heap.size := (by omega)
  have hz47_1 : w.heap.size + 1 < w47.heap.size := (by omega)
  have hz47_2 : w1.heap.size < w47.heap.size := (by omega)
  have hz47_3 : w2.heap.size < w47.heap.size := (by omega)
  obtain ⟨hc47, hf47, hl47⟩ := bcell hb47
  clear hl47
  go_wp2
  go_ret
  refine ⟨rfl, ?_⟩
  (repeat (first | assumption | exact Below.refl _ _ | refine ba ?_ _ | refine bd ?_ | refine bdn ?_ _ | refine bs ?_ (by first | omega | (simp; done) | (simp; omega)) _ | refine bt ?_ (by assumption)))
end Go.Proofs.Ytojfkpmdnhkanaa

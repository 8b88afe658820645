/- slot.Parse at every string. Condition: the names of the kinds and the error values lie in their variables. -/
import Derived.Test.YtfnfolpdbbnnlaaDoorSlot4
import Derived.Test.YtfnfolpdbbnnlaaDoorNum
namespace Go.Proofs.YtfnfolpdbbnnlaaDoor
open Go.RowKit
attribute [local go_sem] ext_cell ext_frozen Mix.calmUpon Mix.mUpon
def nmL : Nat → List UInt8
  | 0 => [99, 112, 117, 115] | 1 => [109, 101, 109] | 2 => [100, 105, 115, 107] | _ => [103, 112, 117, 115]
def dgL (r : Nat) : List UInt8 := if r < 10 then [UInt8.ofNat (48 + r)] else [UInt8.ofNat (48 + r / 10), UInt8.ofNat (48 + r % 10)]
def sL (k r : Nat) : List UInt8 := if r = 0 then nmL k else nmL k ++ 40 :: (dgL r ++ [41])
theorem nmS_list : ∀ k : Nat, (nmS k).data.toList = nmL k
  | 0 => rfl | 1 => rfl | 2 => rfl | _ + 3 => rfl
theorem dgL_dec (r : Nat) (h : r ≤ 32) : Lib.decDigits r = dgL r := by
  unfold dgL
  by_cases h1 : r < 10
  · rw [decDigits_lt r h1, if_pos h1]
  · rw [decDigits_go r h1, decDigits_lt (r / 10) (by omega), if_neg h1]; rfl
theorem sT_list (k r : Nat) (h : r ≤ 32) : (sT k r).data.toList = sL k r := by
  unfold sT sL
  by_cases h0 : r = 0
  · rw [if_pos h0, if_pos h0, nmS_list]
  · rw [if_neg h0, if_neg h0, dgL_dec r h]
    simp [ByteArray.data_append, nmS_list]
theorem ix_all : ∀ (k : Fin 4) (r : Fin 33), Lib.indexByte (sL k r) 40 = if r.val = 0 then -1 else ((nmL k).length : Int) := by decide +kernel
theorem tr_all : ∀ (r : Fin 33), Lib.trimSuffix (dgL r ++ [41]) [41] = dgL r := by decide +kernel
theorem at_all : ∀ (r : Fin 33), Lib.atoiAll (dgL r) = .ok (r.val : Int) := by decide +kernel
theorem cutA_sT (k r : Nat) (hk : k < 4) (hr : r ≤ 32) : cutA 40 (sT k r) = nmS k := by
  have h := ix_all ⟨k, hk⟩ ⟨r, by omega⟩
  simp only at h
  unfold cutA
  rw [sT_list k r hr, h]
  by_cases h0 : r = 0
  · rw [if_pos h0, if_neg (by decide)]; exact if_pos h0
  · rw [if_neg h0, if_pos (by omega), Int.toNat_natCast]
    apply Go.WideShapes.bytes_inj
    rw [ByteArray.data_extract]
    simp only [Array.toList_extract, List.extract_eq_take_drop, List.drop_zero, Nat.sub_zero]
    rw [sT_list k r hr, nmS_list]
    unfold sL
    rw [if_neg h0]
    simp
theorem cutB_sT (k r : Nat) (hk : k < 4) (hr : r ≤ 32) : Lib.trimSuffix (cutB 40 (sT k r)).data.toList [41] = if r = 0 then [] else dgL r := by
  have h := ix_all ⟨k, hk⟩ ⟨r, by omega⟩
  have ht := tr_all ⟨r, by omega⟩
  simp only at h ht
  unfold cutB
  rw [sT_list k r hr, h]
  by_cases h0 : r = 0
  · rw [if_pos h0, if_neg (by decide), if_pos h0]; rfl
  · rw [if_neg h0, if_pos (by omega), Int.toNat_natCast, if_neg h0]
    have e : ((sT k r).extract ((nmL k).length + 1) (sT k r).size).data.toList = dgL r ++ [41] := by
      rw [ByteArray.data_extract]
      simp only [Array.toList_extract, List.extract_eq_take_drop]
      rw [sT_list k r hr]
      have e1 : (sT k r).size = (sL k r).length := by rw [← sT_list k r hr]; rfl
      rw [e1, List.take_of_length_le (by simp)]
      unfold sL
      rw [if_neg h0]
      simp
    rw [e, ht]
theorem atoi_sT (k r : Nat) (hk : k < 4) (hr : r ≤ 32) : atoiV (Lib.trimSuffix (cutB 40 (sT k r)).data.toList [41]) = r := by
  rw [cutB_sT k r hk hr]
  by_cases h0 : r = 0
  · rw [if_pos h0, h0]; rfl
  · rw [if_neg h0]
    unfold atoiV
    have := at_all ⟨r, by omega⟩
    simp only at this
    rw [this]
theorem kI_nmS (k : Nat) (hk : k < 4) : kI (nmS k) = k ∧ kB (nmS k) = true := by
  have : k = 0 ∨ k = 1 ∨ k = 2 ∨ k = 3 := by omega
  rcases this with rfl | rfl | rfl | rfl <;> decide
theorem sT_inj {k r k' r' : Nat} (hk : k < 4) (hr : r ≤ 32) (hk' : k' < 4) (hr' : r' ≤ 32) (h : sT k r = sT k' r') : k = k' ∧ r = r' := by
  have h1 := cutA_sT k r hk hr
  rw [h, cutA_sT k' r' hk' hr'] at h1
  have h2 := atoi_sT k r hk hr
  rw [h, atoi_sT k' r' hk' hr'] at h2
  have h3 := (kI_nmS k hk).1
  rw [← h1, (kI_nmS k' hk').1] at h3
  omega
/-- Names and error values lie in their variables. -/
def CS (w : World) : Prop := N4 w ∧ EV w
theorem clo_CS : Clo CS := fun w w' h hb => ⟨clo_N4 w w' h.1 hb, clo_EV w w' h.2 hb⟩
theorem CS.n {w : World} (h : CS w) : N4 w := And.left h
theorem CS.e {w : World} (h : CS w) : EV w := And.right h
theorem CS.on {W w : World} (h : CS W) (hb : Below W.heap.size W w) : CS w := clo_CS _ _ h hb
theorem sT_size (k r : Nat) (hr : r ≤ 32) : (sT k r).size ≤ 8 := by
  have e1 : (sT k r).size = (sL k r).length := by rw [← sT_list k r hr]; rfl
  rw [e1]; unfold sL
  have h1 : (nmL k).length ≤ 4 := by unfold nmL; split <;> decide
  have h2 : (dgL r).length ≤ 2 := by unfold dgL; split <;> simp
  split
  · omega
  · simp only [List.length_append, List.length_cons, List.length_nil]; omega
theorem extract_size_le (s : ByteArray) (a b : Nat) : (s.extract a b).size ≤ s.size := by
  rw [ByteArray.size_extract]; omega
theorem cutB_size (c : UInt8) (s : ByteArray) : (cutB c s).size ≤ s.size := by
  unfold cutB; split
  · exact extract_size_le _ _ _
  · exact Nat.zero_le _
theorem cutA_size (c : UInt8) (s : ByteArray) : (cutA c s).size ≤ s.size := by
  unfold cutA; split
  · exact extract_size_le _ _ _
  · exact Nat.le_refl _
theorem trims_size (l p : List UInt8) : (ByteArray.mk (Lib.trimSuffix l p).toArray).size ≤ l.length := by
  show (Lib.trimSuffix l p).toArray.size ≤ l.length
  unfold Lib.trimSuffix
  split
  · simp
  · simp
set_option maxRecDepth 100000 in
set_option maxHeartbeats 2000000 in
theorem slotparse_yes (k r : Nat) (hk : k < 4) (hr : r ≤ 32) : PureOn CS Tryd.prog 38 #[.string (sT k r)] (.tuple #[L2 k r, .bool true]) := by
  intro W hC
  have HC := Lib.hid hC
  have hsz := sT_size k r hr
  have H1 := cut_one (sT k r) (by unfold maxLen; omega) 40
  rw [cutA_sT k r hk hr] at H1
  have H1 := Lib.hid H1
  have H2 := kind_any (nmS k) (by have := (nmS_size k).1; unfold maxLen; omega)
  rw [(kI_nmS k hk).1, (kI_nmS k hk).2] at H2
  have H2 := Lib.hid H2
  have hzb := cutB_size 40 (sT k r)
  have H3 := Lib.hid (trims_one (cutB 40 (sT k r)) ⟨#[41]⟩ (by omega))
  have H4 := atoi_any ⟨(Lib.trimSuffix (cutB 40 (sT k r)).data.toList [41]).toArray⟩ (by have := trims_size (cutB 40 (sT k r)).data.toList [41]; have e : (cutB 40 (sT k r)).data.toList.length = (cutB 40 (sT k r)).size := rfl; omega)
  simp only at H4
  rw [atoi_sT k r hk hr] at H4
  have H4 := Lib.hid H4
  have H5 := Lib.hid (slottext_yes k r hk hr)
  clear hC hsz hzb
  go_enter Tryd.func38, Tryd.ntmps38
  go_wp2_with fail
  (with_reducible refine (H1.out _).mono ?_)
  rintro e w1 ⟨rfl, hb1⟩
  have hs1 : W.heap.size + 1 ≤ w1.heap.size := (by have h := hb1.size; first | omega | (simp at h; omega))
  have hz1_0 : W.heap.size < w1.heap.size := (by omega)
  obtain ⟨hc1, hf1, hl1⟩ := bcell hb1
  clear hl1
  go_wp2_with fail
  (with_reducible refine (H2.out.app _ (N4.on HC.out.n (by (repeat (first | assumption | exact Below.refl _ _ | refine ba ?_ _ | refine bd ?_ | refine bdn ?_ _ | refine bs ?_ (by first | omega | (simp; done) | (simp; omega)) _ | refine bt ?_ (by assumption)))))).mono ?_)
  rintro e w2 ⟨rfl, hb2⟩
  have hs2 : w1.heap.size + 0 ≤ w2.heap.size := (by have h := hb2.size; first | omega | (simp at h; omega))
  have hb1_2 := bel hb1 hb2 (by (repeat (first | assumption | exact Below.refl _ _ | refine ba ?_ _ | refine bd ?_ | refine bdn ?_ _ | refine bs ?_ (by first | omega | (simp; done) | (simp; omega)) _ | refine bt ?_ (by assumption))))
  clear hz1_0 hc1 hf1
  obtain ⟨hc1_2, hf1_2, hl1_2⟩ := bcell hb1_2
  clear hl1_2
  have hz2_0 : W.heap.size < w2.heap.size := (by omega)
  obtain ⟨hc2, hf2, hl2⟩ := bcell hb2
  clear hl2
  go_wp2_with fail
  (with_reducible refine (H3.out _).mono ?_)
  rintro e w3 ⟨rfl, hb3⟩
  have hs3 : w2.heap.size + 0 ≤ w3.heap.size := (by have h := hb3.size; first | omega | (simp at h; omega))
  have hb1_3 := bel hb1_2 hb3 (by (repeat (first | assumption | exact Below.refl _ _ | refine ba ?_ _ | refine bd ?_ | refine bdn ?_ _ | refine bs ?_ (by first | omega | (simp; done) | (simp; omega)) _ | refine bt ?_ (by assumption))))
  have hb2_3 := bel hb2 hb3 (by (repeat (first | assumption | exact Below.refl _ _ | refine ba ?_ _ | refine bd ?_ | refine bdn ?_ _ | refine bs ?_ (by first | omega | (simp; done) | (simp; omega)) _ | refine bt ?_ (by assumption))))
  clear hc1_2 hf1_2 hz2_0 hc2 hf2
  obtain ⟨hc1_3, hf1_3, hl1_3⟩ := bcell hb1_3
  clear hl1_3
  have hz3_0 : W.heap.size < w3.heap.size := (by omega)
  obtain ⟨hc3, hf3, hl3⟩ := bcell hb3
  clear hl3
  go_wp2_with fail
  (with_reducible refine (H4.out _ (EV.on HC.out.e (by (repeat (first | assumption | exact Below.refl _ _ | refine ba ?_ _ | refine bd ?_ | refine bdn ?_ _ | refine bs ?_ (by first | omega | (simp; done) | (simp; omega)) _ | refine bt ?_ (by assumption)))))).mono ?_)
  rintro e w4 ⟨x, rfl, hb4⟩
  have hs4 : w3.heap.size + 0 ≤ w4.heap.size := (by have h := hb4.size; first | omega | (simp at h; omega))
  have hb1_4 := bel hb1_3 hb4 (by (repeat (first | assumption | exact Below.refl _ _ | refine ba ?_ _ | refine bd ?_ | refine bdn ?_ _ | refine bs ?_ (by first | omega | (simp; done) | (simp; omega)) _ | refine bt ?_ (by assumption))))
  have hb2_4 := bel hb2_3 hb4 (by (repeat (first | assumption | exact Below.refl _ _ | refine ba ?_ _ | refine bd ?_ | refine bdn ?_ _ | refine bs ?_ (by first | omega | (simp; done) | (simp; omega)) _ | refine bt ?_ (by assumption))))
  have hb3_4 := bel hb3 hb4 (by (repeat (first | assumption | exact Below.refl _ _ | refine ba ?_ _ | refine bd ?_ | refine bdn ?_ _ | refine bs ?_ (by first | omega | (simp; done) | (simp; omega)) _ | refine bt ?_ (by assumption))))
  clear hc1_3 hf1_3 hz3_0 hc3 hf3
  obtain ⟨hc1_4, hf1_4, hl1_4⟩ := bcell hb1_4
  clear hl1_4
  have hz4_0 : W.heap.size < w4.heap.size := (by omega)
  obtain ⟨hc4, hf4, hl4⟩ := bcell hb4
  clear hl4
  go_wp2_with fail
  (with_reducible refine (H5.out.app _ (N4.on HC.out.n (by (repeat (first | assumption | exact Below.refl _ _ | refine ba ?_ _ | refine bd ?_ | refine bdn ?_ _ | refine bs ?_ (by first | omega | (simp; done) | (simp; omega)) _ | refine bt ?_ (by assumption)))))).mono ?_)
  rintro e w5 ⟨rfl, hb5⟩
  have hs5 : w4.heap.size + 1 ≤ w5.heap.size := (by have h := hb5.size; first | omega | (simp at h; omega))
  have hb1_5 := bel hb1_4 hb5 (by (repeat (first | assumption | exact Below.refl _ _ | refine ba ?_ _ | refine bd ?_ | refine bdn ?_ _ | refine bs ?_ (by first | omega | (simp; done) | (simp; omega)) _ | refine bt ?_ (by assumption))))
  have hb2_5 := bel hb2_4 hb5 (by (repeat (first | assumption | exact Below.refl _ _ | refine ba ?_ _ | refine bd ?_ | refine bdn ?_ _ | refine bs ?_ (by first | omega | (simp; done) | (simp; omega)) _ | refine bt ?_ (by assumption))))
  have hb3_5 := bel hb3_4 hb5 (by (repeat (first | assumption | exact Below.refl _ _ | refine ba ?_ _ | refine bd ?_ | refine bdn ?_ _ | refine bs ?_ (by first | omega | (simp; done) | (simp; omega)) _ | refine bt ?_ (by assumption))))
  have hb4_5 := bel hb4 hb5 (by (repeat (first | assumption | exact Below.refl _ _ | refine ba ?_ _ | refine bd ?_ | refine bdn ?_ _ | refine bs ?_ (by first | omega | (simp; done) | (simp; omega)) _ | refine bt ?_ (by assumption))))
  clear hc1_4 hf1_4 hz4_0 hc4 hf4
  obtain ⟨hc1_5, hf1_5, hl1_5⟩ := bcell hb1_5
  clear hl1_5
  have hz5_0 : W.heap.size < w5.heap.size := (by omega)
  have hz5_1 : w4.heap.size < w5.heap.size := (by omega)
  obtain ⟨hc5, hf5, hl5⟩ := bcell hb5
  clear hl5
  go_wp2
  have q0 : w5.cell? ⟨W.heap.size, 0, none⟩ = some (.int .i64 0) := ((show Below (W.alloc (.cells #[.int .i64 0, .int .i64 0] 42)).heap.size (W.alloc (.cells #[.int .i64 0, .int .i64 0] 42)) w5 by (repeat (first | assumption | exact Below.refl _ _ | refine ba ?_ _ | refine bd ?_ | refine bdn ?_ _ | refine bs ?_ (by first | omega | (simp; done) | (simp; omega)) _ | refine bt ?_ (by assumption)))).cell (p := ⟨W.heap.size, 0, none⟩) (by simp)).trans (by simp [go_sem])
  have q1 : w5.cell? ⟨W.heap.size, 1, none⟩ = some (.int .i64 0) := ((show Below (W.alloc (.cells #[.int .i64 0, .int .i64 0] 42)).heap.size (W.alloc (.cells #[.int .i64 0, .int .i64 0] 42)) w5 by (repeat (first | assumption | exact Below.refl _ _ | refine ba ?_ _ | refine bd ?_ | refine bdn ?_ _ | refine bs ?_ (by first | omega | (simp; done) | (simp; omega)) _ | refine bt ?_ (by assumption)))).cell (p := ⟨W.heap.size, 1, none⟩) (by simp)).trans (by simp [go_sem])
  refine bodyPost_ret (v := .tuple #[L2 k r, .bool true]) (by simp [results, Tryd.results38, go_sem, q0, q1]) rfl ⟨rfl, ?_⟩
  (repeat (first | assumption | exact Below.refl _ _ | refine ba ?_ _ | refine bd ?_ | refine bdn ?_ _ | refine bs ?_ (by first | omega | (simp; done) | (simp; omega)) _ | refine bt ?_ (by assumption)))
set_option maxRecDepth 100000 in
theorem kB_empty : kB ⟨#[]⟩ = false := by decide
set_option maxRecDepth 100000 in
set_option maxHeartbeats 2000000 in
theorem slotparse_no1 (s : ByteArray) (hs : s.size ≤ 281474976710656) (hk : kB (cutA 40 s) = false) : PureOn CS Tryd.prog 38 #[.string s] (.tuple #[L2 0 0, .bool false]) := by
  intro W hC
  have HC := Lib.hid hC
  have H1 := Lib.hid (cut_one s (by unfold maxLen; omega) 40)
  have H2 := kind_any (cutA 40 s) (by have := cutA_size 40 s; unfold maxLen; omega)
  rw [hk] at H2
  have H2 := Lib.hid H2
  clear hC hk
  go_enter Tryd.func38, Tryd.ntmps38
  go_wp2_with fail
  (with_reducible refine (H1.out _).mono ?_)
  rintro e w1 ⟨rfl, hb1⟩
  have hs1 : W.heap.size + 1 ≤ w1.heap.size := (by have h := hb1.size; first | omega | (simp at h; omega))
  have hz1_0 : W.heap.size < w1.heap.size := (by omega)
  obtain ⟨hc1, hf1, hl1⟩ := bcell hb1
  clear hl1
  go_wp2_with fail
  (with_reducible refine (H2.out.app _ (N4.on HC.out.n (by (repeat (first | assumption | exact Below.refl _ _ | refine ba ?_ _ | refine bd ?_ | refine bdn ?_ _ | refine bs ?_ (by first | omega | (simp; done) | (simp; omega)) _ | refine bt ?_ (by assumption)))))).mono ?_)
  rintro e w2 ⟨rfl, hb2⟩
  have hs2 : w1.heap.size + 0 ≤ w2.heap.size := (by have h := hb2.size; first | omega | (simp at h; omega))
  have hb1_2 := bel hb1 hb2 (by (repeat (first | assumption | exact Below.refl _ _ | refine ba ?_ _ | refine bd ?_ | refine bdn ?_ _ | refine bs ?_ (by first | omega | (simp; done) | (simp; omega)) _ | refine bt ?_ (by assumption))))
  clear hz1_0 hc1 hf1
  obtain ⟨hc1_2, hf1_2, hl1_2⟩ := bcell hb1_2
  clear hl1_2
  have hz2_0 : W.heap.size < w2.heap.size := (by omega)
  obtain ⟨hc2, hf2, hl2⟩ := bcell hb2
  clear hl2
  go_wp2
  have q0 : w2.cell? ⟨W.heap.size, 0, none⟩ = some (.int .i64 0) := ((show Below (W.alloc (.cells #[.int .i64 0, .int .i64 0] 42)).heap.size (W.alloc (.cells #[.int .i64 0, .int .i64 0] 42)) w2 by (repeat (first | assumption | exact Below.refl _ _ | refine ba ?_ _ | refine bd ?_ | refine bdn ?_ _ | refine bs ?_ (by first | omega | (simp; done) | (simp; omega)) _ | refine bt ?_ (by assumption)))).cell (p := ⟨W.heap.size, 0, none⟩) (by simp)).trans (by simp [go_sem])
  have q1 : w2.cell? ⟨W.heap.size, 1, none⟩ = some (.int .i64 0) := ((show Below (W.alloc (.cells #[.int .i64 0, .int .i64 0] 42)).heap.size (W.alloc (.cells #[.int .i64 0, .int .i64 0] 42)) w2 by (repeat (first | assumption | exact Below.refl _ _ | refine ba ?_ _ | refine bd ?_ | refine bdn ?_ _ | refine bs ?_ (by first | omega | (simp; done) | (simp; omega)) _ | refine bt ?_ (by assumption)))).cell (p := ⟨W.heap.size, 1, none⟩) (by simp)).trans (by simp [go_sem])
  refine bodyPost_ret (v := .tuple #[L2 0 0, .bool false]) (by simp [results, Tryd.results38, go_sem, q0, q1]) rfl ⟨rfl, ?_⟩
  (repeat (first | assumption | exact Below.refl _ _ | refine ba ?_ _ | refine bd ?_ | refine bdn ?_ _ | refine bs ?_ (by first | omega | (simp; done) | (simp; omega)) _ | refine bt ?_ (by assumption)))
/-- The slot's text is another one. -/
theorem slottext_other (s : ByteArray) (hs0 : s ≠ ⟨#[]⟩) (hno : ∀ k r, k < 4 → r ≤ 32 → sT k r ≠ s) (k r : Int) : ∃ u, PureOn N4 Tryd.prog 41 #[L2 k r] (.string u) ∧ u ≠ s := by
  by_cases h : LOk k r
  · obtain ⟨h1, h2, h3, h4⟩ := h
    obtain ⟨a, rfl⟩ := Int.eq_ofNat_of_zero_le h1
    obtain ⟨b, rfl⟩ := Int.eq_ofNat_of_zero_le h3
    exact ⟨_, slottext_yes a b (by omega) (by omega), hno a b (by omega) (by omega)⟩
  · exact ⟨_, (slottext_no k r h).on _, fun h => hs0 h.symm⟩
set_option maxRecDepth 100000 in
set_option maxHeartbeats 2000000 in
theorem slotparse_no2 (s : ByteArray) (hs : s.size ≤ 281474976710656) (hk : kB (cutA 40 s) = true) (hno : ∀ k r, k < 4 → r ≤ 32 → sT k r ≠ s) : PureOn CS Tryd.prog 38 #[.string s] (.tuple #[L2 0 0, .bool false]) := by
  intro W hC
  have HC := Lib.hid hC
  have hs0 : s ≠ ⟨#[]⟩ := fun h => by
    rw [h, show cutA 40 (⟨#[]⟩ : ByteArray) = ⟨#[]⟩ from rfl, kB_empty] at hk
    cases hk
  have H1 := Lib.hid (cut_one s (by unfold maxLen; omega) 40)
  have H2 := kind_any (cutA 40 s) (by have := cutA_size 40 s; unfold maxLen; omega)
  rw [hk] at H2
  have H2 := Lib.hid H2
  have hzb := cutB_size 40 s
  have H3 := Lib.hid (trims_one (cutB 40 s) ⟨#[41]⟩ (by omega))
  have H4 := Lib.hid (atoi_any ⟨(Lib.trimSuffix (cutB 40 s).data.toList [41]).toArray⟩ (by have := trims_size (cutB 40 s).data.toList [41]; have e : (cutB 40 s).data.toList.length = (cutB 40 s).size := rfl; omega))
  obtain ⟨u, H5, hu⟩ := slottext_other s hs0 hno (kI (cutA 40 s)) (atoiV (Lib.trimSuffix (cutB 40 s).data.toList [41]))
  have H5 := Lib.hid H5
  have ht := streq_no hu
  clear hC hk hzb hno hs0 hu
  go_enter Tryd.func38, Tryd.ntmps38
  go_wp2_with fail
  (with_reducible refine (H1.out _).mono ?_)
  rintro e w1 ⟨rfl, hb1⟩
  have hs1 : W.heap.size + 1 ≤ w1.heap.size := (by have h := hb1.size; first | omega | (simp at h; omega))
  have hz1_0 : W.heap.size < w1.heap.size := (by omega)
  obtain ⟨hc1, hf1, hl1⟩ := bcell hb1
  clear hl1
  go_wp2_with fail
  (with_reducible refine (H2.out.app _ (N4.on HC.out.n (by (repeat (first | assumption | exact Below.refl _ _ | refine ba ?_ _ | refine bd ?_ | refine bdn ?_ _ | refine bs ?_ (by first | omega | (simp; done) | (simp; omega)) _ | refine bt ?_ (by assumption)))))).mono ?_)
  rintro e w2 ⟨rfl, hb2⟩
  have hs2 : w1.heap.size + 0 ≤ w2.heap.size := (by have h := hb2.size; first | omega | (simp at h; omega))
  have hb1_2 := bel hb1 hb2 (by (repeat (first | assumption | exact Below.refl _ _ | refine ba ?_ _ | refine bd ?_ | refine bdn ?_ _ | refine bs ?_ (by first | omega | (simp; done) | (simp; omega)) _ | refine bt ?_ (by assumption))))
  clear hz1_0 hc1 hf1
  obtain ⟨hc1_2, hf1_2, hl1_2⟩ := bcell hb1_2
  clear hl1_2
  have hz2_0 : W.heap.size < w2.heap.size := (by omega)
  obtain ⟨hc2, hf2, hl2⟩ := bcell hb2
  clear hl2
  go_wp2_with fail
  (with_reducible refine (H3.out _).mono ?_)
  rintro e w3 ⟨rfl, hb3⟩
  have hs3 : w2.heap.size + 0 ≤ w3.heap.size := (by have h := hb3.size; first | omega | (simp at h; omega))
  have hb1_3 := bel hb1_2 hb3 (by (repeat (first | assumption | exact Below.refl _ _ | refine ba ?_ _ | refine bd ?_ | refine bdn ?_ _ | refine bs ?_ (by first | omega | (simp; done) | (simp; omega)) _ | refine bt ?_ (by assumption))))
  have hb2_3 := bel hb2 hb3 (by (repeat (first | assumption | exact Below.refl _ _ | refine ba ?_ _ | refine bd ?_ | refine bdn ?_ _ | refine bs ?_ (by first | omega | (simp; done) | (simp; omega)) _ | refine bt ?_ (by assumption))))
  clear hc1_2 hf1_2 hz2_0 hc2 hf2
  obtain ⟨hc1_3, hf1_3, hl1_3⟩ := bcell hb1_3
  clear hl1_3
  have hz3_0 : W.heap.size < w3.heap.size := (by omega)
  obtain ⟨hc3, hf3, hl3⟩ := bcell hb3
  clear hl3
  go_wp2_with fail
  (with_reducible refine (H4.out _ (EV.on HC.out.e (by (repeat (first | assumption | exact Below.refl _ _ | refine ba ?_ _ | refine bd ?_ | refine bdn ?_ _ | refine bs ?_ (by first | omega | (simp; done) | (simp; omega)) _ | refine bt ?_ (by assumption)))))).mono ?_)
  rintro e w4 ⟨x, rfl, hb4⟩
  have hs4 : w3.heap.size + 0 ≤ w4.heap.size := (by have h := hb4.size; first | omega | (simp at h; omega))
  have hb1_4 := bel hb1_3 hb4 (by (repeat (first | assumption | exact Below.refl _ _ | refine ba ?_ _ | refine bd ?_ | refine bdn ?_ _ | refine bs ?_ (by first | omega | (simp; done) | (simp; omega)) _ | refine bt ?_ (by assumption))))
  have hb2_4 := bel hb2_3 hb4 (by (repeat (first | assumption | exact Below.refl _ _ | refine ba ?_ _ | refine bd ?_ | refine bdn ?_ _ | refine bs ?_ (by first | omega | (simp; done) | (simp; omega)) _ | refine bt ?_ (by assumption))))
  have hb3_4 := bel hb3 hb4 (by (repeat (first | assumption | exact Below.refl _ _ | refine ba ?_ _ | refine bd ?_ | refine bdn ?_ _ | refine bs ?_ (by first | omega | (simp; done) | (simp; omega)) _ | refine bt ?_ (by assumption))))
  clear hc1_3 hf1_3 hz3_0 hc3 hf3
  obtain ⟨hc1_4, hf1_4, hl1_4⟩ := bcell hb1_4
  clear hl1_4
  have hz4_0 : W.heap.size < w4.heap.size := (by omega)
  obtain ⟨hc4, hf4, hl4⟩ := bcell hb4
  clear hl4
  go_wp2_with fail
  (with_reducible refine (H5.out.app _ (N4.on HC.out.n (by (repeat (first | assumption | exact Below.refl _ _ | refine ba ?_ _ | refine bd ?_ | refine bdn ?_ _ | refine bs ?_ (by first | omega | (simp; done) | (simp; omega)) _ | refine bt ?_ (by assumption)))))).mono ?_)
  rintro e w5 ⟨rfl, hb5⟩
  have hs5 : w4.heap.size + 1 ≤ w5.heap.size := (by have h := hb5.size; first | omega | (simp at h; omega))
  have hb1_5 := bel hb1_4 hb5 (by (repeat (first | assumption | exact Below.refl _ _ | refine ba ?_ _ | refine bd ?_ | refine bdn ?_ _ | refine bs ?_ (by first | omega | (simp; done) | (simp; omega)) _ | refine bt ?_ (by assumption))))
  have hb2_5 := bel hb2_4 hb5 (by (repeat (first | assumption | exact Below.refl _ _ | refine ba ?_ _ | refine bd ?_ | refine bdn ?_ _ | refine bs ?_ (by first | omega | (simp; done) | (simp; omega)) _ | refine bt ?_ (by assumption))))
  have hb3_5 := bel hb3_4 hb5 (by (repeat (first | assumption | exact Below.refl _ _ | refine ba ?_ _ | refine bd ?_ | refine bdn ?_ _ | refine bs ?_ (by first | omega | (simp; done) | (simp; omega)) _ | refine bt ?_ (by assumption))))
  have hb4_5 := bel hb4 hb5 (by (repeat (first | assumption | exact Below.refl _ _ | refine ba ?_ _ | refine bd ?_ | refine bdn ?_ _ | refine bs ?_ (by first | omega | (simp; done) | (simp; omega)) _ | refine bt ?_ (by assumption))))
  clear hc1_4 hf1_4 hz4_0 hc4 hf4
  obtain ⟨hc1_5, hf1_5, hl1_5⟩ := bcell hb1_5
  clear hl1_5
  have hz5_0 : W.heap.size < w5.heap.size := (by omega)
  have hz5_1 : w4.heap.size < w5.heap.size := (by omega)
  obtain ⟨hc5, hf5, hl5⟩ := bcell hb5
  clear hl5
  go_wp2
  have q0 : w5.cell? ⟨W.heap.size, 0, none⟩ = some (.int .i64 0) := ((show Below (W.alloc (.cells #[.int .i64 0, .int .i64 0] 42)).heap.size (W.alloc (.cells #[.int .i64 0, .int .i64 0] 42)) w5 by (repeat (first | assumption | exact Below.refl _ _ | refine ba ?_ _ | refine bd ?_ | refine bdn ?_ _ | refine bs ?_ (by first | omega | (simp; done) | (simp; omega)) _ | refine bt ?_ (by assumption)))).cell (p := ⟨W.heap.size, 0, none⟩) (by simp)).trans (by simp [go_sem])
  have q1 : w5.cell? ⟨W.heap.size, 1, none⟩ = some (.int .i64 0) := ((show Below (W.alloc (.cells #[.int .i64 0, .int .i64 0] 42)).heap.size (W.alloc (.cells #[.int .i64 0, .int .i64 0] 42)) w5 by (repeat (first | assumption | exact Below.refl _ _ | refine ba ?_ _ | refine bd ?_ | refine bdn ?_ _ | refine bs ?_ (by first | omega | (simp; done) | (simp; omega)) _ | refine bt ?_ (by assumption)))).cell (p := ⟨W.heap.size, 1, none⟩) (by simp)).trans (by simp [go_sem])
  refine bodyPost_ret (v := .tuple #[L2 0 0, .bool false]) (by simp [results, Tryd.results38, go_sem, q0, q1]) rfl ⟨rfl, ?_⟩
  (repeat (first | assumption | exact Below.refl _ _ | refine ba ?_ _ | refine bd ?_ | refine bdn ?_ _ | refine bs ?_ (by first | omega | (simp; done) | (simp; omega)) _ | refine bt ?_ (by assumption)))
theorem slotparse_no (s : ByteArray) (hs : s.size ≤ 281474976710656) (hno : ∀ k r, k < 4 → r ≤ 32 → sT k r ≠ s) : PureOn CS Tryd.prog 38 #[.string s] (.tuple #[L2 0 0, .bool false]) := by
  cases h : kB (cutA 40 s) with
  | false => exact slotparse_no1 s hs h
  | true => exact slotparse_no2 s hs h hno
end Go.Proofs.YtfnfolpdbbnnlaaDoor

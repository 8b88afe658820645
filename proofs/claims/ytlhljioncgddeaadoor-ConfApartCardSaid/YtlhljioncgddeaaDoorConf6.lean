/- conf.Text at an invalid configuration; mancipleref13.Text. -/
import Derived.Test.YtlhljioncgddeaaDoorConf5
import Derived.Test.YtlhljioncgddeaaDoorDigits
namespace Go.Proofs.YtlhljioncgddeaaDoor
open Go.RowKit Go.Proofs
attribute [local go_sem] ext_cell ext_frozen Mix.calmUpon Mix.mUpon
theorem ctext_no (h m i l c : Int) (n : Nat → Int) (hr : ¬ CR h m i l c n) : Pure Tryd.prog 39 #[C9 h m i l c n] (.string ⟨#[]⟩) := by
  intro W
  have H := check_any h m i l c n
  rw [if_neg hr] at H
  have H := Lib.hid H
  clear hr
  go_enter Tryd.func39, Tryd.ntmps39
  go_wp2_with fail
  (with_reducible refine (H.out _).mono ?_)
  rintro e w1 ⟨rfl, hb1⟩
  have hs1 : W.heap.size + 1 ≤ w1.heap.size := (by have h := hb1.size; first | omega | (simp at h; omega))
  have hz1_0 : W.heap.size < w1.heap.size := (by omega)
  obtain ⟨hc1, hf1, hl1⟩ := bcell hb1
  clear hl1
  go_wp2
  go_ret
  refine ⟨rfl, ?_⟩
  (repeat (first | assumption | exact Below.refl _ _ | refine ba ?_ _ | refine bd ?_ | refine bdn ?_ _ | refine bs ?_ (by first | omega | (simp; done) | (simp; omega)) _ | refine bt ?_ (by assumption)))
/-- A configuration's text. -/
def cT (h m i l c : Int) (n : Nat → Int) : ByteArray := if CR h m i l c n then ⟨(J (nine h m i l c n) 9).toArray⟩ else ⟨#[]⟩
theorem ctext_any (h m i l c : Int) (n : Nat → Int) : PureOn T10 Tryd.prog 39 #[C9 h m i l c n] (.string (cT h m i l c n)) := by
  unfold cT
  by_cases hr : CR h m i l c n
  · rw [if_pos hr]; exact ctext_yes h m i l c n hr
  · rw [if_neg hr]; exact (ctext_no h m i l c n hr).on _
theorem rctext_no (h m i l c : Int) (n : Nat → Int) (hr : ¬ CR h m i l c n) : Pure Tryd.prog 40 #[C9 h m i l c n] (.string ⟨#[]⟩) := by
  intro W
  have H := refright13_any h m i l c n
  rw [decide_eq_false hr] at H
  have H := Lib.hid H
  clear hr
  go_enter Tryd.func40, Tryd.ntmps40
  go_wp2_with fail
  (with_reducible refine (H.out _).mono ?_)
  rintro e w1 ⟨rfl, hb1⟩
  have hs1 : W.heap.size + 1 ≤ w1.heap.size := (by have h := hb1.size; first | omega | (simp at h; omega))
  have hz1_0 : W.heap.size < w1.heap.size := (by omega)
  obtain ⟨hc1, hf1, hl1⟩ := bcell hb1
  clear hl1
  go_wp2
  go_ret
  refine ⟨rfl, ?_⟩
  (repeat (first | assumption | exact Below.refl _ _ | refine ba ?_ _ | refine bd ?_ | refine bdn ?_ _ | refine bs ?_ (by first | omega | (simp; done) | (simp; omega)) _ | refine bt ?_ (by assumption)))
theorem dig_int {x : Int} (h0 : 0 ≤ x) (h1 : x ≤ 9223372036854775807) : Pure Tryd.prog 65 #[.int .i64 x] (.string ⟨(Lib.itoa x).toArray⟩) := by
  obtain ⟨a, rfl⟩ := Int.eq_ofNat_of_zero_le h0
  have := refdigits_any a (by omega)
  rw [show Lib.itoa (a : Int) = Lib.decDigits a by unfold Lib.itoa; rw [if_neg (by omega)]; rfl]
  exact this
theorem cat (a b : List UInt8) : (⟨a.toArray⟩ : ByteArray) ++ ⟨b.toArray⟩ = ⟨(a ++ b).toArray⟩ := by
  apply Go.WideShapes.bytes_inj
  simp [ByteArray.data_append]
theorem szl (a : List UInt8) : (ByteArray.mk a.toArray).size = a.length := by simp [ByteArray.size]
set_option maxRecDepth 100000 in
set_option maxHeartbeats 4000000 in
theorem rctext_yes (h m i l c : Int) (n : Nat → Int) (hr : CR h m i l c n) : Pure Tryd.prog 40 #[C9 h m i l c n] (.string ⟨(J (nine h m i l c n) 9).toArray⟩) := by
  intro W
  have H := refright13_any h m i l c n
  rw [decide_eq_true hr] at H
  have H := Lib.hid H
  have hn := nine_ok hr
  have d0 := dig_int (show 0 ≤ h from (hn 0 (by omega)).1) (hn 0 (by omega)).2
  have s0 := (itoa_len (show 0 ≤ h from (hn 0 (by omega)).1) (hn 0 (by omega)).2).2
  have d1 := dig_int (show 0 ≤ m from (hn 1 (by omega)).1) (hn 1 (by omega)).2
  have s1 := (itoa_len (show 0 ≤ m from (hn 1 (by omega)).1) (hn 1 (by omega)).2).2
  have d2 := dig_int (show 0 ≤ i from (hn 2 (by omega)).1) (hn 2 (by omega)).2
  have s2 := (itoa_len (show 0 ≤ i from (hn 2 (by omega)).1) (hn 2 (by omega)).2).2
  have d3 := dig_int (show 0 ≤ l from (hn 3 (by omega)).1) (hn 3 (by omega)).2
  have s3 := (itoa_len (show 0 ≤ l from (hn 3 (by omega)).1) (hn 3 (by omega)).2).2
  have d4 := dig_int (show 0 ≤ c from (hn 4 (by omega)).1) (hn 4 (by omega)).2
  have s4 := (itoa_len (show 0 ≤ c from (hn 4 (by omega)).1) (hn 4 (by omega)).2).2
  have D0 := Lib.hid d0
  have D1 := Lib.hid d1
  have D2 := Lib.hid d2
  have D3 := Lib.hid d3
  have D4 := Lib.hid d4
  obtain ⟨F, hF⟩ : ∃ F, F = nine h m i l c n := ⟨_, rfl⟩
  have HFF := Lib.hid hF
  rw [← hF] at hn ⊢
  have HN := Lib.hid hn
  have HJ := Lib.hid (J_len F hn)
  have b32 : (ByteArray.mk #[32]).size = 1 := rfl
  have y0 : ((ByteArray.mk (Lib.itoa h).toArray)).size + (ByteArray.mk #[32]).size ≤ 9223372036854775807 := by simp only [szl, b32]; omega
  have y1 : ((ByteArray.mk (Lib.itoa h).toArray) ++ ByteArray.mk #[32]).size + (ByteArray.mk (Lib.itoa m).toArray).size ≤ 9223372036854775807 := by simp only [ByteArray.size_append, szl, b32]; omega
  have y2 : ((ByteArray.mk (Lib.itoa h).toArray) ++ ByteArray.mk #[32] ++ ByteArray.mk (Lib.itoa m).toArray).size + (ByteArray.mk #[32]).size ≤ 9223372036854775807 := by simp only [ByteArray.size_append, szl, b32]; omega
  have y3 : ((ByteArray.mk (Lib.itoa h).toArray) ++ ByteArray.mk #[32] ++ ByteArray.mk (Lib.itoa m).toArray ++ ByteArray.mk #[32]).size + (ByteArray.mk (Lib.itoa i).toArray).size ≤ 9223372036854775807 := by simp only [ByteArray.size_append, szl, b32]; omega
  have y4 : ((ByteArray.mk (Lib.itoa h).toArray) ++ ByteArray.mk #[32] ++ ByteArray.mk (Lib.itoa m).toArray ++ ByteArray.mk #[32] ++ ByteArray.mk (Lib.itoa i).toArray).size + (ByteArray.mk #[32]).size ≤ 9223372036854775807 := by simp only [ByteArray.size_append, szl, b32]; omega
  have y5 : ((ByteArray.mk (Lib.itoa h).toArray) ++ ByteArray.mk #[32] ++ ByteArray.mk (Lib.itoa m).toArray ++ ByteArray.mk #[32] ++ ByteArray.mk (Lib.itoa i).toArray ++ ByteArray.mk #[32]).size + (ByteArray.mk (Lib.itoa l).toArray).size ≤ 9223372036854775807 := by simp only [ByteArray.size_append, szl, b32]; omega
  have y6 : ((ByteArray.mk (Lib.itoa h).toArray) ++ ByteArray.mk #[32] ++ ByteArray.mk (Lib.itoa m).toArray ++ ByteArray.mk #[32] ++ ByteArray.mk (Lib.itoa i).toArray ++ ByteArray.mk #[32] ++ ByteArray.mk (Lib.itoa l).toArray).size + (ByteArray.mk #[32]).size ≤ 9223372036854775807 := by simp only [ByteArray.size_append, szl, b32]; omega
  have y7 : ((ByteArray.mk (Lib.itoa h).toArray) ++ ByteArray.mk #[32] ++ ByteArray.mk (Lib.itoa m).toArray ++ ByteArray.mk #[32] ++ ByteArray.mk (Lib.itoa i).toArray ++ ByteArray.mk #[32] ++ ByteArray.mk (Lib.itoa l).toArray ++ ByteArray.mk #[32]).size + (ByteArray.mk (Lib.itoa c).toArray).size ≤ 9223372036854775807 := by simp only [ByteArray.size_append, szl, b32]; omega
  clear hr hF hn d0 s0 d1 s1 d2 s2 d3 s3 d4 s4 b32
  have HC := Lib.hid (fun (X : World) (hX : Below (conW W h m i l c n).heap.size (conW W h m i l c n) X) => conW_min W X h m i l c n hX)
  go_enter Tryd.func40, Tryd.ntmps40
  go_wp2_with fail
  (with_reducible refine (H.out _).mono ?_)
  rintro e w1 ⟨rfl, hb1⟩
  have hs1 : W.heap.size + 1 ≤ w1.heap.size := (by have h := hb1.size; first | omega | (simp at h; omega))
  have hz1_0 : W.heap.size < w1.heap.size := (by omega)
  obtain ⟨hc1, hf1, hl1⟩ := bcell hb1
  clear hl1
  go_wp2_with fail
  refine wp_region_pure (by kernel_rfl) (by kernel_rfl) ?_
  repeat (first | go_big_quiet_step (((go_at_call 65; first | with_reducible exact D0.out.quiet | with_reducible exact D1.out.quiet | with_reducible exact D2.out.quiet | with_reducible exact D3.out.quiet | with_reducible exact D4.out.quiet))) | (quiet_step (((go_at_call 65; first | with_reducible exact D0.out.quiet | with_reducible exact D1.out.quiet | with_reducible exact D2.out.quiet | with_reducible exact D3.out.quiet | with_reducible exact D4.out.quiet)))))
  refine wpQuiet_nil ?_
  rintro w2 ⟨x2, hx2⟩
  have hb2 := ext_below _ x2
  rw [← hx2] at hb2
  clear hx2 x2
  have hs2 : w1.heap.size + 0 ≤ w2.heap.size := (by have h := hb2.size; first | omega | (simp at h; omega))
  have hb1_2 := bel hb1 hb2 (by (repeat (first | assumption | exact Below.refl _ _ | refine ba ?_ _ | refine bd ?_ | refine bdn ?_ _ | refine bs ?_ (by first | omega | (simp; done) | (simp; omega)) _ | refine bt ?_ (by assumption))))
  clear hz1_0 hc1 hf1
  obtain ⟨hc1_2, hf1_2, hl1_2⟩ := bcell hb1_2
  clear hl1_2
  have hz2_0 : W.heap.size < w2.heap.size := (by omega)
  obtain ⟨hc2, hf2, hl2⟩ := bcell hb2
  clear hl2
  go_wp2
  have HS := Lib.hid (show ((((((((⟨(Lib.itoa h).toArray⟩ : ByteArray) ++ ⟨#[32]⟩) ++ ⟨(Lib.itoa m).toArray⟩) ++ ⟨#[32]⟩) ++ ⟨(Lib.itoa i).toArray⟩) ++ ⟨#[32]⟩) ++ ⟨(Lib.itoa l).toArray⟩) ++ ⟨#[32]⟩) ++ ⟨(Lib.itoa c).toArray⟩ = ⟨(J F 5).toArray⟩ from by
    rw [HFF.out, show (#[32] : Array UInt8) = [32].toArray from rfl]
    simp only [cat]
    simp [J, nine])
  have HB := Lib.hid (show Below W.heap.size W w2 by (repeat (first | assumption | exact Below.refl _ _ | refine ba ?_ _ | refine bd ?_ | refine bdn ?_ _ | refine bs ?_ (by first | omega | (simp; done) | (simp; omega)) _ | refine bt ?_ (by assumption))))
  have HBC := Lib.hid (show Below (conW W h m i l c n).heap.size (conW W h m i l c n) w2 by (repeat (first | assumption | exact Below.refl _ _ | refine ba ?_ _ | refine bd ?_ | refine bdn ?_ _ | refine bs ?_ (by first | omega | (simp; done) | (simp; omega)) _ | refine bt ?_ (by assumption))))
  clear y0 y1 y2 y3 y4 y5 y6 y7
  go_loopw [3, 4] (fun s x wr => ∃ k : Nat, k ≤ 4 ∧ x = .int .i64 k ∧ s = .string ⟨(J F (5 + k)).toArray⟩ ∧ Below w2.heap.size w2 wr) (fun _ x _ => 4 - (intOf x).toNat)
  case atStart => exact ⟨0, by omega, rfl, congrArg Value.string HS.out, Below.refl _ _⟩
  case round =>
    obtain ⟨k, hk, rfl, rfl, hb⟩ := hrel
    rename_i wr
    have HBB := Lib.hid hb
    by_cases hlt : k < 4
    · have hkI : (k : Int) < 4 := by omega
      have hc := HC.out wr (bt HBC.out hb) k hlt
      have hzw : W.heap.size < wr.heap.size := by have := hb.size; have := HB.out.size; omega
      have hfk := HN.out (5 + k) (by omega)
      have hjl := HJ.out (5 + k) (by omega) (by omega)
      have hnk : F (5 + k) = n k := by rw [HFF.out, Nat.add_comm]; rfl
      rw [hnk] at hfk
      have hil := itoa_len hfk.1 hfk.2
      have D := Lib.hid (dig_int hfk.1 hfk.2)
      have y1 : (ByteArray.mk (J F (5 + k)).toArray).size + (ByteArray.mk #[32]).size ≤ 9223372036854775807 := by rw [szl]; show _ + 1 ≤ _; omega
      have y2 : (ByteArray.mk (J F (5 + k)).toArray ++ ByteArray.mk #[32]).size + (ByteArray.mk (Lib.itoa (n k)).toArray).size ≤ 9223372036854775807 := by rw [ByteArray.size_append, szl (Lib.itoa (n k)), szl (J F (5 + k))]; show _ + 1 + _ ≤ _; omega
      have HE := Lib.hid (show (⟨(J F (5 + k)).toArray⟩ : ByteArray) ++ ⟨#[32]⟩ ++ ⟨(Lib.itoa (n k)).toArray⟩ = ⟨(J F (5 + (k + 1))).toArray⟩ from by
        rw [show (#[32] : Array UInt8) = [32].toArray from rfl]
        simp only [cat]
        rw [show J F (5 + (k + 1)) = J F (5 + k) ++ 32 :: Lib.itoa (F (5 + k)) by rw [show 5 + (k + 1) = (4 + k) + 2 by omega, J, show 4 + k + 1 = 5 + k by omega], hnk, List.append_assoc]
        rfl)
      clear hb hfk hjl hnk hil
      go_wp2_with fail
      (with_reducible refine (D.out _).mono ?_)
      rintro e w3 ⟨rfl, hb3⟩
      go_wp2
      go_roundw
      case rel => exact ⟨k + 1, by omega, by go_num, congrArg Value.string HE.out, bt HBB.out hb3⟩
      case measure => simp [intOf]; omega
    · obtain rfl : k = 4 := by omega
      clear hb
      go_wp2
      go_ret
      exact ⟨rfl, bt HB.out HBB.out⟩
theorem rctext_any (h m i l c : Int) (n : Nat → Int) : Pure Tryd.prog 40 #[C9 h m i l c n] (.string (cT h m i l c n)) := by
  unfold cT
  by_cases hr : CR h m i l c n
  · rw [if_pos hr]; exact rctext_yes h m i l c n hr
  · rw [if_neg hr]; exact rctext_no h m i l c n hr
end Go.Proofs.YtlhljioncgddeaaDoor

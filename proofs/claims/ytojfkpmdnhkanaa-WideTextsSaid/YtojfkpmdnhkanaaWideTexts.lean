/- For any wide number and any string the statement WideTexts returns true: a number's text is that of paper and is read back, and whatever is read has that text. No condition. -/
import Derived.Test.YtojfkpmdnhkanaaParse2
import Derived.Test.YtojfkpmdnhkanaaRefText
namespace Go.Proofs.Ytojfkpmdnhkanaa
open Go.RowKit
attribute [local go_sem] ext_cell ext_frozen Mix.calmUpon Mix.mUpon

theorem nums_strOf (L : List Int) (h : ∀ x ∈ L, Dig x) : nums (strOfNums L) = L := by
  unfold nums
  rw [strOfNums_data, List.map_map]
  conv => rhs; rw [← List.map_id L]
  apply List.map_congr_left
  intro x hx
  have := h x hx
  unfold Dig at this
  simp
  omega
theorem strOf_nums (s : ByteArray) : strOfNums (nums s) = s := by
  apply Go.WideShapes.bytes_inj
  rw [strOfNums_data]
  unfold nums
  rw [List.map_map]
  conv => rhs; rw [← List.map_id s.data.toList]
  apply List.map_congr_left
  intro x _
  simp
theorem decL_fuel (f : Nat) (v : Int) (h0 : 0 ≤ v) (h1 : v < 10 ^ (f + 1)) : decL (f + 2) v = decL (f + 1) v := by
  induction f generalizing v with
  | zero =>
    have : v / 10 = 0 := by simp at h1; omega
    rw [decL_stop _ _ this, decL_stop _ _ this]
  | succ f ih =>
    by_cases hq : v / 10 = 0
    · rw [decL_stop _ _ hq, decL_stop _ _ hq]
    · rw [decL_go _ _ hq, decL_go (f + 1) _ hq, ih (v / 10) (by omega) (by rw [Int.pow_succ] at h1; omega)]
theorem dec_len (V : Int) (hV : Wd V) : (decL 40 V).length ≤ 39 := by
  have h1 := hV.hi
  rw [B128_eq] at h1
  rw [decL_fuel 38 V hV.lo (by omega)]
  exact decL_len 39 V
theorem pow40 {V : Int} (hV : Wd V) : V < 10 ^ 40 := by
  have h1 := hV.hi
  rw [B128_eq] at h1
  omega
theorem decS_nums (V : Int) : nums (decS V) = decL 40 V := nums_strOf _ (dig_decL 40 V)
theorem decS_good (V : Int) (hV : Wd V) : Good (decS V) ∧ decV (nums (decS V)) = V := by
  have e : decV (nums (decS V)) = V := by rw [decS_nums]; exact decV_decL 40 V hV.lo (pow40 hV)
  refine ⟨⟨?_, ?_⟩, e⟩
  · rw [decS_nums]; exact dig_decL 40 V
  · rw [e]; exact hV.hi

theorem parse_good (s : ByteArray) (h : 0 < s.size) (h2 : s.size ≤ 39) (hh : ¬ (s[0].toNat : Int) = 48) (hne : ¬ s.toList = []) (hg : Good s) : Pure Try.prog 31 #[.string s] (.tuple #[WV (decV (nums s)), .bool true]) := fun w =>
  (parse_walk s h h2 hh hne w).mono fun e w' ⟨hp, hb⟩ => by
    rcases hp with ⟨_, he⟩ | ⟨hn, _⟩
    · exact ⟨he, hb⟩
    · exact absurd hg hn
theorem parse_bad (s : ByteArray) (h : 0 < s.size) (h2 : s.size ≤ 39) (hh : ¬ (s[0].toNat : Int) = 48) (hne : ¬ s.toList = []) (hg : ¬ Good s) : Pure Try.prog 31 #[.string s] (.tuple #[W2 0 0, .bool false]) := fun w =>
  (parse_walk s h h2 hh hne w).mono fun e w' ⟨hp, hb⟩ => by
    rcases hp with ⟨hn, _⟩ | ⟨_, he⟩
    · exact absurd hn hg
    · exact ⟨he, hb⟩
theorem size_pos {s : ByteArray} (h : ¬ s.toList = []) : 0 < s.size := by
  rw [Nat.pos_iff_ne_zero]
  intro h0
  apply h
  rw [ByteArray.toList_eq]
  apply List.length_eq_zero_iff.1
  exact h0
theorem toList_ne {s : ByteArray} (h : 0 < s.size) : ¬ s.toList = [] := by
  intro h0
  rw [ByteArray.toList_eq] at h0
  have : s.data.toList.length = 0 := by rw [h0]; rfl
  have h' : s.data.toList.length = s.size := rfl
  omega
theorem parse_text (V : Int) (hV : Wd V) : Pure Try.prog 31 #[.string (decS V)] (.tuple #[WV V, .bool true]) := by
  by_cases h0 : V = 0
  · subst h0; exact parse_zero
  · obtain ⟨hg, hv⟩ := decS_good V hV
    have hlo := hV.lo
    obtain ⟨x, M, hx, hx48⟩ := decL_head 40 V (by omega) (pow40 hV)
    have hsz : (decS V).size = (decL 40 V).length := strOfNums_size _
    have hp : 0 < (decS V).size := by rw [hsz, hx]; simp
    have := parse_good (decS V) hp (by rw [hsz]; exact dec_len V hV) ?_ (toList_ne hp) hg
    · rw [hv] at this; exact this
    · have hp' : 0 < (nums (decS V)).length := by rw [nums_len]; exact hp
      rw [nums_get _ 0 hp hp']
      have e : (nums (decS V))[0] = x := by simp [decS_nums, hx]
      rw [e]; exact hx48
theorem text_back (s : ByteArray) (h : 0 < s.size) (h2 : s.size ≤ 39) (hh : ¬ (s[0].toNat : Int) = 48) (hg : Good s) : Wd (decV (nums s)) ∧ decS (decV (nums s)) = s := by
  obtain ⟨g1, g2⟩ := hg
  refine ⟨⟨decV_nonneg _ g1, g2⟩, ?_⟩
  unfold decS
  have hl := nums_len s
  have hp' : 0 < (nums s).length := by omega
  rw [nums_get _ 0 h hp'] at hh
  have hn : nums s = (nums s)[0] :: (nums s).tail := by
    obtain ⟨a, t, e⟩ := List.exists_cons_of_length_pos hp'
    simp [e]
  rw [hn, decL_decV 40 _ _ (g1 _ (List.getElem_mem _)) (fun y hy => g1 y (List.mem_of_mem_tail hy)) (.inl hh) (by simp; omega), ← hn]
  exact strOf_nums s
theorem parse_any (s : ByteArray) (hs : s.size ≤ 200) : (∃ n, Wd n ∧ decS n = s ∧ Pure Try.prog 31 #[.string s] (.tuple #[WV n, .bool true])) ∨ Pure Try.prog 31 #[.string s] (.tuple #[W2 0 0, .bool false]) := by
  by_cases hne : s.toList = []
  · right
    have : s = ⟨#[]⟩ := by
      apply Go.WideShapes.bytes_inj
      rw [← ByteArray.toList_eq, hne]
    subst this
    exact parse_empty
  · have hp := size_pos hne
    by_cases h39 : s.size ≤ 39
    · by_cases hh : (s[0].toNat : Int) = 48
      · by_cases hz : s = ⟨#[48]⟩
        · left
          subst hz
          exact ⟨0, wd_small 0 (by decide) (by decide), rfl, parse_zero⟩
        · right
          refine parse_lead s ?_ h39 hne hh hz
          rcases Nat.lt_or_ge 1 s.size with h | h
          · exact h
          · exfalso
            apply hz
            rw [← strOf_nums s]
            have hl := nums_len s
            obtain ⟨a, ha⟩ := List.length_eq_one_iff.1 (show (nums s).length = 1 by omega)
            have hg := nums_get s 0 hp (by omega)
            simp [ha] at hg
            rw [ha, ← hg, hh]
            rfl
      · by_cases hg : Good s
        · left
          obtain ⟨t1, t2⟩ := text_back s hp h39 hh hg
          exact ⟨_, t1, t2, parse_good s hp h39 hh hne hg⟩
        · right
          exact parse_bad s hp h39 hh hne hg
    · right
      exact parse_long s (by omega) hne hs

theorem lawtext_any (ah al : Int) (h1 : Word ah) (h2 : Word al) : Pure Try.prog 33 #[W2 ah al] (.string (decS (ah * 18446744073709551616 + al))) := by
  intro w
  have HO := Lib.hid (own_any ah al h1 h2)
  have HT := Lib.hid (reftext_any (ah * 18446744073709551616 + al) (Wd_of h1 h2))
  go_enter Try.func33, Try.ntmps33
  go_wp2_with fail
  refine (HO.out _).mono ?_
  rintro e w1 ⟨v, rfl, hv, hb1⟩
  have hs1 : w.heap.size + 1 ≤ w1.heap.size := (by have h := hb1.size; first | omega | (simp at h; omega))
  have hz1_0 : w.heap.size < w1.heap.size := (by omega)
  obtain ⟨hc1, hf1, hl1⟩ := bcell hb1
  clear hl1
  go_wp2_with fail
  (with_reducible refine (HT.out v w1 hv).mono ?_)
  rintro e w2 ⟨rfl, hb2⟩
  have hs2 : w1.heap.size + 0 ≤ w2.heap.size := (by have h := hb2.size; first | omega | (simp at h; omega))
  have hb1_2 := bel hb1 hb2 (by (repeat (first | assumption | exact Below.refl _ _ | refine ba ?_ _ | refine bd ?_ | refine bdn ?_ _ | refine bs ?_ (by first | omega | (simp; done) | (simp; omega)) _ | refine bt ?_ (by assumption))))
  clear hz1_0 hc1 hf1
  obtain ⟨hc1_2, hf1_2, hl1_2⟩ := bcell hb1_2
  clear hl1_2
  have hz2_0 : w.heap.size < w2.heap.size := (by omega)
  obtain ⟨hc2, hf2, hl2⟩ := bcell hb2
  clear hl2
  go_wp2
  go_ret
  refine ⟨rfl, ?_⟩
  (repeat (first | assumption | exact Below.refl _ _ | refine ba ?_ _ | refine bd ?_ | refine bdn ?_ _ | refine bs ?_ (by first | omega | (simp; done) | (simp; omega)) _ | refine bt ?_ (by assumption)))

set_option maxHeartbeats 4000000 in
theorem texts_long (ah al : Int) (s : ByteArray) (hs : 200 < (s.size : Int)) (hs2 : s.size ≤ 9223372036854775807) (S : ByteArray) (hT : Pure Try.prog 32 #[W2 ah al] (.string S)) (hP : Pure Try.prog 31 #[.string S] (.tuple #[W2 ah al, .bool true])) :
    Pure Try.prog 7 #[W2 ah al, .string s] (.bool true) := by
  intro w
  have hs3 : (s.size : Int) ≤ 9223372036854775807 := by omega
  have HT := Lib.hid hT; have HP := Lib.hid hP
  clear hT hP hs2
  go_enter Try.func7, Try.ntmps7
  go_wp2_with fail
  (with_reducible refine (HT.out _).mono ?_)
  rintro e w1 ⟨rfl, hb1⟩
  have hs1 : w.heap.size + 1 ≤ w1.heap.size := (by have h := hb1.size; first | omega | (simp at h; omega))
  have hz1_0 : w.heap.size < w1.heap.size := (by omega)
  obtain ⟨hc1, hf1, hl1⟩ := bcell hb1
  clear hl1
  go_wp2_with fail
  (with_reducible refine (HP.out _).mono ?_)
  rintro e w2 ⟨rfl, hb2⟩
  have hs2 : w1.heap.size + 0 ≤ w2.heap.size := (by have h := hb2.size; first | omega | (simp at h; omega))
  have hb1_2 := bel hb1 hb2 (by (repeat (first | assumption | exact Below.refl _ _ | refine ba ?_ _ | refine bd ?_ | refine bdn ?_ _ | refine bs ?_ (by first | omega | (simp; done) | (simp; omega)) _ | refine bt ?_ (by assumption))))
  clear hz1_0 hc1 hf1
  obtain ⟨hc1_2, hf1_2, hl1_2⟩ := bcell hb1_2
  clear hl1_2
  have hz2_0 : w.heap.size < w2.heap.size := (by omega)
  obtain ⟨hc2, hf2, hl2⟩ := bcell hb2
  clear hl2
  go_wp2
  go_ret
  refine ⟨rfl, ?_⟩
  (repeat (first | assumption | exact Below.refl _ _ | refine ba ?_ _ | refine bd ?_ | refine bdn ?_ _ | refine bs ?_ (by first | omega | (simp; done) | (simp; omega)) _ | refine bt ?_ (by assumption)))
set_option maxHeartbeats 8000000 in
theorem texts_yes (ah al ch cl : Int) (s : ByteArray) (hs : (s.size : Int) ≤ 200) (S : ByteArray) (hT : Pure Try.prog 32 #[W2 ah al] (.string S)) (hP : Pure Try.prog 31 #[.string S] (.tuple #[W2 ah al, .bool true]))
    (hL : Pure Try.prog 33 #[W2 ah al] (.string S)) (hC : Pure Try.prog 31 #[.string s] (.tuple #[W2 ch cl, .bool true])) (hU : Pure Try.prog 32 #[W2 ch cl] (.string s)) :
    Pure Try.prog 7 #[W2 ah al, .string s] (.bool true) := by
  intro w
  have HT := Lib.hid hT; have HP := Lib.hid hP; have HL := Lib.hid hL; have HC := Lib.hid hC; have HU := Lib.hid hU
  clear hT hP hL hC hU
  go_enter Try.func7, Try.ntmps7
  go_wp2_with fail
  (with_reducible refine (HT.out _).mono ?_)
  rintro e w1 ⟨rfl, hb1⟩
  have hs1 : w.heap.size + 1 ≤ w1.heap.size := (by have h := hb1.size; first | omega | (simp at h; omega))
  have hz1_0 : w.heap.size < w1.heap.size := (by omega)
  obtain ⟨hc1, hf1, hl1⟩ := bcell hb1
  clear hl1
  go_wp2_with fail
  (with_reducible refine (HP.out _).mono ?_)
  rintro e w2 ⟨rfl, hb2⟩
  have hs2 : w1.heap.size + 0 ≤ w2.heap.size := (by have h := hb2.size; first | omega | (simp at h; omega))
  have hb1_2 := bel hb1 hb2 (by (repeat (first | assumption | exact Below.refl _ _ | refine ba ?_ _ | refine bd ?_ | refine bdn ?_ _ | refine bs ?_ (by first | omega | (simp; done) | (simp; omega)) _ | refine bt ?_ (by assumption))))
  clear hz1_0 hc1 hf1
  obtain ⟨hc1_2, hf1_2, hl1_2⟩ := bcell hb1_2
  clear hl1_2
  have hz2_0 : w.heap.size < w2.heap.size := (by omega)
  obtain ⟨hc2, hf2, hl2⟩ := bcell hb2
  clear hl2
  go_wp2_with fail
  (with_reducible refine (HC.out _).mono ?_)
  rintro e w3 ⟨rfl, hb3⟩
  have hs3 : w2.heap.size + 1 ≤ w3.heap.size := (by have h := hb3.size; first | omega | (simp at h; omega))
  have hb1_3 := bel hb1_2 hb3 (by (repeat (first | assumption | exact Below.refl _ _ | refine ba ?_ _ | refine bd ?_ | refine bdn ?_ _ | refine bs ?_ (by first | omega | (simp; done) | (simp; omega)) _ | refine bt ?_ (by assumption))))
  have hb2_3 := bel hb2 hb3 (by (repeat (first | assumption | exact Below.refl _ _ | refine ba ?_ _ | refine bd ?_ | refine bdn ?_ _ | refine bs ?_ (by first | omega | (simp; done) | (simp; omega)) _ | refine bt ?_ (by assumption))))
  clear hc1_2 hf1_2 hz2_0 hc2 hf2
  obtain ⟨hc1_3, hf1_3, hl1_3⟩ := bcell hb1_3
  clear hl1_3
  have hz3_0 : w.heap.size < w3.heap.size := (by omega)
  have hz3_1 : w2.heap.size < w3.heap.size := (by omega)
  obtain ⟨hc3, hf3, hl3⟩ := bcell hb3
  clear hl3
  go_wp2_with fail
  refine wp_region_pure (by kernel_rfl) (by kernel_rfl) ?_
  repeat (first | go_big_quiet_step (((first | (go_at_call 32; first | with_reducible exact HT.out.quiet | with_reducible exact HU.out.quiet) | (go_at_call 33; with_reducible exact HL.out.quiet) | (go_at_call 20; with_reducible exact works1.quiet)))) | (quiet_step (((first | (go_at_call 32; first | with_reducible exact HT.out.quiet | with_reducible exact HU.out.quiet) | (go_at_call 33; with_reducible exact HL.out.quiet) | (go_at_call 20; with_reducible exact works1.quiet))))))
  refine wpQuiet_nil ?_
  rintro w4 ⟨x4, hx4⟩
  have hb4 := ext_below _ x4
  rw [← hx4] at hb4
  clear hx4 x4
  have hs4 : w3.heap.size + 0 ≤ w4.heap.size := (by have h := hb4.size; first | omega | (simp at h; omega))
  have hb1_4 := bel hb1_3 hb4 (by (repeat (first | assumption | exact Below.refl _ _ | refine ba ?_ _ | refine bd ?_ | refine bdn ?_ _ | refine bs ?_ (by first | omega | (simp; done) | (simp; omega)) _ | refine bt ?_ (by assumption))))
  have hb2_4 := bel hb2_3 hb4 (by (repeat (first | assumption | exact Below.refl _ _ | refine ba ?_ _ | refine bd ?_ | refine bdn ?_ _ | refine bs ?_ (by first | omega | (simp; done) | (simp; omega)) _ | refine bt ?_ (by assumption))))
  have hb3_4 := bel hb3 hb4 (by (repeat (first | assumption | exact Below.refl _ _ | refine ba ?_ _ | refine bd ?_ | refine bdn ?_ _ | refine bs ?_ (by first | omega | (simp; done) | (simp; omega)) _ | refine bt ?_ (by assumption))))
  clear hc1_3 hf1_3 hz3_0 hz3_1 hc3 hf3
  obtain ⟨hc1_4, hf1_4, hl1_4⟩ := bcell hb1_4
  clear hl1_4
  obtain ⟨hc3_4, hf3_4, hl3_4⟩ := bcell hb3_4
  clear hl3_4
  have hz4_0 : w.heap.size < w4.heap.size := (by omega)
  have hz4_1 : w2.heap.size < w4.heap.size := (by omega)
  obtain ⟨hc4, hf4, hl4⟩ := bcell hb4
  clear hl4
  go_wp2
  go_ret
  refine ⟨rfl, ?_⟩
  (repeat (first | assumption | exact Below.refl _ _ | refine ba ?_ _ | refine bd ?_ | refine bdn ?_ _ | refine bs ?_ (by first | omega | (simp; done) | (simp; omega)) _ | refine bt ?_ (by assumption)))
set_option maxHeartbeats 8000000 in
theorem texts_no (ah al : Int) (s : ByteArray) (hs : (s.size : Int) ≤ 200) (S : ByteArray) (hT : Pure Try.prog 32 #[W2 ah al] (.string S)) (hP : Pure Try.prog 31 #[.string S] (.tuple #[W2 ah al, .bool true]))
    (hL : Pure Try.prog 33 #[W2 ah al] (.string S)) (hC : Pure Try.prog 31 #[.string s] (.tuple #[W2 0 0, .bool false])) :
    Pure Try.prog 7 #[W2 ah al, .string s] (.bool true) := by
  intro w
  have HT := Lib.hid hT; have HP := Lib.hid hP; have HL := Lib.hid hL; have HC := Lib.hid hC
  clear hT hP hL hC
  go_enter Try.func7, Try.ntmps7
  go_wp2_with fail
  (with_reducible refine (HT.out _).mono ?_)
  rintro e w1 ⟨rfl, hb1⟩
  have hs1 : w.heap.size + 1 ≤ w1.heap.size := (by have h := hb1.size; first | omega | (simp at h; omega))
  have hz1_0 : w.heap.size < w1.heap.size := (by omega)
  obtain ⟨hc1, hf1, hl1⟩ := bcell hb1
  clear hl1
  go_wp2_with fail
  (with_reducible refine (HP.out _).mono ?_)
  rintro e w2 ⟨rfl, hb2⟩
  have hs2 : w1.heap.size + 0 ≤ w2.heap.size := (by have h := hb2.size; first | omega | (simp at h; omega))
  have hb1_2 := bel hb1 hb2 (by (repeat (first | assumption | exact Below.refl _ _ | refine ba ?_ _ | refine bd ?_ | refine bdn ?_ _ | refine bs ?_ (by first | omega | (simp; done) | (simp; omega)) _ | refine bt ?_ (by assumption))))
  clear hz1_0 hc1 hf1
  obtain ⟨hc1_2, hf1_2, hl1_2⟩ := bcell hb1_2
  clear hl1_2
  have hz2_0 : w.heap.size < w2.heap.size := (by omega)
  obtain ⟨hc2, hf2, hl2⟩ := bcell hb2
  clear hl2
  go_wp2_with fail
  (with_reducible refine (HC.out _).mono ?_)
  rintro e w3 ⟨rfl, hb3⟩
  have hs3 : w2.heap.size + 1 ≤ w3.heap.size := (by have h := hb3.size; first | omega | (simp at h; omega))
  have hb1_3 := bel hb1_2 hb3 (by (repeat (first | assumption | exact Below.refl _ _ | refine ba ?_ _ | refine bd ?_ | refine bdn ?_ _ | refine bs ?_ (by first | omega | (simp; done) | (simp; omega)) _ | refine bt ?_ (by assumption))))
  have hb2_3 := bel hb2 hb3 (by (repeat (first | assumption | exact Below.refl _ _ | refine ba ?_ _ | refine bd ?_ | refine bdn ?_ _ | refine bs ?_ (by first | omega | (simp; done) | (simp; omega)) _ | refine bt ?_ (by assumption))))
  clear hc1_2 hf1_2 hz2_0 hc2 hf2
  obtain ⟨hc1_3, hf1_3, hl1_3⟩ := bcell hb1_3
  clear hl1_3
  have hz3_0 : w.heap.size < w3.heap.size := (by omega)
  have hz3_1 : w2.heap.size < w3.heap.size := (by omega)
  obtain ⟨hc3, hf3, hl3⟩ := bcell hb3
  clear hl3
  go_wp2_with fail
  refine wp_region_pure (by kernel_rfl) (by kernel_rfl) ?_
  repeat (first | go_big_quiet_step (((first | (go_at_call 32; with_reducible exact HT.out.quiet) | (go_at_call 33; with_reducible exact HL.out.quiet) | (go_at_call 20; with_reducible exact works1.quiet)))) | (quiet_step (((first | (go_at_call 32; with_reducible exact HT.out.quiet) | (go_at_call 33; with_reducible exact HL.out.quiet) | (go_at_call 20; with_reducible exact works1.quiet))))))
  refine wpQuiet_nil ?_
  rintro w4 ⟨x4, hx4⟩
  have hb4 := ext_below _ x4
  rw [← hx4] at hb4
  clear hx4 x4
  have hs4 : w3.heap.size + 0 ≤ w4.heap.size := (by have h := hb4.size; first | omega | (simp at h; omega))
  have hb1_4 := bel hb1_3 hb4 (by (repeat (first | assumption | exact Below.refl _ _ | refine ba ?_ _ | refine bd ?_ | refine bdn ?_ _ | refine bs ?_ (by first | omega | (simp; done) | (simp; omega)) _ | refine bt ?_ (by assumption))))
  have hb2_4 := bel hb2_3 hb4 (by (repeat (first | assumption | exact Below.refl _ _ | refine ba ?_ _ | refine bd ?_ | refine bdn ?_ _ | refine bs ?_ (by first | omega | (simp; done) | (simp; omega)) _ | refine bt ?_ (by assumption))))
  have hb3_4 := bel hb3 hb4 (by (repeat (first | assumption | exact Below.refl _ _ | refine ba ?_ _ | refine bd ?_ | refine bdn ?_ _ | refine bs ?_ (by first | omega | (simp; done) | (simp; omega)) _ | refine bt ?_ (by assumption))))
  clear hc1_3 hf1_3 hz3_0 hz3_1 hc3 hf3
  obtain ⟨hc1_4, hf1_4, hl1_4⟩ := bcell hb1_4
  clear hl1_4
  obtain ⟨hc3_4, hf3_4, hl3_4⟩ := bcell hb3_4
  clear hl3_4
  have hz4_0 : w.heap.size < w4.heap.size := (by omega)
  have hz4_1 : w2.heap.size < w4.heap.size := (by omega)
  obtain ⟨hc4, hf4, hl4⟩ := bcell hb4
  clear hl4
  go_wp2
  go_ret
  refine ⟨rfl, ?_⟩
  (repeat (first | assumption | exact Below.refl _ _ | refine ba ?_ _ | refine bd ?_ | refine bdn ?_ _ | refine bs ?_ (by first | omega | (simp; done) | (simp; omega)) _ | refine bt ?_ (by assumption)))
theorem texts_walk (ah al : Int) (h1 : Word ah) (h2 : Word al) (s : ByteArray) (hs : s.size ≤ 9223372036854775807) : Pure Try.prog 7 #[W2 ah al, .string s] (.bool true) := by
  have hV : WV (ah * 18446744073709551616 + al) = W2 ah al := WV_of ah al h2
  have hW : Wd (ah * 18446744073709551616 + al) := Wd_of h1 h2
  have hT := text_V _ hW
  have hP := parse_text _ hW
  have hL := lawtext_any ah al h1 h2
  rw [hV] at hT hP
  by_cases hl : s.size ≤ 200
  · rcases parse_any s hl with ⟨n, hn, he, hp⟩ | hp
    · have hU := text_V n hn
      rw [he] at hU
      exact texts_yes ah al _ _ s (by omega) _ hT hP hL hp hU
    · exact texts_no ah al s (by omega) _ hT hP hL hp
  · exact texts_long ah al s (by omega) hs _ hT hP
namespace WideTexts
open Go.ChangeShapes Go.WideShapes Go.ChangeAt Go.RowKit
theorem own : ownKnob Try.prog.godebug = none := by kernel_rfl
theorem laidOut : laidOutB Try.prog = true := by kernel_rfl
set_option maxRecDepth 100000 in
theorem lifted (os : Os) (started : os.Started) (H : Type) (enc : TypeId × Value → H) :
    ReturnsInHanded {} Try.checked os 7 .any (Rows.wideTextsSpec.pre6 enc Try.prog Try.f7 Rows.wideTextsRow.domain false) (Rows.wideTextsSpec.post enc Try.prog Try.f7 false true false false) := by
  refine returnsInHanded_of_change (C := Try.checked) own started (by kernel_rfl) Try.func7
    (ChangeSpec.witness6 (enc := enc) (C := Try.checked) false ⟨#[], #[W2 0 0, .string ⟨#[]⟩], []⟩ 8 (by kernel_rfl) (by kernel_rfl) (by kernel_rfl) (by kernel_rfl)) ?_
  intro W base args ds gs before hval0 hW hcnd _
  have hval : ∀ (j : Nat) t v, Try.f7.params[j]? = some t → args[j]? = some v → Value.okWide Try.prog W .any base t v := hval0
  have hW' := hW
  obtain ⟨p, q, hA0, hV, rfl, hfz, hnd⟩ := hW
  have hA : DataW.TrodAll enc Try.prog W 0 (fun _ => true) true Try.f7.params.toList args.toList ds p := hA0
  rw [Try.params7] at hA hval
  obtain ⟨v0, vs0, d0, ds0, p0, q0, hargs, rfl, rfl, h0, r0⟩ := trodAll_cons hA
  obtain ⟨v1, vs1, d1, ds1, p1, q1, rfl, rfl, rfl, h1, r1⟩ := trodAll_cons r0
  obtain ⟨rfl, rfl, rfl⟩ := trodAll_nil r1
  obtain rfl : args = #[v0, v1] := by cases args; simp_all
  obtain ⟨rfl, rfl⟩ := trodVars_none hV
  have k0 := h0
  have lt0 : ∀ x ∈ p0, x.block < W.heap.size := by obtain ⟨m, hm⟩ := k0; exact DataW.trod_lt m _ _ _ hm
  have k1 := h1
  have lt1 : ∀ x ∈ p1, x.block < W.heap.size := by obtain ⟨m, hm⟩ := k1; exact DataW.trod_lt m _ _ _ hm
  obtain ⟨c0_0, c0_1, y0_0, y0_1, m0, vEq0, rfl, rfl, hy0_0, hy0_1⟩ := Go.Joins.open_agg2 Try.underlying24 (by kernel_rfl) (by kernel_rfl : Try.prog.cellsOf 24 = 2) (hval 0 24 v0 rfl rfl) k0
  obtain ⟨ah, eq0_0, _, wf_ah⟩ := DataW.trod_int Try.underlying22 hy0_0
  obtain ⟨al, eq0_1, _, wf_al⟩ := DataW.trod_int Try.underlying22 hy0_1
  simp at eq0_0 eq0_1
  subst eq0_0 eq0_1
  subst vEq0
  obtain ⟨s, vEq1, _, _, wf_s⟩ := Go.ChangeMaps.open_string Try.underlying9 (hval 1 9 v1 rfl rfl) k1
  subst vEq1
  clear hA0 hval0
  refine (texts_walk ah al (word_of_wf wf_ah) (word_of_wf wf_al) s wf_s W).mono fun e W' ⟨he, bel⟩ => ?_
  subst he
  exact ⟨_, rfl, _, _, _, [], _, [], hW', trodAll_mk1 (shut_bool Try.underlying4 _), (trodAll_cons_mk (Below.trod laidOut (by kernel_rfl) (of_decide_eq_true (by kernel_rfl)) k0 bel lt0) (trodAll_cons_mk (Below.trod laidOut (by kernel_rfl) (of_decide_eq_true (by kernel_rfl)) k1 bel lt1) trodAll_mk0)), rfl, bel.frame _, fun h => by cases h⟩
theorem over : Rows.wideTextsRow.holds Try.pinned (OpenSpec.ofChange Rows.wideTextsSpec) :=
  OpenClaim.holds_of_wide 7 Try.f7 rfl rfl rfl rfl rfl rfl rfl ⟨rfl, rfl, rfl, rfl, rfl⟩ rfl rfl rfl rfl rfl (by kernel_rfl) Try.func7 (by kernel_rfl)
    (of_decide_eq_true (by kernel_rfl)) (by unfold Func.isWrapper; first | (rw [if_pos (by decide +kernel)]; kernel_rfl) | (rw [if_neg (by decide +kernel)]; exact ⟨rfl, rfl⟩))
    (fun os started H enc _ => lifted os started H enc)
theorem proved : Rows.WideTextsSaid := over
end WideTexts
end Go.Proofs.Ytojfkpmdnhkanaa

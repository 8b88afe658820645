/- Contract of wide.Parse: which texts are numbers, and which number. -/
import Derived.Test.YtojfkpmdnhkanaaDec
import Derived.Test.YtojfkpmdnhkanaaWideDivs
namespace Go.Proofs.Ytojfkpmdnhkanaa
open Go.RowKit
attribute [local go_sem] ext_cell ext_frozen Mix.calmUpon Mix.mUpon
/-- A text's letters as numbers. -/
def nums (s : ByteArray) : List Int := s.data.toList.map fun b => (b.toNat : Int)
theorem nums_len (s : ByteArray) : (nums s).length = s.size := by simp [nums]
theorem nums_get (s : ByteArray) (k : Nat) (hk : k < s.size) (hk' : k < (nums s).length) : (s[k].toNat : Int) = (nums s)[k] := by simp [nums]; rfl
/-- The letters are decimal ones, and the number fits. -/
def Good (s : ByteArray) : Prop := (∀ x ∈ nums s, Dig x) ∧ decV (nums s) < B128
def PP (s : ByteArray) (e : Ending) : Prop := (Good s ∧ e = .returned (.tuple #[WV (decV (nums s)), .bool true])) ∨ (¬ Good s ∧ e = .returned (.tuple #[W2 0 0, .bool false]))
theorem bad_digit (s : ByteArray) (k : Nat) (hk : k < s.size) (h : ¬ (48 ≤ (s[k].toNat : Int) ∧ (s[k].toNat : Int) ≤ 57)) : ¬ Good s := by
  rintro ⟨h1, _⟩
  have hk' : k < (nums s).length := by rw [nums_len]; exact hk
  have := h1 _ (List.getElem_mem hk')
  rw [← nums_get s k hk hk'] at this
  exact h this
theorem bad_size (s : ByteArray) (k : Nat) (h : B128 ≤ decV ((nums s).take k)) : ¬ Good s := by
  rintro ⟨h1, h2⟩
  have := decV_take_le (nums s) h1 k
  omega
set_option maxHeartbeats 4000000 in
theorem parse_walk (s : ByteArray) (h : 0 < s.size) (h2 : s.size ≤ 39) (hh : ¬ (s[0].toNat : Int) = 48) (hne : ¬ s.toList = []) (w : World) : Calls Try.prog 31 #[.string s] w fun e w' => PP s e ∧ Below w.heap.size w w' := by
  have h2' : (s.size : Int) ≤ 39 := by omega
  have he : s.toList.isEmpty = false := by cases hc : s.toList <;> simp_all
  go_enter Try.func31, Try.ntmps31
  go_wp2_with fail
  go_loopw [5, 30] (fun _ i wr => ∃ k : Nat, k ≤ s.size ∧ i = .int .i64 k ∧ Hid (∀ x ∈ (nums s).take k, Dig x) ∧ Hid (decV ((nums s).take k) < B128) ∧ Below w.heap.size w wr ∧ w.heap.size + 2 ≤ wr.heap.size ∧ wr.cell? ⟨w.heap.size + 1, 0, none⟩ = some (u (decV ((nums s).take k) / 18446744073709551616)) ∧ wr.cell? ⟨w.heap.size + 1, 1, none⟩ = some (u (decV ((nums s).take k) % 18446744073709551616)) ∧ (∀ j, wr.frozen? ⟨w.heap.size + 1, j, none⟩ = false) ∧ wr.cell? ⟨w.heap.size, 0, none⟩ = some (u 0) ∧ wr.cell? ⟨w.heap.size, 1, none⟩ = some (u 0) ∧ (∀ j, wr.frozen? ⟨w.heap.size, j, none⟩ = false)) (fun _ i _ => s.size - (intOf i).toNat)
  case atStart => exact ⟨0, Nat.zero_le _, rfl, Lib.hid (by simp), Lib.hid (by show (0 : Int) < B128; decide), by (repeat (first | assumption | exact Below.refl _ _ | refine ba ?_ _ | refine bd ?_ | refine bdn ?_ _ | refine bs ?_ (by first | omega | (simp; done) | (simp; omega)) _ | refine bt ?_ (by assumption))), by simp, by simp [go_sem, decV], by simp [go_sem, decV], by intro j; simp [go_sem], by simp [go_sem], by simp [go_sem], by intro j; simp [go_sem]⟩
  case round =>
    obtain ⟨k, hk, rfl, HD, HB, hb1, hs1, c0, c1, f0, d0, d1, g0⟩ := hrel
    have hz0 : w.heap.size < wr.heap.size := by omega
    have hz1 : w.heap.size + 1 < wr.heap.size := by omega
    have f00 := f0 0; have f01 := f0 1; have g00 := g0 0; have g01 := g0 1
    obtain ⟨w1, rfl⟩ : ∃ w1, w1 = wr := ⟨_, rfl⟩
    have hs1 : w.heap.size + 2 ≤ w1.heap.size := (by have h := hb1.size; first | omega | (simp at h; omega))
    have hz1_0 : w.heap.size < w1.heap.size := (by omega)
    have hz1_1 : w.heap.size + 1 < w1.heap.size := (by omega)
    obtain ⟨hc1, hf1, hl1⟩ := bcell hb1
    clear hl1
    by_cases hlt : k < s.size
    · have hks : (k : Int) < s.size := by omega
      have hlt' : k < (nums s).length := by rw [nums_len]; exact hlt
      by_cases hd : 48 ≤ (s[k].toNat : Int) ∧ (s[k].toNat : Int) ≤ 57
      · have hg := nums_get s k hlt hlt'
        have hst := decV_take_succ (nums s) k hlt'
        have hn0 := decV_nonneg ((nums s).take k) HD.out
        rw [← hg] at hst
        obtain ⟨q1, q2⟩ := hd
        have hB := HB.out
        have hD' : ∀ x ∈ (nums s).take (k + 1), Dig x := by
          intro x hx
          rw [List.take_succ_eq_append_getElem hlt', List.mem_append] at hx
          rcases hx with hx | hx
          · exact HD.out x hx
          · simp at hx; subst hx; rw [← hg]; exact ⟨q1, q2⟩
        have HD' := Lib.hid hD'
        have hT := times_V (decV ((nums s).take k)) 10 ⟨hn0, by omega⟩ ⟨by decide, by decide⟩
        have e8 : IntKind.u8.wrap ((s[k].toNat : Int) - 48) = (s[k].toNat : Int) - 48 := by
          simp [IntKind.wrap, IntKind.bits, IntKind.signed]; omega
        have e64 : IntKind.u64.wrap ((s[k].toNat : Int) - 48) = (s[k].toNat : Int) - 48 := by rw [wrap_mod]; omega
        have hO : Pure Try.prog 25 #[u (IntKind.u64.wrap (IntKind.u8.wrap ((s[k].toNat : Int) - 48)))] (WV ((s[k].toNat : Int) - 48)) := by
          rw [e8, e64]; exact of_V ((s[k].toNat : Int) - 48) ⟨by omega, by omega⟩
        clear e8 e64 hg hD' hlt'
        by_cases r1 : decV ((nums s).take k) * 10 < B128
        · have hA := add_V (decV ((nums s).take k) * 10) ((s[k].toNat : Int) - 48) ⟨by omega, r1⟩ ⟨by omega, by rw [B128_eq]; omega⟩
          rw [Int.emod_eq_of_lt (by omega) r1, decide_eq_true r1] at hT
          by_cases r2 : decV ((nums s).take k) * 10 + ((s[k].toNat : Int) - 48) < B128
          · rw [Int.emod_eq_of_lt (by omega) r2, decide_eq_true r2, ← hst] at hA
            rw [← hst] at r2
            have HB' := Lib.hid r2
            unfold WV at hT hO hA
            have HT := Lib.hid hT; have HO := Lib.hid hO; have HA := Lib.hid hA
            clear hT hO hA hst hB r1 r2
            go_wp2_with fail
            (with_reducible refine (HT.out w1).mono ?_)
            rintro e w2 ⟨rfl, hb2⟩
            have hs2 : w1.heap.size + 0 ≤ w2.heap.size := (by have h := hb2.size; first | omega | (simp at h; omega))
            have hb1_2 := bel hb1 hb2 (by (repeat (first | assumption | exact Below.refl _ _ | refine ba ?_ _ | refine bd ?_ | refine bdn ?_ _ | refine bs ?_ (by first | omega | (simp; done) | (simp; omega)) _ | refine bt ?_ (by assumption))))
            clear hz1_0 hz1_1 hc1 hf1
            obtain ⟨hc1_2, hf1_2, hl1_2⟩ := bcell hb1_2
            clear hl1_2
            have hz2_0 : w.heap.size < w2.heap.size := (by omega)
            have hz2_1 : w.heap.size + 1 < w2.heap.size := (by omega)
            obtain ⟨hc2, hf2, hl2⟩ := bcell hb2
            clear hl2
            go_wp2_with fail
            refine Mix.region0 (by kernel_rfl) ?_
            intro w3 hb3
            have hs3 : w2.heap.size + 1 ≤ w3.heap.size := (by have h := hb3.size; first | omega | (simp at h; omega))
            have hb1_3 := bel hb1_2 hb3 (by (repeat (first | assumption | exact Below.refl _ _ | refine ba ?_ _ | refine bd ?_ | refine bdn ?_ _ | refine bs ?_ (by first | omega | (simp; done) | (simp; omega)) _ | refine bt ?_ (by assumption))))
            have hb2_3 := bel hb2 hb3 (by (repeat (first | assumption | exact Below.refl _ _ | refine ba ?_ _ | refine bd ?_ | refine bdn ?_ _ | refine bs ?_ (by first | omega | (simp; done) | (simp; omega)) _ | refine bt ?_ (by assumption))))
            clear hc1_2 hf1_2 hz2_0 hz2_1 hc2 hf2
            obtain ⟨hc1_3, hf1_3, hl1_3⟩ := bcell hb1_3
            clear hl1_3
            have hz3_0 : w.heap.size < w3.heap.size := (by omega)
            have hz3_1 : w.heap.size + 1 < w3.heap.size := (by omega)
            have hz3_2 : w2.heap.size < w3.heap.size := (by omega)
            obtain ⟨hc3, hf3, hl3⟩ := bcell hb3
            clear hl3
            refine Mix.take_ex (_) 0 rfl (by kernel_rfl) (by kernel_rfl) (by kernel_rfl) (by kernel_rfl) (fun K hK => ?_)
            go_simp
            first | (refine hK _ ?_; clear hK K) | (apply Exists.intro; refine ⟨fun x => ?_, hK _ ?_⟩; (fail); clear hK K)
            refine Mix.take_ex (_) 1 rfl (by kernel_rfl) (by kernel_rfl) (by kernel_rfl) (by kernel_rfl) (fun K hK => ?_)
            go_simp
            first | (refine hK _ ?_; clear hK K) | (apply Exists.intro; refine ⟨fun x => ?_, hK _ ?_⟩; (fail); clear hK K)
            refine Mix.take_ex (_) 2 rfl (by kernel_rfl) (by kernel_rfl) (by kernel_rfl) (by kernel_rfl) (fun K hK => ?_)
            go_simp
            first | (refine hK _ ?_; clear hK K) | (apply Exists.intro; refine ⟨fun x => ?_, hK _ ?_⟩; (fail); clear hK K)
            refine Mix.take_ex (_) 3 rfl (by kernel_rfl) (by kernel_rfl) (by kernel_rfl) (by kernel_rfl) (fun K hK => ?_)
            go_simp
            first | (refine hK _ ?_; clear hK K) | (apply Exists.intro; refine ⟨fun x => ?_, hK _ ?_⟩; (fail); clear hK K)
            refine Mix.take_ex (_) 4 rfl (by kernel_rfl) (by kernel_rfl) (by kernel_rfl) (by kernel_rfl) (fun K hK => ?_)
            go_simp
            first | (refine hK _ ?_; clear hK K) | (apply Exists.intro; refine ⟨fun x => ?_, hK _ ?_⟩; (fail); clear hK K)
            refine Mix.take_ex (_) 5 rfl (by kernel_rfl) (by kernel_rfl) (by kernel_rfl) (by kernel_rfl) (fun K hK => ?_)
            go_simp
            first | (refine hK _ ?_; clear hK K) | (apply Exists.intro; refine ⟨fun x => ?_, hK _ ?_⟩; (fail); clear hK K)
            refine Mix.take_ex (_) 6 rfl (by kernel_rfl) (by kernel_rfl) (by kernel_rfl) (by kernel_rfl) (fun K hK => ?_)
            go_simp
            first | (refine hK _ ?_; clear hK K) | (apply Exists.intro; refine ⟨fun x => ?_, hK _ ?_⟩; ((first | (go_at_call 25; with_reducible exact HO.out _) | (go_at_call 11; with_reducible exact HA.out _))); clear hK K)
            refine Mix.take_ex (_) 7 rfl (by kernel_rfl) (by kernel_rfl) (by kernel_rfl) (by kernel_rfl) (fun K hK => ?_)
            go_simp
            first | (refine hK _ ?_; clear hK K) | (apply Exists.intro; refine ⟨fun x => ?_, hK _ ?_⟩; ((first | (go_at_call 25; with_reducible exact HO.out _) | (go_at_call 11; with_reducible exact HA.out _))); clear hK K)
            refine Mix.take_ex (_) 8 rfl (by kernel_rfl) (by kernel_rfl) (by kernel_rfl) (by kernel_rfl) (fun K hK => ?_)
            go_simp
            first | (refine hK _ ?_; clear hK K) | (apply Exists.intro; refine ⟨fun x => ?_, hK _ ?_⟩; (fail); clear hK K)
            refine Mix.take_ex (_) 9 rfl (by kernel_rfl) (by kernel_rfl) (by kernel_rfl) (by kernel_rfl) (fun K hK => ?_)
            go_simp
            first | (refine hK _ ?_; clear hK K) | (apply Exists.intro; refine ⟨fun x => ?_, hK _ ?_⟩; (fail); clear hK K)
            refine Mix.take_ex (_) 10 rfl (by kernel_rfl) (by kernel_rfl) (by kernel_rfl) (by kernel_rfl) (fun K hK => ?_)
            go_simp
            first | (refine hK _ ?_; clear hK K) | (apply Exists.intro; refine ⟨fun x => ?_, hK _ ?_⟩; (fail); clear hK K)
            refine Mix.all (rs := [11]) (by kernel_rfl) (by simp) (Mix.over_of (by (repeat (first | assumption | exact Below.refl _ _ | refine ba ?_ _ | refine bd ?_ | refine bdn ?_ _ | refine bs ?_ (by first | omega | (simp; done) | (simp; omega)) _ | refine bt ?_ (by assumption))))) ?_
            intro i4 hi4 w4 hb4 hC4
            clear hC4
            have hs4 : w3.heap.size + 0 ≤ w4.heap.size := (by have h := hb4.size; first | omega | (simp at h; omega))
            have hb1_4 := bel hb1_3 hb4 (by (repeat (first | assumption | exact Below.refl _ _ | refine ba ?_ _ | refine bd ?_ | refine bdn ?_ _ | refine bs ?_ (by first | omega | (simp; done) | (simp; omega)) _ | refine bt ?_ (by assumption))))
            have hb2_4 := bel hb2_3 hb4 (by (repeat (first | assumption | exact Below.refl _ _ | refine ba ?_ _ | refine bd ?_ | refine bdn ?_ _ | refine bs ?_ (by first | omega | (simp; done) | (simp; omega)) _ | refine bt ?_ (by assumption))))
            have hb3_4 := bel hb3 hb4 (by (repeat (first | assumption | exact Below.refl _ _ | refine ba ?_ _ | refine bd ?_ | refine bdn ?_ _ | refine bs ?_ (by first | omega | (simp; done) | (simp; omega)) _ | refine bt ?_ (by assumption))))
            clear hc1_3 hf1_3 hz3_0 hz3_1 hz3_2 hc3 hf3
            obtain ⟨hc1_4, hf1_4, hl1_4⟩ := bcell hb1_4
            clear hl1_4
            obtain ⟨hc3_4, hf3_4, hl3_4⟩ := bcell hb3_4
            clear hl3_4
            have hz4_0 : w.heap.size < w4.heap.size := (by omega)
            have hz4_1 : w.heap.size + 1 < w4.heap.size := (by omega)
            have hz4_2 : w2.heap.size < w4.heap.size := (by omega)
            obtain ⟨hc4, hf4, hl4⟩ := bcell hb4
            clear hl4
            simp only [List.mem_cons, List.not_mem_nil, or_false] at hi4
            subst hi4
            refine Mix.op rfl (by kernel_rfl) ?_
            go_simp
            refine Mix.all (rs := [12]) (by kernel_rfl) (by simp) (Mix.over_of (by (repeat (first | assumption | exact Below.refl _ _ | refine ba ?_ _ | refine bd ?_ | refine bdn ?_ _ | refine bs ?_ (by first | omega | (simp; done) | (simp; omega)) _ | refine bt ?_ (by assumption))))) ?_
            intro i5 hi5 w5 hb5 hC5
            clear hC5
            have hs5 : w4.heap.size + 1 ≤ w5.heap.size := (by have h := hb5.size; first | omega | (simp at h; omega))
            have hb1_5 := bel hb1_4 hb5 (by (repeat (first | assumption | exact Below.refl _ _ | refine ba ?_ _ | refine bd ?_ | refine bdn ?_ _ | refine bs ?_ (by first | omega | (simp; done) | (simp; omega)) _ | refine bt ?_ (by assumption))))
            have hb2_5 := bel hb2_4 hb5 (by (repeat (first | assumption | exact Below.refl _ _ | refine ba ?_ _ | refine bd ?_ | refine bdn ?_ _ | refine bs ?_ (by first | omega | (simp; done) | (simp; omega)) _ | refine bt ?_ (by assumption))))
            have hb3_5 := bel hb3_4 hb5 (by (repeat (first | assumption | exact Below.refl _ _ | refine ba ?_ _ | refine bd ?_ | refine bdn ?_ _ | refine bs ?_ (by first | omega | (simp; done) | (simp; omega)) _ | refine bt ?_ (by assumption))))
            have hb4_5 := bel hb4 hb5 (by (repeat (first | assumption | exact Below.refl _ _ | refine ba ?_ _ | refine bd ?_ | refine bdn ?_ _ | refine bs ?_ (by first | omega | (simp; done) | (simp; omega)) _ | refine bt ?_ (by assumption))))
            clear hc1_4 hf1_4 hc3_4 hf3_4 hz4_0 hz4_1 hz4_2 hc4 hf4
            obtain ⟨hc1_5, hf1_5, hl1_5⟩ := bcell hb1_5
            clear hl1_5
            obtain ⟨hc3_5, hf3_5, hl3_5⟩ := bcell hb3_5
            clear hl3_5
            have hz5_0 : w.heap.size < w5.heap.size := (by omega)
            have hz5_1 : w.heap.size + 1 < w5.heap.size := (by omega)
            have hz5_2 : w2.heap.size < w5.heap.size := (by omega)
            have hz5_3 : w4.heap.size < w5.heap.size := (by omega)
            obtain ⟨hc5, hf5, hl5⟩ := bcell hb5
            clear hl5
            simp only [List.mem_cons, List.not_mem_nil, or_false] at hi5
            subst hi5
            refine Mix.op rfl (by kernel_rfl) ?_
            go_simp
            have b15 : Below w1.heap.size w1 w5 := by (repeat (first | assumption | exact Below.refl _ _ | refine ba ?_ _ | refine bd ?_ | refine bdn ?_ _ | refine bs ?_ (by first | omega | (simp; done) | (simp; omega)) _ | refine bt ?_ (by assumption)))
            have e0 : w5.cell? ⟨w.heap.size + 1, 0, none⟩ = _ := (b15.cell (p := ⟨w.heap.size + 1, 0, none⟩) hz1).trans c0
            have e1 : w5.cell? ⟨w.heap.size + 1, 1, none⟩ = _ := (b15.cell (p := ⟨w.heap.size + 1, 1, none⟩) hz1).trans c1
            have e2 : w5.frozen? ⟨w.heap.size + 1, 0, none⟩ = _ := (b15.frozen (p := ⟨w.heap.size + 1, 0, none⟩) hz1).trans f00
            have e3 : w5.frozen? ⟨w.heap.size + 1, 1, none⟩ = _ := (b15.frozen (p := ⟨w.heap.size + 1, 1, none⟩) hz1).trans f01
            have e4 : w5.cell? ⟨w.heap.size, 0, none⟩ = _ := (b15.cell (p := ⟨w.heap.size, 0, none⟩) hz0).trans d0
            have e5 : w5.cell? ⟨w.heap.size, 1, none⟩ = _ := (b15.cell (p := ⟨w.heap.size, 1, none⟩) hz0).trans d1
            refine Mix.all (rs := [13]) (by kernel_rfl) (by simp) (Mix.over_of (by (repeat (first | assumption | exact Below.refl _ _ | refine ba ?_ _ | refine bd ?_ | refine bdn ?_ _ | refine bs ?_ (by first | omega | (simp; done) | (simp; omega)) _ | refine bt ?_ (by assumption))))) ?_
            intro i6 hi6 w6 hb6 hC6
            clear hC6
            have hs6 : w5.heap.size + 0 ≤ w6.heap.size := (by have h := hb6.size; first | omega | (simp at h; omega))
            have hz6_0 : w.heap.size < w6.heap.size := (by omega)
            have hz6_1 : w.heap.size + 1 < w6.heap.size := (by omega)
            have hz6_2 : w2.heap.size < w6.heap.size := (by omega)
            have hz6_3 : w4.heap.size < w6.heap.size := (by omega)
            have hy6_0_0 : w.heap.size ≤ w5.heap.size := (by omega)
            have hy6_1_0 : w.heap.size + 1 ≤ w5.heap.size := (by omega)
            have hy6_2_0 : w2.heap.size ≤ w5.heap.size := (by omega)
            have hy6_3_0 : w4.heap.size ≤ w5.heap.size := (by omega)
            obtain ⟨hc6, hf6, hl6⟩ := bcell hb6
            clear hl6
            simp only [List.mem_cons, List.not_mem_nil, or_false] at hi6
            subst hi6
            refine Mix.op rfl (by kernel_rfl) ?_
            go_simp
            refine Mix.done (by kernel_rfl) (Mix.over_of (by (repeat (first | assumption | exact Below.refl _ _ | refine ba ?_ _ | refine bd ?_ | refine bdn ?_ _ | refine bs ?_ (by first | omega | (simp; done) | (simp; omega)) _ | refine bt ?_ (by assumption))))) ?_
            intro w7 hb7
            have hs7 : w6.heap.size + 0 ≤ w7.heap.size := (by have h := hb7.size; first | omega | (simp at h; omega))
            have hb6_7 := bel hb6 hb7 (by (repeat (first | assumption | exact Below.refl _ _ | refine ba ?_ _ | refine bd ?_ | refine bdn ?_ _ | refine bs ?_ (by first | omega | (simp; done) | (simp; omega)) _ | refine bt ?_ (by assumption))))
            obtain ⟨hc6_7, hf6_7, hl6_7⟩ := bcell hb6_7
            clear hl6_7
            have hz7_0 : w.heap.size < w7.heap.size := (by omega)
            have hz7_1 : w.heap.size + 1 < w7.heap.size := (by omega)
            have hz7_2 : w2.heap.size < w7.heap.size := (by omega)
            have hz7_3 : w4.heap.size < w7.heap.size := (by omega)
            obtain ⟨hc7, hf7, hl7⟩ := bcell hb7
            clear hl7
            go_wp2_with fail
            have b17 : Below w1.heap.size w1 w7 := by (repeat (first | assumption | exact Below.refl _ _ | refine ba ?_ _ | refine bd ?_ | refine bdn ?_ _ | refine bs ?_ (by first | omega | (simp; done) | (simp; omega)) _ | refine bt ?_ (by assumption)))
            have g0' := (b17.cell (p := ⟨w.heap.size + 1, 0, none⟩) hz1).trans c0
            have g1' := (b17.cell (p := ⟨w.heap.size + 1, 1, none⟩) hz1).trans c1
            go_roundw
            case rel =>
              refine ⟨k + 1, by omega, by go_num, HD', HB', ?_, ?_, ?_, ?_, ?_, ?_, ?_, ?_⟩
              · (repeat (first | assumption | exact Below.refl _ _ | refine ba ?_ _ | refine bd ?_ | refine bdn ?_ _ | refine bs ?_ (by first | omega | (simp; done) | (simp; omega)) _ | refine bt ?_ (by assumption)))
              · simp; omega
              · rw [World.cell?_setCell_other _ _ _ _ (by simp)]; exact World.cell?_setCell_same _ _ _ g0'
              · exact World.cell?_setCell_same _ _ _ ((World.cell?_setCell_other _ _ _ _ (by simp)).trans g1')
              · intro j; rw [World.frozen?_setCell, World.frozen?_setCell]; exact (b17.frozen (p := ⟨w.heap.size + 1, j, none⟩) hz1).trans (f0 j)
              · rw [World.cell?_setCell_other _ _ _ _ (by simp), World.cell?_setCell_other _ _ _ _ (by simp)]; exact (b17.cell (p := ⟨w.heap.size, 0, none⟩) hz0).trans d0
              · rw [World.cell?_setCell_other _ _ _ _ (by simp), World.cell?_setCell_other _ _ _ _ (by simp)]; exact (b17.cell (p := ⟨w.heap.size, 1, none⟩) hz0).trans d1
              · intro j; rw [World.frozen?_setCell, World.frozen?_setCell]; exact (b17.frozen (p := ⟨w.heap.size, j, none⟩) hz0).trans (g0 j)
            case measure => simp [intOf]; omega
          · have hN : ¬ Good s := bad_size s (k + 1) (by rw [hst]; omega)
            rw [decide_eq_false r2] at hA
            clear r2
            unfold WV at hT hO hA
            have HT := Lib.hid hT; have HO := Lib.hid hO; have HA := Lib.hid hA; have HN := Lib.hid hN
            clear hT hO hA hst hB r1 hN
            go_wp2_with fail
            (with_reducible refine (HT.out w1).mono ?_)
            rintro e w2 ⟨rfl, hb2⟩
            have hs2 : w1.heap.size + 0 ≤ w2.heap.size := (by have h := hb2.size; first | omega | (simp at h; omega))
            have hb1_2 := bel hb1 hb2 (by (repeat (first | assumption | exact Below.refl _ _ | refine ba ?_ _ | refine bd ?_ | refine bdn ?_ _ | refine bs ?_ (by first | omega | (simp; done) | (simp; omega)) _ | refine bt ?_ (by assumption))))
            clear hz1_0 hz1_1 hc1 hf1
            obtain ⟨hc1_2, hf1_2, hl1_2⟩ := bcell hb1_2
            clear hl1_2
            have hz2_0 : w.heap.size < w2.heap.size := (by omega)
            have hz2_1 : w.heap.size + 1 < w2.heap.size := (by omega)
            obtain ⟨hc2, hf2, hl2⟩ := bcell hb2
            clear hl2
            go_wp2_with fail
            refine Mix.region0 (by kernel_rfl) ?_
            intro w3 hb3
            have hs3 : w2.heap.size + 1 ≤ w3.heap.size := (by have h := hb3.size; first | omega | (simp at h; omega))
            have hb1_3 := bel hb1_2 hb3 (by (repeat (first | assumption | exact Below.refl _ _ | refine ba ?_ _ | refine bd ?_ | refine bdn ?_ _ | refine bs ?_ (by first | omega | (simp; done) | (simp; omega)) _ | refine bt ?_ (by assumption))))
            have hb2_3 := bel hb2 hb3 (by (repeat (first | assumption | exact Below.refl _ _ | refine ba ?_ _ | refine bd ?_ | refine bdn ?_ _ | refine bs ?_ (by first | omega | (simp; done) | (simp; omega)) _ | refine bt ?_ (by assumption))))
            clear hc1_2 hf1_2 hz2_0 hz2_1 hc2 hf2
            obtain ⟨hc1_3, hf1_3, hl1_3⟩ := bcell hb1_3
            clear hl1_3
            have hz3_0 : w.heap.size < w3.heap.size := (by omega)
            have hz3_1 : w.heap.size + 1 < w3.heap.size := (by omega)
            have hz3_2 : w2.heap.size < w3.heap.size := (by omega)
            obtain ⟨hc3, hf3, hl3⟩ := bcell hb3
            clear hl3
            refine Mix.take_ex (_) 0 rfl (by kernel_rfl) (by kernel_rfl) (by kernel_rfl) (by kernel_rfl) (fun K hK => ?_)
            go_simp
            first | (refine hK _ ?_; clear hK K) | (apply Exists.intro; refine ⟨fun x => ?_, hK _ ?_⟩; (fail); clear hK K)
            refine Mix.take_ex (_) 1 rfl (by kernel_rfl) (by kernel_rfl) (by kernel_rfl) (by kernel_rfl) (fun K hK => ?_)
            go_simp
            first | (refine hK _ ?_; clear hK K) | (apply Exists.intro; refine ⟨fun x => ?_, hK _ ?_⟩; (fail); clear hK K)
            refine Mix.take_ex (_) 2 rfl (by kernel_rfl) (by kernel_rfl) (by kernel_rfl) (by kernel_rfl) (fun K hK => ?_)
            go_simp
            first | (refine hK _ ?_; clear hK K) | (apply Exists.intro; refine ⟨fun x => ?_, hK _ ?_⟩; (fail); clear hK K)
            refine Mix.take_ex (_) 3 rfl (by kernel_rfl) (by kernel_rfl) (by kernel_rfl) (by kernel_rfl) (fun K hK => ?_)
            go_simp
            first | (refine hK _ ?_; clear hK K) | (apply Exists.intro; refine ⟨fun x => ?_, hK _ ?_⟩; (fail); clear hK K)
            refine Mix.take_ex (_) 4 rfl (by kernel_rfl) (by kernel_rfl) (by kernel_rfl) (by kernel_rfl) (fun K hK => ?_)
            go_simp
            first | (refine hK _ ?_; clear hK K) | (apply Exists.intro; refine ⟨fun x => ?_, hK _ ?_⟩; (fail); clear hK K)
            refine Mix.take_ex (_) 5 rfl (by kernel_rfl) (by kernel_rfl) (by kernel_rfl) (by kernel_rfl) (fun K hK => ?_)
            go_simp
            first | (refine hK _ ?_; clear hK K) | (apply Exists.intro; refine ⟨fun x => ?_, hK _ ?_⟩; (fail); clear hK K)
            refine Mix.take_ex (_) 6 rfl (by kernel_rfl) (by kernel_rfl) (by kernel_rfl) (by kernel_rfl) (fun K hK => ?_)
            go_simp
            first | (refine hK _ ?_; clear hK K) | (apply Exists.intro; refine ⟨fun x => ?_, hK _ ?_⟩; ((first | (go_at_call 25; with_reducible exact HO.out _) | (go_at_call 11; with_reducible exact HA.out _))); clear hK K)
            refine Mix.take_ex (_) 7 rfl (by kernel_rfl) (by kernel_rfl) (by kernel_rfl) (by kernel_rfl) (fun K hK => ?_)
            go_simp
            first | (refine hK _ ?_; clear hK K) | (apply Exists.intro; refine ⟨fun x => ?_, hK _ ?_⟩; ((first | (go_at_call 25; with_reducible exact HO.out _) | (go_at_call 11; with_reducible exact HA.out _))); clear hK K)
            refine Mix.take_ex (_) 8 rfl (by kernel_rfl) (by kernel_rfl) (by kernel_rfl) (by kernel_rfl) (fun K hK => ?_)
            go_simp
            first | (refine hK _ ?_; clear hK K) | (apply Exists.intro; refine ⟨fun x => ?_, hK _ ?_⟩; (fail); clear hK K)
            refine Mix.take_ex (_) 9 rfl (by kernel_rfl) (by kernel_rfl) (by kernel_rfl) (by kernel_rfl) (fun K hK => ?_)
            go_simp
            first | (refine hK _ ?_; clear hK K) | (apply Exists.intro; refine ⟨fun x => ?_, hK _ ?_⟩; (fail); clear hK K)
            refine Mix.take_ex (_) 10 rfl (by kernel_rfl) (by kernel_rfl) (by kernel_rfl) (by kernel_rfl) (fun K hK => ?_)
            go_simp
            first | (refine hK _ ?_; clear hK K) | (apply Exists.intro; refine ⟨fun x => ?_, hK _ ?_⟩; (fail); clear hK K)
            refine Mix.all (rs := [11]) (by kernel_rfl) (by simp) (Mix.over_of (by (repeat (first | assumption | exact Below.refl _ _ | refine ba ?_ _ | refine bd ?_ | refine bdn ?_ _ | refine bs ?_ (by first | omega | (simp; done) | (simp; omega)) _ | refine bt ?_ (by assumption))))) ?_
            intro i4 hi4 w4 hb4 hC4
            clear hC4
            have hs4 : w3.heap.size + 0 ≤ w4.heap.size := (by have h := hb4.size; first | omega | (simp at h; omega))
            have hb1_4 := bel hb1_3 hb4 (by (repeat (first | assumption | exact Below.refl _ _ | refine ba ?_ _ | refine bd ?_ | refine bdn ?_ _ | refine bs ?_ (by first | omega | (simp; done) | (simp; omega)) _ | refine bt ?_ (by assumption))))
            have hb2_4 := bel hb2_3 hb4 (by (repeat (first | assumption | exact Below.refl _ _ | refine ba ?_ _ | refine bd ?_ | refine bdn ?_ _ | refine bs ?_ (by first | omega | (simp; done) | (simp; omega)) _ | refine bt ?_ (by assumption))))
            have hb3_4 := bel hb3 hb4 (by (repeat (first | assumption | exact Below.refl _ _ | refine ba ?_ _ | refine bd ?_ | refine bdn ?_ _ | refine bs ?_ (by first | omega | (simp; done) | (simp; omega)) _ | refine bt ?_ (by assumption))))
            clear hc1_3 hf1_3 hz3_0 hz3_1 hz3_2 hc3 hf3
            obtain ⟨hc1_4, hf1_4, hl1_4⟩ := bcell hb1_4
            clear hl1_4
            obtain ⟨hc3_4, hf3_4, hl3_4⟩ := bcell hb3_4
            clear hl3_4
            have hz4_0 : w.heap.size < w4.heap.size := (by omega)
            have hz4_1 : w.heap.size + 1 < w4.heap.size := (by omega)
            have hz4_2 : w2.heap.size < w4.heap.size := (by omega)
            obtain ⟨hc4, hf4, hl4⟩ := bcell hb4
            clear hl4
            simp only [List.mem_cons, List.not_mem_nil, or_false] at hi4
            subst hi4
            refine Mix.op rfl (by kernel_rfl) ?_
            go_simp
            refine Mix.all (rs := [12]) (by kernel_rfl) (by simp) (Mix.over_of (by (repeat (first | assumption | exact Below.refl _ _ | refine ba ?_ _ | refine bd ?_ | refine bdn ?_ _ | refine bs ?_ (by first | omega | (simp; done) | (simp; omega)) _ | refine bt ?_ (by assumption))))) ?_
            intro i5 hi5 w5 hb5 hC5
            clear hC5
            have hs5 : w4.heap.size + 1 ≤ w5.heap.size := (by have h := hb5.size; first | omega | (simp at h; omega))
            have hb1_5 := bel hb1_4 hb5 (by (repeat (first | assumption | exact Below.refl _ _ | refine ba ?_ _ | refine bd ?_ | refine bdn ?_ _ | refine bs ?_ (by first | omega | (simp; done) | (simp; omega)) _ | refine bt ?_ (by assumption))))
            have hb2_5 := bel hb2_4 hb5 (by (repeat (first | assumption | exact Below.refl _ _ | refine ba ?_ _ | refine bd ?_ | refine bdn ?_ _ | refine bs ?_ (by first | omega | (simp; done) | (simp; omega)) _ | refine bt ?_ (by assumption))))
            have hb3_5 := bel hb3_4 hb5 (by (repeat (first | assumption | exact Below.refl _ _ | refine ba ?_ _ | refine bd ?_ | refine bdn ?_ _ | refine bs ?_ (by first | omega | (simp; done) | (simp; omega)) _ | refine bt ?_ (by assumption))))
            have hb4_5 := bel hb4 hb5 (by (repeat (first | assumption | exact Below.refl _ _ | refine ba ?_ _ | refine bd ?_ | refine bdn ?_ _ | refine bs ?_ (by first | omega | (simp; done) | (simp; omega)) _ | refine bt ?_ (by assumption))))
            clear hc1_4 hf1_4 hc3_4 hf3_4 hz4_0 hz4_1 hz4_2 hc4 hf4
            obtain ⟨hc1_5, hf1_5, hl1_5⟩ := bcell hb1_5
            clear hl1_5
            obtain ⟨hc3_5, hf3_5, hl3_5⟩ := bcell hb3_5
            clear hl3_5
            have hz5_0 : w.heap.size < w5.heap.size := (by omega)
            have hz5_1 : w.heap.size + 1 < w5.heap.size := (by omega)
            have hz5_2 : w2.heap.size < w5.heap.size := (by omega)
            have hz5_3 : w4.heap.size < w5.heap.size := (by omega)
            obtain ⟨hc5, hf5, hl5⟩ := bcell hb5
            clear hl5
            simp only [List.mem_cons, List.not_mem_nil, or_false] at hi5
            subst hi5
            refine Mix.op rfl (by kernel_rfl) ?_
            go_simp
            have b15 : Below w1.heap.size w1 w5 := by (repeat (first | assumption | exact Below.refl _ _ | refine ba ?_ _ | refine bd ?_ | refine bdn ?_ _ | refine bs ?_ (by first | omega | (simp; done) | (simp; omega)) _ | refine bt ?_ (by assumption)))
            have e2 : w5.frozen? ⟨w.heap.size, 0, none⟩ = _ := (b15.frozen (p := ⟨w.heap.size, 0, none⟩) hz0).trans g00
            have e3 : w5.frozen? ⟨w.heap.size, 1, none⟩ = _ := (b15.frozen (p := ⟨w.heap.size, 1, none⟩) hz0).trans g01
            have e4 : w5.cell? ⟨w.heap.size, 0, none⟩ = _ := (b15.cell (p := ⟨w.heap.size, 0, none⟩) hz0).trans d0
            have e5 : w5.cell? ⟨w.heap.size, 1, none⟩ = _ := (b15.cell (p := ⟨w.heap.size, 1, none⟩) hz0).trans d1
            refine Mix.all (rs := [13]) (by kernel_rfl) (by simp) (Mix.over_of (by (repeat (first | assumption | exact Below.refl _ _ | refine ba ?_ _ | refine bd ?_ | refine bdn ?_ _ | refine bs ?_ (by first | omega | (simp; done) | (simp; omega)) _ | refine bt ?_ (by assumption))))) ?_
            intro i6 hi6 w6 hb6 hC6
            clear hC6
            have hs6 : w5.heap.size + 0 ≤ w6.heap.size := (by have h := hb6.size; first | omega | (simp at h; omega))
            have hz6_0 : w.heap.size < w6.heap.size := (by omega)
            have hz6_1 : w.heap.size + 1 < w6.heap.size := (by omega)
            have hz6_2 : w2.heap.size < w6.heap.size := (by omega)
            have hz6_3 : w4.heap.size < w6.heap.size := (by omega)
            have hy6_0_0 : w.heap.size ≤ w5.heap.size := (by omega)
            have hy6_1_0 : w.heap.size + 1 ≤ w5.heap.size := (by omega)
            have hy6_2_0 : w2.heap.size ≤ w5.heap.size := (by omega)
            have hy6_3_0 : w4.heap.size ≤ w5.heap.size := (by omega)
            obtain ⟨hc6, hf6, hl6⟩ := bcell hb6
            clear hl6
            simp only [List.mem_cons, List.not_mem_nil, or_false] at hi6
            subst hi6
            refine Mix.op rfl (by kernel_rfl) ?_
            go_simp
            refine Mix.done (by kernel_rfl) (Mix.over_of (by (repeat (first | assumption | exact Below.refl _ _ | refine ba ?_ _ | refine bd ?_ | refine bdn ?_ _ | refine bs ?_ (by first | omega | (simp; done) | (simp; omega)) _ | refine bt ?_ (by assumption))))) ?_
            intro w7 hb7
            have hs7 : w6.heap.size + 0 ≤ w7.heap.size := (by have h := hb7.size; first | omega | (simp at h; omega))
            have hb6_7 := bel hb6 hb7 (by (repeat (first | assumption | exact Below.refl _ _ | refine ba ?_ _ | refine bd ?_ | refine bdn ?_ _ | refine bs ?_ (by first | omega | (simp; done) | (simp; omega)) _ | refine bt ?_ (by assumption))))
            obtain ⟨hc6_7, hf6_7, hl6_7⟩ := bcell hb6_7
            clear hl6_7
            have hz7_0 : w.heap.size < w7.heap.size := (by omega)
            have hz7_1 : w.heap.size + 1 < w7.heap.size := (by omega)
            have hz7_2 : w2.heap.size < w7.heap.size := (by omega)
            have hz7_3 : w4.heap.size < w7.heap.size := (by omega)
            obtain ⟨hc7, hf7, hl7⟩ := bcell hb7
            clear hl7
            go_wp2
            refine bodyPost_ret (v := .tuple #[W2 0 0, .bool false]) (by simp [results, Try.results31, go_sem, *]) rfl ⟨.inr ⟨HN.out, rfl⟩, ?_⟩
            (repeat (first | assumption | exact Below.refl _ _ | refine ba ?_ _ | refine bd ?_ | refine bdn ?_ _ | refine bs ?_ (by first | omega | (simp; done) | (simp; omega)) _ | refine bt ?_ (by assumption)))
        · have hN : ¬ Good s := bad_size s (k + 1) (by rw [hst]; omega)
          have hA := add_V (decV ((nums s).take k) * 10 % B128) ((s[k].toNat : Int) - 48) ⟨Int.emod_nonneg _ (by decide), Int.emod_lt_of_pos _ (by decide)⟩ ⟨by omega, by rw [B128_eq]; omega⟩
          rw [decide_eq_false r1] at hT
          unfold WV at hT hO hA
          have HT := Lib.hid hT; have HO := Lib.hid hO; have HA := Lib.hid hA; have HN := Lib.hid hN
          clear hT hO hA hst hB r1 hN
          go_wp2_with fail
          (with_reducible refine (HT.out w1).mono ?_)
          rintro e w2 ⟨rfl, hb2⟩
          have hs2 : w1.heap.size + 0 ≤ w2.heap.size := (by have h := hb2.size; first | omega | (simp at h; omega))
          have hb1_2 := bel hb1 hb2 (by (repeat (first | assumption | exact Below.refl _ _ | refine ba ?_ _ | refine bd ?_ | refine bdn ?_ _ | refine bs ?_ (by first | omega | (simp; done) | (simp; omega)) _ | refine bt ?_ (by assumption))))
          clear hz1_0 hz1_1 hc1 hf1
          obtain ⟨hc1_2, hf1_2, hl1_2⟩ := bcell hb1_2
          clear hl1_2
          have hz2_0 : w.heap.size < w2.heap.size := (by omega)
          have hz2_1 : w.heap.size + 1 < w2.heap.size := (by omega)
          obtain ⟨hc2, hf2, hl2⟩ := bcell hb2
          clear hl2
          go_wp2_with fail
          refine Mix.region0 (by kernel_rfl) ?_
          intro w3 hb3
          have hs3 : w2.heap.size + 1 ≤ w3.heap.size := (by have h := hb3.size; first | omega | (simp at h; omega))
          have hb1_3 := bel hb1_2 hb3 (by (repeat (first | assumption | exact Below.refl _ _ | refine ba ?_ _ | refine bd ?_ | refine bdn ?_ _ | refine bs ?_ (by first | omega | (simp; done) | (simp; omega)) _ | refine bt ?_ (by assumption))))
          have hb2_3 := bel hb2 hb3 (by (repeat (first | assumption | exact Below.refl _ _ | refine ba ?_ _ | refine bd ?_ | refine bdn ?_ _ | refine bs ?_ (by first | omega | (simp; done) | (simp; omega)) _ | refine bt ?_ (by assumption))))
          clear hc1_2 hf1_2 hz2_0 hz2_1 hc2 hf2
          obtain ⟨hc1_3, hf1_3, hl1_3⟩ := bcell hb1_3
          clear hl1_3
          have hz3_0 : w.heap.size < w3.heap.size := (by omega)
          have hz3_1 : w.heap.size + 1 < w3.heap.size := (by omega)
          have hz3_2 : w2.heap.size < w3.heap.size := (by omega)
          obtain ⟨hc3, hf3, hl3⟩ := bcell hb3
          clear hl3
          refine Mix.take_ex (_) 0 rfl (by kernel_rfl) (by kernel_rfl) (by kernel_rfl) (by kernel_rfl) (fun K hK => ?_)
          go_simp
          first | (refine hK _ ?_; clear hK K) | (apply Exists.intro; refine ⟨fun x => ?_, hK _ ?_⟩; (fail); clear hK K)
          refine Mix.take_ex (_) 1 rfl (by kernel_rfl) (by kernel_rfl) (by kernel_rfl) (by kernel_rfl) (fun K hK => ?_)
          go_simp
          first | (refine hK _ ?_; clear hK K) | (apply Exists.intro; refine ⟨fun x => ?_, hK _ ?_⟩; (fail); clear hK K)
          refine Mix.take_ex (_) 2 rfl (by kernel_rfl) (by kernel_rfl) (by kernel_rfl) (by kernel_rfl) (fun K hK => ?_)
          go_simp
          first | (refine hK _ ?_; clear hK K) | (apply Exists.intro; refine ⟨fun x => ?_, hK _ ?_⟩; (fail); clear hK K)
          refine Mix.take_ex (_) 3 rfl (by kernel_rfl) (by kernel_rfl) (by kernel_rfl) (by kernel_rfl) (fun K hK => ?_)
          go_simp
          first | (refine hK _ ?_; clear hK K) | (apply Exists.intro; refine ⟨fun x => ?_, hK _ ?_⟩; (fail); clear hK K)
          refine Mix.take_ex (_) 4 rfl (by kernel_rfl) (by kernel_rfl) (by kernel_rfl) (by kernel_rfl) (fun K hK => ?_)
          go_simp
          first | (refine hK _ ?_; clear hK K) | (apply Exists.intro; refine ⟨fun x => ?_, hK _ ?_⟩; (fail); clear hK K)
          refine Mix.take_ex (_) 5 rfl (by kernel_rfl) (by kernel_rfl) (by kernel_rfl) (by kernel_rfl) (fun K hK => ?_)
          go_simp
          first | (refine hK _ ?_; clear hK K) | (apply Exists.intro; refine ⟨fun x => ?_, hK _ ?_⟩; (fail); clear hK K)
          refine Mix.take_ex (_) 6 rfl (by kernel_rfl) (by kernel_rfl) (by kernel_rfl) (by kernel_rfl) (fun K hK => ?_)
          go_simp
          first | (refine hK _ ?_; clear hK K) | (apply Exists.intro; refine ⟨fun x => ?_, hK _ ?_⟩; ((first | (go_at_call 25; with_reducible exact HO.out _) | (go_at_call 11; with_reducible exact HA.out _))); clear hK K)
          refine Mix.take_ex (_) 7 rfl (by kernel_rfl) (by kernel_rfl) (by kernel_rfl) (by kernel_rfl) (fun K hK => ?_)
          go_simp
          first | (refine hK _ ?_; clear hK K) | (apply Exists.intro; refine ⟨fun x => ?_, hK _ ?_⟩; ((first | (go_at_call 25; with_reducible exact HO.out _) | (go_at_call 11; with_reducible exact HA.out _))); clear hK K)
          refine Mix.take_ex (_) 8 rfl (by kernel_rfl) (by kernel_rfl) (by kernel_rfl) (by kernel_rfl) (fun K hK => ?_)
          go_simp
          first | (refine hK _ ?_; clear hK K) | (apply Exists.intro; refine ⟨fun x => ?_, hK _ ?_⟩; (fail); clear hK K)
          refine Mix.take_ex (_) 9 rfl (by kernel_rfl) (by kernel_rfl) (by kernel_rfl) (by kernel_rfl) (fun K hK => ?_)
          go_simp
          first | (refine hK _ ?_; clear hK K) | (apply Exists.intro; refine ⟨fun x => ?_, hK _ ?_⟩; (fail); clear hK K)
          refine Mix.take_ex (_) 10 rfl (by kernel_rfl) (by kernel_rfl) (by kernel_rfl) (by kernel_rfl) (fun K hK => ?_)
          go_simp
          first | (refine hK _ ?_; clear hK K) | (apply Exists.intro; refine ⟨fun x => ?_, hK _ ?_⟩; (fail); clear hK K)
          refine Mix.all (rs := [11]) (by kernel_rfl) (by simp) (Mix.over_of (by (repeat (first | assumption | exact Below.refl _ _ | refine ba ?_ _ | refine bd ?_ | refine bdn ?_ _ | refine bs ?_ (by first | omega | (simp; done) | (simp; omega)) _ | refine bt ?_ (by assumption))))) ?_
          intro i4 hi4 w4 hb4 hC4
          clear hC4
          have hs4 : w3.heap.size + 0 ≤ w4.heap.size := (by have h := hb4.size; first | omega | (simp at h; omega))
          have hb1_4 := bel hb1_3 hb4 (by (repeat (first | assumption | exact Below.refl _ _ | refine ba ?_ _ | refine bd ?_ | refine bdn ?_ _ | refine bs ?_ (by first | omega | (simp; done) | (simp; omega)) _ | refine bt ?_ (by assumption))))
          have hb2_4 := bel hb2_3 hb4 (by (repeat (first | assumption | exact Below.refl _ _ | refine ba ?_ _ | refine bd ?_ | refine bdn ?_ _ | refine bs ?_ (by first | omega | (simp; done) | (simp; omega)) _ | refine bt ?_ (by assumption))))
          have hb3_4 := bel hb3 hb4 (by (repeat (first | assumption | exact Below.refl _ _ | refine ba ?_ _ | refine bd ?_ | refine bdn ?_ _ | refine bs ?_ (by first | omega | (simp; done) | (simp; omega)) _ | refine bt ?_ (by assumption))))
          clear hc1_3 hf1_3 hz3_0 hz3_1 hz3_2 hc3 hf3
          obtain ⟨hc1_4, hf1_4, hl1_4⟩ := bcell hb1_4
          clear hl1_4
          obtain ⟨hc3_4, hf3_4, hl3_4⟩ := bcell hb3_4
          clear hl3_4
          have hz4_0 : w.heap.size < w4.heap.size := (by omega)
          have hz4_1 : w.heap.size + 1 < w4.heap.size := (by omega)
          have hz4_2 : w2.heap.size < w4.heap.size := (by omega)
          obtain ⟨hc4, hf4, hl4⟩ := bcell hb4
          clear hl4
          simp only [List.mem_cons, List.not_mem_nil, or_false] at hi4
          subst hi4
          refine Mix.op rfl (by kernel_rfl) ?_
          go_simp
          refine Mix.all (rs := [12]) (by kernel_rfl) (by simp) (Mix.over_of (by (repeat (first | assumption | exact Below.refl _ _ | refine ba ?_ _ | refine bd ?_ | refine bdn ?_ _ | refine bs ?_ (by first | omega | (simp; done) | (simp; omega)) _ | refine bt ?_ (by assumption))))) ?_
          intro i5 hi5 w5 hb5 hC5
          clear hC5
          have hs5 : w4.heap.size + 1 ≤ w5.heap.size := (by have h := hb5.size; first | omega | (simp at h; omega))
          have hb1_5 := bel hb1_4 hb5 (by (repeat (first | assumption | exact Below.refl _ _ | refine ba ?_ _ | refine bd ?_ | refine bdn ?_ _ | refine bs ?_ (by first | omega | (simp; done) | (simp; omega)) _ | refine bt ?_ (by assumption))))
          have hb2_5 := bel hb2_4 hb5 (by (repeat (first | assumption | exact Below.refl _ _ | refine ba ?_ _ | refine bd ?_ | refine bdn ?_ _ | refine bs ?_ (by first | omega | (simp; done) | (simp; omega)) _ | refine bt ?_ (by assumption))))
          have hb3_5 := bel hb3_4 hb5 (by (repeat (first | assumption | exact Below.refl _ _ | refine ba ?_ _ | refine bd ?_ | refine bdn ?_ _ | refine bs ?_ (by first | omega | (simp; done) | (simp; omega)) _ | refine bt ?_ (by assumption))))
          have hb4_5 := bel hb4 hb5 (by (repeat (first | assumption | exact Below.refl _ _ | refine ba ?_ _ | refine bd ?_ | refine bdn ?_ _ | refine bs ?_ (by first | omega | (simp; done) | (simp; omega)) _ | refine bt ?_ (by assumption))))
          clear hc1_4 hf1_4 hc3_4 hf3_4 hz4_0 hz4_1 hz4_2 hc4 hf4
          obtain ⟨hc1_5, hf1_5, hl1_5⟩ := bcell hb1_5
          clear hl1_5
          obtain ⟨hc3_5, hf3_5, hl3_5⟩ := bcell hb3_5
          clear hl3_5
          have hz5_0 : w.heap.size < w5.heap.size := (by omega)
          have hz5_1 : w.heap.size + 1 < w5.heap.size := (by omega)
          have hz5_2 : w2.heap.size < w5.heap.size := (by omega)
          have hz5_3 : w4.heap.size < w5.heap.size := (by omega)
          obtain ⟨hc5, hf5, hl5⟩ := bcell hb5
          clear hl5
          simp only [List.mem_cons, List.not_mem_nil, or_false] at hi5
          subst hi5
          refine Mix.op rfl (by kernel_rfl) ?_
          go_simp
          have b15 : Below w1.heap.size w1 w5 := by (repeat (first | assumption | exact Below.refl _ _ | refine ba ?_ _ | refine bd ?_ | refine bdn ?_ _ | refine bs ?_ (by first | omega | (simp; done) | (simp; omega)) _ | refine bt ?_ (by assumption)))
          have e2 : w5.frozen? ⟨w.heap.size, 0, none⟩ = _ := (b15.frozen (p := ⟨w.heap.size, 0, none⟩) hz0).trans g00
          have e3 : w5.frozen? ⟨w.heap.size, 1, none⟩ = _ := (b15.frozen (p := ⟨w.heap.size, 1, none⟩) hz0).trans g01
          have e4 : w5.cell? ⟨w.heap.size, 0, none⟩ = _ := (b15.cell (p := ⟨w.heap.size, 0, none⟩) hz0).trans d0
          have e5 : w5.cell? ⟨w.heap.size, 1, none⟩ = _ := (b15.cell (p := ⟨w.heap.size, 1, none⟩) hz0).trans d1
          refine Mix.all (rs := [13]) (by kernel_rfl) (by simp) (Mix.over_of (by (repeat (first | assumption | exact Below.refl _ _ | refine ba ?_ _ | refine bd ?_ | refine bdn ?_ _ | refine bs ?_ (by first | omega | (simp; done) | (simp; omega)) _ | refine bt ?_ (by assumption))))) ?_
          intro i6 hi6 w6 hb6 hC6
          clear hC6
          have hs6 : w5.heap.size + 0 ≤ w6.heap.size := (by have h := hb6.size; first | omega | (simp at h; omega))
          have hz6_0 : w.heap.size < w6.heap.size := (by omega)
          have hz6_1 : w.heap.size + 1 < w6.heap.size := (by omega)
          have hz6_2 : w2.heap.size < w6.heap.size := (by omega)
          have hz6_3 : w4.heap.size < w6.heap.size := (by omega)
          have hy6_0_0 : w.heap.size ≤ w5.heap.size := (by omega)
          have hy6_1_0 : w.heap.size + 1 ≤ w5.heap.size := (by omega)
          have hy6_2_0 : w2.heap.size ≤ w5.heap.size := (by omega)
          have hy6_3_0 : w4.heap.size ≤ w5.heap.size := (by omega)
          obtain ⟨hc6, hf6, hl6⟩ := bcell hb6
          clear hl6
          simp only [List.mem_cons, List.not_mem_nil, or_false] at hi6
          subst hi6
          refine Mix.op rfl (by kernel_rfl) ?_
          go_simp
          refine Mix.done (by kernel_rfl) (Mix.over_of (by (repeat (first | assumption | exact Below.refl _ _ | refine ba ?_ _ | refine bd ?_ | refine bdn ?_ _ | refine bs ?_ (by first | omega | (simp; done) | (simp; omega)) _ | refine bt ?_ (by assumption))))) ?_
          intro w7 hb7
          have hs7 : w6.heap.size + 0 ≤ w7.heap.size := (by have h := hb7.size; first | omega | (simp at h; omega))
          have hb6_7 := bel hb6 hb7 (by (repeat (first | assumption | exact Below.refl _ _ | refine ba ?_ _ | refine bd ?_ | refine bdn ?_ _ | refine bs ?_ (by first | omega | (simp; done) | (simp; omega)) _ | refine bt ?_ (by assumption))))
          obtain ⟨hc6_7, hf6_7, hl6_7⟩ := bcell hb6_7
          clear hl6_7
          have hz7_0 : w.heap.size < w7.heap.size := (by omega)
          have hz7_1 : w.heap.size + 1 < w7.heap.size := (by omega)
          have hz7_2 : w2.heap.size < w7.heap.size := (by omega)
          have hz7_3 : w4.heap.size < w7.heap.size := (by omega)
          obtain ⟨hc7, hf7, hl7⟩ := bcell hb7
          clear hl7
          go_wp2
          refine bodyPost_ret (v := .tuple #[W2 0 0, .bool false]) (by simp [results, Try.results31, go_sem, *]) rfl ⟨.inr ⟨HN.out, rfl⟩, ?_⟩
          (repeat (first | assumption | exact Below.refl _ _ | refine ba ?_ _ | refine bd ?_ | refine bdn ?_ _ | refine bs ?_ (by first | omega | (simp; done) | (simp; omega)) _ | refine bt ?_ (by assumption)))
      · have hN := bad_digit s k hlt hd
        have HN := Lib.hid hN
        clear hN
        by_cases hd1 : (s[k].toNat : Int) < 48
        · clear hd
          go_wp2
          refine bodyPost_ret (v := .tuple #[W2 0 0, .bool false]) (by simp [results, Try.results31, go_sem, *]) rfl ⟨.inr ⟨HN.out, rfl⟩, ?_⟩
          (repeat (first | assumption | exact Below.refl _ _ | refine ba ?_ _ | refine bd ?_ | refine bdn ?_ _ | refine bs ?_ (by first | omega | (simp; done) | (simp; omega)) _ | refine bt ?_ (by assumption)))
        · have hd2 : 57 < (s[k].toNat : Int) := by omega
          clear hd
          go_wp2
          refine bodyPost_ret (v := .tuple #[W2 0 0, .bool false]) (by simp [results, Try.results31, go_sem, *]) rfl ⟨.inr ⟨HN.out, rfl⟩, ?_⟩
          (repeat (first | assumption | exact Below.refl _ _ | refine ba ?_ _ | refine bd ?_ | refine bdn ?_ _ | refine bs ?_ (by first | omega | (simp; done) | (simp; omega)) _ | refine bt ?_ (by assumption)))
    · obtain rfl : k = s.size := by omega
      have e : (nums s).take s.size = nums s := List.take_of_length_le (by rw [nums_len]; exact Nat.le_refl _)
      rw [e] at c0 c1 HD HB
      go_wp2
      refine bodyPost_ret (v := .tuple #[WV (decV (nums s)), .bool true]) (by simp [results, Try.results31, go_sem, WV, *]) rfl ⟨.inl ⟨⟨HD.out, HB.out⟩, rfl⟩, ?_⟩
      (repeat (first | assumption | exact Below.refl _ _ | refine ba ?_ _ | refine bd ?_ | refine bdn ?_ _ | refine bs ?_ (by first | omega | (simp; done) | (simp; omega)) _ | refine bt ?_ (by assumption)))
end Go.Proofs.Ytojfkpmdnhkanaa

/- Contracts of the package share: Right, cross, Cmp. -/
import Derived.Test.YtfnfolpdbbnnlaaDoorWide2
namespace Go.Proofs.YtfnfolpdbbnnlaaDoor
open Go.RowKit
attribute [local go_sem] ext_cell ext_frozen Mix.calmUpon Mix.mUpon
/-- A share as a value. -/
abbrev S3 (n d w : Int) : Value := .agg #[.int .i64 n, .int .i64 d, .int .i64 w]
/-- A share that may be. -/
def SRt (n d w : Int) : Prop := n ≤ 9007199254740992 ∧ d ≤ 9007199254740992 ∧ (0 ≤ n ∧ 1 ≤ d) ∧ 1 ≤ w ∧ w ≤ 1000
instance (n d w : Int) : Decidable (SRt n d w) := by unfold SRt; infer_instance
theorem sright_yes (n d w : Int) (h : SRt n d w) : Pure Tryd.prog 46 #[S3 n d w] (.bool true) := by
  obtain ⟨h1, h2, ⟨h3, h4⟩, h5, h6⟩ := h
  intro W
  go_enter Tryd.func46, Tryd.ntmps46
  go_wp2_with fail
  (with_reducible refine ((right_yes n d h3 h4) _).mono ?_)
  rintro e w1 ⟨rfl, hb1⟩
  have hs1 : W.heap.size + 1 ≤ w1.heap.size := (by have h := hb1.size; first | omega | (simp at h; omega))
  have hz1_0 : W.heap.size < w1.heap.size := (by omega)
  obtain ⟨hc1, hf1, hl1⟩ := bcell hb1
  clear hl1
  go_wp2
  go_ret
  refine ⟨rfl, ?_⟩
  (repeat (first | assumption | exact Below.refl _ _ | refine ba ?_ _ | refine bd ?_ | refine bdn ?_ _ | refine bs ?_ (by first | omega | (simp; done) | (simp; omega)) _ | refine bt ?_ (by assumption)))
theorem sright_no (n d w : Int) (h : ¬ SRt n d w) : Pure Tryd.prog 46 #[S3 n d w] (.bool false) := by
  intro W
  by_cases h1 : n ≤ 9007199254740992
  · by_cases h2 : d ≤ 9007199254740992
    · by_cases h3 : Rt n d
      · have h4 : ¬ (1 ≤ w ∧ w ≤ 1000) := fun h' => h ⟨h1, h2, ⟨h3.1, h3.2⟩, h'⟩
        obtain ⟨h5, h6⟩ := h3
        by_cases h7 : 1 ≤ w
        · have h8 : 1000 < w := by omega
          clear h h4
          go_enter Tryd.func46, Tryd.ntmps46
          go_wp2_with fail
          (with_reducible refine ((right_yes n d h5 h6) _).mono ?_)
          rintro e w1 ⟨rfl, hb1⟩
          have hs1 : W.heap.size + 1 ≤ w1.heap.size := (by have h := hb1.size; first | omega | (simp at h; omega))
          have hz1_0 : W.heap.size < w1.heap.size := (by omega)
          obtain ⟨hc1, hf1, hl1⟩ := bcell hb1
          clear hl1
          go_wp2
          go_ret
          refine ⟨by show Ending.returned (.bool (decide (w ≤ 1000))) = _; rw [decide_eq_false (by omega)], ?_⟩
          (repeat (first | assumption | exact Below.refl _ _ | refine ba ?_ _ | refine bd ?_ | refine bdn ?_ _ | refine bs ?_ (by first | omega | (simp; done) | (simp; omega)) _ | refine bt ?_ (by assumption)))
        · have h8 : w < 1 := by omega
          clear h h4 h7
          go_enter Tryd.func46, Tryd.ntmps46
          go_wp2_with fail
          (with_reducible refine ((right_yes n d h5 h6) _).mono ?_)
          rintro e w1 ⟨rfl, hb1⟩
          have hs1 : W.heap.size + 1 ≤ w1.heap.size := (by have h := hb1.size; first | omega | (simp at h; omega))
          have hz1_0 : W.heap.size < w1.heap.size := (by omega)
          obtain ⟨hc1, hf1, hl1⟩ := bcell hb1
          clear hl1
          go_wp2
          go_ret
          refine ⟨rfl, ?_⟩
          (repeat (first | assumption | exact Below.refl _ _ | refine ba ?_ _ | refine bd ?_ | refine bdn ?_ _ | refine bs ?_ (by first | omega | (simp; done) | (simp; omega)) _ | refine bt ?_ (by assumption)))
      · have hc := Lib.hid (right_no n d h3)
        clear h h3
        go_enter Tryd.func46, Tryd.ntmps46
        go_wp2_with fail
        (with_reducible refine (hc.out _).mono ?_)
        rintro e w1 ⟨rfl, hb1⟩
        have hs1 : W.heap.size + 1 ≤ w1.heap.size := (by have h := hb1.size; first | omega | (simp at h; omega))
        have hz1_0 : W.heap.size < w1.heap.size := (by omega)
        obtain ⟨hc1, hf1, hl1⟩ := bcell hb1
        clear hl1
        go_wp2
        go_ret
        refine ⟨rfl, ?_⟩
        (repeat (first | assumption | exact Below.refl _ _ | refine ba ?_ _ | refine bd ?_ | refine bdn ?_ _ | refine bs ?_ (by first | omega | (simp; done) | (simp; omega)) _ | refine bt ?_ (by assumption)))
    · have h3 : 9007199254740992 < d := by omega
      clear h h2
      go_enter Tryd.func46, Tryd.ntmps46
      go_wp2
      go_ret
      refine ⟨rfl, ?_⟩
      (repeat (first | assumption | exact Below.refl _ _ | refine ba ?_ _ | refine bd ?_ | refine bdn ?_ _ | refine bs ?_ (by first | omega | (simp; done) | (simp; omega)) _ | refine bt ?_ (by assumption)))
  · have h3 : 9007199254740992 < n := by omega
    clear h h1
    go_enter Tryd.func46, Tryd.ntmps46
    go_wp2
    go_ret
    refine ⟨rfl, ?_⟩
    (repeat (first | assumption | exact Below.refl _ _ | refine ba ?_ _ | refine bd ?_ | refine bdn ?_ _ | refine bs ?_ (by first | omega | (simp; done) | (simp; omega)) _ | refine bt ?_ (by assumption)))
theorem sright_any (n d w : Int) : Pure Tryd.prog 46 #[S3 n d w] (.bool (decide (SRt n d w))) := by
  by_cases h : SRt n d w
  · rw [decide_eq_true h]; exact sright_yes n d w h
  · rw [decide_eq_false h]; exact sright_no n d w h

theorem wrapU (x : Int) : IntKind.u64.wrap x = x % 18446744073709551616 := by
  simp [IntKind.wrap, IntKind.bits, IntKind.signed]
theorem cross_bd {an bd bw : Int} (h1 : 0 ≤ an) (h2 : an ≤ 9007199254740992) (h3 : 0 ≤ bd) (h4 : bd ≤ 9007199254740992) (h5 : 0 ≤ bw) (h6 : bw ≤ 1000) :
    0 ≤ an * bd ∧ an * bd ≤ 81129638414606681695789005144064 ∧ 0 ≤ an * bd * bw ∧ an * bd * bw < B128 := by
  have k1 := Int.mul_nonneg h1 h3
  have k2 := Int.mul_le_mul h2 h4 h3 (by decide : (0 : Int) ≤ 9007199254740992)
  have k3 := Int.mul_nonneg k1 h5
  have k4 := Int.mul_le_mul k2 h6 h5 (by decide : (0 : Int) ≤ 9007199254740992 * 9007199254740992)
  rw [B128_eq]
  exact ⟨k1, by omega, k3, by omega⟩
set_option maxRecDepth 100000 in
set_option maxHeartbeats 4000000 in
theorem cross_any (an ad aw bn bd bw : Int) (ha : SRt an ad aw) (hb : SRt bn bd bw) : Pure Tryd.prog 69 #[S3 an ad aw, S3 bn bd bw] (WV (an * bd * bw)) := by
  obtain ⟨a1, a2, ⟨a3, a4⟩, a5, a6⟩ := ha
  obtain ⟨b1, b2, ⟨b3, b4⟩, b5, b6⟩ := hb
  obtain ⟨k1, k2, k3, k4⟩ := cross_bd a3 a1 (show 0 ≤ bd by omega) b2 (show 0 ≤ bw by omega) b6
  have hM := mul_V an bd ⟨a3, by omega⟩ ⟨by omega, by omega⟩
  have hT := times_V (an * bd) bw ⟨k1, by rw [B128_eq]; omega⟩ ⟨by omega, by omega⟩
  rw [Int.emod_eq_of_lt k3 k4, decide_eq_true k4] at hT
  unfold WV at hM hT
  have HM := Lib.hid hM; have HT := Lib.hid hT
  clear hM hT k1 k2 k3 k4
  have e1 : IntKind.u64.wrap an = an := by rw [wrapU]; omega
  have e2 : IntKind.u64.wrap bd = bd := by rw [wrapU]; omega
  have e3 : IntKind.u64.wrap bw = bw := by rw [wrapU]; omega
  intro w
  show Calls Tryd.prog 69 #[S3 an ad aw, S3 bn bd bw] w fun e w' => e = .returned (W2 (an * bd * bw / 18446744073709551616) (an * bd * bw % 18446744073709551616)) ∧ Below w.heap.size w w'
  go_enter Tryd.func69, Tryd.ntmps69
  go_wp2_with fail
  refine Mix.region0 (by kernel_rfl) ?_
  intro w1 hb1
  have hs1 : w.heap.size + 3 ≤ w1.heap.size := (by have h := hb1.size; first | omega | (simp at h; omega))
  have hz1_0 : w.heap.size < w1.heap.size := (by omega)
  have hz1_1 : w.heap.size + 1 < w1.heap.size := (by omega)
  have hz1_2 : w.heap.size + 2 < w1.heap.size := (by omega)
  have hx1_2 : w.heap.size + 1 + 1 < w1.heap.size := (by omega)
  obtain ⟨hc1, hf1, hl1⟩ := bcell hb1
  clear hl1
  refine Mix.take_ex (_) 0 rfl (by kernel_rfl) (by kernel_rfl) (by kernel_rfl) (by kernel_rfl) (fun K hK => ?_)
  go_simp
  first | (refine hK _ ?_; clear hK K) | (apply Exists.intro; refine ⟨fun x => ?_, hK _ ?_⟩; ((first | (go_at_call 76; with_reducible exact HM.out _) | (go_at_call 90; with_reducible exact HT.out _))); clear hK K)
  refine Mix.take_ex (_) 1 rfl (by kernel_rfl) (by kernel_rfl) (by kernel_rfl) (by kernel_rfl) (fun K hK => ?_)
  go_simp
  first | (refine hK _ ?_; clear hK K) | (apply Exists.intro; refine ⟨fun x => ?_, hK _ ?_⟩; ((first | (go_at_call 76; with_reducible exact HM.out _) | (go_at_call 90; with_reducible exact HT.out _))); clear hK K)
  refine Mix.take_ex (_) 2 rfl (by kernel_rfl) (by kernel_rfl) (by kernel_rfl) (by kernel_rfl) (fun K hK => ?_)
  go_simp
  first | (refine hK _ ?_; clear hK K) | (apply Exists.intro; refine ⟨fun x => ?_, hK _ ?_⟩; ((first | (go_at_call 76; with_reducible exact HM.out _) | (go_at_call 90; with_reducible exact HT.out _))); clear hK K)
  refine Mix.take_ex (_) 3 rfl (by kernel_rfl) (by kernel_rfl) (by kernel_rfl) (by kernel_rfl) (fun K hK => ?_)
  go_simp
  first | (refine hK _ ?_; clear hK K) | (apply Exists.intro; refine ⟨fun x => ?_, hK _ ?_⟩; ((first | (go_at_call 76; with_reducible exact HM.out _) | (go_at_call 90; with_reducible exact HT.out _))); clear hK K)
  refine Mix.take_ex (_) 4 rfl (by kernel_rfl) (by kernel_rfl) (by kernel_rfl) (by kernel_rfl) (fun K hK => ?_)
  go_simp
  first | (refine hK _ ?_; clear hK K) | (apply Exists.intro; refine ⟨fun x => ?_, hK _ ?_⟩; ((first | (go_at_call 76; with_reducible exact HM.out _) | (go_at_call 90; with_reducible exact HT.out _))); clear hK K)
  refine Mix.take_ex (_) 5 rfl (by kernel_rfl) (by kernel_rfl) (by kernel_rfl) (by kernel_rfl) (fun K hK => ?_)
  go_simp
  first | (refine hK _ ?_; clear hK K) | (apply Exists.intro; refine ⟨fun x => ?_, hK _ ?_⟩; ((first | (go_at_call 76; with_reducible exact HM.out _) | (go_at_call 90; with_reducible exact HT.out _))); clear hK K)
  refine Mix.take_ex (_) 6 rfl (by kernel_rfl) (by kernel_rfl) (by kernel_rfl) (by kernel_rfl) (fun K hK => ?_)
  go_simp
  first | (refine hK _ ?_; clear hK K) | (apply Exists.intro; refine ⟨fun x => ?_, hK _ ?_⟩; ((first | (go_at_call 76; with_reducible exact HM.out _) | (go_at_call 90; with_reducible exact HT.out _))); clear hK K)
  refine Mix.take_ex (_) 7 rfl (by kernel_rfl) (by kernel_rfl) (by kernel_rfl) (by kernel_rfl) (fun K hK => ?_)
  go_simp
  first | (refine hK _ ?_; clear hK K) | (apply Exists.intro; refine ⟨fun x => ?_, hK _ ?_⟩; ((first | (go_at_call 76; with_reducible exact HM.out _) | (go_at_call 90; with_reducible exact HT.out _))); clear hK K)
  refine Mix.take_ex (_) 8 rfl (by kernel_rfl) (by kernel_rfl) (by kernel_rfl) (by kernel_rfl) (fun K hK => ?_)
  go_simp
  first | (refine hK _ ?_; clear hK K) | (apply Exists.intro; refine ⟨fun x => ?_, hK _ ?_⟩; ((first | (go_at_call 76; with_reducible exact HM.out _) | (go_at_call 90; with_reducible exact HT.out _))); clear hK K)
  refine Mix.take_ex (_) 9 rfl (by kernel_rfl) (by kernel_rfl) (by kernel_rfl) (by kernel_rfl) (fun K hK => ?_)
  go_simp
  first | (refine hK _ ?_; clear hK K) | (apply Exists.intro; refine ⟨fun x => ?_, hK _ ?_⟩; ((first | (go_at_call 76; with_reducible exact HM.out _) | (go_at_call 90; with_reducible exact HT.out _))); clear hK K)
  refine Mix.take_ex (_) 10 rfl (by kernel_rfl) (by kernel_rfl) (by kernel_rfl) (by kernel_rfl) (fun K hK => ?_)
  go_simp
  first | (refine hK _ ?_; clear hK K) | (apply Exists.intro; refine ⟨fun x => ?_, hK _ ?_⟩; ((first | (go_at_call 76; with_reducible exact HM.out _) | (go_at_call 90; with_reducible exact HT.out _))); clear hK K)
  refine Mix.take_ex (_) 11 rfl (by kernel_rfl) (by kernel_rfl) (by kernel_rfl) (by kernel_rfl) (fun K hK => ?_)
  go_simp
  first | (refine hK _ ?_; clear hK K) | (apply Exists.intro; refine ⟨fun x => ?_, hK _ ?_⟩; ((first | (go_at_call 76; with_reducible exact HM.out _) | (go_at_call 90; with_reducible exact HT.out _))); clear hK K)
  refine Mix.take_ex (_) 12 rfl (by kernel_rfl) (by kernel_rfl) (by kernel_rfl) (by kernel_rfl) (fun K hK => ?_)
  go_simp
  first | (refine hK _ ?_; clear hK K) | (apply Exists.intro; refine ⟨fun x => ?_, hK _ ?_⟩; ((first | (go_at_call 76; with_reducible exact HM.out _) | (go_at_call 90; with_reducible exact HT.out _))); clear hK K)
  refine Mix.take_ex (_) 13 rfl (by kernel_rfl) (by kernel_rfl) (by kernel_rfl) (by kernel_rfl) (fun K hK => ?_)
  go_simp
  first | (refine hK _ ?_; clear hK K) | (apply Exists.intro; refine ⟨fun x => ?_, hK _ ?_⟩; ((first | (go_at_call 76; with_reducible exact HM.out _) | (go_at_call 90; with_reducible exact HT.out _))); clear hK K)
  refine Mix.take_ex (_) 14 rfl (by kernel_rfl) (by kernel_rfl) (by kernel_rfl) (by kernel_rfl) (fun K hK => ?_)
  go_simp
  first | (refine hK _ ?_; clear hK K) | (apply Exists.intro; refine ⟨fun x => ?_, hK _ ?_⟩; ((first | (go_at_call 76; with_reducible exact HM.out _) | (go_at_call 90; with_reducible exact HT.out _))); clear hK K)
  refine Mix.take_ex (_) 15 rfl (by kernel_rfl) (by kernel_rfl) (by kernel_rfl) (by kernel_rfl) (fun K hK => ?_)
  go_simp
  first | (refine hK _ ?_; clear hK K) | (apply Exists.intro; refine ⟨fun x => ?_, hK _ ?_⟩; ((first | (go_at_call 76; with_reducible exact HM.out _) | (go_at_call 90; with_reducible exact HT.out _))); clear hK K)
  clear e1 e2 e3
  refine Mix.all (rs := [16]) (by kernel_rfl) (by simp) (Mix.over_of (by (repeat (first | assumption | exact Below.refl _ _ | refine ba ?_ _ | refine bd ?_ | refine bdn ?_ _ | refine bs ?_ (by first | omega | (simp; done) | (simp; omega)) _ | refine bt ?_ (by assumption))))) ?_
  intro i2 hi2 w2 hb2 hC2
  clear hC2
  have hs2 : w1.heap.size + 0 ≤ w2.heap.size := (by have h := hb2.size; first | omega | (simp at h; omega))
  have hb1_2 := bel hb1 hb2 (by (repeat (first | assumption | exact Below.refl _ _ | refine ba ?_ _ | refine bd ?_ | refine bdn ?_ _ | refine bs ?_ (by first | omega | (simp; done) | (simp; omega)) _ | refine bt ?_ (by assumption))))
  clear hz1_0 hz1_1 hz1_2 hx1_2 hc1 hf1
  obtain ⟨hc1_2, hf1_2, hl1_2⟩ := bcell hb1_2
  clear hl1_2
  have hz2_0 : w.heap.size < w2.heap.size := (by omega)
  have hz2_1 : w.heap.size + 1 < w2.heap.size := (by omega)
  have hz2_2 : w.heap.size + 2 < w2.heap.size := (by omega)
  have hx2_2 : w.heap.size + 1 + 1 < w2.heap.size := (by omega)
  obtain ⟨hc2, hf2, hl2⟩ := bcell hb2
  clear hl2
  simp only [List.mem_cons, List.not_mem_nil, or_false] at hi2
  subst hi2
  refine Mix.op rfl (by kernel_rfl) ?_
  go_simp
  refine Mix.all (rs := [17]) (by kernel_rfl) (by simp) (Mix.over_of (by (repeat (first | assumption | exact Below.refl _ _ | refine ba ?_ _ | refine bd ?_ | refine bdn ?_ _ | refine bs ?_ (by first | omega | (simp; done) | (simp; omega)) _ | refine bt ?_ (by assumption))))) ?_
  intro i3 hi3 w3 hb3 hC3
  clear hC3
  have hs3 : w2.heap.size + 1 ≤ w3.heap.size := (by have h := hb3.size; first | omega | (simp at h; omega))
  have hb1_3 := bel hb1_2 hb3 (by (repeat (first | assumption | exact Below.refl _ _ | refine ba ?_ _ | refine bd ?_ | refine bdn ?_ _ | refine bs ?_ (by first | omega | (simp; done) | (simp; omega)) _ | refine bt ?_ (by assumption))))
  have hb2_3 := bel hb2 hb3 (by (repeat (first | assumption | exact Below.refl _ _ | refine ba ?_ _ | refine bd ?_ | refine bdn ?_ _ | refine bs ?_ (by first | omega | (simp; done) | (simp; omega)) _ | refine bt ?_ (by assumption))))
  clear hc1_2 hf1_2 hz2_0 hz2_1 hz2_2 hx2_2 hc2 hf2
  obtain ⟨hc1_3, hf1_3, hl1_3⟩ := bcell hb1_3
  clear hl1_3
  have hz3_0 : w.heap.size < w3.heap.size := (by omega)
  have hz3_1 : w.heap.size + 1 < w3.heap.size := (by omega)
  have hz3_2 : w.heap.size + 2 < w3.heap.size := (by omega)
  have hx3_2 : w.heap.size + 1 + 1 < w3.heap.size := (by omega)
  have hz3_3 : w2.heap.size < w3.heap.size := (by omega)
  obtain ⟨hc3, hf3, hl3⟩ := bcell hb3
  clear hl3
  simp only [List.mem_cons, List.not_mem_nil, or_false] at hi3
  subst hi3
  refine Mix.op rfl (by kernel_rfl) ?_
  go_simp
  refine Mix.all (rs := [18]) (by kernel_rfl) (by simp) (Mix.over_of (by (repeat (first | assumption | exact Below.refl _ _ | refine ba ?_ _ | refine bd ?_ | refine bdn ?_ _ | refine bs ?_ (by first | omega | (simp; done) | (simp; omega)) _ | refine bt ?_ (by assumption))))) ?_
  intro i4 hi4 w4 hb4 hC4
  clear hC4
  have hs4 : w3.heap.size + 0 ≤ w4.heap.size := (by have h := hb4.size; first | omega | (simp at h; omega))
  have hz4_0 : w.heap.size < w4.heap.size := (by omega)
  have hz4_1 : w.heap.size + 1 < w4.heap.size := (by omega)
  have hz4_2 : w.heap.size + 2 < w4.heap.size := (by omega)
  have hx4_2 : w.heap.size + 1 + 1 < w4.heap.size := (by omega)
  have hz4_3 : w2.heap.size < w4.heap.size := (by omega)
  have hy4_0_0 : w.heap.size ≤ w3.heap.size := (by omega)
  have hy4_1_0 : w.heap.size + 1 ≤ w3.heap.size := (by omega)
  have hy4_2_0 : w.heap.size + 2 ≤ w3.heap.size := (by omega)
  have hy4_3_0 : w2.heap.size ≤ w3.heap.size := (by omega)
  obtain ⟨hc4, hf4, hl4⟩ := bcell hb4
  clear hl4
  simp only [List.mem_cons, List.not_mem_nil, or_false] at hi4
  subst hi4
  refine Mix.op rfl (by kernel_rfl) ?_
  go_simp
  refine Mix.done (by kernel_rfl) (Mix.over_of (by (repeat (first | assumption | exact Below.refl _ _ | refine ba ?_ _ | refine bd ?_ | refine bdn ?_ _ | refine bs ?_ (by first | omega | (simp; done) | (simp; omega)) _ | refine bt ?_ (by assumption))))) ?_
  intro w5 hb5
  have hs5 : w4.heap.size + 0 ≤ w5.heap.size := (by have h := hb5.size; first | omega | (simp at h; omega))
  have hb4_5 := bel hb4 hb5 (by (repeat (first | assumption | exact Below.refl _ _ | refine ba ?_ _ | refine bd ?_ | refine bdn ?_ _ | refine bs ?_ (by first | omega | (simp; done) | (simp; omega)) _ | refine bt ?_ (by assumption))))
  obtain ⟨hc4_5, hf4_5, hl4_5⟩ := bcell hb4_5
  clear hl4_5
  have hz5_0 : w.heap.size < w5.heap.size := (by omega)
  have hz5_1 : w.heap.size + 1 < w5.heap.size := (by omega)
  have hz5_2 : w.heap.size + 2 < w5.heap.size := (by omega)
  have hx5_2 : w.heap.size + 1 + 1 < w5.heap.size := (by omega)
  have hz5_3 : w2.heap.size < w5.heap.size := (by omega)
  obtain ⟨hc5, hf5, hl5⟩ := bcell hb5
  clear hl5
  go_wp2
  refine bodyPost_ret (v := W2 (an * bd * bw / 18446744073709551616) (an * bd * bw % 18446744073709551616)) (by simp [results, Tryd.results69, go_sem, *]) rfl ⟨rfl, ?_⟩
  (repeat (first | assumption | exact Below.refl _ _ | refine ba ?_ _ | refine bd ?_ | refine bdn ?_ _ | refine bs ?_ (by first | omega | (simp; done) | (simp; omega)) _ | refine bt ?_ (by assumption)))
end Go.Proofs.YtfnfolpdbbnnlaaDoor

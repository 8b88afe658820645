/- filters: the law's works. -/
import Derived.Test.YtennhfkhdfalfaaFiC
namespace Go.Proofs.Ytennhfkhdfalfaa
open Go.RowKit Go.Maps
attribute [local go_sem] ext_cell ext_frozen extC_cell extC_frozen Mix.calmUpon Mix.mUpon
theorem TB.emp {tp M q : Nat} (h : TB tp M (fun _ => none) q) : q = tp ∨ q = M := by
  rcases h with h | h | ⟨_, _, h, _⟩
  · exact .inl h
  · exact .inr h
  · cases h
theorem i64w1 : I64 1 := ⟨by decide, by decide⟩
theorem i64w5 : I64 5 := ⟨by decide, by decide⟩
theorem i64w9 : I64 9 := ⟨by decide, by decide⟩
theorem lenw : wv.length < 1000000 := by decide
set_option maxRecDepth 100000 in
set_option maxHeartbeats 4000000 in
theorem works26 (W : World) : Calls Try.prog 32 #[] W fun e W' => e = .returned (.bool true) ∧ Below W.heap.size W W' := by
  go_enter Try.func32, Try.ntmps32
  go_wp2_with fail
  refine (fnew W W (Below.refl _ _) (cap := 2) (by decide)).mono ?_
  rintro e w1 ⟨rfl, h1, hb1⟩
  obtain ⟨tp, htp⟩ : ∃ tp, tp = W.heap.size + 1 := ⟨_, rfl⟩
  obtain ⟨M, hM⟩ : ∃ M, M = W.heap.size := ⟨_, rfl⟩
  have h1 : FT W w1 tp M 2 (fun _ => none) [] := by rw [htp, hM]; exact h1
  rw [← htp]
  clear htp hM hb1
  have hb2 := ba (Below.refl w1.heap.size w1) (.cells #[.int .i64 0, .int .i64 0, .int .i64 2, .int .i64 1, .int .i64 0, .int .i64 4] 57)
  have hv2 := two_parts (heap_alloc_new w1 (.cells #[.int .i64 0, .int .i64 0, .int .i64 2, .int .i64 1, .int .i64 0, .int .i64 4] 57))
  have hb3 := ba hb2 (.cells #[.int .i64 1, .int .i64 5, .int .i64 9, .slice (some ⟨w1.heap.size, 0, none⟩) 2 2] 72)
  have hf3 := FB.made (w1.alloc (.cells #[.int .i64 0, .int .i64 0, .int .i64 2, .int .i64 1, .int .i64 0, .int .i64 4] 57)) 1 5 9 (.slice (some ⟨w1.heap.size, 0, none⟩) 2 2)
  rw [show (w1.alloc (.cells #[.int .i64 0, .int .i64 0, .int .i64 2, .int .i64 1, .int .i64 0, .int .i64 4] 57)).heap.size = w1.heap.size + 1 by simp] at hf3
  have HF3 := Lib.hid hf3
  have HV3 := Lib.hid (hv2.on (ba (Below.refl _ _) (.cells #[.int .i64 1, .int .i64 5, .int .i64 9, .slice (some ⟨w1.heap.size, 0, none⟩) 2 2] 72)))
  have H3 := Lib.hid (h1.below hb3)
  have HL1 := Lib.hid h1.lt
  clear hb2 hv2 hf3 hb3 h1
  go_wp2_with fail
  generalize (w1.alloc (.cells #[.int .i64 0, .int .i64 0, .int .i64 2, .int .i64 1, .int .i64 0, .int .i64 4] 57)).alloc (.cells #[.int .i64 1, .int .i64 5, .int .i64 9, .slice (some ⟨w1.heap.size, 0, none⟩) 2 2] 72) = w3 at *
  obtain ⟨q, hq⟩ : ∃ q, q = w1.heap.size := ⟨_, rfl⟩
  rw [← hq] at HF3 HV3 HL1 ⊢
  clear hq
  obtain ⟨fb, hfb⟩ : ∃ b, b = q + 1 := ⟨_, rfl⟩
  rw [← hfb] at HF3 ⊢
  have hnf : ¬ TB tp M (fun _ => none) fb := fun h => by
    have := HL1.out
    rcases TB.emp h with e | e <;> omega
  have hnq : ¬ TB tp M (fun _ => none) q := fun h => by
    have := HL1.out
    rcases TB.emp h with e | e <;> omega
  have HNQ := Lib.hid hnq
  clear hfb
  obtain ⟨f0, f1, f2, f3⟩ := HF3.out.cells
  have f4 := HF3.out.lt
  refine Mix.regionC (TB tp M (fun _ => none)) (by kernel_rfl) ?_
  intro w5 hb5
  refine Mix.take_exC _ _ 0 rfl (by kernel_rfl) (by kernel_rfl) (by kernel_rfl) (by kernel_rfl) (fun K hK => ?_)
  go_simp
  first | (refine hK _ ?_; clear hK K) | (apply Exists.intro; refine ⟨fun x => ?_, hK _ ?_⟩; (fail); clear hK K)
  refine Mix.take_exC _ _ 1 rfl (by kernel_rfl) (by kernel_rfl) (by kernel_rfl) (by kernel_rfl) (fun K hK => ?_)
  go_simp
  first | (refine hK _ ?_; clear hK K) | (apply Exists.intro; refine ⟨fun x => ?_, hK _ ?_⟩; (fail); clear hK K)
  refine Mix.take_exC _ _ 3 rfl (by kernel_rfl) (by kernel_rfl) (by kernel_rfl) (by kernel_rfl) (fun K hK => ?_)
  go_simp
  first | (refine hK _ ?_; clear hK K) | (apply Exists.intro; refine ⟨fun x => ?_, hK _ ?_⟩; (fail); clear hK K)
  refine Mix.take_exC _ _ 4 rfl (by kernel_rfl) (by kernel_rfl) (by kernel_rfl) (by kernel_rfl) (fun K hK => ?_)
  go_simp
  first | (refine hK _ ?_; clear hK K) | (apply Exists.intro; refine ⟨fun x => ?_, hK _ ?_⟩; (fail); clear hK K)
  refine Mix.all (rs := [2]) (by kernel_rfl) (by simp) (.of_below _ hb5) ?_
  intro i6 hi6 w6 hb6 hC6
  simp only [List.mem_cons, List.not_mem_nil, or_false] at hi6
  subst hi6
  have HB6 := Lib.hid (bt hb5 hb6)
  clear hC6 hb5 hb6
  refine Mix.op rfl (by kernel_rfl) ?_
  go_simp
  refine (fputF (H3.out.below HB6.out) ⟨1, 5, 9, .slice (some ⟨q, 0, none⟩) 2 2, wv⟩ (HV3.out.on HB6.out) lenw (by decide) ⟨i64w1, i64w5, i64w9⟩).mono ?_
  rintro e w7 ⟨rfl, ⟨F7, h7, ht7, hc7⟩, -⟩
  refine ⟨_, rfl, ?_⟩
  have hw1 := w_put1
  rw [show putE 2 [] (Fl.pl ⟨1, 5, 9, .slice (some ⟨q, 0, none⟩) 2 2, wv⟩) = 0 from hw1.1]
  have h7 : FT W w7 tp M 2 F7 [wf] := by have e : putP 2 [] (Fl.pl ⟨1, 5, 9, .slice (some ⟨q, 0, none⟩) 2 2, wv⟩) = [wf] := hw1.2; rw [e] at h7; exact h7
  have HC7 := Lib.hid ((Chg.of_below (TB tp M (fun _ => none)) HB6.out).same hc7)
  have HT7 := Lib.hid (show ∀ z, TB tp M F7 z → TB tp M (fun _ => none) z ∨ w3.heap.size ≤ z from fun z hz => (ht7 z hz).imp id fun e => Nat.le_trans HB6.out.size e)
  have H7 := Lib.hid h7
  clear h7 ht7 hc7 hw1
  refine Mix.all (rs := [5]) (by kernel_rfl) (by simp) (HC7.out) ?_
  intro i8 hi8 w8 hb8 hC8
  simp only [List.mem_cons, List.not_mem_nil, or_false] at hi8
  subst hi8
  have H8 := Lib.hid (H7.out.below hb8)
  have HC8 := Lib.hid (HC7.out.then_below hb8)
  clear hC8 hb8
  refine Mix.op rfl (by kernel_rfl) ?_
  go_simp
  refine (fputF H8.out ⟨1, 5, 9, .slice (some ⟨q, 0, none⟩) 2 2, wv⟩ (HV3.out.chg HC8.out fun z hz => by cases hz; exact HNQ.out) lenw (by decide) ⟨i64w1, i64w5, i64w9⟩).mono ?_
  rintro e w9 ⟨rfl, ⟨F9, h9, ht9, hc9⟩, -⟩
  refine ⟨_, rfl, ?_⟩
  have hw1 := w_put2
  rw [show putE 2 [wf] (Fl.pl ⟨1, 5, 9, .slice (some ⟨q, 0, none⟩) 2 2, wv⟩) = 0 from hw1.1]
  have h9 : FT W w9 tp M 2 F9 [wf] := by have e : putP 2 [wf] (Fl.pl ⟨1, 5, 9, .slice (some ⟨q, 0, none⟩) 2 2, wv⟩) = [wf] := hw1.2; rw [e] at h9; exact h9
  have HC9 := Lib.hid (HC8.out.trans hc9 fun z hz => HT7.out z hz)
  have H9 := Lib.hid h9
  clear h9 ht9 hc9 hw1 f0 f1 f2 f3 f4 hnf hnq
  refine Mix.take_exC _ _ 6 rfl (by kernel_rfl) (by kernel_rfl) (by kernel_rfl) (by kernel_rfl) (fun K hK => ?_)
  go_simp
  first | (refine hK _ ?_; clear hK K) | (apply Exists.intro; refine ⟨fun x => ?_, hK _ ?_⟩; (fail); clear hK K)
  refine Mix.take_exC _ _ 7 rfl (by kernel_rfl) (by kernel_rfl) (by kernel_rfl) (by kernel_rfl) (fun K hK => ?_)
  go_simp
  first | (refine hK _ ?_; clear hK K) | (apply Exists.intro; refine ⟨fun x => ?_, hK _ ?_⟩; (fail); clear hK K)
  refine Mix.done (by kernel_rfl) HC9.out ?_
  intro w10 hb10
  have H10 := Lib.hid (H9.out.below hb10)
  clear hb10
  -- Long
  go_wp2_with fail
  refine (flong H10.out.toFQ).mono ?_
  rintro e w11 ⟨rfl, rfl⟩
  have hb12 := ba (Below.refl w11.heap.size w11) (.cells #[.int .i64 0, .int .i64 0, .int .i64 2, .int .i64 1, .int .i64 0, .int .i64 3] 57)
  have HV12 := Lib.hid (two_parts (heap_alloc_new w11 (.cells #[.int .i64 0, .int .i64 0, .int .i64 2, .int .i64 1, .int .i64 0, .int .i64 3] 57)))
  have H12 := Lib.hid (H10.out.below hb12)
  clear hb12
  go_wp2_with fail
  refine (fblocks H12.out i64w1 i64w5 HV12.out (by decide)).mono ?_
  rintro e w13 ⟨rfl, hb13⟩
  rw [w_blk1]
  have H13 := Lib.hid (H12.out.below hb13)
  clear hb13
  have hb14 := ba (Below.refl w13.heap.size w13) (.cells #[.int .i64 0, .int .i64 0, .int .i64 3] 57)
  have HV14 := Lib.hid (one_part26 (heap_alloc_new w13 (.cells #[.int .i64 0, .int .i64 0, .int .i64 3] 57)))
  have H14 := Lib.hid (H13.out.below hb14)
  clear hb14
  go_wp2_with fail
  refine (fblocks H14.out i64w1 i64w5 HV14.out (by decide)).mono ?_
  rintro e w15 ⟨rfl, hb15⟩
  rw [w_blk2]
  have H15 := Lib.hid (H14.out.below hb15)
  clear hb15
  go_wp2_with fail
  refine (fexpire H15.out 8).mono ?_
  rintro e w16 ⟨rfl, F16, h16, -, -⟩
  rw [w_exp8] at h16 ⊢
  have H16 := Lib.hid h16
  clear h16
  go_wp2_with fail
  refine (fexpire H16.out 9).mono ?_
  rintro e w17 ⟨rfl, F17, h17, -, -⟩
  rw [w_exp9] at h17 ⊢
  have H17 := Lib.hid h17
  clear h17
  go_wp2
  go_ret
  exact ⟨rfl, H17.out.bel⟩
end Go.Proofs.Ytennhfkhdfalfaa

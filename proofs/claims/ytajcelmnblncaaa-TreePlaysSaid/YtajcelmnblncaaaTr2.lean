/- tree: balance. -/
import Derived.Test.YtajcelmnblncaaaTr1
namespace Go.Proofs.Ytajcelmnblncaaa
open Go.RowKit
attribute [local go_sem] ext_cell ext_frozen extC_cell extC_frozen Mix.calmUpon Mix.mUpon
def ND (w : World) (b : Nat) (k : Int) (lv rv : Value) (d s : Nat) : Prop := w.heap[b]? = some (.cells #[.int .i64 k, lv, rv, .int .i64 d, .int .i64 s] 140 (0, 0))
theorem ND.lt {w : World} {b : Nat} {k : Int} {lv rv : Value} {d s : Nat} (h : ND w b k lv rv d s) : b < w.heap.size := (Array.getElem?_eq_some_iff.1 h).1
theorem ND.below {w w' : World} {b : Nat} {k : Int} {lv rv : Value} {d s : Nat} (h : ND w b k lv rv d s) (hb : Below w.heap.size w w') : ND w' b k lv rv d s := (hb.block _ h.lt).trans h
theorem ND.cells {w : World} {b : Nat} {k : Int} {lv rv : Value} {d s : Nat} (h : ND w b k lv rv d s) : w.cell? ⟨b, 0, none⟩ = some (.int .i64 k) ∧ w.cell? ⟨b, 1, none⟩ = some lv ∧ w.cell? ⟨b, 2, none⟩ = some rv := by
  unfold ND at h; simp [World.cell?, h]
theorem Tn.node {w : World} {v : Value} {l r : Tr} {k : Int} (h : Tn w v (.nd l k r)) : ∃ b pl pr, v = .pointer (some ⟨b, 0, none⟩) ∧ ND w b k (.pointer pl) (.pointer pr) (dp (.nd l k r)) (sz (.nd l k r)) ∧ Tn w (.pointer pl) l ∧ Tn w (.pointer pr) r := by
  obtain ⟨b, lv, rv, hv, hb, hl, hr⟩ := h
  obtain ⟨pl, rfl⟩ := hl.ptr
  obtain ⟨pr, rfl⟩ := hr.ptr
  exact ⟨b, pl, pr, hv, hb, hl, hr⟩
/-- The depth of a tree, asked in a world that extends one. -/
theorem depth_q {w : World} {v : Value} {t : Tr} (h : Tn w v t) (x : Ext w) : Calls Try.prog 122 #[v] (ext w x) fun e w'' => e = .returned (.int .i64 (dp t : Nat)) ∧ ∃ y, w'' = ext w y :=
  (depth_t (h.below (ext_below w x))).mono fun _ _ ⟨he, hw⟩ => ⟨he, x, hw.symm⟩
set_option maxRecDepth 100000 in
set_option maxHeartbeats 2000000 in
theorem balance_l {w : World} {lv rv : Value} {l r : Tr} (hl : Tn w lv l) (hr : Tn w rv r) (k : Int) (hs : sz l + sz r < 500000000) (hd : dp r + 1 < dp l) : Calls Try.prog 107 #[lv, .int .i64 k, rv] w (RetT (fun t => tl t = tl l ++ k :: tl r) w) := by
  obtain ⟨ll, lk, lr, rfl⟩ := dp_pos (show 0 < dp l by omega)
  obtain ⟨b, pl, pr, rfl, hN, hll, hlr⟩ := hl.node
  obtain ⟨pw, rfl⟩ := hr.ptr
  have HL := Lib.hid hl; have HR := Lib.hid hr; have HN := Lib.hid hN; have HLL := Lib.hid hll; have HLR := Lib.hid hlr
  have HQ1 := Lib.hid (depth_q hll); have HQ2 := Lib.hid (depth_q hlr)
  have hdr := dp_le r
  have hdl := dp_le (.nd ll lk lr)
  have hdll := dp_le ll; have hdlr := dp_le lr
  have hsz : sz (.nd ll lk lr) = 1 + sz ll + sz lr := rfl
  have hg1 : sz lr + sz r < 1000000000 := by omega
  have hg2 : sz ll + sz (.nd lr k r) < 1000000000 := by simp only [sz] at hs ⊢; omega
  have hdI : ((dp r : Nat) : Int) + 1 < ((dp (.nd ll lk lr) : Nat) : Int) := by omega
  have HRO := Lib.hid (fun (h : dp ll < dp lr) => show ∃ m1 mk m2, lr = .nd m1 mk m2 from dp_pos (by omega))
  obtain ⟨x0, x1, x2⟩ := hN.cells
  have xs := hN.lt
  clear hl hr hN hll hlr hsz
  by_cases hrot : dp lr ≤ dp ll
  · have hrI : ((dp lr : Nat) : Int) ≤ ((dp ll : Nat) : Int) := by omega
    go_enter Try.func107, Try.ntmps107
    go_wp2_with fail
    refine (depth_t HL.out).mono ?_
    rintro e w1 ⟨rfl, rfl⟩
    go_wp2_with fail
    refine (depth_t HR.out).mono ?_
    rintro e w1 ⟨rfl, rfl⟩
    go_wp2_with fail
    go_wp2
    refine wp_region_pure (by kernel_rfl) (by kernel_rfl) ?_
    repeat (first | go_big_quiet_step (((go_at_call 122; with_reducible first | exact HQ1.out _ | exact HQ2.out _))) | (quiet_step (((go_at_call 122; with_reducible first | exact HQ1.out _ | exact HQ2.out _)))))
    refine wpQuiet_nil ?_
    rintro w2 ⟨x2, hx2⟩
    have hb2 := ext_below _ x2
    rw [← hx2] at hb2
    clear hx2 x2
    have hs2 : w.heap.size + 0 ≤ w2.heap.size := (by have h := hb2.size; first | omega | (simp at h; omega))
    obtain ⟨hc2, hf2, hl2⟩ := bcell hb2
    clear hl2
    have HB2 := Lib.hid hb2
    have HN2 := Lib.hid (HN.out.below hb2)
    clear hb2 hc2 hf2 x0 x1 x2 xs
    obtain ⟨x0, x1, x2⟩ := HN2.out.cells
    have xs := HN2.out.lt
    have nf : ∀ q, ¬ (fun _ : Nat => False) q := fun _ h => h
    go_wp2
    refine Mix.regionC (fun _ => False) (by kernel_rfl) ?_
    intro w3 hb3
    refine Mix.take_exC _ _ 0 rfl (by kernel_rfl) (by kernel_rfl) (by kernel_rfl) (by kernel_rfl) (fun K hK => ?_)
    go_simp
    first | (refine hK _ ?_; clear hK K) | (apply Exists.intro; refine ⟨fun x => ?_, hK _ ?_⟩; (fail); clear hK K)
    refine Mix.take_exC _ _ 1 rfl (by kernel_rfl) (by kernel_rfl) (by kernel_rfl) (by kernel_rfl) (fun K hK => ?_)
    go_simp
    first | (refine hK _ ?_; clear hK K) | (apply Exists.intro; refine ⟨fun x => ?_, hK _ ?_⟩; (fail); clear hK K)
    refine Mix.take_exC _ _ 2 rfl (by kernel_rfl) (by kernel_rfl) (by kernel_rfl) (by kernel_rfl) (fun K hK => ?_)
    go_simp
    first | (refine hK _ ?_; clear hK K) | (apply Exists.intro; refine ⟨fun x => ?_, hK _ ?_⟩; (fail); clear hK K)
    refine Mix.take_exC _ _ 3 rfl (by kernel_rfl) (by kernel_rfl) (by kernel_rfl) (by kernel_rfl) (fun K hK => ?_)
    go_simp
    first | (refine hK _ ?_; clear hK K) | (apply Exists.intro; refine ⟨fun x => ?_, hK _ ?_⟩; (fail); clear hK K)
    refine Mix.take_exC _ _ 4 rfl (by kernel_rfl) (by kernel_rfl) (by kernel_rfl) (by kernel_rfl) (fun K hK => ?_)
    go_simp
    first | (refine hK _ ?_; clear hK K) | (apply Exists.intro; refine ⟨fun x => ?_, hK _ ?_⟩; (fail); clear hK K)
    refine Mix.take_exC _ _ 5 rfl (by kernel_rfl) (by kernel_rfl) (by kernel_rfl) (by kernel_rfl) (fun K hK => ?_)
    go_simp
    first | (refine hK _ ?_; clear hK K) | (apply Exists.intro; refine ⟨fun x => ?_, hK _ ?_⟩; (fail); clear hK K)
    refine Mix.take_exC _ _ 6 rfl (by kernel_rfl) (by kernel_rfl) (by kernel_rfl) (by kernel_rfl) (fun K hK => ?_)
    go_simp
    first | (refine hK _ ?_; clear hK K) | (apply Exists.intro; refine ⟨fun x => ?_, hK _ ?_⟩; (fail); clear hK K)
    refine Mix.take_exC _ _ 7 rfl (by kernel_rfl) (by kernel_rfl) (by kernel_rfl) (by kernel_rfl) (fun K hK => ?_)
    go_simp
    first | (refine hK _ ?_; clear hK K) | (apply Exists.intro; refine ⟨fun x => ?_, hK _ ?_⟩; (fail); clear hK K)
    refine Mix.take_exC _ _ 8 rfl (by kernel_rfl) (by kernel_rfl) (by kernel_rfl) (by kernel_rfl) (fun K hK => ?_)
    go_simp
    first | (refine hK _ ?_; clear hK K) | (apply Exists.intro; refine ⟨fun x => ?_, hK _ ?_⟩; (fail); clear hK K)
    refine Mix.take_exC _ _ 9 rfl (by kernel_rfl) (by kernel_rfl) (by kernel_rfl) (by kernel_rfl) (fun K hK => ?_)
    go_simp
    first | (refine hK _ ?_; clear hK K) | (apply Exists.intro; refine ⟨fun x => ?_, hK _ ?_⟩; (fail); clear hK K)
    refine Mix.take_exC _ _ 10 rfl (by kernel_rfl) (by kernel_rfl) (by kernel_rfl) (by kernel_rfl) (fun K hK => ?_)
    go_simp
    first | (refine hK _ ?_; clear hK K) | (apply Exists.intro; refine ⟨fun x => ?_, hK _ ?_⟩; (fail); clear hK K)
    refine Mix.take_exC _ _ 11 rfl (by kernel_rfl) (by kernel_rfl) (by kernel_rfl) (by kernel_rfl) (fun K hK => ?_)
    go_simp
    first | (refine hK _ ?_; clear hK K) | (apply Exists.intro; refine ⟨fun x => ?_, hK _ ?_⟩; (fail); clear hK K)
    refine Mix.take_exC _ _ 12 rfl (by kernel_rfl) (by kernel_rfl) (by kernel_rfl) (by kernel_rfl) (fun K hK => ?_)
    go_simp
    first | (refine hK _ ?_; clear hK K) | (apply Exists.intro; refine ⟨fun x => ?_, hK _ ?_⟩; (fail); clear hK K)
    refine Mix.take_exC _ _ 13 rfl (by kernel_rfl) (by kernel_rfl) (by kernel_rfl) (by kernel_rfl) (fun K hK => ?_)
    go_simp
    first | (refine hK _ ?_; clear hK K) | (apply Exists.intro; refine ⟨fun x => ?_, hK _ ?_⟩; (fail); clear hK K)
    have HB3 := Lib.hid (bt HB2.out hb3)
    refine Mix.all (rs := [14]) (by kernel_rfl) (by simp) (.of_below _ hb3) ?_
    intro i4 hi4 w4 hb4 hC4
    simp only [List.mem_cons, List.not_mem_nil, or_false] at hi4
    subst hi4
    have HB4 := Lib.hid (bt hb3 hb4)
    have HX4 := Lib.hid (bt HB2.out HB4.out)
    clear hC4 hb4 hb3
    refine Mix.op rfl (by kernel_rfl) ?_
    go_simp
    refine (join_t (HLR.out.below HX4.out) (HR.out.below HX4.out) k hg1).mono ?_
    rintro e w5 ⟨v5, _, rfl, h5, rfl, hb5⟩
    refine ⟨_, rfl, ?_⟩
    obtain ⟨p5, rfl⟩ := h5.ptr
    have HT5 := Lib.hid h5
    have HB5 := Lib.hid (bt HB4.out hb5)
    clear h5 hb5
    refine Mix.all (rs := [15]) (by kernel_rfl) (by simp) (.of_below _ HB5.out) ?_
    intro i6 hi6 w6 hb6 hC6
    simp only [List.mem_cons, List.not_mem_nil, or_false] at hi6
    subst hi6
    have HB6 := Lib.hid (bt HB5.out hb6)
    have HT6 := Lib.hid (HT5.out.below hb6)
    have HX6 := Lib.hid (bt HB2.out HB6.out)
    clear hC6 hb6
    refine Mix.op rfl (by kernel_rfl) ?_
    go_simp
    refine (join_t (HLL.out.below HX6.out) HT6.out lk hg2).mono ?_
    rintro e w7 ⟨v7, _, rfl, h7, rfl, hb7⟩
    refine ⟨_, rfl, ?_⟩
    obtain ⟨p7, rfl⟩ := h7.ptr
    have HT7 := Lib.hid h7
    have HB7 := Lib.hid (bt HB6.out hb7)
    clear h7 hb7
    refine Mix.take_exC _ _ 16 rfl (by kernel_rfl) (by kernel_rfl) (by kernel_rfl) (by kernel_rfl) (fun K hK => ?_)
    go_simp
    first | (refine hK _ ?_; clear hK K) | (apply Exists.intro; refine ⟨fun x => ?_, hK _ ?_⟩; (fail); clear hK K)
    refine Mix.done (by kernel_rfl) (.of_below _ HB7.out) ?_
    intro w8 hb8
    have HT8 := Lib.hid (HT7.out.below hb8)
    have HX8 := Lib.hid (bt HB2.out (bt HB7.out hb8))
    clear hb8 x0 x1 x2 xs nf
    go_wp2
    go_ret
    exact ⟨_, _, rfl, HT8.out, by simp [tl], HX8.out⟩
  · have hrI : ((dp ll : Nat) : Int) < ((dp lr : Nat) : Int) := by omega
    obtain ⟨m1, mk, m2, rfl⟩ := HRO.out (by omega)
    obtain ⟨b', q1, q2, hq, hM, hm1, hm2⟩ := HLR.out.node
    cases hq
    have HM := Lib.hid hM; have HM1 := Lib.hid hm1; have HM2 := Lib.hid hm2
    have hg3 : sz ll + sz m1 < 1000000000 := by simp only [sz] at hs; omega
    have hg4 : sz m2 + sz r < 1000000000 := by simp only [sz] at hs; omega
    have hg5 : sz (.nd ll lk m1) + sz (.nd m2 k r) < 1000000000 := by simp only [sz] at hs ⊢; omega
    clear hM hm1 hm2 HRO
    go_enter Try.func107, Try.ntmps107
    go_wp2_with fail
    refine (depth_t HL.out).mono ?_
    rintro e w1 ⟨rfl, rfl⟩
    go_wp2_with fail
    refine (depth_t HR.out).mono ?_
    rintro e w1 ⟨rfl, rfl⟩
    go_wp2_with fail
    go_wp2
    refine wp_region_pure (by kernel_rfl) (by kernel_rfl) ?_
    repeat (first | go_big_quiet_step (((go_at_call 122; with_reducible first | exact HQ1.out _ | exact HQ2.out _))) | (quiet_step (((go_at_call 122; with_reducible first | exact HQ1.out _ | exact HQ2.out _)))))
    refine wpQuiet_nil ?_
    rintro w2 ⟨x2, hx2⟩
    have hb2 := ext_below _ x2
    rw [← hx2] at hb2
    clear hx2 x2
    have hs2 : w.heap.size + 0 ≤ w2.heap.size := (by have h := hb2.size; first | omega | (simp at h; omega))
    obtain ⟨hc2, hf2, hl2⟩ := bcell hb2
    clear hl2
    have HB2 := Lib.hid hb2
    have HN2 := Lib.hid (HN.out.below hb2)
    clear hb2 hc2 hf2 x0 x1 x2 xs
    obtain ⟨x0, x1, x2⟩ := HN2.out.cells
    have xs := HN2.out.lt
    have nf : ∀ q, ¬ (fun _ : Nat => False) q := fun _ h => h
    go_wp2
    have HM2' := Lib.hid (HM.out.below HB2.out)
    obtain ⟨y0, y1, y2⟩ := HM2'.out.cells
    have ys := HM2'.out.lt
    refine Mix.regionC (fun _ => False) (by kernel_rfl) ?_
    intro w3 hb3
    refine Mix.take_exC _ _ 0 rfl (by kernel_rfl) (by kernel_rfl) (by kernel_rfl) (by kernel_rfl) (fun K hK => ?_)
    go_simp
    first | (refine hK _ ?_; clear hK K) | (apply Exists.intro; refine ⟨fun x => ?_, hK _ ?_⟩; (fail); clear hK K)
    refine Mix.take_exC _ _ 1 rfl (by kernel_rfl) (by kernel_rfl) (by kernel_rfl) (by kernel_rfl) (fun K hK => ?_)
    go_simp
    first | (refine hK _ ?_; clear hK K) | (apply Exists.intro; refine ⟨fun x => ?_, hK _ ?_⟩; (fail); clear hK K)
    refine Mix.take_exC _ _ 2 rfl (by kernel_rfl) (by kernel_rfl) (by kernel_rfl) (by kernel_rfl) (fun K hK => ?_)
    go_simp
    first | (refine hK _ ?_; clear hK K) | (apply Exists.intro; refine ⟨fun x => ?_, hK _ ?_⟩; (fail); clear hK K)
    refine Mix.take_exC _ _ 3 rfl (by kernel_rfl) (by kernel_rfl) (by kernel_rfl) (by kernel_rfl) (fun K hK => ?_)
    go_simp
    first | (refine hK _ ?_; clear hK K) | (apply Exists.intro; refine ⟨fun x => ?_, hK _ ?_⟩; (fail); clear hK K)
    refine Mix.take_exC _ _ 4 rfl (by kernel_rfl) (by kernel_rfl) (by kernel_rfl) (by kernel_rfl) (fun K hK => ?_)
    go_simp
    first | (refine hK _ ?_; clear hK K) | (apply Exists.intro; refine ⟨fun x => ?_, hK _ ?_⟩; (fail); clear hK K)
    refine Mix.take_exC _ _ 5 rfl (by kernel_rfl) (by kernel_rfl) (by kernel_rfl) (by kernel_rfl) (fun K hK => ?_)
    go_simp
    first | (refine hK _ ?_; clear hK K) | (apply Exists.intro; refine ⟨fun x => ?_, hK _ ?_⟩; (fail); clear hK K)
    refine Mix.take_exC _ _ 6 rfl (by kernel_rfl) (by kernel_rfl) (by kernel_rfl) (by kernel_rfl) (fun K hK => ?_)
    go_simp
    first | (refine hK _ ?_; clear hK K) | (apply Exists.intro; refine ⟨fun x => ?_, hK _ ?_⟩; (fail); clear hK K)
    refine Mix.take_exC _ _ 7 rfl (by kernel_rfl) (by kernel_rfl) (by kernel_rfl) (by kernel_rfl) (fun K hK => ?_)
    go_simp
    first | (refine hK _ ?_; clear hK K) | (apply Exists.intro; refine ⟨fun x => ?_, hK _ ?_⟩; (fail); clear hK K)
    refine Mix.take_exC _ _ 8 rfl (by kernel_rfl) (by kernel_rfl) (by kernel_rfl) (by kernel_rfl) (fun K hK => ?_)
    go_simp
    first | (refine hK _ ?_; clear hK K) | (apply Exists.intro; refine ⟨fun x => ?_, hK _ ?_⟩; (fail); clear hK K)
    refine Mix.take_exC _ _ 9 rfl (by kernel_rfl) (by kernel_rfl) (by kernel_rfl) (by kernel_rfl) (fun K hK => ?_)
    go_simp
    first | (refine hK _ ?_; clear hK K) | (apply Exists.intro; refine ⟨fun x => ?_, hK _ ?_⟩; (fail); clear hK K)
    refine Mix.take_exC _ _ 10 rfl (by kernel_rfl) (by kernel_rfl) (by kernel_rfl) (by kernel_rfl) (fun K hK => ?_)
    go_simp
    first | (refine hK _ ?_; clear hK K) | (apply Exists.intro; refine ⟨fun x => ?_, hK _ ?_⟩; (fail); clear hK K)
    refine Mix.take_exC _ _ 11 rfl (by kernel_rfl) (by kernel_rfl) (by kernel_rfl) (by kernel_rfl) (fun K hK => ?_)
    go_simp
    first | (refine hK _ ?_; clear hK K) | (apply Exists.intro; refine ⟨fun x => ?_, hK _ ?_⟩; (fail); clear hK K)
    refine Mix.take_exC _ _ 13 rfl (by kernel_rfl) (by kernel_rfl) (by kernel_rfl) (by kernel_rfl) (fun K hK => ?_)
    go_simp
    first | (refine hK _ ?_; clear hK K) | (apply Exists.intro; refine ⟨fun x => ?_, hK _ ?_⟩; (fail); clear hK K)
    refine Mix.take_exC _ _ 14 rfl (by kernel_rfl) (by kernel_rfl) (by kernel_rfl) (by kernel_rfl) (fun K hK => ?_)
    go_simp
    first | (refine hK _ ?_; clear hK K) | (apply Exists.intro; refine ⟨fun x => ?_, hK _ ?_⟩; (fail); clear hK K)
    refine Mix.take_exC _ _ 15 rfl (by kernel_rfl) (by kernel_rfl) (by kernel_rfl) (by kernel_rfl) (fun K hK => ?_)
    go_simp
    first | (refine hK _ ?_; clear hK K) | (apply Exists.intro; refine ⟨fun x => ?_, hK _ ?_⟩; (fail); clear hK K)
    refine Mix.take_exC _ _ 16 rfl (by kernel_rfl) (by kernel_rfl) (by kernel_rfl) (by kernel_rfl) (fun K hK => ?_)
    go_simp
    first | (refine hK _ ?_; clear hK K) | (apply Exists.intro; refine ⟨fun x => ?_, hK _ ?_⟩; (fail); clear hK K)
    refine Mix.take_exC _ _ 17 rfl (by kernel_rfl) (by kernel_rfl) (by kernel_rfl) (by kernel_rfl) (fun K hK => ?_)
    go_simp
    first | (refine hK _ ?_; clear hK K) | (apply Exists.intro; refine ⟨fun x => ?_, hK _ ?_⟩; (fail); clear hK K)
    refine Mix.take_exC _ _ 18 rfl (by kernel_rfl) (by kernel_rfl) (by kernel_rfl) (by kernel_rfl) (fun K hK => ?_)
    go_simp
    first | (refine hK _ ?_; clear hK K) | (apply Exists.intro; refine ⟨fun x => ?_, hK _ ?_⟩; (fail); clear hK K)
    refine Mix.take_exC _ _ 19 rfl (by kernel_rfl) (by kernel_rfl) (by kernel_rfl) (by kernel_rfl) (fun K hK => ?_)
    go_simp
    first | (refine hK _ ?_; clear hK K) | (apply Exists.intro; refine ⟨fun x => ?_, hK _ ?_⟩; (fail); clear hK K)
    refine Mix.take_exC _ _ 20 rfl (by kernel_rfl) (by kernel_rfl) (by kernel_rfl) (by kernel_rfl) (fun K hK => ?_)
    go_simp
    first | (refine hK _ ?_; clear hK K) | (apply Exists.intro; refine ⟨fun x => ?_, hK _ ?_⟩; (fail); clear hK K)
    refine Mix.take_exC _ _ 21 rfl (by kernel_rfl) (by kernel_rfl) (by kernel_rfl) (by kernel_rfl) (fun K hK => ?_)
    go_simp
    first | (refine hK _ ?_; clear hK K) | (apply Exists.intro; refine ⟨fun x => ?_, hK _ ?_⟩; (fail); clear hK K)
    refine Mix.take_exC _ _ 22 rfl (by kernel_rfl) (by kernel_rfl) (by kernel_rfl) (by kernel_rfl) (fun K hK => ?_)
    go_simp
    first | (refine hK _ ?_; clear hK K) | (apply Exists.intro; refine ⟨fun x => ?_, hK _ ?_⟩; (fail); clear hK K)
    refine Mix.all (rs := [12]) (by kernel_rfl) (by simp) (.of_below _ hb3) ?_
    intro i4 hi4 w4 hb4 hC4
    simp only [List.mem_cons, List.not_mem_nil, or_false] at hi4
    subst hi4
    have HB4 := Lib.hid (bt hb3 hb4)
    have HX4 := Lib.hid (bt HB2.out HB4.out)
    clear hC4 hb4 hb3
    refine Mix.op rfl (by kernel_rfl) ?_
    go_simp
    refine (join_t (HLL.out.below HX4.out) (HM1.out.below HX4.out) lk hg3).mono ?_
    rintro e w5 ⟨v5, _, rfl, h5, rfl, hb5⟩
    refine ⟨_, rfl, ?_⟩
    obtain ⟨p5, rfl⟩ := h5.ptr
    have HT5 := Lib.hid h5
    have HB5 := Lib.hid (bt HB4.out hb5)
    clear h5 hb5
    refine Mix.all (rs := [23]) (by kernel_rfl) (by simp) (.of_below _ HB5.out) ?_
    intro i6 hi6 w6 hb6 hC6
    simp only [List.mem_cons, List.not_mem_nil, or_false] at hi6
    subst hi6
    have HB6 := Lib.hid (bt HB5.out hb6)
    have HT6 := Lib.hid (HT5.out.below hb6)
    have HX6 := Lib.hid (bt HB2.out HB6.out)
    clear hC6 hb6
    refine Mix.op rfl (by kernel_rfl) ?_
    go_simp
    refine (join_t (HM2.out.below HX6.out) (HR.out.below HX6.out) k hg4).mono ?_
    rintro e w7 ⟨v7, _, rfl, h7, rfl, hb7⟩
    refine ⟨_, rfl, ?_⟩
    obtain ⟨p7, rfl⟩ := h7.ptr
    have HT7 := Lib.hid h7
    have HU7 := Lib.hid (HT6.out.below hb7)
    have HB7 := Lib.hid (bt HB6.out hb7)
    clear h7 hb7
    refine Mix.all (rs := [24]) (by kernel_rfl) (by simp) (.of_below _ HB7.out) ?_
    intro i8 hi8 w8 hb8 hC8
    simp only [List.mem_cons, List.not_mem_nil, or_false] at hi8
    subst hi8
    have HB8 := Lib.hid (bt HB7.out hb8)
    have HT8 := Lib.hid (HT7.out.below hb8)
    have HU8 := Lib.hid (HU7.out.below hb8)
    clear hC8 hb8
    refine Mix.op rfl (by kernel_rfl) ?_
    go_simp
    refine (join_t HU8.out HT8.out mk hg5).mono ?_
    rintro e w9 ⟨v9, _, rfl, h9, rfl, hb9⟩
    refine ⟨_, rfl, ?_⟩
    obtain ⟨p9, rfl⟩ := h9.ptr
    have HT9 := Lib.hid h9
    have HB9 := Lib.hid (bt HB8.out hb9)
    clear h9 hb9
    refine Mix.take_exC _ _ 25 rfl (by kernel_rfl) (by kernel_rfl) (by kernel_rfl) (by kernel_rfl) (fun K hK => ?_)
    go_simp
    first | (refine hK _ ?_; clear hK K) | (apply Exists.intro; refine ⟨fun x => ?_, hK _ ?_⟩; (fail); clear hK K)
    refine Mix.done (by kernel_rfl) (.of_below _ HB9.out) ?_
    intro w10 hb10
    have HT10 := Lib.hid (HT9.out.below hb10)
    have HX10 := Lib.hid (bt HB2.out (bt HB9.out hb10))
    clear hb10 x0 x1 x2 xs nf y0 y1 y2 ys
    go_wp2
    go_ret
    exact ⟨_, _, rfl, HT10.out, by simp [tl], HX10.out⟩
set_option maxRecDepth 100000 in
set_option maxHeartbeats 2000000 in
theorem balance_r {w : World} {lv rv : Value} {l r : Tr} (hl : Tn w lv l) (hr : Tn w rv r) (k : Int) (hs : sz l + sz r < 500000000) (hd : dp l + 1 < dp r) : Calls Try.prog 107 #[lv, .int .i64 k, rv] w (RetT (fun t => tl t = tl l ++ k :: tl r) w) := by
  obtain ⟨ll, lk, lr, rfl⟩ := dp_pos (show 0 < dp r by omega)
  obtain ⟨b, pl, pr, rfl, hN, hll, hlr⟩ := hr.node
  obtain ⟨pw, rfl⟩ := hl.ptr
  have HL := Lib.hid hl; have HR := Lib.hid hr; have HN := Lib.hid hN; have HLL := Lib.hid hll; have HLR := Lib.hid hlr
  have HQ1 := Lib.hid (depth_q hll); have HQ2 := Lib.hid (depth_q hlr)
  have hdr := dp_le l
  have hdl := dp_le (.nd ll lk lr)
  have hdll := dp_le ll; have hdlr := dp_le lr
  have hsz : sz (.nd ll lk lr) = 1 + sz ll + sz lr := rfl
  have hg1 : sz l + sz ll < 1000000000 := by omega
  have hg2 : sz (.nd l k ll) + sz lr < 1000000000 := by simp only [sz] at hs ⊢; omega
  have hdI : ((dp l : Nat) : Int) + 1 < ((dp (.nd ll lk lr) : Nat) : Int) := by omega
  have hdN : ((dp l : Nat) : Int) ≤ ((dp (.nd ll lk lr) : Nat) : Int) + 1 := by omega
  have HRO := Lib.hid (fun (h : dp lr < dp ll) => show ∃ m1 mk m2, ll = .nd m1 mk m2 from dp_pos (by omega))
  obtain ⟨x0, x1, x2⟩ := hN.cells
  have xs := hN.lt
  clear hl hr hN hll hlr hsz
  by_cases hrot : dp ll ≤ dp lr
  · have hrI : ((dp ll : Nat) : Int) ≤ ((dp lr : Nat) : Int) := by omega
    go_enter Try.func107, Try.ntmps107
    go_wp2_with fail
    refine (depth_t HL.out).mono ?_
    rintro e w1 ⟨rfl, rfl⟩
    go_wp2_with fail
    refine (depth_t HR.out).mono ?_
    rintro e w1 ⟨rfl, rfl⟩
    go_wp2_with fail
    refine (depth_t HR.out).mono ?_
    rintro e w1 ⟨rfl, rfl⟩
    go_wp2_with fail
    refine (depth_t HL.out).mono ?_
    rintro e w1 ⟨rfl, rfl⟩
    go_wp2
    refine wp_region_pure (by kernel_rfl) (by kernel_rfl) ?_
    repeat (first | go_big_quiet_step (((go_at_call 122; with_reducible first | exact HQ1.out _ | exact HQ2.out _))) | (quiet_step (((go_at_call 122; with_reducible first | exact HQ1.out _ | exact HQ2.out _)))))
    refine wpQuiet_nil ?_
    rintro w2 ⟨x2, hx2⟩
    have hb2 := ext_below _ x2
    rw [← hx2] at hb2
    clear hx2 x2
    have hs2 : w.heap.size + 0 ≤ w2.heap.size := (by have h := hb2.size; first | omega | (simp at h; omega))
    obtain ⟨hc2, hf2, hl2⟩ := bcell hb2
    clear hl2
    have HB2 := Lib.hid hb2
    have HN2 := Lib.hid (HN.out.below hb2)
    clear hb2 hc2 hf2 x0 x1 x2 xs
    obtain ⟨x0, x1, x2⟩ := HN2.out.cells
    have xs := HN2.out.lt
    have nf : ∀ q, ¬ (fun _ : Nat => False) q := fun _ h => h
    go_wp2
    refine Mix.regionC (fun _ => False) (by kernel_rfl) ?_
    intro w3 hb3
    refine Mix.take_exC _ _ 0 rfl (by kernel_rfl) (by kernel_rfl) (by kernel_rfl) (by kernel_rfl) (fun K hK => ?_)
    go_simp
    first | (refine hK _ ?_; clear hK K) | (apply Exists.intro; refine ⟨fun x => ?_, hK _ ?_⟩; (fail); clear hK K)
    refine Mix.take_exC _ _ 1 rfl (by kernel_rfl) (by kernel_rfl) (by kernel_rfl) (by kernel_rfl) (fun K hK => ?_)
    go_simp
    first | (refine hK _ ?_; clear hK K) | (apply Exists.intro; refine ⟨fun x => ?_, hK _ ?_⟩; (fail); clear hK K)
    refine Mix.take_exC _ _ 2 rfl (by kernel_rfl) (by kernel_rfl) (by kernel_rfl) (by kernel_rfl) (fun K hK => ?_)
    go_simp
    first | (refine hK _ ?_; clear hK K) | (apply Exists.intro; refine ⟨fun x => ?_, hK _ ?_⟩; (fail); clear hK K)
    refine Mix.take_exC _ _ 3 rfl (by kernel_rfl) (by kernel_rfl) (by kernel_rfl) (by kernel_rfl) (fun K hK => ?_)
    go_simp
    first | (refine hK _ ?_; clear hK K) | (apply Exists.intro; refine ⟨fun x => ?_, hK _ ?_⟩; (fail); clear hK K)
    refine Mix.take_exC _ _ 4 rfl (by kernel_rfl) (by kernel_rfl) (by kernel_rfl) (by kernel_rfl) (fun K hK => ?_)
    go_simp
    first | (refine hK _ ?_; clear hK K) | (apply Exists.intro; refine ⟨fun x => ?_, hK _ ?_⟩; (fail); clear hK K)
    refine Mix.take_exC _ _ 5 rfl (by kernel_rfl) (by kernel_rfl) (by kernel_rfl) (by kernel_rfl) (fun K hK => ?_)
    go_simp
    first | (refine hK _ ?_; clear hK K) | (apply Exists.intro; refine ⟨fun x => ?_, hK _ ?_⟩; (fail); clear hK K)
    refine Mix.take_exC _ _ 7 rfl (by kernel_rfl) (by kernel_rfl) (by kernel_rfl) (by kernel_rfl) (fun K hK => ?_)
    go_simp
    first | (refine hK _ ?_; clear hK K) | (apply Exists.intro; refine ⟨fun x => ?_, hK _ ?_⟩; (fail); clear hK K)
    refine Mix.take_exC _ _ 8 rfl (by kernel_rfl) (by kernel_rfl) (by kernel_rfl) (by kernel_rfl) (fun K hK => ?_)
    go_simp
    first | (refine hK _ ?_; clear hK K) | (apply Exists.intro; refine ⟨fun x => ?_, hK _ ?_⟩; (fail); clear hK K)
    refine Mix.take_exC _ _ 9 rfl (by kernel_rfl) (by kernel_rfl) (by kernel_rfl) (by kernel_rfl) (fun K hK => ?_)
    go_simp
    first | (refine hK _ ?_; clear hK K) | (apply Exists.intro; refine ⟨fun x => ?_, hK _ ?_⟩; (fail); clear hK K)
    refine Mix.take_exC _ _ 10 rfl (by kernel_rfl) (by kernel_rfl) (by kernel_rfl) (by kernel_rfl) (fun K hK => ?_)
    go_simp
    first | (refine hK _ ?_; clear hK K) | (apply Exists.intro; refine ⟨fun x => ?_, hK _ ?_⟩; (fail); clear hK K)
    refine Mix.take_exC _ _ 11 rfl (by kernel_rfl) (by kernel_rfl) (by kernel_rfl) (by kernel_rfl) (fun K hK => ?_)
    go_simp
    first | (refine hK _ ?_; clear hK K) | (apply Exists.intro; refine ⟨fun x => ?_, hK _ ?_⟩; (fail); clear hK K)
    refine Mix.take_exC _ _ 12 rfl (by kernel_rfl) (by kernel_rfl) (by kernel_rfl) (by kernel_rfl) (fun K hK => ?_)
    go_simp
    first | (refine hK _ ?_; clear hK K) | (apply Exists.intro; refine ⟨fun x => ?_, hK _ ?_⟩; (fail); clear hK K)
    refine Mix.take_exC _ _ 13 rfl (by kernel_rfl) (by kernel_rfl) (by kernel_rfl) (by kernel_rfl) (fun K hK => ?_)
    go_simp
    first | (refine hK _ ?_; clear hK K) | (apply Exists.intro; refine ⟨fun x => ?_, hK _ ?_⟩; (fail); clear hK K)
    refine Mix.take_exC _ _ 14 rfl (by kernel_rfl) (by kernel_rfl) (by kernel_rfl) (by kernel_rfl) (fun K hK => ?_)
    go_simp
    first | (refine hK _ ?_; clear hK K) | (apply Exists.intro; refine ⟨fun x => ?_, hK _ ?_⟩; (fail); clear hK K)
    have HB3 := Lib.hid (bt HB2.out hb3)
    refine Mix.all (rs := [6]) (by kernel_rfl) (by simp) (.of_below _ hb3) ?_
    intro i4 hi4 w4 hb4 hC4
    simp only [List.mem_cons, List.not_mem_nil, or_false] at hi4
    subst hi4
    have HB4 := Lib.hid (bt hb3 hb4)
    have HX4 := Lib.hid (bt HB2.out HB4.out)
    clear hC4 hb4 hb3
    refine Mix.op rfl (by kernel_rfl) ?_
    go_simp
    refine (join_t (HL.out.below HX4.out) (HLL.out.below HX4.out) k hg1).mono ?_
    rintro e w5 ⟨v5, _, rfl, h5, rfl, hb5⟩
    refine ⟨_, rfl, ?_⟩
    obtain ⟨p5, rfl⟩ := h5.ptr
    have HT5 := Lib.hid h5
    have HB5 := Lib.hid (bt HB4.out hb5)
    clear h5 hb5
    refine Mix.all (rs := [15]) (by kernel_rfl) (by simp) (.of_below _ HB5.out) ?_
    intro i6 hi6 w6 hb6 hC6
    simp only [List.mem_cons, List.not_mem_nil, or_false] at hi6
    subst hi6
    have HB6 := Lib.hid (bt HB5.out hb6)
    have HT6 := Lib.hid (HT5.out.below hb6)
    have HX6 := Lib.hid (bt HB2.out HB6.out)
    clear hC6 hb6
    refine Mix.op rfl (by kernel_rfl) ?_
    go_simp
    refine (join_t HT6.out (HLR.out.below HX6.out) lk hg2).mono ?_
    rintro e w7 ⟨v7, _, rfl, h7, rfl, hb7⟩
    refine ⟨_, rfl, ?_⟩
    obtain ⟨p7, rfl⟩ := h7.ptr
    have HT7 := Lib.hid h7
    have HB7 := Lib.hid (bt HB6.out hb7)
    clear h7 hb7
    refine Mix.take_exC _ _ 16 rfl (by kernel_rfl) (by kernel_rfl) (by kernel_rfl) (by kernel_rfl) (fun K hK => ?_)
    go_simp
    first | (refine hK _ ?_; clear hK K) | (apply Exists.intro; refine ⟨fun x => ?_, hK _ ?_⟩; (fail); clear hK K)
    refine Mix.done (by kernel_rfl) (.of_below _ HB7.out) ?_
    intro w8 hb8
    have HT8 := Lib.hid (HT7.out.below hb8)
    have HX8 := Lib.hid (bt HB2.out (bt HB7.out hb8))
    clear hb8 x0 x1 x2 xs nf
    go_wp2
    go_ret
    exact ⟨_, _, rfl, HT8.out, by simp [tl], HX8.out⟩
  · have hrI : ((dp lr : Nat) : Int) < ((dp ll : Nat) : Int) := by omega
    obtain ⟨m1, mk, m2, rfl⟩ := HRO.out (by omega)
    obtain ⟨b', q1, q2, hq, hM, hm1, hm2⟩ := HLL.out.node
    cases hq
    have HM := Lib.hid hM; have HM1 := Lib.hid hm1; have HM2 := Lib.hid hm2
    have hg3 : sz l + sz m1 < 1000000000 := by simp only [sz] at hs; omega
    have hg4 : sz m2 + sz lr < 1000000000 := by simp only [sz] at hs; omega
    have hg5 : sz (.nd l k m1) + sz (.nd m2 lk lr) < 1000000000 := by simp only [sz] at hs ⊢; omega
    clear hM hm1 hm2 HRO
    go_enter Try.func107, Try.ntmps107
    go_wp2_with fail
    refine (depth_t HL.out).mono ?_
    rintro e w1 ⟨rfl, rfl⟩
    go_wp2_with fail
    refine (depth_t HR.out).mono ?_
    rintro e w1 ⟨rfl, rfl⟩
    go_wp2_with fail
    refine (depth_t HR.out).mono ?_
    rintro e w1 ⟨rfl, rfl⟩
    go_wp2_with fail
    refine (depth_t HL.out).mono ?_
    rintro e w1 ⟨rfl, rfl⟩
    go_wp2
    refine wp_region_pure (by kernel_rfl) (by kernel_rfl) ?_
    repeat (first | go_big_quiet_step (((go_at_call 122; with_reducible first | exact HQ1.out _ | exact HQ2.out _))) | (quiet_step (((go_at_call 122; with_reducible first | exact HQ1.out _ | exact HQ2.out _)))))
    refine wpQuiet_nil ?_
    rintro w2 ⟨x2, hx2⟩
    have hb2 := ext_below _ x2
    rw [← hx2] at hb2
    clear hx2 x2
    have hs2 : w.heap.size + 0 ≤ w2.heap.size := (by have h := hb2.size; first | omega | (simp at h; omega))
    obtain ⟨hc2, hf2, hl2⟩ := bcell hb2
    clear hl2
    have HB2 := Lib.hid hb2
    have HN2 := Lib.hid (HN.out.below hb2)
    clear hb2 hc2 hf2 x0 x1 x2 xs
    obtain ⟨x0, x1, x2⟩ := HN2.out.cells
    have xs := HN2.out.lt
    have nf : ∀ q, ¬ (fun _ : Nat => False) q := fun _ h => h
    go_wp2
    have HM2' := Lib.hid (HM.out.below HB2.out)
    obtain ⟨y0, y1, y2⟩ := HM2'.out.cells
    have ys := HM2'.out.lt
    refine Mix.regionC (fun _ => False) (by kernel_rfl) ?_
    intro w3 hb3
    refine Mix.take_exC _ _ 0 rfl (by kernel_rfl) (by kernel_rfl) (by kernel_rfl) (by kernel_rfl) (fun K hK => ?_)
    go_simp
    first | (refine hK _ ?_; clear hK K) | (apply Exists.intro; refine ⟨fun x => ?_, hK _ ?_⟩; (fail); clear hK K)
    refine Mix.take_exC _ _ 1 rfl (by kernel_rfl) (by kernel_rfl) (by kernel_rfl) (by kernel_rfl) (fun K hK => ?_)
    go_simp
    first | (refine hK _ ?_; clear hK K) | (apply Exists.intro; refine ⟨fun x => ?_, hK _ ?_⟩; (fail); clear hK K)
    refine Mix.take_exC _ _ 2 rfl (by kernel_rfl) (by kernel_rfl) (by kernel_rfl) (by kernel_rfl) (fun K hK => ?_)
    go_simp
    first | (refine hK _ ?_; clear hK K) | (apply Exists.intro; refine ⟨fun x => ?_, hK _ ?_⟩; (fail); clear hK K)
    refine Mix.take_exC _ _ 3 rfl (by kernel_rfl) (by kernel_rfl) (by kernel_rfl) (by kernel_rfl) (fun K hK => ?_)
    go_simp
    first | (refine hK _ ?_; clear hK K) | (apply Exists.intro; refine ⟨fun x => ?_, hK _ ?_⟩; (fail); clear hK K)
    refine Mix.take_exC _ _ 4 rfl (by kernel_rfl) (by kernel_rfl) (by kernel_rfl) (by kernel_rfl) (fun K hK => ?_)
    go_simp
    first | (refine hK _ ?_; clear hK K) | (apply Exists.intro; refine ⟨fun x => ?_, hK _ ?_⟩; (fail); clear hK K)
    refine Mix.take_exC _ _ 5 rfl (by kernel_rfl) (by kernel_rfl) (by kernel_rfl) (by kernel_rfl) (fun K hK => ?_)
    go_simp
    first | (refine hK _ ?_; clear hK K) | (apply Exists.intro; refine ⟨fun x => ?_, hK _ ?_⟩; (fail); clear hK K)
    refine Mix.take_exC _ _ 7 rfl (by kernel_rfl) (by kernel_rfl) (by kernel_rfl) (by kernel_rfl) (fun K hK => ?_)
    go_simp
    first | (refine hK _ ?_; clear hK K) | (apply Exists.intro; refine ⟨fun x => ?_, hK _ ?_⟩; (fail); clear hK K)
    refine Mix.take_exC _ _ 8 rfl (by kernel_rfl) (by kernel_rfl) (by kernel_rfl) (by kernel_rfl) (fun K hK => ?_)
    go_simp
    first | (refine hK _ ?_; clear hK K) | (apply Exists.intro; refine ⟨fun x => ?_, hK _ ?_⟩; (fail); clear hK K)
    refine Mix.take_exC _ _ 9 rfl (by kernel_rfl) (by kernel_rfl) (by kernel_rfl) (by kernel_rfl) (fun K hK => ?_)
    go_simp
    first | (refine hK _ ?_; clear hK K) | (apply Exists.intro; refine ⟨fun x => ?_, hK _ ?_⟩; (fail); clear hK K)
    refine Mix.take_exC _ _ 10 rfl (by kernel_rfl) (by kernel_rfl) (by kernel_rfl) (by kernel_rfl) (fun K hK => ?_)
    go_simp
    first | (refine hK _ ?_; clear hK K) | (apply Exists.intro; refine ⟨fun x => ?_, hK _ ?_⟩; (fail); clear hK K)
    refine Mix.take_exC _ _ 11 rfl (by kernel_rfl) (by kernel_rfl) (by kernel_rfl) (by kernel_rfl) (fun K hK => ?_)
    go_simp
    first | (refine hK _ ?_; clear hK K) | (apply Exists.intro; refine ⟨fun x => ?_, hK _ ?_⟩; (fail); clear hK K)
    refine Mix.take_exC _ _ 12 rfl (by kernel_rfl) (by kernel_rfl) (by kernel_rfl) (by kernel_rfl) (fun K hK => ?_)
    go_simp
    first | (refine hK _ ?_; clear hK K) | (apply Exists.intro; refine ⟨fun x => ?_, hK _ ?_⟩; (fail); clear hK K)
    refine Mix.take_exC _ _ 13 rfl (by kernel_rfl) (by kernel_rfl) (by kernel_rfl) (by kernel_rfl) (fun K hK => ?_)
    go_simp
    first | (refine hK _ ?_; clear hK K) | (apply Exists.intro; refine ⟨fun x => ?_, hK _ ?_⟩; (fail); clear hK K)
    refine Mix.take_exC _ _ 14 rfl (by kernel_rfl) (by kernel_rfl) (by kernel_rfl) (by kernel_rfl) (fun K hK => ?_)
    go_simp
    first | (refine hK _ ?_; clear hK K) | (apply Exists.intro; refine ⟨fun x => ?_, hK _ ?_⟩; (fail); clear hK K)
    refine Mix.take_exC _ _ 15 rfl (by kernel_rfl) (by kernel_rfl) (by kernel_rfl) (by kernel_rfl) (fun K hK => ?_)
    go_simp
    first | (refine hK _ ?_; clear hK K) | (apply Exists.intro; refine ⟨fun x => ?_, hK _ ?_⟩; (fail); clear hK K)
    refine Mix.take_exC _ _ 16 rfl (by kernel_rfl) (by kernel_rfl) (by kernel_rfl) (by kernel_rfl) (fun K hK => ?_)
    go_simp
    first | (refine hK _ ?_; clear hK K) | (apply Exists.intro; refine ⟨fun x => ?_, hK _ ?_⟩; (fail); clear hK K)
    refine Mix.take_exC _ _ 17 rfl (by kernel_rfl) (by kernel_rfl) (by kernel_rfl) (by kernel_rfl) (fun K hK => ?_)
    go_simp
    first | (refine hK _ ?_; clear hK K) | (apply Exists.intro; refine ⟨fun x => ?_, hK _ ?_⟩; (fail); clear hK K)
    refine Mix.take_exC _ _ 18 rfl (by kernel_rfl) (by kernel_rfl) (by kernel_rfl) (by kernel_rfl) (fun K hK => ?_)
    go_simp
    first | (refine hK _ ?_; clear hK K) | (apply Exists.intro; refine ⟨fun x => ?_, hK _ ?_⟩; (fail); clear hK K)
    refine Mix.take_exC _ _ 19 rfl (by kernel_rfl) (by kernel_rfl) (by kernel_rfl) (by kernel_rfl) (fun K hK => ?_)
    go_simp
    first | (refine hK _ ?_; clear hK K) | (apply Exists.intro; refine ⟨fun x => ?_, hK _ ?_⟩; (fail); clear hK K)
    refine Mix.take_exC _ _ 20 rfl (by kernel_rfl) (by kernel_rfl) (by kernel_rfl) (by kernel_rfl) (fun K hK => ?_)
    go_simp
    first | (refine hK _ ?_; clear hK K) | (apply Exists.intro; refine ⟨fun x => ?_, hK _ ?_⟩; (fail); clear hK K)
    refine Mix.take_exC _ _ 21 rfl (by kernel_rfl) (by kernel_rfl) (by kernel_rfl) (by kernel_rfl) (fun K hK => ?_)
    go_simp
    first | (refine hK _ ?_; clear hK K) | (apply Exists.intro; refine ⟨fun x => ?_, hK _ ?_⟩; (fail); clear hK K)
    refine Mix.take_exC _ _ 22 rfl (by kernel_rfl) (by kernel_rfl) (by kernel_rfl) (by kernel_rfl) (fun K hK => ?_)
    go_simp
    first | (refine hK _ ?_; clear hK K) | (apply Exists.intro; refine ⟨fun x => ?_, hK _ ?_⟩; (fail); clear hK K)
    refine Mix.all (rs := [6]) (by kernel_rfl) (by simp) (.of_below _ hb3) ?_
    intro i4 hi4 w4 hb4 hC4
    simp only [List.mem_cons, List.not_mem_nil, or_false] at hi4
    subst hi4
    have HB4 := Lib.hid (bt hb3 hb4)
    have HX4 := Lib.hid (bt HB2.out HB4.out)
    clear hC4 hb4 hb3
    refine Mix.op rfl (by kernel_rfl) ?_
    go_simp
    refine (join_t (HL.out.below HX4.out) (HM1.out.below HX4.out) k hg3).mono ?_
    rintro e w5 ⟨v5, _, rfl, h5, rfl, hb5⟩
    refine ⟨_, rfl, ?_⟩
    obtain ⟨p5, rfl⟩ := h5.ptr
    have HT5 := Lib.hid h5
    have HB5 := Lib.hid (bt HB4.out hb5)
    clear h5 hb5
    refine Mix.all (rs := [23]) (by kernel_rfl) (by simp) (.of_below _ HB5.out) ?_
    intro i6 hi6 w6 hb6 hC6
    simp only [List.mem_cons, List.not_mem_nil, or_false] at hi6
    subst hi6
    have HB6 := Lib.hid (bt HB5.out hb6)
    have HT6 := Lib.hid (HT5.out.below hb6)
    have HX6 := Lib.hid (bt HB2.out HB6.out)
    clear hC6 hb6
    refine Mix.op rfl (by kernel_rfl) ?_
    go_simp
    refine (join_t (HM2.out.below HX6.out) (HLR.out.below HX6.out) lk hg4).mono ?_
    rintro e w7 ⟨v7, _, rfl, h7, rfl, hb7⟩
    refine ⟨_, rfl, ?_⟩
    obtain ⟨p7, rfl⟩ := h7.ptr
    have HT7 := Lib.hid h7
    have HU7 := Lib.hid (HT6.out.below hb7)
    have HB7 := Lib.hid (bt HB6.out hb7)
    clear h7 hb7
    refine Mix.all (rs := [24]) (by kernel_rfl) (by simp) (.of_below _ HB7.out) ?_
    intro i8 hi8 w8 hb8 hC8
    simp only [List.mem_cons, List.not_mem_nil, or_false] at hi8
    subst hi8
    have HB8 := Lib.hid (bt HB7.out hb8)
    have HT8 := Lib.hid (HT7.out.below hb8)
    have HU8 := Lib.hid (HU7.out.below hb8)
    clear hC8 hb8
    refine Mix.op rfl (by kernel_rfl) ?_
    go_simp
    refine (join_t HU8.out HT8.out mk hg5).mono ?_
    rintro e w9 ⟨v9, _, rfl, h9, rfl, hb9⟩
    refine ⟨_, rfl, ?_⟩
    obtain ⟨p9, rfl⟩ := h9.ptr
    have HT9 := Lib.hid h9
    have HB9 := Lib.hid (bt HB8.out hb9)
    clear h9 hb9
    refine Mix.take_exC _ _ 25 rfl (by kernel_rfl) (by kernel_rfl) (by kernel_rfl) (by kernel_rfl) (fun K hK => ?_)
    go_simp
    first | (refine hK _ ?_; clear hK K) | (apply Exists.intro; refine ⟨fun x => ?_, hK _ ?_⟩; (fail); clear hK K)
    refine Mix.done (by kernel_rfl) (.of_below _ HB9.out) ?_
    intro w10 hb10
    have HT10 := Lib.hid (HT9.out.below hb10)
    have HX10 := Lib.hid (bt HB2.out (bt HB9.out hb10))
    clear hb10 x0 x1 x2 xs nf y0 y1 y2 ys
    go_wp2
    go_ret
    exact ⟨_, _, rfl, HT10.out, by simp [tl], HX10.out⟩
set_option maxRecDepth 100000 in
theorem balance_c {w : World} {lv rv : Value} {l r : Tr} (hl : Tn w lv l) (hr : Tn w rv r) (k : Int) (hs : sz l + sz r < 500000000) (hd : dp l ≤ dp r + 1) (hd' : dp r ≤ dp l + 1) : Calls Try.prog 107 #[lv, .int .i64 k, rv] w (RetT (fun t => tl t = tl l ++ k :: tl r) w) := by
  obtain ⟨pl, rfl⟩ := hl.ptr
  obtain ⟨pw, rfl⟩ := hr.ptr
  have HL := Lib.hid hl; have HR := Lib.hid hr
  have hdr := dp_le r
  have hdl := dp_le l
  have hg1 : sz l + sz r < 1000000000 := by omega
  have hdI : ((dp l : Nat) : Int) ≤ ((dp r : Nat) : Int) + 1 := by omega
  have hdN : ((dp r : Nat) : Int) ≤ ((dp l : Nat) : Int) + 1 := by omega
  clear hl hr
  go_enter Try.func107, Try.ntmps107
  go_wp2_with fail
  refine (depth_t HL.out).mono ?_
  rintro e w1 ⟨rfl, rfl⟩
  go_wp2_with fail
  refine (depth_t HR.out).mono ?_
  rintro e w1 ⟨rfl, rfl⟩
  go_wp2_with fail
  refine (depth_t HR.out).mono ?_
  rintro e w1 ⟨rfl, rfl⟩
  go_wp2_with fail
  refine (depth_t HL.out).mono ?_
  rintro e w1 ⟨rfl, rfl⟩
  go_wp2_with fail
  refine (join_t HL.out HR.out k hg1).mono ?_
  rintro e w5 ⟨v5, _, rfl, h5, rfl, hb5⟩
  obtain ⟨p5, rfl⟩ := h5.ptr
  have HT5 := Lib.hid h5
  have HB5 := Lib.hid hb5
  clear h5 hb5
  go_wp2
  go_ret
  exact ⟨_, _, rfl, HT5.out, rfl, HB5.out⟩
theorem balance_t {w : World} {lv rv : Value} {l r : Tr} (hl : Tn w lv l) (hr : Tn w rv r) (k : Int) (hs : sz l + sz r < 500000000) : Calls Try.prog 107 #[lv, .int .i64 k, rv] w (RetT (fun t => tl t = tl l ++ k :: tl r) w) := by
  by_cases h1 : dp r + 1 < dp l
  · exact balance_l hl hr k hs h1
  · by_cases h2 : dp l + 1 < dp r
    · exact balance_r hl hr k hs h2
    · exact balance_c hl hr k hs (by omega) (by omega)
end Go.Proofs.Ytajcelmnblncaaa

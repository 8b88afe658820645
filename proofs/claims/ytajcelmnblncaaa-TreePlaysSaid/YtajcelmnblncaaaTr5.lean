/- tree: cutFirst, drop. -/
import Derived.Test.YtajcelmnblncaaaTr4
namespace Go.Proofs.Ytajcelmnblncaaa
open Go.RowKit
attribute [local go_sem] ext_cell ext_frozen extC_cell extC_frozen Mix.calmUpon Mix.mUpon
theorem sz_del {t t' : Tr} {k : Int} (h : tl t' = delL k (tl t)) : sz t' ≤ sz t := by
  rw [← tl_len, ← tl_len, h]; exact List.length_filter_le _ _
/-- A call that answers the first number of a tree, and the rest. -/
def RetC (t : Tr) (w : World) (e : Ending) (w' : World) : Prop := ∃ y p t', e = .returned (.tuple #[.int .i64 y, .pointer p]) ∧ Tn w' (.pointer p) t' ∧ tl t = y :: tl t' ∧ Below w.heap.size w w'
set_option maxRecDepth 100000 in
set_option maxHeartbeats 4000000 in
theorem cut_t : ∀ (l : Tr) (x : Int) (r : Tr) (w : World) (v : Value), Tn w v (.nd l x r) → sz (.nd l x r) < 100000000 → Calls Try.prog 108 #[v] w (RetC (.nd l x r) w)
  | .lf, x, r, w, v, h, hz => by
    obtain ⟨b, pl, pr, rfl, hN, hl, hr⟩ := h.node
    cases hl.lf_
    have HR := Lib.hid hr
    obtain ⟨x0, x1, x2⟩ := hN.cells
    have xs := hN.lt
    clear h hN hl hr hz
    go_enter Try.func108, Try.ntmps108
    go_wp2
    refine wp_region_pure (by kernel_rfl) (by kernel_rfl) ?_
    repeat (first | go_big_quiet_step ((fail)) | (quiet_step ((fail))))
    refine wpQuiet_nil ?_
    rintro w2 ⟨x2, hx2⟩
    have hb2 := ext_below _ x2
    rw [← hx2] at hb2
    clear hx2 x2
    have hs2 : w.heap.size + 0 ≤ w2.heap.size := (by have h := hb2.size; first | omega | (simp at h; omega))
    obtain ⟨hc2, hf2, hl2⟩ := bcell hb2
    clear hl2
    have HB := Lib.hid hb2
    clear hb2 hc2 hf2 x0 x1 x2 xs
    go_wp2
    go_ret2
    exact ⟨_, _, _, rfl, HR.out.below HB.out, rfl, HB.out⟩
  | .nd a y c, x, r, w, v, h, hz => by
    obtain ⟨b, pl, pr, rfl, hN, hl, hr⟩ := h.node
    have hz1 : sz (.nd a y c) < 100000000 := by simp only [sz] at hz ⊢; omega
    have IH := Lib.hid (cut_t a y c w (.pointer pl) hl hz1)
    obtain ⟨bl, _, _, hpl, _, _, _⟩ := hl.node
    cases hpl
    have HR := Lib.hid hr; have HN := Lib.hid hN
    have hz2 : sz (.nd a y c) + sz r < 100000000 := by simp only [sz] at hz ⊢; omega
    obtain ⟨x0, x1, x2⟩ := hN.cells
    have xs := hN.lt
    clear h hN hl hr hz hz1
    go_enter Try.func108, Try.ntmps108
    go_wp2_with fail
    refine IH.out.mono ?_
    rintro e w2 ⟨z, p2, t2, rfl, h2, e2, hb2⟩
    have HB2 := Lib.hid hb2
    have HN2 := Lib.hid (HN.out.below hb2)
    have HT2 := Lib.hid h2; have HE2 := Lib.hid e2
    have hz4 : sz t2 + sz r < 500000000 := by
      have h1 := congrArg List.length HE2.out
      rw [List.length_cons, tl_len, tl_len] at h1
      omega
    clear h2 e2 hb2 x0 x1 x2 xs
    obtain ⟨x0, x1, x2⟩ := HN2.out.cells
    have xs := HN2.out.lt
    have nf : ∀ q, ¬ (fun _ : Nat => False) q := fun _ h => h
    go_wp2
    refine Mix.regionC (fun _ => False) (by kernel_rfl) ?_
    intro w3 hb3
    refine Mix.take_exC _ _ 0 rfl (by kernel_rfl) (by kernel_rfl) (by kernel_rfl) (by kernel_rfl) (fun K hK => ?_)
    go_simp
    first | (refine hK _ ?_; clear hK K) | (apply Exists.intro; refine ⟨fun x => ?_, hK _ ?_⟩; (fail); clear hK K)
    refine Mix.take_exC _ _ 1 rfl (by kernel_rfl) (by kernel_rfl) (by kernel_rfl) (by kernel_rfl) (fun K hK => ?_)
    go_simp
    first | (refine hK _ ?_; clear hK K) | (apply Exists.intro; refine ⟨fun x => ?_, hK _ ?_⟩; (fail); clear hK K)
    refine Mix.take_exC _ _ 2 rfl (by kernel_rfl) (by kernel_rfl) (by kernel_rfl) (by kernel_rfl) (fun K hK => ?_)
    go_simp
    first | (refine hK _ ?_; clear hK K) | (apply Exists.intro; refine ⟨fun x => ?_, hK _ ?_⟩; (fail); clear hK K)
    refine Mix.take_exC _ _ 3 rfl (by kernel_rfl) (by kernel_rfl) (by kernel_rfl) (by kernel_rfl) (fun K hK => ?_)
    go_simp
    first | (refine hK _ ?_; clear hK K) | (apply Exists.intro; refine ⟨fun x => ?_, hK _ ?_⟩; (fail); clear hK K)
    refine Mix.take_exC _ _ 4 rfl (by kernel_rfl) (by kernel_rfl) (by kernel_rfl) (by kernel_rfl) (fun K hK => ?_)
    go_simp
    first | (refine hK _ ?_; clear hK K) | (apply Exists.intro; refine ⟨fun x => ?_, hK _ ?_⟩; (fail); clear hK K)
    refine Mix.take_exC _ _ 5 rfl (by kernel_rfl) (by kernel_rfl) (by kernel_rfl) (by kernel_rfl) (fun K hK => ?_)
    go_simp
    first | (refine hK _ ?_; clear hK K) | (apply Exists.intro; refine ⟨fun x => ?_, hK _ ?_⟩; (fail); clear hK K)
    refine Mix.take_exC _ _ 6 rfl (by kernel_rfl) (by kernel_rfl) (by kernel_rfl) (by kernel_rfl) (fun K hK => ?_)
    go_simp
    first | (refine hK _ ?_; clear hK K) | (apply Exists.intro; refine ⟨fun x => ?_, hK _ ?_⟩; (fail); clear hK K)
    refine Mix.take_exC _ _ 7 rfl (by kernel_rfl) (by kernel_rfl) (by kernel_rfl) (by kernel_rfl) (fun K hK => ?_)
    go_simp
    first | (refine hK _ ?_; clear hK K) | (apply Exists.intro; refine ⟨fun x => ?_, hK _ ?_⟩; (fail); clear hK K)
    refine Mix.take_exC _ _ 8 rfl (by kernel_rfl) (by kernel_rfl) (by kernel_rfl) (by kernel_rfl) (fun K hK => ?_)
    go_simp
    first | (refine hK _ ?_; clear hK K) | (apply Exists.intro; refine ⟨fun x => ?_, hK _ ?_⟩; (fail); clear hK K)
    refine Mix.take_exC _ _ 9 rfl (by kernel_rfl) (by kernel_rfl) (by kernel_rfl) (by kernel_rfl) (fun K hK => ?_)
    go_simp
    first | (refine hK _ ?_; clear hK K) | (apply Exists.intro; refine ⟨fun x => ?_, hK _ ?_⟩; (fail); clear hK K)
    refine Mix.all (rs := [10]) (by kernel_rfl) (by simp) (.of_below _ hb3) ?_
    intro i4 hi4 w4 hb4 hC4
    simp only [List.mem_cons, List.not_mem_nil, or_false] at hi4
    subst hi4
    have HB4 := Lib.hid (bt hb3 hb4)
    have HX4 := Lib.hid (bt HB2.out HB4.out)
    clear hC4 hb3 hb4
    refine Mix.op rfl (by kernel_rfl) ?_
    go_simp
    refine (balance_t (HT2.out.below HB4.out) (HR.out.below HX4.out) x hz4).mono ?_
    rintro e w5 ⟨v5, t5, rfl, h5, e5, hb5⟩
    refine ⟨_, rfl, ?_⟩
    obtain ⟨p5, rfl⟩ := h5.ptr
    have HT5 := Lib.hid h5; have HE5 := Lib.hid e5
    have HB5 := Lib.hid (bt HB4.out hb5)
    clear h5 e5 hb5
    refine Mix.take_exC _ _ 11 rfl (by kernel_rfl) (by kernel_rfl) (by kernel_rfl) (by kernel_rfl) (fun K hK => ?_)
    go_simp
    first | (refine hK _ ?_; clear hK K) | (apply Exists.intro; refine ⟨fun x => ?_, hK _ ?_⟩; (fail); clear hK K)
    refine Mix.take_exC _ _ 12 rfl (by kernel_rfl) (by kernel_rfl) (by kernel_rfl) (by kernel_rfl) (fun K hK => ?_)
    go_simp
    first | (refine hK _ ?_; clear hK K) | (apply Exists.intro; refine ⟨fun x => ?_, hK _ ?_⟩; (fail); clear hK K)
    refine Mix.done (by kernel_rfl) (.of_below _ HB5.out) ?_
    intro w6 hb6
    have HT6 := Lib.hid (HT5.out.below hb6)
    have HX6 := Lib.hid (bt HB2.out (bt HB5.out hb6))
    clear hb6 x0 x1 x2 xs nf
    go_wp2
    go_ret2
    refine ⟨_, _, _, rfl, HT6.out, ?_, HX6.out⟩
    show tl (.nd a y c) ++ x :: tl r = _
    rw [HE2.out, HE5.out]; rfl
section
variable {tp fn : Nat} {caps : Array Value} {C : World → Prop} {J : Int → Prop} {o : Int → Int → Int}
set_option maxRecDepth 100000 in
set_option maxHeartbeats 4000000 in
theorem drop_t (hO : OV tp fn caps C J o) {k : Int} (hk : J k) : ∀ (t : Tr) (w : World) (v rv : Value), Tn w v t → TO w tp fn caps rv → C w → SL J o (tl t) → sz t < 100000000 →
    Calls Try.prog 75 #[tptr tp, v, .int .i64 k] w (RetP (fun t' => tl t' = delL k (tl t)) (hasL k (tl t)) w)
  | .lf, w, v, rv, h, hT, hC, hS, hz => by
    obtain rfl := h.lf_
    clear h hT hC hS hz hO
    go_enter Try.func75, Try.ntmps75
    go_wp2
    go_ret2
    exact ⟨none, .lf, rfl, rfl, rfl, Below.refl _ _⟩
  | .nd l x r, w, v, rv, h, hT, hC, hS, hz => by
    obtain ⟨b, pl, pr, rfl, hN, hl, hr⟩ := h.node
    have hxJ := hS.mid.1
    have HK := Lib.hid hk; have HX := Lib.hid hxJ
    have HS := Lib.hid (show SL J o (tl l ++ x :: tl r) from hS)
    have hz1 : sz l < 100000000 := by simp only [sz] at hz; omega
    have hz2 : sz r < 100000000 := by simp only [sz] at hz; omega
    have hz3 : sz l + sz r < 100000000 := by simp only [sz] at hz; omega
    have hO' := Lib.hid hO.ord
    have IHL := Lib.hid (fun w' rv' a b c => drop_t hO hk l w' (.pointer pl) rv' a b c (show SL J o (tl l ++ x :: tl r) from hS).left hz1)
    have IHR := Lib.hid (fun w' rv' a b c => drop_t hO hk r w' (.pointer pr) rv' a b c (show SL J o (tl l ++ x :: tl r) from hS).right.tail hz2)
    clear h hk hxJ hS hz
    by_cases hlt : o k x < 0
    · have HE := Lib.hid (show delL k (tl (.nd l x r)) = delL k (tl l) ++ x :: tl r from delL_lt hO'.out HS.out HK.out hlt)
      have HQ := Lib.hid (show hasL k (tl (.nd l x r)) = hasL k (tl l) by unfold hasL; exact decide_eq_decide.2 (mem_lt hO'.out HS.out HK.out hlt))
      obtain ⟨q, hq⟩ : ∃ q, hasL k (tl l) = q := ⟨_, rfl⟩
      rw [hq] at IHL HQ
      clear hq
      rw [HQ.out]
      have HN := Lib.hid hN; have HL := Lib.hid hl; have HR := Lib.hid hr
      have HT := Lib.hid hT; have HC := Lib.hid hC; have HO := Lib.hid hO
      obtain ⟨x0, x1, x2⟩ := hN.cells
      have xs := hN.lt
      clear hN hl hr hT hC hO
      go_enter Try.func75, Try.ntmps75
      go_wp2_with fail
      refine (compare_t HO.out HT.out HC.out HK.out HX.out).mono ?_
      rintro e w1 ⟨rfl, hb1⟩
      have HB1 := Lib.hid hb1
      have HN1 := Lib.hid (HN.out.below hb1)
      clear hb1 x0 x1 x2 xs HN
      obtain ⟨x0, x1, x2⟩ := HN1.out.cells
      have xs := HN1.out.lt
      go_wp2_with fail
      refine (IHL.out w1 rv (HL.out.below HB1.out) (HT.out.below HB1.out) (HO.out.on HC.out HB1.out)).mono ?_
      rintro e w2 ⟨p2, t2, rfl, h2, e2, hb2⟩
      have HB2 := Lib.hid (bt HB1.out hb2)
      have HN2 := Lib.hid (HN1.out.below hb2)
      have HT2 := Lib.hid h2; have HE2 := Lib.hid e2
      have hz4 : sz t2 + sz r < 500000000 := by have := sz_del HE2.out; omega
      clear h2 e2 hb2 x0 x1 x2 xs
      obtain ⟨x0, x1, x2⟩ := HN2.out.cells
      have xs := HN2.out.lt
      have nf : ∀ q, ¬ (fun _ : Nat => False) q := fun _ h => h
      go_wp2
      refine Mix.regionC (fun _ => False) (by kernel_rfl) ?_
      intro w3 hb3
      refine Mix.take_exC _ _ 0 rfl (by kernel_rfl) (by kernel_rfl) (by kernel_rfl) (by kernel_rfl) (fun K hK => ?_)
      go_simp
      first | (refine hK _ ?_; clear hK K) | (apply Exists.intro; refine ⟨fun x => ?_, hK _ ?_⟩; (fail); clear hK K)
      refine Mix.take_exC _ _ 1 rfl (by kernel_rfl) (by kernel_rfl) (by kernel_rfl) (by kernel_rfl) (fun K hK => ?_)
      go_simp
      first | (refine hK _ ?_; clear hK K) | (apply Exists.intro; refine ⟨fun x => ?_, hK _ ?_⟩; (fail); clear hK K)
      refine Mix.take_exC _ _ 2 rfl (by kernel_rfl) (by kernel_rfl) (by kernel_rfl) (by kernel_rfl) (fun K hK => ?_)
      go_simp
      first | (refine hK _ ?_; clear hK K) | (apply Exists.intro; refine ⟨fun x => ?_, hK _ ?_⟩; (fail); clear hK K)
      refine Mix.take_exC _ _ 3 rfl (by kernel_rfl) (by kernel_rfl) (by kernel_rfl) (by kernel_rfl) (fun K hK => ?_)
      go_simp
      first | (refine hK _ ?_; clear hK K) | (apply Exists.intro; refine ⟨fun x => ?_, hK _ ?_⟩; (fail); clear hK K)
      refine Mix.take_exC _ _ 4 rfl (by kernel_rfl) (by kernel_rfl) (by kernel_rfl) (by kernel_rfl) (fun K hK => ?_)
      go_simp
      first | (refine hK _ ?_; clear hK K) | (apply Exists.intro; refine ⟨fun x => ?_, hK _ ?_⟩; (fail); clear hK K)
      refine Mix.take_exC _ _ 5 rfl (by kernel_rfl) (by kernel_rfl) (by kernel_rfl) (by kernel_rfl) (fun K hK => ?_)
      go_simp
      first | (refine hK _ ?_; clear hK K) | (apply Exists.intro; refine ⟨fun x => ?_, hK _ ?_⟩; (fail); clear hK K)
      refine Mix.take_exC _ _ 6 rfl (by kernel_rfl) (by kernel_rfl) (by kernel_rfl) (by kernel_rfl) (fun K hK => ?_)
      go_simp
      first | (refine hK _ ?_; clear hK K) | (apply Exists.intro; refine ⟨fun x => ?_, hK _ ?_⟩; (fail); clear hK K)
      refine Mix.take_exC _ _ 7 rfl (by kernel_rfl) (by kernel_rfl) (by kernel_rfl) (by kernel_rfl) (fun K hK => ?_)
      go_simp
      first | (refine hK _ ?_; clear hK K) | (apply Exists.intro; refine ⟨fun x => ?_, hK _ ?_⟩; (fail); clear hK K)
      refine Mix.take_exC _ _ 8 rfl (by kernel_rfl) (by kernel_rfl) (by kernel_rfl) (by kernel_rfl) (fun K hK => ?_)
      go_simp
      first | (refine hK _ ?_; clear hK K) | (apply Exists.intro; refine ⟨fun x => ?_, hK _ ?_⟩; (fail); clear hK K)
      refine Mix.take_exC _ _ 10 rfl (by kernel_rfl) (by kernel_rfl) (by kernel_rfl) (by kernel_rfl) (fun K hK => ?_)
      go_simp
      first | (refine hK _ ?_; clear hK K) | (apply Exists.intro; refine ⟨fun x => ?_, hK _ ?_⟩; (fail); clear hK K)
      refine Mix.all (rs := [9]) (by kernel_rfl) (by simp) (.of_below _ hb3) ?_
      intro i4 hi4 w4 hb4 hC4
      simp only [List.mem_cons, List.not_mem_nil, or_false] at hi4
      subst hi4
      have HB4 := Lib.hid (bt hb3 hb4)
      have HX4 := Lib.hid (bt HB2.out HB4.out)
      clear hC4 hb3 hb4
      refine Mix.op rfl (by kernel_rfl) ?_
      go_simp
      refine (balance_t (HT2.out.below HB4.out) (HR.out.below HX4.out) x hz4).mono ?_
      rintro e w5 ⟨v5, t5, rfl, h5, e5, hb5⟩
      refine ⟨_, rfl, ?_⟩
      obtain ⟨p5, rfl⟩ := h5.ptr
      have HT5 := Lib.hid h5; have HE5 := Lib.hid e5
      have HB5 := Lib.hid (bt HB4.out hb5)
      clear h5 e5 hb5
      refine Mix.take_exC _ _ 11 rfl (by kernel_rfl) (by kernel_rfl) (by kernel_rfl) (by kernel_rfl) (fun K hK => ?_)
      go_simp
      first | (refine hK _ ?_; clear hK K) | (apply Exists.intro; refine ⟨fun x => ?_, hK _ ?_⟩; (fail); clear hK K)
      refine Mix.take_exC _ _ 12 rfl (by kernel_rfl) (by kernel_rfl) (by kernel_rfl) (by kernel_rfl) (fun K hK => ?_)
      go_simp
      first | (refine hK _ ?_; clear hK K) | (apply Exists.intro; refine ⟨fun x => ?_, hK _ ?_⟩; (fail); clear hK K)
      refine Mix.done (by kernel_rfl) (.of_below _ HB5.out) ?_
      intro w6 hb6
      have HT6 := Lib.hid (HT5.out.below hb6)
      have HX6 := Lib.hid (bt HB2.out (bt HB5.out hb6))
      clear hb6 x0 x1 x2 xs nf
      go_wp2
      go_ret2
      exact ⟨_, _, rfl, HT6.out, by show tl t5 = _; rw [HE5.out, HE2.out, HE.out], HX6.out⟩
    · by_cases hgt : 0 < o k x
      · have HE := Lib.hid (show delL k (tl (.nd l x r)) = tl l ++ x :: delL k (tl r) from delL_gt hO'.out HS.out HK.out hgt)
        have HQ := Lib.hid (show hasL k (tl (.nd l x r)) = hasL k (tl r) by unfold hasL; exact decide_eq_decide.2 (mem_gt hO'.out HS.out HK.out hgt))
        obtain ⟨q, hq⟩ : ∃ q, hasL k (tl r) = q := ⟨_, rfl⟩
        rw [hq] at IHR HQ
        clear hq
        rw [HQ.out]
        have HN := Lib.hid hN; have HL := Lib.hid hl; have HR := Lib.hid hr
        have HT := Lib.hid hT; have HC := Lib.hid hC; have HO := Lib.hid hO
        obtain ⟨x0, x1, x2⟩ := hN.cells
        have xs := hN.lt
        clear hN hl hr hT hC hO
        go_enter Try.func75, Try.ntmps75
        go_wp2_with fail
        refine (compare_t HO.out HT.out HC.out HK.out HX.out).mono ?_
        rintro e w1 ⟨rfl, hb1⟩
        have HB1 := Lib.hid hb1
        have HN1 := Lib.hid (HN.out.below hb1)
        clear hb1 x0 x1 x2 xs HN
        obtain ⟨x0, x1, x2⟩ := HN1.out.cells
        have xs := HN1.out.lt
        go_wp2_with fail
        refine (IHR.out w1 rv (HR.out.below HB1.out) (HT.out.below HB1.out) (HO.out.on HC.out HB1.out)).mono ?_
        rintro e w2 ⟨p2, t2, rfl, h2, e2, hb2⟩
        have HB2 := Lib.hid (bt HB1.out hb2)
        have HN2 := Lib.hid (HN1.out.below hb2)
        have HT2 := Lib.hid h2; have HE2 := Lib.hid e2
        have hz4 : sz l + sz t2 < 500000000 := by have := sz_del HE2.out; omega
        clear h2 e2 hb2 x0 x1 x2 xs
        obtain ⟨x0, x1, x2⟩ := HN2.out.cells
        have xs := HN2.out.lt
        have nf : ∀ q, ¬ (fun _ : Nat => False) q := fun _ h => h
        go_wp2
        refine Mix.regionC (fun _ => False) (by kernel_rfl) ?_
        intro w3 hb3
        refine Mix.take_exC _ _ 0 rfl (by kernel_rfl) (by kernel_rfl) (by kernel_rfl) (by kernel_rfl) (fun K hK => ?_)
        go_simp
        first | (refine hK _ ?_; clear hK K) | (apply Exists.intro; refine ⟨fun x => ?_, hK _ ?_⟩; (fail); clear hK K)
        refine Mix.take_exC _ _ 1 rfl (by kernel_rfl) (by kernel_rfl) (by kernel_rfl) (by kernel_rfl) (fun K hK => ?_)
        go_simp
        first | (refine hK _ ?_; clear hK K) | (apply Exists.intro; refine ⟨fun x => ?_, hK _ ?_⟩; (fail); clear hK K)
        refine Mix.take_exC _ _ 2 rfl (by kernel_rfl) (by kernel_rfl) (by kernel_rfl) (by kernel_rfl) (fun K hK => ?_)
        go_simp
        first | (refine hK _ ?_; clear hK K) | (apply Exists.intro; refine ⟨fun x => ?_, hK _ ?_⟩; (fail); clear hK K)
        refine Mix.take_exC _ _ 3 rfl (by kernel_rfl) (by kernel_rfl) (by kernel_rfl) (by kernel_rfl) (fun K hK => ?_)
        go_simp
        first | (refine hK _ ?_; clear hK K) | (apply Exists.intro; refine ⟨fun x => ?_, hK _ ?_⟩; (fail); clear hK K)
        refine Mix.take_exC _ _ 4 rfl (by kernel_rfl) (by kernel_rfl) (by kernel_rfl) (by kernel_rfl) (fun K hK => ?_)
        go_simp
        first | (refine hK _ ?_; clear hK K) | (apply Exists.intro; refine ⟨fun x => ?_, hK _ ?_⟩; (fail); clear hK K)
        refine Mix.take_exC _ _ 5 rfl (by kernel_rfl) (by kernel_rfl) (by kernel_rfl) (by kernel_rfl) (fun K hK => ?_)
        go_simp
        first | (refine hK _ ?_; clear hK K) | (apply Exists.intro; refine ⟨fun x => ?_, hK _ ?_⟩; (fail); clear hK K)
        refine Mix.take_exC _ _ 6 rfl (by kernel_rfl) (by kernel_rfl) (by kernel_rfl) (by kernel_rfl) (fun K hK => ?_)
        go_simp
        first | (refine hK _ ?_; clear hK K) | (apply Exists.intro; refine ⟨fun x => ?_, hK _ ?_⟩; (fail); clear hK K)
        refine Mix.take_exC _ _ 7 rfl (by kernel_rfl) (by kernel_rfl) (by kernel_rfl) (by kernel_rfl) (fun K hK => ?_)
        go_simp
        first | (refine hK _ ?_; clear hK K) | (apply Exists.intro; refine ⟨fun x => ?_, hK _ ?_⟩; (fail); clear hK K)
        refine Mix.take_exC _ _ 8 rfl (by kernel_rfl) (by kernel_rfl) (by kernel_rfl) (by kernel_rfl) (fun K hK => ?_)
        go_simp
        first | (refine hK _ ?_; clear hK K) | (apply Exists.intro; refine ⟨fun x => ?_, hK _ ?_⟩; (fail); clear hK K)
        refine Mix.take_exC _ _ 10 rfl (by kernel_rfl) (by kernel_rfl) (by kernel_rfl) (by kernel_rfl) (fun K hK => ?_)
        go_simp
        first | (refine hK _ ?_; clear hK K) | (apply Exists.intro; refine ⟨fun x => ?_, hK _ ?_⟩; (fail); clear hK K)
        refine Mix.all (rs := [9]) (by kernel_rfl) (by simp) (.of_below _ hb3) ?_
        intro i4 hi4 w4 hb4 hC4
        simp only [List.mem_cons, List.not_mem_nil, or_false] at hi4
        subst hi4
        have HB4 := Lib.hid (bt hb3 hb4)
        have HX4 := Lib.hid (bt HB2.out HB4.out)
        clear hC4 hb3 hb4
        refine Mix.op rfl (by kernel_rfl) ?_
        go_simp
        refine (balance_t (HL.out.below HX4.out) (HT2.out.below HB4.out) x hz4).mono ?_
        rintro e w5 ⟨v5, t5, rfl, h5, e5, hb5⟩
        refine ⟨_, rfl, ?_⟩
        obtain ⟨p5, rfl⟩ := h5.ptr
        have HT5 := Lib.hid h5; have HE5 := Lib.hid e5
        have HB5 := Lib.hid (bt HB4.out hb5)
        clear h5 e5 hb5
        refine Mix.take_exC _ _ 11 rfl (by kernel_rfl) (by kernel_rfl) (by kernel_rfl) (by kernel_rfl) (fun K hK => ?_)
        go_simp
        first | (refine hK _ ?_; clear hK K) | (apply Exists.intro; refine ⟨fun x => ?_, hK _ ?_⟩; (fail); clear hK K)
        refine Mix.take_exC _ _ 12 rfl (by kernel_rfl) (by kernel_rfl) (by kernel_rfl) (by kernel_rfl) (fun K hK => ?_)
        go_simp
        first | (refine hK _ ?_; clear hK K) | (apply Exists.intro; refine ⟨fun x => ?_, hK _ ?_⟩; (fail); clear hK K)
        refine Mix.done (by kernel_rfl) (.of_below _ HB5.out) ?_
        intro w6 hb6
        have HT6 := Lib.hid (HT5.out.below hb6)
        have HX6 := Lib.hid (bt HB2.out (bt HB5.out hb6))
        clear hb6 x0 x1 x2 xs nf
        go_wp2
        go_ret2
        exact ⟨_, _, rfl, HT6.out, by show tl t5 = _; rw [HE5.out, HE2.out, HE.out], HX6.out⟩
      · have h0 : o k x = 0 := by omega
        have HE := Lib.hid (show delL k (tl (.nd l x r)) = tl l ++ tl r from delL_here hO'.out HS.out HK.out h0)
        have HQ := Lib.hid (show hasL k (tl (.nd l x r)) = true by unfold hasL; exact decide_eq_true (mem_eq hO'.out HS.out HK.out h0))
        rw [HQ.out]
        cases r with
        | lf =>
          cases hr.lf_
          have HN := Lib.hid hN; have HL := Lib.hid hl; have HR := Lib.hid hr
          have HT := Lib.hid hT; have HC := Lib.hid hC; have HO := Lib.hid hO
          obtain ⟨x0, x1, x2⟩ := hN.cells
          have xs := hN.lt
          clear hN hl hr hT hC hO
          go_enter Try.func75, Try.ntmps75
          go_wp2_with fail
          refine (compare_t HO.out HT.out HC.out HK.out HX.out).mono ?_
          rintro e w1 ⟨rfl, hb1⟩
          have HB1 := Lib.hid hb1
          have HN1 := Lib.hid (HN.out.below hb1)
          clear hb1 x0 x1 x2 xs HN
          obtain ⟨x0, x1, x2⟩ := HN1.out.cells
          have xs := HN1.out.lt
          have HT2 := Lib.hid (HL.out.below HB1.out)
          go_wp2
          clear x0 x1 x2 xs h0
          go_ret2
          exact ⟨_, _, rfl, HT2.out, by show tl l = _; rw [HE.out]; simp [tl], HB1.out⟩
        | nd ra rx rc =>
          obtain ⟨br, _, _, hpr, _, _, _⟩ := hr.node
          cases hpr
          have HN := Lib.hid hN; have HL := Lib.hid hl; have HR := Lib.hid hr
          have HT := Lib.hid hT; have HC := Lib.hid hC; have HO := Lib.hid hO
          obtain ⟨x0, x1, x2⟩ := hN.cells
          have xs := hN.lt
          clear hN hl hr hT hC hO
          go_enter Try.func75, Try.ntmps75
          go_wp2_with fail
          refine (compare_t HO.out HT.out HC.out HK.out HX.out).mono ?_
          rintro e w1 ⟨rfl, hb1⟩
          have HB1 := Lib.hid hb1
          have HN1 := Lib.hid (HN.out.below hb1)
          clear hb1 x0 x1 x2 xs HN
          obtain ⟨x0, x1, x2⟩ := HN1.out.cells
          have xs := HN1.out.lt
          go_wp2_with fail
          refine (cut_t ra rx rc w1 _ (HR.out.below HB1.out) hz2).mono ?_
          rintro e w2 ⟨z, p2, t2, rfl, h2, e2, hb2⟩
          have HB2 := Lib.hid (bt HB1.out hb2)
          have HN2 := Lib.hid (HN1.out.below hb2)
          have HT2 := Lib.hid h2; have HE2 := Lib.hid e2
          have hz4 : sz l + sz t2 < 500000000 := by
            have h1 := congrArg List.length HE2.out
            rw [List.length_cons, tl_len, tl_len] at h1
            omega
          clear h2 e2 hb2 x0 x1 x2 xs
          obtain ⟨x0, x1, x2⟩ := HN2.out.cells
          have xs := HN2.out.lt
          go_wp2_with fail
          refine (balance_t (HL.out.below HB2.out) HT2.out z hz4).mono ?_
          rintro e w3 ⟨v3, t3, rfl, h3, e3, hb3⟩
          obtain ⟨p3, rfl⟩ := h3.ptr
          have HT3 := Lib.hid h3; have HE3 := Lib.hid e3
          have HB3 := Lib.hid (bt HB2.out hb3)
          clear h3 e3 hb3 x0 x1 x2 xs h0
          go_wp2
          go_ret2
          exact ⟨_, _, rfl, HT3.out, by show tl t3 = _; rw [HE3.out, HE.out, HE2.out], HB3.out⟩
end
end Go.Proofs.Ytajcelmnblncaaa

/- tree: put. -/
import Derived.Test.YtajcelmnblncaaaTr3
namespace Go.Proofs.Ytajcelmnblncaaa
open Go.RowKit
attribute [local go_sem] ext_cell ext_frozen extC_cell extC_frozen Mix.calmUpon Mix.mUpon
def hasL (k : Int) (L : List Int) : Bool := decide (k ∈ L)
/-- A call that answers a tree, and whether. -/
def RetP (P : Tr → Prop) (q : Bool) (w : World) (e : Ending) (w' : World) : Prop := ∃ p t, e = .returned (.tuple #[.pointer p, .bool q]) ∧ Tn w' (.pointer p) t ∧ P t ∧ Below w.heap.size w w'
theorem insL_len (o : Int → Int → Int) (k : Int) : ∀ L, (insL o k L).length ≤ L.length + 1
  | [] => Nat.le_refl _
  | x :: t => by
    have := insL_len o k t
    simp only [insL]
    split
    · simp
    · split
      · simp
      · simp; omega
theorem sz_of {t t' : Tr} {o : Int → Int → Int} {k : Int} (h : tl t' = insL o k (tl t)) : sz t' ≤ sz t + 1 := by
  rw [← tl_len, ← tl_len, h]; exact insL_len o k _
section
variable {tp fn : Nat} {caps : Array Value} {C : World → Prop} {J : Int → Prop} {o : Int → Int → Int}
abbrev tptr (tp : Nat) : Value := .pointer (some ⟨tp, 0, none⟩)
set_option maxRecDepth 100000 in
set_option maxHeartbeats 4000000 in
theorem put_t (hO : OV tp fn caps C J o) {k : Int} (hk : J k) : ∀ (t : Tr) (w : World) (v rv : Value), Tn w v t → TO w tp fn caps rv → C w → SL J o (tl t) → sz t < 100000000 →
    Calls Try.prog 76 #[tptr tp, v, .int .i64 k] w (RetP (fun t' => tl t' = insL o k (tl t)) (!hasL k (tl t)) w)
  | .lf, w, v, rv, h, hT, hC, hS, hz => by
    obtain rfl := h.lf_
    have HJ := Lib.hid (join_t (w := w) (lv := .pointer none) (rv := .pointer none) (l := .lf) (r := .lf) rfl rfl k (by simp [sz]))
    clear h hT hC hS hz hO
    go_enter Try.func76, Try.ntmps76
    go_wp2_with fail
    refine HJ.out.mono ?_
    rintro e w1 ⟨v1, _, rfl, h1, rfl, hb1⟩
    obtain ⟨p1, rfl⟩ := h1.ptr
    have HT := Lib.hid h1; have HB := Lib.hid hb1
    clear h1 hb1
    go_wp2
    go_ret2
    exact ⟨_, _, rfl, HT.out, rfl, HB.out⟩
  | .nd l x r, w, v, rv, h, hT, hC, hS, hz => by
    obtain ⟨b, pl, pr, rfl, hN, hl, hr⟩ := h.node
    have hxJ := hS.mid.1
    have HK := Lib.hid hk; have HX := Lib.hid hxJ
    have HS := Lib.hid (show SL J o (tl l ++ x :: tl r) from hS)
    have hz1 : sz l < 100000000 := by simp only [sz] at hz; omega
    have hz2 : sz r < 100000000 := by simp only [sz] at hz; omega
    have hz3 : sz l + sz r < 100000000 := by simp only [sz] at hz; omega
    have hO' := Lib.hid hO.ord
    have IHL := Lib.hid (fun w' rv' a b c => put_t hO hk l w' (.pointer pl) rv' a b c (show SL J o (tl l ++ x :: tl r) from hS).left hz1)
    have IHR := Lib.hid (fun w' rv' a b c => put_t hO hk r w' (.pointer pr) rv' a b c (show SL J o (tl l ++ x :: tl r) from hS).right.tail hz2)
    clear h hk hxJ hS hz
    by_cases hlt : o k x < 0
    · have HE := Lib.hid (show insL o k (tl (.nd l x r)) = insL o k (tl l) ++ x :: tl r from insL_lt hlt _)
      have HQ := Lib.hid (show hasL k (tl (.nd l x r)) = hasL k (tl l) by unfold hasL; exact decide_eq_decide.2 (mem_lt hO'.out HS.out HK.out hlt))
      obtain ⟨q, hq⟩ : ∃ q, hasL k (tl l) = q := ⟨_, rfl⟩
      rw [hq] at IHL HQ
      clear hq
      rw [HQ.out]
      have HN := Lib.hid hN; have HL := Lib.hid hl; have HR := Lib.hid hr
      have HT := Lib.hid hT; have HC := Lib.hid hC; have HO := Lib.hid hO
      obtain ⟨x0, x1, x2⟩ := hN.cells
      have xs := hN.lt
      clear hN hl hr hT hC hO
      go_enter Try.func76, Try.ntmps76
      go_wp2_with fail
      refine (compare_t HO.out HT.out HC.out HK.out HX.out).mono ?_
      rintro e w1 ⟨rfl, hb1⟩
      have HB1 := Lib.hid hb1
      have HN1 := Lib.hid (HN.out.below hb1)
      clear hb1 x0 x1 x2 xs HN
      obtain ⟨x0, x1, x2⟩ := HN1.out.cells
      have xs := HN1.out.lt
      go_wp2_with fail
      refine (IHL.out w1 rv (HL.out.below HB1.out) (HT.out.below HB1.out) (HO.out.on HC.out HB1.out)).mono ?_
      rintro e w2 ⟨p2, t2, rfl, h2, e2, hb2⟩
      have HB2 := Lib.hid (bt HB1.out hb2)
      have HN2 := Lib.hid (HN1.out.below hb2)
      have HT2 := Lib.hid h2; have HE2 := Lib.hid e2
      have hz4 : sz t2 + sz r < 500000000 := by have := sz_of HE2.out; omega
      clear h2 e2 hb2 x0 x1 x2 xs
      obtain ⟨x0, x1, x2⟩ := HN2.out.cells
      have xs := HN2.out.lt
      have nf : ∀ q, ¬ (fun _ : Nat => False) q := fun _ h => h
      go_wp2
      refine Mix.regionC (fun _ => False) (by kernel_rfl) ?_
      intro w3 hb3
      refine Mix.take_exC _ _ 0 rfl (by kernel_rfl) (by kernel_rfl) (by kernel_rfl) (by kernel_rfl) (fun K hK => ?_)
      go_simp
      first | (refine hK _ ?_; clear hK K) | (apply Exists.intro; refine ⟨fun x => ?_, hK _ ?_⟩; (fail); clear hK K)
      refine Mix.take_exC _ _ 1 rfl (by kernel_rfl) (by kernel_rfl) (by kernel_rfl) (by kernel_rfl) (fun K hK => ?_)
      go_simp
      first | (refine hK _ ?_; clear hK K) | (apply Exists.intro; refine ⟨fun x => ?_, hK _ ?_⟩; (fail); clear hK K)
      refine Mix.take_exC _ _ 2 rfl (by kernel_rfl) (by kernel_rfl) (by kernel_rfl) (by kernel_rfl) (fun K hK => ?_)
      go_simp
      first | (refine hK _ ?_; clear hK K) | (apply Exists.intro; refine ⟨fun x => ?_, hK _ ?_⟩; (fail); clear hK K)
      refine Mix.take_exC _ _ 3 rfl (by kernel_rfl) (by kernel_rfl) (by kernel_rfl) (by kernel_rfl) (fun K hK => ?_)
      go_simp
      first | (refine hK _ ?_; clear hK K) | (apply Exists.intro; refine ⟨fun x => ?_, hK _ ?_⟩; (fail); clear hK K)
      refine Mix.take_exC _ _ 4 rfl (by kernel_rfl) (by kernel_rfl) (by kernel_rfl) (by kernel_rfl) (fun K hK => ?_)
      go_simp
      first | (refine hK _ ?_; clear hK K) | (apply Exists.intro; refine ⟨fun x => ?_, hK _ ?_⟩; (fail); clear hK K)
      refine Mix.take_exC _ _ 5 rfl (by kernel_rfl) (by kernel_rfl) (by kernel_rfl) (by kernel_rfl) (fun K hK => ?_)
      go_simp
      first | (refine hK _ ?_; clear hK K) | (apply Exists.intro; refine ⟨fun x => ?_, hK _ ?_⟩; (fail); clear hK K)
      refine Mix.take_exC _ _ 6 rfl (by kernel_rfl) (by kernel_rfl) (by kernel_rfl) (by kernel_rfl) (fun K hK => ?_)
      go_simp
      first | (refine hK _ ?_; clear hK K) | (apply Exists.intro; refine ⟨fun x => ?_, hK _ ?_⟩; (fail); clear hK K)
      refine Mix.take_exC _ _ 7 rfl (by kernel_rfl) (by kernel_rfl) (by kernel_rfl) (by kernel_rfl) (fun K hK => ?_)
      go_simp
      first | (refine hK _ ?_; clear hK K) | (apply Exists.intro; refine ⟨fun x => ?_, hK _ ?_⟩; (fail); clear hK K)
      refine Mix.take_exC _ _ 8 rfl (by kernel_rfl) (by kernel_rfl) (by kernel_rfl) (by kernel_rfl) (fun K hK => ?_)
      go_simp
      first | (refine hK _ ?_; clear hK K) | (apply Exists.intro; refine ⟨fun x => ?_, hK _ ?_⟩; (fail); clear hK K)
      refine Mix.take_exC _ _ 10 rfl (by kernel_rfl) (by kernel_rfl) (by kernel_rfl) (by kernel_rfl) (fun K hK => ?_)
      go_simp
      first | (refine hK _ ?_; clear hK K) | (apply Exists.intro; refine ⟨fun x => ?_, hK _ ?_⟩; (fail); clear hK K)
      refine Mix.all (rs := [9]) (by kernel_rfl) (by simp) (.of_below _ hb3) ?_
      intro i4 hi4 w4 hb4 hC4
      simp only [List.mem_cons, List.not_mem_nil, or_false] at hi4
      subst hi4
      have HB4 := Lib.hid (bt hb3 hb4)
      have HX4 := Lib.hid (bt HB2.out HB4.out)
      clear hC4 hb3 hb4
      refine Mix.op rfl (by kernel_rfl) ?_
      go_simp
      refine (balance_t (HT2.out.below HB4.out) (HR.out.below HX4.out) x hz4).mono ?_
      rintro e w5 ⟨v5, t5, rfl, h5, e5, hb5⟩
      refine ⟨_, rfl, ?_⟩
      obtain ⟨p5, rfl⟩ := h5.ptr
      have HT5 := Lib.hid h5; have HE5 := Lib.hid e5
      have HB5 := Lib.hid (bt HB4.out hb5)
      clear h5 e5 hb5
      refine Mix.take_exC _ _ 11 rfl (by kernel_rfl) (by kernel_rfl) (by kernel_rfl) (by kernel_rfl) (fun K hK => ?_)
      go_simp
      first | (refine hK _ ?_; clear hK K) | (apply Exists.intro; refine ⟨fun x => ?_, hK _ ?_⟩; (fail); clear hK K)
      refine Mix.take_exC _ _ 12 rfl (by kernel_rfl) (by kernel_rfl) (by kernel_rfl) (by kernel_rfl) (fun K hK => ?_)
      go_simp
      first | (refine hK _ ?_; clear hK K) | (apply Exists.intro; refine ⟨fun x => ?_, hK _ ?_⟩; (fail); clear hK K)
      refine Mix.done (by kernel_rfl) (.of_below _ HB5.out) ?_
      intro w6 hb6
      have HT6 := Lib.hid (HT5.out.below hb6)
      have HX6 := Lib.hid (bt HB2.out (bt HB5.out hb6))
      clear hb6 x0 x1 x2 xs nf
      go_wp2
      go_ret2
      exact ⟨_, _, rfl, HT6.out, by show tl t5 = _; rw [HE5.out, HE2.out, HE.out], HX6.out⟩
    · by_cases hgt : 0 < o k x
      · have HE := Lib.hid (show insL o k (tl (.nd l x r)) = tl l ++ x :: insL o k (tl r) from insL_right hO'.out HS.out HK.out hgt)
        have HQ := Lib.hid (show hasL k (tl (.nd l x r)) = hasL k (tl r) by unfold hasL; exact decide_eq_decide.2 (mem_gt hO'.out HS.out HK.out hgt))
        obtain ⟨q, hq⟩ : ∃ q, hasL k (tl r) = q := ⟨_, rfl⟩
        rw [hq] at IHR HQ
        clear hq
        rw [HQ.out]
        have HN := Lib.hid hN; have HL := Lib.hid hl; have HR := Lib.hid hr
        have HT := Lib.hid hT; have HC := Lib.hid hC; have HO := Lib.hid hO
        obtain ⟨x0, x1, x2⟩ := hN.cells
        have xs := hN.lt
        clear hN hl hr hT hC hO
        go_enter Try.func76, Try.ntmps76
        go_wp2_with fail
        refine (compare_t HO.out HT.out HC.out HK.out HX.out).mono ?_
        rintro e w1 ⟨rfl, hb1⟩
        have HB1 := Lib.hid hb1
        have HN1 := Lib.hid (HN.out.below hb1)
        clear hb1 x0 x1 x2 xs HN
        obtain ⟨x0, x1, x2⟩ := HN1.out.cells
        have xs := HN1.out.lt
        go_wp2_with fail
        refine (IHR.out w1 rv (HR.out.below HB1.out) (HT.out.below HB1.out) (HO.out.on HC.out HB1.out)).mono ?_
        rintro e w2 ⟨p2, t2, rfl, h2, e2, hb2⟩
        have HB2 := Lib.hid (bt HB1.out hb2)
        have HN2 := Lib.hid (HN1.out.below hb2)
        have HT2 := Lib.hid h2; have HE2 := Lib.hid e2
        have hz4 : sz l + sz t2 < 500000000 := by have := sz_of HE2.out; omega
        clear h2 e2 hb2 x0 x1 x2 xs
        obtain ⟨x0, x1, x2⟩ := HN2.out.cells
        have xs := HN2.out.lt
        have nf : ∀ q, ¬ (fun _ : Nat => False) q := fun _ h => h
        go_wp2
        refine Mix.regionC (fun _ => False) (by kernel_rfl) ?_
        intro w3 hb3
        refine Mix.take_exC _ _ 0 rfl (by kernel_rfl) (by kernel_rfl) (by kernel_rfl) (by kernel_rfl) (fun K hK => ?_)
        go_simp
        first | (refine hK _ ?_; clear hK K) | (apply Exists.intro; refine ⟨fun x => ?_, hK _ ?_⟩; (fail); clear hK K)
        refine Mix.take_exC _ _ 1 rfl (by kernel_rfl) (by kernel_rfl) (by kernel_rfl) (by kernel_rfl) (fun K hK => ?_)
        go_simp
        first | (refine hK _ ?_; clear hK K) | (apply Exists.intro; refine ⟨fun x => ?_, hK _ ?_⟩; (fail); clear hK K)
        refine Mix.take_exC _ _ 2 rfl (by kernel_rfl) (by kernel_rfl) (by kernel_rfl) (by kernel_rfl) (fun K hK => ?_)
        go_simp
        first | (refine hK _ ?_; clear hK K) | (apply Exists.intro; refine ⟨fun x => ?_, hK _ ?_⟩; (fail); clear hK K)
        refine Mix.take_exC _ _ 3 rfl (by kernel_rfl) (by kernel_rfl) (by kernel_rfl) (by kernel_rfl) (fun K hK => ?_)
        go_simp
        first | (refine hK _ ?_; clear hK K) | (apply Exists.intro; refine ⟨fun x => ?_, hK _ ?_⟩; (fail); clear hK K)
        refine Mix.take_exC _ _ 4 rfl (by kernel_rfl) (by kernel_rfl) (by kernel_rfl) (by kernel_rfl) (fun K hK => ?_)
        go_simp
        first | (refine hK _ ?_; clear hK K) | (apply Exists.intro; refine ⟨fun x => ?_, hK _ ?_⟩; (fail); clear hK K)
        refine Mix.take_exC _ _ 5 rfl (by kernel_rfl) (by kernel_rfl) (by kernel_rfl) (by kernel_rfl) (fun K hK => ?_)
        go_simp
        first | (refine hK _ ?_; clear hK K) | (apply Exists.intro; refine ⟨fun x => ?_, hK _ ?_⟩; (fail); clear hK K)
        refine Mix.take_exC _ _ 6 rfl (by kernel_rfl) (by kernel_rfl) (by kernel_rfl) (by kernel_rfl) (fun K hK => ?_)
        go_simp
        first | (refine hK _ ?_; clear hK K) | (apply Exists.intro; refine ⟨fun x => ?_, hK _ ?_⟩; (fail); clear hK K)
        refine Mix.take_exC _ _ 7 rfl (by kernel_rfl) (by kernel_rfl) (by kernel_rfl) (by kernel_rfl) (fun K hK => ?_)
        go_simp
        first | (refine hK _ ?_; clear hK K) | (apply Exists.intro; refine ⟨fun x => ?_, hK _ ?_⟩; (fail); clear hK K)
        refine Mix.take_exC _ _ 8 rfl (by kernel_rfl) (by kernel_rfl) (by kernel_rfl) (by kernel_rfl) (fun K hK => ?_)
        go_simp
        first | (refine hK _ ?_; clear hK K) | (apply Exists.intro; refine ⟨fun x => ?_, hK _ ?_⟩; (fail); clear hK K)
        refine Mix.take_exC _ _ 10 rfl (by kernel_rfl) (by kernel_rfl) (by kernel_rfl) (by kernel_rfl) (fun K hK => ?_)
        go_simp
        first | (refine hK _ ?_; clear hK K) | (apply Exists.intro; refine ⟨fun x => ?_, hK _ ?_⟩; (fail); clear hK K)
        refine Mix.all (rs := [9]) (by kernel_rfl) (by simp) (.of_below _ hb3) ?_
        intro i4 hi4 w4 hb4 hC4
        simp only [List.mem_cons, List.not_mem_nil, or_false] at hi4
        subst hi4
        have HB4 := Lib.hid (bt hb3 hb4)
        have HX4 := Lib.hid (bt HB2.out HB4.out)
        clear hC4 hb3 hb4
        refine Mix.op rfl (by kernel_rfl) ?_
        go_simp
        refine (balance_t (HL.out.below HX4.out) (HT2.out.below HB4.out) x hz4).mono ?_
        rintro e w5 ⟨v5, t5, rfl, h5, e5, hb5⟩
        refine ⟨_, rfl, ?_⟩
        obtain ⟨p5, rfl⟩ := h5.ptr
        have HT5 := Lib.hid h5; have HE5 := Lib.hid e5
        have HB5 := Lib.hid (bt HB4.out hb5)
        clear h5 e5 hb5
        refine Mix.take_exC _ _ 11 rfl (by kernel_rfl) (by kernel_rfl) (by kernel_rfl) (by kernel_rfl) (fun K hK => ?_)
        go_simp
        first | (refine hK _ ?_; clear hK K) | (apply Exists.intro; refine ⟨fun x => ?_, hK _ ?_⟩; (fail); clear hK K)
        refine Mix.take_exC _ _ 12 rfl (by kernel_rfl) (by kernel_rfl) (by kernel_rfl) (by kernel_rfl) (fun K hK => ?_)
        go_simp
        first | (refine hK _ ?_; clear hK K) | (apply Exists.intro; refine ⟨fun x => ?_, hK _ ?_⟩; (fail); clear hK K)
        refine Mix.done (by kernel_rfl) (.of_below _ HB5.out) ?_
        intro w6 hb6
        have HT6 := Lib.hid (HT5.out.below hb6)
        have HX6 := Lib.hid (bt HB2.out (bt HB5.out hb6))
        clear hb6 x0 x1 x2 xs nf
        go_wp2
        go_ret2
        exact ⟨_, _, rfl, HT6.out, by show tl t5 = _; rw [HE5.out, HE2.out, HE.out], HX6.out⟩
      · have h0 : o k x = 0 := by omega
        have HE := Lib.hid (show insL o k (tl (.nd l x r)) = tl (.nd l x r) from insL_here hO'.out HS.out HK.out h0)
        have HQ := Lib.hid (show hasL k (tl (.nd l x r)) = true by unfold hasL; exact decide_eq_true (mem_eq hO'.out HS.out HK.out h0))
        rw [HQ.out]
        have HN := Lib.hid hN; have HL := Lib.hid hl; have HR := Lib.hid hr
        have HT := Lib.hid hT; have HC := Lib.hid hC; have HO := Lib.hid hO
        obtain ⟨x0, x1, x2⟩ := hN.cells
        have xs := hN.lt
        clear hN hl hr hT hC hO
        go_enter Try.func76, Try.ntmps76
        go_wp2_with fail
        refine (compare_t HO.out HT.out HC.out HK.out HX.out).mono ?_
        rintro e w1 ⟨rfl, hb1⟩
        have HB1 := Lib.hid hb1
        have HN1 := Lib.hid (HN.out.below hb1)
        clear hb1 x0 x1 x2 xs HN
        obtain ⟨x0, x1, x2⟩ := HN1.out.cells
        have xs := HN1.out.lt
        have HT2 := Lib.hid (show Tn w1 (.pointer (some ⟨b, 0, none⟩)) (.nd l x r) from ⟨b, _, _, rfl, HN1.out, HL.out.below HB1.out, HR.out.below HB1.out⟩)
        clear x0 x1 x2 xs h0
        go_wp2
        go_ret2
        exact ⟨_, _, rfl, HT2.out, HE.out.symm, HB1.out⟩
end
end Go.Proofs.Ytajcelmnblncaaa

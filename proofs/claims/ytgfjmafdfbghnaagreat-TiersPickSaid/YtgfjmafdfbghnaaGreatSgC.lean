/- Texts laid together: Tp4,Tp5. -/
import Derived.Test.YtgfjmafdfbghnaaGreatSgB
namespace Go.Proofs.YtgfjmafdfbghnaaGreat
section
open Go.RowKit
attribute [local go_sem] ext_cell ext_frozen extC_cell extC_frozen Mix.calmUpon Mix.mUpon
def hasL (k : Pl) (L : List Pl) : Bool := decide (k ∈ L)
/-- A call that answers a tree, and whether. -/
def RetP (P : Tr → Prop) (q : Bool) (w : World) (e : Ending) (w' : World) : Prop := ∃ p t, e = .returned (.tuple #[.pointer p, .bool q]) ∧ Tn w' (.pointer p) t ∧ P t ∧ Below w.heap.size w w'
theorem insL_len (o : Pl → Pl → Int) (k : Pl) : ∀ L, (insL o k L).length ≤ L.length + 1
  | [] => Nat.le_refl _
  | x :: t => by
    have := insL_len o k t
    simp only [insL]
    split
    · simp
    · split
      · simp
      · simp; omega
theorem sz_of {t t' : Tr} {o : Pl → Pl → Int} {k : Pl} (h : tl t' = insL o k (tl t)) : sz t' ≤ sz t + 1 := by
  rw [← tl_len, ← tl_len, h]; exact insL_len o k _
section
variable {tp fn : Nat} {caps : Array Value} {C : World → Prop} {J : Pl → Prop} {o : Pl → Pl → Int}
abbrev tptr (tp : Nat) : Value := .pointer (some ⟨tp, 0, none⟩)
theorem TO.chg0 {w w' : World} {rv : Value} (h : TO w tp fn caps rv) (hc : Chg (fun _ => False) w w') : TO w' tp fn caps rv := (hc.block _ h.lt id).trans h
/-- A comparison, asked in a world that extends one. -/
theorem compare_c {w : World} {rv : Value} (hO : OV tp fn caps C J o) (h : TO w tp fn caps rv) (hC : C w) {a b : Pl} (ha : J a) (hb : J b) (x : ExtC w (fun _ => False)) :
    Calls Tryz.prog 119 #[tptr tp, plv a, plv b] (extC w (fun _ => False) x) fun e w' => e = .returned (.int .i64 (o a b)) ∧ Below (extC w (fun _ => False) x).heap.size (extC w (fun _ => False) x) w' :=
  compare_t hO (h.chg0 (extC_chg w _ x)) (hO.clo _ _ hC ((extC_chg w _ x).mono fun _ e => e.elim)) ha hb
-- the key k has been laid in a variable: the world w, its block kb
-- the call of itself on one side: IH, the side HS, its pointer
set_option maxRecDepth 100000 in
set_option maxHeartbeats 4000000 in
theorem put_t (hO : OV tp fn caps C J o) {k : Pl} (hk : J k) : ∀ (t : Tr) (w0 : World) (v rv : Value), Tn w0 v t → TO w0 tp fn caps rv → C w0 → SL J o (tl t) → sz t < 100000000 →
    Calls Tryz.prog 104 #[tptr tp, v, plv k] w0 (RetP (fun t' => tl t' = insL o k (tl t)) (!hasL k (tl t)) w0)
  | .lf, w0, v, rv, h0, hT0, hC0, hS, hz => by
    obtain rfl := h0.lf_
    obtain ⟨w, hw⟩ : ∃ w, w = w0.alloc (.cells #[.int .i64 k.n, .int .i64 k.d, .int .i64 k.w, .int .i64 k.i] 103) := ⟨_, rfl⟩
    obtain ⟨kb, hkb⟩ : ∃ b, b = w0.heap.size := ⟨_, rfl⟩
    have hb0 : Below w0.heap.size w0 w := by rw [hw]; exact ba (Below.refl _ _) _
    have hkk : PK w kb k := by rw [hw, hkb]; exact PK.made w0 k
    have HB0 := Lib.hid hb0; have HKK := Lib.hid hkk
    have HJ := Lib.hid (join_t (w := w) (lv := .pointer none) (rv := .pointer none) (l := .lf) (r := .lf) rfl rfl k (by simp [sz]))
    clear h0 hT0 hC0 hS hz hO hb0 hkk
    go_enter Tryz.func104, Tryz.ntmps104
    go_upto_region 1 with (fail)
    rw [← hw, ← hkb]
    clear hw hkb
    obtain ⟨k0, k1, k2, k3⟩ := HKK.out.cells
    have ks := HKK.out.lt
    go_wp2_with fail
    clear k0 k1 k2 k3 ks
    refine HJ.out.mono ?_
    rintro e w1 ⟨v1, _, rfl, h1, rfl, hb1⟩
    obtain ⟨p1, rfl⟩ := h1.ptr
    have HT := Lib.hid h1; have HB := Lib.hid hb1
    clear h1 hb1
    go_wp2
    go_ret2
    exact ⟨_, _, rfl, HT.out, rfl, bt HB0.out HB.out⟩
  | .nd l x r, w0, v, rv, h0, hT0, hC0, hS, hz => by
    obtain ⟨w, hw⟩ : ∃ w, w = w0.alloc (.cells #[.int .i64 k.n, .int .i64 k.d, .int .i64 k.w, .int .i64 k.i] 103) := ⟨_, rfl⟩
    obtain ⟨kb, hkb⟩ : ∃ b, b = w0.heap.size := ⟨_, rfl⟩
    have hb0 : Below w0.heap.size w0 w := by rw [hw]; exact ba (Below.refl _ _) _
    have hkk : PK w kb k := by rw [hw, hkb]; exact PK.made w0 k
    have h := h0.below hb0; have hT := hT0.below hb0; have hC := hO.on hC0 hb0
    have HB0 := Lib.hid hb0; have HKK := Lib.hid hkk
    clear h0 hT0 hC0 hb0 hkk
    obtain ⟨b, pl, pr, rfl, hN, hl, hr⟩ := h.node
    have hxJ := hS.mid.1
    have HK := Lib.hid hk; have HX := Lib.hid hxJ
    have HS := Lib.hid (show SL J o (tl l ++ x :: tl r) from hS)
    have hz1 : sz l < 100000000 := by simp only [sz] at hz; omega
    have hz2 : sz r < 100000000 := by simp only [sz] at hz; omega
    have hz3 : sz l + sz r < 100000000 := by simp only [sz] at hz; omega
    have hO' := Lib.hid hO.ord
    have IHL := Lib.hid (fun w' rv' a b c => put_t hO hk l w' (.pointer pl) rv' a b c (show SL J o (tl l ++ x :: tl r) from hS).left hz1)
    have IHR := Lib.hid (fun w' rv' a b c => put_t hO hk r w' (.pointer pr) rv' a b c (show SL J o (tl l ++ x :: tl r) from hS).right.tail hz2)
    clear h hk hxJ hS hz
    by_cases hlt : o k x < 0
    · have HE := Lib.hid (show insL o k (tl (.nd l x r)) = insL o k (tl l) ++ x :: tl r from insL_lt hlt _)
      have HQ := Lib.hid (show hasL k (tl (.nd l x r)) = hasL k (tl l) by unfold hasL; exact decide_eq_decide.2 (mem_lt hO'.out HS.out HK.out hlt))
      obtain ⟨q, hq⟩ : ∃ q, hasL k (tl l) = q := ⟨_, rfl⟩
      rw [hq] at IHL HQ
      clear hq
      rw [HQ.out]
      have HN := Lib.hid hN; have HL := Lib.hid hl; have HR := Lib.hid hr
      have HT := Lib.hid hT; have HC := Lib.hid hC; have HO := Lib.hid hO
      have HCM := Lib.hid (compare_c hO hT hC HK.out HX.out)
      have HBR := Lib.hid (Below.refl w.heap.size w)
      clear hN hl hr hT hC hO
      go_enter Tryz.func104, Tryz.ntmps104
      go_upto_region 1 with (fail)
      rw [← hw, ← hkb]
      clear hw hkb
      obtain ⟨x0, x1, x2, x3, x4, x5⟩ := HN.out.cells
      have xs := HN.out.lt
      obtain ⟨k0, k1, k2, k3⟩ := (HKK.out.below HBR.out).cells
      have ks := (HKK.out.below HBR.out).lt
      have nf : ∀ q, ¬ (fun _ : Nat => False) q := fun _ h => h
      go_wp2_with fail
      refine Mix.regionC (fun _ => False) (by kernel_rfl) ?_
      intro w9 hb9
      refine Mix.take_exC _ _ 0 rfl (by kernel_rfl) (by kernel_rfl) (by kernel_rfl) (by kernel_rfl) (fun K hK => ?_)
      go_simp
      first | (refine hK _ ?_; clear hK K) | (apply Exists.intro; refine ⟨fun x => ?_, hK _ ?_⟩; (fail); clear hK K)
      refine Mix.take_exC _ _ 1 rfl (by kernel_rfl) (by kernel_rfl) (by kernel_rfl) (by kernel_rfl) (fun K hK => ?_)
      go_simp
      first | (refine hK _ ?_; clear hK K) | (apply Exists.intro; refine ⟨fun x => ?_, hK _ ?_⟩; (fail); clear hK K)
      refine Mix.take_exC _ _ 2 rfl (by kernel_rfl) (by kernel_rfl) (by kernel_rfl) (by kernel_rfl) (fun K hK => ?_)
      go_simp
      first | (refine hK _ ?_; clear hK K) | (apply Exists.intro; refine ⟨fun x => ?_, hK _ ?_⟩; (fail); clear hK K)
      refine Mix.take_exC _ _ 3 rfl (by kernel_rfl) (by kernel_rfl) (by kernel_rfl) (by kernel_rfl) (fun K hK => ?_)
      go_simp
      first | (refine hK _ ?_; clear hK K) | (apply Exists.intro; refine ⟨fun x => ?_, hK _ ?_⟩; (fail); clear hK K)
      refine Mix.take_exC _ _ 4 rfl (by kernel_rfl) (by kernel_rfl) (by kernel_rfl) (by kernel_rfl) (fun K hK => ?_)
      go_simp
      first | (refine hK _ ?_; clear hK K) | (apply Exists.intro; refine ⟨fun x => ?_, hK _ ?_⟩; (fail); clear hK K)
      refine Mix.take_exC _ _ 5 rfl (by kernel_rfl) (by kernel_rfl) (by kernel_rfl) (by kernel_rfl) (fun K hK => ?_)
      go_simp
      first | (refine hK _ ?_; clear hK K) | (apply Exists.intro; refine ⟨fun x => ?_, hK _ ?_⟩; (fail); clear hK K)
      refine Mix.take_exC _ _ 6 rfl (by kernel_rfl) (by kernel_rfl) (by kernel_rfl) (by kernel_rfl) (fun K hK => ?_)
      go_simp
      first | (refine hK _ ?_; clear hK K) | (apply Exists.intro; refine ⟨fun x => ?_, hK _ ?_⟩; (exact HCM.out x); clear hK K)
      refine Mix.take_exC _ _ 7 rfl (by kernel_rfl) (by kernel_rfl) (by kernel_rfl) (by kernel_rfl) (fun K hK => ?_)
      go_simp
      first | (refine hK _ ?_; clear hK K) | (apply Exists.intro; refine ⟨fun x => ?_, hK _ ?_⟩; (fail); clear hK K)
      refine Mix.done (by kernel_rfl) (.of_below _ hb9) ?_
      intro w1 hb1
      have HB1 := Lib.hid (bt hb9 hb1)
      have HN1 := Lib.hid (HN.out.below HB1.out)
      clear hb1 hb9
      clear x0 x1 x2 x3 x4 x5 xs k0 k1 k2 k3 ks
      obtain ⟨x0, x1, x2, x3, x4, x5⟩ := HN1.out.cells
      have xs := HN1.out.lt
      obtain ⟨k0, k1, k2, k3⟩ := (HKK.out.below HB1.out).cells
      have ks := (HKK.out.below HB1.out).lt
      go_wp2_with fail
      refine Mix.regionC (fun _ => False) (by kernel_rfl) ?_
      intro w9 hb9
      refine Mix.take_exC _ _ 0 rfl (by kernel_rfl) (by kernel_rfl) (by kernel_rfl) (by kernel_rfl) (fun K hK => ?_)
      go_simp
      first | (refine hK _ ?_; clear hK K) | (apply Exists.intro; refine ⟨fun x => ?_, hK _ ?_⟩; (fail); clear hK K)
      refine Mix.take_exC _ _ 1 rfl (by kernel_rfl) (by kernel_rfl) (by kernel_rfl) (by kernel_rfl) (fun K hK => ?_)
      go_simp
      first | (refine hK _ ?_; clear hK K) | (apply Exists.intro; refine ⟨fun x => ?_, hK _ ?_⟩; (fail); clear hK K)
      refine Mix.take_exC _ _ 2 rfl (by kernel_rfl) (by kernel_rfl) (by kernel_rfl) (by kernel_rfl) (fun K hK => ?_)
      go_simp
      first | (refine hK _ ?_; clear hK K) | (apply Exists.intro; refine ⟨fun x => ?_, hK _ ?_⟩; (fail); clear hK K)
      refine Mix.take_exC _ _ 3 rfl (by kernel_rfl) (by kernel_rfl) (by kernel_rfl) (by kernel_rfl) (fun K hK => ?_)
      go_simp
      first | (refine hK _ ?_; clear hK K) | (apply Exists.intro; refine ⟨fun x => ?_, hK _ ?_⟩; (fail); clear hK K)
      refine Mix.take_exC _ _ 4 rfl (by kernel_rfl) (by kernel_rfl) (by kernel_rfl) (by kernel_rfl) (fun K hK => ?_)
      go_simp
      first | (refine hK _ ?_; clear hK K) | (apply Exists.intro; refine ⟨fun x => ?_, hK _ ?_⟩; (fail); clear hK K)
      refine Mix.take_exC _ _ 5 rfl (by kernel_rfl) (by kernel_rfl) (by kernel_rfl) (by kernel_rfl) (fun K hK => ?_)
      go_simp
      first | (refine hK _ ?_; clear hK K) | (apply Exists.intro; refine ⟨fun x => ?_, hK _ ?_⟩; (fail); clear hK K)
      refine Mix.all (rs := [6]) (by kernel_rfl) (by simp) (.of_below _ hb9) ?_
      intro i8 hi8 w8 hb8 hC8
      simp only [List.mem_cons, List.not_mem_nil, or_false] at hi8
      subst hi8
      have HB8 := Lib.hid (bt HB1.out (bt hb9 hb8))
      have HB18 := Lib.hid (bt hb9 hb8)
      clear hC8 hb8 hb9
      refine Mix.op rfl (by kernel_rfl) ?_
      go_simp
      refine (IHL.out w8 rv (HL.out.below HB8.out) (HT.out.below HB8.out) (HO.out.on HC.out HB8.out)).mono ?_
      rintro e w7 ⟨p2, t2, rfl, h7, e2, hb7⟩
      refine ⟨_, rfl, ?_⟩
      have HB7 := Lib.hid (bt HB8.out hb7)
      have HB17 := Lib.hid (bt HB18.out hb7)
      have HT7 := Lib.hid h7; have HE2 := Lib.hid e2
      clear h7 e2 hb7
      refine Mix.take_exC _ _ 7 rfl (by kernel_rfl) (by kernel_rfl) (by kernel_rfl) (by kernel_rfl) (fun K hK => ?_)
      go_simp
      first | (refine hK _ ?_; clear hK K) | (apply Exists.intro; refine ⟨fun x => ?_, hK _ ?_⟩; (fail); clear hK K)
      refine Mix.take_exC _ _ 8 rfl (by kernel_rfl) (by kernel_rfl) (by kernel_rfl) (by kernel_rfl) (fun K hK => ?_)
      go_simp
      first | (refine hK _ ?_; clear hK K) | (apply Exists.intro; refine ⟨fun x => ?_, hK _ ?_⟩; (fail); clear hK K)
      refine Mix.take_exC _ _ 9 rfl (by kernel_rfl) (by kernel_rfl) (by kernel_rfl) (by kernel_rfl) (fun K hK => ?_)
      go_simp
      first | (refine hK _ ?_; clear hK K) | (apply Exists.intro; refine ⟨fun x => ?_, hK _ ?_⟩; (fail); clear hK K)
      refine Mix.take_exC _ _ 10 rfl (by kernel_rfl) (by kernel_rfl) (by kernel_rfl) (by kernel_rfl) (fun K hK => ?_)
      go_simp
      first | (refine hK _ ?_; clear hK K) | (apply Exists.intro; refine ⟨fun x => ?_, hK _ ?_⟩; (fail); clear hK K)
      refine Mix.take_exC _ _ 11 rfl (by kernel_rfl) (by kernel_rfl) (by kernel_rfl) (by kernel_rfl) (fun K hK => ?_)
      go_simp
      first | (refine hK _ ?_; clear hK K) | (apply Exists.intro; refine ⟨fun x => ?_, hK _ ?_⟩; (fail); clear hK K)
      refine Mix.done (by kernel_rfl) (.of_below _ HB17.out) ?_
      intro w2 hb2
      have HB2 := Lib.hid (bt HB7.out hb2)
      have HT2 := Lib.hid (HT7.out.below hb2)
      have HN2 := Lib.hid (HN.out.below HB2.out)
      clear hb2
      clear x0 x1 x2 x3 x4 x5 xs k0 k1 k2 k3 ks
      obtain ⟨x0, x1, x2, x3, x4, x5⟩ := HN2.out.cells
      have xs := HN2.out.lt
      obtain ⟨k0, k1, k2, k3⟩ := (HKK.out.below HB2.out).cells
      have ks := (HKK.out.below HB2.out).lt
      have hz4 : sz t2 + sz r < 500000000 := by have := sz_of HE2.out; omega
      go_wp2
      refine Mix.regionC (fun _ => False) (by kernel_rfl) ?_
      intro w3 hb3
      refine Mix.take_exC _ _ 0 rfl (by kernel_rfl) (by kernel_rfl) (by kernel_rfl) (by kernel_rfl) (fun K hK => ?_)
      go_simp
      first | (refine hK _ ?_; clear hK K) | (apply Exists.intro; refine ⟨fun x => ?_, hK _ ?_⟩; (fail); clear hK K)
      refine Mix.take_exC _ _ 1 rfl (by kernel_rfl) (by kernel_rfl) (by kernel_rfl) (by kernel_rfl) (fun K hK => ?_)
      go_simp
      first | (refine hK _ ?_; clear hK K) | (apply Exists.intro; refine ⟨fun x => ?_, hK _ ?_⟩; (fail); clear hK K)
      refine Mix.take_exC _ _ 2 rfl (by kernel_rfl) (by kernel_rfl) (by kernel_rfl) (by kernel_rfl) (fun K hK => ?_)
      go_simp
      first | (refine hK _ ?_; clear hK K) | (apply Exists.intro; refine ⟨fun x => ?_, hK _ ?_⟩; (fail); clear hK K)
      refine Mix.take_exC _ _ 3 rfl (by kernel_rfl) (by kernel_rfl) (by kernel_rfl) (by kernel_rfl) (fun K hK => ?_)
      go_simp
      first | (refine hK _ ?_; clear hK K) | (apply Exists.intro; refine ⟨fun x => ?_, hK _ ?_⟩; (fail); clear hK K)
      refine Mix.take_exC _ _ 4 rfl (by kernel_rfl) (by kernel_rfl) (by kernel_rfl) (by kernel_rfl) (fun K hK => ?_)
      go_simp
      first | (refine hK _ ?_; clear hK K) | (apply Exists.intro; refine ⟨fun x => ?_, hK _ ?_⟩; (fail); clear hK K)
      refine Mix.take_exC _ _ 5 rfl (by kernel_rfl) (by kernel_rfl) (by kernel_rfl) (by kernel_rfl) (fun K hK => ?_)
      go_simp
      first | (refine hK _ ?_; clear hK K) | (apply Exists.intro; refine ⟨fun x => ?_, hK _ ?_⟩; (fail); clear hK K)
      refine Mix.take_exC _ _ 6 rfl (by kernel_rfl) (by kernel_rfl) (by kernel_rfl) (by kernel_rfl) (fun K hK => ?_)
      go_simp
      first | (refine hK _ ?_; clear hK K) | (apply Exists.intro; refine ⟨fun x => ?_, hK _ ?_⟩; (fail); clear hK K)
      refine Mix.take_exC _ _ 7 rfl (by kernel_rfl) (by kernel_rfl) (by kernel_rfl) (by kernel_rfl) (fun K hK => ?_)
      go_simp
      first | (refine hK _ ?_; clear hK K) | (apply Exists.intro; refine ⟨fun x => ?_, hK _ ?_⟩; (fail); clear hK K)
      refine Mix.take_exC _ _ 8 rfl (by kernel_rfl) (by kernel_rfl) (by kernel_rfl) (by kernel_rfl) (fun K hK => ?_)
      go_simp
      first | (refine hK _ ?_; clear hK K) | (apply Exists.intro; refine ⟨fun x => ?_, hK _ ?_⟩; (fail); clear hK K)
      refine Mix.take_exC _ _ 10 rfl (by kernel_rfl) (by kernel_rfl) (by kernel_rfl) (by kernel_rfl) (fun K hK => ?_)
      go_simp
      first | (refine hK _ ?_; clear hK K) | (apply Exists.intro; refine ⟨fun x => ?_, hK _ ?_⟩; (fail); clear hK K)
      refine Mix.all (rs := [9]) (by kernel_rfl) (by simp) (.of_below _ hb3) ?_
      intro i4 hi4 w4 hb4 hC4
      simp only [List.mem_cons, List.not_mem_nil, or_false] at hi4
      subst hi4
      have HB4 := Lib.hid (bt hb3 hb4)
      have HX4 := Lib.hid (bt HB2.out HB4.out)
      clear hC4 hb3 hb4
      refine Mix.op rfl (by kernel_rfl) ?_
      go_simp
      refine (balance_t (HT2.out.below HB4.out) (HR.out.below HX4.out) x hz4).mono ?_
      rintro e w5 ⟨v5, t5, rfl, h5, e5, hb5⟩
      refine ⟨_, rfl, ?_⟩
      obtain ⟨p5, rfl⟩ := h5.ptr
      have HT5 := Lib.hid h5; have HE5 := Lib.hid e5
      have HB5 := Lib.hid (bt HB4.out hb5)
      clear h5 e5 hb5
      refine Mix.take_exC _ _ 11 rfl (by kernel_rfl) (by kernel_rfl) (by kernel_rfl) (by kernel_rfl) (fun K hK => ?_)
      go_simp
      first | (refine hK _ ?_; clear hK K) | (apply Exists.intro; refine ⟨fun x => ?_, hK _ ?_⟩; (fail); clear hK K)
      refine Mix.take_exC _ _ 12 rfl (by kernel_rfl) (by kernel_rfl) (by kernel_rfl) (by kernel_rfl) (fun K hK => ?_)
      go_simp
      first | (refine hK _ ?_; clear hK K) | (apply Exists.intro; refine ⟨fun x => ?_, hK _ ?_⟩; (fail); clear hK K)
      refine Mix.done (by kernel_rfl) (.of_below _ HB5.out) ?_
      intro w6 hb6
      have HT6 := Lib.hid (HT5.out.below hb6)
      have HX6 := Lib.hid (bt HB2.out (bt HB5.out hb6))
      clear hb6 nf
      clear x0 x1 x2 x3 x4 x5 xs k0 k1 k2 k3 ks
      go_wp2
      go_ret2
      exact ⟨_, _, rfl, HT6.out, by show tl t5 = _; rw [HE5.out, HE2.out, HE.out], bt HB0.out HX6.out⟩
    · by_cases hgt : 0 < o k x
      · have HE := Lib.hid (show insL o k (tl (.nd l x r)) = tl l ++ x :: insL o k (tl r) from insL_right hO'.out HS.out HK.out hgt)
        have HQ := Lib.hid (show hasL k (tl (.nd l x r)) = hasL k (tl r) by unfold hasL; exact decide_eq_decide.2 (mem_gt hO'.out HS.out HK.out hgt))
        obtain ⟨q, hq⟩ : ∃ q, hasL k (tl r) = q := ⟨_, rfl⟩
        rw [hq] at IHR HQ
        clear hq
        rw [HQ.out]
        have HN := Lib.hid hN; have HL := Lib.hid hl; have HR := Lib.hid hr
        have HT := Lib.hid hT; have HC := Lib.hid hC; have HO := Lib.hid hO
        have HCM := Lib.hid (compare_c hO hT hC HK.out HX.out)
        have HBR := Lib.hid (Below.refl w.heap.size w)
        clear hN hl hr hT hC hO
        go_enter Tryz.func104, Tryz.ntmps104
        go_upto_region 1 with (fail)
        rw [← hw, ← hkb]
        clear hw hkb
        obtain ⟨x0, x1, x2, x3, x4, x5⟩ := HN.out.cells
        have xs := HN.out.lt
        obtain ⟨k0, k1, k2, k3⟩ := (HKK.out.below HBR.out).cells
        have ks := (HKK.out.below HBR.out).lt
        have nf : ∀ q, ¬ (fun _ : Nat => False) q := fun _ h => h
        go_wp2_with fail
        refine Mix.regionC (fun _ => False) (by kernel_rfl) ?_
        intro w9 hb9
        refine Mix.take_exC _ _ 0 rfl (by kernel_rfl) (by kernel_rfl) (by kernel_rfl) (by kernel_rfl) (fun K hK => ?_)
        go_simp
        first | (refine hK _ ?_; clear hK K) | (apply Exists.intro; refine ⟨fun x => ?_, hK _ ?_⟩; (fail); clear hK K)
        refine Mix.take_exC _ _ 1 rfl (by kernel_rfl) (by kernel_rfl) (by kernel_rfl) (by kernel_rfl) (fun K hK => ?_)
        go_simp
        first | (refine hK _ ?_; clear hK K) | (apply Exists.intro; refine ⟨fun x => ?_, hK _ ?_⟩; (fail); clear hK K)
        refine Mix.take_exC _ _ 2 rfl (by kernel_rfl) (by kernel_rfl) (by kernel_rfl) (by kernel_rfl) (fun K hK => ?_)
        go_simp
        first | (refine hK _ ?_; clear hK K) | (apply Exists.intro; refine ⟨fun x => ?_, hK _ ?_⟩; (fail); clear hK K)
        refine Mix.take_exC _ _ 3 rfl (by kernel_rfl) (by kernel_rfl) (by kernel_rfl) (by kernel_rfl) (fun K hK => ?_)
        go_simp
        first | (refine hK _ ?_; clear hK K) | (apply Exists.intro; refine ⟨fun x => ?_, hK _ ?_⟩; (fail); clear hK K)
        refine Mix.take_exC _ _ 4 rfl (by kernel_rfl) (by kernel_rfl) (by kernel_rfl) (by kernel_rfl) (fun K hK => ?_)
        go_simp
        first | (refine hK _ ?_; clear hK K) | (apply Exists.intro; refine ⟨fun x => ?_, hK _ ?_⟩; (fail); clear hK K)
        refine Mix.take_exC _ _ 5 rfl (by kernel_rfl) (by kernel_rfl) (by kernel_rfl) (by kernel_rfl) (fun K hK => ?_)
        go_simp
        first | (refine hK _ ?_; clear hK K) | (apply Exists.intro; refine ⟨fun x => ?_, hK _ ?_⟩; (fail); clear hK K)
        refine Mix.take_exC _ _ 6 rfl (by kernel_rfl) (by kernel_rfl) (by kernel_rfl) (by kernel_rfl) (fun K hK => ?_)
        go_simp
        first | (refine hK _ ?_; clear hK K) | (apply Exists.intro; refine ⟨fun x => ?_, hK _ ?_⟩; (exact HCM.out x); clear hK K)
        refine Mix.take_exC _ _ 7 rfl (by kernel_rfl) (by kernel_rfl) (by kernel_rfl) (by kernel_rfl) (fun K hK => ?_)
        go_simp
        first | (refine hK _ ?_; clear hK K) | (apply Exists.intro; refine ⟨fun x => ?_, hK _ ?_⟩; (fail); clear hK K)
        refine Mix.done (by kernel_rfl) (.of_below _ hb9) ?_
        intro w1 hb1
        have HB1 := Lib.hid (bt hb9 hb1)
        have HN1 := Lib.hid (HN.out.below HB1.out)
        clear hb1 hb9
        clear x0 x1 x2 x3 x4 x5 xs k0 k1 k2 k3 ks
        obtain ⟨x0, x1, x2, x3, x4, x5⟩ := HN1.out.cells
        have xs := HN1.out.lt
        obtain ⟨k0, k1, k2, k3⟩ := (HKK.out.below HB1.out).cells
        have ks := (HKK.out.below HB1.out).lt
        go_wp2_with fail
        refine Mix.regionC (fun _ => False) (by kernel_rfl) ?_
        intro w9 hb9
        refine Mix.take_exC _ _ 0 rfl (by kernel_rfl) (by kernel_rfl) (by kernel_rfl) (by kernel_rfl) (fun K hK => ?_)
        go_simp
        first | (refine hK _ ?_; clear hK K) | (apply Exists.intro; refine ⟨fun x => ?_, hK _ ?_⟩; (fail); clear hK K)
        refine Mix.take_exC _ _ 1 rfl (by kernel_rfl) (by kernel_rfl) (by kernel_rfl) (by kernel_rfl) (fun K hK => ?_)
        go_simp
        first | (refine hK _ ?_; clear hK K) | (apply Exists.intro; refine ⟨fun x => ?_, hK _ ?_⟩; (fail); clear hK K)
        refine Mix.take_exC _ _ 2 rfl (by kernel_rfl) (by kernel_rfl) (by kernel_rfl) (by kernel_rfl) (fun K hK => ?_)
        go_simp
        first | (refine hK _ ?_; clear hK K) | (apply Exists.intro; refine ⟨fun x => ?_, hK _ ?_⟩; (fail); clear hK K)
        refine Mix.take_exC _ _ 3 rfl (by kernel_rfl) (by kernel_rfl) (by kernel_rfl) (by kernel_rfl) (fun K hK => ?_)
        go_simp
        first | (refine hK _ ?_; clear hK K) | (apply Exists.intro; refine ⟨fun x => ?_, hK _ ?_⟩; (fail); clear hK K)
        refine Mix.take_exC _ _ 4 rfl (by kernel_rfl) (by kernel_rfl) (by kernel_rfl) (by kernel_rfl) (fun K hK => ?_)
        go_simp
        first | (refine hK _ ?_; clear hK K) | (apply Exists.intro; refine ⟨fun x => ?_, hK _ ?_⟩; (fail); clear hK K)
        refine Mix.take_exC _ _ 5 rfl (by kernel_rfl) (by kernel_rfl) (by kernel_rfl) (by kernel_rfl) (fun K hK => ?_)
        go_simp
        first | (refine hK _ ?_; clear hK K) | (apply Exists.intro; refine ⟨fun x => ?_, hK _ ?_⟩; (fail); clear hK K)
        refine Mix.all (rs := [6]) (by kernel_rfl) (by simp) (.of_below _ hb9) ?_
        intro i8 hi8 w8 hb8 hC8
        simp only [List.mem_cons, List.not_mem_nil, or_false] at hi8
        subst hi8
        have HB8 := Lib.hid (bt HB1.out (bt hb9 hb8))
        have HB18 := Lib.hid (bt hb9 hb8)
        clear hC8 hb8 hb9
        refine Mix.op rfl (by kernel_rfl) ?_
        go_simp
        refine (IHR.out w8 rv (HR.out.below HB8.out) (HT.out.below HB8.out) (HO.out.on HC.out HB8.out)).mono ?_
        rintro e w7 ⟨p2, t2, rfl, h7, e2, hb7⟩
        refine ⟨_, rfl, ?_⟩
        have HB7 := Lib.hid (bt HB8.out hb7)
        have HB17 := Lib.hid (bt HB18.out hb7)
        have HT7 := Lib.hid h7; have HE2 := Lib.hid e2
        clear h7 e2 hb7
        refine Mix.take_exC _ _ 7 rfl (by kernel_rfl) (by kernel_rfl) (by kernel_rfl) (by kernel_rfl) (fun K hK => ?_)
        go_simp
        first | (refine hK _ ?_; clear hK K) | (apply Exists.intro; refine ⟨fun x => ?_, hK _ ?_⟩; (fail); clear hK K)
        refine Mix.take_exC _ _ 8 rfl (by kernel_rfl) (by kernel_rfl) (by kernel_rfl) (by kernel_rfl) (fun K hK => ?_)
        go_simp
        first | (refine hK _ ?_; clear hK K) | (apply Exists.intro; refine ⟨fun x => ?_, hK _ ?_⟩; (fail); clear hK K)
        refine Mix.take_exC _ _ 9 rfl (by kernel_rfl) (by kernel_rfl) (by kernel_rfl) (by kernel_rfl) (fun K hK => ?_)
        go_simp
        first | (refine hK _ ?_; clear hK K) | (apply Exists.intro; refine ⟨fun x => ?_, hK _ ?_⟩; (fail); clear hK K)
        refine Mix.take_exC _ _ 10 rfl (by kernel_rfl) (by kernel_rfl) (by kernel_rfl) (by kernel_rfl) (fun K hK => ?_)
        go_simp
        first | (refine hK _ ?_; clear hK K) | (apply Exists.intro; refine ⟨fun x => ?_, hK _ ?_⟩; (fail); clear hK K)
        refine Mix.take_exC _ _ 11 rfl (by kernel_rfl) (by kernel_rfl) (by kernel_rfl) (by kernel_rfl) (fun K hK => ?_)
        go_simp
        first | (refine hK _ ?_; clear hK K) | (apply Exists.intro; refine ⟨fun x => ?_, hK _ ?_⟩; (fail); clear hK K)
        refine Mix.done (by kernel_rfl) (.of_below _ HB17.out) ?_
        intro w2 hb2
        have HB2 := Lib.hid (bt HB7.out hb2)
        have HT2 := Lib.hid (HT7.out.below hb2)
        have HN2 := Lib.hid (HN.out.below HB2.out)
        clear hb2
        clear x0 x1 x2 x3 x4 x5 xs k0 k1 k2 k3 ks
        obtain ⟨x0, x1, x2, x3, x4, x5⟩ := HN2.out.cells
        have xs := HN2.out.lt
        obtain ⟨k0, k1, k2, k3⟩ := (HKK.out.below HB2.out).cells
        have ks := (HKK.out.below HB2.out).lt
        have hz4 : sz l + sz t2 < 500000000 := by have := sz_of HE2.out; omega
        go_wp2
        refine Mix.regionC (fun _ => False) (by kernel_rfl) ?_
        intro w3 hb3
        refine Mix.take_exC _ _ 0 rfl (by kernel_rfl) (by kernel_rfl) (by kernel_rfl) (by kernel_rfl) (fun K hK => ?_)
        go_simp
        first | (refine hK _ ?_; clear hK K) | (apply Exists.intro; refine ⟨fun x => ?_, hK _ ?_⟩; (fail); clear hK K)
        refine Mix.take_exC _ _ 1 rfl (by kernel_rfl) (by kernel_rfl) (by kernel_rfl) (by kernel_rfl) (fun K hK => ?_)
        go_simp
        first | (refine hK _ ?_; clear hK K) | (apply Exists.intro; refine ⟨fun x => ?_, hK _ ?_⟩; (fail); clear hK K)
        refine Mix.take_exC _ _ 2 rfl (by kernel_rfl) (by kernel_rfl) (by kernel_rfl) (by kernel_rfl) (fun K hK => ?_)
        go_simp
        first | (refine hK _ ?_; clear hK K) | (apply Exists.intro; refine ⟨fun x => ?_, hK _ ?_⟩; (fail); clear hK K)
        refine Mix.take_exC _ _ 3 rfl (by kernel_rfl) (by kernel_rfl) (by kernel_rfl) (by kernel_rfl) (fun K hK => ?_)
        go_simp
        first | (refine hK _ ?_; clear hK K) | (apply Exists.intro; refine ⟨fun x => ?_, hK _ ?_⟩; (fail); clear hK K)
        refine Mix.take_exC _ _ 4 rfl (by kernel_rfl) (by kernel_rfl) (by kernel_rfl) (by kernel_rfl) (fun K hK => ?_)
        go_simp
        first | (refine hK _ ?_; clear hK K) | (apply Exists.intro; refine ⟨fun x => ?_, hK _ ?_⟩; (fail); clear hK K)
        refine Mix.take_exC _ _ 5 rfl (by kernel_rfl) (by kernel_rfl) (by kernel_rfl) (by kernel_rfl) (fun K hK => ?_)
        go_simp
        first | (refine hK _ ?_; clear hK K) | (apply Exists.intro; refine ⟨fun x => ?_, hK _ ?_⟩; (fail); clear hK K)
        refine Mix.take_exC _ _ 6 rfl (by kernel_rfl) (by kernel_rfl) (by kernel_rfl) (by kernel_rfl) (fun K hK => ?_)
        go_simp
        first | (refine hK _ ?_; clear hK K) | (apply Exists.intro; refine ⟨fun x => ?_, hK _ ?_⟩; (fail); clear hK K)
        refine Mix.take_exC _ _ 7 rfl (by kernel_rfl) (by kernel_rfl) (by kernel_rfl) (by kernel_rfl) (fun K hK => ?_)
        go_simp
        first | (refine hK _ ?_; clear hK K) | (apply Exists.intro; refine ⟨fun x => ?_, hK _ ?_⟩; (fail); clear hK K)
        refine Mix.take_exC _ _ 8 rfl (by kernel_rfl) (by kernel_rfl) (by kernel_rfl) (by kernel_rfl) (fun K hK => ?_)
        go_simp
        first | (refine hK _ ?_; clear hK K) | (apply Exists.intro; refine ⟨fun x => ?_, hK _ ?_⟩; (fail); clear hK K)
        refine Mix.take_exC _ _ 10 rfl (by kernel_rfl) (by kernel_rfl) (by kernel_rfl) (by kernel_rfl) (fun K hK => ?_)
        go_simp
        first | (refine hK _ ?_; clear hK K) | (apply Exists.intro; refine ⟨fun x => ?_, hK _ ?_⟩; (fail); clear hK K)
        refine Mix.all (rs := [9]) (by kernel_rfl) (by simp) (.of_below _ hb3) ?_
        intro i4 hi4 w4 hb4 hC4
        simp only [List.mem_cons, List.not_mem_nil, or_false] at hi4
        subst hi4
        have HB4 := Lib.hid (bt hb3 hb4)
        have HX4 := Lib.hid (bt HB2.out HB4.out)
        clear hC4 hb3 hb4
        refine Mix.op rfl (by kernel_rfl) ?_
        go_simp
        refine (balance_t (HL.out.below HX4.out) (HT2.out.below HB4.out) x hz4).mono ?_
        rintro e w5 ⟨v5, t5, rfl, h5, e5, hb5⟩
        refine ⟨_, rfl, ?_⟩
        obtain ⟨p5, rfl⟩ := h5.ptr
        have HT5 := Lib.hid h5; have HE5 := Lib.hid e5
        have HB5 := Lib.hid (bt HB4.out hb5)
        clear h5 e5 hb5
        refine Mix.take_exC _ _ 11 rfl (by kernel_rfl) (by kernel_rfl) (by kernel_rfl) (by kernel_rfl) (fun K hK => ?_)
        go_simp
        first | (refine hK _ ?_; clear hK K) | (apply Exists.intro; refine ⟨fun x => ?_, hK _ ?_⟩; (fail); clear hK K)
        refine Mix.take_exC _ _ 12 rfl (by kernel_rfl) (by kernel_rfl) (by kernel_rfl) (by kernel_rfl) (fun K hK => ?_)
        go_simp
        first | (refine hK _ ?_; clear hK K) | (apply Exists.intro; refine ⟨fun x => ?_, hK _ ?_⟩; (fail); clear hK K)
        refine Mix.done (by kernel_rfl) (.of_below _ HB5.out) ?_
        intro w6 hb6
        have HT6 := Lib.hid (HT5.out.below hb6)
        have HX6 := Lib.hid (bt HB2.out (bt HB5.out hb6))
        clear hb6 nf
        clear x0 x1 x2 x3 x4 x5 xs k0 k1 k2 k3 ks
        go_wp2
        go_ret2
        exact ⟨_, _, rfl, HT6.out, by show tl t5 = _; rw [HE5.out, HE2.out, HE.out], bt HB0.out HX6.out⟩
      · have hq0 : o k x = 0 := by omega
        have HE := Lib.hid (show insL o k (tl (.nd l x r)) = tl (.nd l x r) from insL_here hO'.out HS.out HK.out hq0)
        have HQ := Lib.hid (show hasL k (tl (.nd l x r)) = true by unfold hasL; exact decide_eq_true (mem_eq hO'.out HS.out HK.out hq0))
        rw [HQ.out]
        have HN := Lib.hid hN; have HL := Lib.hid hl; have HR := Lib.hid hr
        have HT := Lib.hid hT; have HC := Lib.hid hC; have HO := Lib.hid hO
        have HCM := Lib.hid (compare_c hO hT hC HK.out HX.out)
        have HBR := Lib.hid (Below.refl w.heap.size w)
        clear hN hl hr hT hC hO
        go_enter Tryz.func104, Tryz.ntmps104
        go_upto_region 1 with (fail)
        rw [← hw, ← hkb]
        clear hw hkb
        obtain ⟨x0, x1, x2, x3, x4, x5⟩ := HN.out.cells
        have xs := HN.out.lt
        obtain ⟨k0, k1, k2, k3⟩ := (HKK.out.below HBR.out).cells
        have ks := (HKK.out.below HBR.out).lt
        have nf : ∀ q, ¬ (fun _ : Nat => False) q := fun _ h => h
        go_wp2_with fail
        refine Mix.regionC (fun _ => False) (by kernel_rfl) ?_
        intro w9 hb9
        refine Mix.take_exC _ _ 0 rfl (by kernel_rfl) (by kernel_rfl) (by kernel_rfl) (by kernel_rfl) (fun K hK => ?_)
        go_simp
        first | (refine hK _ ?_; clear hK K) | (apply Exists.intro; refine ⟨fun x => ?_, hK _ ?_⟩; (fail); clear hK K)
        refine Mix.take_exC _ _ 1 rfl (by kernel_rfl) (by kernel_rfl) (by kernel_rfl) (by kernel_rfl) (fun K hK => ?_)
        go_simp
        first | (refine hK _ ?_; clear hK K) | (apply Exists.intro; refine ⟨fun x => ?_, hK _ ?_⟩; (fail); clear hK K)
        refine Mix.take_exC _ _ 2 rfl (by kernel_rfl) (by kernel_rfl) (by kernel_rfl) (by kernel_rfl) (fun K hK => ?_)
        go_simp
        first | (refine hK _ ?_; clear hK K) | (apply Exists.intro; refine ⟨fun x => ?_, hK _ ?_⟩; (fail); clear hK K)
        refine Mix.take_exC _ _ 3 rfl (by kernel_rfl) (by kernel_rfl) (by kernel_rfl) (by kernel_rfl) (fun K hK => ?_)
        go_simp
        first | (refine hK _ ?_; clear hK K) | (apply Exists.intro; refine ⟨fun x => ?_, hK _ ?_⟩; (fail); clear hK K)
        refine Mix.take_exC _ _ 4 rfl (by kernel_rfl) (by kernel_rfl) (by kernel_rfl) (by kernel_rfl) (fun K hK => ?_)
        go_simp
        first | (refine hK _ ?_; clear hK K) | (apply Exists.intro; refine ⟨fun x => ?_, hK _ ?_⟩; (fail); clear hK K)
        refine Mix.take_exC _ _ 5 rfl (by kernel_rfl) (by kernel_rfl) (by kernel_rfl) (by kernel_rfl) (fun K hK => ?_)
        go_simp
        first | (refine hK _ ?_; clear hK K) | (apply Exists.intro; refine ⟨fun x => ?_, hK _ ?_⟩; (fail); clear hK K)
        refine Mix.take_exC _ _ 6 rfl (by kernel_rfl) (by kernel_rfl) (by kernel_rfl) (by kernel_rfl) (fun K hK => ?_)
        go_simp
        first | (refine hK _ ?_; clear hK K) | (apply Exists.intro; refine ⟨fun x => ?_, hK _ ?_⟩; (exact HCM.out x); clear hK K)
        refine Mix.take_exC _ _ 7 rfl (by kernel_rfl) (by kernel_rfl) (by kernel_rfl) (by kernel_rfl) (fun K hK => ?_)
        go_simp
        first | (refine hK _ ?_; clear hK K) | (apply Exists.intro; refine ⟨fun x => ?_, hK _ ?_⟩; (fail); clear hK K)
        refine Mix.done (by kernel_rfl) (.of_below _ hb9) ?_
        intro w1 hb1
        have HB1 := Lib.hid (bt hb9 hb1)
        have HN1 := Lib.hid (HN.out.below HB1.out)
        clear hb1 hb9
        clear x0 x1 x2 x3 x4 x5 xs k0 k1 k2 k3 ks
        obtain ⟨x0, x1, x2, x3, x4, x5⟩ := HN1.out.cells
        have xs := HN1.out.lt
        obtain ⟨k0, k1, k2, k3⟩ := (HKK.out.below HB1.out).cells
        have ks := (HKK.out.below HB1.out).lt
        have HT2 := Lib.hid (show Tn w1 (.pointer (some ⟨b, 0, none⟩)) (.nd l x r) from ⟨b, _, _, rfl, HN1.out, HL.out.below HB1.out, HR.out.below HB1.out⟩)
        clear x0 x1 x2 x3 x4 x5 xs k0 k1 k2 k3 ks
        clear hq0 nf
        go_wp2
        go_ret2
        exact ⟨_, _, rfl, HT2.out, HE.out.symm, bt HB0.out HB1.out⟩
end
end
section
open Go.RowKit
attribute [local go_sem] ext_cell ext_frozen extC_cell extC_frozen Mix.calmUpon Mix.mUpon
theorem sz_del {t t' : Tr} {k : Pl} (h : tl t' = delL k (tl t)) : sz t' ≤ sz t := by
  rw [← tl_len, ← tl_len, h]; exact List.length_filter_le _ _
theorem PK.set4 {w : World} {b : Nat} {p : Pl} (h : PK w b p) (q : Pl) : PK ((((w.setCell ⟨b, 0, none⟩ (.int .i64 q.n)).setCell ⟨b, 1, none⟩ (.int .i64 q.d)).setCell ⟨b, 2, none⟩ (.int .i64 q.w)).setCell ⟨b, 3, none⟩ (.int .i64 q.i)) b q := heap_setCell_at _ (heap_setCell_at _ (heap_setCell_at _ (heap_setCell_at _ h)))
theorem pk_chg (w : World) (b : Nat) (u0 u1 u2 u3 : Value) : Chg (fun k => k = b) w ((((w.setCell ⟨b, 0, none⟩ u0).setCell ⟨b, 1, none⟩ u1).setCell ⟨b, 2, none⟩ u2).setCell ⟨b, 3, none⟩ u3) :=
  ((((Chg.refl (fun k => k = b) w).setCell (p := ⟨b, 0, none⟩) (.inl rfl) _).setCell (p := ⟨b, 1, none⟩) (.inl rfl) _).setCell (p := ⟨b, 2, none⟩) (.inl rfl) _).setCell (p := ⟨b, 3, none⟩) (.inl rfl) _
theorem PK.nonode {w : World} {b : Nat} {p : Pl} (h : PK w b p) : NoNode (fun k => k = b) w := fun q hq cs e => by
  have hq : q = b := hq
  subst hq
  unfold PK at h
  rw [h] at e
  cases e
theorem PK.load {w : World} {b : Nat} {p : Pl} (h : PK w b p) : (loadVar 103 ⟨b, 0, none⟩).run Tryz.prog w = .ok (plv p) w := by
  obtain ⟨h0, h1, h2, h3⟩ := h.cells
  have hs := h.lt
  simp [go_sem, h0, h1, h2, h3, hs]
theorem res_pk {fn : Func} {tmps : Array Value} {w : World} {p q b : Nat} {x : Pl} {e : Value} (h : fn.results = #[.cell p 103, .tmp q]) (hp : tmps.getD p undef = .pointer (some ⟨b, 0, none⟩)) (hq : tmps.getD q undef = e) (hb : PK w b x) :
    (results fn tmps).run Tryz.prog w = .ok (.tuple #[plv x, e]) w := by
  simp only [results, h]
  have hp' : tmps[p]?.getD undef = .pointer (some ⟨b, 0, none⟩) := by simpa [Array.getD_eq_getD_getElem?] using hp
  have hq' : tmps[q]?.getD undef = e := by simpa [Array.getD_eq_getD_getElem?] using hq
  simp [Sem.run_bind, Result.andThen, hp', hq', asAddr, hb.load]
/-- A call that answers the first place of a tree, and the rest. -/
def RetC (t : Tr) (w : World) (e : Ending) (w' : World) : Prop := ∃ y p t', e = .returned (.tuple #[plv y, .pointer p]) ∧ Tn w' (.pointer p) t' ∧ tl t = y :: tl t' ∧ Below w.heap.size w w'
set_option maxRecDepth 100000 in
set_option maxHeartbeats 4000000 in
theorem cut_t : ∀ (l : Tr) (x : Pl) (r : Tr) (w0 : World) (v : Value), Tn w0 v (.nd l x r) → sz (.nd l x r) < 100000000 → Calls Tryz.prog 129 #[v] w0 (RetC (.nd l x r) w0)
  | .lf, x, r, w0, v, h0, hz => by
    obtain ⟨w, hw⟩ : ∃ w, w = w0.alloc (.cells #[.int .i64 0, .int .i64 0, .int .i64 0, .int .i64 0] 103) := ⟨_, rfl⟩
    obtain ⟨rb, hrb⟩ : ∃ b, b = w0.heap.size := ⟨_, rfl⟩
    have hb0 : Below w0.heap.size w0 w := by rw [hw]; exact ba (Below.refl _ _) _
    have hkk : PK w rb ⟨0, 0, 0, 0⟩ := by rw [hw, hrb]; exact PK.made w0 ⟨0, 0, 0, 0⟩
    obtain ⟨b, pl, pr, rfl, hN0, hl0, hr0⟩ := h0.node
    have hN := hN0.below hb0
    have nb : ¬ b = rb := by have := hN0.lt; omega
    cases hl0.lf_
    have HR := Lib.hid (hr0.below hb0)
    have HB0 := Lib.hid hb0; have HKK := Lib.hid hkk; have HRB := Lib.hid hrb
    obtain ⟨x0, x1, x2, x3, x4, x5⟩ := hN.cells
    have xs := hN.lt
    clear h0 hN0 hN hl0 hr0 hz hb0 hkk
    go_enter Tryz.func129, Tryz.ntmps129
    go_upto_region 1 with (fail)
    rw [← hw, ← hrb]
    clear hw hrb
    go_wp2_with fail
    refine Mix.regionC (fun q => q = rb) (by kernel_rfl) ?_
    intro w1 hb1
    refine Mix.take_exC _ _ 0 rfl (by kernel_rfl) (by kernel_rfl) (by kernel_rfl) (by kernel_rfl) (fun K hK => ?_)
    go_simp
    first | (refine hK _ ?_; clear hK K) | (apply Exists.intro; refine ⟨fun x => ?_, hK _ ?_⟩; (fail); clear hK K)
    refine Mix.take_exC _ _ 1 rfl (by kernel_rfl) (by kernel_rfl) (by kernel_rfl) (by kernel_rfl) (fun K hK => ?_)
    go_simp
    first | (refine hK _ ?_; clear hK K) | (apply Exists.intro; refine ⟨fun x => ?_, hK _ ?_⟩; (fail); clear hK K)
    refine Mix.take_exC _ _ 2 rfl (by kernel_rfl) (by kernel_rfl) (by kernel_rfl) (by kernel_rfl) (fun K hK => ?_)
    go_simp
    first | (refine hK _ ?_; clear hK K) | (apply Exists.intro; refine ⟨fun x => ?_, hK _ ?_⟩; (fail); clear hK K)
    refine Mix.take_exC _ _ 3 rfl (by kernel_rfl) (by kernel_rfl) (by kernel_rfl) (by kernel_rfl) (fun K hK => ?_)
    go_simp
    first | (refine hK _ ?_; clear hK K) | (apply Exists.intro; refine ⟨fun x => ?_, hK _ ?_⟩; (fail); clear hK K)
    refine Mix.take_exC _ _ 4 rfl (by kernel_rfl) (by kernel_rfl) (by kernel_rfl) (by kernel_rfl) (fun K hK => ?_)
    go_simp
    first | (refine hK _ ?_; clear hK K) | (apply Exists.intro; refine ⟨fun x => ?_, hK _ ?_⟩; (fail); clear hK K)
    refine Mix.take_exC _ _ 5 rfl (by kernel_rfl) (by kernel_rfl) (by kernel_rfl) (by kernel_rfl) (fun K hK => ?_)
    go_simp
    first | (refine hK _ ?_; clear hK K) | (apply Exists.intro; refine ⟨fun x => ?_, hK _ ?_⟩; (fail); clear hK K)
    refine Mix.take_exC _ _ 6 rfl (by kernel_rfl) (by kernel_rfl) (by kernel_rfl) (by kernel_rfl) (fun K hK => ?_)
    go_simp
    first | (refine hK _ ?_; clear hK K) | (apply Exists.intro; refine ⟨fun x => ?_, hK _ ?_⟩; (fail); clear hK K)
    refine Mix.take_exC _ _ 7 rfl (by kernel_rfl) (by kernel_rfl) (by kernel_rfl) (by kernel_rfl) (fun K hK => ?_)
    go_simp
    first | (refine hK _ ?_; clear hK K) | (apply Exists.intro; refine ⟨fun x => ?_, hK _ ?_⟩; (fail); clear hK K)
    refine Mix.all (rs := [8]) (by kernel_rfl) (by simp) (.of_below _ hb1) ?_
    intro i2 hi2 w2 hb2 hC2
    simp only [List.mem_cons, List.not_mem_nil, or_false] at hi2
    subst hi2
    have HB2 := Lib.hid (bt hb1 hb2)
    have hk2 := HKK.out.below HB2.out
    have kf0 := hk2.fz 0; have kf1 := hk2.fz 1; have kf2 := hk2.fz 2; have kf3 := hk2.fz 3
    obtain ⟨k0, k1, k2, k3⟩ := hk2.cells
    have kl := hk2.lt
    have HK3 := Lib.hid (hk2.set4 x)
    have HC3 := Lib.hid (pk_chg w2 rb (.int .i64 x.n) (.int .i64 x.d) (.int .i64 x.w) (.int .i64 x.i))
    have HT3 := Lib.hid ((HR.out.below HB2.out).chg HC3.out hk2.nonode)
    clear hC2 hb1 hb2 hk2
    refine Mix.op rfl (by kernel_rfl) ?_
    go_simp
    clear kf0 kf1 kf2 kf3 k0 k1 k2 k3 kl x0 x1 x2 x3 x4 x5 xs nb
    have HC13 := Lib.hid ((Chg.of_below (fun q => q = rb) HB2.out).same HC3.out)
    generalize (((w2.setCell ⟨rb, 0, none⟩ (.int .i64 x.n)).setCell ⟨rb, 1, none⟩ (.int .i64 x.d)).setCell ⟨rb, 2, none⟩ (.int .i64 x.w)).setCell ⟨rb, 3, none⟩ (.int .i64 x.i) = w3 at *
    refine Mix.take_exC _ _ 9 rfl (by kernel_rfl) (by kernel_rfl) (by kernel_rfl) (by kernel_rfl) (fun K hK => ?_)
    go_simp
    first | (refine hK _ ?_; clear hK K) | (apply Exists.intro; refine ⟨fun x => ?_, hK _ ?_⟩; (fail); clear hK K)
    refine Mix.done (by kernel_rfl) HC13.out ?_
    intro w4 hb4
    have HK4 := Lib.hid (HK3.out.below hb4)
    have HT4 := Lib.hid (HT3.out.below hb4)
    have HC14 := Lib.hid (HC13.out.then_below hb4)
    clear hb4
    go_wp2
    refine bodyPost_ret (res_pk Tryz.results129 rfl rfl HK4.out) rfl ?_
    exact ⟨x, _, r, rfl, HT4.out, rfl, HB0.out.trans (HC14.out.below HB0.out.size fun q e => by have e : q = rb := e; have := HRB.out; omega)⟩
  | .nd a y c, x, r, w0, v, h0, hz => by
    obtain ⟨w, hw⟩ : ∃ w, w = w0.alloc (.cells #[.int .i64 0, .int .i64 0, .int .i64 0, .int .i64 0] 103) := ⟨_, rfl⟩
    obtain ⟨rb, hrb⟩ : ∃ b, b = w0.heap.size := ⟨_, rfl⟩
    have hb0 : Below w0.heap.size w0 w := by rw [hw]; exact ba (Below.refl _ _) _
    have hkk : PK w rb ⟨0, 0, 0, 0⟩ := by rw [hw, hrb]; exact PK.made w0 ⟨0, 0, 0, 0⟩
    obtain ⟨b, pl, pr, rfl, hN0, hl0, hr0⟩ := h0.node
    have hN := hN0.below hb0
    have nb : ¬ b = rb := by have := hN0.lt; omega
    have hz1 : sz (.nd a y c) < 100000000 := by simp only [sz] at hz ⊢; omega
    have IH := Lib.hid (cut_t a y c w (.pointer pl) (hl0.below hb0) hz1)
    obtain ⟨bl, _, _, hpl, _, _, _⟩ := hl0.node
    cases hpl
    have HR := Lib.hid (hr0.below hb0)
    have HB0 := Lib.hid hb0; have HKK := Lib.hid hkk; have HRB := Lib.hid hrb; have HN := Lib.hid hN
    have hz2 : sz (.nd a y c) + sz r < 100000000 := by simp only [sz] at hz ⊢; omega
    obtain ⟨x0, x1, x2, x3, x4, x5⟩ := hN.cells
    have xs := hN.lt
    clear h0 hN0 hN hl0 hr0 hz hz1 hb0 hkk
    go_enter Tryz.func129, Tryz.ntmps129
    go_upto_region 1 with (fail)
    rw [← hw, ← hrb]
    clear hw hrb
    go_wp2_with fail
    refine IH.out.mono ?_
    rintro e w2 ⟨z, p2, t2, rfl, h2, e2, hb2⟩
    have hb3 := ba (Below.refl w2.heap.size w2) (.cells #[.int .i64 z.n, .int .i64 z.d, .int .i64 z.w, .int .i64 z.i] 103)
    have HZ3 := Lib.hid (PK.made w2 z)
    have HW2 := Lib.hid hb2.size
    have HB3 := Lib.hid (bt hb2 hb3)
    have HT3 := Lib.hid (h2.below hb3); have HE2 := Lib.hid e2
    have hz4 : sz t2 + sz r < 500000000 := by
      have h1 := congrArg List.length HE2.out
      rw [List.length_cons, tl_len, tl_len] at h1
      omega
    clear h2 e2 hb2 hb3 x0 x1 x2 x3 x4 x5 xs
    go_upto_region 4 with (fail)
    generalize w2.alloc (.cells #[.int .i64 z.n, .int .i64 z.d, .int .i64 z.w, .int .i64 z.i] 103) = w3 at *
    obtain ⟨zb, hzb⟩ : ∃ b, b = w2.heap.size := ⟨_, rfl⟩
    rw [← hzb] at HZ3 ⊢
    have nz : ¬ zb = rb := by
      intro e
      have h1 := HB3.out.size; have h2 := HKK.out.lt
      have h3 : PK w3 rb ⟨0, 0, 0, 0⟩ := HKK.out.below HB3.out
      have h4 : w.heap.size ≤ w2.heap.size := HW2.out
      omega
    clear hzb
    obtain ⟨x0, x1, x2, x3, x4, x5⟩ := (HN.out.below HB3.out).cells
    have xs := (HN.out.below HB3.out).lt
    obtain ⟨z0, z1, z2, z3⟩ := HZ3.out.cells
    have zs := HZ3.out.lt
    refine Mix.regionC (fun q => q = rb) (by kernel_rfl) ?_
    intro w4 hb4
    refine Mix.take_exC _ _ 0 rfl (by kernel_rfl) (by kernel_rfl) (by kernel_rfl) (by kernel_rfl) (fun K hK => ?_)
    go_simp
    first | (refine hK _ ?_; clear hK K) | (apply Exists.intro; refine ⟨fun x => ?_, hK _ ?_⟩; (fail); clear hK K)
    refine Mix.take_exC _ _ 1 rfl (by kernel_rfl) (by kernel_rfl) (by kernel_rfl) (by kernel_rfl) (fun K hK => ?_)
    go_simp
    first | (refine hK _ ?_; clear hK K) | (apply Exists.intro; refine ⟨fun x => ?_, hK _ ?_⟩; (fail); clear hK K)
    refine Mix.take_exC _ _ 2 rfl (by kernel_rfl) (by kernel_rfl) (by kernel_rfl) (by kernel_rfl) (fun K hK => ?_)
    go_simp
    first | (refine hK _ ?_; clear hK K) | (apply Exists.intro; refine ⟨fun x => ?_, hK _ ?_⟩; (fail); clear hK K)
    refine Mix.take_exC _ _ 3 rfl (by kernel_rfl) (by kernel_rfl) (by kernel_rfl) (by kernel_rfl) (fun K hK => ?_)
    go_simp
    first | (refine hK _ ?_; clear hK K) | (apply Exists.intro; refine ⟨fun x => ?_, hK _ ?_⟩; (fail); clear hK K)
    refine Mix.take_exC _ _ 4 rfl (by kernel_rfl) (by kernel_rfl) (by kernel_rfl) (by kernel_rfl) (fun K hK => ?_)
    go_simp
    first | (refine hK _ ?_; clear hK K) | (apply Exists.intro; refine ⟨fun x => ?_, hK _ ?_⟩; (fail); clear hK K)
    refine Mix.take_exC _ _ 5 rfl (by kernel_rfl) (by kernel_rfl) (by kernel_rfl) (by kernel_rfl) (fun K hK => ?_)
    go_simp
    first | (refine hK _ ?_; clear hK K) | (apply Exists.intro; refine ⟨fun x => ?_, hK _ ?_⟩; (fail); clear hK K)
    refine Mix.take_exC _ _ 6 rfl (by kernel_rfl) (by kernel_rfl) (by kernel_rfl) (by kernel_rfl) (fun K hK => ?_)
    go_simp
    first | (refine hK _ ?_; clear hK K) | (apply Exists.intro; refine ⟨fun x => ?_, hK _ ?_⟩; (fail); clear hK K)
    refine Mix.take_exC _ _ 7 rfl (by kernel_rfl) (by kernel_rfl) (by kernel_rfl) (by kernel_rfl) (fun K hK => ?_)
    go_simp
    first | (refine hK _ ?_; clear hK K) | (apply Exists.intro; refine ⟨fun x => ?_, hK _ ?_⟩; (fail); clear hK K)
    refine Mix.take_exC _ _ 8 rfl (by kernel_rfl) (by kernel_rfl) (by kernel_rfl) (by kernel_rfl) (fun K hK => ?_)
    go_simp
    first | (refine hK _ ?_; clear hK K) | (apply Exists.intro; refine ⟨fun x => ?_, hK _ ?_⟩; (fail); clear hK K)
    refine Mix.take_exC _ _ 9 rfl (by kernel_rfl) (by kernel_rfl) (by kernel_rfl) (by kernel_rfl) (fun K hK => ?_)
    go_simp
    first | (refine hK _ ?_; clear hK K) | (apply Exists.intro; refine ⟨fun x => ?_, hK _ ?_⟩; (fail); clear hK K)
    refine Mix.all (rs := [10]) (by kernel_rfl) (by simp) (.of_below _ hb4) ?_
    intro i5 hi5 w5 hb5 hC5
    simp only [List.mem_cons, List.not_mem_nil, or_false] at hi5
    subst hi5
    have HB5 := Lib.hid (bt hb4 hb5)
    have HX5 := Lib.hid (bt HB3.out HB5.out)
    clear hC5 hb4 hb5
    refine Mix.op rfl (by kernel_rfl) ?_
    go_simp
    refine (balance_t (HT3.out.below HB5.out) (HR.out.below HX5.out) x hz4).mono ?_
    rintro e w6 ⟨v6, t6, rfl, h6, e6, hb6⟩
    refine ⟨_, rfl, ?_⟩
    obtain ⟨p6, rfl⟩ := h6.ptr
    have HT6 := Lib.hid h6; have HE6 := Lib.hid e6
    have HB6 := Lib.hid (bt HB5.out hb6)
    clear h6 e6 hb6
    refine Mix.all (rs := [11]) (by kernel_rfl) (by simp) (.of_below _ HB6.out) ?_
    intro i7 hi7 w7 hb7 hC7
    simp only [List.mem_cons, List.not_mem_nil, or_false] at hi7
    subst hi7
    have HB7 := Lib.hid (bt HB6.out hb7)
    have hk7 := HKK.out.below (bt HB3.out HB7.out)
    have kf0 := hk7.fz 0; have kf1 := hk7.fz 1; have kf2 := hk7.fz 2; have kf3 := hk7.fz 3
    obtain ⟨k0, k1, k2, k3⟩ := hk7.cells
    have kl := hk7.lt
    have HK8 := Lib.hid (hk7.set4 z)
    have HC8 := Lib.hid (pk_chg w7 rb (.int .i64 z.n) (.int .i64 z.d) (.int .i64 z.w) (.int .i64 z.i))
    have HT8 := Lib.hid ((HT6.out.below hb7).chg HC8.out hk7.nonode)
    clear hC7 hb7 hk7
    refine Mix.op rfl (by kernel_rfl) ?_
    go_simp
    clear kf0 kf1 kf2 kf3 k0 k1 k2 k3 kl x0 x1 x2 x3 x4 x5 xs nb z0 z1 z2 z3 zs nz
    have HC18 := Lib.hid ((Chg.of_below (fun q => q = rb) HB7.out).same HC8.out)
    generalize (((w7.setCell ⟨rb, 0, none⟩ (.int .i64 z.n)).setCell ⟨rb, 1, none⟩ (.int .i64 z.d)).setCell ⟨rb, 2, none⟩ (.int .i64 z.w)).setCell ⟨rb, 3, none⟩ (.int .i64 z.i) = w8 at *
    refine Mix.take_exC _ _ 12 rfl (by kernel_rfl) (by kernel_rfl) (by kernel_rfl) (by kernel_rfl) (fun K hK => ?_)
    go_simp
    first | (refine hK _ ?_; clear hK K) | (apply Exists.intro; refine ⟨fun x => ?_, hK _ ?_⟩; (fail); clear hK K)
    refine Mix.done (by kernel_rfl) HC18.out ?_
    intro w9 hb9
    have HK9 := Lib.hid (HK8.out.below hb9)
    have HT9 := Lib.hid (HT8.out.below hb9)
    have HC19 := Lib.hid (HC18.out.then_below hb9)
    clear hb9
    go_wp2
    refine bodyPost_ret (res_pk Tryz.results129 rfl rfl HK9.out) rfl ?_
    have hb03 := bt HB0.out HB3.out
    refine ⟨z, _, t6, rfl, HT9.out, ?_, hb03.trans (HC19.out.below hb03.size fun q e => by have e : q = rb := e; have := HRB.out; omega)⟩
    show tl (.nd a y c) ++ x :: tl r = _
    rw [HE2.out, HE6.out]; rfl
section
variable {tp fn : Nat} {caps : Array Value} {C : World → Prop} {J : Pl → Prop} {o : Pl → Pl → Int}
-- the key k has been laid in a variable: the world w, its block kb
-- the call of itself on one side: IH, the side HS, its pointer
set_option maxRecDepth 100000 in
set_option maxHeartbeats 4000000 in
theorem drop_t (hO : OV tp fn caps C J o) {k : Pl} (hk : J k) : ∀ (t : Tr) (w0 : World) (v rv : Value), Tn w0 v t → TO w0 tp fn caps rv → C w0 → SL J o (tl t) → sz t < 100000000 →
    Calls Tryz.prog 121 #[tptr tp, v, plv k] w0 (RetP (fun t' => tl t' = delL k (tl t)) (hasL k (tl t)) w0)
  | .lf, w0, v, rv, h0, hT0, hC0, hS, hz => by
    obtain rfl := h0.lf_
    have HB0 := Lib.hid (ba (Below.refl w0.heap.size w0) (.cells #[.int .i64 k.n, .int .i64 k.d, .int .i64 k.w, .int .i64 k.i] 103))
    clear h0 hT0 hC0 hS hz hO
    go_enter Tryz.func121, Tryz.ntmps121
    go_wp2
    go_ret2
    exact ⟨none, .lf, rfl, rfl, rfl, HB0.out⟩
  | .nd l x r, w0, v, rv, h0, hT0, hC0, hS, hz => by
    obtain ⟨w, hw⟩ : ∃ w, w = w0.alloc (.cells #[.int .i64 k.n, .int .i64 k.d, .int .i64 k.w, .int .i64 k.i] 103) := ⟨_, rfl⟩
    obtain ⟨kb, hkb⟩ : ∃ b, b = w0.heap.size := ⟨_, rfl⟩
    have hb0 : Below w0.heap.size w0 w := by rw [hw]; exact ba (Below.refl _ _) _
    have hkk : PK w kb k := by rw [hw, hkb]; exact PK.made w0 k
    have h := h0.below hb0; have hT := hT0.below hb0; have hC := hO.on hC0 hb0
    have HB0 := Lib.hid hb0; have HKK := Lib.hid hkk
    clear h0 hT0 hC0 hb0 hkk
    obtain ⟨b, pl, pr, rfl, hN, hl, hr⟩ := h.node
    have hxJ := hS.mid.1
    have HK := Lib.hid hk; have HX := Lib.hid hxJ
    have HS := Lib.hid (show SL J o (tl l ++ x :: tl r) from hS)
    have hz1 : sz l < 100000000 := by simp only [sz] at hz; omega
    have hz2 : sz r < 100000000 := by simp only [sz] at hz; omega
    have hz3 : sz l + sz r < 100000000 := by simp only [sz] at hz; omega
    have hO' := Lib.hid hO.ord
    have IHL := Lib.hid (fun w' rv' a b c => drop_t hO hk l w' (.pointer pl) rv' a b c (show SL J o (tl l ++ x :: tl r) from hS).left hz1)
    have IHR := Lib.hid (fun w' rv' a b c => drop_t hO hk r w' (.pointer pr) rv' a b c (show SL J o (tl l ++ x :: tl r) from hS).right.tail hz2)
    clear h hk hxJ hS hz
    by_cases hlt : o k x < 0
    · have HE := Lib.hid (show delL k (tl (.nd l x r)) = delL k (tl l) ++ x :: tl r from delL_lt hO'.out HS.out HK.out hlt)
      have HQ := Lib.hid (show hasL k (tl (.nd l x r)) = hasL k (tl l) by unfold hasL; exact decide_eq_decide.2 (mem_lt hO'.out HS.out HK.out hlt))
      obtain ⟨q, hq⟩ : ∃ q, hasL k (tl l) = q := ⟨_, rfl⟩
      rw [hq] at IHL HQ
      clear hq
      rw [HQ.out]
      have HN := Lib.hid hN; have HL := Lib.hid hl; have HR := Lib.hid hr
      have HT := Lib.hid hT; have HC := Lib.hid hC; have HO := Lib.hid hO
      have HCM := Lib.hid (compare_c hO hT hC HK.out HX.out)
      have HBR := Lib.hid (Below.refl w.heap.size w)
      clear hN hl hr hT hC hO
      go_enter Tryz.func121, Tryz.ntmps121
      go_upto_region 1 with (fail)
      rw [← hw, ← hkb]
      clear hw hkb
      obtain ⟨x0, x1, x2, x3, x4, x5⟩ := HN.out.cells
      have xs := HN.out.lt
      obtain ⟨k0, k1, k2, k3⟩ := (HKK.out.below HBR.out).cells
      have ks := (HKK.out.below HBR.out).lt
      have nf : ∀ q, ¬ (fun _ : Nat => False) q := fun _ h => h
      go_wp2_with fail
      refine Mix.regionC (fun _ => False) (by kernel_rfl) ?_
      intro w9 hb9
      refine Mix.take_exC _ _ 0 rfl (by kernel_rfl) (by kernel_rfl) (by kernel_rfl) (by kernel_rfl) (fun K hK => ?_)
      go_simp
      first | (refine hK _ ?_; clear hK K) | (apply Exists.intro; refine ⟨fun x => ?_, hK _ ?_⟩; (fail); clear hK K)
      refine Mix.take_exC _ _ 1 rfl (by kernel_rfl) (by kernel_rfl) (by kernel_rfl) (by kernel_rfl) (fun K hK => ?_)
      go_simp
      first | (refine hK _ ?_; clear hK K) | (apply Exists.intro; refine ⟨fun x => ?_, hK _ ?_⟩; (fail); clear hK K)
      refine Mix.take_exC _ _ 2 rfl (by kernel_rfl) (by kernel_rfl) (by kernel_rfl) (by kernel_rfl) (fun K hK => ?_)
      go_simp
      first | (refine hK _ ?_; clear hK K) | (apply Exists.intro; refine ⟨fun x => ?_, hK _ ?_⟩; (fail); clear hK K)
      refine Mix.take_exC _ _ 3 rfl (by kernel_rfl) (by kernel_rfl) (by kernel_rfl) (by kernel_rfl) (fun K hK => ?_)
      go_simp
      first | (refine hK _ ?_; clear hK K) | (apply Exists.intro; refine ⟨fun x => ?_, hK _ ?_⟩; (fail); clear hK K)
      refine Mix.take_exC _ _ 4 rfl (by kernel_rfl) (by kernel_rfl) (by kernel_rfl) (by kernel_rfl) (fun K hK => ?_)
      go_simp
      first | (refine hK _ ?_; clear hK K) | (apply Exists.intro; refine ⟨fun x => ?_, hK _ ?_⟩; (fail); clear hK K)
      refine Mix.take_exC _ _ 5 rfl (by kernel_rfl) (by kernel_rfl) (by kernel_rfl) (by kernel_rfl) (fun K hK => ?_)
      go_simp
      first | (refine hK _ ?_; clear hK K) | (apply Exists.intro; refine ⟨fun x => ?_, hK _ ?_⟩; (fail); clear hK K)
      refine Mix.take_exC _ _ 6 rfl (by kernel_rfl) (by kernel_rfl) (by kernel_rfl) (by kernel_rfl) (fun K hK => ?_)
      go_simp
      first | (refine hK _ ?_; clear hK K) | (apply Exists.intro; refine ⟨fun x => ?_, hK _ ?_⟩; (exact HCM.out x); clear hK K)
      refine Mix.take_exC _ _ 7 rfl (by kernel_rfl) (by kernel_rfl) (by kernel_rfl) (by kernel_rfl) (fun K hK => ?_)
      go_simp
      first | (refine hK _ ?_; clear hK K) | (apply Exists.intro; refine ⟨fun x => ?_, hK _ ?_⟩; (fail); clear hK K)
      refine Mix.done (by kernel_rfl) (.of_below _ hb9) ?_
      intro w1 hb1
      have HB1 := Lib.hid (bt hb9 hb1)
      have HN1 := Lib.hid (HN.out.below HB1.out)
      clear hb1 hb9
      clear x0 x1 x2 x3 x4 x5 xs k0 k1 k2 k3 ks
      obtain ⟨x0, x1, x2, x3, x4, x5⟩ := HN1.out.cells
      have xs := HN1.out.lt
      obtain ⟨k0, k1, k2, k3⟩ := (HKK.out.below HB1.out).cells
      have ks := (HKK.out.below HB1.out).lt
      go_wp2_with fail
      refine Mix.regionC (fun _ => False) (by kernel_rfl) ?_
      intro w9 hb9
      refine Mix.take_exC _ _ 0 rfl (by kernel_rfl) (by kernel_rfl) (by kernel_rfl) (by kernel_rfl) (fun K hK => ?_)
      go_simp
      first | (refine hK _ ?_; clear hK K) | (apply Exists.intro; refine ⟨fun x => ?_, hK _ ?_⟩; (fail); clear hK K)
      refine Mix.take_exC _ _ 1 rfl (by kernel_rfl) (by kernel_rfl) (by kernel_rfl) (by kernel_rfl) (fun K hK => ?_)
      go_simp
      first | (refine hK _ ?_; clear hK K) | (apply Exists.intro; refine ⟨fun x => ?_, hK _ ?_⟩; (fail); clear hK K)
      refine Mix.take_exC _ _ 2 rfl (by kernel_rfl) (by kernel_rfl) (by kernel_rfl) (by kernel_rfl) (fun K hK => ?_)
      go_simp
      first | (refine hK _ ?_; clear hK K) | (apply Exists.intro; refine ⟨fun x => ?_, hK _ ?_⟩; (fail); clear hK K)
      refine Mix.take_exC _ _ 3 rfl (by kernel_rfl) (by kernel_rfl) (by kernel_rfl) (by kernel_rfl) (fun K hK => ?_)
      go_simp
      first | (refine hK _ ?_; clear hK K) | (apply Exists.intro; refine ⟨fun x => ?_, hK _ ?_⟩; (fail); clear hK K)
      refine Mix.take_exC _ _ 4 rfl (by kernel_rfl) (by kernel_rfl) (by kernel_rfl) (by kernel_rfl) (fun K hK => ?_)
      go_simp
      first | (refine hK _ ?_; clear hK K) | (apply Exists.intro; refine ⟨fun x => ?_, hK _ ?_⟩; (fail); clear hK K)
      refine Mix.take_exC _ _ 5 rfl (by kernel_rfl) (by kernel_rfl) (by kernel_rfl) (by kernel_rfl) (fun K hK => ?_)
      go_simp
      first | (refine hK _ ?_; clear hK K) | (apply Exists.intro; refine ⟨fun x => ?_, hK _ ?_⟩; (fail); clear hK K)
      refine Mix.all (rs := [6]) (by kernel_rfl) (by simp) (.of_below _ hb9) ?_
      intro i8 hi8 w8 hb8 hC8
      simp only [List.mem_cons, List.not_mem_nil, or_false] at hi8
      subst hi8
      have HB8 := Lib.hid (bt HB1.out (bt hb9 hb8))
      have HB18 := Lib.hid (bt hb9 hb8)
      clear hC8 hb8 hb9
      refine Mix.op rfl (by kernel_rfl) ?_
      go_simp
      refine (IHL.out w8 rv (HL.out.below HB8.out) (HT.out.below HB8.out) (HO.out.on HC.out HB8.out)).mono ?_
      rintro e w7 ⟨p2, t2, rfl, h7, e2, hb7⟩
      refine ⟨_, rfl, ?_⟩
      have HB7 := Lib.hid (bt HB8.out hb7)
      have HB17 := Lib.hid (bt HB18.out hb7)
      have HT7 := Lib.hid h7; have HE2 := Lib.hid e2
      clear h7 e2 hb7
      refine Mix.take_exC _ _ 7 rfl (by kernel_rfl) (by kernel_rfl) (by kernel_rfl) (by kernel_rfl) (fun K hK => ?_)
      go_simp
      first | (refine hK _ ?_; clear hK K) | (apply Exists.intro; refine ⟨fun x => ?_, hK _ ?_⟩; (fail); clear hK K)
      refine Mix.take_exC _ _ 8 rfl (by kernel_rfl) (by kernel_rfl) (by kernel_rfl) (by kernel_rfl) (fun K hK => ?_)
      go_simp
      first | (refine hK _ ?_; clear hK K) | (apply Exists.intro; refine ⟨fun x => ?_, hK _ ?_⟩; (fail); clear hK K)
      refine Mix.take_exC _ _ 9 rfl (by kernel_rfl) (by kernel_rfl) (by kernel_rfl) (by kernel_rfl) (fun K hK => ?_)
      go_simp
      first | (refine hK _ ?_; clear hK K) | (apply Exists.intro; refine ⟨fun x => ?_, hK _ ?_⟩; (fail); clear hK K)
      refine Mix.take_exC _ _ 10 rfl (by kernel_rfl) (by kernel_rfl) (by kernel_rfl) (by kernel_rfl) (fun K hK => ?_)
      go_simp
      first | (refine hK _ ?_; clear hK K) | (apply Exists.intro; refine ⟨fun x => ?_, hK _ ?_⟩; (fail); clear hK K)
      refine Mix.take_exC _ _ 11 rfl (by kernel_rfl) (by kernel_rfl) (by kernel_rfl) (by kernel_rfl) (fun K hK => ?_)
      go_simp
      first | (refine hK _ ?_; clear hK K) | (apply Exists.intro; refine ⟨fun x => ?_, hK _ ?_⟩; (fail); clear hK K)
      refine Mix.done (by kernel_rfl) (.of_below _ HB17.out) ?_
      intro w2 hb2
      have HB2 := Lib.hid (bt HB7.out hb2)
      have HT2 := Lib.hid (HT7.out.below hb2)
      have HN2 := Lib.hid (HN.out.below HB2.out)
      clear hb2
      clear x0 x1 x2 x3 x4 x5 xs k0 k1 k2 k3 ks
      obtain ⟨x0, x1, x2, x3, x4, x5⟩ := HN2.out.cells
      have xs := HN2.out.lt
      obtain ⟨k0, k1, k2, k3⟩ := (HKK.out.below HB2.out).cells
      have ks := (HKK.out.below HB2.out).lt
      have hz4 : sz t2 + sz r < 500000000 := by have := sz_del HE2.out; omega
      go_wp2
      refine Mix.regionC (fun _ => False) (by kernel_rfl) ?_
      intro w3 hb3
      refine Mix.take_exC _ _ 0 rfl (by kernel_rfl) (by kernel_rfl) (by kernel_rfl) (by kernel_rfl) (fun K hK => ?_)
      go_simp
      first | (refine hK _ ?_; clear hK K) | (apply Exists.intro; refine ⟨fun x => ?_, hK _ ?_⟩; (fail); clear hK K)
      refine Mix.take_exC _ _ 1 rfl (by kernel_rfl) (by kernel_rfl) (by kernel_rfl) (by kernel_rfl) (fun K hK => ?_)
      go_simp
      first | (refine hK _ ?_; clear hK K) | (apply Exists.intro; refine ⟨fun x => ?_, hK _ ?_⟩; (fail); clear hK K)
      refine Mix.take_exC _ _ 2 rfl (by kernel_rfl) (by kernel_rfl) (by kernel_rfl) (by kernel_rfl) (fun K hK => ?_)
      go_simp
      first | (refine hK _ ?_; clear hK K) | (apply Exists.intro; refine ⟨fun x => ?_, hK _ ?_⟩; (fail); clear hK K)
      refine Mix.take_exC _ _ 3 rfl (by kernel_rfl) (by kernel_rfl) (by kernel_rfl) (by kernel_rfl) (fun K hK => ?_)
      go_simp
      first | (refine hK _ ?_; clear hK K) | (apply Exists.intro; refine ⟨fun x => ?_, hK _ ?_⟩; (fail); clear hK K)
      refine Mix.take_exC _ _ 4 rfl (by kernel_rfl) (by kernel_rfl) (by kernel_rfl) (by kernel_rfl) (fun K hK => ?_)
      go_simp
      first | (refine hK _ ?_; clear hK K) | (apply Exists.intro; refine ⟨fun x => ?_, hK _ ?_⟩; (fail); clear hK K)
      refine Mix.take_exC _ _ 5 rfl (by kernel_rfl) (by kernel_rfl) (by kernel_rfl) (by kernel_rfl) (fun K hK => ?_)
      go_simp
      first | (refine hK _ ?_; clear hK K) | (apply Exists.intro; refine ⟨fun x => ?_, hK _ ?_⟩; (fail); clear hK K)
      refine Mix.take_exC _ _ 6 rfl (by kernel_rfl) (by kernel_rfl) (by kernel_rfl) (by kernel_rfl) (fun K hK => ?_)
      go_simp
      first | (refine hK _ ?_; clear hK K) | (apply Exists.intro; refine ⟨fun x => ?_, hK _ ?_⟩; (fail); clear hK K)
      refine Mix.take_exC _ _ 7 rfl (by kernel_rfl) (by kernel_rfl) (by kernel_rfl) (by kernel_rfl) (fun K hK => ?_)
      go_simp
      first | (refine hK _ ?_; clear hK K) | (apply Exists.intro; refine ⟨fun x => ?_, hK _ ?_⟩; (fail); clear hK K)
      refine Mix.take_exC _ _ 8 rfl (by kernel_rfl) (by kernel_rfl) (by kernel_rfl) (by kernel_rfl) (fun K hK => ?_)
      go_simp
      first | (refine hK _ ?_; clear hK K) | (apply Exists.intro; refine ⟨fun x => ?_, hK _ ?_⟩; (fail); clear hK K)
      refine Mix.take_exC _ _ 10 rfl (by kernel_rfl) (by kernel_rfl) (by kernel_rfl) (by kernel_rfl) (fun K hK => ?_)
      go_simp
      first | (refine hK _ ?_; clear hK K) | (apply Exists.intro; refine ⟨fun x => ?_, hK _ ?_⟩; (fail); clear hK K)
      refine Mix.all (rs := [9]) (by kernel_rfl) (by simp) (.of_below _ hb3) ?_
      intro i4 hi4 w4 hb4 hC4
      simp only [List.mem_cons, List.not_mem_nil, or_false] at hi4
      subst hi4
      have HB4 := Lib.hid (bt hb3 hb4)
      have HX4 := Lib.hid (bt HB2.out HB4.out)
      clear hC4 hb3 hb4
      refine Mix.op rfl (by kernel_rfl) ?_
      go_simp
      refine (balance_t (HT2.out.below HB4.out) (HR.out.below HX4.out) x hz4).mono ?_
      rintro e w5 ⟨v5, t5, rfl, h5, e5, hb5⟩
      refine ⟨_, rfl, ?_⟩
      obtain ⟨p5, rfl⟩ := h5.ptr
      have HT5 := Lib.hid h5; have HE5 := Lib.hid e5
      have HB5 := Lib.hid (bt HB4.out hb5)
      clear h5 e5 hb5
      refine Mix.take_exC _ _ 11 rfl (by kernel_rfl) (by kernel_rfl) (by kernel_rfl) (by kernel_rfl) (fun K hK => ?_)
      go_simp
      first | (refine hK _ ?_; clear hK K) | (apply Exists.intro; refine ⟨fun x => ?_, hK _ ?_⟩; (fail); clear hK K)
      refine Mix.take_exC _ _ 12 rfl (by kernel_rfl) (by kernel_rfl) (by kernel_rfl) (by kernel_rfl) (fun K hK => ?_)
      go_simp
      first | (refine hK _ ?_; clear hK K) | (apply Exists.intro; refine ⟨fun x => ?_, hK _ ?_⟩; (fail); clear hK K)
      refine Mix.done (by kernel_rfl) (.of_below _ HB5.out) ?_
      intro w6 hb6
      have HT6 := Lib.hid (HT5.out.below hb6)
      have HX6 := Lib.hid (bt HB2.out (bt HB5.out hb6))
      clear hb6 nf
      clear x0 x1 x2 x3 x4 x5 xs k0 k1 k2 k3 ks
      go_wp2
      go_ret2
      exact ⟨_, _, rfl, HT6.out, by show tl t5 = _; rw [HE5.out, HE2.out, HE.out], bt HB0.out HX6.out⟩
    · by_cases hgt : 0 < o k x
      · have HE := Lib.hid (show delL k (tl (.nd l x r)) = tl l ++ x :: delL k (tl r) from delL_gt hO'.out HS.out HK.out hgt)
        have HQ := Lib.hid (show hasL k (tl (.nd l x r)) = hasL k (tl r) by unfold hasL; exact decide_eq_decide.2 (mem_gt hO'.out HS.out HK.out hgt))
        obtain ⟨q, hq⟩ : ∃ q, hasL k (tl r) = q := ⟨_, rfl⟩
        rw [hq] at IHR HQ
        clear hq
        rw [HQ.out]
        have HN := Lib.hid hN; have HL := Lib.hid hl; have HR := Lib.hid hr
        have HT := Lib.hid hT; have HC := Lib.hid hC; have HO := Lib.hid hO
        have HCM := Lib.hid (compare_c hO hT hC HK.out HX.out)
        have HBR := Lib.hid (Below.refl w.heap.size w)
        clear hN hl hr hT hC hO
        go_enter Tryz.func121, Tryz.ntmps121
        go_upto_region 1 with (fail)
        rw [← hw, ← hkb]
        clear hw hkb
        obtain ⟨x0, x1, x2, x3, x4, x5⟩ := HN.out.cells
        have xs := HN.out.lt
        obtain ⟨k0, k1, k2, k3⟩ := (HKK.out.below HBR.out).cells
        have ks := (HKK.out.below HBR.out).lt
        have nf : ∀ q, ¬ (fun _ : Nat => False) q := fun _ h => h
        go_wp2_with fail
        refine Mix.regionC (fun _ => False) (by kernel_rfl) ?_
        intro w9 hb9
        refine Mix.take_exC _ _ 0 rfl (by kernel_rfl) (by kernel_rfl) (by kernel_rfl) (by kernel_rfl) (fun K hK => ?_)
        go_simp
        first | (refine hK _ ?_; clear hK K) | (apply Exists.intro; refine ⟨fun x => ?_, hK _ ?_⟩; (fail); clear hK K)
        refine Mix.take_exC _ _ 1 rfl (by kernel_rfl) (by kernel_rfl) (by kernel_rfl) (by kernel_rfl) (fun K hK => ?_)
        go_simp
        first | (refine hK _ ?_; clear hK K) | (apply Exists.intro; refine ⟨fun x => ?_, hK _ ?_⟩; (fail); clear hK K)
        refine Mix.take_exC _ _ 2 rfl (by kernel_rfl) (by kernel_rfl) (by kernel_rfl) (by kernel_rfl) (fun K hK => ?_)
        go_simp
        first | (refine hK _ ?_; clear hK K) | (apply Exists.intro; refine ⟨fun x => ?_, hK _ ?_⟩; (fail); clear hK K)
        refine Mix.take_exC _ _ 3 rfl (by kernel_rfl) (by kernel_rfl) (by kernel_rfl) (by kernel_rfl) (fun K hK => ?_)
        go_simp
        first | (refine hK _ ?_; clear hK K) | (apply Exists.intro; refine ⟨fun x => ?_, hK _ ?_⟩; (fail); clear hK K)
        refine Mix.take_exC _ _ 4 rfl (by kernel_rfl) (by kernel_rfl) (by kernel_rfl) (by kernel_rfl) (fun K hK => ?_)
        go_simp
        first | (refine hK _ ?_; clear hK K) | (apply Exists.intro; refine ⟨fun x => ?_, hK _ ?_⟩; (fail); clear hK K)
        refine Mix.take_exC _ _ 5 rfl (by kernel_rfl) (by kernel_rfl) (by kernel_rfl) (by kernel_rfl) (fun K hK => ?_)
        go_simp
        first | (refine hK _ ?_; clear hK K) | (apply Exists.intro; refine ⟨fun x => ?_, hK _ ?_⟩; (fail); clear hK K)
        refine Mix.take_exC _ _ 6 rfl (by kernel_rfl) (by kernel_rfl) (by kernel_rfl) (by kernel_rfl) (fun K hK => ?_)
        go_simp
        first | (refine hK _ ?_; clear hK K) | (apply Exists.intro; refine ⟨fun x => ?_, hK _ ?_⟩; (exact HCM.out x); clear hK K)
        refine Mix.take_exC _ _ 7 rfl (by kernel_rfl) (by kernel_rfl) (by kernel_rfl) (by kernel_rfl) (fun K hK => ?_)
        go_simp
        first | (refine hK _ ?_; clear hK K) | (apply Exists.intro; refine ⟨fun x => ?_, hK _ ?_⟩; (fail); clear hK K)
        refine Mix.done (by kernel_rfl) (.of_below _ hb9) ?_
        intro w1 hb1
        have HB1 := Lib.hid (bt hb9 hb1)
        have HN1 := Lib.hid (HN.out.below HB1.out)
        clear hb1 hb9
        clear x0 x1 x2 x3 x4 x5 xs k0 k1 k2 k3 ks
        obtain ⟨x0, x1, x2, x3, x4, x5⟩ := HN1.out.cells
        have xs := HN1.out.lt
        obtain ⟨k0, k1, k2, k3⟩ := (HKK.out.below HB1.out).cells
        have ks := (HKK.out.below HB1.out).lt
        go_wp2_with fail
        refine Mix.regionC (fun _ => False) (by kernel_rfl) ?_
        intro w9 hb9
        refine Mix.take_exC _ _ 0 rfl (by kernel_rfl) (by kernel_rfl) (by kernel_rfl) (by kernel_rfl) (fun K hK => ?_)
        go_simp
        first | (refine hK _ ?_; clear hK K) | (apply Exists.intro; refine ⟨fun x => ?_, hK _ ?_⟩; (fail); clear hK K)
        refine Mix.take_exC _ _ 1 rfl (by kernel_rfl) (by kernel_rfl) (by kernel_rfl) (by kernel_rfl) (fun K hK => ?_)
        go_simp
        first | (refine hK _ ?_; clear hK K) | (apply Exists.intro; refine ⟨fun x => ?_, hK _ ?_⟩; (fail); clear hK K)
        refine Mix.take_exC _ _ 2 rfl (by kernel_rfl) (by kernel_rfl) (by kernel_rfl) (by kernel_rfl) (fun K hK => ?_)
        go_simp
        first | (refine hK _ ?_; clear hK K) | (apply Exists.intro; refine ⟨fun x => ?_, hK _ ?_⟩; (fail); clear hK K)
        refine Mix.take_exC _ _ 3 rfl (by kernel_rfl) (by kernel_rfl) (by kernel_rfl) (by kernel_rfl) (fun K hK => ?_)
        go_simp
        first | (refine hK _ ?_; clear hK K) | (apply Exists.intro; refine ⟨fun x => ?_, hK _ ?_⟩; (fail); clear hK K)
        refine Mix.take_exC _ _ 4 rfl (by kernel_rfl) (by kernel_rfl) (by kernel_rfl) (by kernel_rfl) (fun K hK => ?_)
        go_simp
        first | (refine hK _ ?_; clear hK K) | (apply Exists.intro; refine ⟨fun x => ?_, hK _ ?_⟩; (fail); clear hK K)
        refine Mix.take_exC _ _ 5 rfl (by kernel_rfl) (by kernel_rfl) (by kernel_rfl) (by kernel_rfl) (fun K hK => ?_)
        go_simp
        first | (refine hK _ ?_; clear hK K) | (apply Exists.intro; refine ⟨fun x => ?_, hK _ ?_⟩; (fail); clear hK K)
        refine Mix.all (rs := [6]) (by kernel_rfl) (by simp) (.of_below _ hb9) ?_
        intro i8 hi8 w8 hb8 hC8
        simp only [List.mem_cons, List.not_mem_nil, or_false] at hi8
        subst hi8
        have HB8 := Lib.hid (bt HB1.out (bt hb9 hb8))
        have HB18 := Lib.hid (bt hb9 hb8)
        clear hC8 hb8 hb9
        refine Mix.op rfl (by kernel_rfl) ?_
        go_simp
        refine (IHR.out w8 rv (HR.out.below HB8.out) (HT.out.below HB8.out) (HO.out.on HC.out HB8.out)).mono ?_
        rintro e w7 ⟨p2, t2, rfl, h7, e2, hb7⟩
        refine ⟨_, rfl, ?_⟩
        have HB7 := Lib.hid (bt HB8.out hb7)
        have HB17 := Lib.hid (bt HB18.out hb7)
        have HT7 := Lib.hid h7; have HE2 := Lib.hid e2
        clear h7 e2 hb7
        refine Mix.take_exC _ _ 7 rfl (by kernel_rfl) (by kernel_rfl) (by kernel_rfl) (by kernel_rfl) (fun K hK => ?_)
        go_simp
        first | (refine hK _ ?_; clear hK K) | (apply Exists.intro; refine ⟨fun x => ?_, hK _ ?_⟩; (fail); clear hK K)
        refine Mix.take_exC _ _ 8 rfl (by kernel_rfl) (by kernel_rfl) (by kernel_rfl) (by kernel_rfl) (fun K hK => ?_)
        go_simp
        first | (refine hK _ ?_; clear hK K) | (apply Exists.intro; refine ⟨fun x => ?_, hK _ ?_⟩; (fail); clear hK K)
        refine Mix.take_exC _ _ 9 rfl (by kernel_rfl) (by kernel_rfl) (by kernel_rfl) (by kernel_rfl) (fun K hK => ?_)
        go_simp
        first | (refine hK _ ?_; clear hK K) | (apply Exists.intro; refine ⟨fun x => ?_, hK _ ?_⟩; (fail); clear hK K)
        refine Mix.take_exC _ _ 10 rfl (by kernel_rfl) (by kernel_rfl) (by kernel_rfl) (by kernel_rfl) (fun K hK => ?_)
        go_simp
        first | (refine hK _ ?_; clear hK K) | (apply Exists.intro; refine ⟨fun x => ?_, hK _ ?_⟩; (fail); clear hK K)
        refine Mix.take_exC _ _ 11 rfl (by kernel_rfl) (by kernel_rfl) (by kernel_rfl) (by kernel_rfl) (fun K hK => ?_)
        go_simp
        first | (refine hK _ ?_; clear hK K) | (apply Exists.intro; refine ⟨fun x => ?_, hK _ ?_⟩; (fail); clear hK K)
        refine Mix.done (by kernel_rfl) (.of_below _ HB17.out) ?_
        intro w2 hb2
        have HB2 := Lib.hid (bt HB7.out hb2)
        have HT2 := Lib.hid (HT7.out.below hb2)
        have HN2 := Lib.hid (HN.out.below HB2.out)
        clear hb2
        clear x0 x1 x2 x3 x4 x5 xs k0 k1 k2 k3 ks
        obtain ⟨x0, x1, x2, x3, x4, x5⟩ := HN2.out.cells
        have xs := HN2.out.lt
        obtain ⟨k0, k1, k2, k3⟩ := (HKK.out.below HB2.out).cells
        have ks := (HKK.out.below HB2.out).lt
        have hz4 : sz l + sz t2 < 500000000 := by have := sz_del HE2.out; omega
        go_wp2
        refine Mix.regionC (fun _ => False) (by kernel_rfl) ?_
        intro w3 hb3
        refine Mix.take_exC _ _ 0 rfl (by kernel_rfl) (by kernel_rfl) (by kernel_rfl) (by kernel_rfl) (fun K hK => ?_)
        go_simp
        first | (refine hK _ ?_; clear hK K) | (apply Exists.intro; refine ⟨fun x => ?_, hK _ ?_⟩; (fail); clear hK K)
        refine Mix.take_exC _ _ 1 rfl (by kernel_rfl) (by kernel_rfl) (by kernel_rfl) (by kernel_rfl) (fun K hK => ?_)
        go_simp
        first | (refine hK _ ?_; clear hK K) | (apply Exists.intro; refine ⟨fun x => ?_, hK _ ?_⟩; (fail); clear hK K)
        refine Mix.take_exC _ _ 2 rfl (by kernel_rfl) (by kernel_rfl) (by kernel_rfl) (by kernel_rfl) (fun K hK => ?_)
        go_simp
        first | (refine hK _ ?_; clear hK K) | (apply Exists.intro; refine ⟨fun x => ?_, hK _ ?_⟩; (fail); clear hK K)
        refine Mix.take_exC _ _ 3 rfl (by kernel_rfl) (by kernel_rfl) (by kernel_rfl) (by kernel_rfl) (fun K hK => ?_)
        go_simp
        first | (refine hK _ ?_; clear hK K) | (apply Exists.intro; refine ⟨fun x => ?_, hK _ ?_⟩; (fail); clear hK K)
        refine Mix.take_exC _ _ 4 rfl (by kernel_rfl) (by kernel_rfl) (by kernel_rfl) (by kernel_rfl) (fun K hK => ?_)
        go_simp
        first | (refine hK _ ?_; clear hK K) | (apply Exists.intro; refine ⟨fun x => ?_, hK _ ?_⟩; (fail); clear hK K)
        refine Mix.take_exC _ _ 5 rfl (by kernel_rfl) (by kernel_rfl) (by kernel_rfl) (by kernel_rfl) (fun K hK => ?_)
        go_simp
        first | (refine hK _ ?_; clear hK K) | (apply Exists.intro; refine ⟨fun x => ?_, hK _ ?_⟩; (fail); clear hK K)
        refine Mix.take_exC _ _ 6 rfl (by kernel_rfl) (by kernel_rfl) (by kernel_rfl) (by kernel_rfl) (fun K hK => ?_)
        go_simp
        first | (refine hK _ ?_; clear hK K) | (apply Exists.intro; refine ⟨fun x => ?_, hK _ ?_⟩; (fail); clear hK K)
        refine Mix.take_exC _ _ 7 rfl (by kernel_rfl) (by kernel_rfl) (by kernel_rfl) (by kernel_rfl) (fun K hK => ?_)
        go_simp
        first | (refine hK _ ?_; clear hK K) | (apply Exists.intro; refine ⟨fun x => ?_, hK _ ?_⟩; (fail); clear hK K)
        refine Mix.take_exC _ _ 8 rfl (by kernel_rfl) (by kernel_rfl) (by kernel_rfl) (by kernel_rfl) (fun K hK => ?_)
        go_simp
        first | (refine hK _ ?_; clear hK K) | (apply Exists.intro; refine ⟨fun x => ?_, hK _ ?_⟩; (fail); clear hK K)
        refine Mix.take_exC _ _ 10 rfl (by kernel_rfl) (by kernel_rfl) (by kernel_rfl) (by kernel_rfl) (fun K hK => ?_)
        go_simp
        first | (refine hK _ ?_; clear hK K) | (apply Exists.intro; refine ⟨fun x => ?_, hK _ ?_⟩; (fail); clear hK K)
        refine Mix.all (rs := [9]) (by kernel_rfl) (by simp) (.of_below _ hb3) ?_
        intro i4 hi4 w4 hb4 hC4
        simp only [List.mem_cons, List.not_mem_nil, or_false] at hi4
        subst hi4
        have HB4 := Lib.hid (bt hb3 hb4)
        have HX4 := Lib.hid (bt HB2.out HB4.out)
        clear hC4 hb3 hb4
        refine Mix.op rfl (by kernel_rfl) ?_
        go_simp
        refine (balance_t (HL.out.below HX4.out) (HT2.out.below HB4.out) x hz4).mono ?_
        rintro e w5 ⟨v5, t5, rfl, h5, e5, hb5⟩
        refine ⟨_, rfl, ?_⟩
        obtain ⟨p5, rfl⟩ := h5.ptr
        have HT5 := Lib.hid h5; have HE5 := Lib.hid e5
        have HB5 := Lib.hid (bt HB4.out hb5)
        clear h5 e5 hb5
        refine Mix.take_exC _ _ 11 rfl (by kernel_rfl) (by kernel_rfl) (by kernel_rfl) (by kernel_rfl) (fun K hK => ?_)
        go_simp
        first | (refine hK _ ?_; clear hK K) | (apply Exists.intro; refine ⟨fun x => ?_, hK _ ?_⟩; (fail); clear hK K)
        refine Mix.take_exC _ _ 12 rfl (by kernel_rfl) (by kernel_rfl) (by kernel_rfl) (by kernel_rfl) (fun K hK => ?_)
        go_simp
        first | (refine hK _ ?_; clear hK K) | (apply Exists.intro; refine ⟨fun x => ?_, hK _ ?_⟩; (fail); clear hK K)
        refine Mix.done (by kernel_rfl) (.of_below _ HB5.out) ?_
        intro w6 hb6
        have HT6 := Lib.hid (HT5.out.below hb6)
        have HX6 := Lib.hid (bt HB2.out (bt HB5.out hb6))
        clear hb6 nf
        clear x0 x1 x2 x3 x4 x5 xs k0 k1 k2 k3 ks
        go_wp2
        go_ret2
        exact ⟨_, _, rfl, HT6.out, by show tl t5 = _; rw [HE5.out, HE2.out, HE.out], bt HB0.out HX6.out⟩
      · have hq0 : o k x = 0 := by omega
        have HE := Lib.hid (show delL k (tl (.nd l x r)) = tl l ++ tl r from delL_here hO'.out HS.out HK.out hq0)
        have HQ := Lib.hid (show hasL k (tl (.nd l x r)) = true by unfold hasL; exact decide_eq_true (mem_eq hO'.out HS.out HK.out hq0))
        rw [HQ.out]
        cases r with
        | lf =>
          cases hr.lf_
          have HN := Lib.hid hN; have HL := Lib.hid hl; have HR := Lib.hid hr
          have HT := Lib.hid hT; have HC := Lib.hid hC; have HO := Lib.hid hO
          have HCM := Lib.hid (compare_c hO hT hC HK.out HX.out)
          have HBR := Lib.hid (Below.refl w.heap.size w)
          clear hN hl hr hT hC hO
          go_enter Tryz.func121, Tryz.ntmps121
          go_upto_region 1 with (fail)
          rw [← hw, ← hkb]
          clear hw hkb
          obtain ⟨x0, x1, x2, x3, x4, x5⟩ := HN.out.cells
          have xs := HN.out.lt
          obtain ⟨k0, k1, k2, k3⟩ := (HKK.out.below HBR.out).cells
          have ks := (HKK.out.below HBR.out).lt
          have nf : ∀ q, ¬ (fun _ : Nat => False) q := fun _ h => h
          go_wp2_with fail
          refine Mix.regionC (fun _ => False) (by kernel_rfl) ?_
          intro w9 hb9
          refine Mix.take_exC _ _ 0 rfl (by kernel_rfl) (by kernel_rfl) (by kernel_rfl) (by kernel_rfl) (fun K hK => ?_)
          go_simp
          first | (refine hK _ ?_; clear hK K) | (apply Exists.intro; refine ⟨fun x => ?_, hK _ ?_⟩; (fail); clear hK K)
          refine Mix.take_exC _ _ 1 rfl (by kernel_rfl) (by kernel_rfl) (by kernel_rfl) (by kernel_rfl) (fun K hK => ?_)
          go_simp
          first | (refine hK _ ?_; clear hK K) | (apply Exists.intro; refine ⟨fun x => ?_, hK _ ?_⟩; (fail); clear hK K)
          refine Mix.take_exC _ _ 2 rfl (by kernel_rfl) (by kernel_rfl) (by kernel_rfl) (by kernel_rfl) (fun K hK => ?_)
          go_simp
          first | (refine hK _ ?_; clear hK K) | (apply Exists.intro; refine ⟨fun x => ?_, hK _ ?_⟩; (fail); clear hK K)
          refine Mix.take_exC _ _ 3 rfl (by kernel_rfl) (by kernel_rfl) (by kernel_rfl) (by kernel_rfl) (fun K hK => ?_)
          go_simp
          first | (refine hK _ ?_; clear hK K) | (apply Exists.intro; refine ⟨fun x => ?_, hK _ ?_⟩; (fail); clear hK K)
          refine Mix.take_exC _ _ 4 rfl (by kernel_rfl) (by kernel_rfl) (by kernel_rfl) (by kernel_rfl) (fun K hK => ?_)
          go_simp
          first | (refine hK _ ?_; clear hK K) | (apply Exists.intro; refine ⟨fun x => ?_, hK _ ?_⟩; (fail); clear hK K)
          refine Mix.take_exC _ _ 5 rfl (by kernel_rfl) (by kernel_rfl) (by kernel_rfl) (by kernel_rfl) (fun K hK => ?_)
          go_simp
          first | (refine hK _ ?_; clear hK K) | (apply Exists.intro; refine ⟨fun x => ?_, hK _ ?_⟩; (fail); clear hK K)
          refine Mix.take_exC _ _ 6 rfl (by kernel_rfl) (by kernel_rfl) (by kernel_rfl) (by kernel_rfl) (fun K hK => ?_)
          go_simp
          first | (refine hK _ ?_; clear hK K) | (apply Exists.intro; refine ⟨fun x => ?_, hK _ ?_⟩; (exact HCM.out x); clear hK K)
          refine Mix.take_exC _ _ 7 rfl (by kernel_rfl) (by kernel_rfl) (by kernel_rfl) (by kernel_rfl) (fun K hK => ?_)
          go_simp
          first | (refine hK _ ?_; clear hK K) | (apply Exists.intro; refine ⟨fun x => ?_, hK _ ?_⟩; (fail); clear hK K)
          refine Mix.done (by kernel_rfl) (.of_below _ hb9) ?_
          intro w1 hb1
          have HB1 := Lib.hid (bt hb9 hb1)
          have HN1 := Lib.hid (HN.out.below HB1.out)
          clear hb1 hb9
          clear x0 x1 x2 x3 x4 x5 xs k0 k1 k2 k3 ks
          obtain ⟨x0, x1, x2, x3, x4, x5⟩ := HN1.out.cells
          have xs := HN1.out.lt
          obtain ⟨k0, k1, k2, k3⟩ := (HKK.out.below HB1.out).cells
          have ks := (HKK.out.below HB1.out).lt
          have HT2 := Lib.hid (HL.out.below HB1.out)
          go_wp2
          clear x0 x1 x2 x3 x4 x5 xs k0 k1 k2 k3 ks
          clear hq0 nf
          go_ret2
          exact ⟨_, _, rfl, HT2.out, by show tl l = _; rw [HE.out]; simp [tl], bt HB0.out HB1.out⟩
        | nd ra rx rc =>
          obtain ⟨br, _, _, hpr, _, _, _⟩ := hr.node
          cases hpr
          have HN := Lib.hid hN; have HL := Lib.hid hl; have HR := Lib.hid hr
          have HT := Lib.hid hT; have HC := Lib.hid hC; have HO := Lib.hid hO
          have HCM := Lib.hid (compare_c hO hT hC HK.out HX.out)
          have HBR := Lib.hid (Below.refl w.heap.size w)
          clear hN hl hr hT hC hO
          go_enter Tryz.func121, Tryz.ntmps121
          go_upto_region 1 with (fail)
          rw [← hw, ← hkb]
          clear hw hkb
          obtain ⟨x0, x1, x2, x3, x4, x5⟩ := HN.out.cells
          have xs := HN.out.lt
          obtain ⟨k0, k1, k2, k3⟩ := (HKK.out.below HBR.out).cells
          have ks := (HKK.out.below HBR.out).lt
          have nf : ∀ q, ¬ (fun _ : Nat => False) q := fun _ h => h
          go_wp2_with fail
          refine Mix.regionC (fun _ => False) (by kernel_rfl) ?_
          intro w9 hb9
          refine Mix.take_exC _ _ 0 rfl (by kernel_rfl) (by kernel_rfl) (by kernel_rfl) (by kernel_rfl) (fun K hK => ?_)
          go_simp
          first | (refine hK _ ?_; clear hK K) | (apply Exists.intro; refine ⟨fun x => ?_, hK _ ?_⟩; (fail); clear hK K)
          refine Mix.take_exC _ _ 1 rfl (by kernel_rfl) (by kernel_rfl) (by kernel_rfl) (by kernel_rfl) (fun K hK => ?_)
          go_simp
          first | (refine hK _ ?_; clear hK K) | (apply Exists.intro; refine ⟨fun x => ?_, hK _ ?_⟩; (fail); clear hK K)
          refine Mix.take_exC _ _ 2 rfl (by kernel_rfl) (by kernel_rfl) (by kernel_rfl) (by kernel_rfl) (fun K hK => ?_)
          go_simp
          first | (refine hK _ ?_; clear hK K) | (apply Exists.intro; refine ⟨fun x => ?_, hK _ ?_⟩; (fail); clear hK K)
          refine Mix.take_exC _ _ 3 rfl (by kernel_rfl) (by kernel_rfl) (by kernel_rfl) (by kernel_rfl) (fun K hK => ?_)
          go_simp
          first | (refine hK _ ?_; clear hK K) | (apply Exists.intro; refine ⟨fun x => ?_, hK _ ?_⟩; (fail); clear hK K)
          refine Mix.take_exC _ _ 4 rfl (by kernel_rfl) (by kernel_rfl) (by kernel_rfl) (by kernel_rfl) (fun K hK => ?_)
          go_simp
          first | (refine hK _ ?_; clear hK K) | (apply Exists.intro; refine ⟨fun x => ?_, hK _ ?_⟩; (fail); clear hK K)
          refine Mix.take_exC _ _ 5 rfl (by kernel_rfl) (by kernel_rfl) (by kernel_rfl) (by kernel_rfl) (fun K hK => ?_)
          go_simp
          first | (refine hK _ ?_; clear hK K) | (apply Exists.intro; refine ⟨fun x => ?_, hK _ ?_⟩; (fail); clear hK K)
          refine Mix.take_exC _ _ 6 rfl (by kernel_rfl) (by kernel_rfl) (by kernel_rfl) (by kernel_rfl) (fun K hK => ?_)
          go_simp
          first | (refine hK _ ?_; clear hK K) | (apply Exists.intro; refine ⟨fun x => ?_, hK _ ?_⟩; (exact HCM.out x); clear hK K)
          refine Mix.take_exC _ _ 7 rfl (by kernel_rfl) (by kernel_rfl) (by kernel_rfl) (by kernel_rfl) (fun K hK => ?_)
          go_simp
          first | (refine hK _ ?_; clear hK K) | (apply Exists.intro; refine ⟨fun x => ?_, hK _ ?_⟩; (fail); clear hK K)
          refine Mix.done (by kernel_rfl) (.of_below _ hb9) ?_
          intro w1 hb1
          have HB1 := Lib.hid (bt hb9 hb1)
          have HN1 := Lib.hid (HN.out.below HB1.out)
          clear hb1 hb9
          clear x0 x1 x2 x3 x4 x5 xs k0 k1 k2 k3 ks
          obtain ⟨x0, x1, x2, x3, x4, x5⟩ := HN1.out.cells
          have xs := HN1.out.lt
          obtain ⟨k0, k1, k2, k3⟩ := (HKK.out.below HB1.out).cells
          have ks := (HKK.out.below HB1.out).lt
          go_wp2_with fail
          refine (cut_t ra rx rc w1 _ (HR.out.below HB1.out) hz2).mono ?_
          rintro e w2 ⟨z, p2, t2, rfl, h2, e2, hb2⟩
          have hb3 := ba (Below.refl w2.heap.size w2) (.cells #[.int .i64 z.n, .int .i64 z.d, .int .i64 z.w, .int .i64 z.i] 103)
          have HZ3 := Lib.hid (PK.made w2 z)
          have HB3 := Lib.hid (bt HB1.out (bt hb2 hb3))
          have HN3 := Lib.hid (HN.out.below HB3.out)
          have HT3 := Lib.hid (h2.below hb3); have HE2 := Lib.hid e2
          have hz4 : sz l + sz t2 < 500000000 := by
            have h1 := congrArg List.length HE2.out
            rw [List.length_cons, tl_len, tl_len] at h1
            omega
          clear h2 e2 hb2 hb3
          clear x0 x1 x2 x3 x4 x5 xs k0 k1 k2 k3 ks
          go_upto_region 13 with (fail)
          generalize w2.alloc (.cells #[.int .i64 z.n, .int .i64 z.d, .int .i64 z.w, .int .i64 z.i] 103) = w3 at *
          generalize w2.heap.size = zb at HZ3 ⊢
          obtain ⟨x0, x1, x2, x3, x4, x5⟩ := HN3.out.cells
          have xs := HN3.out.lt
          obtain ⟨z0, z1, z2, z3⟩ := HZ3.out.cells
          have zs := HZ3.out.lt
          refine Mix.regionC (fun _ => False) (by kernel_rfl) ?_
          intro w4 hb4
          refine Mix.take_exC _ _ 0 rfl (by kernel_rfl) (by kernel_rfl) (by kernel_rfl) (by kernel_rfl) (fun K hK => ?_)
          go_simp
          first | (refine hK _ ?_; clear hK K) | (apply Exists.intro; refine ⟨fun x => ?_, hK _ ?_⟩; (fail); clear hK K)
          refine Mix.take_exC _ _ 1 rfl (by kernel_rfl) (by kernel_rfl) (by kernel_rfl) (by kernel_rfl) (fun K hK => ?_)
          go_simp
          first | (refine hK _ ?_; clear hK K) | (apply Exists.intro; refine ⟨fun x => ?_, hK _ ?_⟩; (fail); clear hK K)
          refine Mix.take_exC _ _ 2 rfl (by kernel_rfl) (by kernel_rfl) (by kernel_rfl) (by kernel_rfl) (fun K hK => ?_)
          go_simp
          first | (refine hK _ ?_; clear hK K) | (apply Exists.intro; refine ⟨fun x => ?_, hK _ ?_⟩; (fail); clear hK K)
          refine Mix.take_exC _ _ 3 rfl (by kernel_rfl) (by kernel_rfl) (by kernel_rfl) (by kernel_rfl) (fun K hK => ?_)
          go_simp
          first | (refine hK _ ?_; clear hK K) | (apply Exists.intro; refine ⟨fun x => ?_, hK _ ?_⟩; (fail); clear hK K)
          refine Mix.take_exC _ _ 4 rfl (by kernel_rfl) (by kernel_rfl) (by kernel_rfl) (by kernel_rfl) (fun K hK => ?_)
          go_simp
          first | (refine hK _ ?_; clear hK K) | (apply Exists.intro; refine ⟨fun x => ?_, hK _ ?_⟩; (fail); clear hK K)
          refine Mix.take_exC _ _ 5 rfl (by kernel_rfl) (by kernel_rfl) (by kernel_rfl) (by kernel_rfl) (fun K hK => ?_)
          go_simp
          first | (refine hK _ ?_; clear hK K) | (apply Exists.intro; refine ⟨fun x => ?_, hK _ ?_⟩; (fail); clear hK K)
          refine Mix.all (rs := [6]) (by kernel_rfl) (by simp) (.of_below _ hb4) ?_
          intro i5 hi5 w5 hb5 hC5
          simp only [List.mem_cons, List.not_mem_nil, or_false] at hi5
          subst hi5
          have HB5 := Lib.hid (bt hb4 hb5)
          have HX5 := Lib.hid (bt HB3.out HB5.out)
          clear hC5 hb4 hb5
          refine Mix.op rfl (by kernel_rfl) ?_
          go_simp
          refine (balance_t (HL.out.below HX5.out) (HT3.out.below HB5.out) z hz4).mono ?_
          rintro e w6 ⟨v6, t6, rfl, h6, e6, hb6⟩
          refine ⟨_, rfl, ?_⟩
          obtain ⟨p6, rfl⟩ := h6.ptr
          have HT6 := Lib.hid h6; have HE6 := Lib.hid e6
          have HB6 := Lib.hid (bt HB5.out hb6)
          clear h6 e6 hb6
          refine Mix.take_exC _ _ 7 rfl (by kernel_rfl) (by kernel_rfl) (by kernel_rfl) (by kernel_rfl) (fun K hK => ?_)
          go_simp
          first | (refine hK _ ?_; clear hK K) | (apply Exists.intro; refine ⟨fun x => ?_, hK _ ?_⟩; (fail); clear hK K)
          refine Mix.take_exC _ _ 8 rfl (by kernel_rfl) (by kernel_rfl) (by kernel_rfl) (by kernel_rfl) (fun K hK => ?_)
          go_simp
          first | (refine hK _ ?_; clear hK K) | (apply Exists.intro; refine ⟨fun x => ?_, hK _ ?_⟩; (fail); clear hK K)
          refine Mix.done (by kernel_rfl) (.of_below _ HB6.out) ?_
          intro w7 hb7
          have HT7 := Lib.hid (HT6.out.below hb7)
          have HX7 := Lib.hid (bt HB3.out (bt HB6.out hb7))
          clear hb7 x0 x1 x2 x3 x4 x5 xs z0 z1 z2 z3 zs hq0 nf
          go_wp2
          go_ret2
          exact ⟨_, _, rfl, HT7.out, by show tl t6 = _; rw [HE6.out, HE.out, HE2.out], bt HB0.out HX7.out⟩
end
end
end Go.Proofs.YtgfjmafdfbghnaaGreat

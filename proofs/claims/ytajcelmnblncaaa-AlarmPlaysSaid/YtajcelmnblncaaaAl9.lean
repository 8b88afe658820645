/- alarm: the law's works. -/
import Derived.Test.YtajcelmnblncaaaAl8
namespace Go.Proofs.Ytajcelmnblncaaa
open Go.RowKit Go.Maps
attribute [local go_sem] ext_cell ext_frozen extC_cell extC_frozen Mix.calmUpon Mix.mUpon eqKy
theorem AR.as_ {w w' : World} {ap : Nat} {G : Nat → Prop} {R' : List Rc} {c : Nat} (h : AR w w' ap G R' c) : ∃ G', AS w' ap G' R' c ∧ Chg G w w' ∧ ∀ k, G' k → G k ∨ w.heap.size ≤ k := h
/-- Where works stands. -/
structure WS (W w : World) (ap bx by_ : Nat) (G : Nat → Prop) (R : List Rc) (c : Nat) : Prop where
  as_ : AS w ap G R c
  bel : Below W.heap.size W w
  own : ∀ k, G k → W.heap.size ≤ k
  kx : KB w bx (2, 5, 0)
  ky : KB w by_ (1, 9, 9)
  nx : ¬ G bx
  ny : ¬ G by_
theorem WS.step {W w w' : World} {ap bx by_ : Nat} {G : Nat → Prop} {R R' : List Rc} {c c' : Nat} (h : WS W w ap bx by_ G R c) (hr : AR w w' ap G R' c') : ∃ G', WS W w' ap bx by_ G' R' c' := by
  obtain ⟨G', h1, h2, h3⟩ := hr
  have hlx := h.kx.lt
  have hly := h.ky.lt
  have hs := h.bel.size
  exact ⟨G', h1, h.bel.trans (h2.below hs h.own), fun k hk => by
    rcases h3 k hk with e | e
    · exact h.own k e
    · omega, h.kx.chg h2 h.nx, h.ky.chg h2 h.ny, fun e => by
    rcases h3 _ e with e | e
    · exact h.nx e
    · omega, fun e => by
    rcases h3 _ e with e | e
    · exact h.ny e
    · omega⟩
theorem k64 (a b c : Int) (h1 : J64 a) (h2 : J64 b) (h3 : J64 c) : KOk (a, b, c) := ⟨h1, h2, h3⟩
set_option maxRecDepth 100000 in
set_option maxHeartbeats 4000000 in
theorem works12 (W : World) : Calls Try.prog 50 #[] W fun e w' => e = .returned (.bool true) ∧ Below W.heap.size W w' := by
  have HX := Lib.hid (show KOk (2, 5, 0) from k64 _ _ _ ⟨by decide, by decide⟩ ⟨by decide, by decide⟩ ⟨by decide, by decide⟩)
  have HY := Lib.hid (show KOk (1, 9, 9) from k64 _ _ _ ⟨by decide, by decide⟩ ⟨by decide, by decide⟩ ⟨by decide, by decide⟩)
  have H10 := Lib.hid (show J64 10 from ⟨by decide, by decide⟩)
  go_enter Try.func50, Try.ntmps50
  go_wp2_with fail
  refine (anew W).mono ?_
  rintro e w1 ⟨ap, G1, rfl, h1, hb1, n1⟩
  have H1 := Lib.hid h1; have HB1 := Lib.hid hb1; have HN1 := Lib.hid n1
  have kx := (KB.made w1 (2, 5, 0)).below (ba (Below.refl _ _) (.cells #[.int .i64 1, .int .i64 9, .int .i64 9] 79))
  have ky := KB.made (w1.alloc (.cells #[.int .i64 2, .int .i64 5, .int .i64 0] 79)) (1, 9, 9)
  rw [show (w1.alloc (.cells #[.int .i64 2, .int .i64 5, .int .i64 0] 79)).heap.size = w1.heap.size + 1 by simp] at ky
  have KX := Lib.hid kx; have KY := Lib.hid ky
  have HB2 := Lib.hid (show Below w1.heap.size w1 ((w1.alloc (.cells #[.int .i64 2, .int .i64 5, .int .i64 0] 79)).alloc (.cells #[.int .i64 1, .int .i64 9, .int .i64 9] 79)) from ba (ba (Below.refl _ _) _) _)
  clear h1 hb1 n1 kx ky
  have H2 := Lib.hid (show WS W ((w1.alloc (.cells #[.int .i64 2, .int .i64 5, .int .i64 0] 79)).alloc (.cells #[.int .i64 1, .int .i64 9, .int .i64 9] 79)) ap w1.heap.size (w1.heap.size + 1) G1 [] 0 from ⟨H1.out.below HB2.out, bt HB1.out HB2.out, HN1.out, KX.out, KY.out, fun e => by have := H1.out.lt _ e; omega, fun e => by have := H1.out.lt _ e; omega⟩)
  go_wp2_with fail
  generalize (w1.alloc (.cells #[.int .i64 2, .int .i64 5, .int .i64 0] 79)).alloc (.cells #[.int .i64 1, .int .i64 9, .int .i64 9] 79) = w2 at *
  generalize hbx : w1.heap.size = bx at *
  obtain ⟨by_, hby⟩ : ∃ by_, by_ = bx + 1 := ⟨_, rfl⟩
  rw [← hby] at H2 ⊢
  clear hbx hby HB2 KX KY
  refine (aset H2.out.as_ (by decide) HX.out H10.out).mono ?_
  rintro e w3 ⟨rfl, n1, hr⟩
  obtain ⟨G3, h3⟩ := H2.out.step hr
  have H3 := Lib.hid h3
  rw [show (fK [] (2, 5, 0)).isNone = true from rfl]
  obtain ⟨y0, y1, y2⟩ := h3.ky.cells
  have hy := h3.ky.lt
  clear hr h3
  go_wp2_with fail
  refine (aset H3.out.as_ (by decide) HY.out H10.out).mono ?_
  rintro e w4 ⟨rfl, n2, hr⟩
  obtain ⟨G4, h4⟩ := H3.out.step hr
  have H4 := Lib.hid h4
  rw [show (fK (pR [] ⟨(2, 5, 0), n1, 10⟩) (1, 9, 9)).isNone = true from rfl]
  obtain ⟨x0, x1, x2⟩ := h4.kx.cells
  have hx := h4.kx.lt
  clear hr h4 y0 y1 y2 hy
  go_wp2_with fail
  refine (aset H4.out.as_ (by decide) HX.out H10.out).mono ?_
  rintro e w5 ⟨rfl, n3, hr⟩
  obtain ⟨G5, h5⟩ := H4.out.step hr
  have H5 := Lib.hid h5
  rw [show (fK (pR (pR [] ⟨(2, 5, 0), n1, 10⟩) ⟨(1, 9, 9), n2, 10⟩) (2, 5, 0)).isNone = false from rfl]
  clear hr h5 x0 x1 x2 hx
  have hR : pR (pR (pR [] ⟨(2, 5, 0), n1, 10⟩) ⟨(1, 9, 9), n2, 10⟩) ⟨(2, 5, 0), n3, 10⟩ = [⟨(1, 9, 9), n2, 10⟩, ⟨(2, 5, 0), n3, 10⟩] := rfl
  rw [hR] at H5
  clear hR
  go_wp2_with fail
  refine (adue H5.out.as_ (by show 3 + 2 ≤ 80000; omega) 10).mono ?_
  rintro e w6 ⟨v6, rfl, hrs, hnw, G6, ha, hc, hn, hv⟩
  rw [show (dueR [⟨(1, 9, 9), n2, 10⟩, ⟨(2, 5, 0), n3, 10⟩] 10).map Rc.key = [(1, 9, 9), (2, 5, 0)] from rfl] at hrs
  obtain ⟨G6', h6⟩ := H5.out.step ⟨G6, ha, hc, hn⟩
  rw [show restR [⟨(1, 9, 9), n2, 10⟩, ⟨(2, 5, 0), n3, 10⟩] 10 = [] from rfl] at h6
  have H6 := Lib.hid h6
  obtain ⟨a, n, cp, rfl, hn, hc, hm, hat⟩ := hrs.at_
  obtain rfl : n = 2 := hn
  obtain ⟨b, off, rfl, hb, hc0⟩ := hat 0 _ rfl
  obtain ⟨b', off', he, _, hc1⟩ := hat 1 _ rfl
  injection he with he
  injection he with he1 he2
  subst he1 he2
  have d0 := hc0 0 _ rfl
  have d1 := hc0 1 _ rfl
  have d2 := hc0 2 _ rfl
  have d3 := hc1 0 _ rfl
  have d4 := hc1 1 _ rfl
  have d5 := hc1 2 _ rfl
  simp only [Nat.zero_mul, Nat.add_zero, Nat.one_mul] at d0 d1 d2 d3 d4 d5
  obtain ⟨x0, x1, x2⟩ := h6.kx.cells
  obtain ⟨y0, y1, y2⟩ := h6.ky.cells
  have hx := h6.kx.lt
  have hy := h6.ky.lt
  clear ha hn hv hat hc0 hc1 h6 hrs hnw hc
  go_wp2
  refine Mix.regionC (fun _ => False) (by kernel_rfl) ?_
  intro w7 hb7
  refine Mix.take_exC _ _ 0 rfl (by kernel_rfl) (by kernel_rfl) (by kernel_rfl) (by kernel_rfl) (fun K hK => ?_)
  go_simp
  first | (refine hK _ ?_; clear hK K) | (apply Exists.intro; refine ⟨fun x => ?_, hK _ ?_⟩; (fail); clear hK K)
  refine Mix.take_exC _ _ 1 rfl (by kernel_rfl) (by kernel_rfl) (by kernel_rfl) (by kernel_rfl) (fun K hK => ?_)
  go_simp
  first | (refine hK _ ?_; clear hK K) | (apply Exists.intro; refine ⟨fun x => ?_, hK _ ?_⟩; (fail); clear hK K)
  refine Mix.take_exC _ _ 2 rfl (by kernel_rfl) (by kernel_rfl) (by kernel_rfl) (by kernel_rfl) (fun K hK => ?_)
  go_simp
  first | (refine hK _ ?_; clear hK K) | (apply Exists.intro; refine ⟨fun x => ?_, hK _ ?_⟩; (fail); clear hK K)
  refine Mix.take_exC _ _ 3 rfl (by kernel_rfl) (by kernel_rfl) (by kernel_rfl) (by kernel_rfl) (fun K hK => ?_)
  go_simp
  first | (refine hK _ ?_; clear hK K) | (apply Exists.intro; refine ⟨fun x => ?_, hK _ ?_⟩; (fail); clear hK K)
  refine Mix.take_exC _ _ 4 rfl (by kernel_rfl) (by kernel_rfl) (by kernel_rfl) (by kernel_rfl) (fun K hK => ?_)
  go_simp
  first | (refine hK _ ?_; clear hK K) | (apply Exists.intro; refine ⟨fun x => ?_, hK _ ?_⟩; (fail); clear hK K)
  refine Mix.take_exC _ _ 5 rfl (by kernel_rfl) (by kernel_rfl) (by kernel_rfl) (by kernel_rfl) (fun K hK => ?_)
  go_simp
  first | (refine hK _ ?_; clear hK K) | (apply Exists.intro; refine ⟨fun x => ?_, hK _ ?_⟩; (fail); clear hK K)
  refine Mix.take_exC _ _ 6 rfl (by kernel_rfl) (by kernel_rfl) (by kernel_rfl) (by kernel_rfl) (fun K hK => ?_)
  go_simp
  first | (refine hK _ ?_; clear hK K) | (apply Exists.intro; refine ⟨fun x => ?_, hK _ ?_⟩; (fail); clear hK K)
  refine Mix.take_exC _ _ 7 rfl (by kernel_rfl) (by kernel_rfl) (by kernel_rfl) (by kernel_rfl) (fun K hK => ?_)
  go_simp
  first | (refine hK _ ?_; clear hK K) | (apply Exists.intro; refine ⟨fun x => ?_, hK _ ?_⟩; (fail); clear hK K)
  refine Mix.take_exC _ _ 8 rfl (by kernel_rfl) (by kernel_rfl) (by kernel_rfl) (by kernel_rfl) (fun K hK => ?_)
  go_simp
  first | (refine hK _ ?_; clear hK K) | (apply Exists.intro; refine ⟨fun x => ?_, hK _ ?_⟩; (fail); clear hK K)
  refine Mix.take_exC _ _ 9 rfl (by kernel_rfl) (by kernel_rfl) (by kernel_rfl) (by kernel_rfl) (fun K hK => ?_)
  go_simp
  first | (refine hK _ ?_; clear hK K) | (apply Exists.intro; refine ⟨fun x => ?_, hK _ ?_⟩; (fail); clear hK K)
  refine Mix.take_exC _ _ 10 rfl (by kernel_rfl) (by kernel_rfl) (by kernel_rfl) (by kernel_rfl) (fun K hK => ?_)
  go_simp
  first | (refine hK _ ?_; clear hK K) | (apply Exists.intro; refine ⟨fun x => ?_, hK _ ?_⟩; (fail); clear hK K)
  refine Mix.take_exC _ _ 11 rfl (by kernel_rfl) (by kernel_rfl) (by kernel_rfl) (by kernel_rfl) (fun K hK => ?_)
  go_simp
  first | (refine hK _ ?_; clear hK K) | (apply Exists.intro; refine ⟨fun x => ?_, hK _ ?_⟩; (fail); clear hK K)
  refine Mix.take_exC _ _ 12 rfl (by kernel_rfl) (by kernel_rfl) (by kernel_rfl) (by kernel_rfl) (fun K hK => ?_)
  go_simp
  first | (refine hK _ ?_; clear hK K) | (apply Exists.intro; refine ⟨fun x => ?_, hK _ ?_⟩; (fail); clear hK K)
  refine Mix.take_exC _ _ 13 rfl (by kernel_rfl) (by kernel_rfl) (by kernel_rfl) (by kernel_rfl) (fun K hK => ?_)
  go_simp
  first | (refine hK _ ?_; clear hK K) | (apply Exists.intro; refine ⟨fun x => ?_, hK _ ?_⟩; (fail); clear hK K)
  refine Mix.take_exC _ _ 14 rfl (by kernel_rfl) (by kernel_rfl) (by kernel_rfl) (by kernel_rfl) (fun K hK => ?_)
  go_simp
  first | (refine hK _ ?_; clear hK K) | (apply Exists.intro; refine ⟨fun x => ?_, hK _ ?_⟩; (fail); clear hK K)
  refine Mix.take_exC _ _ 15 rfl (by kernel_rfl) (by kernel_rfl) (by kernel_rfl) (by kernel_rfl) (fun K hK => ?_)
  go_simp
  first | (refine hK _ ?_; clear hK K) | (apply Exists.intro; refine ⟨fun x => ?_, hK _ ?_⟩; (fail); clear hK K)
  refine Mix.take_exC _ _ 16 rfl (by kernel_rfl) (by kernel_rfl) (by kernel_rfl) (by kernel_rfl) (fun K hK => ?_)
  go_simp
  first | (refine hK _ ?_; clear hK K) | (apply Exists.intro; refine ⟨fun x => ?_, hK _ ?_⟩; (fail); clear hK K)
  refine Mix.take_exC _ _ 17 rfl (by kernel_rfl) (by kernel_rfl) (by kernel_rfl) (by kernel_rfl) (fun K hK => ?_)
  go_simp
  first | (refine hK _ ?_; clear hK K) | (apply Exists.intro; refine ⟨fun x => ?_, hK _ ?_⟩; (fail); clear hK K)
  refine Mix.take_exC _ _ 18 rfl (by kernel_rfl) (by kernel_rfl) (by kernel_rfl) (by kernel_rfl) (fun K hK => ?_)
  go_simp
  first | (refine hK _ ?_; clear hK K) | (apply Exists.intro; refine ⟨fun x => ?_, hK _ ?_⟩; (fail); clear hK K)
  refine Mix.take_exC _ _ 19 rfl (by kernel_rfl) (by kernel_rfl) (by kernel_rfl) (by kernel_rfl) (fun K hK => ?_)
  go_simp
  first | (refine hK _ ?_; clear hK K) | (apply Exists.intro; refine ⟨fun x => ?_, hK _ ?_⟩; (fail); clear hK K)
  refine Mix.take_exC _ _ 20 rfl (by kernel_rfl) (by kernel_rfl) (by kernel_rfl) (by kernel_rfl) (fun K hK => ?_)
  go_simp
  first | (refine hK _ ?_; clear hK K) | (apply Exists.intro; refine ⟨fun x => ?_, hK _ ?_⟩; (fail); clear hK K)
  refine Mix.take_exC _ _ 21 rfl (by kernel_rfl) (by kernel_rfl) (by kernel_rfl) (by kernel_rfl) (fun K hK => ?_)
  go_simp
  first | (refine hK _ ?_; clear hK K) | (apply Exists.intro; refine ⟨fun x => ?_, hK _ ?_⟩; (fail); clear hK K)
  refine Mix.all (rs := [22]) (by kernel_rfl) (by simp) (.of_below _ hb7) ?_
  intro i8 hi8 w8 hb8 hC8
  simp only [List.mem_cons, List.not_mem_nil, or_false] at hi8
  subst hi8
  have HB8 := Lib.hid (bt hb7 hb8)
  clear hC8 hb7 hb8
  refine Mix.op rfl (by kernel_rfl) ?_
  go_simp
  refine (aall (H6.out.as_.below HB8.out)).mono ?_
  rintro e w9 ⟨v9, rfl, hrs, _, hc9⟩
  refine ⟨_, rfl, ?_⟩
  obtain ⟨a9, n9, cp9, rfl, hn9, _, _, _⟩ := hrs.at_
  obtain rfl : n9 = 0 := hn9
  have HB9 := Lib.hid (show Below w6.heap.size w6 w9 from HB8.out.trans (hc9.below HB8.out.size fun _ h => h.elim))
  clear hrs hc9
  refine Mix.take_exC _ _ 23 rfl (by kernel_rfl) (by kernel_rfl) (by kernel_rfl) (by kernel_rfl) (fun K hK => ?_)
  go_simp
  first | (refine hK _ ?_; clear hK K) | (apply Exists.intro; refine ⟨fun x => ?_, hK _ ?_⟩; (fail); clear hK K)
  refine Mix.take_exC _ _ 24 rfl (by kernel_rfl) (by kernel_rfl) (by kernel_rfl) (by kernel_rfl) (fun K hK => ?_)
  go_simp
  first | (refine hK _ ?_; clear hK K) | (apply Exists.intro; refine ⟨fun x => ?_, hK _ ?_⟩; (fail); clear hK K)
  refine Mix.take_exC _ _ 25 rfl (by kernel_rfl) (by kernel_rfl) (by kernel_rfl) (by kernel_rfl) (fun K hK => ?_)
  go_simp
  first | (refine hK _ ?_; clear hK K) | (apply Exists.intro; refine ⟨fun x => ?_, hK _ ?_⟩; (fail); clear hK K)
  refine Mix.take_exC _ _ 26 rfl (by kernel_rfl) (by kernel_rfl) (by kernel_rfl) (by kernel_rfl) (fun K hK => ?_)
  go_simp
  first | (refine hK _ ?_; clear hK K) | (apply Exists.intro; refine ⟨fun x => ?_, hK _ ?_⟩; (fail); clear hK K)
  refine Mix.done (by kernel_rfl) (.of_below _ HB9.out) ?_
  intro w10 hb10
  have HB10 := Lib.hid (bt HB9.out hb10)
  clear hb10
  go_wp2
  go_ret
  exact ⟨rfl, bt H6.out.bel HB10.out⟩
end Go.Proofs.Ytajcelmnblncaaa

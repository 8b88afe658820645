/- Texts laid together: So8,So9,Soa,Sob. -/
import Derived.Test.YtgfjmafdfbghnaaGreatSgL
namespace Go.Proofs.YtgfjmafdfbghnaaGreat
section
open Go.RowKit Go.Maps
attribute [local go_sem] ext_cell ext_frozen extC_cell extC_frozen Mix.calmUpon Mix.mUpon
/-- A variable that holds sums. -/
def NB (w : World) (b : Nat) (n : Nat → Int) : Prop := w.heap[b]? = some (.cells (C4 n) 67 (0, 0))
section
variable {w w' : World} {sp M tp b : Nat} {T : Nat → Int} {G : Int → Option Cl} {L : List Pl} {c : Cl} {i x : Int} {F : Nat → Prop} {n : Nat → Int}
theorem NB.made (w : World) (n : Nat → Int) : NB (w.alloc (.cells (C4 n) 67)) w.heap.size n := heap_alloc_new w _
theorem NB.lt (h : NB w b n) : b < w.heap.size := (Array.getElem?_eq_some_iff.1 h).1
theorem NB.below (h : NB w b n) (hb : Below w.heap.size w w') : NB w' b n := (hb.block _ h.lt).trans h
theorem NB.cells (h : NB w b n) : w.cell? ⟨b, 0, none⟩ = some (.int .i64 (n 0)) ∧ w.cell? ⟨b, 1, none⟩ = some (.int .i64 (n 1)) ∧ w.cell? ⟨b, 2, none⟩ = some (.int .i64 (n 2)) ∧ w.cell? ⟨b, 3, none⟩ = some (.int .i64 (n 3)) := by
  unfold NB at h; simp [World.cell?, h]
theorem CK.sets (h : CK w b c) (r : Nat → Int) : CK ((((w.setCell ⟨b, 1, none⟩ (.int .i64 (r 0))).setCell ⟨b, 2, none⟩ (.int .i64 (r 1))).setCell ⟨b, 3, none⟩ (.int .i64 (r 2))).setCell ⟨b, 4, none⟩ (.int .i64 (r 3))) b { c with s := r } := heap_setCell_at _ (heap_setCell_at _ (heap_setCell_at _ (heap_setCell_at _ h)))
set_option maxRecDepth 100000 in
set_option maxHeartbeats 1000000 in
theorem stake_no (h : SM w sp M tp T G L) (hi : I64 i) (hg : G i = some c) (hx : ¬ HOk c.s n) : Calls Tryz.prog 53 #[ptr sp, .int .i64 i, S4 n] w (SPi 30 sp M tp T G L w) := by
  have HA := Lib.hid (sub_no c.s n hx)
  have hb0 := ba (Below.refl w.heap.size w) (.cells (C4 n) 67)
  have hf := sfind (h.below hb0) hi
  unfold sfA at hf
  rw [hg] at hf
  replace hf : Calls Tryz.prog 79 #[ptr sp, .int .i64 i] (w.alloc (.cells (C4 n) 67)) fun e w' => e = .returned (.tuple #[clv c, .int .i64 0]) ∧ Below (w.alloc (.cells (C4 n) 67)).heap.size (w.alloc (.cells (C4 n) 67)) w' := hf
  have HF := Lib.hid hf; have H := Lib.hid h; have HI := Lib.hid hi; have HB0 := Lib.hid hb0; have HN0 := Lib.hid (NB.made w n)
  clear hf hb0
  clear h hi hg hx
  go_enter Tryz.func53, Tryz.ntmps53
  go_upto_region 1 with (fail)
  generalize w.alloc (.cells (C4 n) 67) = w0 at *
  obtain ⟨nb, hnb⟩ : ∃ b, b = w.heap.size := ⟨_, rfl⟩
  rw [← hnb] at HN0 ⊢
  clear hnb
  go_wp2_with fail
  refine HF.out.mono ?_
  rintro e w1 ⟨rfl, hb1⟩
  have HB1 := Lib.hid (bt HB0.out hb1)
  have HN1 := Lib.hid (HN0.out.below hb1)
  clear hb1
  go_upto_region 4 with (fail)
  have hbx := ba (Below.refl w1.heap.size w1) (.cells #[.int .i64 c.wt, .int .i64 (c.s 0), .int .i64 (c.s 1), .int .i64 (c.s 2), .int .i64 (c.s 3), .bool c.aw] 119)
  have HB2 := Lib.hid (bt HB1.out hbx)
  have HN2 := Lib.hid (HN1.out.below hbx)
  have HK2 := Lib.hid (CK.made w1 c)
  clear hbx
  generalize w1.alloc (.cells #[.int .i64 c.wt, .int .i64 (c.s 0), .int .i64 (c.s 1), .int .i64 (c.s 2), .int .i64 (c.s 3), .bool c.aw] 119) = w2 at *
  obtain ⟨kb, hkb⟩ : ∃ b, b = w1.heap.size := ⟨_, rfl⟩
  rw [← hkb] at HK2 ⊢
  have HKB := Lib.hid (show w.heap.size ≤ kb from hkb ▸ HB1.out.size)
  clear hkb
  obtain ⟨k0, k1, k2, k3, k4, k5⟩ := HK2.out.cells
  have ks := HK2.out.lt
  obtain ⟨n0, n1, n2, n3⟩ := HN2.out.cells
  have nl := HN2.out.lt
  go_wp2_with fail
  refine (HA.out _).mono ?_
  rintro e w3 ⟨rfl, hb3⟩
  have HB3 := Lib.hid (bt HB2.out hb3)
  have HK3 := Lib.hid (HK2.out.below hb3)
  clear hb3 k0 k1 k2 k3 k4 k5 ks n0 n1 n2 n3 nl
  go_wp2
  go_ret
  exact SPi.same H.out (bt HB3.out (ba (Below.refl _ _) _))
theorem sm4_sub {a b : Nat → Int} (ha : Sm4 a) (h : HOk a b) : Sm4 (fun k => a k - b k) := fun k hk => by
  have h1 := ha k hk; have h2 := hok_at h k hk; have h3 := sok_at h.2.1 k hk
  obtain ⟨h3, _⟩ := h3
  constructor <;> (show _ ≤ _; simp only; omega)
set_option maxRecDepth 100000 in
set_option maxHeartbeats 1000000 in
theorem stake_ok (h : SM w sp M tp T G L) (h9 : S9 T G L) (hi : I64 i) (hg : G i = some c) (hx : HOk c.s n) (hl : L.length < 1000000) : Calls Tryz.prog 53 #[ptr sp, .int .i64 i, S4 n] w (SPi 0 sp M tp T (upd G i (some { c with s := fun k => c.s k - n k })) (st9 T G L i { c with s := fun k => c.s k - n k }) w) := by
  have hck := h9.ok i c hg
  have hsm := sm4_sub hck.sm hx
  have hA := sub_yes c.s n hx
  obtain ⟨r, hr⟩ : ∃ r, (fun k => c.s k - n k) = r := ⟨_, rfl⟩
  rw [hr] at hsm hA ⊢
  have HA := Lib.hid hA
  have HS := Lib.hid fun w' (h' : SM w' sp M tp T G L) => sset (c := { c with s := r }) h' h9 hi ⟨hck.w1, hck.w2, hsm, hi⟩ hl
  have hb0 := ba (Below.refl w.heap.size w) (.cells (C4 n) 67)
  have hf := sfind (h.below hb0) hi
  unfold sfA at hf
  rw [hg] at hf
  replace hf : Calls Tryz.prog 79 #[ptr sp, .int .i64 i] (w.alloc (.cells (C4 n) 67)) fun e w' => e = .returned (.tuple #[clv c, .int .i64 0]) ∧ Below (w.alloc (.cells (C4 n) 67)).heap.size (w.alloc (.cells (C4 n) 67)) w' := hf
  have HF := Lib.hid hf; have H := Lib.hid h; have HI := Lib.hid hi; have HB0 := Lib.hid hb0; have HN0 := Lib.hid (NB.made w n)
  clear hf hb0
  clear h h9 hi hg hx hl hck hsm hA hr
  go_enter Tryz.func53, Tryz.ntmps53
  go_upto_region 1 with (fail)
  generalize w.alloc (.cells (C4 n) 67) = w0 at *
  obtain ⟨nb, hnb⟩ : ∃ b, b = w.heap.size := ⟨_, rfl⟩
  rw [← hnb] at HN0 ⊢
  clear hnb
  go_wp2_with fail
  refine HF.out.mono ?_
  rintro e w1 ⟨rfl, hb1⟩
  have HB1 := Lib.hid (bt HB0.out hb1)
  have HN1 := Lib.hid (HN0.out.below hb1)
  clear hb1
  go_upto_region 4 with (fail)
  have hbx := ba (Below.refl w1.heap.size w1) (.cells #[.int .i64 c.wt, .int .i64 (c.s 0), .int .i64 (c.s 1), .int .i64 (c.s 2), .int .i64 (c.s 3), .bool c.aw] 119)
  have HB2 := Lib.hid (bt HB1.out hbx)
  have HN2 := Lib.hid (HN1.out.below hbx)
  have HK2 := Lib.hid (CK.made w1 c)
  clear hbx
  generalize w1.alloc (.cells #[.int .i64 c.wt, .int .i64 (c.s 0), .int .i64 (c.s 1), .int .i64 (c.s 2), .int .i64 (c.s 3), .bool c.aw] 119) = w2 at *
  obtain ⟨kb, hkb⟩ : ∃ b, b = w1.heap.size := ⟨_, rfl⟩
  rw [← hkb] at HK2 ⊢
  have HKB := Lib.hid (show w.heap.size ≤ kb from hkb ▸ HB1.out.size)
  clear hkb
  obtain ⟨k0, k1, k2, k3, k4, k5⟩ := HK2.out.cells
  have ks := HK2.out.lt
  obtain ⟨n0, n1, n2, n3⟩ := HN2.out.cells
  have nl := HN2.out.lt
  go_wp2_with fail
  refine (HA.out _).mono ?_
  rintro e w3 ⟨rfl, hb3⟩
  have HB3 := Lib.hid (bt HB2.out hb3)
  have HK3 := Lib.hid (HK2.out.below hb3)
  clear hb3 k0 k1 k2 k3 k4 k5 ks n0 n1 n2 n3 nl
  have hbr := ba (Below.refl w3.heap.size w3) (.cells (C4 r) 67)
  have HB4 := Lib.hid (bt HB3.out hbr)
  have HK4 := Lib.hid (HK3.out.below hbr)
  have HR4 := Lib.hid (NB.made w3 r)
  clear hbr
  go_upto_region 7 with (fail)
  generalize w3.alloc (.cells (C4 r) 67) = w4 at *
  generalize w3.heap.size = rb at *
  have HC5 := Lib.hid (show Below w.heap.size w ((((w4.setCell ⟨kb, 1, none⟩ (.int .i64 (r 0))).setCell ⟨kb, 2, none⟩ (.int .i64 (r 1))).setCell ⟨kb, 3, none⟩ (.int .i64 (r 2))).setCell ⟨kb, 4, none⟩ (.int .i64 (r 3))) from (((HB4.out.setCell (p := ⟨kb, 1, none⟩) HKB.out _).setCell (p := ⟨kb, 2, none⟩) HKB.out _).setCell (p := ⟨kb, 3, none⟩) HKB.out _).setCell (p := ⟨kb, 4, none⟩) HKB.out _)
  obtain ⟨k0, k1, k2, k3, k4, k5⟩ := HK4.out.cells
  have ks := HK4.out.lt
  have kf1 := HK4.out.fz 1; have kf2 := HK4.out.fz 2; have kf3 := HK4.out.fz 3; have kf4 := HK4.out.fz 4
  obtain ⟨r0, r1, r2, r3⟩ := HR4.out.cells
  have rl := HR4.out.lt
  go_wp2_with fail
  refine (HS.out _ (H.out.below HC5.out)).mono ?_
  rintro e w6 ⟨rfl, h6, hc6⟩
  have H6 := Lib.hid h6; have HC6 := Lib.hid hc6
  clear h6 hc6 k0 k1 k2 k3 k4 k5 ks kf1 kf2 kf3 kf4 r0 r1 r2 r3 rl
  go_wp2
  go_ret
  exact ⟨rfl, H6.out, (Chg.of_below _ HC5.out).same HC6.out⟩
/-- May n be given to one that has a? -/
def Gv (a n : Nat → Int) : Prop := SOk n ∧ Sm4 (fun k => a k + n k)
instance (a n : Nat → Int) : Decidable (Gv a n) := by unfold Gv; infer_instance
theorem add_sums (a n : Nat → Int) (ha : SOk a) : ∃ r q, Pure Tryz.prog 82 #[S4 a, S4 n] (.tuple #[S4 r, .bool q]) ∧ (q = true → r = fun k => a k + n k) ∧ (Gv a n ↔ q = true ∧ Sm4 r) := by
  by_cases hn : SOk n
  · cases hq : decide (SOk fun k => a k + n k) with
    | false =>
      refine ⟨Z4, false, ?_, fun h => (by cases h), ⟨fun h => ?_, fun h => (by cases h.1)⟩⟩
      · exact add_both a n false ha hn hq
      · have := h.2.ok; simp [this] at hq
    | true =>
      refine ⟨fun k => a k + n k, true, ?_, fun _ => rfl, ⟨fun h => ⟨rfl, h.2⟩, fun h => ⟨hn, h.2⟩⟩⟩
      exact add_both a n true ha hn hq
  · refine ⟨Z4, false, add_no2 a n ha hn, fun h => (by cases h), ⟨fun h => absurd h.1 hn, fun h => (by cases h.1)⟩⟩
set_option maxRecDepth 100000 in
set_option maxHeartbeats 1000000 in
theorem sgive_no (h : SM w sp M tp T G L) (h9 : S9 T G L) (hi : I64 i) (hg : G i = some c) (hx : ¬ Gv c.s n) : Calls Tryz.prog 57 #[ptr sp, .int .i64 i, S4 n] w (SPi 41 sp M tp T G L w) := by
  obtain ⟨r, q, hA, hrq, hq⟩ := add_sums c.s n (h9.ok i c hg).sm.ok
  have HA := Lib.hid hA
  have hr := inrange_any r
  have hb0 := ba (Below.refl w.heap.size w) (.cells (C4 n) 67)
  have hf := sfind (h.below hb0) hi
  unfold sfA at hf
  rw [hg] at hf
  replace hf : Calls Tryz.prog 79 #[ptr sp, .int .i64 i] (w.alloc (.cells (C4 n) 67)) fun e w' => e = .returned (.tuple #[clv c, .int .i64 0]) ∧ Below (w.alloc (.cells (C4 n) 67)).heap.size (w.alloc (.cells (C4 n) 67)) w' := hf
  have HF := Lib.hid hf; have H := Lib.hid h; have HI := Lib.hid hi; have HB0 := Lib.hid hb0; have HN0 := Lib.hid (NB.made w n)
  clear hf hb0
  cases q with
  | false =>
    clear h h9 hi hg hx hA hq hr hrq
    go_enter Tryz.func57, Tryz.ntmps57
    go_upto_region 1 with (fail)
    generalize w.alloc (.cells (C4 n) 67) = w0 at *
    obtain ⟨nb, hnb⟩ : ∃ b, b = w.heap.size := ⟨_, rfl⟩
    rw [← hnb] at HN0 ⊢
    clear hnb
    go_wp2_with fail
    refine HF.out.mono ?_
    rintro e w1 ⟨rfl, hb1⟩
    have HB1 := Lib.hid (bt HB0.out hb1)
    have HN1 := Lib.hid (HN0.out.below hb1)
    clear hb1
    go_upto_region 4 with (fail)
    have hbx := ba (Below.refl w1.heap.size w1) (.cells #[.int .i64 c.wt, .int .i64 (c.s 0), .int .i64 (c.s 1), .int .i64 (c.s 2), .int .i64 (c.s 3), .bool c.aw] 119)
    have HB2 := Lib.hid (bt HB1.out hbx)
    have HN2 := Lib.hid (HN1.out.below hbx)
    have HK2 := Lib.hid (CK.made w1 c)
    clear hbx
    generalize w1.alloc (.cells #[.int .i64 c.wt, .int .i64 (c.s 0), .int .i64 (c.s 1), .int .i64 (c.s 2), .int .i64 (c.s 3), .bool c.aw] 119) = w2 at *
    obtain ⟨kb, hkb⟩ : ∃ b, b = w1.heap.size := ⟨_, rfl⟩
    rw [← hkb] at HK2 ⊢
    have HKB := Lib.hid (show w.heap.size ≤ kb from hkb ▸ HB1.out.size)
    clear hkb
    obtain ⟨k0, k1, k2, k3, k4, k5⟩ := HK2.out.cells
    have ks := HK2.out.lt
    obtain ⟨n0, n1, n2, n3⟩ := HN2.out.cells
    have nl := HN2.out.lt
    go_wp2_with fail
    refine (HA.out _).mono ?_
    rintro e w3 ⟨rfl, hb3⟩
    have HB3 := Lib.hid (bt HB2.out hb3)
    have HK3 := Lib.hid (HK2.out.below hb3)
    clear hb3 k0 k1 k2 k3 k4 k5 ks n0 n1 n2 n3 nl
    go_wp2
    go_ret
    exact SPi.same H.out (bt HB3.out (ba (Below.refl _ _) _))
  | true =>
    rw [show decide (Sm4 r) = false by simpa using fun h => hx (hq.2 ⟨rfl, h⟩)] at hr
    have HR := Lib.hid hr
    clear h h9 hi hg hx hA hq hr hrq
    go_enter Tryz.func57, Tryz.ntmps57
    go_upto_region 1 with (fail)
    generalize w.alloc (.cells (C4 n) 67) = w0 at *
    obtain ⟨nb, hnb⟩ : ∃ b, b = w.heap.size := ⟨_, rfl⟩
    rw [← hnb] at HN0 ⊢
    clear hnb
    go_wp2_with fail
    refine HF.out.mono ?_
    rintro e w1 ⟨rfl, hb1⟩
    have HB1 := Lib.hid (bt HB0.out hb1)
    have HN1 := Lib.hid (HN0.out.below hb1)
    clear hb1
    go_upto_region 4 with (fail)
    have hbx := ba (Below.refl w1.heap.size w1) (.cells #[.int .i64 c.wt, .int .i64 (c.s 0), .int .i64 (c.s 1), .int .i64 (c.s 2), .int .i64 (c.s 3), .bool c.aw] 119)
    have HB2 := Lib.hid (bt HB1.out hbx)
    have HN2 := Lib.hid (HN1.out.below hbx)
    have HK2 := Lib.hid (CK.made w1 c)
    clear hbx
    generalize w1.alloc (.cells #[.int .i64 c.wt, .int .i64 (c.s 0), .int .i64 (c.s 1), .int .i64 (c.s 2), .int .i64 (c.s 3), .bool c.aw] 119) = w2 at *
    obtain ⟨kb, hkb⟩ : ∃ b, b = w1.heap.size := ⟨_, rfl⟩
    rw [← hkb] at HK2 ⊢
    have HKB := Lib.hid (show w.heap.size ≤ kb from hkb ▸ HB1.out.size)
    clear hkb
    obtain ⟨k0, k1, k2, k3, k4, k5⟩ := HK2.out.cells
    have ks := HK2.out.lt
    obtain ⟨n0, n1, n2, n3⟩ := HN2.out.cells
    have nl := HN2.out.lt
    go_wp2_with fail
    refine (HA.out _).mono ?_
    rintro e w3 ⟨rfl, hb3⟩
    have HB3 := Lib.hid (bt HB2.out hb3)
    have HK3 := Lib.hid (HK2.out.below hb3)
    clear hb3 k0 k1 k2 k3 k4 k5 ks n0 n1 n2 n3 nl
    have hbr := ba (Below.refl w3.heap.size w3) (.cells (C4 r) 67)
    have HB4 := Lib.hid (bt HB3.out hbr)
    have HK4 := Lib.hid (HK3.out.below hbr)
    have HR4 := Lib.hid (NB.made w3 r)
    clear hbr
    go_upto_region 5 with (fail)
    generalize w3.alloc (.cells (C4 r) 67) = w4 at *
    generalize w3.heap.size = rb at *
    obtain ⟨r0, r1, r2, r3⟩ := HR4.out.cells
    have rl := HR4.out.lt
    go_wp2_with fail
    refine (HR.out _).mono ?_
    rintro e w5 ⟨rfl, hb5⟩
    have HB5 := Lib.hid (bt HB4.out hb5)
    clear hb5 r0 r1 r2 r3 rl
    go_wp2
    go_ret
    exact SPi.same H.out HB5.out
set_option maxRecDepth 100000 in
set_option maxHeartbeats 1000000 in
theorem sgive_ok (h : SM w sp M tp T G L) (h9 : S9 T G L) (hi : I64 i) (hg : G i = some c) (hx : Gv c.s n) (hl : L.length < 1000000) : Calls Tryz.prog 57 #[ptr sp, .int .i64 i, S4 n] w (SPi 0 sp M tp T (upd G i (some { c with s := fun k => c.s k + n k })) (st9 T G L i { c with s := fun k => c.s k + n k }) w) := by
  obtain ⟨r, q, hA, hrq, hq⟩ := add_sums c.s n (h9.ok i c hg).sm.ok
  obtain ⟨h1, hsm⟩ := hq.1 hx
  subst h1
  have hck := h9.ok i c hg
  rw [← hrq rfl]
  have HA := Lib.hid hA
  have hr := inrange_any r
  rw [show decide (Sm4 r) = true by simpa using hsm] at hr
  have HR := Lib.hid hr
  have HS := Lib.hid fun w' (h' : SM w' sp M tp T G L) => sset (c := { c with s := r }) h' h9 hi ⟨hck.w1, hck.w2, hsm, hi⟩ hl
  have hb0 := ba (Below.refl w.heap.size w) (.cells (C4 n) 67)
  have hf := sfind (h.below hb0) hi
  unfold sfA at hf
  rw [hg] at hf
  replace hf : Calls Tryz.prog 79 #[ptr sp, .int .i64 i] (w.alloc (.cells (C4 n) 67)) fun e w' => e = .returned (.tuple #[clv c, .int .i64 0]) ∧ Below (w.alloc (.cells (C4 n) 67)).heap.size (w.alloc (.cells (C4 n) 67)) w' := hf
  have HF := Lib.hid hf; have H := Lib.hid h; have HI := Lib.hid hi; have HB0 := Lib.hid hb0; have HN0 := Lib.hid (NB.made w n)
  clear hf hb0
  clear h h9 hi hg hx hl hck hsm hA hr hrq hq
  go_enter Tryz.func57, Tryz.ntmps57
  go_upto_region 1 with (fail)
  generalize w.alloc (.cells (C4 n) 67) = w0 at *
  obtain ⟨nb, hnb⟩ : ∃ b, b = w.heap.size := ⟨_, rfl⟩
  rw [← hnb] at HN0 ⊢
  clear hnb
  go_wp2_with fail
  refine HF.out.mono ?_
  rintro e w1 ⟨rfl, hb1⟩
  have HB1 := Lib.hid (bt HB0.out hb1)
  have HN1 := Lib.hid (HN0.out.below hb1)
  clear hb1
  go_upto_region 4 with (fail)
  have hbx := ba (Below.refl w1.heap.size w1) (.cells #[.int .i64 c.wt, .int .i64 (c.s 0), .int .i64 (c.s 1), .int .i64 (c.s 2), .int .i64 (c.s 3), .bool c.aw] 119)
  have HB2 := Lib.hid (bt HB1.out hbx)
  have HN2 := Lib.hid (HN1.out.below hbx)
  have HK2 := Lib.hid (CK.made w1 c)
  clear hbx
  generalize w1.alloc (.cells #[.int .i64 c.wt, .int .i64 (c.s 0), .int .i64 (c.s 1), .int .i64 (c.s 2), .int .i64 (c.s 3), .bool c.aw] 119) = w2 at *
  obtain ⟨kb, hkb⟩ : ∃ b, b = w1.heap.size := ⟨_, rfl⟩
  rw [← hkb] at HK2 ⊢
  have HKB := Lib.hid (show w.heap.size ≤ kb from hkb ▸ HB1.out.size)
  clear hkb
  obtain ⟨k0, k1, k2, k3, k4, k5⟩ := HK2.out.cells
  have ks := HK2.out.lt
  obtain ⟨n0, n1, n2, n3⟩ := HN2.out.cells
  have nl := HN2.out.lt
  go_wp2_with fail
  refine (HA.out _).mono ?_
  rintro e w3 ⟨rfl, hb3⟩
  have HB3 := Lib.hid (bt HB2.out hb3)
  have HK3 := Lib.hid (HK2.out.below hb3)
  clear hb3 k0 k1 k2 k3 k4 k5 ks n0 n1 n2 n3 nl
  have hbr := ba (Below.refl w3.heap.size w3) (.cells (C4 r) 67)
  have HB4 := Lib.hid (bt HB3.out hbr)
  have HK4 := Lib.hid (HK3.out.below hbr)
  have HR4 := Lib.hid (NB.made w3 r)
  clear hbr
  go_upto_region 5 with (fail)
  generalize w3.alloc (.cells (C4 r) 67) = w4 at *
  generalize w3.heap.size = rb at *
  obtain ⟨r0, r1, r2, r3⟩ := HR4.out.cells
  have rl := HR4.out.lt
  go_wp2_with fail
  refine (HR.out _).mono ?_
  rintro e w5 ⟨rfl, hb5⟩
  have HB4 := Lib.hid (bt HB4.out hb5)
  have HK4 := Lib.hid (HK4.out.below hb5)
  have HR4 := Lib.hid (HR4.out.below hb5)
  clear hb5 r0 r1 r2 r3 rl
  generalize w5 = w4 at *
  have HC5 := Lib.hid (show Below w.heap.size w ((((w4.setCell ⟨kb, 1, none⟩ (.int .i64 (r 0))).setCell ⟨kb, 2, none⟩ (.int .i64 (r 1))).setCell ⟨kb, 3, none⟩ (.int .i64 (r 2))).setCell ⟨kb, 4, none⟩ (.int .i64 (r 3))) from (((HB4.out.setCell (p := ⟨kb, 1, none⟩) HKB.out _).setCell (p := ⟨kb, 2, none⟩) HKB.out _).setCell (p := ⟨kb, 3, none⟩) HKB.out _).setCell (p := ⟨kb, 4, none⟩) HKB.out _)
  obtain ⟨k0, k1, k2, k3, k4, k5⟩ := HK4.out.cells
  have ks := HK4.out.lt
  have kf1 := HK4.out.fz 1; have kf2 := HK4.out.fz 2; have kf3 := HK4.out.fz 3; have kf4 := HK4.out.fz 4
  obtain ⟨r0, r1, r2, r3⟩ := HR4.out.cells
  have rl := HR4.out.lt
  go_wp2_with fail
  refine (HS.out _ (H.out.below HC5.out)).mono ?_
  rintro e w6 ⟨rfl, h6, hc6⟩
  have H6 := Lib.hid h6; have HC6 := Lib.hid hc6
  clear h6 hc6 k0 k1 k2 k3 k4 k5 ks kf1 kf2 kf3 kf4 r0 r1 r2 r3 rl
  go_wp2
  go_ret
  exact ⟨rfl, H6.out, (Chg.of_below _ HC5.out).same HC6.out⟩
set_option maxRecDepth 100000 in
set_option maxHeartbeats 1000000 in
theorem sgive_none (h : SM w sp M tp T G L) (hi : I64 i) (hg : G i = none) : Calls Tryz.prog 57 #[ptr sp, .int .i64 i, S4 n] w (SPi 43 sp M tp T G L w) := by
  have hb0 := ba (Below.refl w.heap.size w) (.cells (C4 n) 67)
  have hf := sfind (h.below hb0) hi
  unfold sfA at hf
  rw [hg] at hf
  replace hf : Calls Tryz.prog 79 #[ptr sp, .int .i64 i] (w.alloc (.cells (C4 n) 67)) fun e w' => e = .returned (.tuple #[.agg #[.int .i64 0, .int .i64 0, .int .i64 0, .int .i64 0, .int .i64 0, .bool false], .int .i64 43]) ∧ Below (w.alloc (.cells (C4 n) 67)).heap.size (w.alloc (.cells (C4 n) 67)) w' := hf
  have HF := Lib.hid hf; have H := Lib.hid h; have HB0 := Lib.hid hb0
  clear hf h hi hg hb0
  go_enter Tryz.func57, Tryz.ntmps57
  go_upto_region 1 with (fail)
  generalize w.alloc (.cells (C4 n) 67) = w0 at *
  go_wp2_with fail
  refine HF.out.mono ?_
  rintro e w1 ⟨rfl, hb1⟩
  have HB1 := Lib.hid (bt HB0.out hb1)
  clear hb1
  go_wp2
  go_ret
  exact SPi.same H.out (bt HB1.out (ba (Below.refl _ _) _))
set_option maxRecDepth 100000 in
set_option maxHeartbeats 1000000 in
theorem stake_none (h : SM w sp M tp T G L) (hi : I64 i) (hg : G i = none) : Calls Tryz.prog 53 #[ptr sp, .int .i64 i, S4 n] w (SPi 43 sp M tp T G L w) := by
  have hb0 := ba (Below.refl w.heap.size w) (.cells (C4 n) 67)
  have hf := sfind (h.below hb0) hi
  unfold sfA at hf
  rw [hg] at hf
  replace hf : Calls Tryz.prog 79 #[ptr sp, .int .i64 i] (w.alloc (.cells (C4 n) 67)) fun e w' => e = .returned (.tuple #[.agg #[.int .i64 0, .int .i64 0, .int .i64 0, .int .i64 0, .int .i64 0, .bool false], .int .i64 43]) ∧ Below (w.alloc (.cells (C4 n) 67)).heap.size (w.alloc (.cells (C4 n) 67)) w' := hf
  have HF := Lib.hid hf; have H := Lib.hid h; have HB0 := Lib.hid hb0
  clear hf h hi hg hb0
  go_enter Tryz.func53, Tryz.ntmps53
  go_upto_region 1 with (fail)
  generalize w.alloc (.cells (C4 n) 67) = w0 at *
  go_wp2_with fail
  refine HF.out.mono ?_
  rintro e w1 ⟨rfl, hb1⟩
  have HB1 := Lib.hid (bt HB0.out hb1)
  clear hb1
  go_wp2
  go_ret
  exact SPi.same H.out (bt HB1.out (ba (Below.refl _ _) _))
end
end
section
open Go.RowKit Go.Maps
attribute [local go_sem] ext_cell ext_frozen extC_cell extC_frozen Mix.calmUpon Mix.mUpon
def fid : List Pl → Int | [] => 0 | p :: _ => p.i
def fok : List Pl → Bool | [] => false | _ :: _ => true
section
variable {w w' : World} {sp M tp b : Nat} {T : Nat → Int} {G : Int → Option Cl} {L : List Pl} {c : Cl} {i x : Int} {F : Nat → Prop} {n : Nat → Int}
/-- A client as it is told, and whether it is there. -/
theorem sget' (h : SM w sp M tp T G L) (hi : I64 i) : ∃ d r, Calls Tryz.prog 61 #[ptr sp, .int .i64 i] w (fun e w' => e = .returned (.tuple #[clv d, .bool r]) ∧ Below w.heap.size w w') ∧ ((r = true ∧ G i = some d) ∨ (r = false ∧ G i = none ∧ d = clz)) := by
  have hf := sget h hi
  unfold sgA at hf
  cases hg : G i with
  | none => rw [hg] at hf; exact ⟨clz, false, hf, .inr ⟨rfl, rfl, rfl⟩⟩
  | some c => rw [hg] at hf; exact ⟨c, true, hf, .inl ⟨rfl, rfl⟩⟩
theorem NB.fz (h : NB w b n) (o : Nat) : w.frozen? ⟨b, o, none⟩ = false := by unfold NB at h; simp [World.frozen?, h]
theorem NB.set4 (h : NB w b n) (r : Nat → Int) : NB ((((w.setCell ⟨b, 0, none⟩ (.int .i64 (r 0))).setCell ⟨b, 1, none⟩ (.int .i64 (r 1))).setCell ⟨b, 2, none⟩ (.int .i64 (r 2))).setCell ⟨b, 3, none⟩ (.int .i64 (r 3))) b r := heap_setCell_at _ (heap_setCell_at _ (heap_setCell_at _ (heap_setCell_at _ h)))
theorem NB.load (h : NB w b n) : (loadVar 67 ⟨b, 0, none⟩).run Tryz.prog w = .ok (S4 n) w := by
  obtain ⟨h0, h1, h2, h3⟩ := h.cells
  have hs := h.lt
  simp [go_sem, h0, h1, h2, h3, hs]
theorem res_nb {fn : Func} {tmps : Array Value} {p q : Nat} {e : Value} (h : fn.results = #[.cell p 67, .tmp q]) (hp : tmps.getD p undef = .pointer (some ⟨b, 0, none⟩)) (hq : tmps.getD q undef = e) (hb : NB w b n) :
    (results fn tmps).run Tryz.prog w = .ok (.tuple #[S4 n, e]) w := by
  rw [results_cell_tmp h, hp, hq]
  simp [asAddr, Result.andThen, hb.load]
def sumQ (G : Int → Option Cl) (i : Int) : Nat → Int := match G i with | some c => c.s | none => fun _ => 0
set_option maxRecDepth 100000 in
set_option maxHeartbeats 1000000 in
theorem ssum (h : SM w sp M tp T G L) (hi : I64 i) : Calls Tryz.prog 52 #[ptr sp, .int .i64 i] w fun e w' => e = .returned (.tuple #[S4 (sumQ G i), .bool (G i).isSome]) ∧ Below w.heap.size w w' := by
  have hb := ba (Below.refl w.heap.size w) (.cells #[.int .i64 0, .int .i64 0, .int .i64 0, .int .i64 0] 67)
  obtain ⟨d, r, hf, hr⟩ := sget' (h.below hb) hi
  have hv : sumQ G i = d.s ∧ (G i).isSome = r := by
    unfold sumQ
    rcases hr with ⟨rfl, hg⟩ | ⟨rfl, hg, rfl⟩
    · rw [hg]; exact ⟨rfl, rfl⟩
    · rw [hg]; exact ⟨rfl, rfl⟩
  rw [hv.1, hv.2]
  have HF := Lib.hid hf; have HB := Lib.hid hb
  have HN := Lib.hid (show NB (w.alloc (.cells #[.int .i64 0, .int .i64 0, .int .i64 0, .int .i64 0] 67)) w.heap.size (fun _ => 0) from NB.made w (fun _ => 0))
  clear h hi hb hf hr hv
  go_enter Tryz.func52, Tryz.ntmps52
  go_upto_region 1 with (fail)
  generalize w.alloc (.cells #[.int .i64 0, .int .i64 0, .int .i64 0, .int .i64 0] 67) = w1 at *
  obtain ⟨nb, hnb⟩ : ∃ b, b = w.heap.size := ⟨_, rfl⟩
  rw [← hnb] at HN ⊢
  have HNB := Lib.hid hnb
  clear hnb
  go_wp2_with fail
  refine HF.out.mono ?_
  rintro e w2 ⟨rfl, hb2⟩
  have HB2 := Lib.hid (bt HB.out hb2)
  have HN2 := Lib.hid (HN.out.below hb2)
  clear hb2
  go_upto_region 2 with (fail)
  have hbx := ba (Below.refl w2.heap.size w2) (.cells #[.int .i64 d.wt, .int .i64 (d.s 0), .int .i64 (d.s 1), .int .i64 (d.s 2), .int .i64 (d.s 3), .bool d.aw] 119)
  have HB3 := Lib.hid (bt HB2.out hbx)
  have HN3 := Lib.hid (HN2.out.below hbx)
  have HK3 := Lib.hid (CK.made w2 d)
  clear hbx
  generalize w2.alloc (.cells #[.int .i64 d.wt, .int .i64 (d.s 0), .int .i64 (d.s 1), .int .i64 (d.s 2), .int .i64 (d.s 3), .bool d.aw] 119) = w3 at *
  generalize w2.heap.size = kb at *
  obtain ⟨k0, k1, k2, k3, k4, k5⟩ := HK3.out.cells
  have ks := HK3.out.lt
  obtain ⟨n0, n1, n2, n3⟩ := HN3.out.cells
  have nl := HN3.out.lt
  have nf0 := HN3.out.fz 0; have nf1 := HN3.out.fz 1; have nf2 := HN3.out.fz 2; have nf3 := HN3.out.fz 3
  have HS := Lib.hid (HN3.out.set4 d.s)
  have HNL := Lib.hid (show w.heap.size ≤ nb from Nat.le_of_eq HNB.out.symm)
  have HBS := Lib.hid (show Below w.heap.size w ((((w3.setCell ⟨nb, 0, none⟩ (.int .i64 (d.s 0))).setCell ⟨nb, 1, none⟩ (.int .i64 (d.s 1))).setCell ⟨nb, 2, none⟩ (.int .i64 (d.s 2))).setCell ⟨nb, 3, none⟩ (.int .i64 (d.s 3))) from (((HB3.out.setCell (p := ⟨nb, 0, none⟩) HNL.out _).setCell (p := ⟨nb, 1, none⟩) HNL.out _).setCell (p := ⟨nb, 2, none⟩) HNL.out _).setCell (p := ⟨nb, 3, none⟩) HNL.out _)
  go_wp2
  refine bodyPost_ret (res_nb Tryz.results52 rfl rfl HS.out) rfl ?_
  exact ⟨rfl, HBS.out⟩
end
end
section
open Go.RowKit Go.Maps
attribute [local go_sem] ext_cell ext_frozen extC_cell extC_frozen Mix.calmUpon Mix.mUpon
/-- A variable that holds a share. -/
def HB3 (w : World) (b : Nat) (n d x : Int) : Prop := w.heap[b]? = some (.cells #[.int .i64 n, .int .i64 d, .int .i64 x] 44 (0, 0))
section
variable {w w' : World} {sp M tp b : Nat} {T : Nat → Int} {G : Int → Option Cl} {L : List Pl} {c : Cl} {i x n d : Int} {F : Nat → Prop}
theorem HB3.made (w : World) (n d x : Int) : HB3 (w.alloc (.cells #[.int .i64 n, .int .i64 d, .int .i64 x] 44)) w.heap.size n d x := heap_alloc_new w _
theorem HB3.lt (h : HB3 w b n d x) : b < w.heap.size := (Array.getElem?_eq_some_iff.1 h).1
theorem HB3.below (h : HB3 w b n d x) (hb : Below w.heap.size w w') : HB3 w' b n d x := (hb.block _ h.lt).trans h
theorem HB3.cells (h : HB3 w b n d x) : w.cell? ⟨b, 0, none⟩ = some (.int .i64 n) ∧ w.cell? ⟨b, 1, none⟩ = some (.int .i64 d) ∧ w.cell? ⟨b, 2, none⟩ = some (.int .i64 x) := by
  unfold HB3 at h; simp [World.cell?, h]
theorem HB3.fz (h : HB3 w b n d x) (o : Nat) : w.frozen? ⟨b, o, none⟩ = false := by unfold HB3 at h; simp [World.frozen?, h]
theorem HB3.set3 (h : HB3 w b n d x) (n' d' x' : Int) : HB3 (((w.setCell ⟨b, 0, none⟩ (.int .i64 n')).setCell ⟨b, 1, none⟩ (.int .i64 d')).setCell ⟨b, 2, none⟩ (.int .i64 x')) b n' d' x' := heap_setCell_at _ (heap_setCell_at _ (heap_setCell_at _ h))
theorem HB3.load (h : HB3 w b n d x) : (loadVar 44 ⟨b, 0, none⟩).run Tryz.prog w = .ok (S3 n d x) w := by
  obtain ⟨h0, h1, h2⟩ := h.cells
  have hs := h.lt
  simp [go_sem, h0, h1, h2, hs]
theorem res_hb {fn : Func} {tmps : Array Value} {p q : Nat} {e : Value} (h : fn.results = #[.cell p 44, .tmp q]) (hp : tmps.getD p undef = .pointer (some ⟨b, 0, none⟩)) (hq : tmps.getD q undef = e) (hb : HB3 w b n d x) :
    (results fn tmps).run Tryz.prog w = .ok (.tuple #[S3 n d x, e]) w := by
  rw [results_cell_tmp h, hp, hq]
  simp [asAddr, Result.andThen, hb.load]
theorem field_place (p : Pl) (w : World) : (Instr.field 103 (plv p) 0).run Tryz.prog w = .ok (S3 p.n p.d p.w) w := by kernel_rfl
set_option maxRecDepth 100000 in
set_option maxHeartbeats 1000000 in
theorem sshare_none (h : SM w sp M tp T G L) (hi : I64 i) (hg : G i = none) : Calls Tryz.prog 37 #[ptr sp, .int .i64 i] w fun e w' => e = .returned (.tuple #[S3 0 0 0, .bool false]) ∧ Below w.heap.size w w' := by
  have hb := ba (Below.refl w.heap.size w) (.cells #[.int .i64 0, .int .i64 0, .int .i64 0] 44)
  have hf := sget (h.below hb) hi
  unfold sgA at hf
  rw [hg] at hf
  have HB := Lib.hid hb; have H := Lib.hid h
  have HN := Lib.hid (HB3.made w 0 0 0)
  obtain ⟨c, hcz⟩ : ∃ c, clv clz = clv c := ⟨_, rfl⟩
  simp only [hcz] at hf
  have HF := Lib.hid hf
  clear hcz h hi hg hb hf
  go_enter Tryz.func37, Tryz.ntmps37
  go_upto_region 1 with (fail)
  generalize w.alloc (.cells #[.int .i64 0, .int .i64 0, .int .i64 0] 44) = w1 at *
  obtain ⟨nb, hnb⟩ : ∃ b, b = w.heap.size := ⟨_, rfl⟩
  rw [← hnb] at HN ⊢
  have HNL := Lib.hid (show w.heap.size ≤ nb from Nat.le_of_eq hnb.symm)
  clear hnb
  go_wp2_with fail
  refine HF.out.mono ?_
  rintro e w2 ⟨rfl, hb2⟩
  have HB2 := Lib.hid (bt HB.out hb2)
  have HN2 := Lib.hid (HN.out.below hb2)
  clear hb2
  go_upto_region 2 with (fail)
  have hbx := ba (Below.refl w2.heap.size w2) (.cells #[.int .i64 c.wt, .int .i64 (c.s 0), .int .i64 (c.s 1), .int .i64 (c.s 2), .int .i64 (c.s 3), .bool c.aw] 119)
  have HB3 := Lib.hid (bt HB2.out hbx)
  have HN3 := Lib.hid (HN2.out.below hbx)
  have HK3 := Lib.hid (CK.made w2 c)
  clear hbx
  generalize w2.alloc (.cells #[.int .i64 c.wt, .int .i64 (c.s 0), .int .i64 (c.s 1), .int .i64 (c.s 2), .int .i64 (c.s 3), .bool c.aw] 119) = w3 at *
  generalize w2.heap.size = kb at *
  obtain ⟨n0, n1, n2⟩ := HN3.out.cells
  have nl := HN3.out.lt
  have nf0 := HN3.out.fz 0; have nf1 := HN3.out.fz 1; have nf2 := HN3.out.fz 2
  have HS := Lib.hid (HN3.out.set3 (0) (0) (0))
  have HBS := Lib.hid (show Below w.heap.size w (((w3.setCell ⟨nb, 0, none⟩ (.int .i64 (0))).setCell ⟨nb, 1, none⟩ (.int .i64 (0))).setCell ⟨nb, 2, none⟩ (.int .i64 (0))) from ((HB3.out.setCell (p := ⟨nb, 0, none⟩) HNL.out _).setCell (p := ⟨nb, 1, none⟩) HNL.out _).setCell (p := ⟨nb, 2, none⟩) HNL.out _)
  go_wp2
  refine bodyPost_ret (res_hb Tryz.results37 rfl rfl HS.out) rfl ?_
  exact ⟨rfl, HBS.out⟩
set_option maxRecDepth 100000 in
set_option maxHeartbeats 1000000 in
theorem sshare_some (h : SM w sp M tp T G L) (hi : I64 i) (hg : G i = some c) : Calls Tryz.prog 37 #[ptr sp, .int .i64 i] w fun e w' => e = .returned (.tuple #[S3 (domV c.s T).2.1 (domV c.s T).2.2 c.wt, .bool true]) ∧ Below w.heap.size w w' := by
  have hb := ba (Below.refl w.heap.size w) (.cells #[.int .i64 0, .int .i64 0, .int .i64 0] 44)
  have hf := sget (h.below hb) hi
  unfold sgA at hf
  rw [hg] at hf
  have HB := Lib.hid hb; have H := Lib.hid h
  have HN := Lib.hid (HB3.made w 0 0 0)
  have HP := Lib.hid fun w' (h' : SM w' sp M tp T G L) => splace h'.o i c
  obtain ⟨pn, hpn⟩ : ∃ x, (domV c.s T).2.1 = x := ⟨_, rfl⟩
  obtain ⟨pd, hpd⟩ : ∃ x, (domV c.s T).2.2 = x := ⟨_, rfl⟩
  rw [show plOf T i c = ⟨pn, pd, c.wt, i⟩ by rw [← hpn, ← hpd]; rfl] at HP
  rw [hpn, hpd]
  have HF := Lib.hid hf
  have hfl := field_place ⟨pn, pd, c.wt, i⟩
  clear h hi hg hb hf hpn hpd
  go_enter Tryz.func37, Tryz.ntmps37
  go_upto_region 1 with (fail)
  generalize w.alloc (.cells #[.int .i64 0, .int .i64 0, .int .i64 0] 44) = w1 at *
  obtain ⟨nb, hnb⟩ : ∃ b, b = w.heap.size := ⟨_, rfl⟩
  rw [← hnb] at HN ⊢
  have HNL := Lib.hid (show w.heap.size ≤ nb from Nat.le_of_eq hnb.symm)
  clear hnb
  go_wp2_with fail
  refine HF.out.mono ?_
  rintro e w2 ⟨rfl, hb2⟩
  have HB2 := Lib.hid (bt HB.out hb2)
  have HN2 := Lib.hid (HN.out.below hb2)
  clear hb2
  go_upto_region 2 with (fail)
  have hbx := ba (Below.refl w2.heap.size w2) (.cells #[.int .i64 c.wt, .int .i64 (c.s 0), .int .i64 (c.s 1), .int .i64 (c.s 2), .int .i64 (c.s 3), .bool c.aw] 119)
  have HB3 := Lib.hid (bt HB2.out hbx)
  have HN3 := Lib.hid (HN2.out.below hbx)
  have HK3 := Lib.hid (CK.made w2 c)
  clear hbx
  generalize w2.alloc (.cells #[.int .i64 c.wt, .int .i64 (c.s 0), .int .i64 (c.s 1), .int .i64 (c.s 2), .int .i64 (c.s 3), .bool c.aw] 119) = w3 at *
  generalize w2.heap.size = kb at *
  obtain ⟨k0, k1, k2, k3, k4, k5⟩ := HK3.out.cells
  have ks := HK3.out.lt
  go_wp2_with fail
  refine (HP.out _ (H.out.below HB3.out)).mono ?_
  rintro e w4 ⟨rfl, hb4⟩
  have HB3 := Lib.hid (bt HB3.out hb4)
  have HN3 := Lib.hid (HN3.out.below hb4)
  clear hb4 k0 k1 k2 k3 k4 k5 ks
  obtain ⟨n0, n1, n2⟩ := HN3.out.cells
  have nl := HN3.out.lt
  have nf0 := HN3.out.fz 0; have nf1 := HN3.out.fz 1; have nf2 := HN3.out.fz 2
  have HS := Lib.hid (HN3.out.set3 (pn) (pd) (c.wt))
  have HBS := Lib.hid (show Below w.heap.size w (((w4.setCell ⟨nb, 0, none⟩ (.int .i64 (pn))).setCell ⟨nb, 1, none⟩ (.int .i64 (pd))).setCell ⟨nb, 2, none⟩ (.int .i64 (c.wt))) from ((HB3.out.setCell (p := ⟨nb, 0, none⟩) HNL.out _).setCell (p := ⟨nb, 1, none⟩) HNL.out _).setCell (p := ⟨nb, 2, none⟩) HNL.out _)
  go_wp2
  refine bodyPost_ret (res_hb Tryz.results37 rfl rfl HS.out) rfl ?_
  exact ⟨rfl, HBS.out⟩
/-- The number of clients. -/
theorem SM.len (h : SM w sp M tp T G L) (ty : TypeId) {S : List Int} (hn : S.Nodup) (hs : ∀ i, i ∈ S ↔ (G i).isSome = true) : (Builtin.len_ #[99] ty #[.map (some M)]).run Tryz.prog w = .ok (.int .i64 (S.length : Nat)) w := by
  obtain ⟨E, hm, hl⟩ := h.m
  have h1 := hm.len Tryz.underlying99 ty
  have hmem : ∀ x, x ∈ E.map (·.1) ↔ (G x).isSome = true := fun x => by
    have h2 := hl x
    constructor
    · intro hk
      obtain ⟨p, hp, rfl⟩ := List.mem_map.1 hk
      have h3 := look_of_mem hm.nodup (x := p.1) (v := p.2) hp
      rw [h2] at h3
      cases hf : G p.1 with
      | none => rw [hf] at h3; cases h3
      | some c => rfl
    · intro hk
      obtain ⟨c, hc⟩ := Option.isSome_iff_exists.1 hk
      rw [hc] at h2
      exact List.mem_map.2 ⟨_, look_mem h2, rfl⟩
  have e : E.length = S.length := by
    have a := nodup_le hm.nodup (B := S) fun x hx => (hs x).2 ((hmem x).1 hx)
    have b := nodup_le hn (B := E.map (·.1)) fun x hx => (hmem x).2 ((hs x).1 hx)
    simp at a b
    omega
  rw [← e]; exact h1
theorem slong (h : SM w sp M tp T G L) {S : List Int} (hn : S.Nodup) (hs : ∀ i, i ∈ S ↔ (G i).isSome = true) : Calls Tryz.prog 55 #[ptr sp] w fun e w' => e = .returned (.int .i64 (S.length : Nat)) ∧ w' = w := by
  have hlen := h.len 3 hn hs
  obtain ⟨x0, x1, x2, x3, x4, x5⟩ := h.o.cells
  have xs := h.o.lt
  have H := Lib.hid h
  clear h hs hn
  generalize S.length = m at *
  go_enter Tryz.func55, Tryz.ntmps55
  go_wp2_with fail
  refine (smade H.out.o).mono ?_
  rintro e w1 ⟨rfl, rfl⟩
  go_wp2
  go_ret
  exact ⟨rfl, rfl⟩
end
end
section
open Go.RowKit Go.Maps
attribute [local go_sem] ext_cell ext_frozen extC_cell extC_frozen Mix.calmUpon Mix.mUpon
def n1 (x : Int) : List Value := [.int .i64 x]
theorem infoI64 : (Tryz.prog.info? 2).map (fun i => (i.zero, i.size, i.bytes)) = some (some (.int .i64 0), 1, 8) := by kernel_rfl
theorem app_i64 {w : World} {base : Nat} {v : Value} {l : List Int} {b : Nat} (h : OwnL 2 1 n1 w base v l) (x : Int) (hx : w.cell? ⟨b, 0, none⟩ = some (.int .i64 x)) (hl : l.length < 1000000) (hb : base ≤ w.heap.size) :
    ∃ v' w', (Builtin.append_ #[57, 57] 57 #[v, .slice (some ⟨b, 0, none⟩) 1 1]).run Tryz.prog w = .ok v' w' ∧ OwnL 2 1 n1 w' base v' (l ++ [x]) ∧ w.grownBy w' v.ownBlock ∧ (v'.ownBlock = v.ownBlock ∨ v'.ownBlock = some w.heap.size) := by
  obtain ⟨i0, hi, hz0, hz1, hz2⟩ := info_parts infoI64
  exact OwnL.app h Tryz.underlying57 hi hz0 hz1 hz2 rfl (by decide) (fun _ => rfl) x (fun j u hj => by
      rcases j with _ | j <;> simp [n1] at hj
      subst hj; exact hx) (fun u hu => by simp [n1] at hu; subst hu; rfl) (by omega) (by unfold maxLen; omega) hb
/-- The clients, in order. -/
def ids (L : List Pl) : List Int := L.map (·.i)
/-- A call that answers a list of numbers in a row of its own. -/
def RetI (l : List Int) (w : World) (e : Ending) (w' : World) : Prop := ∃ v, e = .returned v ∧ OwnL 2 1 n1 w' w.heap.size v l ∧ Below w.heap.size w w'
section
variable {w w' : World} {sp M tp b : Nat} {T : Nat → Int} {G : Int → Option Cl} {L : List Pl}
set_option maxRecDepth 100000 in
set_option maxHeartbeats 1000000 in
theorem sorder (h : SM w sp M tp T G L) (hl : L.length < 1000000) : Calls Tryz.prog 59 #[ptr sp] w (RetI (ids L) w) := by
  have H := Lib.hid h
  obtain ⟨x0, x1, x2, x3, x4, x5⟩ := h.o.cells
  have xs := h.o.lt
  have HA := Lib.hid (tall h.t hl)
  clear h
  go_enter Tryz.func59, Tryz.ntmps59
  go_wp2_with fail
  refine (smade H.out.o).mono ?_
  rintro e w0 ⟨rfl, rfl⟩
  go_wp2_with fail
  refine HA.out.mono ?_
  rintro e w1 ⟨v1, rfl, ho1, hb1⟩
  obtain ⟨a, n, cp, rfl, hn, hc, hm, hat⟩ := (ho1.rs nenc_len).at_
  have HAT := Lib.hid hat; have HN := Lib.hid hn
  have HB1 := Lib.hid hb1
  have hnb : n < 1000000 := by omega
  have hw0 := hb1.size
  clear hat ho1 hn hb1 x0 x1 x2 x3 x4 x5 xs hl
  go_wp2
  go_loopw [3, 5, 15] (fun lv _ iv wr => ∃ t : Nat, t ≤ n ∧ iv = .int .i64 t ∧ Hid (OwnL 2 1 n1 wr w1.heap.size lv (ids (L.take t)) ∧ Below w1.heap.size w1 wr)) (fun _ _ iv _ => n - (intOf iv).toNat)
  case atStart => exact ⟨0, Nat.zero_le _, rfl, Lib.hid ⟨OwnL.nil _ _ _ _ _, Below.refl _ _⟩⟩
  case round =>
    obtain ⟨t, ht, rfl, HQ⟩ := hrel
    obtain ⟨w2, rfl⟩ : ∃ w2, w2 = wr := ⟨_, rfl⟩
    by_cases hlt : t < n
    · have hts : (t : Int) < (n : Int) := by omega
      obtain ⟨x, hx⟩ := at_lt (l := L) (i := t) (by rw [← HN.out]; exact hlt)
      obtain ⟨b, off, rfl, hb, hcell⟩ := HAT.out t x hx
      have e0 := (HQ.out.2.cell (p := ⟨b, off + t * 4 + 0, none⟩) hb).trans (hcell 0 _ rfl)
      have e1 := (HQ.out.2.cell (p := ⟨b, off + t * 4 + 1, none⟩) hb).trans (hcell 1 _ rfl)
      have e2 := (HQ.out.2.cell (p := ⟨b, off + t * 4 + 2, none⟩) hb).trans (hcell 2 _ rfl)
      have e3 := (HQ.out.2.cell (p := ⟨b, off + t * 4 + 3, none⟩) hb).trans (hcell 3 _ rfl)
      simp only [Nat.add_zero] at e0
      have HX := Lib.hid (take_at hx)
      clear hcell hx
      have hw2 := HQ.out.2.size
      have HE := Lib.hid (show ids (L.take (t + 1)) = ids (L.take t) ++ [x.i] by rw [HX.out]; simp [ids])
      have hle : (ids (L.take t)).length < 1000000 := by
        have h3 := List.length_take_le t L
        simp [ids]; omega
      obtain ⟨v2, w3, hrun, o2, g2, _⟩ := app_i64 (b := w2.heap.size + 1) ((HQ.out.1.below (ba (ba (Below.refl _ _) (.cells #[.int .i64 x.n, .int .i64 x.d, .int .i64 x.w, .int .i64 x.i] 103)) (.cells #[.int .i64 x.i] 2)))) x.i (by simp [go_sem]) hle (by simp; omega)
      have HRA := Lib.hid hrun
      have HB := Lib.hid (show Below w1.heap.size w1 w3 from (ba (ba HQ.out.2 _) _).grown g2 (by simp; omega) (fun j hj => (HQ.out.1.lt j hj).1))
      have O2 := Lib.hid o2
      clear hrun o2 g2 hle
      go_wp2_with (at_builtin; refine wpList_app_run rfl _ _ _ rfl rfl rfl HRA.out ?_)
      go_roundw
      case rel => exact ⟨t + 1, by omega, by go_num, Lib.hid ⟨by rw [HE.out]; exact O2.out, HB.out⟩⟩
      case measure => simp [intOf]; omega
    · obtain rfl : n = t := by omega
      have hT : L.take n = L := by rw [HN.out, List.take_length]
      have HQ2 := HQ.out
      rw [hT] at HQ2
      have HQ2 := Lib.hid HQ2
      clear hT HQ
      go_wp2
      go_ret
      exact ⟨_, rfl, show OwnL _ _ _ _ _ _ _ from ownsRow_base HQ2.out.1 HB1.out.size, bt HB1.out HQ2.out.2⟩
end
end
end Go.Proofs.YtgfjmafdfbghnaaGreat

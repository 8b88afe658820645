/- The document's tiers: Part. -/
import Derived.Test.YtgfjmafdfbghnaaGreatTgI
namespace Go.Proofs.YtgfjmafdfbghnaaGreat
open Go.RowKit Go.Maps
attribute [local go_sem] ext_cell ext_frozen extC_cell extC_frozen Mix.calmUpon Mix.mUpon
set_option maxRecDepth 100000 in
set_option maxHeartbeats 2000000 in
theorem rpartx (T : Nat → Int) (a : Option Addr) (m k : Nat) (s : Nat → Int) : Pure Tryz.prog 15 #[mvx T (.slice a m k), S4 s] (F2 (domV s T).2.1 (domV s T).2.2) := by
  intro w
  obtain ⟨dk, hdk⟩ : ∃ x, (domV s T).1 = x := ⟨_, rfl⟩
  obtain ⟨pn, hpn⟩ : ∃ x, (domV s T).2.1 = x := ⟨_, rfl⟩
  obtain ⟨pd, hpd⟩ : ∃ x, (domV s T).2.2 = x := ⟨_, rfl⟩
  have HD := Lib.hid (refdominant_any s T)
  rw [hpn, hpd]
  rw [hdk, hpn, hpd] at HD
  clear hdk hpn hpd
  obtain ⟨w3, hw3⟩ : ∃ w3, w3 = ((w.alloc (.cells (mcellsx T (.slice a m k)) 28)).alloc (.cells (C4 s) 25)).alloc (.cells #[.int .i64 0, .int .i64 0] 42) := ⟨_, rfl⟩
  obtain ⟨b0, hb0⟩ : ∃ b, b = w.heap.size := ⟨_, rfl⟩
  obtain ⟨b1, hb1⟩ : ∃ b, b = b0 + 1 := ⟨_, rfl⟩
  obtain ⟨b2, hb2⟩ : ∃ b, b = b1 + 1 := ⟨_, rfl⟩
  have s1 : (w.alloc (.cells (mcellsx T (.slice a m k)) 28)).heap.size = b1 := by rw [hb1, hb0]; simp
  have s2 : ((w.alloc (.cells (mcellsx T (.slice a m k)) 28)).alloc (.cells (C4 s) 25)).heap.size = b2 := by rw [hb2, hb1, hb0]; simp
  have HM := Lib.hid (show MBx w3 b0 T (.slice a m k) from by rw [hw3, hb0]; exact (MBx.made w T _).below (ba (ba (Below.refl _ _) _) _))
  have HD1 := Lib.hid (show PBx w3 b1 s from by rw [hw3, ← s1]; exact (PBx.made _ s).below (ba (Below.refl _ _) _))
  have HF2 := Lib.hid (show FB9 w3 b2 0 0 from by rw [hw3, ← s2]; exact FB9.made _ 0 0)
  have HB := Lib.hid (show Below w.heap.size w w3 from by rw [hw3]; exact ba (ba (ba (Below.refl _ _) _) _) _)
  have HBQ := Lib.hid (And.intro hb0 (And.intro hb1 hb2))
  clear s1 s2
  obtain ⟨m0, m1, m2, m3, m4⟩ := HM.out.cells
  have ml := HM.out.lt
  obtain ⟨d0, d1, d2, d3⟩ := HD1.out.cells
  have dl := HD1.out.lt
  go_enter Tryz.func15, Tryz.ntmps15
  go_upto_region 1 with (fail)
  rw [← hb0, ← hb1, ← hb2, ← hw3]
  clear hw3 hb0 hb1 hb2
  go_wp2_with fail
  refine (HD.out w3).mono ?_
  rintro e w4 ⟨rfl, hb4⟩
  have hf4 := HF2.out.below hb4
  have HB4 := Lib.hid (bt HB.out hb4)
  have HB34 := Lib.hid hb4
  clear hb4 m0 m1 m2 m3 m4 ml d0 d1 d2 d3 dl
  have hb5 := ba (Below.refl w4.heap.size w4) (.cells #[.int .i64 pn, .int .i64 pd] 42)
  have HF5 := Lib.hid (hf4.below hb5)
  have HG5 := Lib.hid (FB9.made w4 pn pd)
  have HB5 := Lib.hid (bt HB4.out hb5)
  clear hf4 hb5
  go_upto_region 2 with (fail)
  generalize w4.alloc (.cells #[.int .i64 pn, .int .i64 pd] 42) = w5 at *
  generalize w4.heap.size = b4 at *
  obtain ⟨g0, g1⟩ := HG5.out.cells
  have gl := HG5.out.lt
  obtain ⟨f0, f1⟩ := HF5.out.cells
  have fl := HF5.out.lt
  have ff0 := HF5.out.fz 0; have ff1 := HF5.out.fz 1
  have HR := Lib.hid (HF5.out.set2 pn pd)
  have HB6 := Lib.hid (show Below w.heap.size w ((w5.setCell ⟨b2, 0, none⟩ (.int .i64 pn)).setCell ⟨b2, 1, none⟩ (.int .i64 pd)) from
    ((HB5.out.setCell (p := ⟨b2, 0, none⟩) (show w.heap.size ≤ b2 by have := HBQ.out; omega) _).setCell (p := ⟨b2, 1, none⟩) (show w.heap.size ≤ b2 by have := HBQ.out; omega) _))
  go_wp2
  refine bodyPost_ret (res_fr9 Tryz.results15 rfl HR.out) rfl ?_
  exact ⟨rfl, HB6.out⟩
section
variable {W w : World} {p : Nat} {T : Nat → Int} {D A B : List Fd} {P : Nat → Prop} {x : Fd} {i r : Int} {c : Cl}
theorem px_role (h : PX W w p T (A ++ x :: B) P) : Calls Tryz.prog 12 #[ptr p, .int .i64 x.id] w fun e w' => e = .returned (.tuple #[.int .i64 x.role, .bool true]) ∧ Below w.heap.size w w' :=
  h.ask fun MR MF lab t Q fr h1 hd => by
    obtain ⟨hf, hi, hr, -, d, hq, -⟩ := hd.here
    exact tirole_some h1 hi hf hq hr
theorem px_role_no (h : PX W w p T D P) (hi : I64 i) (hf : FR D i = none) : Calls Tryz.prog 12 #[ptr p, .int .i64 i] w fun e w' => e = .returned (.tuple #[.int .i64 0, .bool false]) ∧ Below w.heap.size w w' :=
  h.ask fun MR MF lab t Q fr h1 hd => tirole_none h1 hi (by rw [hd.fr]; exact hf)
theorem px_own (h : PX W w p T (A ++ x :: B) P) : Calls Tryz.prog 13 #[ptr p, .int .i64 x.id] w fun e w' => e = .returned (.tuple #[S3 (domV x.s T).2.1 (domV x.s T).2.2 1, .bool true]) ∧ Below w.heap.size w w' :=
  h.ask fun MR MF lab t Q fr h1 hd => by
    obtain ⟨hf, hi, hr, -, d, hq, hT, -, hg, -⟩ := hd.here
    have := tiown_some h1 hi hf hq hr hg
    rw [hT] at this
    exact this
theorem px_own_no (h : PX W w p T D P) (hi : I64 i) (hf : FR D i = none) : Calls Tryz.prog 13 #[ptr p, .int .i64 i] w fun e w' => e = .returned (.tuple #[S3 0 0 0, .bool false]) ∧ Below w.heap.size w w' :=
  h.ask fun MR MF lab t Q fr h1 hd => tiown_none h1 hi (by rw [hd.fr]; exact hf)
theorem px_share (h : PX W w p T D P) (hr : I64 r) (hg : GT D r = some c) : Calls Tryz.prog 17 #[ptr p, .int .i64 r] w fun e w' => e = .returned (.tuple #[S3 (domV c.s T).2.1 (domV c.s T).2.2 c.wt, .bool true]) ∧ Below w.heap.size w w' :=
  h.ask fun MR MF lab t Q fr h1 hd => by
    have := tishare_some h1 hr (by rw [hd.tg]; exact hg)
    rw [hd.tT] at this
    exact this
theorem px_share_no (h : PX W w p T D P) (hr : I64 r) (hg : GT D r = none) : Calls Tryz.prog 17 #[ptr p, .int .i64 r] w fun e w' => e = .returned (.tuple #[S3 0 0 0, .bool false]) ∧ Below w.heap.size w w' :=
  h.ask fun MR MF lab t Q fr h1 hd => tishare_none h1 hr (by rw [hd.tg]; exact hg)
theorem px_weight (h : PX W w p T D P) (hr : I64 r) (hg : GT D r = some c) : Calls Tryz.prog 16 #[ptr p, .int .i64 r] w fun e w' => e = .returned (.tuple #[.int .i64 c.wt, .bool true]) ∧ Below w.heap.size w w' :=
  h.ask fun MR MF lab t Q fr h1 hd => tiweight_some h1 hr (by rw [hd.tg]; exact hg)
theorem px_weight_no (h : PX W w p T D P) (hr : I64 r) (hg : GT D r = none) : Calls Tryz.prog 16 #[ptr p, .int .i64 r] w fun e w' => e = .returned (.tuple #[.int .i64 0, .bool false]) ∧ Below w.heap.size w w' :=
  h.ask fun MR MF lab t Q fr h1 hd => tiweight_none h1 hr (by rw [hd.tg]; exact hg)
end
theorem eqF10 (k r k' r' : Int) (w : World) : (Op.equalIn 10000 42 (.agg #[.int .i64 k, .int .i64 r]) (.agg #[.int .i64 k', .int .i64 r'])).run Tryz.prog w = .ok (k == k' && r == r') w := by
  have u4 := Tryz.underlying2
  have a4' := Tryz.isAgg2
  have z4 := Tryz.sizeOf2
  rw [show (10000 : Nat) = 9999 + 1 from rfl, Op.equalIn]
  simp only [Sem.run_bind, run_underlying Tryz.underlying42, Result.andThen_ok]
  go_simp
  by_cases e1 : k = k' <;> by_cases e2 : r = r' <;> simp [e1, e2]
theorem pworks10 : Pure Tryz.prog 11 #[] (.bool true) := fun W => works10 W
/-- A variable that holds a share. -/
def HBx (w : World) (b : Nat) (n d x : Int) : Prop := w.heap[b]? = some (.cells #[.int .i64 n, .int .i64 d, .int .i64 x] 44 (0, 0))
section
variable {w w' : World} {b : Nat} {n d x : Int}
theorem HBx.made (w : World) (n d x : Int) : HBx (w.alloc (.cells #[.int .i64 n, .int .i64 d, .int .i64 x] 44)) w.heap.size n d x := heap_alloc_new w _
theorem HBx.lt (h : HBx w b n d x) : b < w.heap.size := (Array.getElem?_eq_some_iff.1 h).1
theorem HBx.below (h : HBx w b n d x) (hb : Below w.heap.size w w') : HBx w' b n d x := (hb.block _ h.lt).trans h
theorem HBx.cells (h : HBx w b n d x) : w.cell? ⟨b, 0, none⟩ = some (.int .i64 n) ∧ w.cell? ⟨b, 1, none⟩ = some (.int .i64 d) ∧ w.cell? ⟨b, 2, none⟩ = some (.int .i64 x) := by unfold HBx at h; simp [World.cell?, h]
end
end Go.Proofs.YtgfjmafdfbghnaaGreat

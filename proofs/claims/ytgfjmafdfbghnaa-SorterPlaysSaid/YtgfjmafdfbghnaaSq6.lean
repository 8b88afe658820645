/- The document's sorter: Do. -/
import Derived.Test.YtgfjmafdfbghnaaSq5
namespace Go.Proofs.Ytgfjmafdfbghnaa
open Go.RowKit Go.Maps
attribute [local go_sem] ext_cell ext_frozen extC_cell extC_frozen Mix.calmUpon Mix.mUpon
-- what is read at the world wq; HBq : Below w1.heap.size w1 wq
-- the answer: the total TT and the value VV are laid into the block b2 at the world wq
-- the list is answered as it came in, at the world wq
-- a list that a call made at the world wc is answered: HO : OwnL .. w9 wc.heap.size (.slice ao mo co) D
-- the client in b4, which is ⟨a.i, CC⟩ at w5, takes its place in the list
-- the sums r that a call answered, in a new variable
/-- A variable that holds four numbers. -/
def PB9 (w : World) (b : Nat) (n : Nat → Int) : Prop := w.heap[b]? = some (.cells (C4 n) 25 (0, 0))
theorem PB9.made (w : World) (n : Nat → Int) : PB9 (w.alloc (.cells (C4 n) 25)) w.heap.size n := heap_alloc_new w _
theorem PB9.lt {w : World} {b : Nat} {n : Nat → Int} (h : PB9 w b n) : b < w.heap.size := (Array.getElem?_eq_some_iff.1 h).1
theorem PB9.below {w w' : World} {b : Nat} {n : Nat → Int} (h : PB9 w b n) (hb : Below w.heap.size w w') : PB9 w' b n := (hb.block _ h.lt).trans h
theorem PB9.cells {w : World} {b : Nat} {n : Nat → Int} (h : PB9 w b n) : w.cell? ⟨b, 0, none⟩ = some (.int .i64 (n 0)) ∧ w.cell? ⟨b, 1, none⟩ = some (.int .i64 (n 1)) ∧ w.cell? ⟨b, 2, none⟩ = some (.int .i64 (n 2)) ∧ w.cell? ⟨b, 3, none⟩ = some (.int .i64 (n 3)) := by
  unfold PB9 at h; simp [World.cell?, h]
section
variable {w : World} {v : Value} {C : List Dc} {T : Nat → Int} {G : Int → Option Cl}
set_option maxRecDepth 100000 in
set_option maxHeartbeats 8000000 in
theorem rdo9 (h : RS 7 dcenc w v C) (hvb : ∀ b, v.ownBlock = some b → b < w.heap.size) (hln : C.length < 800000) (hd : DC C G) (hs : ∀ i c, G i = some c → Sm4 c.s) (a : A9) :
    Calls Try.prog 7 #[mv9 T v, av9 a] w (RetD9 w v C.length (stp T G a)) := by
  obtain ⟨a0', n, cp, rfl, hn, hc, hm, hat⟩ := h.at_
  have HC := Lib.hid h; have HVB := Lib.hid hvb; have HDC := Lib.hid hd; have HSM := Lib.hid hs; have HAT := Lib.hid hat; have HN := Lib.hid hn
  have hn9 : n < 800000 := by omega
  obtain ⟨s, hsq⟩ : ∃ s, s = stp T G a := ⟨_, rfl⟩
  rw [← hsq]
  have HS := Lib.hid hsq
  obtain ⟨b0, hb0⟩ : ∃ b, b = w.heap.size := ⟨_, rfl⟩
  obtain ⟨b1, hb1⟩ : ∃ b, b = b0 + 1 := ⟨_, rfl⟩
  obtain ⟨b2, hb2⟩ : ∃ b, b = b1 + 1 := ⟨_, rfl⟩
  obtain ⟨w1, hw1⟩ : ∃ w1, w1 = ((w.alloc (.cells (mcells9 T (.slice a0' n cp)) 28)).alloc (.cells (acells9 a) 32)).alloc (.cells (mcells9 (fun _ => 0) (.slice none 0 0)) 28) := ⟨_, rfl⟩
  have s1 : (w.alloc (.cells (mcells9 T (.slice a0' n cp)) 28)).heap.size = b1 := by rw [hb1, hb0]; simp
  have s2 : ((w.alloc (.cells (mcells9 T (.slice a0' n cp)) 28)).alloc (.cells (acells9 a) 32)).heap.size = b2 := by rw [hb2, hb1, hb0]; simp
  have HM := Lib.hid (show MB9 w1 b0 T (.slice a0' n cp) from by rw [hw1, hb0]; exact (MB9.made w T _).below (ba (ba (Below.refl _ _) _) _))
  have HA := Lib.hid (show QB9 w1 b1 a from by rw [hw1, ← s1]; exact (QB9.made _ a).below (ba (Below.refl _ _) _))
  have H2 := Lib.hid (show MB9 w1 b2 (fun _ => 0) (.slice none 0 0) from by rw [hw1, ← s2]; exact MB9.made _ (fun _ => 0) _)
  have HB := Lib.hid (show Below w.heap.size w w1 from by rw [hw1]; exact ba (ba (ba (Below.refl _ _) _) _) _)
  have HBB := Lib.hid (And.intro hb0 (And.intro hb1 hb2))
  have HB1 := Lib.hid (Below.refl w1.heap.size w1)
  clear h hat hn hm hc hvb hd hs hsq s1 s2
  go_enter Try.func7, Try.ntmps7
  go_upto_region 1 with (fail)
  rw [← hb0, ← hb1, ← hb2, ← hw1]
  clear hb0 hb1 hb2 hw1
  obtain ⟨m0, m1, m2, m3, m4⟩ := (HM.out.below HB1.out).cells
  have ml := (HM.out.below HB1.out).lt
  obtain ⟨a0, a1, a2, a3, a4, a5, a6⟩ := (HA.out.below HB1.out).cells
  have al := (HA.out.below HB1.out).lt
  obtain ⟨s0, s1, s2, s3, s4⟩ := (H2.out.below HB1.out).cells
  have f0 := (H2.out.below HB1.out).fz 0; have f1 := (H2.out.below HB1.out).fz 1; have f2 := (H2.out.below HB1.out).fz 2; have f3 := (H2.out.below HB1.out).fz 3; have f4 := (H2.out.below HB1.out).fz 4
  have sl := (H2.out.below HB1.out).lt
  go_wp2_with fail
  clear m0 m1 m2 m3 m4 ml a0 a1 a2 a3 a4 a5 a6 al s0 s1 s2 s3 s4 f0 f1 f2 f3 f4 sl
  refine (rat9 (T := T) (HC.out.below HB.out) a.i).mono ?_
  rintro e w2 ⟨z, rfl, hz, hb2⟩
  have HZ := Lib.hid hz
  have HB2 := Lib.hid hb2
  clear hz hb2
  obtain ⟨m0, m1, m2, m3, m4⟩ := (HM.out.below HB2.out).cells
  have ml := (HM.out.below HB2.out).lt
  obtain ⟨a0, a1, a2, a3, a4, a5, a6⟩ := (HA.out.below HB2.out).cells
  have al := (HA.out.below HB2.out).lt
  obtain ⟨s0, s1, s2, s3, s4⟩ := (H2.out.below HB2.out).cells
  have f0 := (H2.out.below HB2.out).fz 0; have f1 := (H2.out.below HB2.out).fz 1; have f2 := (H2.out.below HB2.out).fz 2; have f3 := (H2.out.below HB2.out).fz 3; have f4 := (H2.out.below HB2.out).fz 4
  have sl := (H2.out.below HB2.out).lt
  by_cases hx1 : a.x < 1
  · have HX := Lib.hid (show ¬ (1 ≤ a.x ∧ a.x ≤ 1000) by omega)
    go_upto_region 3 with (fail)
    clear hx1
    by_cases k0 : a.k = 0
    · have hsn : s = stT T G a.n := by rw [HS.out]; unfold stp; rw [if_pos k0]
      have k0b : (a.k == 0) = true := by simpa using k0
      clear k0
      go_wp2_with fail
      clear m0 m1 m2 m3 m4 ml a0 a1 a2 a3 a4 a5 a6 al s0 s1 s2 s3 s4 f0 f1 f2 f3 f4 sl
      refine (rsmall9 a.n w2).mono ?_
      rintro e w3 ⟨rfl, hb3⟩
      have HB3 := Lib.hid (bt HB2.out hb3)
      clear hb3
      by_cases hS : Sm4 a.n
      · have HSE := Lib.hid (show s = (0, a.n, G) from by rw [hsn]; unfold stT; rw [if_pos hS])
        rw [decide_eq_true hS]
        clear hsn hS
        have HSQ := Lib.hid (show s = (0, a.n, G) from HSE.out)
        have HR := Lib.hid ((H2.out.below HB3.out).set5 (a.n) (.slice a0' n cp))
        have HST := Lib.hid (show Chg (fun k => k = b2) w3 (set5w w3 b2 (a.n) (.slice a0' n cp)) from
          ((((((Chg.refl (fun k => k = b2) w3).setCell (p := ⟨b2, 0, none⟩) (.inl rfl) _).setCell (p := ⟨b2, 1, none⟩) (.inl rfl) _).setCell (p := ⟨b2, 2, none⟩) (.inl rfl) _).setCell (p := ⟨b2, 3, none⟩) (.inl rfl) _).setCell (p := ⟨b2, 4, none⟩) (.inl rfl) _))
        have HBE := Lib.hid (show Below w.heap.size w (set5w w3 b2 (a.n) (.slice a0' n cp)) from (bt HB.out HB3.out).trans (HST.out.below (by have := (bt HB.out HB3.out).size; omega) fun k e => by have e : k = b2 := e; have := HBB.out; omega))
        obtain ⟨m0, m1, m2, m3, m4⟩ := (HM.out.below HB3.out).cells
        have ml := (HM.out.below HB3.out).lt
        obtain ⟨a0, a1, a2, a3, a4, a5, a6⟩ := (HA.out.below HB3.out).cells
        have al := (HA.out.below HB3.out).lt
        obtain ⟨s0, s1, s2, s3, s4⟩ := (H2.out.below HB3.out).cells
        have f0 := (H2.out.below HB3.out).fz 0; have f1 := (H2.out.below HB3.out).fz 1; have f2 := (H2.out.below HB3.out).fz 2; have f3 := (H2.out.below HB3.out).fz 3; have f4 := (H2.out.below HB3.out).fz 4
        have sl := (H2.out.below HB3.out).lt
        go_wp2
        refine bodyPost_ret (res_m9e Try.results7 rfl rfl HR.out) rfl ?_
        refine ⟨_, C, by rw [HSQ.out]; rfl, (HC.out.below (bt HB.out HB3.out)).chg HST.out fun b hb e => ?_, by rw [HSQ.out]; exact HDC.out, by omega, fun b hb => .inl hb, HBE.out⟩
        have e : b = b2 := e
        have := HVB.out b hb
        have := HBB.out
        omega
      · have HSE := Lib.hid (show s = (41, T, G) from by rw [hsn]; unfold stT; rw [if_neg hS])
        rw [decide_eq_false hS]
        clear hsn hS
        have HSQ := Lib.hid (show s = (41, T, G) from HSE.out)
        have HR := Lib.hid ((H2.out.below HB3.out).set5 (T) (.slice a0' n cp))
        have HST := Lib.hid (show Chg (fun k => k = b2) w3 (set5w w3 b2 (T) (.slice a0' n cp)) from
          ((((((Chg.refl (fun k => k = b2) w3).setCell (p := ⟨b2, 0, none⟩) (.inl rfl) _).setCell (p := ⟨b2, 1, none⟩) (.inl rfl) _).setCell (p := ⟨b2, 2, none⟩) (.inl rfl) _).setCell (p := ⟨b2, 3, none⟩) (.inl rfl) _).setCell (p := ⟨b2, 4, none⟩) (.inl rfl) _))
        have HBE := Lib.hid (show Below w.heap.size w (set5w w3 b2 (T) (.slice a0' n cp)) from (bt HB.out HB3.out).trans (HST.out.below (by have := (bt HB.out HB3.out).size; omega) fun k e => by have e : k = b2 := e; have := HBB.out; omega))
        obtain ⟨m0, m1, m2, m3, m4⟩ := (HM.out.below HB3.out).cells
        have ml := (HM.out.below HB3.out).lt
        obtain ⟨a0, a1, a2, a3, a4, a5, a6⟩ := (HA.out.below HB3.out).cells
        have al := (HA.out.below HB3.out).lt
        obtain ⟨s0, s1, s2, s3, s4⟩ := (H2.out.below HB3.out).cells
        have f0 := (H2.out.below HB3.out).fz 0; have f1 := (H2.out.below HB3.out).fz 1; have f2 := (H2.out.below HB3.out).fz 2; have f3 := (H2.out.below HB3.out).fz 3; have f4 := (H2.out.below HB3.out).fz 4
        have sl := (H2.out.below HB3.out).lt
        go_wp2
        refine bodyPost_ret (res_m9e Try.results7 rfl rfl HR.out) rfl ?_
        refine ⟨_, C, by rw [HSQ.out]; rfl, (HC.out.below (bt HB.out HB3.out)).chg HST.out fun b hb e => ?_, by rw [HSQ.out]; exact HDC.out, by omega, fun b hb => .inl hb, HBE.out⟩
        have e : b = b2 := e
        have := HVB.out b hb
        have := HBB.out
        omega
    have k0b : (a.k == 0) = false := by simpa using k0
    by_cases k1 : a.k = 1
    · have hsn : s = stP T G a.i a.x := by rw [HS.out]; unfold stp; rw [if_neg k0, if_pos k1]
      have k1b : (a.k == 1) = true := by simpa using k1
      clear k0 k1
      have HSE := Lib.hid (show s = (41, T, G) from by rw [hsn]; unfold stP; rw [if_neg HX.out])
      clear hsn
      clear m0 m1 m2 m3 m4 ml a0 a1 a2 a3 a4 a5 a6 al s0 s1 s2 s3 s4 f0 f1 f2 f3 f4 sl
      have HSQ := Lib.hid (show s = (41, T, G) from HSE.out)
      have HR := Lib.hid ((H2.out.below HB2.out).set5 (T) (.slice a0' n cp))
      have HST := Lib.hid (show Chg (fun k => k = b2) w2 (set5w w2 b2 (T) (.slice a0' n cp)) from
        ((((((Chg.refl (fun k => k = b2) w2).setCell (p := ⟨b2, 0, none⟩) (.inl rfl) _).setCell (p := ⟨b2, 1, none⟩) (.inl rfl) _).setCell (p := ⟨b2, 2, none⟩) (.inl rfl) _).setCell (p := ⟨b2, 3, none⟩) (.inl rfl) _).setCell (p := ⟨b2, 4, none⟩) (.inl rfl) _))
      have HBE := Lib.hid (show Below w.heap.size w (set5w w2 b2 (T) (.slice a0' n cp)) from (bt HB.out HB2.out).trans (HST.out.below (by have := (bt HB.out HB2.out).size; omega) fun k e => by have e : k = b2 := e; have := HBB.out; omega))
      obtain ⟨m0, m1, m2, m3, m4⟩ := (HM.out.below HB2.out).cells
      have ml := (HM.out.below HB2.out).lt
      obtain ⟨a0, a1, a2, a3, a4, a5, a6⟩ := (HA.out.below HB2.out).cells
      have al := (HA.out.below HB2.out).lt
      obtain ⟨s0, s1, s2, s3, s4⟩ := (H2.out.below HB2.out).cells
      have f0 := (H2.out.below HB2.out).fz 0; have f1 := (H2.out.below HB2.out).fz 1; have f2 := (H2.out.below HB2.out).fz 2; have f3 := (H2.out.below HB2.out).fz 3; have f4 := (H2.out.below HB2.out).fz 4
      have sl := (H2.out.below HB2.out).lt
      go_wp2
      refine bodyPost_ret (res_m9e Try.results7 rfl rfl HR.out) rfl ?_
      refine ⟨_, C, by rw [HSQ.out]; rfl, (HC.out.below (bt HB.out HB2.out)).chg HST.out fun b hb e => ?_, by rw [HSQ.out]; exact HDC.out, by omega, fun b hb => .inl hb, HBE.out⟩
      have e : b = b2 := e
      have := HVB.out b hb
      have := HBB.out
      omega
    have k1b : (a.k == 1) = false := by simpa using k1
    rcases HZ.out with ⟨t, d, rfl, ht, hti⟩ | ⟨rfl, hno⟩
    case inr =>
      have hgn : G a.i = none := by
        cases hg : G a.i with
        | none => rfl
        | some c => exact absurd rfl (hno ⟨a.i, c⟩ ((HDC.out.mem _).2 hg))
      have HSE := Lib.hid (show s = (43, T, G) from by
        rw [HS.out]; unfold stp; rw [if_neg k0, if_neg k1]
        unfold stD stW stA stG stK
        simp only [hgn]
        repeat' split
        all_goals rfl)
      clear hgn hno HZ
      clear m0 m1 m2 m3 m4 ml a0 a1 a2 a3 a4 a5 a6 al s0 s1 s2 s3 s4 f0 f1 f2 f3 f4 sl
      have HSQ := Lib.hid (show s = (43, T, G) from HSE.out)
      have HR := Lib.hid ((H2.out.below HB2.out).set5 (T) (.slice a0' n cp))
      have HST := Lib.hid (show Chg (fun k => k = b2) w2 (set5w w2 b2 (T) (.slice a0' n cp)) from
        ((((((Chg.refl (fun k => k = b2) w2).setCell (p := ⟨b2, 0, none⟩) (.inl rfl) _).setCell (p := ⟨b2, 1, none⟩) (.inl rfl) _).setCell (p := ⟨b2, 2, none⟩) (.inl rfl) _).setCell (p := ⟨b2, 3, none⟩) (.inl rfl) _).setCell (p := ⟨b2, 4, none⟩) (.inl rfl) _))
      have HBE := Lib.hid (show Below w.heap.size w (set5w w2 b2 (T) (.slice a0' n cp)) from (bt HB.out HB2.out).trans (HST.out.below (by have := (bt HB.out HB2.out).size; omega) fun k e => by have e : k = b2 := e; have := HBB.out; omega))
      obtain ⟨m0, m1, m2, m3, m4⟩ := (HM.out.below HB2.out).cells
      have ml := (HM.out.below HB2.out).lt
      obtain ⟨a0, a1, a2, a3, a4, a5, a6⟩ := (HA.out.below HB2.out).cells
      have al := (HA.out.below HB2.out).lt
      obtain ⟨s0, s1, s2, s3, s4⟩ := (H2.out.below HB2.out).cells
      have f0 := (H2.out.below HB2.out).fz 0; have f1 := (H2.out.below HB2.out).fz 1; have f2 := (H2.out.below HB2.out).fz 2; have f3 := (H2.out.below HB2.out).fz 3; have f4 := (H2.out.below HB2.out).fz 4
      have sl := (H2.out.below HB2.out).lt
      go_wp2
      refine bodyPost_ret (res_m9e Try.results7 rfl rfl HR.out) rfl ?_
      refine ⟨_, C, by rw [HSQ.out]; rfl, (HC.out.below (bt HB.out HB2.out)).chg HST.out fun b hb e => ?_, by rw [HSQ.out]; exact HDC.out, by omega, fun b hb => .inl hb, HBE.out⟩
      have e : b = b2 := e
      have := HVB.out b hb
      have := HBB.out
      omega
    have hgs : G a.i = some d.c := by rw [← hti]; exact (HDC.out.mem d).1 (mem_at ht)
    obtain ⟨di, c⟩ := d
    simp only at hti hgs
    subst hti
    have HT := Lib.hid ht
    have htn : t < n := by rw [HN.out]; exact (List.getElem?_eq_some_iff.1 ht).1
    obtain ⟨bs, off, rfl, hbs, hcell⟩ := HAT.out t _ ht
    have HBS := Lib.hid hbs
    have hbw := (bt HB.out HB2.out)
    have e0 := (hbw.cell (p := ⟨bs, off + t * 7 + 0, none⟩) hbs).trans (hcell 0 _ rfl)
    have e1 := (hbw.cell (p := ⟨bs, off + t * 7 + 1, none⟩) hbs).trans (hcell 1 _ rfl)
    have e2 := (hbw.cell (p := ⟨bs, off + t * 7 + 2, none⟩) hbs).trans (hcell 2 _ rfl)
    have e3 := (hbw.cell (p := ⟨bs, off + t * 7 + 3, none⟩) hbs).trans (hcell 3 _ rfl)
    have e4 := (hbw.cell (p := ⟨bs, off + t * 7 + 4, none⟩) hbs).trans (hcell 4 _ rfl)
    have e5 := (hbw.cell (p := ⟨bs, off + t * 7 + 5, none⟩) hbs).trans (hcell 5 _ rfl)
    have e6 := (hbw.cell (p := ⟨bs, off + t * 7 + 6, none⟩) hbs).trans (hcell 6 _ rfl)
    simp only [Nat.add_zero] at e0 e1 e2 e3 e4 e5 e6
    have hbs2 : bs < w2.heap.size := Nat.lt_of_lt_of_le hbs hbw.size
    have hti2 : (t : Int) < (n : Int) := by omega
    have hnn : ¬ (t : Int) < 0 := by omega
    have hb3 := ba (Below.refl w2.heap.size w2) (.cells (dccells ⟨a.i, c⟩) 52)
    have HD3 := Lib.hid (DB9.made w2 ⟨a.i, c⟩)
    have HB3 := Lib.hid (bt HB2.out hb3)
    have HGS := Lib.hid hgs
    have hsm := HSM.out _ _ hgs
    have HC4 := Lib.hid hsm
    clear hcell ht hbs hbw hb3 hgs HZ hsm
    go_upto_region 16 with (fail)
    clear m0 m1 m2 m3 m4 ml a0 a1 a2 a3 a4 a5 a6 al s0 s1 s2 s3 s4 f0 f1 f2 f3 f4 sl
    clear e0 e1 e2 e3 e4 e5 e6 hbs2
    generalize w2.alloc (.cells (dccells ⟨a.i, c⟩) 52) = w3 at *
    obtain ⟨b4, hb4⟩ : ∃ b, b = w2.heap.size := ⟨_, rfl⟩
    rw [← hb4] at HD3 ⊢
    have HW4 := Lib.hid (show w1.heap.size ≤ b4 from by rw [hb4]; exact HB2.out.size)
    clear hb4
    have HWC := Lib.hid (show w1.heap.size ≤ w3.heap.size from HB3.out.size)
    obtain ⟨d0, d1, d2, d3, d4, d5, d6⟩ := HD3.out.cells
    have dl := HD3.out.lt
    have df1 := HD3.out.fz 1; have df2 := HD3.out.fz 2; have df3 := HD3.out.fz 3; have df4 := HD3.out.fz 4; have df5 := HD3.out.fz 5; have df6 := HD3.out.fz 6
    by_cases k2 : a.k = 2
    · have HSQ := Lib.hid (show s = (0, T, upd G a.i none) from by
        rw [HS.out]; unfold stp; rw [if_neg k0, if_neg k1, if_pos k2]; unfold stD; simp only [HGS.out])
      have k2b : (a.k == 2) = true := by simpa using k2
      clear k0 k1 k2
      have HDX := Lib.hid (HDC.out.out HT.out)
      have HW := Lib.hid (rwithout9 (T := T) (HC.out.below (bt HB.out HB3.out)) (by have := HN.out; omega) t)
      obtain ⟨m0, m1, m2, m3, m4⟩ := (HM.out.below HB3.out).cells
      have ml := (HM.out.below HB3.out).lt
      obtain ⟨a0, a1, a2, a3, a4, a5, a6⟩ := (HA.out.below HB3.out).cells
      have al := (HA.out.below HB3.out).lt
      obtain ⟨s0, s1, s2, s3, s4⟩ := (H2.out.below HB3.out).cells
      have f0 := (H2.out.below HB3.out).fz 0; have f1 := (H2.out.below HB3.out).fz 1; have f2 := (H2.out.below HB3.out).fz 2; have f3 := (H2.out.below HB3.out).fz 3; have f4 := (H2.out.below HB3.out).fz 4
      have sl := (H2.out.below HB3.out).lt
      go_wp2_with fail
      clear m0 m1 m2 m3 m4 ml a0 a1 a2 a3 a4 a5 a6 al s0 s1 s2 s3 s4 f0 f1 f2 f3 f4 sl
      clear d0 d1 d2 d3 d4 d5 d6 dl df1 df2 df3 df4 df5 df6
      refine HW.out.mono ?_
      rintro e w9 ⟨v9, rfl, ho9, hb9⟩
      have HB9 := Lib.hid (bt HB3.out hb9)
      have HO9 := Lib.hid ho9
      clear ho9 hb9 HW
      obtain ⟨ao, mo, co, hvo⟩ : ∃ ao mo co, v9 = .slice ao mo co := by
        rcases HO9.out.2 with ⟨hv, h0⟩ | ⟨g', cap', cur', hv, _⟩
        · exact ⟨_, _, _, hv⟩
        · exact ⟨_, _, _, hv⟩
      subst hvo
      have HR := Lib.hid ((H2.out.below HB9.out).set5 (T) (.slice ao mo co))
      have HST := Lib.hid (show Chg (fun k => k = b2) w9 (set5w w9 b2 (T) (.slice ao mo co)) from
        ((((((Chg.refl (fun k => k = b2) w9).setCell (p := ⟨b2, 0, none⟩) (.inl rfl) _).setCell (p := ⟨b2, 1, none⟩) (.inl rfl) _).setCell (p := ⟨b2, 2, none⟩) (.inl rfl) _).setCell (p := ⟨b2, 3, none⟩) (.inl rfl) _).setCell (p := ⟨b2, 4, none⟩) (.inl rfl) _))
      have HBE := Lib.hid (show Below w.heap.size w (set5w w9 b2 (T) (.slice ao mo co)) from (bt HB.out HB9.out).trans (HST.out.below (by have := (bt HB.out HB9.out).size; omega) fun k e => by have e : k = b2 := e; have := HBB.out; omega))
      obtain ⟨m0, m1, m2, m3, m4⟩ := (HM.out.below HB9.out).cells
      have ml := (HM.out.below HB9.out).lt
      obtain ⟨a0, a1, a2, a3, a4, a5, a6⟩ := (HA.out.below HB9.out).cells
      have al := (HA.out.below HB9.out).lt
      obtain ⟨s0, s1, s2, s3, s4⟩ := (H2.out.below HB9.out).cells
      have f0 := (H2.out.below HB9.out).fz 0; have f1 := (H2.out.below HB9.out).fz 1; have f2 := (H2.out.below HB9.out).fz 2; have f3 := (H2.out.below HB9.out).fz 3; have f4 := (H2.out.below HB9.out).fz 4
      have sl := (H2.out.below HB9.out).lt
      go_wp2
      refine bodyPost_ret (res_m9e Try.results7 rfl rfl HR.out) rfl ?_
      have hol := HO9.out.lt
      have hbb := HBB.out
      refine ⟨.slice ao mo co, (C.eraseIdx t), by rw [HSQ.out]; rfl, (HO9.out.chg HST.out fun b hb e => ?_).rs (fun _ => rfl), by rw [HSQ.out]; exact HDX.out, by first | (simp; done) | (simp; omega) | (have := List.length_eraseIdx_le C t; omega), fun b hb => .inr ?_, HBE.out⟩
      · have e : b = b2 := e
        have := (hol b hb).1
        have := H2.out.lt
        have := HWC.out
        omega
      · have q := hol b hb
        have := HWC.out
        have := HB.out.size
        exact ⟨by omega, Nat.lt_of_lt_of_le q.2 HST.out.size⟩
    have k2b : (a.k == 2) = false := by simpa using k2
    by_cases k3 : a.k = 3
    · have hsn : s = stW T G a.i a.x := by rw [HS.out]; unfold stp; rw [if_neg k0, if_neg k1, if_neg k2, if_pos k3]
      have k3b : (a.k == 3) = true := by simpa using k3
      clear k0 k1 k2 k3
      have HSE := Lib.hid (show s = (41, T, G) from by rw [hsn]; unfold stW; simp only [HGS.out]; rw [if_neg HX.out])
      clear hsn
      clear d0 d1 d2 d3 d4 d5 d6 dl df1 df2 df3 df4 df5 df6
      have HSQ := Lib.hid (show s = (41, T, G) from HSE.out)
      have HR := Lib.hid ((H2.out.below HB3.out).set5 (T) (.slice (some ⟨bs, off, none⟩) n cp))
      have HST := Lib.hid (show Chg (fun k => k = b2) w3 (set5w w3 b2 (T) (.slice (some ⟨bs, off, none⟩) n cp)) from
        ((((((Chg.refl (fun k => k = b2) w3).setCell (p := ⟨b2, 0, none⟩) (.inl rfl) _).setCell (p := ⟨b2, 1, none⟩) (.inl rfl) _).setCell (p := ⟨b2, 2, none⟩) (.inl rfl) _).setCell (p := ⟨b2, 3, none⟩) (.inl rfl) _).setCell (p := ⟨b2, 4, none⟩) (.inl rfl) _))
      have HBE := Lib.hid (show Below w.heap.size w (set5w w3 b2 (T) (.slice (some ⟨bs, off, none⟩) n cp)) from (bt HB.out HB3.out).trans (HST.out.below (by have := (bt HB.out HB3.out).size; omega) fun k e => by have e : k = b2 := e; have := HBB.out; omega))
      obtain ⟨m0, m1, m2, m3, m4⟩ := (HM.out.below HB3.out).cells
      have ml := (HM.out.below HB3.out).lt
      obtain ⟨a0, a1, a2, a3, a4, a5, a6⟩ := (HA.out.below HB3.out).cells
      have al := (HA.out.below HB3.out).lt
      obtain ⟨s0, s1, s2, s3, s4⟩ := (H2.out.below HB3.out).cells
      have f0 := (H2.out.below HB3.out).fz 0; have f1 := (H2.out.below HB3.out).fz 1; have f2 := (H2.out.below HB3.out).fz 2; have f3 := (H2.out.below HB3.out).fz 3; have f4 := (H2.out.below HB3.out).fz 4
      have sl := (H2.out.below HB3.out).lt
      go_wp2
      refine bodyPost_ret (res_m9e Try.results7 rfl rfl HR.out) rfl ?_
      refine ⟨_, C, by rw [HSQ.out]; rfl, (HC.out.below (bt HB.out HB3.out)).chg HST.out fun b hb e => ?_, by rw [HSQ.out]; exact HDC.out, by omega, fun b hb => .inl hb, HBE.out⟩
      have e : b = b2 := e
      have := HVB.out b hb
      have := HBB.out
      omega
    have k3b : (a.k == 3) = false := by simpa using k3
    by_cases k4 : a.k = 4
    · have HSE := Lib.hid (show s = (0, T, upd G a.i (some { c with aw := true })) from by
        rw [HS.out]; unfold stp; rw [if_neg k0, if_neg k1, if_neg k2, if_neg k3, if_pos k4]; unfold stA; simp only [HGS.out])
      have k4b : (a.k == 4) = true := by simpa using k4
      clear k0 k1 k2 k3 k4
      have HB4 := Lib.hid (show Below w1.heap.size w1 (w3.setCell ⟨b4, 6, none⟩ (.bool true)) from HB3.out.setCell (p := ⟨b4, 6, none⟩) HW4.out (.bool true))
      have HD4 := Lib.hid (HD3.out.seta true)
      obtain ⟨m0, m1, m2, m3, m4⟩ := (HM.out.below HB3.out).cells
      have ml := (HM.out.below HB3.out).lt
      obtain ⟨a0, a1, a2, a3, a4, a5, a6⟩ := (HA.out.below HB3.out).cells
      have al := (HA.out.below HB3.out).lt
      obtain ⟨s0, s1, s2, s3, s4⟩ := (H2.out.below HB3.out).cells
      have f0 := (H2.out.below HB3.out).fz 0; have f1 := (H2.out.below HB3.out).fz 1; have f2 := (H2.out.below HB3.out).fz 2; have f3 := (H2.out.below HB3.out).fz 3; have f4 := (H2.out.below HB3.out).fz 4
      have sl := (H2.out.below HB3.out).lt
      go_upto_region 36 with (fail)
      clear m0 m1 m2 m3 m4 ml a0 a1 a2 a3 a4 a5 a6 al s0 s1 s2 s3 s4 f0 f1 f2 f3 f4 sl
      clear d0 d1 d2 d3 d4 d5 d6 dl df1 df2 df3 df4 df5 df6
      generalize w3.setCell ⟨b4, 6, none⟩ (.bool true) = w4 at *
      have HSQ := HSE
      have HDX := Lib.hid (HDC.out.set HT.out ({ c with aw := true }))
      have HW := Lib.hid (rwith9 (T := T) (w := w4) (HC.out.below (bt HB.out HB4.out)) (by have := HN.out; omega) (t : Int) ⟨a.i, { c with aw := true }⟩ (C.set t ⟨a.i, { c with aw := true }⟩) (by simp) (set_with (by have := HN.out; omega)))
      rw [if_neg (by omega)] at HW
      have HWC := Lib.hid (show w1.heap.size ≤ w4.heap.size from HB4.out.size)
      obtain ⟨m0, m1, m2, m3, m4⟩ := (HM.out.below HB4.out).cells
      have ml := (HM.out.below HB4.out).lt
      obtain ⟨a0, a1, a2, a3, a4, a5, a6⟩ := (HA.out.below HB4.out).cells
      have al := (HA.out.below HB4.out).lt
      obtain ⟨s0, s1, s2, s3, s4⟩ := (H2.out.below HB4.out).cells
      have f0 := (H2.out.below HB4.out).fz 0; have f1 := (H2.out.below HB4.out).fz 1; have f2 := (H2.out.below HB4.out).fz 2; have f3 := (H2.out.below HB4.out).fz 3; have f4 := (H2.out.below HB4.out).fz 4
      have sl := (H2.out.below HB4.out).lt
      obtain ⟨d0, d1, d2, d3, d4, d5, d6⟩ := HD4.out.cells
      have dl := HD4.out.lt
      have df1 := HD4.out.fz 1; have df2 := HD4.out.fz 2; have df3 := HD4.out.fz 3; have df4 := HD4.out.fz 4; have df5 := HD4.out.fz 5; have df6 := HD4.out.fz 6
      go_wp2_with fail
      clear m0 m1 m2 m3 m4 ml a0 a1 a2 a3 a4 a5 a6 al s0 s1 s2 s3 s4 f0 f1 f2 f3 f4 sl
      clear d0 d1 d2 d3 d4 d5 d6 dl df1 df2 df3 df4 df5 df6
      refine HW.out.mono ?_
      rintro e w9 ⟨v9, rfl, ho9, hb9⟩
      have HB9 := Lib.hid (bt HB4.out hb9)
      have HO9 := Lib.hid ho9
      clear ho9 hb9 HW
      obtain ⟨ao, mo, co, hvo⟩ : ∃ ao mo co, v9 = .slice ao mo co := by
        rcases HO9.out.2 with ⟨hv, h0⟩ | ⟨g', cap', cur', hv, _⟩
        · exact ⟨_, _, _, hv⟩
        · exact ⟨_, _, _, hv⟩
      subst hvo
      have HR := Lib.hid ((H2.out.below HB9.out).set5 (T) (.slice ao mo co))
      have HST := Lib.hid (show Chg (fun k => k = b2) w9 (set5w w9 b2 (T) (.slice ao mo co)) from
        ((((((Chg.refl (fun k => k = b2) w9).setCell (p := ⟨b2, 0, none⟩) (.inl rfl) _).setCell (p := ⟨b2, 1, none⟩) (.inl rfl) _).setCell (p := ⟨b2, 2, none⟩) (.inl rfl) _).setCell (p := ⟨b2, 3, none⟩) (.inl rfl) _).setCell (p := ⟨b2, 4, none⟩) (.inl rfl) _))
      have HBE := Lib.hid (show Below w.heap.size w (set5w w9 b2 (T) (.slice ao mo co)) from (bt HB.out HB9.out).trans (HST.out.below (by have := (bt HB.out HB9.out).size; omega) fun k e => by have e : k = b2 := e; have := HBB.out; omega))
      obtain ⟨m0, m1, m2, m3, m4⟩ := (HM.out.below HB9.out).cells
      have ml := (HM.out.below HB9.out).lt
      obtain ⟨a0, a1, a2, a3, a4, a5, a6⟩ := (HA.out.below HB9.out).cells
      have al := (HA.out.below HB9.out).lt
      obtain ⟨s0, s1, s2, s3, s4⟩ := (H2.out.below HB9.out).cells
      have f0 := (H2.out.below HB9.out).fz 0; have f1 := (H2.out.below HB9.out).fz 1; have f2 := (H2.out.below HB9.out).fz 2; have f3 := (H2.out.below HB9.out).fz 3; have f4 := (H2.out.below HB9.out).fz 4
      have sl := (H2.out.below HB9.out).lt
      go_wp2
      refine bodyPost_ret (res_m9e Try.results7 rfl rfl HR.out) rfl ?_
      have hol := HO9.out.lt
      have hbb := HBB.out
      refine ⟨.slice ao mo co, (C.set t (⟨a.i, { c with aw := true }⟩ : Dc)), by rw [HSQ.out]; rfl, (HO9.out.chg HST.out fun b hb e => ?_).rs (fun _ => rfl), by rw [HSQ.out]; exact HDX.out, by first | (simp; done) | (simp; omega) | (have := List.length_eraseIdx_le C t; omega), fun b hb => .inr ?_, HBE.out⟩
      · have e : b = b2 := e
        have := (hol b hb).1
        have := H2.out.lt
        have := HWC.out
        omega
      · have q := hol b hb
        have := HWC.out
        have := HB.out.size
        exact ⟨by omega, Nat.lt_of_lt_of_le q.2 HST.out.size⟩
    have k4b : (a.k == 4) = false := by simpa using k4
    by_cases k5 : a.k = 5
    · have HSE := Lib.hid (show s = (0, T, upd G a.i (some { c with aw := false })) from by
        rw [HS.out]; unfold stp; rw [if_neg k0, if_neg k1, if_neg k2, if_neg k3, if_neg k4, if_pos k5]; unfold stA; simp only [HGS.out])
      have k5b : (a.k == 5) = true := by simpa using k5
      clear k0 k1 k2 k3 k4 k5
      have HB4 := Lib.hid (show Below w1.heap.size w1 (w3.setCell ⟨b4, 6, none⟩ (.bool false)) from HB3.out.setCell (p := ⟨b4, 6, none⟩) HW4.out (.bool false))
      have HD4 := Lib.hid (HD3.out.seta false)
      obtain ⟨m0, m1, m2, m3, m4⟩ := (HM.out.below HB3.out).cells
      have ml := (HM.out.below HB3.out).lt
      obtain ⟨a0, a1, a2, a3, a4, a5, a6⟩ := (HA.out.below HB3.out).cells
      have al := (HA.out.below HB3.out).lt
      obtain ⟨s0, s1, s2, s3, s4⟩ := (H2.out.below HB3.out).cells
      have f0 := (H2.out.below HB3.out).fz 0; have f1 := (H2.out.below HB3.out).fz 1; have f2 := (H2.out.below HB3.out).fz 2; have f3 := (H2.out.below HB3.out).fz 3; have f4 := (H2.out.below HB3.out).fz 4
      have sl := (H2.out.below HB3.out).lt
      go_upto_region 36 with (fail)
      clear m0 m1 m2 m3 m4 ml a0 a1 a2 a3 a4 a5 a6 al s0 s1 s2 s3 s4 f0 f1 f2 f3 f4 sl
      clear d0 d1 d2 d3 d4 d5 d6 dl df1 df2 df3 df4 df5 df6
      generalize w3.setCell ⟨b4, 6, none⟩ (.bool false) = w4 at *
      have HSQ := HSE
      have HDX := Lib.hid (HDC.out.set HT.out ({ c with aw := false }))
      have HW := Lib.hid (rwith9 (T := T) (w := w4) (HC.out.below (bt HB.out HB4.out)) (by have := HN.out; omega) (t : Int) ⟨a.i, { c with aw := false }⟩ (C.set t ⟨a.i, { c with aw := false }⟩) (by simp) (set_with (by have := HN.out; omega)))
      rw [if_neg (by omega)] at HW
      have HWC := Lib.hid (show w1.heap.size ≤ w4.heap.size from HB4.out.size)
      obtain ⟨m0, m1, m2, m3, m4⟩ := (HM.out.below HB4.out).cells
      have ml := (HM.out.below HB4.out).lt
      obtain ⟨a0, a1, a2, a3, a4, a5, a6⟩ := (HA.out.below HB4.out).cells
      have al := (HA.out.below HB4.out).lt
      obtain ⟨s0, s1, s2, s3, s4⟩ := (H2.out.below HB4.out).cells
      have f0 := (H2.out.below HB4.out).fz 0; have f1 := (H2.out.below HB4.out).fz 1; have f2 := (H2.out.below HB4.out).fz 2; have f3 := (H2.out.below HB4.out).fz 3; have f4 := (H2.out.below HB4.out).fz 4
      have sl := (H2.out.below HB4.out).lt
      obtain ⟨d0, d1, d2, d3, d4, d5, d6⟩ := HD4.out.cells
      have dl := HD4.out.lt
      have df1 := HD4.out.fz 1; have df2 := HD4.out.fz 2; have df3 := HD4.out.fz 3; have df4 := HD4.out.fz 4; have df5 := HD4.out.fz 5; have df6 := HD4.out.fz 6
      go_wp2_with fail
      clear m0 m1 m2 m3 m4 ml a0 a1 a2 a3 a4 a5 a6 al s0 s1 s2 s3 s4 f0 f1 f2 f3 f4 sl
      clear d0 d1 d2 d3 d4 d5 d6 dl df1 df2 df3 df4 df5 df6
      refine HW.out.mono ?_
      rintro e w9 ⟨v9, rfl, ho9, hb9⟩
      have HB9 := Lib.hid (bt HB4.out hb9)
      have HO9 := Lib.hid ho9
      clear ho9 hb9 HW
      obtain ⟨ao, mo, co, hvo⟩ : ∃ ao mo co, v9 = .slice ao mo co := by
        rcases HO9.out.2 with ⟨hv, h0⟩ | ⟨g', cap', cur', hv, _⟩
        · exact ⟨_, _, _, hv⟩
        · exact ⟨_, _, _, hv⟩
      subst hvo
      have HR := Lib.hid ((H2.out.below HB9.out).set5 (T) (.slice ao mo co))
      have HST := Lib.hid (show Chg (fun k => k = b2) w9 (set5w w9 b2 (T) (.slice ao mo co)) from
        ((((((Chg.refl (fun k => k = b2) w9).setCell (p := ⟨b2, 0, none⟩) (.inl rfl) _).setCell (p := ⟨b2, 1, none⟩) (.inl rfl) _).setCell (p := ⟨b2, 2, none⟩) (.inl rfl) _).setCell (p := ⟨b2, 3, none⟩) (.inl rfl) _).setCell (p := ⟨b2, 4, none⟩) (.inl rfl) _))
      have HBE := Lib.hid (show Below w.heap.size w (set5w w9 b2 (T) (.slice ao mo co)) from (bt HB.out HB9.out).trans (HST.out.below (by have := (bt HB.out HB9.out).size; omega) fun k e => by have e : k = b2 := e; have := HBB.out; omega))
      obtain ⟨m0, m1, m2, m3, m4⟩ := (HM.out.below HB9.out).cells
      have ml := (HM.out.below HB9.out).lt
      obtain ⟨a0, a1, a2, a3, a4, a5, a6⟩ := (HA.out.below HB9.out).cells
      have al := (HA.out.below HB9.out).lt
      obtain ⟨s0, s1, s2, s3, s4⟩ := (H2.out.below HB9.out).cells
      have f0 := (H2.out.below HB9.out).fz 0; have f1 := (H2.out.below HB9.out).fz 1; have f2 := (H2.out.below HB9.out).fz 2; have f3 := (H2.out.below HB9.out).fz 3; have f4 := (H2.out.below HB9.out).fz 4
      have sl := (H2.out.below HB9.out).lt
      go_wp2
      refine bodyPost_ret (res_m9e Try.results7 rfl rfl HR.out) rfl ?_
      have hol := HO9.out.lt
      have hbb := HBB.out
      refine ⟨.slice ao mo co, (C.set t (⟨a.i, { c with aw := false }⟩ : Dc)), by rw [HSQ.out]; rfl, (HO9.out.chg HST.out fun b hb e => ?_).rs (fun _ => rfl), by rw [HSQ.out]; exact HDX.out, by first | (simp; done) | (simp; omega) | (have := List.length_eraseIdx_le C t; omega), fun b hb => .inr ?_, HBE.out⟩
      · have e : b = b2 := e
        have := (hol b hb).1
        have := H2.out.lt
        have := HWC.out
        omega
      · have q := hol b hb
        have := HWC.out
        have := HB.out.size
        exact ⟨by omega, Nat.lt_of_lt_of_le q.2 HST.out.size⟩
    have k5b : (a.k == 5) = false := by simpa using k5
    by_cases k6 : a.k = 6
    · have HSN := Lib.hid (show s = stG T G a.i a.n by rw [HS.out]; unfold stp; rw [if_neg k0, if_neg k1, if_neg k2, if_neg k3, if_neg k4, if_neg k5, if_pos k6])
      have k6b : (a.k == 6) = true := by simpa using k6
      clear k0 k1 k2 k3 k4 k5 k6
      obtain ⟨r, q, hadd, hrq, hq⟩ := refadd9 c.s a.n HC4.out.ok
      have HAD := Lib.hid hadd; have HQG := Lib.hid hq; have HRQ := Lib.hid hrq
      clear hadd hq hrq
      obtain ⟨m0, m1, m2, m3, m4⟩ := (HM.out.below HB3.out).cells
      have ml := (HM.out.below HB3.out).lt
      obtain ⟨a0, a1, a2, a3, a4, a5, a6⟩ := (HA.out.below HB3.out).cells
      have al := (HA.out.below HB3.out).lt
      obtain ⟨s0, s1, s2, s3, s4⟩ := (H2.out.below HB3.out).cells
      have f0 := (H2.out.below HB3.out).fz 0; have f1 := (H2.out.below HB3.out).fz 1; have f2 := (H2.out.below HB3.out).fz 2; have f3 := (H2.out.below HB3.out).fz 3; have f4 := (H2.out.below HB3.out).fz 4
      have sl := (H2.out.below HB3.out).lt
      go_wp2_with fail
      clear m0 m1 m2 m3 m4 ml a0 a1 a2 a3 a4 a5 a6 al s0 s1 s2 s3 s4 f0 f1 f2 f3 f4 sl
      clear d0 d1 d2 d3 d4 d5 d6 dl df1 df2 df3 df4 df5 df6
      refine (HAD.out w3).mono ?_
      rintro e w4 ⟨rfl, hb4⟩
      have hb5 := ba (Below.refl w4.heap.size w4) (.cells (C4 r) 25)
      have HB5 := Lib.hid (bt (bt HB3.out hb4) hb5)
      have HD5 := Lib.hid (HD3.out.below (bt hb4 hb5))
      have HP5 := Lib.hid (PB9.made w4 r)
      clear hb4 hb5
      cases q with
      | false =>
        have HSE := Lib.hid (show s = (41, T, G) from by
          rw [HSN.out]; unfold stG; simp only [HGS.out]; rw [if_neg (fun h => by have := (HQG.out.1 h).1; cases this)])
        clear HSN HAD HQG
        go_upto_region 33 with (fail)
        generalize w4.alloc (.cells (C4 r) 25) = w5 at *
        generalize w4.heap.size = b5 at *
        have HSQ := Lib.hid (show s = (41, T, G) from HSE.out)
        have HR := Lib.hid ((H2.out.below HB5.out).set5 (T) (.slice (some ⟨bs, off, none⟩) n cp))
        have HST := Lib.hid (show Chg (fun k => k = b2) w5 (set5w w5 b2 (T) (.slice (some ⟨bs, off, none⟩) n cp)) from
          ((((((Chg.refl (fun k => k = b2) w5).setCell (p := ⟨b2, 0, none⟩) (.inl rfl) _).setCell (p := ⟨b2, 1, none⟩) (.inl rfl) _).setCell (p := ⟨b2, 2, none⟩) (.inl rfl) _).setCell (p := ⟨b2, 3, none⟩) (.inl rfl) _).setCell (p := ⟨b2, 4, none⟩) (.inl rfl) _))
        have HBE := Lib.hid (show Below w.heap.size w (set5w w5 b2 (T) (.slice (some ⟨bs, off, none⟩) n cp)) from (bt HB.out HB5.out).trans (HST.out.below (by have := (bt HB.out HB5.out).size; omega) fun k e => by have e : k = b2 := e; have := HBB.out; omega))
        obtain ⟨m0, m1, m2, m3, m4⟩ := (HM.out.below HB5.out).cells
        have ml := (HM.out.below HB5.out).lt
        obtain ⟨a0, a1, a2, a3, a4, a5, a6⟩ := (HA.out.below HB5.out).cells
        have al := (HA.out.below HB5.out).lt
        obtain ⟨s0, s1, s2, s3, s4⟩ := (H2.out.below HB5.out).cells
        have f0 := (H2.out.below HB5.out).fz 0; have f1 := (H2.out.below HB5.out).fz 1; have f2 := (H2.out.below HB5.out).fz 2; have f3 := (H2.out.below HB5.out).fz 3; have f4 := (H2.out.below HB5.out).fz 4
        have sl := (H2.out.below HB5.out).lt
        go_wp2
        refine bodyPost_ret (res_m9e Try.results7 rfl rfl HR.out) rfl ?_
        refine ⟨_, C, by rw [HSQ.out]; rfl, (HC.out.below (bt HB.out HB5.out)).chg HST.out fun b hb e => ?_, by rw [HSQ.out]; exact HDC.out, by omega, fun b hb => .inl hb, HBE.out⟩
        have e : b = b2 := e
        have := HVB.out b hb
        have := HBB.out
        omega
      | true =>
        have HRR := Lib.hid (HRQ.out rfl)
        obtain ⟨p0, p1, p2, p3⟩ := HP5.out.cells
        have pl := HP5.out.lt
        go_upto_region 33 with (fail)
        generalize w4.alloc (.cells (C4 r) 25) = w5 at *
        generalize w4.heap.size = b5 at *
        go_wp2_with fail
        refine (rsmall9 r w5).mono ?_
        rintro e w6 ⟨rfl, hb6⟩
        have HB6 := Lib.hid (bt HB5.out hb6)
        have HD6 := Lib.hid (HD5.out.below hb6)
        have HP6 := Lib.hid (HP5.out.below hb6)
        clear hb6 p0 p1 p2 p3 pl
        by_cases hS : Sm4 r
        · have HSE := Lib.hid (show s = (0, T, upd G a.i (some { c with s := r })) from by
            rw [HSN.out]; unfold stG; simp only [HGS.out]; rw [if_pos (HQG.out.2 ⟨by simp, hS⟩), HRR.out])
          rw [decide_eq_true hS]
          clear HSN HAD HQG HRR hS
          have HB7 := Lib.hid (show Below w1.heap.size w1 ((((w6.setCell ⟨b4, 2, none⟩ (.int .i64 (r 0))).setCell ⟨b4, 3, none⟩ (.int .i64 (r 1))).setCell ⟨b4, 4, none⟩ (.int .i64 (r 2))).setCell ⟨b4, 5, none⟩ (.int .i64 (r 3))) from (((HB6.out.setCell (p := ⟨b4, 2, none⟩) HW4.out _).setCell (p := ⟨b4, 3, none⟩) HW4.out _).setCell (p := ⟨b4, 4, none⟩) HW4.out _).setCell (p := ⟨b4, 5, none⟩) HW4.out _)
          have HD7 := Lib.hid (HD6.out.sets r)
          obtain ⟨p0, p1, p2, p3⟩ := HP6.out.cells
          have pl := HP6.out.lt
          obtain ⟨d0, d1, d2, d3, d4, d5, d6⟩ := HD6.out.cells
          have dl := HD6.out.lt
          have df1 := HD6.out.fz 1; have df2 := HD6.out.fz 2; have df3 := HD6.out.fz 3; have df4 := HD6.out.fz 4; have df5 := HD6.out.fz 5; have df6 := HD6.out.fz 6
          go_upto_region 36 with (fail)
          clear d0 d1 d2 d3 d4 d5 d6 dl df1 df2 df3 df4 df5 df6
          clear p0 p1 p2 p3 pl
          generalize (((w6.setCell ⟨b4, 2, none⟩ (.int .i64 (r 0))).setCell ⟨b4, 3, none⟩ (.int .i64 (r 1))).setCell ⟨b4, 4, none⟩ (.int .i64 (r 2))).setCell ⟨b4, 5, none⟩ (.int .i64 (r 3)) = w7 at *
          have HSQ := HSE
          have HDX := Lib.hid (HDC.out.set HT.out ({ c with s := r }))
          have HW := Lib.hid (rwith9 (T := T) (w := w7) (HC.out.below (bt HB.out HB7.out)) (by have := HN.out; omega) (t : Int) ⟨a.i, { c with s := r }⟩ (C.set t ⟨a.i, { c with s := r }⟩) (by simp) (set_with (by have := HN.out; omega)))
          rw [if_neg (by omega)] at HW
          have HWC := Lib.hid (show w1.heap.size ≤ w7.heap.size from HB7.out.size)
          obtain ⟨m0, m1, m2, m3, m4⟩ := (HM.out.below HB7.out).cells
          have ml := (HM.out.below HB7.out).lt
          obtain ⟨a0, a1, a2, a3, a4, a5, a6⟩ := (HA.out.below HB7.out).cells
          have al := (HA.out.below HB7.out).lt
          obtain ⟨s0, s1, s2, s3, s4⟩ := (H2.out.below HB7.out).cells
          have f0 := (H2.out.below HB7.out).fz 0; have f1 := (H2.out.below HB7.out).fz 1; have f2 := (H2.out.below HB7.out).fz 2; have f3 := (H2.out.below HB7.out).fz 3; have f4 := (H2.out.below HB7.out).fz 4
          have sl := (H2.out.below HB7.out).lt
          obtain ⟨d0, d1, d2, d3, d4, d5, d6⟩ := HD7.out.cells
          have dl := HD7.out.lt
          have df1 := HD7.out.fz 1; have df2 := HD7.out.fz 2; have df3 := HD7.out.fz 3; have df4 := HD7.out.fz 4; have df5 := HD7.out.fz 5; have df6 := HD7.out.fz 6
          go_wp2_with fail
          clear m0 m1 m2 m3 m4 ml a0 a1 a2 a3 a4 a5 a6 al s0 s1 s2 s3 s4 f0 f1 f2 f3 f4 sl
          clear d0 d1 d2 d3 d4 d5 d6 dl df1 df2 df3 df4 df5 df6
          refine HW.out.mono ?_
          rintro e w9 ⟨v9, rfl, ho9, hb9⟩
          have HB9 := Lib.hid (bt HB7.out hb9)
          have HO9 := Lib.hid ho9
          clear ho9 hb9 HW
          obtain ⟨ao, mo, co, hvo⟩ : ∃ ao mo co, v9 = .slice ao mo co := by
            rcases HO9.out.2 with ⟨hv, h0⟩ | ⟨g', cap', cur', hv, _⟩
            · exact ⟨_, _, _, hv⟩
            · exact ⟨_, _, _, hv⟩
          subst hvo
          have HR := Lib.hid ((H2.out.below HB9.out).set5 (T) (.slice ao mo co))
          have HST := Lib.hid (show Chg (fun k => k = b2) w9 (set5w w9 b2 (T) (.slice ao mo co)) from
            ((((((Chg.refl (fun k => k = b2) w9).setCell (p := ⟨b2, 0, none⟩) (.inl rfl) _).setCell (p := ⟨b2, 1, none⟩) (.inl rfl) _).setCell (p := ⟨b2, 2, none⟩) (.inl rfl) _).setCell (p := ⟨b2, 3, none⟩) (.inl rfl) _).setCell (p := ⟨b2, 4, none⟩) (.inl rfl) _))
          have HBE := Lib.hid (show Below w.heap.size w (set5w w9 b2 (T) (.slice ao mo co)) from (bt HB.out HB9.out).trans (HST.out.below (by have := (bt HB.out HB9.out).size; omega) fun k e => by have e : k = b2 := e; have := HBB.out; omega))
          obtain ⟨m0, m1, m2, m3, m4⟩ := (HM.out.below HB9.out).cells
          have ml := (HM.out.below HB9.out).lt
          obtain ⟨a0, a1, a2, a3, a4, a5, a6⟩ := (HA.out.below HB9.out).cells
          have al := (HA.out.below HB9.out).lt
          obtain ⟨s0, s1, s2, s3, s4⟩ := (H2.out.below HB9.out).cells
          have f0 := (H2.out.below HB9.out).fz 0; have f1 := (H2.out.below HB9.out).fz 1; have f2 := (H2.out.below HB9.out).fz 2; have f3 := (H2.out.below HB9.out).fz 3; have f4 := (H2.out.below HB9.out).fz 4
          have sl := (H2.out.below HB9.out).lt
          go_wp2
          refine bodyPost_ret (res_m9e Try.results7 rfl rfl HR.out) rfl ?_
          have hol := HO9.out.lt
          have hbb := HBB.out
          refine ⟨.slice ao mo co, (C.set t (⟨a.i, { c with s := r }⟩ : Dc)), by rw [HSQ.out]; rfl, (HO9.out.chg HST.out fun b hb e => ?_).rs (fun _ => rfl), by rw [HSQ.out]; exact HDX.out, by first | (simp; done) | (simp; omega) | (have := List.length_eraseIdx_le C t; omega), fun b hb => .inr ?_, HBE.out⟩
          · have e : b = b2 := e
            have := (hol b hb).1
            have := H2.out.lt
            have := HWC.out
            omega
          · have q := hol b hb
            have := HWC.out
            have := HB.out.size
            exact ⟨by omega, Nat.lt_of_lt_of_le q.2 HST.out.size⟩
        · have HSE := Lib.hid (show s = (41, T, G) from by
            rw [HSN.out]; unfold stG; simp only [HGS.out]; rw [if_neg (fun h => hS (HQG.out.1 h).2)])
          rw [decide_eq_false hS]
          clear HSN HAD HQG HRR hS
          have HSQ := Lib.hid (show s = (41, T, G) from HSE.out)
          have HR := Lib.hid ((H2.out.below HB6.out).set5 (T) (.slice (some ⟨bs, off, none⟩) n cp))
          have HST := Lib.hid (show Chg (fun k => k = b2) w6 (set5w w6 b2 (T) (.slice (some ⟨bs, off, none⟩) n cp)) from
            ((((((Chg.refl (fun k => k = b2) w6).setCell (p := ⟨b2, 0, none⟩) (.inl rfl) _).setCell (p := ⟨b2, 1, none⟩) (.inl rfl) _).setCell (p := ⟨b2, 2, none⟩) (.inl rfl) _).setCell (p := ⟨b2, 3, none⟩) (.inl rfl) _).setCell (p := ⟨b2, 4, none⟩) (.inl rfl) _))
          have HBE := Lib.hid (show Below w.heap.size w (set5w w6 b2 (T) (.slice (some ⟨bs, off, none⟩) n cp)) from (bt HB.out HB6.out).trans (HST.out.below (by have := (bt HB.out HB6.out).size; omega) fun k e => by have e : k = b2 := e; have := HBB.out; omega))
          obtain ⟨m0, m1, m2, m3, m4⟩ := (HM.out.below HB6.out).cells
          have ml := (HM.out.below HB6.out).lt
          obtain ⟨a0, a1, a2, a3, a4, a5, a6⟩ := (HA.out.below HB6.out).cells
          have al := (HA.out.below HB6.out).lt
          obtain ⟨s0, s1, s2, s3, s4⟩ := (H2.out.below HB6.out).cells
          have f0 := (H2.out.below HB6.out).fz 0; have f1 := (H2.out.below HB6.out).fz 1; have f2 := (H2.out.below HB6.out).fz 2; have f3 := (H2.out.below HB6.out).fz 3; have f4 := (H2.out.below HB6.out).fz 4
          have sl := (H2.out.below HB6.out).lt
          go_wp2
          refine bodyPost_ret (res_m9e Try.results7 rfl rfl HR.out) rfl ?_
          refine ⟨_, C, by rw [HSQ.out]; rfl, (HC.out.below (bt HB.out HB6.out)).chg HST.out fun b hb e => ?_, by rw [HSQ.out]; exact HDC.out, by omega, fun b hb => .inl hb, HBE.out⟩
          have e : b = b2 := e
          have := HVB.out b hb
          have := HBB.out
          omega
    have k6b : (a.k == 6) = false := by simpa using k6
    have hsn : s = stK T G a.i a.n := by rw [HS.out]; unfold stp; rw [if_neg k0, if_neg k1, if_neg k2, if_neg k3, if_neg k4, if_neg k5, if_neg k6]
    clear k0 k1 k2 k3 k4 k5 k6
    by_cases hh : HOk c.s a.n
    · have HSE := Lib.hid (show s = (0, T, upd G a.i (some { c with s := fun k => c.s k - a.n k })) from by
        rw [hsn]; unfold stK; simp only [HGS.out]; rw [if_pos hh])
      have hsub := refsub_yes c.s a.n hh
      obtain ⟨r, hr⟩ : ∃ r, r = fun k => c.s k - a.n k := ⟨_, rfl⟩
      rw [← hr] at hsub HSE
      clear hsn hh hr
      obtain ⟨m0, m1, m2, m3, m4⟩ := (HM.out.below HB3.out).cells
      have ml := (HM.out.below HB3.out).lt
      obtain ⟨a0, a1, a2, a3, a4, a5, a6⟩ := (HA.out.below HB3.out).cells
      have al := (HA.out.below HB3.out).lt
      obtain ⟨s0, s1, s2, s3, s4⟩ := (H2.out.below HB3.out).cells
      have f0 := (H2.out.below HB3.out).fz 0; have f1 := (H2.out.below HB3.out).fz 1; have f2 := (H2.out.below HB3.out).fz 2; have f3 := (H2.out.below HB3.out).fz 3; have f4 := (H2.out.below HB3.out).fz 4
      have sl := (H2.out.below HB3.out).lt
      go_wp2_with fail
      clear m0 m1 m2 m3 m4 ml a0 a1 a2 a3 a4 a5 a6 al s0 s1 s2 s3 s4 f0 f1 f2 f3 f4 sl
      clear d0 d1 d2 d3 d4 d5 d6 dl df1 df2 df3 df4 df5 df6
      refine (hsub w3).mono ?_
      rintro e w4 ⟨rfl, hb4⟩
      clear hsub
      have hb5 := ba (Below.refl w4.heap.size w4) (.cells (C4 r) 25)
      have HB5 := Lib.hid (bt (bt HB3.out hb4) hb5)
      have HD5 := Lib.hid (HD3.out.below (bt hb4 hb5))
      have HP5 := Lib.hid (PB9.made w4 r)
      clear hb4 hb5
      go_upto_region 18 with (fail)
      generalize w4.alloc (.cells (C4 r) 25) = w5 at *
      generalize w4.heap.size = b5 at *
      have HB6 := HB5; have HD6 := HD5; have HP6 := HP5
      generalize w5 = w6 at *
      have HB7 := Lib.hid (show Below w1.heap.size w1 ((((w6.setCell ⟨b4, 2, none⟩ (.int .i64 (r 0))).setCell ⟨b4, 3, none⟩ (.int .i64 (r 1))).setCell ⟨b4, 4, none⟩ (.int .i64 (r 2))).setCell ⟨b4, 5, none⟩ (.int .i64 (r 3))) from (((HB6.out.setCell (p := ⟨b4, 2, none⟩) HW4.out _).setCell (p := ⟨b4, 3, none⟩) HW4.out _).setCell (p := ⟨b4, 4, none⟩) HW4.out _).setCell (p := ⟨b4, 5, none⟩) HW4.out _)
      have HD7 := Lib.hid (HD6.out.sets r)
      obtain ⟨p0, p1, p2, p3⟩ := HP6.out.cells
      have pl := HP6.out.lt
      obtain ⟨d0, d1, d2, d3, d4, d5, d6⟩ := HD6.out.cells
      have dl := HD6.out.lt
      have df1 := HD6.out.fz 1; have df2 := HD6.out.fz 2; have df3 := HD6.out.fz 3; have df4 := HD6.out.fz 4; have df5 := HD6.out.fz 5; have df6 := HD6.out.fz 6
      go_upto_region 36 with (fail)
      clear d0 d1 d2 d3 d4 d5 d6 dl df1 df2 df3 df4 df5 df6
      clear p0 p1 p2 p3 pl
      generalize (((w6.setCell ⟨b4, 2, none⟩ (.int .i64 (r 0))).setCell ⟨b4, 3, none⟩ (.int .i64 (r 1))).setCell ⟨b4, 4, none⟩ (.int .i64 (r 2))).setCell ⟨b4, 5, none⟩ (.int .i64 (r 3)) = w7 at *
      have HSQ := HSE
      have HDX := Lib.hid (HDC.out.set HT.out ({ c with s := r }))
      have HW := Lib.hid (rwith9 (T := T) (w := w7) (HC.out.below (bt HB.out HB7.out)) (by have := HN.out; omega) (t : Int) ⟨a.i, { c with s := r }⟩ (C.set t ⟨a.i, { c with s := r }⟩) (by simp) (set_with (by have := HN.out; omega)))
      rw [if_neg (by omega)] at HW
      have HWC := Lib.hid (show w1.heap.size ≤ w7.heap.size from HB7.out.size)
      obtain ⟨m0, m1, m2, m3, m4⟩ := (HM.out.below HB7.out).cells
      have ml := (HM.out.below HB7.out).lt
      obtain ⟨a0, a1, a2, a3, a4, a5, a6⟩ := (HA.out.below HB7.out).cells
      have al := (HA.out.below HB7.out).lt
      obtain ⟨s0, s1, s2, s3, s4⟩ := (H2.out.below HB7.out).cells
      have f0 := (H2.out.below HB7.out).fz 0; have f1 := (H2.out.below HB7.out).fz 1; have f2 := (H2.out.below HB7.out).fz 2; have f3 := (H2.out.below HB7.out).fz 3; have f4 := (H2.out.below HB7.out).fz 4
      have sl := (H2.out.below HB7.out).lt
      obtain ⟨d0, d1, d2, d3, d4, d5, d6⟩ := HD7.out.cells
      have dl := HD7.out.lt
      have df1 := HD7.out.fz 1; have df2 := HD7.out.fz 2; have df3 := HD7.out.fz 3; have df4 := HD7.out.fz 4; have df5 := HD7.out.fz 5; have df6 := HD7.out.fz 6
      go_wp2_with fail
      clear m0 m1 m2 m3 m4 ml a0 a1 a2 a3 a4 a5 a6 al s0 s1 s2 s3 s4 f0 f1 f2 f3 f4 sl
      clear d0 d1 d2 d3 d4 d5 d6 dl df1 df2 df3 df4 df5 df6
      refine HW.out.mono ?_
      rintro e w9 ⟨v9, rfl, ho9, hb9⟩
      have HB9 := Lib.hid (bt HB7.out hb9)
      have HO9 := Lib.hid ho9
      clear ho9 hb9 HW
      obtain ⟨ao, mo, co, hvo⟩ : ∃ ao mo co, v9 = .slice ao mo co := by
        rcases HO9.out.2 with ⟨hv, h0⟩ | ⟨g', cap', cur', hv, _⟩
        · exact ⟨_, _, _, hv⟩
        · exact ⟨_, _, _, hv⟩
      subst hvo
      have HR := Lib.hid ((H2.out.below HB9.out).set5 (T) (.slice ao mo co))
      have HST := Lib.hid (show Chg (fun k => k = b2) w9 (set5w w9 b2 (T) (.slice ao mo co)) from
        ((((((Chg.refl (fun k => k = b2) w9).setCell (p := ⟨b2, 0, none⟩) (.inl rfl) _).setCell (p := ⟨b2, 1, none⟩) (.inl rfl) _).setCell (p := ⟨b2, 2, none⟩) (.inl rfl) _).setCell (p := ⟨b2, 3, none⟩) (.inl rfl) _).setCell (p := ⟨b2, 4, none⟩) (.inl rfl) _))
      have HBE := Lib.hid (show Below w.heap.size w (set5w w9 b2 (T) (.slice ao mo co)) from (bt HB.out HB9.out).trans (HST.out.below (by have := (bt HB.out HB9.out).size; omega) fun k e => by have e : k = b2 := e; have := HBB.out; omega))
      obtain ⟨m0, m1, m2, m3, m4⟩ := (HM.out.below HB9.out).cells
      have ml := (HM.out.below HB9.out).lt
      obtain ⟨a0, a1, a2, a3, a4, a5, a6⟩ := (HA.out.below HB9.out).cells
      have al := (HA.out.below HB9.out).lt
      obtain ⟨s0, s1, s2, s3, s4⟩ := (H2.out.below HB9.out).cells
      have f0 := (H2.out.below HB9.out).fz 0; have f1 := (H2.out.below HB9.out).fz 1; have f2 := (H2.out.below HB9.out).fz 2; have f3 := (H2.out.below HB9.out).fz 3; have f4 := (H2.out.below HB9.out).fz 4
      have sl := (H2.out.below HB9.out).lt
      go_wp2
      refine bodyPost_ret (res_m9e Try.results7 rfl rfl HR.out) rfl ?_
      have hol := HO9.out.lt
      have hbb := HBB.out
      refine ⟨.slice ao mo co, (C.set t (⟨a.i, { c with s := r }⟩ : Dc)), by rw [HSQ.out]; rfl, (HO9.out.chg HST.out fun b hb e => ?_).rs (fun _ => rfl), by rw [HSQ.out]; exact HDX.out, by first | (simp; done) | (simp; omega) | (have := List.length_eraseIdx_le C t; omega), fun b hb => .inr ?_, HBE.out⟩
      · have e : b = b2 := e
        have := (hol b hb).1
        have := H2.out.lt
        have := HWC.out
        omega
      · have q := hol b hb
        have := HWC.out
        have := HB.out.size
        exact ⟨by omega, Nat.lt_of_lt_of_le q.2 HST.out.size⟩
    · have HSE := Lib.hid (show s = (30, T, G) from by
        rw [hsn]; unfold stK; simp only [HGS.out]; rw [if_neg hh])
      have hsub := refsub_no c.s a.n hh
      obtain ⟨r, hr⟩ : ∃ r, r = Z4 := ⟨_, rfl⟩
      rw [← hr] at hsub
      clear hsn hh hr
      obtain ⟨m0, m1, m2, m3, m4⟩ := (HM.out.below HB3.out).cells
      have ml := (HM.out.below HB3.out).lt
      obtain ⟨a0, a1, a2, a3, a4, a5, a6⟩ := (HA.out.below HB3.out).cells
      have al := (HA.out.below HB3.out).lt
      obtain ⟨s0, s1, s2, s3, s4⟩ := (H2.out.below HB3.out).cells
      have f0 := (H2.out.below HB3.out).fz 0; have f1 := (H2.out.below HB3.out).fz 1; have f2 := (H2.out.below HB3.out).fz 2; have f3 := (H2.out.below HB3.out).fz 3; have f4 := (H2.out.below HB3.out).fz 4
      have sl := (H2.out.below HB3.out).lt
      go_wp2_with fail
      clear m0 m1 m2 m3 m4 ml a0 a1 a2 a3 a4 a5 a6 al s0 s1 s2 s3 s4 f0 f1 f2 f3 f4 sl
      clear d0 d1 d2 d3 d4 d5 d6 dl df1 df2 df3 df4 df5 df6
      refine (hsub w3).mono ?_
      rintro e w4 ⟨rfl, hb4⟩
      clear hsub
      have hb5 := ba (Below.refl w4.heap.size w4) (.cells (C4 r) 25)
      have HB5 := Lib.hid (bt (bt HB3.out hb4) hb5)
      have HD5 := Lib.hid (HD3.out.below (bt hb4 hb5))
      have HP5 := Lib.hid (PB9.made w4 r)
      clear hb4 hb5
      go_upto_region 18 with (fail)
      generalize w4.alloc (.cells (C4 r) 25) = w5 at *
      generalize w4.heap.size = b5 at *
      have HSQ := Lib.hid (show s = (30, T, G) from HSE.out)
      have HR := Lib.hid ((H2.out.below HB5.out).set5 (T) (.slice (some ⟨bs, off, none⟩) n cp))
      have HST := Lib.hid (show Chg (fun k => k = b2) w5 (set5w w5 b2 (T) (.slice (some ⟨bs, off, none⟩) n cp)) from
        ((((((Chg.refl (fun k => k = b2) w5).setCell (p := ⟨b2, 0, none⟩) (.inl rfl) _).setCell (p := ⟨b2, 1, none⟩) (.inl rfl) _).setCell (p := ⟨b2, 2, none⟩) (.inl rfl) _).setCell (p := ⟨b2, 3, none⟩) (.inl rfl) _).setCell (p := ⟨b2, 4, none⟩) (.inl rfl) _))
      have HBE := Lib.hid (show Below w.heap.size w (set5w w5 b2 (T) (.slice (some ⟨bs, off, none⟩) n cp)) from (bt HB.out HB5.out).trans (HST.out.below (by have := (bt HB.out HB5.out).size; omega) fun k e => by have e : k = b2 := e; have := HBB.out; omega))
      obtain ⟨m0, m1, m2, m3, m4⟩ := (HM.out.below HB5.out).cells
      have ml := (HM.out.below HB5.out).lt
      obtain ⟨a0, a1, a2, a3, a4, a5, a6⟩ := (HA.out.below HB5.out).cells
      have al := (HA.out.below HB5.out).lt
      obtain ⟨s0, s1, s2, s3, s4⟩ := (H2.out.below HB5.out).cells
      have f0 := (H2.out.below HB5.out).fz 0; have f1 := (H2.out.below HB5.out).fz 1; have f2 := (H2.out.below HB5.out).fz 2; have f3 := (H2.out.below HB5.out).fz 3; have f4 := (H2.out.below HB5.out).fz 4
      have sl := (H2.out.below HB5.out).lt
      go_wp2
      refine bodyPost_ret (res_m9e Try.results7 rfl rfl HR.out) rfl ?_
      refine ⟨_, C, by rw [HSQ.out]; rfl, (HC.out.below (bt HB.out HB5.out)).chg HST.out fun b hb e => ?_, by rw [HSQ.out]; exact HDC.out, by omega, fun b hb => .inl hb, HBE.out⟩
      have e : b = b2 := e
      have := HVB.out b hb
      have := HBB.out
      omega
  · go_upto_region 3 with (fail)
    obtain ⟨hv, hhv⟩ : ∃ hv, hv = (decide (a.x < 1) || decide (1000 < a.x)) := ⟨_, rfl⟩
    rw [← hhv]
    have HV := Lib.hid (show hv = false ↔ (1 ≤ a.x ∧ a.x ≤ 1000) from by rw [hhv]; simp <;> omega)
    clear hhv hx1
    generalize decide (a.x < 1) = junk1
    generalize decide (1000 < a.x) = junk2
    by_cases k0 : a.k = 0
    · have hsn : s = stT T G a.n := by rw [HS.out]; unfold stp; rw [if_pos k0]
      have k0b : (a.k == 0) = true := by simpa using k0
      clear k0
      go_wp2_with fail
      clear m0 m1 m2 m3 m4 ml a0 a1 a2 a3 a4 a5 a6 al s0 s1 s2 s3 s4 f0 f1 f2 f3 f4 sl
      refine (rsmall9 a.n w2).mono ?_
      rintro e w3 ⟨rfl, hb3⟩
      have HB3 := Lib.hid (bt HB2.out hb3)
      clear hb3
      by_cases hS : Sm4 a.n
      · have HSE := Lib.hid (show s = (0, a.n, G) from by rw [hsn]; unfold stT; rw [if_pos hS])
        rw [decide_eq_true hS]
        clear hsn hS
        have HSQ := Lib.hid (show s = (0, a.n, G) from HSE.out)
        have HR := Lib.hid ((H2.out.below HB3.out).set5 (a.n) (.slice a0' n cp))
        have HST := Lib.hid (show Chg (fun k => k = b2) w3 (set5w w3 b2 (a.n) (.slice a0' n cp)) from
          ((((((Chg.refl (fun k => k = b2) w3).setCell (p := ⟨b2, 0, none⟩) (.inl rfl) _).setCell (p := ⟨b2, 1, none⟩) (.inl rfl) _).setCell (p := ⟨b2, 2, none⟩) (.inl rfl) _).setCell (p := ⟨b2, 3, none⟩) (.inl rfl) _).setCell (p := ⟨b2, 4, none⟩) (.inl rfl) _))
        have HBE := Lib.hid (show Below w.heap.size w (set5w w3 b2 (a.n) (.slice a0' n cp)) from (bt HB.out HB3.out).trans (HST.out.below (by have := (bt HB.out HB3.out).size; omega) fun k e => by have e : k = b2 := e; have := HBB.out; omega))
        obtain ⟨m0, m1, m2, m3, m4⟩ := (HM.out.below HB3.out).cells
        have ml := (HM.out.below HB3.out).lt
        obtain ⟨a0, a1, a2, a3, a4, a5, a6⟩ := (HA.out.below HB3.out).cells
        have al := (HA.out.below HB3.out).lt
        obtain ⟨s0, s1, s2, s3, s4⟩ := (H2.out.below HB3.out).cells
        have f0 := (H2.out.below HB3.out).fz 0; have f1 := (H2.out.below HB3.out).fz 1; have f2 := (H2.out.below HB3.out).fz 2; have f3 := (H2.out.below HB3.out).fz 3; have f4 := (H2.out.below HB3.out).fz 4
        have sl := (H2.out.below HB3.out).lt
        go_wp2
        refine bodyPost_ret (res_m9e Try.results7 rfl rfl HR.out) rfl ?_
        refine ⟨_, C, by rw [HSQ.out]; rfl, (HC.out.below (bt HB.out HB3.out)).chg HST.out fun b hb e => ?_, by rw [HSQ.out]; exact HDC.out, by omega, fun b hb => .inl hb, HBE.out⟩
        have e : b = b2 := e
        have := HVB.out b hb
        have := HBB.out
        omega
      · have HSE := Lib.hid (show s = (41, T, G) from by rw [hsn]; unfold stT; rw [if_neg hS])
        rw [decide_eq_false hS]
        clear hsn hS
        have HSQ := Lib.hid (show s = (41, T, G) from HSE.out)
        have HR := Lib.hid ((H2.out.below HB3.out).set5 (T) (.slice a0' n cp))
        have HST := Lib.hid (show Chg (fun k => k = b2) w3 (set5w w3 b2 (T) (.slice a0' n cp)) from
          ((((((Chg.refl (fun k => k = b2) w3).setCell (p := ⟨b2, 0, none⟩) (.inl rfl) _).setCell (p := ⟨b2, 1, none⟩) (.inl rfl) _).setCell (p := ⟨b2, 2, none⟩) (.inl rfl) _).setCell (p := ⟨b2, 3, none⟩) (.inl rfl) _).setCell (p := ⟨b2, 4, none⟩) (.inl rfl) _))
        have HBE := Lib.hid (show Below w.heap.size w (set5w w3 b2 (T) (.slice a0' n cp)) from (bt HB.out HB3.out).trans (HST.out.below (by have := (bt HB.out HB3.out).size; omega) fun k e => by have e : k = b2 := e; have := HBB.out; omega))
        obtain ⟨m0, m1, m2, m3, m4⟩ := (HM.out.below HB3.out).cells
        have ml := (HM.out.below HB3.out).lt
        obtain ⟨a0, a1, a2, a3, a4, a5, a6⟩ := (HA.out.below HB3.out).cells
        have al := (HA.out.below HB3.out).lt
        obtain ⟨s0, s1, s2, s3, s4⟩ := (H2.out.below HB3.out).cells
        have f0 := (H2.out.below HB3.out).fz 0; have f1 := (H2.out.below HB3.out).fz 1; have f2 := (H2.out.below HB3.out).fz 2; have f3 := (H2.out.below HB3.out).fz 3; have f4 := (H2.out.below HB3.out).fz 4
        have sl := (H2.out.below HB3.out).lt
        go_wp2
        refine bodyPost_ret (res_m9e Try.results7 rfl rfl HR.out) rfl ?_
        refine ⟨_, C, by rw [HSQ.out]; rfl, (HC.out.below (bt HB.out HB3.out)).chg HST.out fun b hb e => ?_, by rw [HSQ.out]; exact HDC.out, by omega, fun b hb => .inl hb, HBE.out⟩
        have e : b = b2 := e
        have := HVB.out b hb
        have := HBB.out
        omega
    have k0b : (a.k == 0) = false := by simpa using k0
    by_cases k1 : a.k = 1
    · have hsn : s = stP T G a.i a.x := by rw [HS.out]; unfold stp; rw [if_neg k0, if_pos k1]
      have k1b : (a.k == 1) = true := by simpa using k1
      clear k0 k1
      cases hv with
      | true =>
        have HSE := Lib.hid (show s = (41, T, G) from by rw [hsn]; unfold stP; rw [if_neg (fun h => by have := HV.out.2 h; cases this)])
        clear hsn
        clear m0 m1 m2 m3 m4 ml a0 a1 a2 a3 a4 a5 a6 al s0 s1 s2 s3 s4 f0 f1 f2 f3 f4 sl
        have HSQ := Lib.hid (show s = (41, T, G) from HSE.out)
        have HR := Lib.hid ((H2.out.below HB2.out).set5 (T) (.slice a0' n cp))
        have HST := Lib.hid (show Chg (fun k => k = b2) w2 (set5w w2 b2 (T) (.slice a0' n cp)) from
          ((((((Chg.refl (fun k => k = b2) w2).setCell (p := ⟨b2, 0, none⟩) (.inl rfl) _).setCell (p := ⟨b2, 1, none⟩) (.inl rfl) _).setCell (p := ⟨b2, 2, none⟩) (.inl rfl) _).setCell (p := ⟨b2, 3, none⟩) (.inl rfl) _).setCell (p := ⟨b2, 4, none⟩) (.inl rfl) _))
        have HBE := Lib.hid (show Below w.heap.size w (set5w w2 b2 (T) (.slice a0' n cp)) from (bt HB.out HB2.out).trans (HST.out.below (by have := (bt HB.out HB2.out).size; omega) fun k e => by have e : k = b2 := e; have := HBB.out; omega))
        obtain ⟨m0, m1, m2, m3, m4⟩ := (HM.out.below HB2.out).cells
        have ml := (HM.out.below HB2.out).lt
        obtain ⟨a0, a1, a2, a3, a4, a5, a6⟩ := (HA.out.below HB2.out).cells
        have al := (HA.out.below HB2.out).lt
        obtain ⟨s0, s1, s2, s3, s4⟩ := (H2.out.below HB2.out).cells
        have f0 := (H2.out.below HB2.out).fz 0; have f1 := (H2.out.below HB2.out).fz 1; have f2 := (H2.out.below HB2.out).fz 2; have f3 := (H2.out.below HB2.out).fz 3; have f4 := (H2.out.below HB2.out).fz 4
        have sl := (H2.out.below HB2.out).lt
        go_wp2
        refine bodyPost_ret (res_m9e Try.results7 rfl rfl HR.out) rfl ?_
        refine ⟨_, C, by rw [HSQ.out]; rfl, (HC.out.below (bt HB.out HB2.out)).chg HST.out fun b hb e => ?_, by rw [HSQ.out]; exact HDC.out, by omega, fun b hb => .inl hb, HBE.out⟩
        have e : b = b2 := e
        have := HVB.out b hb
        have := HBB.out
        omega
      | false =>
        rcases HZ.out with ⟨t, d, rfl, ht, hti⟩ | ⟨rfl, hno⟩
        · have HSE := Lib.hid (show s = (42, T, G) from by
            have := (HDC.out.mem d).1 (mem_at ht)
            rw [hti] at this
            rw [hsn]; unfold stP; rw [if_pos (HV.out.1 rfl)]; simp only [this])
          have hge : (0 : Int) ≤ (t : Int) := by omega
          clear hsn ht hti HZ
          clear m0 m1 m2 m3 m4 ml a0 a1 a2 a3 a4 a5 a6 al s0 s1 s2 s3 s4 f0 f1 f2 f3 f4 sl
          have HSQ := Lib.hid (show s = (42, T, G) from HSE.out)
          have HR := Lib.hid ((H2.out.below HB2.out).set5 (T) (.slice a0' n cp))
          have HST := Lib.hid (show Chg (fun k => k = b2) w2 (set5w w2 b2 (T) (.slice a0' n cp)) from
            ((((((Chg.refl (fun k => k = b2) w2).setCell (p := ⟨b2, 0, none⟩) (.inl rfl) _).setCell (p := ⟨b2, 1, none⟩) (.inl rfl) _).setCell (p := ⟨b2, 2, none⟩) (.inl rfl) _).setCell (p := ⟨b2, 3, none⟩) (.inl rfl) _).setCell (p := ⟨b2, 4, none⟩) (.inl rfl) _))
          have HBE := Lib.hid (show Below w.heap.size w (set5w w2 b2 (T) (.slice a0' n cp)) from (bt HB.out HB2.out).trans (HST.out.below (by have := (bt HB.out HB2.out).size; omega) fun k e => by have e : k = b2 := e; have := HBB.out; omega))
          obtain ⟨m0, m1, m2, m3, m4⟩ := (HM.out.below HB2.out).cells
          have ml := (HM.out.below HB2.out).lt
          obtain ⟨a0, a1, a2, a3, a4, a5, a6⟩ := (HA.out.below HB2.out).cells
          have al := (HA.out.below HB2.out).lt
          obtain ⟨s0, s1, s2, s3, s4⟩ := (H2.out.below HB2.out).cells
          have f0 := (H2.out.below HB2.out).fz 0; have f1 := (H2.out.below HB2.out).fz 1; have f2 := (H2.out.below HB2.out).fz 2; have f3 := (H2.out.below HB2.out).fz 3; have f4 := (H2.out.below HB2.out).fz 4
          have sl := (H2.out.below HB2.out).lt
          go_wp2
          refine bodyPost_ret (res_m9e Try.results7 rfl rfl HR.out) rfl ?_
          refine ⟨_, C, by rw [HSQ.out]; rfl, (HC.out.below (bt HB.out HB2.out)).chg HST.out fun b hb e => ?_, by rw [HSQ.out]; exact HDC.out, by omega, fun b hb => .inl hb, HBE.out⟩
          have e : b = b2 := e
          have := HVB.out b hb
          have := HBB.out
          omega
        · have hgn : G a.i = none := by
            cases hg : G a.i with
            | none => rfl
            | some c => exact absurd rfl (hno ⟨a.i, c⟩ ((HDC.out.mem _).2 hg))
          have HSQ := Lib.hid (show s = (0, T, upd G a.i (some (clN a.x))) from by rw [hsn]; unfold stP; rw [if_pos (HV.out.1 rfl)]; simp only [hgn])
          have HDX := Lib.hid (HDC.out.put hgn (clN a.x))
          have HW := Lib.hid (rwith9 (T := T) (HC.out.below (bt HB.out HB2.out)) (by have := HN.out; omega) (-1) ⟨a.i, clN a.x⟩ C rfl keep_with)
          rw [if_pos (by decide)] at HW
          have HWC := Lib.hid (show w1.heap.size ≤ w2.heap.size from HB2.out.size)
          clear hsn hno HZ hgn
          go_wp2_with fail
          clear m0 m1 m2 m3 m4 ml a0 a1 a2 a3 a4 a5 a6 al s0 s1 s2 s3 s4 f0 f1 f2 f3 f4 sl
          refine HW.out.mono ?_
          rintro e w3 ⟨v3, rfl, ho3, hb3⟩
          have HB3 := Lib.hid (bt HB2.out hb3)
          have HO3 := Lib.hid ho3
          clear ho3 hb3 HW
          obtain ⟨ao, mo, co, hvo⟩ : ∃ ao mo co, v3 = .slice ao mo co := by
            rcases HO3.out.2 with ⟨hv, h0⟩ | ⟨g', cap', cur', hv, _⟩
            · exact ⟨_, _, _, hv⟩
            · exact ⟨_, _, _, hv⟩
          subst hvo
          have HR := Lib.hid ((H2.out.below HB3.out).set5 (T) (.slice ao mo co))
          have HST := Lib.hid (show Chg (fun k => k = b2) w3 (set5w w3 b2 (T) (.slice ao mo co)) from
            ((((((Chg.refl (fun k => k = b2) w3).setCell (p := ⟨b2, 0, none⟩) (.inl rfl) _).setCell (p := ⟨b2, 1, none⟩) (.inl rfl) _).setCell (p := ⟨b2, 2, none⟩) (.inl rfl) _).setCell (p := ⟨b2, 3, none⟩) (.inl rfl) _).setCell (p := ⟨b2, 4, none⟩) (.inl rfl) _))
          have HBE := Lib.hid (show Below w.heap.size w (set5w w3 b2 (T) (.slice ao mo co)) from (bt HB.out HB3.out).trans (HST.out.below (by have := (bt HB.out HB3.out).size; omega) fun k e => by have e : k = b2 := e; have := HBB.out; omega))
          obtain ⟨m0, m1, m2, m3, m4⟩ := (HM.out.below HB3.out).cells
          have ml := (HM.out.below HB3.out).lt
          obtain ⟨a0, a1, a2, a3, a4, a5, a6⟩ := (HA.out.below HB3.out).cells
          have al := (HA.out.below HB3.out).lt
          obtain ⟨s0, s1, s2, s3, s4⟩ := (H2.out.below HB3.out).cells
          have f0 := (H2.out.below HB3.out).fz 0; have f1 := (H2.out.below HB3.out).fz 1; have f2 := (H2.out.below HB3.out).fz 2; have f3 := (H2.out.below HB3.out).fz 3; have f4 := (H2.out.below HB3.out).fz 4
          have sl := (H2.out.below HB3.out).lt
          go_wp2
          refine bodyPost_ret (res_m9e Try.results7 rfl rfl HR.out) rfl ?_
          have hol := HO3.out.lt
          have hbb := HBB.out
          refine ⟨.slice ao mo co, (C ++ [(⟨a.i, clN a.x⟩ : Dc)]), by rw [HSQ.out]; rfl, (HO3.out.chg HST.out fun b hb e => ?_).rs (fun _ => rfl), by rw [HSQ.out]; exact HDX.out, by first | (simp; done) | (simp; omega) | (have := List.length_eraseIdx_le C t; omega), fun b hb => .inr ?_, HBE.out⟩
          · have e : b = b2 := e
            have := (hol b hb).1
            have := H2.out.lt
            have := HWC.out
            omega
          · have q := hol b hb
            have := HWC.out
            have := HB.out.size
            exact ⟨by omega, Nat.lt_of_lt_of_le q.2 HST.out.size⟩
    have k1b : (a.k == 1) = false := by simpa using k1
    rcases HZ.out with ⟨t, d, rfl, ht, hti⟩ | ⟨rfl, hno⟩
    case inr =>
      have hgn : G a.i = none := by
        cases hg : G a.i with
        | none => rfl
        | some c => exact absurd rfl (hno ⟨a.i, c⟩ ((HDC.out.mem _).2 hg))
      have HSE := Lib.hid (show s = (43, T, G) from by
        rw [HS.out]; unfold stp; rw [if_neg k0, if_neg k1]
        unfold stD stW stA stG stK
        simp only [hgn]
        repeat' split
        all_goals rfl)
      clear hgn hno HZ
      clear m0 m1 m2 m3 m4 ml a0 a1 a2 a3 a4 a5 a6 al s0 s1 s2 s3 s4 f0 f1 f2 f3 f4 sl
      have HSQ := Lib.hid (show s = (43, T, G) from HSE.out)
      have HR := Lib.hid ((H2.out.below HB2.out).set5 (T) (.slice a0' n cp))
      have HST := Lib.hid (show Chg (fun k => k = b2) w2 (set5w w2 b2 (T) (.slice a0' n cp)) from
        ((((((Chg.refl (fun k => k = b2) w2).setCell (p := ⟨b2, 0, none⟩) (.inl rfl) _).setCell (p := ⟨b2, 1, none⟩) (.inl rfl) _).setCell (p := ⟨b2, 2, none⟩) (.inl rfl) _).setCell (p := ⟨b2, 3, none⟩) (.inl rfl) _).setCell (p := ⟨b2, 4, none⟩) (.inl rfl) _))
      have HBE := Lib.hid (show Below w.heap.size w (set5w w2 b2 (T) (.slice a0' n cp)) from (bt HB.out HB2.out).trans (HST.out.below (by have := (bt HB.out HB2.out).size; omega) fun k e => by have e : k = b2 := e; have := HBB.out; omega))
      obtain ⟨m0, m1, m2, m3, m4⟩ := (HM.out.below HB2.out).cells
      have ml := (HM.out.below HB2.out).lt
      obtain ⟨a0, a1, a2, a3, a4, a5, a6⟩ := (HA.out.below HB2.out).cells
      have al := (HA.out.below HB2.out).lt
      obtain ⟨s0, s1, s2, s3, s4⟩ := (H2.out.below HB2.out).cells
      have f0 := (H2.out.below HB2.out).fz 0; have f1 := (H2.out.below HB2.out).fz 1; have f2 := (H2.out.below HB2.out).fz 2; have f3 := (H2.out.below HB2.out).fz 3; have f4 := (H2.out.below HB2.out).fz 4
      have sl := (H2.out.below HB2.out).lt
      go_wp2
      refine bodyPost_ret (res_m9e Try.results7 rfl rfl HR.out) rfl ?_
      refine ⟨_, C, by rw [HSQ.out]; rfl, (HC.out.below (bt HB.out HB2.out)).chg HST.out fun b hb e => ?_, by rw [HSQ.out]; exact HDC.out, by omega, fun b hb => .inl hb, HBE.out⟩
      have e : b = b2 := e
      have := HVB.out b hb
      have := HBB.out
      omega
    have hgs : G a.i = some d.c := by rw [← hti]; exact (HDC.out.mem d).1 (mem_at ht)
    obtain ⟨di, c⟩ := d
    simp only at hti hgs
    subst hti
    have HT := Lib.hid ht
    have htn : t < n := by rw [HN.out]; exact (List.getElem?_eq_some_iff.1 ht).1
    obtain ⟨bs, off, rfl, hbs, hcell⟩ := HAT.out t _ ht
    have HBS := Lib.hid hbs
    have hbw := (bt HB.out HB2.out)
    have e0 := (hbw.cell (p := ⟨bs, off + t * 7 + 0, none⟩) hbs).trans (hcell 0 _ rfl)
    have e1 := (hbw.cell (p := ⟨bs, off + t * 7 + 1, none⟩) hbs).trans (hcell 1 _ rfl)
    have e2 := (hbw.cell (p := ⟨bs, off + t * 7 + 2, none⟩) hbs).trans (hcell 2 _ rfl)
    have e3 := (hbw.cell (p := ⟨bs, off + t * 7 + 3, none⟩) hbs).trans (hcell 3 _ rfl)
    have e4 := (hbw.cell (p := ⟨bs, off + t * 7 + 4, none⟩) hbs).trans (hcell 4 _ rfl)
    have e5 := (hbw.cell (p := ⟨bs, off + t * 7 + 5, none⟩) hbs).trans (hcell 5 _ rfl)
    have e6 := (hbw.cell (p := ⟨bs, off + t * 7 + 6, none⟩) hbs).trans (hcell 6 _ rfl)
    simp only [Nat.add_zero] at e0 e1 e2 e3 e4 e5 e6
    have hbs2 : bs < w2.heap.size := Nat.lt_of_lt_of_le hbs hbw.size
    have hti2 : (t : Int) < (n : Int) := by omega
    have hnn : ¬ (t : Int) < 0 := by omega
    have hb3 := ba (Below.refl w2.heap.size w2) (.cells (dccells ⟨a.i, c⟩) 52)
    have HD3 := Lib.hid (DB9.made w2 ⟨a.i, c⟩)
    have HB3 := Lib.hid (bt HB2.out hb3)
    have HGS := Lib.hid hgs
    have hsm := HSM.out _ _ hgs
    have HC4 := Lib.hid hsm
    clear hcell ht hbs hbw hb3 hgs HZ hsm
    go_upto_region 16 with (fail)
    clear m0 m1 m2 m3 m4 ml a0 a1 a2 a3 a4 a5 a6 al s0 s1 s2 s3 s4 f0 f1 f2 f3 f4 sl
    clear e0 e1 e2 e3 e4 e5 e6 hbs2
    generalize w2.alloc (.cells (dccells ⟨a.i, c⟩) 52) = w3 at *
    obtain ⟨b4, hb4⟩ : ∃ b, b = w2.heap.size := ⟨_, rfl⟩
    rw [← hb4] at HD3 ⊢
    have HW4 := Lib.hid (show w1.heap.size ≤ b4 from by rw [hb4]; exact HB2.out.size)
    clear hb4
    have HWC := Lib.hid (show w1.heap.size ≤ w3.heap.size from HB3.out.size)
    obtain ⟨d0, d1, d2, d3, d4, d5, d6⟩ := HD3.out.cells
    have dl := HD3.out.lt
    have df1 := HD3.out.fz 1; have df2 := HD3.out.fz 2; have df3 := HD3.out.fz 3; have df4 := HD3.out.fz 4; have df5 := HD3.out.fz 5; have df6 := HD3.out.fz 6
    by_cases k2 : a.k = 2
    · have HSQ := Lib.hid (show s = (0, T, upd G a.i none) from by
        rw [HS.out]; unfold stp; rw [if_neg k0, if_neg k1, if_pos k2]; unfold stD; simp only [HGS.out])
      have k2b : (a.k == 2) = true := by simpa using k2
      clear k0 k1 k2
      have HDX := Lib.hid (HDC.out.out HT.out)
      have HW := Lib.hid (rwithout9 (T := T) (HC.out.below (bt HB.out HB3.out)) (by have := HN.out; omega) t)
      obtain ⟨m0, m1, m2, m3, m4⟩ := (HM.out.below HB3.out).cells
      have ml := (HM.out.below HB3.out).lt
      obtain ⟨a0, a1, a2, a3, a4, a5, a6⟩ := (HA.out.below HB3.out).cells
      have al := (HA.out.below HB3.out).lt
      obtain ⟨s0, s1, s2, s3, s4⟩ := (H2.out.below HB3.out).cells
      have f0 := (H2.out.below HB3.out).fz 0; have f1 := (H2.out.below HB3.out).fz 1; have f2 := (H2.out.below HB3.out).fz 2; have f3 := (H2.out.below HB3.out).fz 3; have f4 := (H2.out.below HB3.out).fz 4
      have sl := (H2.out.below HB3.out).lt
      go_wp2_with fail
      clear m0 m1 m2 m3 m4 ml a0 a1 a2 a3 a4 a5 a6 al s0 s1 s2 s3 s4 f0 f1 f2 f3 f4 sl
      clear d0 d1 d2 d3 d4 d5 d6 dl df1 df2 df3 df4 df5 df6
      refine HW.out.mono ?_
      rintro e w9 ⟨v9, rfl, ho9, hb9⟩
      have HB9 := Lib.hid (bt HB3.out hb9)
      have HO9 := Lib.hid ho9
      clear ho9 hb9 HW
      obtain ⟨ao, mo, co, hvo⟩ : ∃ ao mo co, v9 = .slice ao mo co := by
        rcases HO9.out.2 with ⟨hv, h0⟩ | ⟨g', cap', cur', hv, _⟩
        · exact ⟨_, _, _, hv⟩
        · exact ⟨_, _, _, hv⟩
      subst hvo
      have HR := Lib.hid ((H2.out.below HB9.out).set5 (T) (.slice ao mo co))
      have HST := Lib.hid (show Chg (fun k => k = b2) w9 (set5w w9 b2 (T) (.slice ao mo co)) from
        ((((((Chg.refl (fun k => k = b2) w9).setCell (p := ⟨b2, 0, none⟩) (.inl rfl) _).setCell (p := ⟨b2, 1, none⟩) (.inl rfl) _).setCell (p := ⟨b2, 2, none⟩) (.inl rfl) _).setCell (p := ⟨b2, 3, none⟩) (.inl rfl) _).setCell (p := ⟨b2, 4, none⟩) (.inl rfl) _))
      have HBE := Lib.hid (show Below w.heap.size w (set5w w9 b2 (T) (.slice ao mo co)) from (bt HB.out HB9.out).trans (HST.out.below (by have := (bt HB.out HB9.out).size; omega) fun k e => by have e : k = b2 := e; have := HBB.out; omega))
      obtain ⟨m0, m1, m2, m3, m4⟩ := (HM.out.below HB9.out).cells
      have ml := (HM.out.below HB9.out).lt
      obtain ⟨a0, a1, a2, a3, a4, a5, a6⟩ := (HA.out.below HB9.out).cells
      have al := (HA.out.below HB9.out).lt
      obtain ⟨s0, s1, s2, s3, s4⟩ := (H2.out.below HB9.out).cells
      have f0 := (H2.out.below HB9.out).fz 0; have f1 := (H2.out.below HB9.out).fz 1; have f2 := (H2.out.below HB9.out).fz 2; have f3 := (H2.out.below HB9.out).fz 3; have f4 := (H2.out.below HB9.out).fz 4
      have sl := (H2.out.below HB9.out).lt
      go_wp2
      refine bodyPost_ret (res_m9e Try.results7 rfl rfl HR.out) rfl ?_
      have hol := HO9.out.lt
      have hbb := HBB.out
      refine ⟨.slice ao mo co, (C.eraseIdx t), by rw [HSQ.out]; rfl, (HO9.out.chg HST.out fun b hb e => ?_).rs (fun _ => rfl), by rw [HSQ.out]; exact HDX.out, by first | (simp; done) | (simp; omega) | (have := List.length_eraseIdx_le C t; omega), fun b hb => .inr ?_, HBE.out⟩
      · have e : b = b2 := e
        have := (hol b hb).1
        have := H2.out.lt
        have := HWC.out
        omega
      · have q := hol b hb
        have := HWC.out
        have := HB.out.size
        exact ⟨by omega, Nat.lt_of_lt_of_le q.2 HST.out.size⟩
    have k2b : (a.k == 2) = false := by simpa using k2
    by_cases k3 : a.k = 3
    · have hsn : s = stW T G a.i a.x := by rw [HS.out]; unfold stp; rw [if_neg k0, if_neg k1, if_neg k2, if_pos k3]
      have k3b : (a.k == 3) = true := by simpa using k3
      clear k0 k1 k2 k3
      cases hv with
      | true =>
        have HSE := Lib.hid (show s = (41, T, G) from by rw [hsn]; unfold stW; simp only [HGS.out]; rw [if_neg (fun h => by have := HV.out.2 h; cases this)])
        clear hsn
        clear d0 d1 d2 d3 d4 d5 d6 dl df1 df2 df3 df4 df5 df6
        have HSQ := Lib.hid (show s = (41, T, G) from HSE.out)
        have HR := Lib.hid ((H2.out.below HB3.out).set5 (T) (.slice (some ⟨bs, off, none⟩) n cp))
        have HST := Lib.hid (show Chg (fun k => k = b2) w3 (set5w w3 b2 (T) (.slice (some ⟨bs, off, none⟩) n cp)) from
          ((((((Chg.refl (fun k => k = b2) w3).setCell (p := ⟨b2, 0, none⟩) (.inl rfl) _).setCell (p := ⟨b2, 1, none⟩) (.inl rfl) _).setCell (p := ⟨b2, 2, none⟩) (.inl rfl) _).setCell (p := ⟨b2, 3, none⟩) (.inl rfl) _).setCell (p := ⟨b2, 4, none⟩) (.inl rfl) _))
        have HBE := Lib.hid (show Below w.heap.size w (set5w w3 b2 (T) (.slice (some ⟨bs, off, none⟩) n cp)) from (bt HB.out HB3.out).trans (HST.out.below (by have := (bt HB.out HB3.out).size; omega) fun k e => by have e : k = b2 := e; have := HBB.out; omega))
        obtain ⟨m0, m1, m2, m3, m4⟩ := (HM.out.below HB3.out).cells
        have ml := (HM.out.below HB3.out).lt
        obtain ⟨a0, a1, a2, a3, a4, a5, a6⟩ := (HA.out.below HB3.out).cells
        have al := (HA.out.below HB3.out).lt
        obtain ⟨s0, s1, s2, s3, s4⟩ := (H2.out.below HB3.out).cells
        have f0 := (H2.out.below HB3.out).fz 0; have f1 := (H2.out.below HB3.out).fz 1; have f2 := (H2.out.below HB3.out).fz 2; have f3 := (H2.out.below HB3.out).fz 3; have f4 := (H2.out.below HB3.out).fz 4
        have sl := (H2.out.below HB3.out).lt
        go_wp2
        refine bodyPost_ret (res_m9e Try.results7 rfl rfl HR.out) rfl ?_
        refine ⟨_, C, by rw [HSQ.out]; rfl, (HC.out.below (bt HB.out HB3.out)).chg HST.out fun b hb e => ?_, by rw [HSQ.out]; exact HDC.out, by omega, fun b hb => .inl hb, HBE.out⟩
        have e : b = b2 := e
        have := HVB.out b hb
        have := HBB.out
        omega
      | false =>
        have HSE := Lib.hid (show s = (0, T, upd G a.i (some { c with wt := a.x })) from by rw [hsn]; unfold stW; simp only [HGS.out]; rw [if_pos (HV.out.1 rfl)])
        clear hsn
        have HB4 := Lib.hid (show Below w1.heap.size w1 (w3.setCell ⟨b4, 1, none⟩ (.int .i64 a.x)) from HB3.out.setCell (p := ⟨b4, 1, none⟩) HW4.out (.int .i64 a.x))
        have HD4 := Lib.hid (HD3.out.setw a.x)
        obtain ⟨m0, m1, m2, m3, m4⟩ := (HM.out.below HB3.out).cells
        have ml := (HM.out.below HB3.out).lt
        obtain ⟨a0, a1, a2, a3, a4, a5, a6⟩ := (HA.out.below HB3.out).cells
        have al := (HA.out.below HB3.out).lt
        obtain ⟨s0, s1, s2, s3, s4⟩ := (H2.out.below HB3.out).cells
        have f0 := (H2.out.below HB3.out).fz 0; have f1 := (H2.out.below HB3.out).fz 1; have f2 := (H2.out.below HB3.out).fz 2; have f3 := (H2.out.below HB3.out).fz 3; have f4 := (H2.out.below HB3.out).fz 4
        have sl := (H2.out.below HB3.out).lt
        go_upto_region 36 with (fail)
        clear m0 m1 m2 m3 m4 ml a0 a1 a2 a3 a4 a5 a6 al s0 s1 s2 s3 s4 f0 f1 f2 f3 f4 sl
        clear d0 d1 d2 d3 d4 d5 d6 dl df1 df2 df3 df4 df5 df6
        generalize w3.setCell ⟨b4, 1, none⟩ (.int .i64 a.x) = w4 at *
        have HSQ := HSE
        have HDX := Lib.hid (HDC.out.set HT.out ({ c with wt := a.x }))
        have HW := Lib.hid (rwith9 (T := T) (w := w4) (HC.out.below (bt HB.out HB4.out)) (by have := HN.out; omega) (t : Int) ⟨a.i, { c with wt := a.x }⟩ (C.set t ⟨a.i, { c with wt := a.x }⟩) (by simp) (set_with (by have := HN.out; omega)))
        rw [if_neg (by omega)] at HW
        have HWC := Lib.hid (show w1.heap.size ≤ w4.heap.size from HB4.out.size)
        obtain ⟨m0, m1, m2, m3, m4⟩ := (HM.out.below HB4.out).cells
        have ml := (HM.out.below HB4.out).lt
        obtain ⟨a0, a1, a2, a3, a4, a5, a6⟩ := (HA.out.below HB4.out).cells
        have al := (HA.out.below HB4.out).lt
        obtain ⟨s0, s1, s2, s3, s4⟩ := (H2.out.below HB4.out).cells
        have f0 := (H2.out.below HB4.out).fz 0; have f1 := (H2.out.below HB4.out).fz 1; have f2 := (H2.out.below HB4.out).fz 2; have f3 := (H2.out.below HB4.out).fz 3; have f4 := (H2.out.below HB4.out).fz 4
        have sl := (H2.out.below HB4.out).lt
        obtain ⟨d0, d1, d2, d3, d4, d5, d6⟩ := HD4.out.cells
        have dl := HD4.out.lt
        have df1 := HD4.out.fz 1; have df2 := HD4.out.fz 2; have df3 := HD4.out.fz 3; have df4 := HD4.out.fz 4; have df5 := HD4.out.fz 5; have df6 := HD4.out.fz 6
        go_wp2_with fail
        clear m0 m1 m2 m3 m4 ml a0 a1 a2 a3 a4 a5 a6 al s0 s1 s2 s3 s4 f0 f1 f2 f3 f4 sl
        clear d0 d1 d2 d3 d4 d5 d6 dl df1 df2 df3 df4 df5 df6
        refine HW.out.mono ?_
        rintro e w9 ⟨v9, rfl, ho9, hb9⟩
        have HB9 := Lib.hid (bt HB4.out hb9)
        have HO9 := Lib.hid ho9
        clear ho9 hb9 HW
        obtain ⟨ao, mo, co, hvo⟩ : ∃ ao mo co, v9 = .slice ao mo co := by
          rcases HO9.out.2 with ⟨hv, h0⟩ | ⟨g', cap', cur', hv, _⟩
          · exact ⟨_, _, _, hv⟩
          · exact ⟨_, _, _, hv⟩
        subst hvo
        have HR := Lib.hid ((H2.out.below HB9.out).set5 (T) (.slice ao mo co))
        have HST := Lib.hid (show Chg (fun k => k = b2) w9 (set5w w9 b2 (T) (.slice ao mo co)) from
          ((((((Chg.refl (fun k => k = b2) w9).setCell (p := ⟨b2, 0, none⟩) (.inl rfl) _).setCell (p := ⟨b2, 1, none⟩) (.inl rfl) _).setCell (p := ⟨b2, 2, none⟩) (.inl rfl) _).setCell (p := ⟨b2, 3, none⟩) (.inl rfl) _).setCell (p := ⟨b2, 4, none⟩) (.inl rfl) _))
        have HBE := Lib.hid (show Below w.heap.size w (set5w w9 b2 (T) (.slice ao mo co)) from (bt HB.out HB9.out).trans (HST.out.below (by have := (bt HB.out HB9.out).size; omega) fun k e => by have e : k = b2 := e; have := HBB.out; omega))
        obtain ⟨m0, m1, m2, m3, m4⟩ := (HM.out.below HB9.out).cells
        have ml := (HM.out.below HB9.out).lt
        obtain ⟨a0, a1, a2, a3, a4, a5, a6⟩ := (HA.out.below HB9.out).cells
        have al := (HA.out.below HB9.out).lt
        obtain ⟨s0, s1, s2, s3, s4⟩ := (H2.out.below HB9.out).cells
        have f0 := (H2.out.below HB9.out).fz 0; have f1 := (H2.out.below HB9.out).fz 1; have f2 := (H2.out.below HB9.out).fz 2; have f3 := (H2.out.below HB9.out).fz 3; have f4 := (H2.out.below HB9.out).fz 4
        have sl := (H2.out.below HB9.out).lt
        go_wp2
        refine bodyPost_ret (res_m9e Try.results7 rfl rfl HR.out) rfl ?_
        have hol := HO9.out.lt
        have hbb := HBB.out
        refine ⟨.slice ao mo co, (C.set t (⟨a.i, { c with wt := a.x }⟩ : Dc)), by rw [HSQ.out]; rfl, (HO9.out.chg HST.out fun b hb e => ?_).rs (fun _ => rfl), by rw [HSQ.out]; exact HDX.out, by first | (simp; done) | (simp; omega) | (have := List.length_eraseIdx_le C t; omega), fun b hb => .inr ?_, HBE.out⟩
        · have e : b = b2 := e
          have := (hol b hb).1
          have := H2.out.lt
          have := HWC.out
          omega
        · have q := hol b hb
          have := HWC.out
          have := HB.out.size
          exact ⟨by omega, Nat.lt_of_lt_of_le q.2 HST.out.size⟩
    have k3b : (a.k == 3) = false := by simpa using k3
    by_cases k4 : a.k = 4
    · have HSE := Lib.hid (show s = (0, T, upd G a.i (some { c with aw := true })) from by
        rw [HS.out]; unfold stp; rw [if_neg k0, if_neg k1, if_neg k2, if_neg k3, if_pos k4]; unfold stA; simp only [HGS.out])
      have k4b : (a.k == 4) = true := by simpa using k4
      clear k0 k1 k2 k3 k4
      have HB4 := Lib.hid (show Below w1.heap.size w1 (w3.setCell ⟨b4, 6, none⟩ (.bool true)) from HB3.out.setCell (p := ⟨b4, 6, none⟩) HW4.out (.bool true))
      have HD4 := Lib.hid (HD3.out.seta true)
      obtain ⟨m0, m1, m2, m3, m4⟩ := (HM.out.below HB3.out).cells
      have ml := (HM.out.below HB3.out).lt
      obtain ⟨a0, a1, a2, a3, a4, a5, a6⟩ := (HA.out.below HB3.out).cells
      have al := (HA.out.below HB3.out).lt
      obtain ⟨s0, s1, s2, s3, s4⟩ := (H2.out.below HB3.out).cells
      have f0 := (H2.out.below HB3.out).fz 0; have f1 := (H2.out.below HB3.out).fz 1; have f2 := (H2.out.below HB3.out).fz 2; have f3 := (H2.out.below HB3.out).fz 3; have f4 := (H2.out.below HB3.out).fz 4
      have sl := (H2.out.below HB3.out).lt
      go_upto_region 36 with (fail)
      clear m0 m1 m2 m3 m4 ml a0 a1 a2 a3 a4 a5 a6 al s0 s1 s2 s3 s4 f0 f1 f2 f3 f4 sl
      clear d0 d1 d2 d3 d4 d5 d6 dl df1 df2 df3 df4 df5 df6
      generalize w3.setCell ⟨b4, 6, none⟩ (.bool true) = w4 at *
      have HSQ := HSE
      have HDX := Lib.hid (HDC.out.set HT.out ({ c with aw := true }))
      have HW := Lib.hid (rwith9 (T := T) (w := w4) (HC.out.below (bt HB.out HB4.out)) (by have := HN.out; omega) (t : Int) ⟨a.i, { c with aw := true }⟩ (C.set t ⟨a.i, { c with aw := true }⟩) (by simp) (set_with (by have := HN.out; omega)))
      rw [if_neg (by omega)] at HW
      have HWC := Lib.hid (show w1.heap.size ≤ w4.heap.size from HB4.out.size)
      obtain ⟨m0, m1, m2, m3, m4⟩ := (HM.out.below HB4.out).cells
      have ml := (HM.out.below HB4.out).lt
      obtain ⟨a0, a1, a2, a3, a4, a5, a6⟩ := (HA.out.below HB4.out).cells
      have al := (HA.out.below HB4.out).lt
      obtain ⟨s0, s1, s2, s3, s4⟩ := (H2.out.below HB4.out).cells
      have f0 := (H2.out.below HB4.out).fz 0; have f1 := (H2.out.below HB4.out).fz 1; have f2 := (H2.out.below HB4.out).fz 2; have f3 := (H2.out.below HB4.out).fz 3; have f4 := (H2.out.below HB4.out).fz 4
      have sl := (H2.out.below HB4.out).lt
      obtain ⟨d0, d1, d2, d3, d4, d5, d6⟩ := HD4.out.cells
      have dl := HD4.out.lt
      have df1 := HD4.out.fz 1; have df2 := HD4.out.fz 2; have df3 := HD4.out.fz 3; have df4 := HD4.out.fz 4; have df5 := HD4.out.fz 5; have df6 := HD4.out.fz 6
      go_wp2_with fail
      clear m0 m1 m2 m3 m4 ml a0 a1 a2 a3 a4 a5 a6 al s0 s1 s2 s3 s4 f0 f1 f2 f3 f4 sl
      clear d0 d1 d2 d3 d4 d5 d6 dl df1 df2 df3 df4 df5 df6
      refine HW.out.mono ?_
      rintro e w9 ⟨v9, rfl, ho9, hb9⟩
      have HB9 := Lib.hid (bt HB4.out hb9)
      have HO9 := Lib.hid ho9
      clear ho9 hb9 HW
      obtain ⟨ao, mo, co, hvo⟩ : ∃ ao mo co, v9 = .slice ao mo co := by
        rcases HO9.out.2 with ⟨hv, h0⟩ | ⟨g', cap', cur', hv, _⟩
        · exact ⟨_, _, _, hv⟩
        · exact ⟨_, _, _, hv⟩
      subst hvo
      have HR := Lib.hid ((H2.out.below HB9.out).set5 (T) (.slice ao mo co))
      have HST := Lib.hid (show Chg (fun k => k = b2) w9 (set5w w9 b2 (T) (.slice ao mo co)) from
        ((((((Chg.refl (fun k => k = b2) w9).setCell (p := ⟨b2, 0, none⟩) (.inl rfl) _).setCell (p := ⟨b2, 1, none⟩) (.inl rfl) _).setCell (p := ⟨b2, 2, none⟩) (.inl rfl) _).setCell (p := ⟨b2, 3, none⟩) (.inl rfl) _).setCell (p := ⟨b2, 4, none⟩) (.inl rfl) _))
      have HBE := Lib.hid (show Below w.heap.size w (set5w w9 b2 (T) (.slice ao mo co)) from (bt HB.out HB9.out).trans (HST.out.below (by have := (bt HB.out HB9.out).size; omega) fun k e => by have e : k = b2 := e; have := HBB.out; omega))
      obtain ⟨m0, m1, m2, m3, m4⟩ := (HM.out.below HB9.out).cells
      have ml := (HM.out.below HB9.out).lt
      obtain ⟨a0, a1, a2, a3, a4, a5, a6⟩ := (HA.out.below HB9.out).cells
      have al := (HA.out.below HB9.out).lt
      obtain ⟨s0, s1, s2, s3, s4⟩ := (H2.out.below HB9.out).cells
      have f0 := (H2.out.below HB9.out).fz 0; have f1 := (H2.out.below HB9.out).fz 1; have f2 := (H2.out.below HB9.out).fz 2; have f3 := (H2.out.below HB9.out).fz 3; have f4 := (H2.out.below HB9.out).fz 4
      have sl := (H2.out.below HB9.out).lt
      go_wp2
      refine bodyPost_ret (res_m9e Try.results7 rfl rfl HR.out) rfl ?_
      have hol := HO9.out.lt
      have hbb := HBB.out
      refine ⟨.slice ao mo co, (C.set t (⟨a.i, { c with aw := true }⟩ : Dc)), by rw [HSQ.out]; rfl, (HO9.out.chg HST.out fun b hb e => ?_).rs (fun _ => rfl), by rw [HSQ.out]; exact HDX.out, by first | (simp; done) | (simp; omega) | (have := List.length_eraseIdx_le C t; omega), fun b hb => .inr ?_, HBE.out⟩
      · have e : b = b2 := e
        have := (hol b hb).1
        have := H2.out.lt
        have := HWC.out
        omega
      · have q := hol b hb
        have := HWC.out
        have := HB.out.size
        exact ⟨by omega, Nat.lt_of_lt_of_le q.2 HST.out.size⟩
    have k4b : (a.k == 4) = false := by simpa using k4
    by_cases k5 : a.k = 5
    · have HSE := Lib.hid (show s = (0, T, upd G a.i (some { c with aw := false })) from by
        rw [HS.out]; unfold stp; rw [if_neg k0, if_neg k1, if_neg k2, if_neg k3, if_neg k4, if_pos k5]; unfold stA; simp only [HGS.out])
      have k5b : (a.k == 5) = true := by simpa using k5
      clear k0 k1 k2 k3 k4 k5
      have HB4 := Lib.hid (show Below w1.heap.size w1 (w3.setCell ⟨b4, 6, none⟩ (.bool false)) from HB3.out.setCell (p := ⟨b4, 6, none⟩) HW4.out (.bool false))
      have HD4 := Lib.hid (HD3.out.seta false)
      obtain ⟨m0, m1, m2, m3, m4⟩ := (HM.out.below HB3.out).cells
      have ml := (HM.out.below HB3.out).lt
      obtain ⟨a0, a1, a2, a3, a4, a5, a6⟩ := (HA.out.below HB3.out).cells
      have al := (HA.out.below HB3.out).lt
      obtain ⟨s0, s1, s2, s3, s4⟩ := (H2.out.below HB3.out).cells
      have f0 := (H2.out.below HB3.out).fz 0; have f1 := (H2.out.below HB3.out).fz 1; have f2 := (H2.out.below HB3.out).fz 2; have f3 := (H2.out.below HB3.out).fz 3; have f4 := (H2.out.below HB3.out).fz 4
      have sl := (H2.out.below HB3.out).lt
      go_upto_region 36 with (fail)
      clear m0 m1 m2 m3 m4 ml a0 a1 a2 a3 a4 a5 a6 al s0 s1 s2 s3 s4 f0 f1 f2 f3 f4 sl
      clear d0 d1 d2 d3 d4 d5 d6 dl df1 df2 df3 df4 df5 df6
      generalize w3.setCell ⟨b4, 6, none⟩ (.bool false) = w4 at *
      have HSQ := HSE
      have HDX := Lib.hid (HDC.out.set HT.out ({ c with aw := false }))
      have HW := Lib.hid (rwith9 (T := T) (w := w4) (HC.out.below (bt HB.out HB4.out)) (by have := HN.out; omega) (t : Int) ⟨a.i, { c with aw := false }⟩ (C.set t ⟨a.i, { c with aw := false }⟩) (by simp) (set_with (by have := HN.out; omega)))
      rw [if_neg (by omega)] at HW
      have HWC := Lib.hid (show w1.heap.size ≤ w4.heap.size from HB4.out.size)
      obtain ⟨m0, m1, m2, m3, m4⟩ := (HM.out.below HB4.out).cells
      have ml := (HM.out.below HB4.out).lt
      obtain ⟨a0, a1, a2, a3, a4, a5, a6⟩ := (HA.out.below HB4.out).cells
      have al := (HA.out.below HB4.out).lt
      obtain ⟨s0, s1, s2, s3, s4⟩ := (H2.out.below HB4.out).cells
      have f0 := (H2.out.below HB4.out).fz 0; have f1 := (H2.out.below HB4.out).fz 1; have f2 := (H2.out.below HB4.out).fz 2; have f3 := (H2.out.below HB4.out).fz 3; have f4 := (H2.out.below HB4.out).fz 4
      have sl := (H2.out.below HB4.out).lt
      obtain ⟨d0, d1, d2, d3, d4, d5, d6⟩ := HD4.out.cells
      have dl := HD4.out.lt
      have df1 := HD4.out.fz 1; have df2 := HD4.out.fz 2; have df3 := HD4.out.fz 3; have df4 := HD4.out.fz 4; have df5 := HD4.out.fz 5; have df6 := HD4.out.fz 6
      go_wp2_with fail
      clear m0 m1 m2 m3 m4 ml a0 a1 a2 a3 a4 a5 a6 al s0 s1 s2 s3 s4 f0 f1 f2 f3 f4 sl
      clear d0 d1 d2 d3 d4 d5 d6 dl df1 df2 df3 df4 df5 df6
      refine HW.out.mono ?_
      rintro e w9 ⟨v9, rfl, ho9, hb9⟩
      have HB9 := Lib.hid (bt HB4.out hb9)
      have HO9 := Lib.hid ho9
      clear ho9 hb9 HW
      obtain ⟨ao, mo, co, hvo⟩ : ∃ ao mo co, v9 = .slice ao mo co := by
        rcases HO9.out.2 with ⟨hv, h0⟩ | ⟨g', cap', cur', hv, _⟩
        · exact ⟨_, _, _, hv⟩
        · exact ⟨_, _, _, hv⟩
      subst hvo
      have HR := Lib.hid ((H2.out.below HB9.out).set5 (T) (.slice ao mo co))
      have HST := Lib.hid (show Chg (fun k => k = b2) w9 (set5w w9 b2 (T) (.slice ao mo co)) from
        ((((((Chg.refl (fun k => k = b2) w9).setCell (p := ⟨b2, 0, none⟩) (.inl rfl) _).setCell (p := ⟨b2, 1, none⟩) (.inl rfl) _).setCell (p := ⟨b2, 2, none⟩) (.inl rfl) _).setCell (p := ⟨b2, 3, none⟩) (.inl rfl) _).setCell (p := ⟨b2, 4, none⟩) (.inl rfl) _))
      have HBE := Lib.hid (show Below w.heap.size w (set5w w9 b2 (T) (.slice ao mo co)) from (bt HB.out HB9.out).trans (HST.out.below (by have := (bt HB.out HB9.out).size; omega) fun k e => by have e : k = b2 := e; have := HBB.out; omega))
      obtain ⟨m0, m1, m2, m3, m4⟩ := (HM.out.below HB9.out).cells
      have ml := (HM.out.below HB9.out).lt
      obtain ⟨a0, a1, a2, a3, a4, a5, a6⟩ := (HA.out.below HB9.out).cells
      have al := (HA.out.below HB9.out).lt
      obtain ⟨s0, s1, s2, s3, s4⟩ := (H2.out.below HB9.out).cells
      have f0 := (H2.out.below HB9.out).fz 0; have f1 := (H2.out.below HB9.out).fz 1; have f2 := (H2.out.below HB9.out).fz 2; have f3 := (H2.out.below HB9.out).fz 3; have f4 := (H2.out.below HB9.out).fz 4
      have sl := (H2.out.below HB9.out).lt
      go_wp2
      refine bodyPost_ret (res_m9e Try.results7 rfl rfl HR.out) rfl ?_
      have hol := HO9.out.lt
      have hbb := HBB.out
      refine ⟨.slice ao mo co, (C.set t (⟨a.i, { c with aw := false }⟩ : Dc)), by rw [HSQ.out]; rfl, (HO9.out.chg HST.out fun b hb e => ?_).rs (fun _ => rfl), by rw [HSQ.out]; exact HDX.out, by first | (simp; done) | (simp; omega) | (have := List.length_eraseIdx_le C t; omega), fun b hb => .inr ?_, HBE.out⟩
      · have e : b = b2 := e
        have := (hol b hb).1
        have := H2.out.lt
        have := HWC.out
        omega
      · have q := hol b hb
        have := HWC.out
        have := HB.out.size
        exact ⟨by omega, Nat.lt_of_lt_of_le q.2 HST.out.size⟩
    have k5b : (a.k == 5) = false := by simpa using k5
    by_cases k6 : a.k = 6
    · have HSN := Lib.hid (show s = stG T G a.i a.n by rw [HS.out]; unfold stp; rw [if_neg k0, if_neg k1, if_neg k2, if_neg k3, if_neg k4, if_neg k5, if_pos k6])
      have k6b : (a.k == 6) = true := by simpa using k6
      clear k0 k1 k2 k3 k4 k5 k6
      obtain ⟨r, q, hadd, hrq, hq⟩ := refadd9 c.s a.n HC4.out.ok
      have HAD := Lib.hid hadd; have HQG := Lib.hid hq; have HRQ := Lib.hid hrq
      clear hadd hq hrq
      obtain ⟨m0, m1, m2, m3, m4⟩ := (HM.out.below HB3.out).cells
      have ml := (HM.out.below HB3.out).lt
      obtain ⟨a0, a1, a2, a3, a4, a5, a6⟩ := (HA.out.below HB3.out).cells
      have al := (HA.out.below HB3.out).lt
      obtain ⟨s0, s1, s2, s3, s4⟩ := (H2.out.below HB3.out).cells
      have f0 := (H2.out.below HB3.out).fz 0; have f1 := (H2.out.below HB3.out).fz 1; have f2 := (H2.out.below HB3.out).fz 2; have f3 := (H2.out.below HB3.out).fz 3; have f4 := (H2.out.below HB3.out).fz 4
      have sl := (H2.out.below HB3.out).lt
      go_wp2_with fail
      clear m0 m1 m2 m3 m4 ml a0 a1 a2 a3 a4 a5 a6 al s0 s1 s2 s3 s4 f0 f1 f2 f3 f4 sl
      clear d0 d1 d2 d3 d4 d5 d6 dl df1 df2 df3 df4 df5 df6
      refine (HAD.out w3).mono ?_
      rintro e w4 ⟨rfl, hb4⟩
      have hb5 := ba (Below.refl w4.heap.size w4) (.cells (C4 r) 25)
      have HB5 := Lib.hid (bt (bt HB3.out hb4) hb5)
      have HD5 := Lib.hid (HD3.out.below (bt hb4 hb5))
      have HP5 := Lib.hid (PB9.made w4 r)
      clear hb4 hb5
      cases q with
      | false =>
        have HSE := Lib.hid (show s = (41, T, G) from by
          rw [HSN.out]; unfold stG; simp only [HGS.out]; rw [if_neg (fun h => by have := (HQG.out.1 h).1; cases this)])
        clear HSN HAD HQG
        go_upto_region 33 with (fail)
        generalize w4.alloc (.cells (C4 r) 25) = w5 at *
        generalize w4.heap.size = b5 at *
        have HSQ := Lib.hid (show s = (41, T, G) from HSE.out)
        have HR := Lib.hid ((H2.out.below HB5.out).set5 (T) (.slice (some ⟨bs, off, none⟩) n cp))
        have HST := Lib.hid (show Chg (fun k => k = b2) w5 (set5w w5 b2 (T) (.slice (some ⟨bs, off, none⟩) n cp)) from
          ((((((Chg.refl (fun k => k = b2) w5).setCell (p := ⟨b2, 0, none⟩) (.inl rfl) _).setCell (p := ⟨b2, 1, none⟩) (.inl rfl) _).setCell (p := ⟨b2, 2, none⟩) (.inl rfl) _).setCell (p := ⟨b2, 3, none⟩) (.inl rfl) _).setCell (p := ⟨b2, 4, none⟩) (.inl rfl) _))
        have HBE := Lib.hid (show Below w.heap.size w (set5w w5 b2 (T) (.slice (some ⟨bs, off, none⟩) n cp)) from (bt HB.out HB5.out).trans (HST.out.below (by have := (bt HB.out HB5.out).size; omega) fun k e => by have e : k = b2 := e; have := HBB.out; omega))
        obtain ⟨m0, m1, m2, m3, m4⟩ := (HM.out.below HB5.out).cells
        have ml := (HM.out.below HB5.out).lt
        obtain ⟨a0, a1, a2, a3, a4, a5, a6⟩ := (HA.out.below HB5.out).cells
        have al := (HA.out.below HB5.out).lt
        obtain ⟨s0, s1, s2, s3, s4⟩ := (H2.out.below HB5.out).cells
        have f0 := (H2.out.below HB5.out).fz 0; have f1 := (H2.out.below HB5.out).fz 1; have f2 := (H2.out.below HB5.out).fz 2; have f3 := (H2.out.below HB5.out).fz 3; have f4 := (H2.out.below HB5.out).fz 4
        have sl := (H2.out.below HB5.out).lt
        go_wp2
        refine bodyPost_ret (res_m9e Try.results7 rfl rfl HR.out) rfl ?_
        refine ⟨_, C, by rw [HSQ.out]; rfl, (HC.out.below (bt HB.out HB5.out)).chg HST.out fun b hb e => ?_, by rw [HSQ.out]; exact HDC.out, by omega, fun b hb => .inl hb, HBE.out⟩
        have e : b = b2 := e
        have := HVB.out b hb
        have := HBB.out
        omega
      | true =>
        have HRR := Lib.hid (HRQ.out rfl)
        obtain ⟨p0, p1, p2, p3⟩ := HP5.out.cells
        have pl := HP5.out.lt
        go_upto_region 33 with (fail)
        generalize w4.alloc (.cells (C4 r) 25) = w5 at *
        generalize w4.heap.size = b5 at *
        go_wp2_with fail
        refine (rsmall9 r w5).mono ?_
        rintro e w6 ⟨rfl, hb6⟩
        have HB6 := Lib.hid (bt HB5.out hb6)
        have HD6 := Lib.hid (HD5.out.below hb6)
        have HP6 := Lib.hid (HP5.out.below hb6)
        clear hb6 p0 p1 p2 p3 pl
        by_cases hS : Sm4 r
        · have HSE := Lib.hid (show s = (0, T, upd G a.i (some { c with s := r })) from by
            rw [HSN.out]; unfold stG; simp only [HGS.out]; rw [if_pos (HQG.out.2 ⟨by simp, hS⟩), HRR.out])
          rw [decide_eq_true hS]
          clear HSN HAD HQG HRR hS
          have HB7 := Lib.hid (show Below w1.heap.size w1 ((((w6.setCell ⟨b4, 2, none⟩ (.int .i64 (r 0))).setCell ⟨b4, 3, none⟩ (.int .i64 (r 1))).setCell ⟨b4, 4, none⟩ (.int .i64 (r 2))).setCell ⟨b4, 5, none⟩ (.int .i64 (r 3))) from (((HB6.out.setCell (p := ⟨b4, 2, none⟩) HW4.out _).setCell (p := ⟨b4, 3, none⟩) HW4.out _).setCell (p := ⟨b4, 4, none⟩) HW4.out _).setCell (p := ⟨b4, 5, none⟩) HW4.out _)
          have HD7 := Lib.hid (HD6.out.sets r)
          obtain ⟨p0, p1, p2, p3⟩ := HP6.out.cells
          have pl := HP6.out.lt
          obtain ⟨d0, d1, d2, d3, d4, d5, d6⟩ := HD6.out.cells
          have dl := HD6.out.lt
          have df1 := HD6.out.fz 1; have df2 := HD6.out.fz 2; have df3 := HD6.out.fz 3; have df4 := HD6.out.fz 4; have df5 := HD6.out.fz 5; have df6 := HD6.out.fz 6
          go_upto_region 36 with (fail)
          clear d0 d1 d2 d3 d4 d5 d6 dl df1 df2 df3 df4 df5 df6
          clear p0 p1 p2 p3 pl
          generalize (((w6.setCell ⟨b4, 2, none⟩ (.int .i64 (r 0))).setCell ⟨b4, 3, none⟩ (.int .i64 (r 1))).setCell ⟨b4, 4, none⟩ (.int .i64 (r 2))).setCell ⟨b4, 5, none⟩ (.int .i64 (r 3)) = w7 at *
          have HSQ := HSE
          have HDX := Lib.hid (HDC.out.set HT.out ({ c with s := r }))
          have HW := Lib.hid (rwith9 (T := T) (w := w7) (HC.out.below (bt HB.out HB7.out)) (by have := HN.out; omega) (t : Int) ⟨a.i, { c with s := r }⟩ (C.set t ⟨a.i, { c with s := r }⟩) (by simp) (set_with (by have := HN.out; omega)))
          rw [if_neg (by omega)] at HW
          have HWC := Lib.hid (show w1.heap.size ≤ w7.heap.size from HB7.out.size)
          obtain ⟨m0, m1, m2, m3, m4⟩ := (HM.out.below HB7.out).cells
          have ml := (HM.out.below HB7.out).lt
          obtain ⟨a0, a1, a2, a3, a4, a5, a6⟩ := (HA.out.below HB7.out).cells
          have al := (HA.out.below HB7.out).lt
          obtain ⟨s0, s1, s2, s3, s4⟩ := (H2.out.below HB7.out).cells
          have f0 := (H2.out.below HB7.out).fz 0; have f1 := (H2.out.below HB7.out).fz 1; have f2 := (H2.out.below HB7.out).fz 2; have f3 := (H2.out.below HB7.out).fz 3; have f4 := (H2.out.below HB7.out).fz 4
          have sl := (H2.out.below HB7.out).lt
          obtain ⟨d0, d1, d2, d3, d4, d5, d6⟩ := HD7.out.cells
          have dl := HD7.out.lt
          have df1 := HD7.out.fz 1; have df2 := HD7.out.fz 2; have df3 := HD7.out.fz 3; have df4 := HD7.out.fz 4; have df5 := HD7.out.fz 5; have df6 := HD7.out.fz 6
          go_wp2_with fail
          clear m0 m1 m2 m3 m4 ml a0 a1 a2 a3 a4 a5 a6 al s0 s1 s2 s3 s4 f0 f1 f2 f3 f4 sl
          clear d0 d1 d2 d3 d4 d5 d6 dl df1 df2 df3 df4 df5 df6
          refine HW.out.mono ?_
          rintro e w9 ⟨v9, rfl, ho9, hb9⟩
          have HB9 := Lib.hid (bt HB7.out hb9)
          have HO9 := Lib.hid ho9
          clear ho9 hb9 HW
          obtain ⟨ao, mo, co, hvo⟩ : ∃ ao mo co, v9 = .slice ao mo co := by
            rcases HO9.out.2 with ⟨hv, h0⟩ | ⟨g', cap', cur', hv, _⟩
            · exact ⟨_, _, _, hv⟩
            · exact ⟨_, _, _, hv⟩
          subst hvo
          have HR := Lib.hid ((H2.out.below HB9.out).set5 (T) (.slice ao mo co))
          have HST := Lib.hid (show Chg (fun k => k = b2) w9 (set5w w9 b2 (T) (.slice ao mo co)) from
            ((((((Chg.refl (fun k => k = b2) w9).setCell (p := ⟨b2, 0, none⟩) (.inl rfl) _).setCell (p := ⟨b2, 1, none⟩) (.inl rfl) _).setCell (p := ⟨b2, 2, none⟩) (.inl rfl) _).setCell (p := ⟨b2, 3, none⟩) (.inl rfl) _).setCell (p := ⟨b2, 4, none⟩) (.inl rfl) _))
          have HBE := Lib.hid (show Below w.heap.size w (set5w w9 b2 (T) (.slice ao mo co)) from (bt HB.out HB9.out).trans (HST.out.below (by have := (bt HB.out HB9.out).size; omega) fun k e => by have e : k = b2 := e; have := HBB.out; omega))
          obtain ⟨m0, m1, m2, m3, m4⟩ := (HM.out.below HB9.out).cells
          have ml := (HM.out.below HB9.out).lt
          obtain ⟨a0, a1, a2, a3, a4, a5, a6⟩ := (HA.out.below HB9.out).cells
          have al := (HA.out.below HB9.out).lt
          obtain ⟨s0, s1, s2, s3, s4⟩ := (H2.out.below HB9.out).cells
          have f0 := (H2.out.below HB9.out).fz 0; have f1 := (H2.out.below HB9.out).fz 1; have f2 := (H2.out.below HB9.out).fz 2; have f3 := (H2.out.below HB9.out).fz 3; have f4 := (H2.out.below HB9.out).fz 4
          have sl := (H2.out.below HB9.out).lt
          go_wp2
          refine bodyPost_ret (res_m9e Try.results7 rfl rfl HR.out) rfl ?_
          have hol := HO9.out.lt
          have hbb := HBB.out
          refine ⟨.slice ao mo co, (C.set t (⟨a.i, { c with s := r }⟩ : Dc)), by rw [HSQ.out]; rfl, (HO9.out.chg HST.out fun b hb e => ?_).rs (fun _ => rfl), by rw [HSQ.out]; exact HDX.out, by first | (simp; done) | (simp; omega) | (have := List.length_eraseIdx_le C t; omega), fun b hb => .inr ?_, HBE.out⟩
          · have e : b = b2 := e
            have := (hol b hb).1
            have := H2.out.lt
            have := HWC.out
            omega
          · have q := hol b hb
            have := HWC.out
            have := HB.out.size
            exact ⟨by omega, Nat.lt_of_lt_of_le q.2 HST.out.size⟩
        · have HSE := Lib.hid (show s = (41, T, G) from by
            rw [HSN.out]; unfold stG; simp only [HGS.out]; rw [if_neg (fun h => hS (HQG.out.1 h).2)])
          rw [decide_eq_false hS]
          clear HSN HAD HQG HRR hS
          have HSQ := Lib.hid (show s = (41, T, G) from HSE.out)
          have HR := Lib.hid ((H2.out.below HB6.out).set5 (T) (.slice (some ⟨bs, off, none⟩) n cp))
          have HST := Lib.hid (show Chg (fun k => k = b2) w6 (set5w w6 b2 (T) (.slice (some ⟨bs, off, none⟩) n cp)) from
            ((((((Chg.refl (fun k => k = b2) w6).setCell (p := ⟨b2, 0, none⟩) (.inl rfl) _).setCell (p := ⟨b2, 1, none⟩) (.inl rfl) _).setCell (p := ⟨b2, 2, none⟩) (.inl rfl) _).setCell (p := ⟨b2, 3, none⟩) (.inl rfl) _).setCell (p := ⟨b2, 4, none⟩) (.inl rfl) _))
          have HBE := Lib.hid (show Below w.heap.size w (set5w w6 b2 (T) (.slice (some ⟨bs, off, none⟩) n cp)) from (bt HB.out HB6.out).trans (HST.out.below (by have := (bt HB.out HB6.out).size; omega) fun k e => by have e : k = b2 := e; have := HBB.out; omega))
          obtain ⟨m0, m1, m2, m3, m4⟩ := (HM.out.below HB6.out).cells
          have ml := (HM.out.below HB6.out).lt
          obtain ⟨a0, a1, a2, a3, a4, a5, a6⟩ := (HA.out.below HB6.out).cells
          have al := (HA.out.below HB6.out).lt
          obtain ⟨s0, s1, s2, s3, s4⟩ := (H2.out.below HB6.out).cells
          have f0 := (H2.out.below HB6.out).fz 0; have f1 := (H2.out.below HB6.out).fz 1; have f2 := (H2.out.below HB6.out).fz 2; have f3 := (H2.out.below HB6.out).fz 3; have f4 := (H2.out.below HB6.out).fz 4
          have sl := (H2.out.below HB6.out).lt
          go_wp2
          refine bodyPost_ret (res_m9e Try.results7 rfl rfl HR.out) rfl ?_
          refine ⟨_, C, by rw [HSQ.out]; rfl, (HC.out.below (bt HB.out HB6.out)).chg HST.out fun b hb e => ?_, by rw [HSQ.out]; exact HDC.out, by omega, fun b hb => .inl hb, HBE.out⟩
          have e : b = b2 := e
          have := HVB.out b hb
          have := HBB.out
          omega
    have k6b : (a.k == 6) = false := by simpa using k6
    have hsn : s = stK T G a.i a.n := by rw [HS.out]; unfold stp; rw [if_neg k0, if_neg k1, if_neg k2, if_neg k3, if_neg k4, if_neg k5, if_neg k6]
    clear k0 k1 k2 k3 k4 k5 k6
    by_cases hh : HOk c.s a.n
    · have HSE := Lib.hid (show s = (0, T, upd G a.i (some { c with s := fun k => c.s k - a.n k })) from by
        rw [hsn]; unfold stK; simp only [HGS.out]; rw [if_pos hh])
      have hsub := refsub_yes c.s a.n hh
      obtain ⟨r, hr⟩ : ∃ r, r = fun k => c.s k - a.n k := ⟨_, rfl⟩
      rw [← hr] at hsub HSE
      clear hsn hh hr
      obtain ⟨m0, m1, m2, m3, m4⟩ := (HM.out.below HB3.out).cells
      have ml := (HM.out.below HB3.out).lt
      obtain ⟨a0, a1, a2, a3, a4, a5, a6⟩ := (HA.out.below HB3.out).cells
      have al := (HA.out.below HB3.out).lt
      obtain ⟨s0, s1, s2, s3, s4⟩ := (H2.out.below HB3.out).cells
      have f0 := (H2.out.below HB3.out).fz 0; have f1 := (H2.out.below HB3.out).fz 1; have f2 := (H2.out.below HB3.out).fz 2; have f3 := (H2.out.below HB3.out).fz 3; have f4 := (H2.out.below HB3.out).fz 4
      have sl := (H2.out.below HB3.out).lt
      go_wp2_with fail
      clear m0 m1 m2 m3 m4 ml a0 a1 a2 a3 a4 a5 a6 al s0 s1 s2 s3 s4 f0 f1 f2 f3 f4 sl
      clear d0 d1 d2 d3 d4 d5 d6 dl df1 df2 df3 df4 df5 df6
      refine (hsub w3).mono ?_
      rintro e w4 ⟨rfl, hb4⟩
      clear hsub
      have hb5 := ba (Below.refl w4.heap.size w4) (.cells (C4 r) 25)
      have HB5 := Lib.hid (bt (bt HB3.out hb4) hb5)
      have HD5 := Lib.hid (HD3.out.below (bt hb4 hb5))
      have HP5 := Lib.hid (PB9.made w4 r)
      clear hb4 hb5
      go_upto_region 18 with (fail)
      generalize w4.alloc (.cells (C4 r) 25) = w5 at *
      generalize w4.heap.size = b5 at *
      have HB6 := HB5; have HD6 := HD5; have HP6 := HP5
      generalize w5 = w6 at *
      have HB7 := Lib.hid (show Below w1.heap.size w1 ((((w6.setCell ⟨b4, 2, none⟩ (.int .i64 (r 0))).setCell ⟨b4, 3, none⟩ (.int .i64 (r 1))).setCell ⟨b4, 4, none⟩ (.int .i64 (r 2))).setCell ⟨b4, 5, none⟩ (.int .i64 (r 3))) from (((HB6.out.setCell (p := ⟨b4, 2, none⟩) HW4.out _).setCell (p := ⟨b4, 3, none⟩) HW4.out _).setCell (p := ⟨b4, 4, none⟩) HW4.out _).setCell (p := ⟨b4, 5, none⟩) HW4.out _)
      have HD7 := Lib.hid (HD6.out.sets r)
      obtain ⟨p0, p1, p2, p3⟩ := HP6.out.cells
      have pl := HP6.out.lt
      obtain ⟨d0, d1, d2, d3, d4, d5, d6⟩ := HD6.out.cells
      have dl := HD6.out.lt
      have df1 := HD6.out.fz 1; have df2 := HD6.out.fz 2; have df3 := HD6.out.fz 3; have df4 := HD6.out.fz 4; have df5 := HD6.out.fz 5; have df6 := HD6.out.fz 6
      go_upto_region 36 with (fail)
      clear d0 d1 d2 d3 d4 d5 d6 dl df1 df2 df3 df4 df5 df6
      clear p0 p1 p2 p3 pl
      generalize (((w6.setCell ⟨b4, 2, none⟩ (.int .i64 (r 0))).setCell ⟨b4, 3, none⟩ (.int .i64 (r 1))).setCell ⟨b4, 4, none⟩ (.int .i64 (r 2))).setCell ⟨b4, 5, none⟩ (.int .i64 (r 3)) = w7 at *
      have HSQ := HSE
      have HDX := Lib.hid (HDC.out.set HT.out ({ c with s := r }))
      have HW := Lib.hid (rwith9 (T := T) (w := w7) (HC.out.below (bt HB.out HB7.out)) (by have := HN.out; omega) (t : Int) ⟨a.i, { c with s := r }⟩ (C.set t ⟨a.i, { c with s := r }⟩) (by simp) (set_with (by have := HN.out; omega)))
      rw [if_neg (by omega)] at HW
      have HWC := Lib.hid (show w1.heap.size ≤ w7.heap.size from HB7.out.size)
      obtain ⟨m0, m1, m2, m3, m4⟩ := (HM.out.below HB7.out).cells
      have ml := (HM.out.below HB7.out).lt
      obtain ⟨a0, a1, a2, a3, a4, a5, a6⟩ := (HA.out.below HB7.out).cells
      have al := (HA.out.below HB7.out).lt
      obtain ⟨s0, s1, s2, s3, s4⟩ := (H2.out.below HB7.out).cells
      have f0 := (H2.out.below HB7.out).fz 0; have f1 := (H2.out.below HB7.out).fz 1; have f2 := (H2.out.below HB7.out).fz 2; have f3 := (H2.out.below HB7.out).fz 3; have f4 := (H2.out.below HB7.out).fz 4
      have sl := (H2.out.below HB7.out).lt
      obtain ⟨d0, d1, d2, d3, d4, d5, d6⟩ := HD7.out.cells
      have dl := HD7.out.lt
      have df1 := HD7.out.fz 1; have df2 := HD7.out.fz 2; have df3 := HD7.out.fz 3; have df4 := HD7.out.fz 4; have df5 := HD7.out.fz 5; have df6 := HD7.out.fz 6
      go_wp2_with fail
      clear m0 m1 m2 m3 m4 ml a0 a1 a2 a3 a4 a5 a6 al s0 s1 s2 s3 s4 f0 f1 f2 f3 f4 sl
      clear d0 d1 d2 d3 d4 d5 d6 dl df1 df2 df3 df4 df5 df6
      refine HW.out.mono ?_
      rintro e w9 ⟨v9, rfl, ho9, hb9⟩
      have HB9 := Lib.hid (bt HB7.out hb9)
      have HO9 := Lib.hid ho9
      clear ho9 hb9 HW
      obtain ⟨ao, mo, co, hvo⟩ : ∃ ao mo co, v9 = .slice ao mo co := by
        rcases HO9.out.2 with ⟨hv, h0⟩ | ⟨g', cap', cur', hv, _⟩
        · exact ⟨_, _, _, hv⟩
        · exact ⟨_, _, _, hv⟩
      subst hvo
      have HR := Lib.hid ((H2.out.below HB9.out).set5 (T) (.slice ao mo co))
      have HST := Lib.hid (show Chg (fun k => k = b2) w9 (set5w w9 b2 (T) (.slice ao mo co)) from
        ((((((Chg.refl (fun k => k = b2) w9).setCell (p := ⟨b2, 0, none⟩) (.inl rfl) _).setCell (p := ⟨b2, 1, none⟩) (.inl rfl) _).setCell (p := ⟨b2, 2, none⟩) (.inl rfl) _).setCell (p := ⟨b2, 3, none⟩) (.inl rfl) _).setCell (p := ⟨b2, 4, none⟩) (.inl rfl) _))
      have HBE := Lib.hid (show Below w.heap.size w (set5w w9 b2 (T) (.slice ao mo co)) from (bt HB.out HB9.out).trans (HST.out.below (by have := (bt HB.out HB9.out).size; omega) fun k e => by have e : k = b2 := e; have := HBB.out; omega))
      obtain ⟨m0, m1, m2, m3, m4⟩ := (HM.out.below HB9.out).cells
      have ml := (HM.out.below HB9.out).lt
      obtain ⟨a0, a1, a2, a3, a4, a5, a6⟩ := (HA.out.below HB9.out).cells
      have al := (HA.out.below HB9.out).lt
      obtain ⟨s0, s1, s2, s3, s4⟩ := (H2.out.below HB9.out).cells
      have f0 := (H2.out.below HB9.out).fz 0; have f1 := (H2.out.below HB9.out).fz 1; have f2 := (H2.out.below HB9.out).fz 2; have f3 := (H2.out.below HB9.out).fz 3; have f4 := (H2.out.below HB9.out).fz 4
      have sl := (H2.out.below HB9.out).lt
      go_wp2
      refine bodyPost_ret (res_m9e Try.results7 rfl rfl HR.out) rfl ?_
      have hol := HO9.out.lt
      have hbb := HBB.out
      refine ⟨.slice ao mo co, (C.set t (⟨a.i, { c with s := r }⟩ : Dc)), by rw [HSQ.out]; rfl, (HO9.out.chg HST.out fun b hb e => ?_).rs (fun _ => rfl), by rw [HSQ.out]; exact HDX.out, by first | (simp; done) | (simp; omega) | (have := List.length_eraseIdx_le C t; omega), fun b hb => .inr ?_, HBE.out⟩
      · have e : b = b2 := e
        have := (hol b hb).1
        have := H2.out.lt
        have := HWC.out
        omega
      · have q := hol b hb
        have := HWC.out
        have := HB.out.size
        exact ⟨by omega, Nat.lt_of_lt_of_le q.2 HST.out.size⟩
    · have HSE := Lib.hid (show s = (30, T, G) from by
        rw [hsn]; unfold stK; simp only [HGS.out]; rw [if_neg hh])
      have hsub := refsub_no c.s a.n hh
      obtain ⟨r, hr⟩ : ∃ r, r = Z4 := ⟨_, rfl⟩
      rw [← hr] at hsub
      clear hsn hh hr
      obtain ⟨m0, m1, m2, m3, m4⟩ := (HM.out.below HB3.out).cells
      have ml := (HM.out.below HB3.out).lt
      obtain ⟨a0, a1, a2, a3, a4, a5, a6⟩ := (HA.out.below HB3.out).cells
      have al := (HA.out.below HB3.out).lt
      obtain ⟨s0, s1, s2, s3, s4⟩ := (H2.out.below HB3.out).cells
      have f0 := (H2.out.below HB3.out).fz 0; have f1 := (H2.out.below HB3.out).fz 1; have f2 := (H2.out.below HB3.out).fz 2; have f3 := (H2.out.below HB3.out).fz 3; have f4 := (H2.out.below HB3.out).fz 4
      have sl := (H2.out.below HB3.out).lt
      go_wp2_with fail
      clear m0 m1 m2 m3 m4 ml a0 a1 a2 a3 a4 a5 a6 al s0 s1 s2 s3 s4 f0 f1 f2 f3 f4 sl
      clear d0 d1 d2 d3 d4 d5 d6 dl df1 df2 df3 df4 df5 df6
      refine (hsub w3).mono ?_
      rintro e w4 ⟨rfl, hb4⟩
      clear hsub
      have hb5 := ba (Below.refl w4.heap.size w4) (.cells (C4 r) 25)
      have HB5 := Lib.hid (bt (bt HB3.out hb4) hb5)
      have HD5 := Lib.hid (HD3.out.below (bt hb4 hb5))
      have HP5 := Lib.hid (PB9.made w4 r)
      clear hb4 hb5
      go_upto_region 18 with (fail)
      generalize w4.alloc (.cells (C4 r) 25) = w5 at *
      generalize w4.heap.size = b5 at *
      have HSQ := Lib.hid (show s = (30, T, G) from HSE.out)
      have HR := Lib.hid ((H2.out.below HB5.out).set5 (T) (.slice (some ⟨bs, off, none⟩) n cp))
      have HST := Lib.hid (show Chg (fun k => k = b2) w5 (set5w w5 b2 (T) (.slice (some ⟨bs, off, none⟩) n cp)) from
        ((((((Chg.refl (fun k => k = b2) w5).setCell (p := ⟨b2, 0, none⟩) (.inl rfl) _).setCell (p := ⟨b2, 1, none⟩) (.inl rfl) _).setCell (p := ⟨b2, 2, none⟩) (.inl rfl) _).setCell (p := ⟨b2, 3, none⟩) (.inl rfl) _).setCell (p := ⟨b2, 4, none⟩) (.inl rfl) _))
      have HBE := Lib.hid (show Below w.heap.size w (set5w w5 b2 (T) (.slice (some ⟨bs, off, none⟩) n cp)) from (bt HB.out HB5.out).trans (HST.out.below (by have := (bt HB.out HB5.out).size; omega) fun k e => by have e : k = b2 := e; have := HBB.out; omega))
      obtain ⟨m0, m1, m2, m3, m4⟩ := (HM.out.below HB5.out).cells
      have ml := (HM.out.below HB5.out).lt
      obtain ⟨a0, a1, a2, a3, a4, a5, a6⟩ := (HA.out.below HB5.out).cells
      have al := (HA.out.below HB5.out).lt
      obtain ⟨s0, s1, s2, s3, s4⟩ := (H2.out.below HB5.out).cells
      have f0 := (H2.out.below HB5.out).fz 0; have f1 := (H2.out.below HB5.out).fz 1; have f2 := (H2.out.below HB5.out).fz 2; have f3 := (H2.out.below HB5.out).fz 3; have f4 := (H2.out.below HB5.out).fz 4
      have sl := (H2.out.below HB5.out).lt
      go_wp2
      refine bodyPost_ret (res_m9e Try.results7 rfl rfl HR.out) rfl ?_
      refine ⟨_, C, by rw [HSQ.out]; rfl, (HC.out.below (bt HB.out HB5.out)).chg HST.out fun b hb e => ?_, by rw [HSQ.out]; exact HDC.out, by omega, fun b hb => .inl hb, HBE.out⟩
      have e : b = b2 := e
      have := HVB.out b hb
      have := HBB.out
      omega
end
end Go.Proofs.Ytgfjmafdfbghnaa

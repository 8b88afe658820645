/- An act on a heap and on a list, alike: the last kind; works. -/
import Derived.Test.YtajcelmnblncaaaHeapU
namespace Go.Proofs.Ytajcelmnblncaaa
open Go.RowKit Go.Maps
attribute [local go_sem] ext_cell ext_frozen extC_cell extC_frozen Mix.calmUpon Mix.mUpon
section
variable {w : World} {hp : Nat} {F : Nat → Prop} {l : List It} {s : Int} {v : Value}
set_option maxRecDepth 100000 in
set_option maxHeartbeats 1000000 in
theorem does_due (h : HL w hp F l s) (hv : IV w v l) (kind k t : Int) (h0 : kind ≠ 0) (h1 : kind ≠ 1) (h2 : kind ≠ 2) (hn : l.length < 90000) (hs0 : 0 ≤ s) (hs1 : s ≤ 10000000000) :
    Calls Try.prog 32 #[ptr hp, v, .agg #[.int .i64 kind, .int .i64 k, .int .i64 t]] w (DoesPost w hp F l s (lfrom l t)) := by
  have H := Lib.hid h; have HV := Lib.hid hv
  have k0 : (kind == 0) = false := by simpa using h0
  have k1 : (kind == 1) = false := by simpa using h1
  have k2 : (kind == 2) = false := by simpa using h2
  have hle1 : (lupto l t).length ≤ l.length := List.length_filter_le _ _
  have hle2 : (lfrom l t).length ≤ l.length := List.length_filter_le _ _
  have HL1 := Lib.hid hle1; have HL2 := Lib.hid hle2
  clear h hv h0 h1 h2 hle1 hle2
  go_enter Try.func32, Try.ntmps32
  go_wp2_with fail
  have HB0 := Lib.hid (show Below w.heap.size w (w.alloc (.cells #[.int .i64 kind, .int .i64 k, .int .i64 t] 54)) from ba (Below.refl _ _) _)
  refine (due_ref (HV.out.below HB0.out) t (by omega)).mono ?_
  rintro e w1 ⟨dv, rv, rfl, o1, p1, hb1⟩
  have x2 := hb1.cell (p := ⟨w.heap.size, 2, none⟩) (by simp)
  simp [go_sem] at x2
  have HB1 := Lib.hid (bt HB0.out hb1)
  have O1 := Lib.hid o1; have P1 := Lib.hid p1
  have hs1' : w.heap.size < w1.heap.size := by have := hb1.size; simp at this; omega
  have HS0 := Lib.hid (show ∀ b, (dv.ownBlock = some b ∨ rv.ownBlock = some b) → ¬ F b ∧ b < w1.heap.size from fun b hb => by
    have hlt : w.heap.size ≤ b ∧ b < w1.heap.size := by
      rcases hb with hb | hb
      · have := World.ownsRow.lt o1 b hb; simp at this; omega
      · have := p1.lt b hb; simp at this; omega
    exact ⟨fun hf => by have := H.out.lt b hf; omega, hlt.2⟩)
  clear hb1 o1 p1
  go_wp2_with fail
  refine (due_any (H.out.below HB1.out) t (by omega) hs0 (by omega)).mono ?_
  rintro e w2 ⟨v2, F2, c, rfl, hd⟩
  have HD := Lib.hid hd
  clear hd x2
  go_wp2_with fail
  refine (same_num (l := (lupto l t).map (·.1)) HD.out.own.nv ((Own64.nv O1.out).chg HD.out.chg fun b hb => (HS0.out b (.inl hb)).1) (by rw [List.length_map]; have := HL1.out; omega)).mono ?_
  rintro e w3 ⟨rfl, hb3⟩
  have HB3 := Lib.hid hb3
  go_wp2
  go_ret2
  have hnew : ∀ k, F2 k → F k ∨ w.heap.size ≤ k := fun k hk => (HD.out.new k hk).imp_right fun e => by omega
  refine ⟨rv, F2, c, rfl, HD.out.hl.below HB3.out, ((P1.out.rs ienc_len).chg HD.out.chg fun b hb => (HS0.out b (.inr hb)).1).below HB3.out, fun b hb => ?_, ((Chg.of_below _ HB1.out).same HD.out.chg).then_below HB3.out, hnew, ?_⟩
  · obtain ⟨a1, a2⟩ := HS0.out b (.inr hb)
    refine ⟨fun hf => ?_, by have := HD.out.chg.size; have := HB3.out.size; omega⟩
    rcases HD.out.new b hf with e | e
    · exact a1 e
    · omega
  · have a := HD.out.cost
    have b := HL1.out
    have c1 := lg_small (n := l.length) (by omega)
    have := Nat.mul_le_mul c1 b
    omega
theorem does_any (h : HL w hp F l s) (hv : IV w v l) (hdis : Off F w v) (kind k t : Int) (hk : J64 k) (ht : J64 t) (hn : l.length < 90000) (hs0 : 0 ≤ s) (hs1 : s ≤ 10000000000) :
    Calls Try.prog 32 #[ptr hp, v, .agg #[.int .i64 kind, .int .i64 k, .int .i64 t]] w (DoesPost w hp F l s (lstep l kind k t)) := by
  unfold lstep
  by_cases h0 : kind = 0
  · subst h0; rw [if_pos rfl]; exact does_put h hv k t hk ht hn hs0 hs1
  · rw [if_neg h0]
    by_cases h1 : kind = 1
    · subst h1; rw [if_pos rfl]; exact does_drop h hv hdis k t hk hn hs0 hs1
    · rw [if_neg h1]
      by_cases h2 : kind = 2
      · subst h2; rw [if_pos rfl]
        cases l with
        | nil => exact does_pop0 h hv hdis k t
        | cons p r => exact does_pop h hv hdis k t (by simp at hn; omega) hs0 hs1
      · rw [if_neg h2]; exact does_due h hv kind k t h0 h1 h2 hn hs0 hs1
end
theorem lg_le {n : Nat} (h : n < 100000) : lg n ≤ 34 := lg_small h
set_option maxRecDepth 100000 in
set_option maxHeartbeats 1000000 in
theorem works11 : Pure Try.prog 37 #[] (.bool true) := by
  intro w
  have L1 := Lib.hid (show Lof [] 7 = none from rfl)
  go_enter Try.func37, Try.ntmps37
  go_wp2_with fail
  refine (hnew w).mono ?_
  rintro e w1 ⟨F1, rfl, h1, hb1, n1⟩
  have h1 : HL w1 (w.heap.size + 1) F1 [] 0 := ⟨List.Pairwise.nil, h1⟩
  have H1 := Lib.hid h1; have HB1 := Lib.hid hb1; have N1 := Lib.hid n1
  clear h1 hb1 n1
  go_wp2_with fail
  refine (hput H1.out 7 30 ⟨by omega, by omega⟩ ⟨by omega, by omega⟩ (by simp) (by omega) (by omega)).mono ?_
  rintro e w2 ⟨rfl, F2, d2, h2, c2, n2, l2⟩
  have H2 := Lib.hid (show HL w2 (w.heap.size + 1) F2 [(7, 30)] (0 + (d2 : Int)) from h2); have C2 := Lib.hid c2; have N2 := Lib.hid n2
  have D2 := Lib.hid (show d2 ≤ 34 from Nat.le_trans l2 (lg_le (by decide)))
  clear h2 c2 n2 l2
  go_wp2_with fail
  refine (hput H2.out 8 20 ⟨by omega, by omega⟩ ⟨by omega, by omega⟩ (by simp) (by omega) (by have := D2.out; omega)).mono ?_
  rintro e w3 ⟨rfl, F3, d3, h3, c3, n3, l3⟩
  have H3 := Lib.hid (show HL w3 (w.heap.size + 1) F3 [(8, 20), (7, 30)] (0 + (d2 : Int) + (d3 : Int)) from h3); have C3 := Lib.hid c3; have N3 := Lib.hid n3
  have D3 := Lib.hid (show d3 ≤ 34 from Nat.le_trans l3 (lg_le (by decide)))
  clear h3 c3 n3 l3
  go_wp2_with fail
  refine (hput H3.out 7 10 ⟨by omega, by omega⟩ ⟨by omega, by omega⟩ (by simp) (by omega) (by have := D2.out; have := D3.out; omega)).mono ?_
  rintro e w4 ⟨rfl, F4, d4, h4, c4, n4, l4⟩
  have H4 := Lib.hid (show HL w4 (w.heap.size + 1) F4 [(7, 10), (8, 20)] (0 + (d2 : Int) + (d3 : Int) + (d4 : Int)) from h4); have C4 := Lib.hid c4; have N4 := Lib.hid n4
  have D4 := Lib.hid (show d4 ≤ 34 from Nat.le_trans l4 (lg_le (by decide)))
  clear h4 c4 n4 l4
  go_wp2_with fail
  refine (pop_cons H4.out (by omega) (by have := D2.out; have := D3.out; have := D4.out; omega)).mono ?_
  rintro e w5 ⟨rfl, F5, d5, h5, c5, n5, l5⟩
  have H5 := Lib.hid h5; have C5 := Lib.hid c5
  clear h5 c5 n5 l5
  have z1 : (Lof [] 7).isNone = true := rfl
  have z2 : (Lof [(7, 30)] 8).isNone = true := rfl
  have z3 : (Lof [(8, 20), (7, 30)] 7).isNone = false := rfl
  go_wp2_with fail
  refine (hlong H5.out).mono ?_
  rintro e w6 ⟨rfl, hb6⟩
  have HB6 := Lib.hid hb6
  clear hb6
  go_wp2
  go_ret
  refine ⟨by simp, ?_⟩
  have p2 : Chg (fun k => w.heap.size ≤ k) w w2 := (Chg.of_below _ HB1.out).same (C2.out.mono N1.out)
  have m2 : ∀ k, F2 k → w.heap.size ≤ k := fun k hk => by
    rcases N2.out k hk with e | e
    · exact N1.out k e
    · have := HB1.out.size; omega
  have p3 : Chg (fun k => w.heap.size ≤ k) w w3 := p2.same (C3.out.mono m2)
  have m3 : ∀ k, F3 k → w.heap.size ≤ k := fun k hk => by
    rcases N3.out k hk with e | e
    · exact m2 k e
    · have := p2.size; omega
  have p4 : Chg (fun k => w.heap.size ≤ k) w w4 := p3.same (C4.out.mono m3)
  have m4 : ∀ k, F4 k → w.heap.size ≤ k := fun k hk => by
    rcases N4.out k hk with e | e
    · exact m3 k e
    · have := p3.size; omega
  exact ((p4.same (C5.out.mono m4)).then_below HB6.out).below (Nat.le_refl _) fun k hk => hk
end Go.Proofs.Ytajcelmnblncaaa

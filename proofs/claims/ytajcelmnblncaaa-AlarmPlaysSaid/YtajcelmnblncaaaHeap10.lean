/- heap: Drop, At, Pop, Steps; a nil heap, a plain one. -/
import Derived.Test.YtajcelmnblncaaaHeap9
namespace Go.Proofs.Ytajcelmnblncaaa
open Go.RowKit Go.Maps
attribute [local go_sem] ext_cell ext_frozen extC_cell extC_frozen Mix.calmUpon Mix.mUpon
section
variable {w : World} {hp : Nat} {F : Nat → Prop} {l : List It} {s : Int}
set_option maxRecDepth 100000 in
theorem hdrop (h : HL w hp F l s) (k : Int) (hk : J64 k) (hs0 : 0 ≤ s) (hs1 : s ≤ 1000000000000) :
    Calls Try.prog 40 #[ptr hp, .int .i64 k] w fun e w' => e = .returned (.bool (Lof l k).isSome) ∧ HR w w' hp F (ldel l k) s (lg l.length) := by
  have HH := Lib.hid h
  obtain ⟨_, M, v, g, f, h1, h2, h3, h4, h5⟩ := h
  have H := Lib.hid h1
  have hcf : ∀ k', (Lof l k') = (f k').map fun i => (g i).2 := fun k' => by rw [← h4]; rfl
  have hcf := Lib.hid hcf
  clear h1 h2 h3 h4 h5
  cases hl : Lof l k with
  | none =>
    have hf : f k = none := by
      have := hcf.out k; rw [hl] at this
      cases hf : f k with
      | none => rfl
      | some i => rw [hf] at this; cases this
    have HD := Lib.hid (ldel_same hl)
    clear hl
    go_enter Try.func40, Try.ntmps40
    go_wp2_with fail
    refine (made_yes H.out).mono ?_
    rintro e w1 ⟨rfl, hb1⟩
    have HB1 := Lib.hid hb1
    have H1 := Lib.hid (H.out.below hb1)
    have hlook := H1.out.map.look hk true
    rw [hf] at hlook
    simp only [Option.getD_none, Option.isSome_none, if_true] at hlook
    have c1 := H1.out.c1
    clear hb1 hf
    go_wp2
    go_ret
    refine ⟨rfl, ?_⟩
    rw [HD.out]
    exact (HR.refl HH.out _).below HB1.out
  | some t =>
    obtain ⟨i, ⟨M', v', g', f', j1, j2, j3, j4⟩, hcut⟩ := cut_one (HH.out) hl hs0 hs1
    have H := Lib.hid j1
    have HJ := Lib.hid j3
    clear hcut j1 j2 j3 j4
    go_enter Try.func40, Try.ntmps40
    go_wp2_with fail
    refine (made_yes H.out).mono ?_
    rintro e w1 ⟨rfl, hb1⟩
    have HB1 := Lib.hid hb1
    have H1 := Lib.hid (H.out.below hb1)
    have hlook := H1.out.map.look hk true
    rw [HJ.out] at hlook
    simp only [Option.getD_some, Option.isSome_some, if_true] at hlook
    have c1 := H1.out.c1
    obtain ⟨i2, ⟨M2, v2, g2, f2, j1, j2, j3, j4⟩, hcut⟩ := cut_one (HH.out.below hb1) hl hs0 hs1
    have hM : M2 = M' ∧ v2 = v' := by
      have a := j1.obj; rw [H1.out.obj] at a
      simp at a; exact ⟨a.2.symm, a.1.symm⟩
    obtain ⟨rfl, rfl⟩ := hM
    have hi2 : i2 = i := by
      obtain ⟨L1, m1, n1⟩ := j1.map
      obtain ⟨L2, m2, n2⟩ := H1.out.map
      have r1 := j1.map.look hk false
      rw [H1.out.map.look hk false, j3, HJ.out] at r1
      simp at r1; omega
    subst hi2
    have HC := Lib.hid hcut
    clear hcut j1 j2 j3 j4 hb1 hl
    go_wp2_with fail
    refine HC.out.mono ?_
    rintro e w2 ⟨rfl, h2⟩
    have h2 := Lib.hid h2
    clear hlook c1
    go_wp2
    go_ret
    exact ⟨rfl, h2.out.after HB1.out⟩
set_option maxRecDepth 100000 in
theorem hat_any (h : HL w hp F l s) (k : Int) (hk : J64 k) :
    Calls Try.prog 34 #[ptr hp, .int .i64 k] w fun e w' => e = .returned (.tuple #[.int .i64 ((Lof l k).getD 0), .bool (Lof l k).isSome]) ∧ Below w.heap.size w w' := by
  obtain ⟨_, M, v, g, f, h1, h2, h3, h4, h5⟩ := h
  have H := Lib.hid h1; have HP := Lib.hid h2
  have hcf : (Lof l k) = (f k).map fun i => (g i).2 := by rw [← h4]; rfl
  rw [hcf]
  clear h1 h2 h3 h4 h5 hcf
  cases hf : f k with
  | none =>
    go_enter Try.func34, Try.ntmps34
    go_wp2_with fail
    refine (made_yes H.out).mono ?_
    rintro e w1 ⟨rfl, hb1⟩
    have HB1 := Lib.hid hb1
    have H1 := Lib.hid (H.out.below hb1)
    have hlook := H1.out.map.look hk true
    rw [hf] at hlook
    simp only [Option.getD_none, Option.isSome_none, if_true] at hlook
    have c1 := H1.out.c1
    clear hb1 hf
    go_wp2
    go_ret2
    exact ⟨rfl, HB1.out⟩
  | some i =>
    obtain ⟨hi, _⟩ := HP.out.of_ _ _ hf
    go_enter Try.func34, Try.ntmps34
    go_wp2_with fail
    refine (made_yes H.out).mono ?_
    rintro e w1 ⟨rfl, hb1⟩
    have HB1 := Lib.hid hb1
    have H1 := Lib.hid (H.out.below hb1)
    have hlook := H1.out.map.look hk true
    rw [hf] at hlook
    simp only [Option.getD_some, Option.isSome_some, if_true] at hlook
    have c1 := H1.out.c1
    have c0 := H1.out.c0
    obtain ⟨a, cap, rfl, _, _, hcell⟩ := H1.out.form
    obtain ⟨b, rfl, hb, _, _, _, hat⟩ := hcell (by omega)
    obtain ⟨d0, d1⟩ := hat i hi
    have hl := H1.out.lt hp (.inl rfl)
    have hiI : (i : Int) < (l.length : Int) := by omega
    clear hb1 hf hcell hat
    go_wp2
    go_ret2
    exact ⟨rfl, HB1.out⟩
set_option maxRecDepth 100000 in
theorem pop_nil (h : HL w hp F [] s) : Calls Try.prog 39 #[ptr hp] w fun e w' => e = .returned (.tuple #[.int .i64 0, .int .i64 0, .bool false]) ∧ HR w w' hp F [] s 0 := by
  have H := Lib.hid h
  clear h
  go_enter Try.func39, Try.ntmps39
  go_wp2_with fail
  refine (peek_nil H.out).mono ?_
  rintro e w1 ⟨rfl, hb1⟩
  go_wp2
  go_ret3
  exact ⟨rfl, (HR.refl H.out 0).below hb1⟩
set_option maxRecDepth 100000 in
theorem pop_cons {p : It} (h : HL w hp F (p :: l) s) (hs0 : 0 ≤ s) (hs1 : s ≤ 1000000000000) : Calls Try.prog 39 #[ptr hp] w fun e w' => e = .returned (.tuple #[.int .i64 p.1, .int .i64 p.2, .bool true]) ∧ HR w w' hp F l s (lg (l.length + 1)) := by
  have H := Lib.hid h
  clear h
  go_enter Try.func39, Try.ntmps39
  go_wp2_with fail
  refine (peek_cons H.out).mono ?_
  rintro e w1 ⟨rfl, hb1⟩
  have HB1 := Lib.hid hb1
  clear hb1
  go_wp2_with fail
  refine (cut_first (H.out.below HB1.out) hs0 hs1).mono ?_
  rintro e w2 ⟨rfl, h2⟩
  have h2 := Lib.hid h2
  go_wp2
  go_ret3
  exact ⟨rfl, h2.out.after HB1.out⟩
set_option maxRecDepth 100000 in
theorem steps_any (h : HL w hp F l s) : Calls Try.prog 42 #[ptr hp] w fun e w' => e = .returned (.int .i64 s) ∧ Below w.heap.size w w' := by
  obtain ⟨_, M, v, g, f, h1, _, _, _, _⟩ := h
  have c2 := h1.c2
  clear h1
  go_enter Try.func42, Try.ntmps42
  go_wp2
  go_ret
  exact ⟨rfl, Below.refl _ _⟩
theorem hlong (h : HL w hp F l s) : Calls Try.prog 36 #[ptr hp] w fun e w' => e = .returned (.int .i64 l.length) ∧ Below w.heap.size w w' := by
  obtain ⟨_, M, v, g, f, h1, _, _, _, _⟩ := h
  exact long_any h1
end
theorem put_none (k t : Int) : Pure Try.prog 38 #[.pointer none, .int .i64 k, .int .i64 t] (.bool false) := by
  intro W
  have hm : Pure Try.prog 87 #[.pointer none] (.bool false) := by
    intro W
    go_enter Try.func87, Try.ntmps87
    go_wp2
    go_ret
    exact ⟨rfl, Below.refl _ _⟩
  have HM := Lib.hid hm
  clear hm
  go_enter Try.func38, Try.ntmps38
  go_wp2_with fail
  refine (HM.out _).mono ?_
  rintro e w1 ⟨rfl, hb1⟩
  go_wp2
  go_ret
  exact ⟨rfl, hb1⟩
theorem long_none : Pure Try.prog 36 #[.pointer none] (.int .i64 0) := by
  intro W
  go_enter Try.func36, Try.ntmps36
  go_wp2
  go_ret
  exact ⟨rfl, Below.refl _ _⟩
theorem peek_none : Pure Try.prog 33 #[.pointer none] (.tuple #[.int .i64 0, .int .i64 0, .bool false]) := by
  intro W
  go_enter Try.func33, Try.ntmps33
  go_wp2_with fail
  refine (long_none _).mono ?_
  rintro e w1 ⟨rfl, hb1⟩
  go_wp2
  go_ret3
  exact ⟨rfl, hb1⟩
theorem pop_none : Pure Try.prog 39 #[.pointer none] (.tuple #[.int .i64 0, .int .i64 0, .bool false]) := by
  intro W
  go_enter Try.func39, Try.ntmps39
  go_wp2_with fail
  refine (peek_none _).mono ?_
  rintro e w1 ⟨rfl, hb1⟩
  go_wp2
  go_ret3
  exact ⟨rfl, hb1⟩
/-- A plain heap: all its cells zero. -/
def HZ (w : World) (b : Nat) : Prop := w.heap[b]? = some (.cells #[.slice none 0 0, .map none, .int .i64 0] 71 (0, 0))
set_option maxRecDepth 100000 in
theorem put_plain {w : World} {b : Nat} (h : HZ w b) (k t : Int) : Calls Try.prog 38 #[ptr b, .int .i64 k, .int .i64 t] w fun e w' => e = .returned (.bool false) ∧ Below w.heap.size w w' := by
  have hm : Calls Try.prog 87 #[ptr b] w fun e w' => e = .returned (.bool false) ∧ Below w.heap.size w w' := by
    have c1 : w.cell? ⟨b, 1, none⟩ = some (.map none) := by simp [World.cell?, show w.heap[b]? = _ from h]
    have hmn := fun w : World => Go.run_neq_map_nil (P := Try.prog) w 69 _ _ none Try.underlying69
    clear h
    go_enter Try.func87, Try.ntmps87
    go_wp2
    go_ret
    exact ⟨rfl, Below.refl _ _⟩
  have HM := Lib.hid hm
  clear hm h
  go_enter Try.func38, Try.ntmps38
  go_wp2_with fail
  refine HM.out.mono ?_
  rintro e w1 ⟨rfl, hb1⟩
  go_wp2
  go_ret
  exact ⟨rfl, hb1⟩
set_option maxRecDepth 100000 in
theorem long_plain {w : World} {b : Nat} (h : HZ w b) : Calls Try.prog 36 #[ptr b] w fun e w' => e = .returned (.int .i64 0) ∧ Below w.heap.size w w' := by
  have c0 : w.cell? ⟨b, 0, none⟩ = some (.slice none 0 0) := by simp [World.cell?, show w.heap[b]? = _ from h]
  clear h
  go_enter Try.func36, Try.ntmps36
  go_wp2
  go_ret
  exact ⟨rfl, Below.refl _ _⟩
end Go.Proofs.Ytajcelmnblncaaa

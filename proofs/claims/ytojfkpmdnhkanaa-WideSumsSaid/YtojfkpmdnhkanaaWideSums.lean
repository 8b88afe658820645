/- For any two wide numbers the statement WideSums returns true: the sum, the difference and which one is greater are what paper tells. No condition. -/
import Derived.Test.YtojfkpmdnhkanaaWideSumsLT
import Derived.Test.YtojfkpmdnhkanaaWideSumsGT
import Derived.Test.YtojfkpmdnhkanaaWideSumsEQ
namespace Go.Proofs.Ytojfkpmdnhkanaa
open Go.RowKit

theorem wv_parts (v : Int) : v / 18446744073709551616 * 18446744073709551616 + v % 18446744073709551616 = v := by omega
theorem own_V (v : Int) (h : Wd v) (w : World) : Calls Try.prog 14 #[W2 (v / 18446744073709551616) (v % 18446744073709551616)] w (RetInts w (digs 8 v)) := by
  have := own_any (v / 18446744073709551616) (v % 18446744073709551616) h.word_hi (word_mod v) w
  rw [wv_parts] at this
  exact this
theorem less_V (a b : Int) (ha : Wd a) (hb : Wd b) (r : Bool) (hr : decide (a < b) = r) (w : World) (va vb : Value) (h1 : Ints w va (digs 8 a)) (h2 : Ints w vb (digs 8 b)) :
    Calls Try.prog 13 #[va, vb] w fun e w' => e = .returned (.bool r) ∧ Below w.heap.size w w' := by
  rw [← hr]
  exact less_any 8 (by decide) (by decide) a b ha.lo (wd_pow8 ha) hb.lo (wd_pow8 hb) va vb w h1 h2
theorem sum_V (a b : Int) (ha : Wd a) (hb : Wd b) (w : World) (va vb : Value) (h1 : Ints w va (digs 8 a)) (h2 : Ints w vb (digs 8 b)) :
    Calls Try.prog 16 #[va, vb] w (RetInts w (digs 9 (a + b))) :=
  sum_any 8 (by decide) (by decide) a b ha.lo (wd_pow8 ha) hb.lo (wd_pow8 hb) va vb w h1 h2
theorem sumrow_V (a b : Int) (ha : Wd a) (hb : Wd b) (w : World) (va vb : Value) (h1 : Ints w va (digs 8 a)) (h2 : Ints w vb (digs 8 b)) :
    Calls Try.prog 16 #[va, vb] w (RetRow w 9 (digs 9 (a + b))) :=
  sum_row 8 (by decide) (by decide) a b ha.lo (wd_pow8 ha) hb.lo (wd_pow8 hb) va vb w h1 h2
theorem pow9 : (65536 : Int) ^ 9 = 22300745198530623141535718272648361505980416 := by decide
theorem nine_bd (v : Int) (h0 : 0 ≤ v) (h1 : v < 2 * B128) : v / 65536 ^ (max 9 8) = 0 := by
  rw [B128_eq] at h1
  rw [show max 9 8 = 9 from rfl, pow9]
  omega
theorem isV (v : Int) (h0 : 0 ≤ v) (h1 : v < 2 * B128) (ah al : Int) (f : Bool) (e1 : ah = v % B128 / 18446744073709551616) (e2 : al = v % B128 % 18446744073709551616) (e3 : f = decide (v < B128)) (w : World) (x : Value) (hx : Ints w x (digs 9 v)) :
    Calls Try.prog 17 #[W2 ah al, .bool f, x] w fun e w' => e = .returned (.bool true) ∧ Below w.heap.size w w' := by
  refine is_true 9 (by decide) (by decide) v ah al f (nine_bd v h0 h1) x w hx ?_ ?_ (by rw [f_0 _ h0, e3])
  · rw [hi_0, e1, B128_eq]; omega
  · rw [lo_0, e2, B128_eq]; omega
/-- What 'append(Sum(d, b)[:8], c)' holds. -/
theorem nine (a s c : Int) (h0 : 0 ≤ a) (h1 : a < B128) (hs : ∃ k, s = k * B128 + a) (hc : 0 ≤ c ∧ c ≤ 1) : (digs 9 s).take 8 ++ [c] = digs 9 (a + c * B128) := by
  obtain ⟨k, rfl⟩ := hs
  rw [B128_eq] at *
  have e : (65536 : Int) ^ 8 = 340282366920938463463374607431768211456 := by decide
  rw [digs_snoc 8, List.take_append_of_le_length (by rw [digs_len]; exact Nat.le_refl _), List.take_of_length_le (by rw [digs_len]; exact Nat.le_refl _), digs_snoc 8]
  have l1 := digs_low 8 k a
  have l2 := digs_low 8 c a
  rw [e] at l1 l2 ⊢
  rw [show a + c * 340282366920938463463374607431768211456 = c * 340282366920938463463374607431768211456 + a by omega, l1, l2]
  congr 2
  omega
theorem halvesV (s a : Int) (h0 : 0 ≤ s) (h1 : s < 2 * B128) (hs : s % B128 = a) (w : World) (v : Value) (hv : Ints w v (digs 9 s)) :
    Calls Try.prog 15 #[v] w fun e w' => e = .returned (.tuple #[u (a / 18446744073709551616), u (loK s 0), .bool (fK s 0)]) ∧ Below w.heap.size w w' := by
  have h := halves_core 9 (by decide) (by decide) s (nine_bd s h0 h1) (by decide) v w hv
  have e : hiK s 0 = a / 18446744073709551616 := by rw [hi_0, ← hs, B128_eq]; omega
  rw [e] at h
  exact h
theorem sums_walk (ah al bh bl : Int) (h1 : Word ah) (h2 : Word al) (h3 : Word bh) (h4 : Word bl) : Pure Try.prog 3 #[W2 ah al, W2 bh bl] (.bool true) := by
  have hVa : WV (ah * 18446744073709551616 + al) = W2 ah al := WV_of ah al h2
  have hVb : WV (bh * 18446744073709551616 + bl) = W2 bh bl := WV_of bh bl h4
  have hWa : Wd (ah * 18446744073709551616 + al) := Wd_of h1 h2
  have hWb : Wd (bh * 18446744073709551616 + bl) := Wd_of h3 h4
  rw [← hVa, ← hVb]
  generalize ah * 18446744073709551616 + al = a at *
  generalize bh * 18446744073709551616 + bl = b at *
  clear hVa hVb h1 h2 h3 h4
  have a0 := hWa.lo; have a1 := hWa.hi; have b0 := hWb.lo; have b1 := hWb.hi
  have hA := add_V a b hWa hWb
  have hS := sub_V a b hWa hWb
  have hC := cmp_V a b
  have hD : Wd ((a - b) % B128) := ⟨Int.emod_nonneg _ (by decide), Int.emod_lt_of_pos _ (by decide)⟩
  have d0 := hD.lo; have d1 := hD.hi
  have hsm : ((a - b) % B128 + b) % B128 = a := by rw [B128_eq] at *; omega
  have hk : ∃ k, (a - b) % B128 + b = k * B128 + a := by
    refine ⟨((a - b) % B128 + b) / B128, ?_⟩
    have := Int.mul_ediv_add_emod ((a - b) % B128 + b) B128
    rw [hsm, Int.mul_comm] at this
    omega
  have hH := fun w v hv => halvesV ((a - b) % B128 + b) a (by omega) (by omega) hsm w v hv
  have hI1 := fun w x hx => isV (a + b) (by omega) (by omega) _ _ _ rfl rfl rfl w x hx
  have hOd := fun w => own_V _ hD w
  generalize hd : (a - b) % B128 = d at *
  rcases Int.lt_trichotomy a b with hlt | heq | hgt
  · rw [decide_eq_false (show ¬ b ≤ a by omega)] at hS
    have hc : cmpI a b = -1 := by unfold cmpI; rw [if_pos hlt]
    rw [hc] at hC
    have hI2 := fun w x (hx : Ints w x ((digs 9 (d + b)).take 8 ++ [1])) => isV (a + 1 * B128) (by rw [B128_eq]; omega) (by omega) (a / 18446744073709551616) (a % 18446744073709551616) false (by rw [B128_eq] at *; omega) (by rw [B128_eq] at *; omega) (by rw [decide_eq_false (by omega)]) w x (by rw [nine a _ 1 a0 a1 hk (by decide)] at hx; exact hx)
    exact sums_lt _ _ _ _ _ _ _ _ _ a b d _ _ hA hS (own_V a hWa) (own_V b hWb) hOd (less_V a b hWa hWb _ (decide_eq_true hlt)) (less_V b a hWb hWa _ (decide_eq_false (by omega))) (sum_V a b hWa hWb) (sumrow_V d b hD hWb) hH hI1 hI2 hC
  · subst heq
    rw [decide_eq_true (Int.le_refl a)] at hS
    have hc : cmpI a a = 0 := by unfold cmpI; rw [if_neg (Int.lt_irrefl a), if_neg (Int.lt_irrefl a)]
    rw [hc] at hC
    have hI2 := fun w x (hx : Ints w x ((digs 9 (d + a)).take 8 ++ [0])) => isV (a + 0 * B128) (by omega) (by omega) (a / 18446744073709551616) (a % 18446744073709551616) true (by rw [B128_eq] at *; omega) (by rw [B128_eq] at *; omega) (by rw [decide_eq_true (by omega)]) w x (by rw [nine a _ 0 a0 a1 hk (by decide)] at hx; exact hx)
    exact sums_eq _ _ _ _ _ _ _ _ _ a a d _ _ hA hS (own_V a hWa) (own_V a hWa) hOd (less_V a a hWa hWa _ (decide_eq_false (Int.lt_irrefl a))) (less_V a a hWa hWa _ (decide_eq_false (Int.lt_irrefl a))) (sum_V a a hWa hWa) (sumrow_V d a hD hWa) hH hI1 hI2 hC
  · rw [decide_eq_true (show b ≤ a by omega)] at hS
    have hc : cmpI a b = 1 := by unfold cmpI; rw [if_neg (by omega), if_pos hgt]
    rw [hc] at hC
    have hI2 := fun w x (hx : Ints w x ((digs 9 (d + b)).take 8 ++ [0])) => isV (a + 0 * B128) (by omega) (by omega) (a / 18446744073709551616) (a % 18446744073709551616) true (by rw [B128_eq] at *; omega) (by rw [B128_eq] at *; omega) (by rw [decide_eq_true (by omega)]) w x (by rw [nine a _ 0 a0 a1 hk (by decide)] at hx; exact hx)
    exact sums_gt _ _ _ _ _ _ _ _ _ a b d _ _ hA hS (own_V a hWa) (own_V b hWb) hOd (less_V a b hWa hWb _ (decide_eq_false (by omega))) (less_V b a hWb hWa _ (decide_eq_true hgt)) (sum_V a b hWa hWb) (sumrow_V d b hD hWb) hH hI1 hI2 hC
namespace WideSums
open Go.ChangeShapes Go.WideShapes Go.ChangeAt Go.RowKit
theorem own : ownKnob Try.prog.godebug = none := by kernel_rfl
theorem laidOut : laidOutB Try.prog = true := by kernel_rfl
set_option maxRecDepth 100000 in
theorem lifted (os : Os) (started : os.Started) (H : Type) (enc : TypeId × Value → H) :
    ReturnsInHanded {} Try.checked os 3 .any (Rows.wideSumsSpec.pre6 enc Try.prog Try.f3 Rows.wideSumsRow.domain false) (Rows.wideSumsSpec.post enc Try.prog Try.f3 false true false false) := by
  refine returnsInHanded_of_change (C := Try.checked) own started (by kernel_rfl) Try.func3
    (ChangeSpec.witness6 (enc := enc) (C := Try.checked) false ⟨#[], #[W2 0 0, W2 0 0], []⟩ 8 (by kernel_rfl) (by kernel_rfl) (by kernel_rfl) (by kernel_rfl)) ?_
  intro W base args ds gs before hval0 hW hcnd _
  have hval : ∀ (j : Nat) t v, Try.f3.params[j]? = some t → args[j]? = some v → Value.okWide Try.prog W .any base t v := hval0
  have hW' := hW
  obtain ⟨p, q, hA0, hV, rfl, hfz, hnd⟩ := hW
  have hA : DataW.TrodAll enc Try.prog W 0 (fun _ => true) true Try.f3.params.toList args.toList ds p := hA0
  rw [Try.params3] at hA hval
  obtain ⟨v0, vs0, d0, ds0, p0, q0, hargs, rfl, rfl, h0, r0⟩ := trodAll_cons hA
  obtain ⟨v1, vs1, d1, ds1, p1, q1, rfl, rfl, rfl, h1, r1⟩ := trodAll_cons r0
  obtain ⟨rfl, rfl, rfl⟩ := trodAll_nil r1
  obtain rfl : args = #[v0, v1] := by cases args; simp_all
  obtain ⟨rfl, rfl⟩ := trodVars_none hV
  have k0 := h0
  have lt0 : ∀ x ∈ p0, x.block < W.heap.size := by obtain ⟨m, hm⟩ := k0; exact DataW.trod_lt m _ _ _ hm
  have k1 := h1
  have lt1 : ∀ x ∈ p1, x.block < W.heap.size := by obtain ⟨m, hm⟩ := k1; exact DataW.trod_lt m _ _ _ hm
  obtain ⟨c0_0, c0_1, y0_0, y0_1, m0, vEq0, rfl, rfl, hy0_0, hy0_1⟩ := Go.Joins.open_agg2 Try.underlying24 (by kernel_rfl) (by kernel_rfl : Try.prog.cellsOf 24 = 2) (hval 0 24 v0 rfl rfl) k0
  obtain ⟨ah, eq0_0, _, wf_ah⟩ := DataW.trod_int Try.underlying22 hy0_0
  obtain ⟨al, eq0_1, _, wf_al⟩ := DataW.trod_int Try.underlying22 hy0_1
  simp at eq0_0 eq0_1
  subst eq0_0 eq0_1
  subst vEq0
  obtain ⟨c1_0, c1_1, y1_0, y1_1, m1, vEq1, rfl, rfl, hy1_0, hy1_1⟩ := Go.Joins.open_agg2 Try.underlying24 (by kernel_rfl) (by kernel_rfl : Try.prog.cellsOf 24 = 2) (hval 1 24 v1 rfl rfl) k1
  obtain ⟨bh, eq1_0, _, wf_bh⟩ := DataW.trod_int Try.underlying22 hy1_0
  obtain ⟨bl, eq1_1, _, wf_bl⟩ := DataW.trod_int Try.underlying22 hy1_1
  simp at eq1_0 eq1_1
  subst eq1_0 eq1_1
  subst vEq1
  clear hA0 hval0
  refine (sums_walk ah al bh bl (word_of_wf wf_ah) (word_of_wf wf_al) (word_of_wf wf_bh) (word_of_wf wf_bl) W).mono fun e W' ⟨he, bel⟩ => ?_
  subst he
  exact ⟨_, rfl, _, _, _, [], _, [], hW', trodAll_mk1 (shut_bool Try.underlying4 _), (trodAll_cons_mk (Below.trod laidOut (by kernel_rfl) (of_decide_eq_true (by kernel_rfl)) k0 bel lt0) (trodAll_cons_mk (Below.trod laidOut (by kernel_rfl) (of_decide_eq_true (by kernel_rfl)) k1 bel lt1) trodAll_mk0)), rfl, bel.frame _, fun h => by cases h⟩
theorem over : Rows.wideSumsRow.holds Try.pinned (OpenSpec.ofChange Rows.wideSumsSpec) :=
  OpenClaim.holds_of_wide 3 Try.f3 rfl rfl rfl rfl rfl rfl rfl ⟨rfl, rfl, rfl, rfl, rfl⟩ rfl rfl rfl rfl rfl (by kernel_rfl) Try.func3 (by kernel_rfl)
    (of_decide_eq_true (by kernel_rfl)) (by unfold Func.isWrapper; first | (rw [if_pos (by decide +kernel)]; kernel_rfl) | (rw [if_neg (by decide +kernel)]; exact ⟨rfl, rfl⟩))
    (fun os started H enc _ => lifted os started H enc)
theorem proved : Rows.WideSumsSaid := over
end WideSums
end Go.Proofs.Ytojfkpmdnhkanaa

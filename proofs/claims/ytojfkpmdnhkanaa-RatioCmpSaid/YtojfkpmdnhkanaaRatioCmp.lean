/- For any two fractions and any fractions the statement RatioCmp returns true: which is greater, and the greatest of several, is what paper tells. No condition. -/
import Derived.Test.YtojfkpmdnhkanaaRefMax
import Derived.Deep.SlicePairs
namespace Go.Proofs.Ytojfkpmdnhkanaa
open Go.RowKit
attribute [local go_sem] ext_cell ext_frozen

theorem Fracs.grow {w w' : World} {b off len : Nat} {n d : Nat → Int} (h : Fracs w b off len n d) (hb : b < w.heap.size) (hg : Below w.heap.size w w') : Fracs w' b off len n d := by
  intro i hi
  obtain ⟨h1, h2, h3, h4⟩ := h i hi
  exact ⟨by rw [hg.cell (p := ⟨b, _, none⟩) hb]; exact h1, by rw [hg.cell (p := ⟨b, _, none⟩) hb]; exact h2, h3, h4⟩
theorem maxRes_form (n d : Nat → Int) (len : Nat) : ∃ x y z : Int, maxRes n d len = .tuple #[F2 x y, .int .i64 z] := by
  unfold maxRes
  split
  · exact ⟨_, _, _, rfl⟩
  · exact ⟨_, _, _, rfl⟩
theorem ratiocmp_long (an ad bn bd : Int) (a : Option Addr) (len cap : Nat) (h : 60 < len) : Pure Try.prog 8 #[F2 an ad, F2 bn bd, .slice a len cap] (.bool true) := by
  intro w
  have h' : (60 : Int) < (len : Int) := by omega
  go_enter Try.func8, Try.ntmps8
  go_wp2
  go_ret
  refine ⟨rfl, ?_⟩
  (repeat (first | assumption | exact Below.refl _ _ | refine ba ?_ _ | refine bd ?_ | refine bdn ?_ _ | refine bs ?_ (by first | omega | (simp; done) | (simp; omega)) _ | refine bt ?_ (by assumption)))
set_option maxHeartbeats 2000000 in
theorem ratiocmp_core (an ad bn bd x y z c : Int) (r : Bool) (a : Option Addr) (len cap : Nat) (w : World) (h : len ≤ 60)
    (hM1 : ∀ W, Below w.heap.size w W → Calls Try.prog 34 #[.slice a len cap] W fun e w' => e = .returned (.tuple #[F2 x y, .int .i64 z]) ∧ Below W.heap.size W w')
    (hM2 : ∀ W, Below w.heap.size w W → Calls Try.prog 35 #[.slice a len cap] W fun e w' => e = .returned (.tuple #[F2 x y, .int .i64 z]) ∧ Below W.heap.size W w')
    (hC1 : Pure Try.prog 36 #[F2 an ad, F2 bn bd] (.int .i64 c)) (hC2 : Pure Try.prog 37 #[F2 an ad, F2 bn bd] (.int .i64 c))
    (hR1 : Pure Try.prog 38 #[F2 an ad] (.bool r)) (hR2 : Pure Try.prog 39 #[F2 an ad] (.bool r)) :
    Calls Try.prog 8 #[F2 an ad, F2 bn bd, .slice a len cap] w fun e w' => e = .returned (.bool true) ∧ Below w.heap.size w w' := by
  have h' : ¬ (60 : Int) < (len : Int) := by omega
  have M1 := Lib.hid hM1; have M2 := Lib.hid hM2; have C1 := Lib.hid hC1; have C2 := Lib.hid hC2; have R1 := Lib.hid hR1; have R2 := Lib.hid hR2
  clear hM1 hM2 hC1 hC2 hR1 hR2
  go_enter Try.func8, Try.ntmps8
  go_wp2_with fail
  (with_reducible refine (M1.out _ (by (repeat (first | assumption | exact Below.refl _ _ | refine ba ?_ _ | refine bd ?_ | refine bdn ?_ _ | refine bs ?_ (by first | omega | (simp; done) | (simp; omega)) _ | refine bt ?_ (by assumption))))).mono ?_)
  rintro e w1 ⟨rfl, hb1⟩
  have hs1 : w.heap.size + 2 ≤ w1.heap.size := (by have h := hb1.size; first | omega | (simp at h; omega))
  have hz1_0 : w.heap.size < w1.heap.size := (by omega)
  have hz1_1 : w.heap.size + 1 < w1.heap.size := (by omega)
  obtain ⟨hc1, hf1, hl1⟩ := bcell hb1
  clear hl1
  go_wp2_with fail
  (with_reducible refine (M2.out _ (by (repeat (first | assumption | exact Below.refl _ _ | refine ba ?_ _ | refine bd ?_ | refine bdn ?_ _ | refine bs ?_ (by first | omega | (simp; done) | (simp; omega)) _ | refine bt ?_ (by assumption))))).mono ?_)
  rintro e w2 ⟨rfl, hb2⟩
  have hs2 : w1.heap.size + 1 ≤ w2.heap.size := (by have h := hb2.size; first | omega | (simp at h; omega))
  have hb1_2 := bel hb1 hb2 (by (repeat (first | assumption | exact Below.refl _ _ | refine ba ?_ _ | refine bd ?_ | refine bdn ?_ _ | refine bs ?_ (by first | omega | (simp; done) | (simp; omega)) _ | refine bt ?_ (by assumption))))
  clear hz1_0 hz1_1 hc1 hf1
  obtain ⟨hc1_2, hf1_2, hl1_2⟩ := bcell hb1_2
  clear hl1_2
  have hz2_0 : w.heap.size < w2.heap.size := (by omega)
  have hz2_1 : w.heap.size + 1 < w2.heap.size := (by omega)
  have hz2_2 : w1.heap.size < w2.heap.size := (by omega)
  obtain ⟨hc2, hf2, hl2⟩ := bcell hb2
  clear hl2
  go_wp2_with fail
  have hy0 : w.heap.size ≤ w2.heap.size := by omega
  have hy1 : w.heap.size + 1 ≤ w2.heap.size := by omega
  have hy2 : w1.heap.size ≤ w2.heap.size := by omega
  refine wp_region_pure (by kernel_rfl) (by kernel_rfl) ?_
  repeat (first | go_big_quiet_step (((first | (go_at_call 36; with_reducible exact C1.out.quiet) | (go_at_call 37; with_reducible exact C2.out.quiet) | (go_at_call 38; with_reducible exact R1.out.quiet) | (go_at_call 39; with_reducible exact R2.out.quiet) | (go_at_call 40; with_reducible exact works2.quiet)))) | (quiet_step (((first | (go_at_call 36; with_reducible exact C1.out.quiet) | (go_at_call 37; with_reducible exact C2.out.quiet) | (go_at_call 38; with_reducible exact R1.out.quiet) | (go_at_call 39; with_reducible exact R2.out.quiet) | (go_at_call 40; with_reducible exact works2.quiet))))))
  refine wpQuiet_nil ?_
  rintro w3 ⟨x3, hx3⟩
  have hb3 := ext_below _ x3
  rw [← hx3] at hb3
  clear hx3 x3
  have hs3 : w2.heap.size + 1 ≤ w3.heap.size := (by have h := hb3.size; first | omega | (simp at h; omega))
  have hb1_3 := bel hb1_2 hb3 (by (repeat (first | assumption | exact Below.refl _ _ | refine ba ?_ _ | refine bd ?_ | refine bdn ?_ _ | refine bs ?_ (by first | omega | (simp; done) | (simp; omega)) _ | refine bt ?_ (by assumption))))
  have hb2_3 := bel hb2 hb3 (by (repeat (first | assumption | exact Below.refl _ _ | refine ba ?_ _ | refine bd ?_ | refine bdn ?_ _ | refine bs ?_ (by first | omega | (simp; done) | (simp; omega)) _ | refine bt ?_ (by assumption))))
  clear hc1_2 hf1_2 hz2_0 hz2_1 hz2_2 hc2 hf2
  obtain ⟨hc1_3, hf1_3, hl1_3⟩ := bcell hb1_3
  clear hl1_3
  obtain ⟨hc2_3, hf2_3, hl2_3⟩ := bcell hb2_3
  clear hl2_3
  have hz3_0 : w.heap.size < w3.heap.size := (by omega)
  have hz3_1 : w.heap.size + 1 < w3.heap.size := (by omega)
  have hz3_2 : w1.heap.size < w3.heap.size := (by omega)
  have hz3_3 : w2.heap.size < w3.heap.size := (by omega)
  obtain ⟨hc3, hf3, hl3⟩ := bcell hb3
  clear hl3
  go_wp2
  go_ret
  refine ⟨rfl, ?_⟩
  (repeat (first | assumption | exact Below.refl _ _ | refine ba ?_ _ | refine bd ?_ | refine bdn ?_ _ | refine bs ?_ (by first | omega | (simp; done) | (simp; omega)) _ | refine bt ?_ (by assumption)))
theorem ratiocmp_some (an ad bn bd : Int) (i1 : I64 an) (i2 : I64 ad) (i3 : I64 bn) (i4 : I64 bd) (b off len cap : Nat) (n d : Nat → Int) (w : World) (hb : b < w.heap.size) (h0 : 0 < len) (h : len ≤ 60) (hF : Fracs w b off len n d) :
    Calls Try.prog 8 #[F2 an ad, F2 bn bd, .slice (some ⟨b, off, none⟩) len cap] w fun e w' => e = .returned (.bool true) ∧ Below w.heap.size w w' := by
  obtain ⟨x, y, z, hm⟩ := maxRes_form n d len
  refine ratiocmp_core an ad bn bd x y z _ _ _ len cap w h ?_ ?_ (rc_any an ad bn bd i1 i2 i3 i4) (refcmp_any an ad bn bd i1 i2 i3 i4) (right_any an ad) (rright_any an ad)
  · intro W hW
    have := max_some b off len cap n d W (Nat.lt_of_lt_of_le hb hW.size) h0 (by omega) (hF.grow hb hW)
    rw [hm] at this
    exact this
  · intro W hW
    have := refmax_some b off len cap n d W (Nat.lt_of_lt_of_le hb hW.size) h0 (by omega) (hF.grow hb hW)
    rw [hm] at this
    exact this
theorem ratiocmp_none (an ad bn bd : Int) (i1 : I64 an) (i2 : I64 ad) (i3 : I64 bn) (i4 : I64 bd) (a : Option Addr) (cap : Nat) : Pure Try.prog 8 #[F2 an ad, F2 bn bd, .slice a 0 cap] (.bool true) := fun w =>
  ratiocmp_core an ad bn bd 0 0 (-1) _ _ _ 0 cap w (by omega) (fun W _ => max_none a cap W) (fun W _ => refmax_none a cap W) (rc_any an ad bn bd i1 i2 i3 i4) (refcmp_any an ad bn bd i1 i2 i3 i4) (right_any an ad) (rright_any an ad)

/-- The number in a value. -/
def numOf (v : Value) : Int := match v with | .int _ x => x | _ => 0
namespace RatioCmp
open Go.ChangeShapes Go.WideShapes Go.ChangeAt Go.RowKit Go.Deep
theorem own : ownKnob Try.prog.godebug = none := by kernel_rfl
theorem laidOut : laidOutB Try.prog = true := by kernel_rfl
set_option maxRecDepth 100000 in
theorem lifted (os : Os) (started : os.Started) (H : Type) (enc : TypeId × Value → H) :
    ReturnsInHanded {} Try.checked os 8 .any (Rows.ratioCmpSpec.pre6 enc Try.prog Try.f8 Rows.ratioCmpRow.domain false) (Rows.ratioCmpSpec.post enc Try.prog Try.f8 false true false false) := by
  refine returnsInHanded_of_change (C := Try.checked) own started (by kernel_rfl) Try.func8
    (ChangeSpec.witness6 (enc := enc) (C := Try.checked) false ⟨#[], #[F2 0 0, F2 0 0, .slice none 0 0], []⟩ 8 (by kernel_rfl) (by kernel_rfl) (by kernel_rfl) (by kernel_rfl)) ?_
  intro W base args ds gs before hval0 hW hcnd _
  have hval : ∀ (j : Nat) t v, Try.f8.params[j]? = some t → args[j]? = some v → Value.okWide Try.prog W .any base t v := hval0
  have hW' := hW
  obtain ⟨p, q, hA0, hV, rfl, hfz, hnd⟩ := hW
  have hA : DataW.TrodAll enc Try.prog W 0 (fun _ => true) true Try.f8.params.toList args.toList ds p := hA0
  rw [Try.params8] at hA hval
  obtain ⟨v0, vs0, d0, ds0, p0, q0, hargs, rfl, rfl, h0, r0⟩ := trodAll_cons hA
  obtain ⟨v1, vs1, d1, ds1, p1, q1, rfl, rfl, rfl, h1, r1⟩ := trodAll_cons r0
  obtain ⟨v2, vs2, d2, ds2, p2, q2, rfl, rfl, rfl, h2, r2⟩ := trodAll_cons r1
  obtain ⟨rfl, rfl, rfl⟩ := trodAll_nil r2
  obtain rfl : args = #[v0, v1, v2] := by cases args; simp_all
  obtain ⟨rfl, rfl⟩ := trodVars_none hV
  have k0 := h0
  have lt0 : ∀ x ∈ p0, x.block < W.heap.size := by obtain ⟨m, hm⟩ := k0; exact DataW.trod_lt m _ _ _ hm
  have k1 := h1
  have lt1 : ∀ x ∈ p1, x.block < W.heap.size := by obtain ⟨m, hm⟩ := k1; exact DataW.trod_lt m _ _ _ hm
  have k2 := h2
  have lt2 : ∀ x ∈ p2, x.block < W.heap.size := by obtain ⟨m, hm⟩ := k2; exact DataW.trod_lt m _ _ _ hm
  obtain ⟨c0_0, c0_1, y0_0, y0_1, m0, vEq0, rfl, rfl, hy0_0, hy0_1⟩ := Go.Joins.open_agg2 Try.underlying53 (by kernel_rfl) (by kernel_rfl : Try.prog.cellsOf 53 = 2) (hval 0 53 v0 rfl rfl) k0
  obtain ⟨an, eq0_0, _, wf_an⟩ := DataW.trod_int Try.underlying2 hy0_0
  obtain ⟨ad, eq0_1, _, wf_ad⟩ := DataW.trod_int Try.underlying2 hy0_1
  simp at eq0_0 eq0_1
  subst eq0_0 eq0_1
  subst vEq0
  obtain ⟨c1_0, c1_1, y1_0, y1_1, m1, vEq1, rfl, rfl, hy1_0, hy1_1⟩ := Go.Joins.open_agg2 Try.underlying53 (by kernel_rfl) (by kernel_rfl : Try.prog.cellsOf 53 = 2) (hval 1 53 v1 rfl rfl) k1
  obtain ⟨bn, eq1_0, _, wf_bn⟩ := DataW.trod_int Try.underlying2 hy1_0
  obtain ⟨bd, eq1_1, _, wf_bd⟩ := DataW.trod_int Try.underlying2 hy1_1
  simp at eq1_0 eq1_1
  subst eq1_0 eq1_1
  subst vEq1
  obtain ⟨a2, len, cap, vEq2⟩ := okWide_slice Try.underlying54 (hval 2 54 v2 rfl rfl)
  subst vEq2
  clear hA0 hval0
  have hwalk : Calls Try.prog 8 #[F2 an ad, F2 bn bd, .slice a2 len cap] W fun e w' => e = .returned (.bool true) ∧ Below W.heap.size W w' := by
    by_cases hlong : 60 < len
    · exact ratiocmp_long an ad bn bd a2 len cap hlong W
    by_cases hzero : len = 0
    · subst hzero; exact ratiocmp_none an ad bn bd (i64_of_wf wf_an) (i64_of_wf wf_ad) (i64_of_wf wf_bn) (i64_of_wf wf_bd) a2 cap W
    obtain ⟨fuel, hf⟩ := k2
    rcases open_slice_pairs Try.underlying54 Try.underlying53 (by kernel_rfl) rfl rfl (by kernel_rfl) (by kernel_rfl) hf with ⟨hcs, _⟩ | ⟨x, l, c, m, nn, V0, V1, D0, D1, P0, P1, hcs, _, hl, hm, hmm, _, hc⟩
    · simp [Value.cells] at hcs
      omega
    · simp [Value.cells] at hcs
      obtain ⟨rfl, rfl, rfl⟩ := hcs
      simp at hmm
      subst hmm
      obtain ⟨b, off, spot⟩ := x
      have h00 := (hc 0 (by omega)).1
      have hspot : spot = none := by simpa [Addr.add] using World.cell?_spot h00
      subst hspot
      have hb := World.block_lt_of_cell? W _ h00
      refine ratiocmp_some an ad bn bd (i64_of_wf wf_an) (i64_of_wf wf_ad) (i64_of_wf wf_bn) (i64_of_wf wf_bd) b off len m (fun i => numOf (V0 i)) (fun i => numOf (V1 i)) W (by simpa [Addr.add] using hb) (by omega) (by omega) ?_
      intro i hi
      obtain ⟨c0, c1, t0, t1⟩ := hc i (by omega)
      obtain ⟨n0, q0, _, wf0⟩ := DataW.trod_int Try.underlying2 t0
      obtain ⟨n1, q1, _, wf1⟩ := DataW.trod_int Try.underlying2 t1
      simp at q0 q1
      rw [q0] at c0
      rw [q1] at c1
      have g0 : numOf (V0 i) = n0 := by rw [q0]; rfl
      have g1 : numOf (V1 i) = n1 := by rw [q1]; rfl
      show W.cell? _ = some (.int .i64 (numOf (V0 i))) ∧ W.cell? _ = some (.int .i64 (numOf (V1 i))) ∧ I64 (numOf (V0 i)) ∧ I64 (numOf (V1 i))
      rw [g0, g1]
      refine ⟨?_, ?_, i64_of_wf wf0, i64_of_wf wf1⟩
      · rw [Addr.add_lit] at c0; exact c0
      · rw [Addr.add_lit] at c1; exact c1
  refine hwalk.mono fun e W' ⟨he, bel⟩ => ?_
  subst he
  exact ⟨_, rfl, _, _, _, [], _, [], hW', trodAll_mk1 (shut_bool Try.underlying4 _), (trodAll_cons_mk (Below.trod laidOut (by kernel_rfl) (of_decide_eq_true (by kernel_rfl)) k0 bel lt0) (trodAll_cons_mk (Below.trod laidOut (by kernel_rfl) (of_decide_eq_true (by kernel_rfl)) k1 bel lt1) (trodAll_cons_mk (Below.trod laidOut (by kernel_rfl) (of_decide_eq_true (by kernel_rfl)) k2 bel lt2) trodAll_mk0))), rfl, bel.frame _, fun h => by cases h⟩
theorem over : Rows.ratioCmpRow.holds Try.pinned (OpenSpec.ofChange Rows.ratioCmpSpec) :=
  OpenClaim.holds_of_wide 8 Try.f8 rfl rfl rfl rfl rfl rfl rfl ⟨rfl, rfl, rfl, rfl, rfl⟩ rfl rfl rfl rfl rfl (by kernel_rfl) Try.func8 (by kernel_rfl)
    (of_decide_eq_true (by kernel_rfl)) (by unfold Func.isWrapper; first | (rw [if_pos (by decide +kernel)]; kernel_rfl) | (rw [if_neg (by decide +kernel)]; exact ⟨rfl, rfl⟩))
    (fun os started H enc _ => lifted os started H enc)
theorem proved : Rows.RatioCmpSaid := over
end RatioCmp
end Go.Proofs.Ytojfkpmdnhkanaa

/- Contract of math/bits.Div64. Conditions: words, the divisor not 0 and above the upper word. -/
import Derived.Test.YtojfkpmdnhkanaaWide1
import Derived.Test.YtojfkpmdnhkanaaDivM
import Derived.IntWalk
import Derived.Laws.Bits64b
import Derived.Deep.DeepCutAuto
import Derived.Deep.CutBlock
namespace Go.Proofs.Ytojfkpmdnhkanaa
open Go.RowKit DivM

set_option linter.unusedVariables false
set_option maxHeartbeats 2000000 in
set_option maxRecDepth 100000 in
theorem div64_long (hi lo y : Int) (s : Nat) (h1 : 0 < hi) (h1' : hi < 18446744073709551616) (h2 : 0 ≤ lo) (h2' : lo < 18446744073709551616) (h3 : hi < y) (h3' : y < 18446744073709551616) (hs : s ≤ 63)
    (Y U L y1 y0 d1 d0 q r Q1 R1 q' r' Q0 : Int) (hY : IntKind.u64.wrap (y * 2 ^ s) = Y) (hU : bits .or .u64 (IntKind.u64.wrap (hi * 2 ^ s)) (lo / 2 ^ (64 - s)) = U) (hL : IntKind.u64.wrap (lo * 2 ^ s) = L)
    (hy1 : Y / 4294967296 = y1) (hy0 : bits .and .u64 Y 4294967295 = y0) (hd1 : L / 4294967296 = d1) (hd0 : bits .and .u64 L 4294967295 = d0)
    (S1 : Step U d1 y1 y0 Q1) (hq : IntKind.u64.wrap (U.tdiv y1) = q) (hr : IntKind.u64.wrap (U - IntKind.u64.wrap (q * y1)) = r) (G1 : Guess U y1 Q1 q r)
    (hR1 : IntKind.u64.wrap (IntKind.u64.wrap (IntKind.u64.wrap (U * 4294967296) + d1) - IntKind.u64.wrap (Q1 * Y)) = R1) (S2 : Step R1 d0 y1 y0 Q0)
    (hq2 : IntKind.u64.wrap (R1.tdiv y1) = q') (hr2 : IntKind.u64.wrap (R1 - IntKind.u64.wrap (q' * y1)) = r') (G2 : Guess R1 y1 Q0 q' r') (q0 r0 : Int)
    (hE1 : Q1 * 4294967296 + Q0 = q0) (hE2 : IntKind.u64.wrap (IntKind.u64.wrap (IntKind.u64.wrap (R1 * 4294967296) + d0) - IntKind.u64.wrap (Q0 * Y)) / 2 ^ s = r0)
    (hlz : ∀ w, Calls Try.prog 48 #[u y] w fun e w' => e = .returned (.int .i64 (s : Int)) ∧ w = w') (w : World) :
    Calls Try.prog 46 #[u hi, u lo, u y] w fun e w' => e = .returned (.tuple #[u q0, u r0]) ∧ w = w' := by
  have e1 : (y == 0) = false := by simp; omega
  have e2 : ¬ y ≤ hi := by omega
  have e3 : (hi == 0) = false := by simp; omega
  have a1 := S1.y1l; have a2 := S1.y1h; have a3 := S1.y0l; have a4 := S1.y0h; have a5 := S1.d0; have a6 := S1.d1; have a7 := S1.u0
  have e4 : (y1 == 0) = false := by simp; omega
  have HLZ := Lib.hid hlz; have HY := Lib.hid hY; have HU := Lib.hid hU; have HL := Lib.hid hL; have HY1 := Lib.hid hy1; have HY0 := Lib.hid hy0; have HD1 := Lib.hid hd1; have HD0 := Lib.hid hd0
  have b5 := S2.d0; have b6 := S2.d1; have b7 := S2.u0; have b8 := S1.Qb.1; have b9 := S1.Qb.2; have b10 := S2.Qb.1; have b11 := S2.Qb.2
  have HR1 := Lib.hid hR1; have HQ2 := Lib.hid hq2; have HR2 := Lib.hid hr2; have HE1 := Lib.hid hE1; have HE2 := Lib.hid hE2; have HS2 := Lib.hid S2; have HG2 := Lib.hid G2
  clear hR1 hq2 hr2 hE1 hE2 S2 G2
  have HQ := Lib.hid hq; have HR := Lib.hid hr; have HS1 := Lib.hid S1; have HG1 := Lib.hid G1
  clear hlz hY hU hL hy1 hy0 hd1 hd0 hq hr S1 G1
  go_enter Try.func46, Try.ntmps46
  go_wp2_with fail
  refine (HLZ.out _).mono ?_
  rintro e w1 ⟨rfl, rfl⟩
  go_upto_region 9 with (fail)
  rw [HY.out]
  go_upto_region 15 with (fail)
  rw [HY1.out, HY0.out, HL.out, HU.out, HD1.out, HD0.out]
  go_upto_region 16 with (fail)
  rw [HQ.out]
  go_upto_block 0 with (fail)
  rw [HR.out]
  go_cut [15, 16] from 67 to 85 (fun v15 v16 wx => v15 = u Q1 ∧ (∃ t, v16 = u t) ∧ w = wx)
  case first =>
    go_wp2
    go_loop [15, 16] (fun a b => ∃ q r : Int, Guess U y1 Q1 q r ∧ a = u q ∧ b = u r) (fun a _ => (intOf a).toNat)
    case atStart => exact ⟨q, r, HG1.out, rfl, rfl⟩
    case round =>
      obtain ⟨q, r, g, rfl, rfl⟩ := hrel
      have b1 := g.r0; have b2 := g.r1; have b3 := g.le; have b4 := g.ge; have b5 := HS1.out.Qb
      by_cases hbig : 4294967296 ≤ q
      · obtain ⟨n1, n2, n3, n4, n5⟩ := g.next HS1.out (.inl hbig)
        have n2' : 1 ≤ q := n2
        by_cases hbr : 4294967296 ≤ r + y1
        · have hf := n5 hbr
          have HF := Lib.hid hf
          clear n1 n3 n4 n5 hf g
          go_wp2
          go_meet
          exact ⟨by rw [HF.out], ⟨_, rfl⟩, rfl⟩
        · have hf := n4 (by omega)
          have HF := Lib.hid hf
          clear n1 n3 n4 n5 hf g
          go_wp2
          go_round
          case rel => exact ⟨_, _, HF.out, rfl, rfl⟩
          case measure => simp [intOf]; omega
      · have pb : 0 ≤ q * y0 ∧ q * y0 ≤ 4294967295 * 4294967295 := by
          refine ⟨Int.mul_nonneg (by omega) a3, ?_⟩
          exact Int.mul_le_mul (by omega) (by omega) a3 (by omega)
        have pw : IntKind.u64.wrap (q * y0) = q * y0 := by rw [IntKind.wrap_u64]; omega
        by_cases hc : 4294967296 * r + d1 < q * y0
        · obtain ⟨n1, n2, n3, n4, n5⟩ := g.next HS1.out (.inr hc)
          have ht : decide (4294967296 * r + d1 < IntKind.u64.wrap (q * y0)) = true := by rw [pw]; simpa using hc
          clear pw pb hc
          have n2' : 1 ≤ q := n2
          by_cases hbr : 4294967296 ≤ r + y1
          · have hf := n5 hbr
            have HF := Lib.hid hf
            clear n1 n3 n4 n5 hf g
            go_wp2
            go_meet
            exact ⟨by rw [HF.out], ⟨_, rfl⟩, rfl⟩
          · have hf := n4 (by omega)
            have HF := Lib.hid hf
            clear n1 n3 n4 n5 hf g
            go_wp2
            go_round
            case rel => exact ⟨_, _, HF.out, rfl, rfl⟩
            case measure => simp [intOf]; omega
        · have hf := g.done HS1.out (by omega)
          have ht : decide (4294967296 * r + d1 < IntKind.u64.wrap (q * y0)) = false := by rw [pw]; simpa using hc
          have HF := Lib.hid hf
          clear pw pb hc hf g
          go_wp2
          go_meet
          exact ⟨by rw [HF.out], ⟨_, rfl⟩, rfl⟩
  case rest =>
    obtain ⟨rfl, ⟨t, rfl⟩, rfl⟩ := hcut
    go_upto_region 22 with (fail)
    rw [HR1.out]
    go_upto_region 23 with (fail)
    rw [HQ2.out]
    go_upto_block 2 with (fail)
    rw [HR2.out]
    go_cut [18, 16] from 102 to 120 (fun v18 v16 wx => v18 = u Q0 ∧ (∃ t, v16 = u t) ∧ w = wx)
    case first =>
      go_wp2
      go_loop [18, 16] (fun a b => ∃ q r : Int, Guess R1 y1 Q0 q r ∧ a = u q ∧ b = u r) (fun a _ => (intOf a).toNat)
      case atStart => exact ⟨q', r', HG2.out, rfl, rfl⟩
      case round =>
        obtain ⟨q, r, g, rfl, rfl⟩ := hrel
        have b1 := g.r0; have b2 := g.r1; have b3 := g.le; have b4 := g.ge; have b5 := HS2.out.Qb
        by_cases hbig : 4294967296 ≤ q
        · obtain ⟨n1, n2, n3, n4, n5⟩ := g.next HS2.out (.inl hbig)
          have n2' : 1 ≤ q := n2
          by_cases hbr : 4294967296 ≤ r + y1
          · have hf := n5 hbr
            have HF := Lib.hid hf
            clear n1 n3 n4 n5 hf g
            go_wp2
            go_meet
            exact ⟨by rw [HF.out], ⟨_, rfl⟩, rfl⟩
          · have hf := n4 (by omega)
            have HF := Lib.hid hf
            clear n1 n3 n4 n5 hf g
            go_wp2
            go_round
            case rel => exact ⟨_, _, HF.out, rfl, rfl⟩
            case measure => simp [intOf]; omega
        · have pb : 0 ≤ q * y0 ∧ q * y0 ≤ 4294967295 * 4294967295 := by
            refine ⟨Int.mul_nonneg (by omega) a3, ?_⟩
            exact Int.mul_le_mul (by omega) (by omega) a3 (by omega)
          have pw : IntKind.u64.wrap (q * y0) = q * y0 := by rw [IntKind.wrap_u64]; omega
          by_cases hc : 4294967296 * r + d0 < q * y0
          · obtain ⟨n1, n2, n3, n4, n5⟩ := g.next HS2.out (.inr hc)
            have ht : decide (4294967296 * r + d0 < IntKind.u64.wrap (q * y0)) = true := by rw [pw]; simpa using hc
            clear pw pb hc
            have n2' : 1 ≤ q := n2
            by_cases hbr : 4294967296 ≤ r + y1
            · have hf := n5 hbr
              have HF := Lib.hid hf
              clear n1 n3 n4 n5 hf g
              go_wp2
              go_meet
              exact ⟨by rw [HF.out], ⟨_, rfl⟩, rfl⟩
            · have hf := n4 (by omega)
              have HF := Lib.hid hf
              clear n1 n3 n4 n5 hf g
              go_wp2
              go_round
              case rel => exact ⟨_, _, HF.out, rfl, rfl⟩
              case measure => simp [intOf]; omega
          · have hf := g.done HS2.out (by omega)
            have ht : decide (4294967296 * r + d0 < IntKind.u64.wrap (q * y0)) = false := by rw [pw]; simpa using hc
            have HF := Lib.hid hf
            clear pw pb hc hf g
            go_wp2
            go_meet
            exact ⟨by rw [HF.out], ⟨_, rfl⟩, rfl⟩
    case rest =>
      obtain ⟨rfl, ⟨t, rfl⟩, rfl⟩ := hcut
      go_wp2
      go_ret2
      exact ⟨by show Ending.returned (.tuple #[u (Q1 * 4294967296 + Q0), u (IntKind.u64.wrap (IntKind.u64.wrap (IntKind.u64.wrap (R1 * 4294967296) + d0) - IntKind.u64.wrap (Q0 * Y)) / 2 ^ s)]) = _; rw [HE1.out, HE2.out], rfl⟩

theorem div64_short (lo y : Int) (h2 : 0 ≤ lo) (h2' : lo < 18446744073709551616) (h3 : 0 < y) (h3' : y < 18446744073709551616) (w : World) :
    Calls Try.prog 46 #[u 0, u lo, u y] w fun e w' => e = .returned (.tuple #[u (lo / y), u (lo % y)]) ∧ w.drewN 1 = w' := by
  have e1 : (y == 0) = false := by simp; omega
  have e2 : ¬ y ≤ 0 := by omega
  have q1 : IntKind.u64.wrap (lo.tdiv y) = lo / y := by
    rw [Int.tdiv_eq_ediv_of_nonneg h2, IntKind.wrap_u64]
    have := Int.ediv_nonneg h2 (show 0 ≤ y by omega)
    have := Int.ediv_le_self y h2
    omega
  have q2 : lo.tmod y = lo % y := Int.tmod_eq_emod_of_nonneg h2
  go_enter Try.func46, Try.ntmps46
  go_wp2
  go_region
  all_goals (go_wp2; go_ret2; exact ⟨rfl, rfl⟩)

theorem wrap_mod (x : Int) : IntKind.u64.wrap x = x % 18446744073709551616 := by rw [IntKind.wrap_u64]
theorem mask32 (x : Int) (h0 : 0 ≤ x) (h1 : x < 18446744073709551616) : bits .and .u64 x 4294967295 = x % 4294967296 := by
  obtain ⟨x, rfl⟩ := Int.eq_ofNat_of_zero_le h0
  rw [Mul64.maskN x (by omega)]; omega

theorem div64_big (hi lo y : Int) (h1 : 0 < hi) (h1' : hi < 18446744073709551616) (h2 : 0 ≤ lo) (h2' : lo < 18446744073709551616) (h3 : hi < y) (h3' : y < 18446744073709551616) :
    ∀ w : World, Calls Try.prog 46 #[u hi, u lo, u y] w fun e w' => e = .returned (.tuple #[u ((hi * 18446744073709551616 + lo) / y), u ((hi * 18446744073709551616 + lo) % y)]) ∧ w = w' := by
  intro w
  obtain ⟨s, hs, hbl, Ylo, Yhi⟩ := lead y (by omega) h3'
  obtain ⟨hpp, hp1, hp2⟩ := pow_split s hs
  have lz : ∀ w, Calls Try.prog 48 #[u y] w fun e w' => e = .returned (.int .i64 (s : Int)) ∧ w = w' := fun w =>
    (Try.bits_LeadingZeros64 y w (by omega) (by omega)).mono fun e w' ⟨he, hw⟩ => ⟨by rw [he, hbl], hw.symm⟩
  generalize hp : (2 : Int) ^ s = p at *
  generalize hp' : (2 : Int) ^ (64 - s) = p' at *
  -- the parts of the lower word
  have hdm := Int.mul_ediv_add_emod lo p'
  have hm0 := Int.emod_nonneg lo (show p' ≠ 0 by omega)
  have hm1 := Int.emod_lt_of_pos lo (show 0 < p' by omega)
  have hd0 := Int.ediv_nonneg h2 (show 0 ≤ p' by omega)
  have hdp : lo / p' < p := by
    apply Int.ediv_lt_of_lt_mul (by omega)
    rw [Int.mul_comm]; omega
  generalize hla : lo / p' = la at *
  generalize hlb : lo % p' = lb at *
  have hlop : lo * p = la * 18446744073709551616 + lb * p := by
    rw [← hdm, Int.add_mul, ← hpp, Int.mul_comm p' la, Int.mul_assoc]
  have hlb0 : 0 ≤ lb * p := Int.mul_nonneg hm0 (by omega)
  have hlb1 : lb * p < 18446744073709551616 := by rw [← hpp]; exact Int.mul_lt_mul_of_pos_right hm1 (by omega)
  -- the divisor and the upper word, moved up
  have hhip : hi * p ≤ y * p - p := by
    have := Int.mul_le_mul_of_nonneg_right (show hi ≤ y - 1 by omega) (show 0 ≤ p by omega)
    rw [Int.sub_mul] at this; omega
  have hhi0 : 0 ≤ hi * p := Int.mul_nonneg (by omega) (by omega)
  have eY : IntKind.u64.wrap (y * p) = y * p := by rw [wrap_mod]; omega
  have eU : bits .or .u64 (IntKind.u64.wrap (hi * p)) la = hi * p + la := by
    have : IntKind.u64.wrap (hi * p) = hi * p := by rw [wrap_mod]; omega
    rw [this, ← hp]
    exact or_sum hi la s (by omega) hd0 (by rw [hp]; exact hdp) (by rw [hp]; omega)
  have eL : IntKind.u64.wrap (lo * p) = lb * p := by rw [wrap_mod, hlop]; omega
  have hN : (hi * 18446744073709551616 + lo) * p = (hi * p + la) * 18446744073709551616 + lb * p := by
    rw [Int.add_mul, hlop, Int.add_mul, Int.mul_right_comm]; omega
  generalize hYY : y * p = Y at *
  generalize hUU : hi * p + la = U at *
  generalize hLL : lb * p = L at *
  have hU0 : 0 ≤ U := by omega
  have hUY : U < Y := by omega
  have eY0 := mask32 Y (by omega) Yhi
  have eL0 := mask32 L hlb0 hlb1
  have hYs : Y / 4294967296 * 4294967296 + Y % 4294967296 = Y := by omega
  have hLs : L / 4294967296 * 4294967296 + L % 4294967296 = L := by omega
  have S1 := Step.mk' U (L / 4294967296) (Y / 4294967296) (Y % 4294967296) hU0 (by omega) (by omega) (by omega) (by omega) (by omega) (by omega) (by omega)
  have Q1b := S1.Qb
  have lo1 := S1.lo
  have hi1 := S1.hi
  obtain ⟨G1, G1a, G1b, G1c⟩ := Guess.first S1
  rw [hYs] at S1 lo1 hi1 G1 Q1b
  generalize hQ1 : (U * 4294967296 + L / 4294967296) / Y = Q1 at *
  generalize hT1 : Q1 * Y = T1 at *
  obtain ⟨R1, hR1⟩ : ∃ R1, R1 = U * 4294967296 + L / 4294967296 - T1 := ⟨_, rfl⟩
  have eR1 : IntKind.u64.wrap (IntKind.u64.wrap (IntKind.u64.wrap (U * 4294967296) + L / 4294967296) - IntKind.u64.wrap T1) = R1 := by
    simp only [wrap_mod]; omega
  have S2 := Step.mk' R1 (L % 4294967296) (Y / 4294967296) (Y % 4294967296) (by omega) (by omega) (by omega) (by omega) (by omega) (by omega) (by omega) (by omega)
  have Q0b := S2.Qb
  have lo2 := S2.lo
  have hi2 := S2.hi
  obtain ⟨G2, G2a, G2b, G2c⟩ := Guess.first S2
  rw [hYs] at S2 lo2 hi2 G2 Q0b
  generalize hQ0 : (R1 * 4294967296 + L % 4294967296) / Y = Q0 at *
  generalize hT0 : Q0 * Y = T0 at *
  have q1w : IntKind.u64.wrap (U.tdiv (Y / 4294967296)) = U / (Y / 4294967296) := by
    have := G1.le; have := G1.ge
    rw [Int.tdiv_eq_ediv_of_nonneg hU0, wrap_mod]; omega
  have r1w : IntKind.u64.wrap (U - IntKind.u64.wrap (U / (Y / 4294967296) * (Y / 4294967296))) = U - U / (Y / 4294967296) * (Y / 4294967296) := by
    simp only [wrap_mod]; omega
  have q2w : IntKind.u64.wrap (R1.tdiv (Y / 4294967296)) = R1 / (Y / 4294967296) := by
    have := G2.le; have := G2.ge
    rw [Int.tdiv_eq_ediv_of_nonneg (by omega), wrap_mod]; omega
  have r2w : IntKind.u64.wrap (R1 - IntKind.u64.wrap (R1 / (Y / 4294967296) * (Y / 4294967296))) = R1 - R1 / (Y / 4294967296) * (Y / 4294967296) := by
    simp only [wrap_mod]; omega
  have eR0 : IntKind.u64.wrap (IntKind.u64.wrap (IntKind.u64.wrap (R1 * 4294967296) + L % 4294967296) - IntKind.u64.wrap T0) = R1 * 4294967296 + L % 4294967296 - T0 := by
    simp only [wrap_mod]; omega
  -- the whole
  have hNY : (hi * 18446744073709551616 + lo) * p = (Q1 * 4294967296 + Q0) * Y + (R1 * 4294967296 + L % 4294967296 - T0) := by
    rw [hN, Int.add_mul, hT0, Int.mul_right_comm, hT1]; omega
  generalize hNN : hi * 18446744073709551616 + lo = N at *
  generalize hQQ : Q1 * 4294967296 + Q0 = QQ at *
  have hrem : R1 * 4294967296 + L % 4294967296 - T0 = (N - QQ * y) * p := by
    rw [Int.sub_mul, Int.mul_assoc, hYY]; omega
  have hdiv : (R1 * 4294967296 + L % 4294967296 - T0) / p = N - QQ * y := by
    rw [hrem]; exact Int.mul_ediv_cancel _ (by omega)
  have k0 : 0 ≤ N - QQ * y := by
    rw [← hdiv]; exact Int.ediv_nonneg (by omega) (by omega)
  have k1 : N - QQ * y < y := by
    rw [← hdiv]
    apply Int.ediv_lt_of_lt_mul (by omega)
    rw [hYY]; omega
  have fin := (Int.ediv_emod_unique (a := N) (b := y) (r := N - QQ * y) (q := QQ) (by omega)).2 ⟨by rw [Int.mul_comm y QQ]; omega, k0, k1⟩
  rw [fin.1, fin.2]
  subst hp hp'
  exact div64_long hi lo y s h1 h1' h2 h2' h3 h3' hs Y U L _ _ _ _ _ _ Q1 R1 _ _ Q0 (by rw [hYY]; exact eY) (by rw [hla]; exact eU) (by rw [eL]) rfl eY0 rfl eL0 S1 q1w r1w G1 (by rw [hT1]; exact eR1) S2 q2w r2w G2 QQ (N - QQ * y) hQQ (by rw [hT0, eR0]; exact hdiv) lz w

/-- math/bits.Div64 divides. -/
theorem div64_any (hi lo y : Int) (h1 : 0 ≤ hi) (h2 : 0 ≤ lo) (h2' : lo < 18446744073709551616) (h3 : hi < y) (h3' : y < 18446744073709551616) :
    Pure Try.prog 46 #[u hi, u lo, u y] (.tuple #[u ((hi * 18446744073709551616 + lo) / y), u ((hi * 18446744073709551616 + lo) % y)]) := by
  intro w
  by_cases h : hi = 0
  · subst h
    refine (div64_short lo y h2 h2' h3 h3' w).mono fun e w' ⟨he, hw⟩ => ⟨?_, ?_⟩
    · rw [he]; simp
    · subst hw; exact bdn (Below.refl _ _) _
  · refine (div64_big hi lo y (by omega) (by omega) h2 h2' h3 h3' w).mono fun e w' ⟨he, hw⟩ => ⟨he, ?_⟩
    subst hw; exact Below.refl _ _
end Go.Proofs.Ytojfkpmdnhkanaa

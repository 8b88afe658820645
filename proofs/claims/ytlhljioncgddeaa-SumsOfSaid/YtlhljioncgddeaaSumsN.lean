/- Contract of sums.Many where the first number of the second sums is not 0; and works of the statements of layer 6. -/
import Derived.Test.YtlhljioncgddeaaSumsO
import Derived.Test.YtlhljioncgddeaaSums4
import Derived.Laws.Cover2
namespace Go.Proofs.Ytlhljioncgddeaa
open Go.RowKit
attribute [local go_sem] ext_cell ext_frozen Mix.calmUpon Mix.mUpon
/-- When two sums are the same. -/
def e4 (a b : Nat → Int) : Bool := a 0 == b 0 && (a 1 == b 1 && (a 2 == b 2 && a 3 == b 3))
set_option maxRecDepth 100000 in
theorem eq4 (a0 a1 a2 a3 b0 b1 b2 b3 : Int) (w : World) : (Op.equalIn 10000 24 (.agg #[.int .i64 a0, .int .i64 a1, .int .i64 a2, .int .i64 a3]) (.agg #[.int .i64 b0, .int .i64 b1, .int .i64 b2, .int .i64 b3])).run Try.prog w = .ok (a0 == b0 && (a1 == b1 && (a2 == b2 && a3 == b3))) w := by
  have u3 := Try.underlying2
  have a3' := Try.isAgg2
  have z3 := Try.sizeOf2
  rw [show (10000 : Nat) = 9999 + 1 from rfl, Op.equalIn]
  simp only [Sem.run_bind, run_underlying Try.underlying24, Result.andThen_ok]
  simp only [Std.Legacy.Range.forIn_eq_forIn_range', Std.Legacy.Range.size, Nat.sub_zero, Nat.add_sub_cancel, Nat.div_one, List.range'_succ, List.range'_zero, List.forIn_cons, List.forIn_nil]
  go_simp
  by_cases h1 : a0 = b0 <;> by_cases h2 : a1 = b1 <;> by_cases h3 : a2 = b2 <;> by_cases h4 : a3 = b3 <;> simp [h1, h2, h3, h4]
attribute [local go_sem] eq4
/-- How many times, told by the first n kinds. -/
def mn (a b : Nat → Int) : Nat → Int
  | 0 => 1152921504606846976
  | n + 1 => if 0 < b n then min (mn a b n) (a n / b n) else mn a b n
theorem mn_bd {a b : Nat → Int} (ha : SOk a) : ∀ n, n ≤ 4 → 0 ≤ mn a b n ∧ mn a b n ≤ 1152921504606846976
  | 0, _ => by simp [mn]
  | n + 1, hn => by
    have h1 := mn_bd (b := b) ha n (by omega)
    have h2 := (sok_at ha n (by omega)).1
    unfold mn
    split
    · rename_i h3
      have := Int.ediv_nonneg h2 (show 0 ≤ b n by omega)
      omega
    · exact h1
set_option maxRecDepth 100000 in
set_option maxHeartbeats 4000000 in
theorem many_yes (a b : Nat → Int) (ha : SOk a) (hb : SOk b) (h0 : e4 b (fun _ => 0) = false) : Pure Try.prog 13 #[S4 a, S4 b] (.int .i64 (mn a b 4)) := by
  intro W
  have HA := sumsright a
  rw [decide_eq_true ha] at HA
  have HA := Lib.hid HA
  have HB := sumsright b
  rw [decide_eq_true hb] at HB
  have HB := Lib.hid HB
  have HSA := Lib.hid ha; have HSB := Lib.hid hb
  have e0 : (b 0 == 0 && (b 1 == 0 && (b 2 == 0 && b 3 == 0))) = false := h0
  clear ha hb h0
  go_enter Try.func13, Try.ntmps13
  go_wp2_with fail
  (with_reducible refine (HA.out _).mono ?_)
  rintro e w1 ⟨rfl, hb1⟩
  have hs1 : W.heap.size + 2 ≤ w1.heap.size := (by have h := hb1.size; first | omega | (simp at h; omega))
  have hz1_0 : W.heap.size < w1.heap.size := (by omega)
  have hz1_1 : W.heap.size + 1 < w1.heap.size := (by omega)
  obtain ⟨hc1, hf1, hl1⟩ := bcell hb1
  clear hl1
  go_wp2_with fail
  refine (HB.out _).mono ?_
  rintro e w2 ⟨rfl, hb2⟩
  have hbx := bt hb1 hb2
  have hcs : W.heap.size + 2 ≤ w2.heap.size := by have h := hb1.size; have h' := hb2.size; simp at h; omega
  have s1 := size_all W (.cells (C4 a) 24)
  have hca : ∀ k, k < 4 → w2.cell? ⟨W.heap.size, k, none⟩ = some (.int .i64 (a k)) := fun k hk => by
    rw [hbx.cell (p := ⟨W.heap.size, k, none⟩) (by first | omega | (simp; done) | (simp; omega)), World.cell?_alloc_past _ _ _ (by first | omega | (simp; done) | (simp; omega))]
    exact c4_cell W a _ k hk
  have hcb : ∀ k, k < 4 → w2.cell? ⟨W.heap.size + 1, k, none⟩ = some (.int .i64 (b k)) := fun k hk => by
    rw [hbx.cell (p := ⟨W.heap.size + 1, k, none⟩) (by first | omega | (simp; done) | (simp; omega))]
    exact (World.cell?_alloc_at _ _ _ _ (by simp)).trans (c4_get b k hk)
  have HCA := Lib.hid hca; have HCB := Lib.hid hcb; have HBW := Lib.hid (show Below W.heap.size W w2 from bt (ba (ba (Below.refl _ _) _) _) hbx)
  have d0 := hcb 0 (by omega); have d1 := hcb 1 (by omega); have d2 := hcb 2 (by omega); have d3 := hcb 3 (by omega)
  clear hca hcb hbx hb1 hb2 s1
  go_wp2
  go_loopw [5, 20] (fun m i wr => ∃ t : Nat, t ≤ 4 ∧ i = .int .i64 t ∧ m = .int .i64 (mn a b t) ∧ Below w2.heap.size w2 wr) (fun _ i _ => 4 - (intOf i).toNat)
  case atStart => exact ⟨0, Nat.zero_le _, rfl, rfl, Below.refl _ _⟩
  case round =>
    obtain ⟨t, ht, rfl, rfl, hb3⟩ := hrel
    have hs3 := hb3.size
    have z0 : W.heap.size < wr.heap.size := by omega
    have z1 : W.heap.size + 1 < wr.heap.size := by omega
    by_cases hlt : t < 4
    · have hts : (t : Int) < 4 := by omega
      have c0 := (hb3.cell (p := ⟨W.heap.size, t, none⟩) (by show W.heap.size < _; omega)).trans (HCA.out t hlt)
      have c1 := (hb3.cell (p := ⟨W.heap.size + 1, t, none⟩) (by show W.heap.size + 1 < _; omega)).trans (HCB.out t hlt)
      have ab := sok_at HSA.out t hlt
      have bb := sok_at HSB.out t hlt
      have mb := mn_bd (b := b) HSA.out t ht
      by_cases hp : 0 < b t
      · have HS := Lib.hid (show mn a b (t + 1) = min (mn a b t) (a t / b t) by rw [mn, if_pos hp])
        have hz : b t ≠ 0 := by omega
        have hz2 : (b t == 0) = false := by simpa using hz
        have hq := Int.tdiv_eq_ediv_of_nonneg (b := b t) ab.1
        have q0 := Int.ediv_nonneg ab.1 (show 0 ≤ b t by omega)
        have q1 : a t / b t ≤ 1152921504606846976 := Int.le_trans (Int.ediv_le_self _ ab.1) ab.2
        have wq : IntKind.i64.wrap (a t / b t) = a t / b t := IntWalk.i64_in _ (by omega)
        generalize hQ : a t / b t = Q at *
        generalize hM : mn a b t = M at *
        clear hQ hM ab mb
        go_wp2
        go_region
        go_wp2
        go_roundw
        case rel => exact ⟨t + 1, by omega, by go_num, by rw [HS.out], bd hb3⟩
        case measure => simp [intOf]; omega
      · have HS := Lib.hid (show mn a b (t + 1) = mn a b t by rw [mn, if_neg hp])
        have hz : b t = 0 := by have := bb.1; omega
        rw [hz] at c1
        go_wp2
        go_roundw
        case rel => exact ⟨t + 1, by omega, by go_num, by rw [HS.out], hb3⟩
        case measure => simp [intOf]; omega
    · obtain rfl : t = 4 := by omega
      go_wp2
      go_ret
      exact ⟨rfl, bt HBW.out hb3⟩
/-- What Dominant finds: the kind, and the part. -/
def domV (a t : Nat → Int) : Int × Int × Int := if SOk a ∧ SOk t then dom a t 4 else (-1, 0, 1)
theorem dominant_any (a t : Nat → Int) : Pure Try.prog 12 #[S4 a, S4 t] (.tuple #[.int .i64 (domV a t).1, F2 (domV a t).2.1 (domV a t).2.2]) := by
  unfold domV
  by_cases ha : SOk a
  · by_cases ht : SOk t
    · rw [if_pos ⟨ha, ht⟩]; exact dominant_yes a t ha ht
    · rw [if_neg (fun h => ht h.2)]; exact dominant_no2 a t ha ht
  · rw [if_neg (fun h => ha h.1)]; exact dominant_no1 a t ha
def wa : Nat → Int | 0 => 2 | 1 => 6 | _ => 0
def wt : Nat → Int | 0 => 9 | 1 => 18 | _ => 0
def wk : Nat → Int | _ => 0
def wro : Nat → Int | 0 => 0 | _ => 2
def wam : Nat → Int | 0 => 1 | _ => 3
def wma : Nat → Int | 0 => 7 | 1 => 9 | _ => 0
def wmb : Nat → Int | 0 => 2 | 1 => 3 | _ => 0
theorem w_dom : Pure Try.prog 12 #[.agg #[.int .i64 2, .int .i64 6, .int .i64 0, .int .i64 0], .agg #[.int .i64 9, .int .i64 18, .int .i64 0, .int .i64 0]] (.tuple #[.int .i64 1, F2 6 18]) := by
  have h := dominant_any wa wt
  rw [show domV wa wt = (1, 6, 18) by decide] at h
  exact h
theorem w_many : Pure Try.prog 13 #[.agg #[.int .i64 7, .int .i64 9, .int .i64 0, .int .i64 0], .agg #[.int .i64 2, .int .i64 3, .int .i64 0, .int .i64 0]] (.int .i64 3) := by
  have h := many_yes wma wmb (by decide) (by decide) (by decide)
  rw [show mn wma wmb 4 = 3 by decide] at h
  exact h
theorem w_vok : VOk wk wro wam 2 := fun i hi => by
  have : i = 0 ∨ i = 1 := by omega
  rcases this with rfl | rfl
  · exact ⟨⟨⟨by decide, by decide, by decide, by decide⟩, by decide, by decide⟩, fun h => absurd h (by decide)⟩
  · exact ⟨⟨⟨by decide, by decide, by decide, by decide⟩, by decide, by decide⟩, fun _ => by decide⟩
theorem w_of (b cap : Nat) (X : World) (hb : b < X.heap.size) (hF : Parts X b 0 2 wk wro wam) : Calls Try.prog 4 #[.slice (some ⟨b, 0, none⟩) 2 cap] X fun e w' => e = .returned (.agg #[.int .i64 4, .int .i64 0, .int .i64 0, .int .i64 0]) ∧ Below X.heap.size X w' :=
  sumsof_yes b 0 2 cap wk wro wam X hb (by decide) hF w_vok
theorem w_parts (X : World) (T : TypeId) : Parts (X.alloc (.cells #[.int .i64 0, .int .i64 0, .int .i64 1, .int .i64 0, .int .i64 2, .int .i64 3] T)) X.heap.size 0 2 wk wro wam := fun i hi => by
  have : i = 0 ∨ i = 1 := by omega
  rcases this with rfl | rfl
  · exact ⟨by rw [World.cell?_alloc_new]; rfl, by rw [World.cell?_alloc_new]; rfl, by rw [World.cell?_alloc_new]; rfl⟩
  · exact ⟨by rw [World.cell?_alloc_new]; rfl, by rw [World.cell?_alloc_new]; rfl, by rw [World.cell?_alloc_new]; rfl⟩
end Go.Proofs.Ytlhljioncgddeaa

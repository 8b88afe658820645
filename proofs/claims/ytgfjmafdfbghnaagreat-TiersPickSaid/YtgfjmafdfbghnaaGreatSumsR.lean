/- mancipleref06.Add. -/
import Derived.Test.YtgfjmafdfbghnaaGreatSgJ
namespace Go.Proofs.YtgfjmafdfbghnaaGreat
open Go.RowKit Go.Maps
attribute [local go_sem] ext_cell ext_frozen Mix.calmUpon Mix.mUpon
set_option maxRecDepth 100000 in
set_option maxHeartbeats 4000000 in
theorem refadd_both (a b : Nat → Int) (q : Bool) (ha : SOk a) (hb : SOk b) (hq : decide (SOk fun k => a k + b k) = q) : Pure Tryz.prog 25 #[S4 a, S4 b] (.tuple #[if q then S4 (fun k => a k + b k) else S4 Z4, .bool q]) := by
  intro W
  have HA := refright6 a
  rw [decide_eq_true ha] at HA
  have HA := Lib.hid HA
  have HB := refright6 b
  rw [decide_eq_true hb] at HB
  have HB := Lib.hid HB
  have HS := refright6 (fun k => a k + b k)
  rw [hq] at HS
  have HS := Lib.hid HS
  have HSA := Lib.hid ha; have HSB := Lib.hid hb
  clear ha hb hq
  go_enter Tryz.func25, Tryz.ntmps25
  go_wp2_with fail
  (with_reducible refine (HA.out _).mono ?_)
  rintro e w1 ⟨rfl, hb1⟩
  have hs1 : W.heap.size + 4 ≤ w1.heap.size := (by have h := hb1.size; first | omega | (simp at h; omega))
  have hz1_0 : W.heap.size < w1.heap.size := (by omega)
  have hz1_1 : W.heap.size + 1 < w1.heap.size := (by omega)
  have hz1_2 : W.heap.size + 2 < w1.heap.size := (by omega)
  have hx1_2 : W.heap.size + 1 + 1 < w1.heap.size := (by omega)
  have hz1_3 : W.heap.size + 3 < w1.heap.size := (by omega)
  have hx1_3 : W.heap.size + 1 + 1 + 1 < w1.heap.size := (by omega)
  obtain ⟨hc1, hf1, hl1⟩ := bcell hb1
  clear hl1
  go_wp2_with fail
  refine (HB.out _).mono ?_
  rintro e w2 ⟨rfl, hb2⟩
  have HD := Lib.hid (A4.four (a := a) (b := b) (c := Z4) (d := Z4) (bt hb1 hb2))
  clear hb1 hb2
  go_wp2
  go_loopw [7] (fun i wr => ∃ t : Nat, t ≤ 4 ∧ i = .int .i64 t ∧ Hid (A4 W wr 4 (X4 a b Z4 (upto Z4 (fun k => a k + b k) t)))) (fun i _ => 4 - (intOf i).toNat)
  case atStart => exact ⟨0, Nat.zero_le _, rfl, HD⟩
  case round =>
    clear HD
    obtain ⟨t, ht, rfl, HD⟩ := hrel
    have hs3 := HD.out.size
    have z0 : W.heap.size < wr.heap.size := by omega
    have z1 : W.heap.size + 1 < wr.heap.size := by omega
    have z2 : W.heap.size + 1 + 1 < wr.heap.size := by omega
    have z3 : W.heap.size + 1 + 1 + 1 < wr.heap.size := by omega
    by_cases hlt : t < 4
    · have hts : (t : Int) < 4 := by omega
      have c0 : wr.cell? ⟨W.heap.size, t, none⟩ = some (.int .i64 (a t)) := (HD.out.c 0 (by omega) t hlt).trans (by simp [X4])
      have c1 : wr.cell? ⟨W.heap.size + 1, t, none⟩ = some (.int .i64 (b t)) := (HD.out.c 1 (by omega) t hlt).trans (by simp [X4])
      have e0 : wr.cell? ⟨W.heap.size + 1 + 1 + 1, t, none⟩ = some (.int .i64 0) := (HD.out.c 3 (by omega) t hlt).trans (by simp [X4, upto])
      have f0 : wr.frozen? ⟨W.heap.size + 1 + 1 + 1, t, none⟩ = false := HD.out.f 3 (by omega) t
      have ab := sok_at HSA.out t hlt
      have bb := sok_at HSB.out t hlt
      have wq : IntKind.i64.wrap (a t + b t) = a t + b t := by obtain ⟨_, _⟩ := ab; obtain ⟨_, _⟩ := bb; exact IntWalk.i64_in _ (by omega)
      clear ab bb
      go_wp2
      go_region
      go_wp2
      go_roundw
      case rel =>
        refine ⟨t + 1, by omega, by go_num, Lib.hid (A4.congr ?_ fun i hi j _ => X4.next (y := fun k => a k + b k) i j hi)⟩
        first
          | exact (HD.out.set 3 t (by omega) hlt _).drew
          | exact (HD.out.set 3 t (by omega) hlt _)
          | exact (HD.out.drew.set 3 t (by omega) hlt _)
      case measure => simp [intOf]; omega
    · obtain rfl : t = 4 := by omega
      have g0 := HD.out.c 3 (by omega); have g2 := HD.out.c 2 (by omega); have h2 := HD.out.f 2 (by omega)
      have c0 : wr.cell? ⟨W.heap.size + 1 + 1 + 1, 0, none⟩ = some (.int .i64 (a 0 + b 0)) := g0 0 (by omega)
      have c1 : wr.cell? ⟨W.heap.size + 1 + 1 + 1, 1, none⟩ = some (.int .i64 (a 1 + b 1)) := g0 1 (by omega)
      have c2 : wr.cell? ⟨W.heap.size + 1 + 1 + 1, 2, none⟩ = some (.int .i64 (a 2 + b 2)) := g0 2 (by omega)
      have c3 : wr.cell? ⟨W.heap.size + 1 + 1 + 1, 3, none⟩ = some (.int .i64 (a 3 + b 3)) := g0 3 (by omega)
      clear g0 g2 h2
      go_wp2_with fail
      refine (HS.out _).mono ?_
      rintro e w4 ⟨rfl, hb4⟩
      have HE := Lib.hid (HD.out.grow hb4)
      have hz := hb4.size
      clear c0 c1 c2 c3 HD hb4
      have g0 := HE.out.c 3 (by omega); have g2 := HE.out.c 2 (by omega); have h2 := HE.out.f 2 (by omega)
      have c0 : w4.cell? ⟨W.heap.size + 1 + 1 + 1, 0, none⟩ = some (.int .i64 (a 0 + b 0)) := g0 0 (by omega)
      have c1 : w4.cell? ⟨W.heap.size + 1 + 1 + 1, 1, none⟩ = some (.int .i64 (a 1 + b 1)) := g0 1 (by omega)
      have c2 : w4.cell? ⟨W.heap.size + 1 + 1 + 1, 2, none⟩ = some (.int .i64 (a 2 + b 2)) := g0 2 (by omega)
      have c3 : w4.cell? ⟨W.heap.size + 1 + 1 + 1, 3, none⟩ = some (.int .i64 (a 3 + b 3)) := g0 3 (by omega)
      have r0 : w4.cell? ⟨W.heap.size + 1 + 1, 0, none⟩ = some (.int .i64 0) := g2 0 (by omega)
      have r1 : w4.cell? ⟨W.heap.size + 1 + 1, 1, none⟩ = some (.int .i64 0) := g2 1 (by omega)
      have r2 : w4.cell? ⟨W.heap.size + 1 + 1, 2, none⟩ = some (.int .i64 0) := g2 2 (by omega)
      have r3 : w4.cell? ⟨W.heap.size + 1 + 1, 3, none⟩ = some (.int .i64 0) := g2 3 (by omega)
      have f0 : w4.frozen? ⟨W.heap.size + 1 + 1, 0, none⟩ = false := h2 0
      have f1 : w4.frozen? ⟨W.heap.size + 1 + 1, 1, none⟩ = false := h2 1
      have f2 : w4.frozen? ⟨W.heap.size + 1 + 1, 2, none⟩ = false := h2 2
      have f3 : w4.frozen? ⟨W.heap.size + 1 + 1, 3, none⟩ = false := h2 3
      clear g0 g2 h2
      have hbl := Lib.hid HE.out.bel
      cases q with
      | true =>
        go_wp2
        refine bodyPost_ret (v := .tuple #[S4 (fun k => a k + b k), .bool true]) (by simp [results, Tryz.results25, go_sem, *]) rfl ⟨rfl, ?_⟩
        exact bs (bs (bs (bs hbl.out (by simp; omega) _) (by simp; omega) _) (by simp; omega) _) (by simp; omega) _
      | false =>
        go_wp2
        refine bodyPost_ret (v := .tuple #[S4 Z4, .bool false]) (by simp [results, Tryz.results25, go_sem, *]) rfl ⟨rfl, ?_⟩
        exact bs (bs (bs (bs hbl.out (by simp; omega) _) (by simp; omega) _) (by simp; omega) _) (by simp; omega) _
theorem refadd_no2 (a b : Nat → Int) (ha : SOk a) (hb : ¬ SOk b) : Pure Tryz.prog 25 #[S4 a, S4 b] (.tuple #[S4 Z4, .bool false]) := by
  intro W
  have HA := refright6 a
  rw [decide_eq_true ha] at HA
  have HA := Lib.hid HA
  have HB := refright6 b
  rw [decide_eq_false hb] at HB
  have HB := Lib.hid HB
  clear ha hb
  go_enter Tryz.func25, Tryz.ntmps25
  go_wp2_with fail
  (with_reducible refine (HA.out _).mono ?_)
  rintro e w1 ⟨rfl, hb1⟩
  have hs1 : W.heap.size + 4 ≤ w1.heap.size := (by have h := hb1.size; first | omega | (simp at h; omega))
  have hz1_0 : W.heap.size < w1.heap.size := (by omega)
  have hz1_1 : W.heap.size + 1 < w1.heap.size := (by omega)
  have hz1_2 : W.heap.size + 2 < w1.heap.size := (by omega)
  have hx1_2 : W.heap.size + 1 + 1 < w1.heap.size := (by omega)
  have hz1_3 : W.heap.size + 3 < w1.heap.size := (by omega)
  have hx1_3 : W.heap.size + 1 + 1 + 1 < w1.heap.size := (by omega)
  obtain ⟨hc1, hf1, hl1⟩ := bcell hb1
  clear hl1
  go_wp2_with fail
  (with_reducible refine (HB.out _).mono ?_)
  rintro e w2 ⟨rfl, hb2⟩
  have hs2 : w1.heap.size + 0 ≤ w2.heap.size := (by have h := hb2.size; first | omega | (simp at h; omega))
  have hb1_2 := bel hb1 hb2 (by (repeat (first | assumption | exact Below.refl _ _ | refine ba ?_ _ | refine bd ?_ | refine bdn ?_ _ | refine bs ?_ (by first | omega | (simp; done) | (simp; omega)) _ | refine bt ?_ (by assumption))))
  clear hz1_0 hz1_1 hz1_2 hx1_2 hz1_3 hx1_3 hc1 hf1
  obtain ⟨hc1_2, hf1_2, hl1_2⟩ := bcell hb1_2
  clear hl1_2
  have hz2_0 : W.heap.size < w2.heap.size := (by omega)
  have hz2_1 : W.heap.size + 1 < w2.heap.size := (by omega)
  have hz2_2 : W.heap.size + 2 < w2.heap.size := (by omega)
  have hx2_2 : W.heap.size + 1 + 1 < w2.heap.size := (by omega)
  have hz2_3 : W.heap.size + 3 < w2.heap.size := (by omega)
  have hx2_3 : W.heap.size + 1 + 1 + 1 < w2.heap.size := (by omega)
  obtain ⟨hc2, hf2, hl2⟩ := bcell hb2
  clear hl2
  go_wp2
  refine bodyPost_ret (v := .tuple #[S4 Z4, .bool false]) (by simp [results, Tryz.results25, go_sem, *]) rfl ⟨rfl, ?_⟩
  (repeat (first | assumption | exact Below.refl _ _ | refine ba ?_ _ | refine bd ?_ | refine bdn ?_ _ | refine bs ?_ (by first | omega | (simp; done) | (simp; omega)) _ | refine bt ?_ (by assumption)))
end Go.Proofs.YtgfjmafdfbghnaaGreat

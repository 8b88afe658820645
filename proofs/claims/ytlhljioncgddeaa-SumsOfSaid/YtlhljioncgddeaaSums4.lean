/- Contract of sums.Dominant, both sums valid. -/
import Derived.Test.YtlhljioncgddeaaSums3
namespace Go.Proofs.Ytlhljioncgddeaa
open Go.RowKit
attribute [local go_sem] ext_cell ext_frozen Mix.calmUpon Mix.mUpon
set_option maxRecDepth 100000 in
set_option maxHeartbeats 8000000 in
theorem dominant_yes (a t : Nat → Int) (ha : SOk a) (ht : SOk t) : Pure Try.prog 12 #[S4 a, S4 t] (.tuple #[.int .i64 (dom a t 4).1, F2 (dom a t 4).2.1 (dom a t 4).2.2]) := by
  intro w
  have HA := sumsright a
  rw [decide_eq_true ha] at HA
  have HA := Lib.hid HA
  have HT := sumsright t
  rw [decide_eq_true ht] at HT
  have HT := Lib.hid HT
  have HSA := Lib.hid ha; have HST := Lib.hid ht
  clear ha ht
  go_enter Try.func12, Try.ntmps12
  go_wp2_with fail
  (with_reducible refine (HA.out _).mono ?_)
  rintro e w1 ⟨rfl, hb1⟩
  have hs1 : w.heap.size + 4 ≤ w1.heap.size := (by have h := hb1.size; first | omega | (simp at h; omega))
  have hz1_0 : w.heap.size < w1.heap.size := (by omega)
  have hz1_1 : w.heap.size + 1 < w1.heap.size := (by omega)
  have hz1_2 : w.heap.size + 2 < w1.heap.size := (by omega)
  have hx1_2 : w.heap.size + 1 + 1 < w1.heap.size := (by omega)
  have hz1_3 : w.heap.size + 3 < w1.heap.size := (by omega)
  have hx1_3 : w.heap.size + 1 + 1 + 1 < w1.heap.size := (by omega)
  obtain ⟨hc1, hf1, hl1⟩ := bcell hb1
  clear hl1
  go_wp2_with fail
  (with_reducible refine (HT.out _).mono ?_)
  rintro e w2 ⟨rfl, hb2⟩
  have hs2 : w1.heap.size + 0 ≤ w2.heap.size := (by have h := hb2.size; first | omega | (simp at h; omega))
  have hb1_2 := bel hb1 hb2 (by (repeat (first | assumption | exact Below.refl _ _ | refine ba ?_ _ | refine bd ?_ | refine bdn ?_ _ | refine bs ?_ (by first | omega | (simp; done) | (simp; omega)) _ | refine bt ?_ (by assumption))))
  clear hz1_0 hz1_1 hz1_2 hx1_2 hz1_3 hx1_3 hc1 hf1
  obtain ⟨hc1_2, hf1_2, hl1_2⟩ := bcell hb1_2
  clear hl1_2
  have hz2_0 : w.heap.size < w2.heap.size := (by omega)
  have hz2_1 : w.heap.size + 1 < w2.heap.size := (by omega)
  have hz2_2 : w.heap.size + 2 < w2.heap.size := (by omega)
  have hx2_2 : w.heap.size + 1 + 1 < w2.heap.size := (by omega)
  have hz2_3 : w.heap.size + 3 < w2.heap.size := (by omega)
  have hx2_3 : w.heap.size + 1 + 1 + 1 < w2.heap.size := (by omega)
  obtain ⟨hc2, hf2, hl2⟩ := bcell hb2
  clear hl2
  have hD := DR.start hb1_2
  have HD := Lib.hid hD
  clear hD
  go_wp2_with fail
  go_loopw [6, 21] (fun b i wr => ∃ k : Nat, k ≤ 4 ∧ i = .int .i64 k ∧ b = .int .i64 (dom a t k).1 ∧ Hid (DR w wr a t (dom a t k).2.1 (dom a t k).2.2)) (fun _ i _ => 4 - (intOf i).toNat)
  case atStart => exact ⟨0, by omega, rfl, rfl, HD⟩
  case round =>
    clear HD hb1_2 hb2
    obtain ⟨k, hk, rfl, rfl, HD⟩ := hrel
    have bb := dom_bd a t k
    rcases hB : dom a t k with ⟨B, gn, gd⟩
    rw [hB] at HD bb
    simp only at HD bb
    obtain ⟨bb1, bb2⟩ := bb
    have r0 := HD.out.r0; have r1 := HD.out.r1; have e0 := HD.out.g0; have e1 := HD.out.g1
    have f0 := HD.out.fr 0; have f1 := HD.out.fr 1; have f2 := HD.out.fg 0; have f3 := HD.out.fg 1
    have hs := HD.out.size
    have z0 : w.heap.size < wr.heap.size := by omega
    have z1 : w.heap.size + 1 < wr.heap.size := by omega
    have z2 : w.heap.size + 1 + 1 < wr.heap.size := by omega
    have z3 : w.heap.size + 1 + 1 + 1 < wr.heap.size := by omega
    by_cases hlt : k < 4
    · have hks : (k : Int) < 4 := by omega
      have ck := HD.out.ca k hlt
      have dk := HD.out.ct k hlt
      obtain ⟨t0, t1⟩ := sok_at HST.out k hlt
      obtain ⟨a0, a1⟩ := sok_at HSA.out k hlt
      have hi := dom_i64 HSA.out HST.out k hk
      rw [hB] at hi
      simp only at hi
      by_cases h0 : t k = 0
      · have hz : (t k == 0) = true := by simpa using h0
        have HS := Lib.hid (dom_skip (a := a) (t := t) (k := k) (by rw [hB]; rintro ⟨h, _⟩; omega))
        rw [hB] at HS
        clear hB
        go_wp2
        go_region
        go_wp2
        go_roundw
        case rel => exact ⟨k + 1, by omega, by go_num, by rw [HS.out], by rw [HS.out]; exact Lib.hid (HD.out.grow (bd (ba (Below.refl _ _) _)))⟩
        case measure => simp [intOf]; omega
      · have hz : (t k == 0) = false := by simpa using h0
        by_cases hb : B < 0
        · skip
          have HS := Lib.hid (dom_take (a := a) (t := t) (k := k) (by omega) (by rw [hB]; exact .inl hb))
          clear hB
          go_wp2
          go_region
          go_wp2
          go_region
          go_wp2
          go_roundw
          case rel => exact ⟨k + 1, by omega, by go_num, by rw [HS.out], by rw [HS.out]; exact Lib.hid (by first | exact ((HD.out.set _ _).grow (ba (Below.refl _ _) _)).drew.drew | exact ((HD.out.set _ _).grow (ba (Below.refl _ _) _)).drew | exact ((HD.out.grow (bd (ba (Below.refl _ _) _))).set _ _).drew | exact ((HD.out.grow (bd (ba (Below.refl _ _) _))).set _ _).drew.drew | exact ((HD.out.grow (ba (Below.refl _ _) _)).set _ _).drew.drew | exact ((HD.out.grow (ba (Below.refl _ _) _)).set _ _).drew | exact (HD.out.grow (bd (ba (Below.refl _ _) _))).set _ _)⟩
          case measure => simp [intOf]; omega
        · have hb0 : 0 ≤ B := by omega
          by_cases hg : a k = gn
          · subst hg
            by_cases hd : t k = gd
            · subst hd
              have HS := Lib.hid (dom_skip (a := a) (t := t) (k := k) (by rw [hB]; rintro ⟨_, h | h⟩ <;> first | (simp only at h; omega) | (rw [rcA_self] at h; omega)))
              rw [hB] at HS
              clear hB
              go_wp2
              go_region
              go_wp2
              go_roundw
              case rel => exact ⟨k + 1, by omega, by go_num, by rw [HS.out], by rw [HS.out]; exact Lib.hid (HD.out.grow (bd (ba (Below.refl _ _) _)))⟩
              case measure => simp [intOf]; omega
            · have hx : (t k == gd) = false := by simpa using hd
              clear hd
              by_cases hc : 0 < rcA (a k) (t k) (a k) gd
              · skip
                have HS := Lib.hid (dom_take (a := a) (t := t) (k := k) (by omega) (by rw [hB]; exact .inr hc))
                have HC := Lib.hid (rc_any (a k) (t k) (a k) gd ⟨by omega, by omega⟩ ⟨by omega, by omega⟩ hi.1 hi.2)
                generalize rcA (a k) (t k) (a k) gd = q at *
                clear hB
                go_wp2
                go_region
                go_wp2_with fail
                refine (HC.out _).mono ?_
                rintro e w3 ⟨rfl, hb3⟩
                have HD3 := HD.out.grow (bt (bd (ba (Below.refl _ _) _)) hb3)
                obtain ⟨hc3, hf3, hl3⟩ := bcell hb3
                clear hl3
                have q0 := HD3.g0; have q1 := HD3.g1; have p2 := HD3.fg 0; have p3 := HD3.fg 1
                have hs3 := HD3.size
                have y3 : w.heap.size + 1 + 1 + 1 < w3.heap.size := by omega
                have HD4 := Lib.hid HD3
                clear HD3 hb3
                go_wp2
                go_region
                go_wp2
                go_roundw
                case rel => exact ⟨k + 1, by omega, by go_num, by rw [HS.out], by rw [HS.out]; exact Lib.hid (by first | exact ((HD.out.set _ _).grow (ba (Below.refl _ _) _)).drew.drew | exact ((HD.out.set _ _).grow (ba (Below.refl _ _) _)).drew | exact ((HD4.out).set _ _).drew | exact ((HD4.out).set _ _).drew.drew | exact ((HD.out.grow (ba (Below.refl _ _) _)).set _ _).drew.drew | exact ((HD.out.grow (ba (Below.refl _ _) _)).set _ _).drew | exact (HD4.out).set _ _)⟩
                case measure => simp [intOf]; omega
              · skip
                have HS := Lib.hid (dom_skip (a := a) (t := t) (k := k) (by rw [hB]; rintro ⟨_, h | h⟩ <;> simp only at h <;> omega))
                have HC := Lib.hid (rc_any (a k) (t k) (a k) gd ⟨by omega, by omega⟩ ⟨by omega, by omega⟩ hi.1 hi.2)
                generalize rcA (a k) (t k) (a k) gd = q at *
                rw [hB] at HS
                clear hB
                go_wp2
                go_region
                go_wp2_with fail
                refine (HC.out _).mono ?_
                rintro e w3 ⟨rfl, hb3⟩
                have HD3 := Lib.hid (HD.out.grow (bt (bd (ba (Below.refl _ _) _)) hb3))
                clear hb3
                go_wp2
                go_roundw
                case rel => exact ⟨k + 1, by omega, by go_num, by rw [HS.out], by rw [HS.out]; exact HD3⟩
                case measure => simp [intOf]; omega
          · have hx : (a k == gn) = false := by simpa using hg
            clear hg
            by_cases hc : 0 < rcA (a k) (t k) gn gd
            · skip
              have HS := Lib.hid (dom_take (a := a) (t := t) (k := k) (by omega) (by rw [hB]; exact .inr hc))
              have HC := Lib.hid (rc_any (a k) (t k) gn gd ⟨by omega, by omega⟩ ⟨by omega, by omega⟩ hi.1 hi.2)
              generalize rcA (a k) (t k) gn gd = q at *
              clear hB
              go_wp2
              go_region
              go_wp2_with fail
              refine (HC.out _).mono ?_
              rintro e w3 ⟨rfl, hb3⟩
              have HD3 := HD.out.grow (bt (bd (ba (Below.refl _ _) _)) hb3)
              obtain ⟨hc3, hf3, hl3⟩ := bcell hb3
              clear hl3
              have q0 := HD3.g0; have q1 := HD3.g1; have p2 := HD3.fg 0; have p3 := HD3.fg 1
              have hs3 := HD3.size
              have y3 : w.heap.size + 1 + 1 + 1 < w3.heap.size := by omega
              have HD4 := Lib.hid HD3
              clear HD3 hb3
              go_wp2
              go_region
              go_wp2
              go_roundw
              case rel => exact ⟨k + 1, by omega, by go_num, by rw [HS.out], by rw [HS.out]; exact Lib.hid (by first | exact ((HD.out.set _ _).grow (ba (Below.refl _ _) _)).drew.drew | exact ((HD.out.set _ _).grow (ba (Below.refl _ _) _)).drew | exact ((HD4.out).set _ _).drew | exact ((HD4.out).set _ _).drew.drew | exact ((HD.out.grow (ba (Below.refl _ _) _)).set _ _).drew.drew | exact ((HD.out.grow (ba (Below.refl _ _) _)).set _ _).drew | exact (HD4.out).set _ _)⟩
              case measure => simp [intOf]; omega
            · skip
              have HS := Lib.hid (dom_skip (a := a) (t := t) (k := k) (by rw [hB]; rintro ⟨_, h | h⟩ <;> simp only at h <;> omega))
              have HC := Lib.hid (rc_any (a k) (t k) gn gd ⟨by omega, by omega⟩ ⟨by omega, by omega⟩ hi.1 hi.2)
              generalize rcA (a k) (t k) gn gd = q at *
              rw [hB] at HS
              clear hB
              go_wp2
              go_region
              go_wp2_with fail
              refine (HC.out _).mono ?_
              rintro e w3 ⟨rfl, hb3⟩
              have HD3 := Lib.hid (HD.out.grow (bt (bd (ba (Below.refl _ _) _)) hb3))
              clear hb3
              go_wp2
              go_roundw
              case rel => exact ⟨k + 1, by omega, by go_num, by rw [HS.out], by rw [HS.out]; exact HD3⟩
              case measure => simp [intOf]; omega
    · obtain rfl : k = 4 := by omega
      have HB := Lib.hid hB
      clear hB hlt
      go_wp2
      go_region
      go_wp2
      refine bodyPost_ret (v := .tuple #[.int .i64 B, F2 gn gd]) (by simp [results, Try.results12, go_sem, *]) rfl ⟨by rw [HB.out], ?_⟩
      have hbl := HD.out.bel
      exact bd (bs (bs hbl (by show w.heap.size ≤ w.heap.size + 1 + 1; omega) _) (by show w.heap.size ≤ w.heap.size + 1 + 1; omega) _)
end Go.Proofs.Ytlhljioncgddeaa

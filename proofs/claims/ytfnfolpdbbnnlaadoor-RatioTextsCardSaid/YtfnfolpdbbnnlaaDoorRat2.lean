/- Contracts of ratio.Max. -/
import Derived.Test.YtfnfolpdbbnnlaaDoorRat1
import Derived.IntWalk
namespace Go.Proofs.YtfnfolpdbbnnlaaDoor
open Go.RowKit
attribute [local go_sem] ext_cell ext_frozen

/-- The index of the greatest valid fraction among the first k, the first one of several; -1: there is none. -/
def bestK (n d : Nat → Int) : Nat → Int
  | 0 => -1
  | k + 1 => if (0 ≤ n k ∧ 1 ≤ d k) ∧ (bestK n d k < 0 ∨ 0 < rcmp (n k) (d k) (n (bestK n d k).toNat) (d (bestK n d k).toNat)) then (k : Int) else bestK n d k
theorem bestK_bd (n d : Nat → Int) : ∀ k, -1 ≤ bestK n d k ∧ bestK n d k < k
  | 0 => by simp [bestK]
  | k + 1 => by
    have := bestK_bd n d k
    unfold bestK
    split <;> omega
theorem bestK_right (n d : Nat → Int) : ∀ k, 0 ≤ bestK n d k → 0 ≤ n (bestK n d k).toNat ∧ 1 ≤ d (bestK n d k).toNat
  | 0 => by simp [bestK]
  | k + 1 => by
    intro h
    unfold bestK at h ⊢
    split
    · rename_i h1
      simpa using h1.1
    · rename_i h1
      rw [if_neg h1] at h
      exact bestK_right n d k h

/-- What Max returns. -/
def maxRes (n d : Nat → Int) (len : Nat) : Value := .tuple #[if bestK n d len < 0 then F2 0 0 else F2 (n (bestK n d len).toNat) (d (bestK n d len).toNat), .int .i64 (bestK n d len)]

/-- The cells of a slice of fractions. -/
def Fracs (w : World) (b off : Nat) (len : Nat) (n d : Nat → Int) : Prop :=
  ∀ i, i < len → w.cell? ⟨b, off + i * 2, none⟩ = some (.int .i64 (n i)) ∧ w.cell? ⟨b, off + i * 2 + 1, none⟩ = some (.int .i64 (d i)) ∧ I64 (n i) ∧ I64 (d i)

set_option maxHeartbeats 1000000 in
theorem max_some (b off len cap : Nat) (n d : Nat → Int) (w : World) (hb : b < w.heap.size) (hlen : 0 < len) (hbig : len ≤ 100) (hF : Fracs w b off len n d) :
    Calls Tryd.prog 61 #[.slice (some ⟨b, off, none⟩) len cap] w fun e w' =>
      e = .returned (maxRes n d len) ∧ Below w.heap.size w w' := by
  have HF := Lib.hid hF
  clear hF
  go_enter Tryd.func61, Tryd.ntmps61
  go_wp2
  go_loopw [4, 9] (fun m i wr => ∃ k : Nat, k ≤ len ∧ i = .int .i64 k ∧ m = .int .i64 (bestK n d k) ∧ Below (w.alloc (.cells #[.int .i64 0, .int .i64 0] 23)).heap.size (w.alloc (.cells #[.int .i64 0, .int .i64 0] 23)) wr) (fun _ i _ => len - (intOf i).toNat)
  case atStart => exact ⟨0, Nat.zero_le _, rfl, rfl, Below.refl _ _⟩
  case round =>
    obtain ⟨k, hk, rfl, rfl, hb1⟩ := hrel
    obtain ⟨w1, rfl⟩ : ∃ w1, w1 = wr := ⟨_, rfl⟩
    have hs1 : w.heap.size + 1 ≤ w1.heap.size := (by have h := hb1.size; first | omega | (simp at h; omega))
    have hz1_0 : w.heap.size < w1.heap.size := (by omega)
    obtain ⟨hc1, hf1, hl1⟩ := bcell hb1
    clear hl1
    by_cases hlt : k < len
    · obtain ⟨c0, c1, i0, i1⟩ := HF.out k hlt
      have hb' : b < w.heap.size + 1 := by omega
      by_cases hr : 0 ≤ n k ∧ 1 ≤ d k
      · have hr1 := hr.1
        have hr2 := hr.2
        have bb := bestK_bd n d k
        by_cases hneg : bestK n d k < 0
        · have HS : Hid (bestK n d (k + 1) = (k : Int)) := by show bestK n d (k + 1) = (k : Int); unfold bestK; rw [if_pos ⟨hr, .inl hneg⟩]
          clear hr
          go_wp2
          refine wp_region_pure (by kernel_rfl) (by kernel_rfl) ?_
          repeat (first | go_big_quiet_step (((go_at_call 56; exact (right_yes _ _ hr1 hr2).quiet))) | (quiet_step (((go_at_call 56; exact (right_yes _ _ hr1 hr2).quiet)))))
          refine wpQuiet_nil ?_
          rintro w2 ⟨x2, hx2⟩
          have hb2 := ext_below _ x2
          rw [← hx2] at hb2
          clear hx2 x2
          have hs2 : w1.heap.size + 1 ≤ w2.heap.size := (by have h := hb2.size; first | omega | (simp at h; omega))
          have hb1_2 := bel hb1 hb2 (by (repeat (first | assumption | exact Below.refl _ _ | refine ba ?_ _ | refine bd ?_ | refine bdn ?_ _ | refine bs ?_ (by first | omega | (simp; done) | (simp; omega)) _ | refine bt ?_ (by assumption))))
          clear hz1_0 hc1 hf1
          obtain ⟨hc1_2, hf1_2, hl1_2⟩ := bcell hb1_2
          clear hl1_2
          have hz2_0 : w.heap.size < w2.heap.size := (by omega)
          have hz2_1 : w1.heap.size < w2.heap.size := (by omega)
          obtain ⟨hc2, hf2, hl2⟩ := bcell hb2
          clear hl2
          go_wp2
          go_roundw
          case rel => exact ⟨k + 1, by omega, by go_num, by rw [HS.out], by (repeat (first | assumption | exact Below.refl _ _ | refine ba ?_ _ | refine bd ?_ | refine bdn ?_ _ | refine bs ?_ (by first | omega | (simp; done) | (simp; omega)) _ | refine bt ?_ (by assumption)))⟩
          case measure => simp [intOf]; omega
        · have hbr := bestK_right n d k (by omega)
          by_cases hgt : 0 < rcmp (n k) (d k) (n (bestK n d k).toNat) (d (bestK n d k).toNat)
          · have HS : Hid (bestK n d (k + 1) = (k : Int)) := by show bestK n d (k + 1) = (k : Int); rw [bestK, if_pos ⟨hr, .inr hgt⟩]
            obtain ⟨j, hj⟩ := Int.eq_ofNat_of_zero_le (show 0 ≤ bestK n d k by omega)
            rw [hj] at bb hneg hbr hgt ⊢
            simp only [Int.toNat_natCast] at hbr hgt
            obtain ⟨e0, e1, j0, j1⟩ := HF.out j (by omega)
            have hjl : (j : Int) < (len : Int) := by omega
            have hj0 : decide ((j : Int) < 0) = false := by simp
            have hbz : b < w1.heap.size := by omega
            have hbz' : b < w1.heap.size + 1 := by omega
            have rc := rcmp_yes _ _ _ _ i0 i1 j0 j1 ⟨hr1, hr2⟩ ⟨hbr.1, hbr.2⟩
            generalize rcmp (n k) (d k) (n j) (d j) = r at *
            have hgt' : decide (0 < r) = true := by simpa using hgt
            have RC := Lib.hid rc
            clear rc hr hj hneg
            go_wp2
            refine wp_region_pure (by kernel_rfl) (by kernel_rfl) ?_
            repeat (first | go_big_quiet_step (((first | (go_at_call 56; exact (right_yes _ _ hr1 hr2).quiet) | (go_at_call 52; exact RC.out.quiet)))) | (quiet_step (((first | (go_at_call 56; exact (right_yes _ _ hr1 hr2).quiet) | (go_at_call 52; exact RC.out.quiet))))))
            refine wpQuiet_nil ?_
            rintro w2 ⟨x2, hx2⟩
            have hb2 := ext_below _ x2
            rw [← hx2] at hb2
            clear hx2 x2
            have hs2 : w1.heap.size + 1 ≤ w2.heap.size := (by have h := hb2.size; first | omega | (simp at h; omega))
            have hb1_2 := bel hb1 hb2 (by (repeat (first | assumption | exact Below.refl _ _ | refine ba ?_ _ | refine bd ?_ | refine bdn ?_ _ | refine bs ?_ (by first | omega | (simp; done) | (simp; omega)) _ | refine bt ?_ (by assumption))))
            clear hz1_0 hc1 hf1
            obtain ⟨hc1_2, hf1_2, hl1_2⟩ := bcell hb1_2
            clear hl1_2
            have hz2_0 : w.heap.size < w2.heap.size := (by omega)
            have hz2_1 : w1.heap.size < w2.heap.size := (by omega)
            obtain ⟨hc2, hf2, hl2⟩ := bcell hb2
            clear hl2
            go_wp2
            go_roundw
            case rel => exact ⟨k + 1, by omega, by go_num, by rw [HS.out], by (repeat (first | assumption | exact Below.refl _ _ | refine ba ?_ _ | refine bd ?_ | refine bdn ?_ _ | refine bs ?_ (by first | omega | (simp; done) | (simp; omega)) _ | refine bt ?_ (by assumption)))⟩
            case measure => simp [intOf]; omega
          · have HS : Hid (bestK n d (k + 1) = bestK n d k) := by show bestK n d (k + 1) = bestK n d k; rw [bestK, if_neg (fun h => h.2.elim hneg hgt)]
            obtain ⟨j, hj⟩ := Int.eq_ofNat_of_zero_le (show 0 ≤ bestK n d k by omega)
            rw [hj] at bb hneg hbr hgt HS ⊢
            simp only [Int.toNat_natCast] at hbr hgt
            obtain ⟨e0, e1, j0, j1⟩ := HF.out j (by omega)
            have hjl : (j : Int) < (len : Int) := by omega
            have hj0 : decide ((j : Int) < 0) = false := by simp
            have hbz : b < w1.heap.size := by omega
            have hbz' : b < w1.heap.size + 1 := by omega
            have rc := rcmp_yes _ _ _ _ i0 i1 j0 j1 ⟨hr1, hr2⟩ ⟨hbr.1, hbr.2⟩
            generalize rcmp (n k) (d k) (n j) (d j) = r at *
            have hgt' : decide (0 < r) = false := by simpa using hgt
            have RC := Lib.hid rc
            clear rc hr hj hneg
            go_wp2
            refine wp_region_pure (by kernel_rfl) (by kernel_rfl) ?_
            repeat (first | go_big_quiet_step (((first | (go_at_call 56; exact (right_yes _ _ hr1 hr2).quiet) | (go_at_call 52; exact RC.out.quiet)))) | (quiet_step (((first | (go_at_call 56; exact (right_yes _ _ hr1 hr2).quiet) | (go_at_call 52; exact RC.out.quiet))))))
            refine wpQuiet_nil ?_
            rintro w2 ⟨x2, hx2⟩
            have hb2 := ext_below _ x2
            rw [← hx2] at hb2
            clear hx2 x2
            have hs2 : w1.heap.size + 1 ≤ w2.heap.size := (by have h := hb2.size; first | omega | (simp at h; omega))
            have hb1_2 := bel hb1 hb2 (by (repeat (first | assumption | exact Below.refl _ _ | refine ba ?_ _ | refine bd ?_ | refine bdn ?_ _ | refine bs ?_ (by first | omega | (simp; done) | (simp; omega)) _ | refine bt ?_ (by assumption))))
            clear hz1_0 hc1 hf1
            obtain ⟨hc1_2, hf1_2, hl1_2⟩ := bcell hb1_2
            clear hl1_2
            have hz2_0 : w.heap.size < w2.heap.size := (by omega)
            have hz2_1 : w1.heap.size < w2.heap.size := (by omega)
            obtain ⟨hc2, hf2, hl2⟩ := bcell hb2
            clear hl2
            go_wp2
            go_roundw
            case rel => exact ⟨k + 1, by omega, by go_num, by rw [HS.out], by (repeat (first | assumption | exact Below.refl _ _ | refine ba ?_ _ | refine bd ?_ | refine bdn ?_ _ | refine bs ?_ (by first | omega | (simp; done) | (simp; omega)) _ | refine bt ?_ (by assumption)))⟩
            case measure => simp [intOf]; omega
      · have HS : Hid (bestK n d (k + 1) = bestK n d k) := by show bestK n d (k + 1) = bestK n d k; rw [bestK, if_neg (fun h => hr h.1)]
        have rn := right_no (n k) (d k) (fun h => hr ⟨h.num, h.den⟩)
        have RN := Lib.hid rn
        clear rn hr
        generalize bestK n d k = m at *
        go_wp2
        refine wp_region_pure (by kernel_rfl) (by kernel_rfl) ?_
        repeat (first | go_big_quiet_step (((go_at_call 56; exact RN.out.quiet))) | (quiet_step (((go_at_call 56; exact RN.out.quiet)))))
        refine wpQuiet_nil ?_
        rintro w2 ⟨x2, hx2⟩
        have hb2 := ext_below _ x2
        rw [← hx2] at hb2
        clear hx2 x2
        have hs2 : w1.heap.size + 1 ≤ w2.heap.size := (by have h := hb2.size; first | omega | (simp at h; omega))
        have hb1_2 := bel hb1 hb2 (by (repeat (first | assumption | exact Below.refl _ _ | refine ba ?_ _ | refine bd ?_ | refine bdn ?_ _ | refine bs ?_ (by first | omega | (simp; done) | (simp; omega)) _ | refine bt ?_ (by assumption))))
        clear hz1_0 hc1 hf1
        obtain ⟨hc1_2, hf1_2, hl1_2⟩ := bcell hb1_2
        clear hl1_2
        have hz2_0 : w.heap.size < w2.heap.size := (by omega)
        have hz2_1 : w1.heap.size < w2.heap.size := (by omega)
        obtain ⟨hc2, hf2, hl2⟩ := bcell hb2
        clear hl2
        go_wp2
        go_roundw
        case rel => exact ⟨k + 1, by omega, by go_num, by rw [HS.out], by (repeat (first | assumption | exact Below.refl _ _ | refine ba ?_ _ | refine bd ?_ | refine bdn ?_ _ | refine bs ?_ (by first | omega | (simp; done) | (simp; omega)) _ | refine bt ?_ (by assumption)))⟩
        case measure => simp [intOf]; omega
    · obtain rfl : k = len := by omega
      have bb := bestK_bd n d k
      have hbr := bestK_right n d k
      by_cases hneg : bestK n d k < 0
      · have he : bestK n d k = -1 := by omega
        have HE := Lib.hid he
        clear he hbr
        rw [HE.out]
        clear hneg bb
        go_wp2
        refine bodyPost_ret (v := .tuple #[F2 0 0, .int .i64 (-1)]) (by simp [results, Tryd.results61, go_sem, *]) rfl ⟨by rw [maxRes, HE.out]; rfl, ?_⟩
        (repeat (first | assumption | exact Below.refl _ _ | refine ba ?_ _ | refine bd ?_ | refine bdn ?_ _ | refine bs ?_ (by first | omega | (simp; done) | (simp; omega)) _ | refine bt ?_ (by assumption)))
      · obtain ⟨j, hj⟩ := Int.eq_ofNat_of_zero_le (show 0 ≤ bestK n d k by omega)
        have HJ := Lib.hid hj
        rw [hj]
        rw [hj] at bb
        clear hj hneg hbr
        obtain ⟨e0, e1, j0, j1⟩ := HF.out j (by omega)
        have hjl : (j : Int) < (k : Int) := by omega
        have hj0 : decide ((j : Int) < 0) = false := by simp
        have hb' : b < w.heap.size + 1 := by omega
        have hbz : b < w1.heap.size := by omega
        go_wp2
        all_goals (refine bodyPost_ret (v := .tuple #[F2 (n j) (d j), .int .i64 (j : Int)]) (by simp [results, Tryd.results61, go_sem, *]) rfl ⟨by rw [maxRes, HJ.out, if_neg (by omega), Int.toNat_natCast], ?_⟩; (repeat (first | assumption | exact Below.refl _ _ | refine ba ?_ _ | refine bd ?_ | refine bdn ?_ _ | refine bs ?_ (by first | omega | (simp; done) | (simp; omega)) _ | refine bt ?_ (by assumption))))
end Go.Proofs.YtfnfolpdbbnnlaaDoor

/- Contract of the statement ShareCmps, for a slice of shares of which some stand in it. -/
import Derived.Test.YtfnfolpdbbnnlaaDoorShC1
import Derived.Test.YtfnfolpdbbnnlaaDoorShare4
namespace Go.Proofs.YtfnfolpdbbnnlaaDoor
open Go.RowKit
attribute [local go_sem] ext_cell ext_frozen Mix.calmUpon Mix.mUpon
theorem Shares.grow {W X : World} {b off len : Nat} {n d w : Nat → Int} (h : Shares W b off len n d w) (hb : b < W.heap.size) (hx : Below W.heap.size W X) : Shares X b off len n d w := fun i hi => by
  obtain ⟨h0, h1, h2⟩ := h i hi
  exact ⟨(hx.cell (p := ⟨b, _, none⟩) hb).trans h0, (hx.cell (p := ⟨b, _, none⟩) hb).trans h1, (hx.cell (p := ⟨b, _, none⟩) hb).trans h2⟩
/-- How many of the first t indices are those of a least share. -/
def cnt (n d w : Nat → Int) (len t : Nat) : Nat := ((List.range t).filter (fun i => lb n d w i len)).length
theorem cnt_yes {n d w : Nat → Int} {len t : Nat} (h : lb n d w t len = true) : cnt n d w len (t + 1) = cnt n d w len t + 1 := by
  unfold cnt; rw [List.range_succ, List.filter_append]; simp [h]
theorem cnt_no {n d w : Nat → Int} {len t : Nat} (h : lb n d w t len = false) : cnt n d w len (t + 1) = cnt n d w len t := by
  unfold cnt; rw [List.range_succ, List.filter_append]; simp [h]
theorem cnt_le (n d w : Nat → Int) (len : Nat) : ∀ t, cnt n d w len t ≤ t
  | 0 => by simp [cnt]
  | t + 1 => by
    have := cnt_le n d w len t
    cases h : lb n d w t len with
    | true => rw [cnt_yes h]; omega
    | false => rw [cnt_no h]; omega
set_option maxRecDepth 100000 in
set_option maxHeartbeats 8000000 in
theorem scmps_walk (an ad aw bn bd bw x : Int) (r : Bool) (b off len cap : Nat) (n d w : Nat → Int) (L : List Nat) (hLL : L = (List.range len).filter (fun i => lb n d w i len)) (W : World) (hb : b < W.heap.size) (hlen : 0 < len) (hbig : len ≤ 40) (hF : Shares W b off len n d w)
    (hC : Pure Tryd.prog 44 #[S3 an ad aw, S3 bn bd bw] (.int .i64 x)) (hD : Pure Tryd.prog 45 #[F2 an ad, .int .i64 aw, F2 bn bd, .int .i64 bw] (.int .i64 x))
    (hR : Pure Tryd.prog 46 #[S3 an ad aw] (.bool r)) (hS : Pure Tryd.prog 47 #[F2 an ad, .int .i64 aw] (.bool r))
    (hL : ∀ X : World, Below W.heap.size W X → Calls Tryd.prog 48 #[.slice (some ⟨b, off, none⟩) len cap] X fun e w' => ∃ v, e = .returned v ∧ LRow X w' v L) :
    Calls Tryd.prog 10 #[S3 an ad aw, S3 bn bd bw, .slice (some ⟨b, off, none⟩) len cap] W fun e w' => e = .returned (.bool true) ∧ Below W.heap.size W w' := by
  have HC := Lib.hid hC; have HD := Lib.hid hD; have HR := Lib.hid hR; have HS := Lib.hid hS; have HL := Lib.hid hL; have HF := Lib.hid hF; have HLL := Lib.hid hLL
  have hn40 : decide ((40 : Int) < (len : Int)) = false := by simp; omega
  clear hC hD hR hS hL hF hLL
  go_enter Tryd.func10, Tryd.ntmps10
  go_wp2_with fail
  refine wp_region_pure (by kernel_rfl) (by kernel_rfl) ?_
  repeat (first | go_big_quiet_step (((first | (go_at_call 44; with_reducible exact HC.out.quiet) | (go_at_call 45; with_reducible exact HD.out.quiet) | (go_at_call 46; with_reducible exact HR.out.quiet) | (go_at_call 47; with_reducible exact HS.out.quiet)))) | (quiet_step (((first | (go_at_call 44; with_reducible exact HC.out.quiet) | (go_at_call 45; with_reducible exact HD.out.quiet) | (go_at_call 46; with_reducible exact HR.out.quiet) | (go_at_call 47; with_reducible exact HS.out.quiet))))))
  refine wpQuiet_nil ?_
  rintro w1 ⟨x1, hx1⟩
  have hb1 := ext_below _ x1
  rw [← hx1] at hb1
  clear hx1 x1
  have hs1 : W.heap.size + 2 ≤ w1.heap.size := (by have h := hb1.size; first | omega | (simp at h; omega))
  have hz1_0 : W.heap.size < w1.heap.size := (by omega)
  have hz1_1 : W.heap.size + 1 < w1.heap.size := (by omega)
  obtain ⟨hc1, hf1, hl1⟩ := bcell hb1
  clear hl1
  go_wp2_with fail
  refine (HL.out _ (by (repeat (first | assumption | exact Below.refl _ _ | refine ba ?_ _ | refine bd ?_ | refine bdn ?_ _ | refine bs ?_ (by first | omega | (simp; done) | (simp; omega)) _ | refine bt ?_ (by assumption))))).mono ?_
  rintro e w2 ⟨v, rfl, hl⟩
  have hb2 := hl.2.2
  obtain ⟨sa, cp, hvv⟩ : ∃ sa cp, v = .slice sa L.length cp := by
    rcases hl.1.2 with ⟨h1, h0⟩ | ⟨g, cp, _, h0, _⟩
    · exact ⟨none, 0, by rw [h0, h1]⟩
    · exact ⟨_, cp, h0⟩
  subst hvv
  have hcell : ∀ j, j < L.length → ∃ g, sa = some ⟨g, 0, none⟩ ∧ w2.cell? ⟨g, j, none⟩ = some (.int .i64 ((L.getD j 0 : Nat) : Int)) ∧ g < w2.heap.size := by
    intro j hj
    rcases hl.1.2 with ⟨h1, h0⟩ | ⟨g, cp', _, h0, _⟩
    · omega
    · cases h0
      refine ⟨g, rfl, ?_, (hl.1.lt g rfl).2⟩
      have := World.ownsRow.cellAt hl.1 j (by omega)
      have e : L[j]? = some L[j] := List.getElem?_eq_getElem hj
      have e2 : L.getD j 0 = L[j] := by rw [List.getD_eq_getElem?_getD, e]; rfl
      rw [e2]
      simpa [nats, ints, e] using this
  have HCELL := Lib.hid hcell
  have hLen : L.length = cnt n d w len len := by rw [HLL.out]; rfl
  have HLEN := Lib.hid hLen
  have hL40 : L.length ≤ 40 := by rw [hLen]; exact Nat.le_trans (cnt_le n d w len len) hbig
  clear hl hcell hLen
  have hs2 : w1.heap.size + 0 ≤ w2.heap.size := (by have h := hb2.size; first | omega | (simp at h; omega))
  have hb1_2 := bel hb1 hb2 (by (repeat (first | assumption | exact Below.refl _ _ | refine ba ?_ _ | refine bd ?_ | refine bdn ?_ _ | refine bs ?_ (by first | omega | (simp; done) | (simp; omega)) _ | refine bt ?_ (by assumption))))
  clear hz1_0 hz1_1 hc1 hf1
  obtain ⟨hc1_2, hf1_2, hl1_2⟩ := bcell hb1_2
  clear hl1_2
  have hz2_0 : W.heap.size < w2.heap.size := (by omega)
  have hz2_1 : W.heap.size + 1 < w2.heap.size := (by omega)
  obtain ⟨hc2, hf2, hl2⟩ := bcell hb2
  clear hl2
  go_wp2
  go_loopw [8, 9] (fun kk i wr => ∃ t : Nat, t ≤ len ∧ i = .int .i64 t ∧ kk = .int .i64 (cnt n d w len t) ∧ Below w2.heap.size w2 wr) (fun _ i _ => len - (intOf i).toNat)
  case atStart => exact ⟨0, Nat.zero_le _, rfl, rfl, by (repeat (first | exact Below.refl _ _ | refine ba ?_ _ | refine bd ?_ | refine bdn ?_ _ | refine bs ?_ (by first | omega | (simp; done) | (simp; omega)) _ | refine bt ?_ hb24 | refine bt ?_ hb23 | refine bt ?_ hb22 | refine bt ?_ hb21 | refine bt ?_ hb20 | refine bt ?_ hb19 | refine bt ?_ hb18 | refine bt ?_ hb17 | refine bt ?_ hb16 | refine bt ?_ hb15 | refine bt ?_ hb14 | refine bt ?_ hb13 | refine bt ?_ hb12 | refine bt ?_ hb11 | refine bt ?_ hb10 | refine bt ?_ hb9 | refine bt ?_ hb8 | refine bt ?_ hb7 | refine bt ?_ hb6 | refine bt ?_ hb5 | refine bt ?_ hb4 | refine bt ?_ hb3 | refine bt ?_ hb2 | refine bt ?_ hb1))⟩
  case round =>
    obtain ⟨t, ht, rfl, rfl, hb3⟩ := hrel
    obtain ⟨w3, rfl⟩ : ∃ w3, w3 = wr := ⟨_, rfl⟩
    have hs3 : w2.heap.size + 0 ≤ w3.heap.size := (by have h := hb3.size; first | omega | (simp at h; omega))
    have hb1_3 := bel hb1_2 hb3 (by (repeat (first | assumption | exact Below.refl _ _ | refine ba ?_ _ | refine bd ?_ | refine bdn ?_ _ | refine bs ?_ (by first | omega | (simp; done) | (simp; omega)) _ | refine bt ?_ (by assumption))))
    have hb2_3 := bel hb2 hb3 (by (repeat (first | assumption | exact Below.refl _ _ | refine ba ?_ _ | refine bd ?_ | refine bdn ?_ _ | refine bs ?_ (by first | omega | (simp; done) | (simp; omega)) _ | refine bt ?_ (by assumption))))
    clear hc1_2 hf1_2 hz2_0 hz2_1 hc2 hf2
    obtain ⟨hc1_3, hf1_3, hl1_3⟩ := bcell hb1_3
    clear hl1_3
    have hz3_0 : W.heap.size < w3.heap.size := (by omega)
    have hz3_1 : W.heap.size + 1 < w3.heap.size := (by omega)
    obtain ⟨hc3, hf3, hl3⟩ := bcell hb3
    clear hl3
    by_cases hlt : t < len
    · have hts : (t : Int) < (len : Int) := by omega
      have hbW3 : Below W.heap.size W w3 := by (repeat (first | assumption | exact Below.refl _ _ | refine ba ?_ _ | refine bd ?_ | refine bdn ?_ _ | refine bs ?_ (by first | omega | (simp; done) | (simp; omega)) _ | refine bt ?_ (by assumption)))
      obtain ⟨c0, c1, c2⟩ := (HF.out.grow hb hbW3) t hlt
      have hbl3 : b < w3.heap.size := Nat.lt_of_lt_of_le hb hbW3.size
      clear hbW3
      have HRt := Lib.hid (refright7_any (n t) (d t) (w t))
      go_wp2_with fail
      refine wp_region_pure (by kernel_rfl) (by kernel_rfl) ?_
      repeat (first | go_big_quiet_step (((go_at_call 47; with_reducible exact HRt.out.quiet))) | (quiet_step (((go_at_call 47; with_reducible exact HRt.out.quiet)))))
      refine wpQuiet_nil ?_
      rintro w4 ⟨x4, hx4⟩
      have hb4 := ext_below _ x4
      rw [← hx4] at hb4
      clear hx4 x4
      have hs4 : w3.heap.size + 0 ≤ w4.heap.size := (by have h := hb4.size; first | omega | (simp at h; omega))
      have hb1_4 := bel hb1_3 hb4 (by (repeat (first | assumption | exact Below.refl _ _ | refine ba ?_ _ | refine bd ?_ | refine bdn ?_ _ | refine bs ?_ (by first | omega | (simp; done) | (simp; omega)) _ | refine bt ?_ (by assumption))))
      have hb2_4 := bel hb2_3 hb4 (by (repeat (first | assumption | exact Below.refl _ _ | refine ba ?_ _ | refine bd ?_ | refine bdn ?_ _ | refine bs ?_ (by first | omega | (simp; done) | (simp; omega)) _ | refine bt ?_ (by assumption))))
      have hb3_4 := bel hb3 hb4 (by (repeat (first | assumption | exact Below.refl _ _ | refine ba ?_ _ | refine bd ?_ | refine bdn ?_ _ | refine bs ?_ (by first | omega | (simp; done) | (simp; omega)) _ | refine bt ?_ (by assumption))))
      clear hc1_3 hf1_3 hz3_0 hz3_1 hc3 hf3
      obtain ⟨hc1_4, hf1_4, hl1_4⟩ := bcell hb1_4
      clear hl1_4
      have hz4_0 : W.heap.size < w4.heap.size := (by omega)
      have hz4_1 : W.heap.size + 1 < w4.heap.size := (by omega)
      obtain ⟨hc4, hf4, hl4⟩ := bcell hb4
      clear hl4
      go_wp2
      go_loopw [10, 11] (fun q m wr => ∃ u : Nat, u ≤ len ∧ m = .int .i64 u ∧ q = .bool (lb n d w t u) ∧ Below w4.heap.size w4 wr) (fun _ m _ => len - (intOf m).toNat)
      case atStart => exact ⟨0, Nat.zero_le _, rfl, rfl, by (repeat (first | exact Below.refl _ _ | refine ba ?_ _ | refine bd ?_ | refine bdn ?_ _ | refine bs ?_ (by first | omega | (simp; done) | (simp; omega)) _ | refine bt ?_ hb24 | refine bt ?_ hb23 | refine bt ?_ hb22 | refine bt ?_ hb21 | refine bt ?_ hb20 | refine bt ?_ hb19 | refine bt ?_ hb18 | refine bt ?_ hb17 | refine bt ?_ hb16 | refine bt ?_ hb15 | refine bt ?_ hb14 | refine bt ?_ hb13 | refine bt ?_ hb12 | refine bt ?_ hb11 | refine bt ?_ hb10 | refine bt ?_ hb9 | refine bt ?_ hb8 | refine bt ?_ hb7 | refine bt ?_ hb6 | refine bt ?_ hb5 | refine bt ?_ hb4 | refine bt ?_ hb3 | refine bt ?_ hb2 | refine bt ?_ hb1))⟩
      case round =>
        obtain ⟨u, hu, rfl, rfl, hb5⟩ := hrel
        obtain ⟨w5, rfl⟩ : ∃ w5, w5 = wr := ⟨_, rfl⟩
        have hs5 : w4.heap.size + 0 ≤ w5.heap.size := (by have h := hb5.size; first | omega | (simp at h; omega))
        have hb1_5 := bel hb1_4 hb5 (by (repeat (first | assumption | exact Below.refl _ _ | refine ba ?_ _ | refine bd ?_ | refine bdn ?_ _ | refine bs ?_ (by first | omega | (simp; done) | (simp; omega)) _ | refine bt ?_ (by assumption))))
        have hb2_5 := bel hb2_4 hb5 (by (repeat (first | assumption | exact Below.refl _ _ | refine ba ?_ _ | refine bd ?_ | refine bdn ?_ _ | refine bs ?_ (by first | omega | (simp; done) | (simp; omega)) _ | refine bt ?_ (by assumption))))
        have hb3_5 := bel hb3_4 hb5 (by (repeat (first | assumption | exact Below.refl _ _ | refine ba ?_ _ | refine bd ?_ | refine bdn ?_ _ | refine bs ?_ (by first | omega | (simp; done) | (simp; omega)) _ | refine bt ?_ (by assumption))))
        have hb4_5 := bel hb4 hb5 (by (repeat (first | assumption | exact Below.refl _ _ | refine ba ?_ _ | refine bd ?_ | refine bdn ?_ _ | refine bs ?_ (by first | omega | (simp; done) | (simp; omega)) _ | refine bt ?_ (by assumption))))
        clear hc1_4 hf1_4 hz4_0 hz4_1 hc4 hf4
        obtain ⟨hc1_5, hf1_5, hl1_5⟩ := bcell hb1_5
        clear hl1_5
        have hz5_0 : W.heap.size < w5.heap.size := (by omega)
        have hz5_1 : W.heap.size + 1 < w5.heap.size := (by omega)
        obtain ⟨hc5, hf5, hl5⟩ := bcell hb5
        clear hl5
        by_cases hlu : u < len
        · have hus : (u : Int) < (len : Int) := by omega
          have hbW5 : Below W.heap.size W w5 := by (repeat (first | assumption | exact Below.refl _ _ | refine ba ?_ _ | refine bd ?_ | refine bdn ?_ _ | refine bs ?_ (by first | omega | (simp; done) | (simp; omega)) _ | refine bt ?_ (by assumption)))
          obtain ⟨e0, e1, e2⟩ := (HF.out.grow hb hbW5) u hlu
          obtain ⟨f0, f1, f2⟩ := (HF.out.grow hb hbW5) t hlt
          have hbl5 : b < w5.heap.size := Nat.lt_of_lt_of_le hb hbW5.size
          clear hbW5
          have HQ := rscmp_any (n u) (d u) (w u) (n t) (d t) (w t)
          generalize hy : scmp (n u) (d u) (w u) (n t) (d t) (w t) = y at HQ
          have HY := Lib.hid HQ
          have hs : lb n d w t (u + 1) = (lb n d w t u && decide (0 ≤ y)) := by rw [← hy]; rfl
          have HSS := Lib.hid hs
          clear HQ hs hy
          cases hlb : lb n d w t u with
          | true =>
            rw [hlb] at HSS
            go_wp2_with fail
            refine wp_region_pure (by kernel_rfl) (by kernel_rfl) ?_
            repeat (first | go_big_quiet_step (((go_at_call 45; with_reducible exact HY.out.quiet))) | (quiet_step (((go_at_call 45; with_reducible exact HY.out.quiet)))))
            refine wpQuiet_nil ?_
            rintro w6 ⟨x6, hx6⟩
            have hb6 := ext_below _ x6
            rw [← hx6] at hb6
            clear hx6 x6
            have hs6 : w5.heap.size + 0 ≤ w6.heap.size := (by have h := hb6.size; first | omega | (simp at h; omega))
            have hb1_6 := bel hb1_5 hb6 (by (repeat (first | assumption | exact Below.refl _ _ | refine ba ?_ _ | refine bd ?_ | refine bdn ?_ _ | refine bs ?_ (by first | omega | (simp; done) | (simp; omega)) _ | refine bt ?_ (by assumption))))
            have hb2_6 := bel hb2_5 hb6 (by (repeat (first | assumption | exact Below.refl _ _ | refine ba ?_ _ | refine bd ?_ | refine bdn ?_ _ | refine bs ?_ (by first | omega | (simp; done) | (simp; omega)) _ | refine bt ?_ (by assumption))))
            have hb3_6 := bel hb3_5 hb6 (by (repeat (first | assumption | exact Below.refl _ _ | refine ba ?_ _ | refine bd ?_ | refine bdn ?_ _ | refine bs ?_ (by first | omega | (simp; done) | (simp; omega)) _ | refine bt ?_ (by assumption))))
            have hb4_6 := bel hb4_5 hb6 (by (repeat (first | assumption | exact Below.refl _ _ | refine ba ?_ _ | refine bd ?_ | refine bdn ?_ _ | refine bs ?_ (by first | omega | (simp; done) | (simp; omega)) _ | refine bt ?_ (by assumption))))
            have hb5_6 := bel hb5 hb6 (by (repeat (first | assumption | exact Below.refl _ _ | refine ba ?_ _ | refine bd ?_ | refine bdn ?_ _ | refine bs ?_ (by first | omega | (simp; done) | (simp; omega)) _ | refine bt ?_ (by assumption))))
            clear hc1_5 hf1_5 hz5_0 hz5_1 hc5 hf5
            obtain ⟨hc1_6, hf1_6, hl1_6⟩ := bcell hb1_6
            clear hl1_6
            have hz6_0 : W.heap.size < w6.heap.size := (by omega)
            have hz6_1 : W.heap.size + 1 < w6.heap.size := (by omega)
            obtain ⟨hc6, hf6, hl6⟩ := bcell hb6
            clear hl6
            go_wp2
            go_roundw
            case rel => exact ⟨u + 1, by omega, by go_num, by rw [HSS.out]; rfl, by (repeat (first | exact Below.refl _ _ | refine ba ?_ _ | refine bd ?_ | refine bdn ?_ _ | refine bs ?_ (by first | omega | (simp; done) | (simp; omega)) _ | refine bt ?_ hb24 | refine bt ?_ hb23 | refine bt ?_ hb22 | refine bt ?_ hb21 | refine bt ?_ hb20 | refine bt ?_ hb19 | refine bt ?_ hb18 | refine bt ?_ hb17 | refine bt ?_ hb16 | refine bt ?_ hb15 | refine bt ?_ hb14 | refine bt ?_ hb13 | refine bt ?_ hb12 | refine bt ?_ hb11 | refine bt ?_ hb10 | refine bt ?_ hb9 | refine bt ?_ hb8 | refine bt ?_ hb7 | refine bt ?_ hb6 | refine bt ?_ hb5 | refine bt ?_ hb4 | refine bt ?_ hb3 | refine bt ?_ hb2 | refine bt ?_ hb1))⟩
            case measure => simp [intOf]; omega
          | false =>
            rw [hlb] at HSS
            go_wp2_with fail
            refine wp_region_pure (by kernel_rfl) (by kernel_rfl) ?_
            repeat (first | go_big_quiet_step ((fail)) | (quiet_step ((fail))))
            refine wpQuiet_nil ?_
            rintro w6 ⟨x6, hx6⟩
            have hb6 := ext_below _ x6
            rw [← hx6] at hb6
            clear hx6 x6
            have hs6 : w5.heap.size + 0 ≤ w6.heap.size := (by have h := hb6.size; first | omega | (simp at h; omega))
            have hb1_6 := bel hb1_5 hb6 (by (repeat (first | assumption | exact Below.refl _ _ | refine ba ?_ _ | refine bd ?_ | refine bdn ?_ _ | refine bs ?_ (by first | omega | (simp; done) | (simp; omega)) _ | refine bt ?_ (by assumption))))
            have hb2_6 := bel hb2_5 hb6 (by (repeat (first | assumption | exact Below.refl _ _ | refine ba ?_ _ | refine bd ?_ | refine bdn ?_ _ | refine bs ?_ (by first | omega | (simp; done) | (simp; omega)) _ | refine bt ?_ (by assumption))))
            have hb3_6 := bel hb3_5 hb6 (by (repeat (first | assumption | exact Below.refl _ _ | refine ba ?_ _ | refine bd ?_ | refine bdn ?_ _ | refine bs ?_ (by first | omega | (simp; done) | (simp; omega)) _ | refine bt ?_ (by assumption))))
            have hb4_6 := bel hb4_5 hb6 (by (repeat (first | assumption | exact Below.refl _ _ | refine ba ?_ _ | refine bd ?_ | refine bdn ?_ _ | refine bs ?_ (by first | omega | (simp; done) | (simp; omega)) _ | refine bt ?_ (by assumption))))
            have hb5_6 := bel hb5 hb6 (by (repeat (first | assumption | exact Below.refl _ _ | refine ba ?_ _ | refine bd ?_ | refine bdn ?_ _ | refine bs ?_ (by first | omega | (simp; done) | (simp; omega)) _ | refine bt ?_ (by assumption))))
            clear hc1_5 hf1_5 hz5_0 hz5_1 hc5 hf5
            obtain ⟨hc1_6, hf1_6, hl1_6⟩ := bcell hb1_6
            clear hl1_6
            have hz6_0 : W.heap.size < w6.heap.size := (by omega)
            have hz6_1 : W.heap.size + 1 < w6.heap.size := (by omega)
            obtain ⟨hc6, hf6, hl6⟩ := bcell hb6
            clear hl6
            go_wp2
            go_roundw
            case rel => exact ⟨u + 1, by omega, by go_num, by rw [HSS.out]; rfl, by (repeat (first | exact Below.refl _ _ | refine ba ?_ _ | refine bd ?_ | refine bdn ?_ _ | refine bs ?_ (by first | omega | (simp; done) | (simp; omega)) _ | refine bt ?_ hb24 | refine bt ?_ hb23 | refine bt ?_ hb22 | refine bt ?_ hb21 | refine bt ?_ hb20 | refine bt ?_ hb19 | refine bt ?_ hb18 | refine bt ?_ hb17 | refine bt ?_ hb16 | refine bt ?_ hb15 | refine bt ?_ hb14 | refine bt ?_ hb13 | refine bt ?_ hb12 | refine bt ?_ hb11 | refine bt ?_ hb10 | refine bt ?_ hb9 | refine bt ?_ hb8 | refine bt ?_ hb7 | refine bt ?_ hb6 | refine bt ?_ hb5 | refine bt ?_ hb4 | refine bt ?_ hb3 | refine bt ?_ hb2 | refine bt ?_ hb1))⟩
            case measure => simp [intOf]; omega
        · have hul : len = u := by omega
          subst hul
          cases hlb : lb n d w t len with
          | true =>
            have hk := filter_at (fun i => lb n d w i len) hlt hlb
            rw [← HLL.out] at hk
            have hcy := cnt_yes hlb
            obtain ⟨g, rfl, gc, gl⟩ := HCELL.out (cnt n d w len t) hk.1
            have hb2w5 : Below w2.heap.size w2 w5 := by (repeat (first | exact Below.refl _ _ | refine ba ?_ _ | refine bd ?_ | refine bdn ?_ _ | refine bs ?_ (by first | omega | (simp; done) | (simp; omega)) _ | refine bt ?_ hb24 | refine bt ?_ hb23 | refine bt ?_ hb22 | refine bt ?_ hb21 | refine bt ?_ hb20 | refine bt ?_ hb19 | refine bt ?_ hb18 | refine bt ?_ hb17 | refine bt ?_ hb16 | refine bt ?_ hb15 | refine bt ?_ hb14 | refine bt ?_ hb13 | refine bt ?_ hb12 | refine bt ?_ hb11 | refine bt ?_ hb10 | refine bt ?_ hb9 | refine bt ?_ hb8 | refine bt ?_ hb7 | refine bt ?_ hb6 | refine bt ?_ hb5 | refine bt ?_ hb4 | refine bt ?_ hb3 | refine bt ?_ hb2 | refine bt ?_ hb1))
            have gc5 := (hb2w5.cell (p := ⟨g, cnt n d w len t, none⟩) gl).trans gc
            have hk2 : L.getD (cnt n d w len t) 0 = t := hk.2
            rw [hk2] at gc5
            have hk1 : cnt n d w len t < L.length := hk.1
            have hks : (cnt n d w len t : Int) < (L.length : Int) := by omega
            have HCY := Lib.hid hcy
            have HB := Lib.hid hb2w5
            clear hcy hk hk2 gc gl hb2w5
            generalize cnt n d w len t = c at *
            go_wp2
            go_roundw
            case rel => exact ⟨t + 1, by omega, by go_num, by rw [HCY.out]; go_num, HB.out⟩
            case measure => simp [intOf]; omega
          | false =>
            have HCY := Lib.hid (cnt_no hlb)
            go_wp2
            go_roundw
            case rel => exact ⟨t + 1, by omega, by go_num, by rw [HCY.out], by (repeat (first | exact Below.refl _ _ | refine ba ?_ _ | refine bd ?_ | refine bdn ?_ _ | refine bs ?_ (by first | omega | (simp; done) | (simp; omega)) _ | refine bt ?_ hb24 | refine bt ?_ hb23 | refine bt ?_ hb22 | refine bt ?_ hb21 | refine bt ?_ hb20 | refine bt ?_ hb19 | refine bt ?_ hb18 | refine bt ?_ hb17 | refine bt ?_ hb16 | refine bt ?_ hb15 | refine bt ?_ hb14 | refine bt ?_ hb13 | refine bt ?_ hb12 | refine bt ?_ hb11 | refine bt ?_ hb10 | refine bt ?_ hb9 | refine bt ?_ hb8 | refine bt ?_ hb7 | refine bt ?_ hb6 | refine bt ?_ hb5 | refine bt ?_ hb4 | refine bt ?_ hb3 | refine bt ?_ hb2 | refine bt ?_ hb1))⟩
            case measure => simp [intOf]; omega
    · have htl : len = t := by omega
      subst htl
      rw [← HLEN.out]
      go_wp2_with fail
      (with_reducible refine (works7 _).mono ?_)
      rintro e w4 ⟨rfl, hb4⟩
      have hs4 : w3.heap.size + 0 ≤ w4.heap.size := (by have h := hb4.size; first | omega | (simp at h; omega))
      have hb1_4 := bel hb1_3 hb4 (by (repeat (first | assumption | exact Below.refl _ _ | refine ba ?_ _ | refine bd ?_ | refine bdn ?_ _ | refine bs ?_ (by first | omega | (simp; done) | (simp; omega)) _ | refine bt ?_ (by assumption))))
      have hb2_4 := bel hb2_3 hb4 (by (repeat (first | assumption | exact Below.refl _ _ | refine ba ?_ _ | refine bd ?_ | refine bdn ?_ _ | refine bs ?_ (by first | omega | (simp; done) | (simp; omega)) _ | refine bt ?_ (by assumption))))
      have hb3_4 := bel hb3 hb4 (by (repeat (first | assumption | exact Below.refl _ _ | refine ba ?_ _ | refine bd ?_ | refine bdn ?_ _ | refine bs ?_ (by first | omega | (simp; done) | (simp; omega)) _ | refine bt ?_ (by assumption))))
      clear hc1_3 hf1_3 hz3_0 hz3_1 hc3 hf3
      obtain ⟨hc1_4, hf1_4, hl1_4⟩ := bcell hb1_4
      clear hl1_4
      have hz4_0 : W.heap.size < w4.heap.size := (by omega)
      have hz4_1 : W.heap.size + 1 < w4.heap.size := (by omega)
      obtain ⟨hc4, hf4, hl4⟩ := bcell hb4
      clear hl4
      go_wp2
      go_ret
      refine ⟨rfl, ?_⟩
      (repeat (first | assumption | exact Below.refl _ _ | refine ba ?_ _ | refine bd ?_ | refine bdn ?_ _ | refine bs ?_ (by first | omega | (simp; done) | (simp; omega)) _ | refine bt ?_ (by assumption)))
end Go.Proofs.YtfnfolpdbbnnlaaDoor

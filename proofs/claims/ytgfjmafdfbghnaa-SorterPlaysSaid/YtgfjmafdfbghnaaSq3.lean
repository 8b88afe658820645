/- The document's sorter: Order. -/
import Derived.Test.YtgfjmafdfbghnaaSq2
namespace Go.Proofs.Ytgfjmafdfbghnaa
open Go.RowKit Go.Maps
attribute [local go_sem] ext_cell ext_frozen extC_cell extC_frozen Mix.calmUpon Mix.mUpon
/-- How many of the first r stand ahead of d. -/
def cnt9 (T : Nat → Int) (C : List Dc) (d : Dc) (r : Nat) : Nat := ((C.take r).filter fun k => k.c.aw && ahd T k d).length
theorem cnt9_le (T : Nat → Int) (C : List Dc) (d : Dc) (r : Nat) : cnt9 T C d r ≤ r := Nat.le_trans (List.length_filter_le _ _) (List.length_take_le _ _)
theorem cnt9_next {T : Nat → Int} {C : List Dc} {d x : Dc} {r : Nat} (h : C[r]? = some x) : cnt9 T C d (r + 1) = cnt9 T C d r + (if (x.c.aw && ahd T x d) = true then 1 else 0) := by
  unfold cnt9
  rw [take_at h, List.filter_append, List.length_append]
  by_cases hq : (x.c.aw && ahd T x d) = true
  · rw [if_pos hq]; simp [hq]
  · rw [if_neg hq]; simp [hq]
theorem cnt9_all (T : Nat → Int) (C : List Dc) (d : Dc) : cnt9 T C d C.length = rank T C d := by unfold cnt9; rw [List.take_length]; rfl
theorem nth9_next {T : Nat → Int} {C : List Dc} {n i : Nat} {x : Dc} (h : C[i]? = some x) : nth9 T C n (C.take (i + 1)) = nth9 T C n (C.take i) ++ (if (x.c.aw && (rank T C x == n)) = true then [x.id] else []) := by
  unfold nth9
  rw [take_at h, List.filter_append, List.map_append]
  congr 1
  by_cases hq : (x.c.aw && (rank T C x == n)) = true
  · rw [if_pos hq]; simp [hq]
  · rw [if_neg hq]; simp [hq]
theorem nth9_len (T : Nat → Int) (C : List Dc) (n : Nat) (A : List Dc) : (nth9 T C n A).length ≤ A.length := by unfold nth9; rw [List.length_map]; exact List.length_filter_le _ _
theorem ord9_len (T : Nat → Int) (C : List Dc) : ∀ m, (ord9 T C m).length ≤ m * C.length
  | 0 => by simp [ord9]
  | m + 1 => by
    rw [ord9_succ, List.length_append]
    have := ord9_len T C m
    have := nth9_len T C m C
    rw [Nat.succ_mul]; omega
section
variable {w : World} {v : Value} {C : List Dc} {T : Nat → Int}
set_option maxRecDepth 100000 in
set_option maxHeartbeats 4000000 in
theorem rorder9 (h : RS 7 dcenc w v C) (hl : C.length < 900) : Calls Try.prog 9 #[mv9 T v] w (RetI (ord9 T C C.length) w) := by
  obtain ⟨a, n, cp, rfl, hn, hc, hm, hat⟩ := h.at_
  have hn9 : n < 900 := by omega
  have HM := Lib.hid (MB9.made w T (.slice a n cp))
  have HB := Lib.hid (ba (Below.refl w.heap.size w) (.cells (mcells9 T (.slice a n cp)) 28))
  have HAT := Lib.hid hat; have HN := Lib.hid hn
  have HAH := Lib.hid fun d d' => rahead9 T a n cp d d'
  have HLB := Lib.hid fun t (ht : t ≤ n) (s : Nat) => show (ord9 T C t ++ nth9 T C t (C.take s)).length < 1000000 by
    have h1 := ord9_len T C t
    have h2 := nth9_len T C t (C.take s)
    have h3 := List.length_take_le s C
    have h4 : t * C.length ≤ 900 * 900 := Nat.mul_le_mul (by omega) (by omega)
    have h5 : (C.take s).length ≤ C.length := by rw [List.length_take]; omega
    rw [List.length_append]; omega
  clear h hat hn hm hc
  rw [← HN.out]
  go_enter Try.func9, Try.ntmps9
  go_wp2
  generalize w.alloc (.cells (mcells9 T (.slice a n cp)) 28) = w1 at *
  obtain ⟨b, hbq⟩ : ∃ b, b = w.heap.size := ⟨_, rfl⟩
  rw [← hbq] at HM ⊢
  clear hbq
  go_loopw [3, 4, 5, 6, 7] (fun ov nv _ _ _ wr => ∃ t : Nat, t ≤ n ∧ nv = .int .i64 t ∧ Hid (OwnL 2 1 n1 wr w1.heap.size ov (ord9 T C t) ∧ Below w1.heap.size w1 wr)) (fun _ nv _ _ _ _ => n - (intOf nv).toNat)
  case atStart => exact ⟨0, Nat.zero_le _, rfl, Lib.hid ⟨OwnL.nil _ _ _ _ _, Below.refl _ _⟩⟩
  case round =>
    obtain ⟨t, ht, rfl, HQ⟩ := hrel
    obtain ⟨w2, rfl⟩ : ∃ w2, w2 = wr := ⟨_, rfl⟩
    have hm2 := HM.out.below HQ.out.2
    obtain ⟨m0, m1, m2, m3, m4⟩ := hm2.cells
    have ml := hm2.lt
    clear hm2 m0 m1 m2 m3
    by_cases hlt : t < n
    · have hts : (t : Int) < (n : Int) := by omega
      go_wp2
      clear m4 ml
      go_loopw [3, 5, 6, 7] (fun ov iv _ _ wr => ∃ s : Nat, s ≤ n ∧ iv = .int .i64 s ∧ Hid (OwnL 2 1 n1 wr w1.heap.size ov (ord9 T C t ++ nth9 T C t (C.take s)) ∧ Below w1.heap.size w1 wr)) (fun _ iv _ _ _ => n - (intOf iv).toNat)
      case atStart => exact ⟨0, Nat.zero_le _, rfl, Lib.hid ⟨by simpa [nth9] using HQ.out.1, HQ.out.2⟩⟩
      case round =>
        clear HQ
        obtain ⟨s, hs, rfl, HR⟩ := hrel
        obtain ⟨w3, rfl⟩ : ∃ w3, w3 = wr := ⟨_, rfl⟩
        have hm2 := HM.out.below HR.out.2
        obtain ⟨m0, m1, m2, m3, m4⟩ := hm2.cells
        have ml := hm2.lt
        clear hm2 m0 m1 m2 m3
        by_cases hls : s < n
        · have hss : (s : Int) < (n : Int) := by omega
          obtain ⟨d, hd⟩ := at_lt (l := C) (i := s) (by rw [← HN.out]; exact hls)
          obtain ⟨bs, off, rfl, hbs, hcell⟩ := HAT.out s d hd
          have HBS := Lib.hid hbs
          have HDC := Lib.hid hcell; have HD := Lib.hid hd
          clear hcell hd hbs
          go_wp2
          clear m4 ml
          go_loopw [6, 7] (fun cv kv wr => ∃ r : Nat, r ≤ n ∧ kv = .int .i64 r ∧ cv = .int .i64 (cnt9 T C d r : Nat) ∧ Hid (OwnL 2 1 n1 wr w1.heap.size u3 (ord9 T C t ++ nth9 T C t (C.take s)) ∧ Below w1.heap.size w1 wr)) (fun _ kv _ => n - (intOf kv).toNat)
          case atStart => exact ⟨0, Nat.zero_le _, rfl, by simp [cnt9], HR⟩
          case round =>
            clear HR
            obtain ⟨r, hr, rfl, rfl, HS⟩ := hrel
            obtain ⟨w4, rfl⟩ : ∃ w4, w4 = wr := ⟨_, rfl⟩
            have hm2 := HM.out.below HS.out.2
            obtain ⟨m0, m1, m2, m3, m4⟩ := hm2.cells
            have ml := hm2.lt
            clear hm2
            have hbw : Below w.heap.size w w4 := bt HB.out HS.out.2
            have d0 := (hbw.cell (p := ⟨bs, off + s * 7 + 0, none⟩) HBS.out).trans (HDC.out 0 _ rfl)
            have d1 := (hbw.cell (p := ⟨bs, off + s * 7 + 1, none⟩) HBS.out).trans (HDC.out 1 _ rfl)
            have d2 := (hbw.cell (p := ⟨bs, off + s * 7 + 2, none⟩) HBS.out).trans (HDC.out 2 _ rfl)
            have d3 := (hbw.cell (p := ⟨bs, off + s * 7 + 3, none⟩) HBS.out).trans (HDC.out 3 _ rfl)
            have d4 := (hbw.cell (p := ⟨bs, off + s * 7 + 4, none⟩) HBS.out).trans (HDC.out 4 _ rfl)
            have d5 := (hbw.cell (p := ⟨bs, off + s * 7 + 5, none⟩) HBS.out).trans (HDC.out 5 _ rfl)
            have d6 := (hbw.cell (p := ⟨bs, off + s * 7 + 6, none⟩) HBS.out).trans (HDC.out 6 _ rfl)
            simp only [Nat.add_zero] at d0
            have hbs4 : bs < w4.heap.size := Nat.lt_of_lt_of_le HBS.out hbw.size
            by_cases hlr : r < n
            · have hrs : (r : Int) < (n : Int) := by omega
              obtain ⟨x, hx⟩ := at_lt (l := C) (i := r) (by rw [← HN.out]; exact hlr)
              obtain ⟨bs', off', hbe, _, hcell⟩ := HAT.out r x hx
              cases hbe
              have e0 := (hbw.cell (p := ⟨bs, off + r * 7 + 0, none⟩) HBS.out).trans (hcell 0 _ rfl)
              have e1 := (hbw.cell (p := ⟨bs, off + r * 7 + 1, none⟩) HBS.out).trans (hcell 1 _ rfl)
              have e2 := (hbw.cell (p := ⟨bs, off + r * 7 + 2, none⟩) HBS.out).trans (hcell 2 _ rfl)
              have e3 := (hbw.cell (p := ⟨bs, off + r * 7 + 3, none⟩) HBS.out).trans (hcell 3 _ rfl)
              have e4 := (hbw.cell (p := ⟨bs, off + r * 7 + 4, none⟩) HBS.out).trans (hcell 4 _ rfl)
              have e5 := (hbw.cell (p := ⟨bs, off + r * 7 + 5, none⟩) HBS.out).trans (hcell 5 _ rfl)
              have e6 := (hbw.cell (p := ⟨bs, off + r * 7 + 6, none⟩) HBS.out).trans (hcell 6 _ rfl)
              simp only [Nat.add_zero] at e0
              have hnx := cnt9_next (T := T) (d := d) hx
              have had' := HAH.out x d
              have hcr := cnt9_le T C d r
              obtain ⟨ad, had⟩ : ∃ ad, ad = ahd T x d := ⟨_, rfl⟩
              rw [← had] at hnx had'
              obtain ⟨c, hc⟩ : ∃ c, c = cnt9 T C d r := ⟨_, rfl⟩
              rw [← hc] at hnx hcr ⊢
              clear hcell hx hbw had hc
              obtain ⟨xi, ⟨xw, xs, xa⟩⟩ := x
              simp only at e0 e1 e2 e3 e4 e5 e6 hnx
              have HAD := Lib.hid had'
              clear had'
              have hc9 : c < 900 := by omega
              cases xa with
              | false =>
                have HNX := Lib.hid (show cnt9 T C d (r + 1) = c from by rw [hnx]; simp)
                clear hnx
                go_upto_region 12 with (fail)
                refine wp_region_pure (by kernel_rfl) (by kernel_rfl) ?_
                repeat (first | go_big_quiet_step (fail) | (quiet_step (fail)))
                refine wpQuiet_nil ?_
                rintro w5 ⟨x5, hx5⟩
                have hb5 := ext_below _ x5
                rw [← hx5] at hb5
                have HS5 := Lib.hid (And.intro (HS.out.1.below hb5) (bt HS.out.2 hb5))
                clear hx5 x5 hb5 e0 e1 e2 e3 e4 e5 e6 d0 d1 d2 d3 d4 d5 d6 m0 m1 m2 m3 m4 ml hbs4 HAD
                go_wp2
                go_roundw
                case rel => exact ⟨r + 1, by omega, by go_num, by rw [HNX.out], HS5⟩
                case measure => simp [intOf]; omega
              | true =>
                simp only [Bool.true_and] at hnx
                cases ad with
                | false =>
                  have HNX := Lib.hid (show cnt9 T C d (r + 1) = c from by rw [hnx]; simp)
                  clear hnx
                  go_upto_region 12 with (fail)
                  refine wp_region_pure (by kernel_rfl) (by kernel_rfl) ?_
                  repeat (first | go_big_quiet_step (first | (go_at_call 34; with_reducible exact HAD.out.quiet)) | (quiet_step (first | (go_at_call 34; with_reducible exact HAD.out.quiet))))
                  refine wpQuiet_nil ?_
                  rintro w5 ⟨x5, hx5⟩
                  have hb5 := ext_below _ x5
                  rw [← hx5] at hb5
                  have HS5 := Lib.hid (And.intro (HS.out.1.below hb5) (bt HS.out.2 hb5))
                  clear hx5 x5 hb5 e0 e1 e2 e3 e4 e5 e6 d0 d1 d2 d3 d4 d5 d6 m0 m1 m2 m3 m4 ml hbs4 HAD
                  go_wp2
                  go_roundw
                  case rel => exact ⟨r + 1, by omega, by go_num, by rw [HNX.out], HS5⟩
                  case measure => simp [intOf]; omega
                | true =>
                  have HNX := Lib.hid (show cnt9 T C d (r + 1) = c + 1 from by rw [hnx]; simp)
                  clear hnx
                  go_upto_region 12 with (fail)
                  refine wp_region_pure (by kernel_rfl) (by kernel_rfl) ?_
                  repeat (first | go_big_quiet_step (first | (go_at_call 34; with_reducible exact HAD.out.quiet)) | (quiet_step (first | (go_at_call 34; with_reducible exact HAD.out.quiet))))
                  refine wpQuiet_nil ?_
                  rintro w5 ⟨x5, hx5⟩
                  have hb5 := ext_below _ x5
                  rw [← hx5] at hb5
                  have HS5 := Lib.hid (And.intro (HS.out.1.below hb5) (bt HS.out.2 hb5))
                  clear hx5 x5 hb5 e0 e1 e2 e3 e4 e5 e6 d0 d1 d2 d3 d4 d5 d6 m0 m1 m2 m3 m4 ml hbs4 HAD
                  go_wp2
                  go_roundw
                  case rel => exact ⟨r + 1, by omega, by go_num, by rw [HNX.out]; go_num, HS5⟩
                  case measure => simp [intOf]; omega
            · obtain rfl : n = r := by omega
              have HRK := Lib.hid (show cnt9 T C d n = rank T C d from by rw [HN.out]; exact cnt9_all T C d)
              have HNT := Lib.hid (nth9_next (T := T) (n := t) HD.out)
              rw [HRK.out]
              obtain ⟨rk, hrk⟩ : ∃ rk, rk = rank T C d := ⟨_, rfl⟩
              rw [← hrk] at HNT ⊢
              have hrkn : rk ≤ n := by have := cnt9_le T C d n; rw [hrk, ← HRK.out]; exact this
              clear hrk HRK hbw d1 d2 d3 d4 d5
              obtain ⟨di, ⟨dw, ds, da⟩⟩ := d
              simp only at d0 d6
              cases da with
              | false =>
                have HW := Lib.hid (show nth9 T C t (C.take (s + 1)) = nth9 T C t (C.take s) from by rw [HNT.out]; simp)
                go_wp2
                clear d0 d6 m4 ml
                go_roundw
                case rel => exact ⟨s + 1, by omega, by go_num, Lib.hid (by rw [HW.out]; exact HS.out)⟩
                case measure => simp [intOf]; omega
              | true =>
                by_cases hrt : rk = t
                · have hrb : ((rk : Int) == (t : Int)) = true := by simp; omega
                  have HW := Lib.hid (show ord9 T C t ++ nth9 T C t (C.take (s + 1)) = (ord9 T C t ++ nth9 T C t (C.take s)) ++ [di] from by rw [HNT.out]; simp [hrt])
                  obtain ⟨v2, w5, hrun, o2, g2, _⟩ := app_i64 (b := w4.heap.size) (HS.out.1.below (ba (Below.refl _ _) (.cells #[.int .i64 di] 2))) di (by simp [go_sem]) (HLB.out t (by omega) s) (by have := HS.out.2.size; simp; omega)
                  have HRA := Lib.hid hrun
                  have HB5 := Lib.hid (show Below w1.heap.size w1 w5 from (ba HS.out.2 _).grown g2 (by have := HS.out.2.size; simp; omega) (fun j hj => (HS.out.1.lt j hj).1))
                  have O2 := Lib.hid o2
                  clear hrun o2 g2
                  go_wp2_with (at_builtin; refine wpList_app_run rfl _ _ _ rfl rfl rfl HRA.out ?_)
                  clear d0 d6 m4 ml
                  go_roundw
                  case rel => exact ⟨s + 1, by omega, by go_num, Lib.hid ⟨by rw [HW.out]; exact O2.out, HB5.out⟩⟩
                  case measure => simp [intOf]; omega
                · have hrb : ((rk : Int) == (t : Int)) = false := by simp; omega
                  have HW := Lib.hid (show nth9 T C t (C.take (s + 1)) = nth9 T C t (C.take s) from by rw [HNT.out]; simp [hrt])
                  go_wp2
                  clear d0 d6 m4 ml
                  go_roundw
                  case rel => exact ⟨s + 1, by omega, by go_num, Lib.hid (by rw [HW.out]; exact HS.out)⟩
                  case measure => simp [intOf]; omega
        · obtain rfl : n = s := by omega
          have hq := HR.out
          rw [List.take_of_length_le (l := C) (by rw [HN.out]; exact Nat.le_refl _), ← ord9_succ] at hq
          have HR2 := Lib.hid hq
          clear hq HR
          go_wp2
          go_roundw
          case rel => exact ⟨t + 1, by omega, by go_num, HR2⟩
          case measure => simp [intOf]; omega
    · obtain rfl : n = t := by omega
      have HQ2 := Lib.hid HQ.out
      clear HQ
      go_wp2
      go_ret
      exact ⟨_, rfl, show OwnL _ _ _ _ _ _ _ from ownsRow_base HQ2.out.1 HB.out.size, bt HB.out HQ2.out.2⟩
end
end Go.Proofs.Ytgfjmafdfbghnaa

/- mancipleref24.Same at any two lists of offers. -/
import Derived.Test.YtnckjacbkhoppaaOf2
import Derived.Test.YtnckjacbkhoppaaVrS
namespace Go.Proofs.Ytnckjacbkhoppaa
open Go.RowKit
attribute [local go_sem] ext_cell ext_frozen Mix.calmUpon Mix.mUpon
instance decPf2 : DecidableEq (List Pt × Int) := inferInstance
instance decPf3 : DecidableEq (Int × List Pt × Int) := inferInstance
instance decPf4 : DecidableEq (Int × Int × List Pt × Int) := inferInstance
instance decPf5 : DecidableEq Pf := inferInstanceAs (DecidableEq (Int × Int × Int × List Pt × Int))
/-- A list of offers that can be read. -/
structure FL (w : World) (v : Value) (l : List Ofr) : Prop where
  rs : RS 5 ofenc w v l
  vec : ∀ x ∈ l, Vc w x.vv x.ps
theorem FL.below {w w' : World} {v : Value} {l : List Ofr} (h : FL w v l) (hb : Below w.heap.size w w') : FL w' v l := ⟨h.rs.below hb, fun x hx => (h.vec x hx).on hb⟩
theorem plO_same {x y : Ofr} : x.pl = y.pl ↔ x.id = y.id ∧ x.frame = y.frame ∧ x.agent = y.agent ∧ x.til = y.til ∧ x.ps = y.ps := by
  unfold Ofr.pl; simp only [Prod.mk.injEq]
  exact ⟨fun ⟨a, b, c, d, e⟩ => ⟨a, b, c, e, d⟩, fun ⟨a, b, c, e, d⟩ => ⟨a, b, c, d, e⟩⟩
theorem sameO_len (va vb : Value) (la lb : List Ofr) (hn : la.length ≠ lb.length) (W : World) (hA : FL W va la) (hB : FL W vb lb) : Calls Try.prog 34 #[va, vb] W fun e w' => e = .returned (.bool false) ∧ Below W.heap.size W w' := by
  obtain ⟨a, n, c, rfl, h1, _, _⟩ := hA.rs.at_
  obtain ⟨a', n', c', rfl, h2, _, _⟩ := hB.rs.at_
  have hnI : ((n : Int) == (n' : Int)) = false := by simp; omega
  have hne : n ≠ n' := by omega
  clear h1 h2 hn hA hB
  go_enter Try.func34, Try.ntmps34
  go_wp2
  go_ret
  exact ⟨rfl, Below.refl _ _⟩
set_option maxRecDepth 100000 in
set_option maxHeartbeats 4000000 in
theorem sameO_some (va vb : Value) (la lb : List Ofr) (hn : la.length = lb.length) (hbig : ∀ x ∈ la, x.ps.length < 1000000000) (W : World) (hA : FL W va la) (hB : FL W vb lb) : Calls Try.prog 34 #[va, vb] W fun e w' => e = .returned (.bool (decide (la.map Ofr.pl = lb.map Ofr.pl))) ∧ Below W.heap.size W w' := by
  obtain ⟨a, n, c, rfl, h1, hc1, hm1, hat⟩ := hA.rs.at_
  obtain ⟨a', n', c', rfl, h2, hc2, hm2, hbt⟩ := hB.rs.at_
  obtain rfl : n = n' := by omega
  have HA := Lib.hid hat; have HB := Lib.hid hbt
  have HN := Lib.hid (And.intro h1 h2)
  have HVA := Lib.hid hA.vec; have HVB := Lib.hid hB.vec
  have HBG := Lib.hid hbig
  have hnm : n ≤ 9223372036854775807 := by have h := hm1; unfold maxLen at h; omega
  clear hat hbt hA hB h1 h2 hn hbig hm1 hm2
  go_enter Try.func34, Try.ntmps34
  go_wp2
  go_loopw [5] (fun i wr => ∃ t : Nat, t ≤ n ∧ i = .int .i64 t ∧ Hid ((la.take t).map Ofr.pl = (lb.take t).map Ofr.pl) ∧ Below W.heap.size W wr) (fun i _ => n - (intOf i).toNat)
  case atStart => exact ⟨0, Nat.zero_le _, rfl, Lib.hid (by simp), by (repeat (first | assumption | exact Below.refl _ _ | refine ba ?_ _ | refine bd ?_ | refine bdn ?_ _ | refine bs ?_ (by first | omega | (simp; done) | (simp; omega)) _ | refine bt ?_ (by assumption)))⟩
  case round =>
    obtain ⟨t, ht, rfl, HV, hb1⟩ := hrel
    obtain ⟨w1, rfl⟩ : ∃ w1, w1 = wr := ⟨_, rfl⟩
    have hs1 : W.heap.size + 0 ≤ w1.heap.size := (by have h := hb1.size; first | omega | (simp at h; omega))
    obtain ⟨hc1, hf1, hl1⟩ := bcell hb1
    clear hl1
    by_cases hlt : t < n
    · have hts : (t : Int) < (n : Int) := by omega
      obtain ⟨x, hx⟩ := at_lt (l := la) (i := t) (by rw [← HN.out.1]; exact hlt)
      obtain ⟨y, hy⟩ := at_lt (l := lb) (i := t) (by rw [← HN.out.2]; exact hlt)
      obtain ⟨b, off, rfl, hb, hcell⟩ := HA.out t x hx
      obtain ⟨b', off', rfl, hb', hcell'⟩ := HB.out t y hy
      have c0 := hcell 0 _ rfl; have c1 := hcell 1 _ rfl; have c2 := hcell 2 _ rfl; have c3 := hcell 3 _ rfl; have c4 := hcell 4 _ rfl
      have d0 := hcell' 0 _ rfl; have d1 := hcell' 1 _ rfl; have d2 := hcell' 2 _ rfl; have d3 := hcell' 3 _ rfl; have d4 := hcell' 4 _ rfl
      simp only [Nat.add_zero] at c0 d0
      have hbl : b < w1.heap.size := Nat.lt_of_lt_of_le hb hb1.size
      have hbl' : b' < w1.heap.size := Nat.lt_of_lt_of_le hb' hb1.size
      have HXY := Lib.hid (And.intro hx hy)
      have HS := Lib.hid ((rsame_any x.vv y.vv x.ps y.ps (HBG.out x (mem_at hx))).app)
      clear hcell hcell' hx hy
      have HBA := Lib.hid (show Vc W x.vv x.ps ∧ Vc W y.vv y.ps from ⟨HVA.out x (mem_at HXY.out.1), HVB.out y (mem_at HXY.out.2)⟩)
      have HT := Lib.hid (show x.pl ≠ y.pl → decide (la.map Ofr.pl = lb.map Ofr.pl) = false from fun hne => decide_eq_false fun h => hne (by
        have h1 : (la.map Ofr.pl)[t]? = some x.pl := by rw [List.getElem?_map, HXY.out.1]; rfl
        have h2 : (lb.map Ofr.pl)[t]? = some y.pl := by rw [List.getElem?_map, HXY.out.2]; rfl
        rw [h, h2] at h1; exact (Option.some.inj h1).symm))
      have HW := Lib.hid (show x.pl = y.pl → (la.take (t + 1)).map Ofr.pl = (lb.take (t + 1)).map Ofr.pl from fun he => by
        rw [take_at HXY.out.1, take_at HXY.out.2, List.map_append, List.map_append, HV.out]; simp [he])
      have HPL := Lib.hid (plO_same (x := x) (y := y))
      obtain ⟨x0, x1, x2, xv, xs, x3⟩ := x
      obtain ⟨y0, y1, y2, yv, ys, y3⟩ := y
      simp only at c0 c1 c2 c3 c4 d0 d1 d2 d3 d4
      by_cases q0 : x0 = y0
      · have q0b : (x0 != y0) = false := by simpa using q0
        by_cases q1 : x1 = y1
        · have q1b : (x1 != y1) = false := by simpa using q1
          by_cases q2 : x2 = y2
          · have q2b : (x2 != y2) = false := by simpa using q2
            by_cases q3 : x3 = y3
            · have q3b : (x3 != y3) = false := by simpa using q3
              have HC := Lib.hid (show Vc w1 xv xs ∧ Vc w1 yv ys from clo_two xv yv xs ys _ _ HBA.out hb1)
              by_cases q4 : xs = ys
              · have HE := Lib.hid (HW.out (HPL.out.2 ⟨q0, q1, q2, q3, q4⟩))
                have HQ := rsame_any xv yv xs ys (HBG.out _ (mem_at HXY.out.1))
                rw [decide_eq_true q4] at HQ
                have HQ := Lib.hid fun z : Ext w1 => HQ.quiet (clo_two xv yv xs ys) (W := w1) HC.out (x := z)
                clear q0 q1 q2 q3 q4
                go_wp2_with fail
                refine wp_region_pure (by kernel_rfl) (by kernel_rfl) ?_
                repeat (first | go_big_quiet_step (((go_at_call 76; with_reducible exact HQ.out _))) | (quiet_step (((go_at_call 76; with_reducible exact HQ.out _)))))
                refine wpQuiet_nil ?_
                rintro w2 ⟨x2, hx2⟩
                have hb2 := ext_below _ x2
                rw [← hx2] at hb2
                clear hx2 x2
                have hs2 : w1.heap.size + 0 ≤ w2.heap.size := (by have h := hb2.size; first | omega | (simp at h; omega))
                have hb1_2 := bel hb1 hb2 (by (repeat (first | assumption | exact Below.refl _ _ | refine ba ?_ _ | refine bd ?_ | refine bdn ?_ _ | refine bs ?_ (by first | omega | (simp; done) | (simp; omega)) _ | refine bt ?_ (by assumption))))
                clear hc1 hf1
                obtain ⟨hc2, hf2, hl2⟩ := bcell hb2
                clear hl2
                go_wp2
                go_roundw
                case rel => exact ⟨t + 1, by omega, by go_num, HE, by (repeat (first | assumption | exact Below.refl _ _ | refine ba ?_ _ | refine bd ?_ | refine bdn ?_ _ | refine bs ?_ (by first | omega | (simp; done) | (simp; omega)) _ | refine bt ?_ (by assumption)))⟩
                case measure => simp [intOf]; omega
              · have HF := Lib.hid (HT.out fun h => q4 (HPL.out.1 h).2.2.2.2)
                have HQ := rsame_any xv yv xs ys (HBG.out _ (mem_at HXY.out.1))
                rw [decide_eq_false q4] at HQ
                have HQ := Lib.hid fun z : Ext w1 => HQ.quiet (clo_two xv yv xs ys) (W := w1) HC.out (x := z)
                clear q0 q1 q2 q3 q4
                go_wp2_with fail
                refine wp_region_pure (by kernel_rfl) (by kernel_rfl) ?_
                repeat (first | go_big_quiet_step (((go_at_call 76; with_reducible exact HQ.out _))) | (quiet_step (((go_at_call 76; with_reducible exact HQ.out _)))))
                refine wpQuiet_nil ?_
                rintro w2 ⟨x2, hx2⟩
                have hb2 := ext_below _ x2
                rw [← hx2] at hb2
                clear hx2 x2
                have hs2 : w1.heap.size + 0 ≤ w2.heap.size := (by have h := hb2.size; first | omega | (simp at h; omega))
                have hb1_2 := bel hb1 hb2 (by (repeat (first | assumption | exact Below.refl _ _ | refine ba ?_ _ | refine bd ?_ | refine bdn ?_ _ | refine bs ?_ (by first | omega | (simp; done) | (simp; omega)) _ | refine bt ?_ (by assumption))))
                clear hc1 hf1
                obtain ⟨hc2, hf2, hl2⟩ := bcell hb2
                clear hl2
                go_wp2
                go_ret
                exact ⟨by rw [HF.out]; rfl, by (repeat (first | assumption | exact Below.refl _ _ | refine ba ?_ _ | refine bd ?_ | refine bdn ?_ _ | refine bs ?_ (by first | omega | (simp; done) | (simp; omega)) _ | refine bt ?_ (by assumption)))⟩
            · have q3b : (x3 != y3) = true := by simpa using q3
              have HF := Lib.hid (HT.out fun h => q3 (HPL.out.1 h).2.2.2.1)
              clear q0 q1 q2 q3
              go_wp2_with fail
              refine wp_region_pure (by kernel_rfl) (by kernel_rfl) ?_
              repeat (first | go_big_quiet_step ((fail)) | (quiet_step ((fail))))
              refine wpQuiet_nil ?_
              rintro w2 ⟨x2, hx2⟩
              have hb2 := ext_below _ x2
              rw [← hx2] at hb2
              clear hx2 x2
              have hs2 : w1.heap.size + 0 ≤ w2.heap.size := (by have h := hb2.size; first | omega | (simp at h; omega))
              have hb1_2 := bel hb1 hb2 (by (repeat (first | assumption | exact Below.refl _ _ | refine ba ?_ _ | refine bd ?_ | refine bdn ?_ _ | refine bs ?_ (by first | omega | (simp; done) | (simp; omega)) _ | refine bt ?_ (by assumption))))
              clear hc1 hf1
              obtain ⟨hc2, hf2, hl2⟩ := bcell hb2
              clear hl2
              go_wp2
              go_ret
              exact ⟨by rw [HF.out]; rfl, by (repeat (first | assumption | exact Below.refl _ _ | refine ba ?_ _ | refine bd ?_ | refine bdn ?_ _ | refine bs ?_ (by first | omega | (simp; done) | (simp; omega)) _ | refine bt ?_ (by assumption)))⟩
          · have q2b : (x2 != y2) = true := by simpa using q2
            have HF := Lib.hid (HT.out fun h => q2 (HPL.out.1 h).2.2.1)
            clear q0 q1 q2
            go_wp2_with fail
            refine wp_region_pure (by kernel_rfl) (by kernel_rfl) ?_
            repeat (first | go_big_quiet_step ((fail)) | (quiet_step ((fail))))
            refine wpQuiet_nil ?_
            rintro w2 ⟨x2, hx2⟩
            have hb2 := ext_below _ x2
            rw [← hx2] at hb2
            clear hx2 x2
            have hs2 : w1.heap.size + 0 ≤ w2.heap.size := (by have h := hb2.size; first | omega | (simp at h; omega))
            have hb1_2 := bel hb1 hb2 (by (repeat (first | assumption | exact Below.refl _ _ | refine ba ?_ _ | refine bd ?_ | refine bdn ?_ _ | refine bs ?_ (by first | omega | (simp; done) | (simp; omega)) _ | refine bt ?_ (by assumption))))
            clear hc1 hf1
            obtain ⟨hc2, hf2, hl2⟩ := bcell hb2
            clear hl2
            go_wp2
            go_ret
            exact ⟨by rw [HF.out]; rfl, by (repeat (first | assumption | exact Below.refl _ _ | refine ba ?_ _ | refine bd ?_ | refine bdn ?_ _ | refine bs ?_ (by first | omega | (simp; done) | (simp; omega)) _ | refine bt ?_ (by assumption)))⟩
        · have q1b : (x1 != y1) = true := by simpa using q1
          have HF := Lib.hid (HT.out fun h => q1 (HPL.out.1 h).2.1)
          clear q0 q1
          go_wp2_with fail
          refine wp_region_pure (by kernel_rfl) (by kernel_rfl) ?_
          repeat (first | go_big_quiet_step ((fail)) | (quiet_step ((fail))))
          refine wpQuiet_nil ?_
          rintro w2 ⟨x2, hx2⟩
          have hb2 := ext_below _ x2
          rw [← hx2] at hb2
          clear hx2 x2
          have hs2 : w1.heap.size + 0 ≤ w2.heap.size := (by have h := hb2.size; first | omega | (simp at h; omega))
          have hb1_2 := bel hb1 hb2 (by (repeat (first | assumption | exact Below.refl _ _ | refine ba ?_ _ | refine bd ?_ | refine bdn ?_ _ | refine bs ?_ (by first | omega | (simp; done) | (simp; omega)) _ | refine bt ?_ (by assumption))))
          clear hc1 hf1
          obtain ⟨hc2, hf2, hl2⟩ := bcell hb2
          clear hl2
          go_wp2
          go_ret
          exact ⟨by rw [HF.out]; rfl, by (repeat (first | assumption | exact Below.refl _ _ | refine ba ?_ _ | refine bd ?_ | refine bdn ?_ _ | refine bs ?_ (by first | omega | (simp; done) | (simp; omega)) _ | refine bt ?_ (by assumption)))⟩
      · have q0b : (x0 != y0) = true := by simpa using q0
        have HF := Lib.hid (HT.out fun h => q0 (HPL.out.1 h).1)
        clear q0
        go_wp2_with fail
        refine wp_region_pure (by kernel_rfl) (by kernel_rfl) ?_
        repeat (first | go_big_quiet_step ((fail)) | (quiet_step ((fail))))
        refine wpQuiet_nil ?_
        rintro w2 ⟨x2, hx2⟩
        have hb2 := ext_below _ x2
        rw [← hx2] at hb2
        clear hx2 x2
        have hs2 : w1.heap.size + 0 ≤ w2.heap.size := (by have h := hb2.size; first | omega | (simp at h; omega))
        have hb1_2 := bel hb1 hb2 (by (repeat (first | assumption | exact Below.refl _ _ | refine ba ?_ _ | refine bd ?_ | refine bdn ?_ _ | refine bs ?_ (by first | omega | (simp; done) | (simp; omega)) _ | refine bt ?_ (by assumption))))
        clear hc1 hf1
        obtain ⟨hc2, hf2, hl2⟩ := bcell hb2
        clear hl2
        go_wp2
        go_ret
        exact ⟨by rw [HF.out]; rfl, by (repeat (first | assumption | exact Below.refl _ _ | refine ba ?_ _ | refine bd ?_ | refine bdn ?_ _ | refine bs ?_ (by first | omega | (simp; done) | (simp; omega)) _ | refine bt ?_ (by assumption)))⟩
    · obtain rfl : n = t := by omega
      have HX := Lib.hid (show decide (la.map Ofr.pl = lb.map Ofr.pl) = true from decide_eq_true (by
        have := HV.out
        rw [List.take_of_length_le (by rw [HN.out.1]; exact Nat.le_refl _), List.take_of_length_le (by rw [HN.out.2]; exact Nat.le_refl _)] at this
        exact this))
      go_wp2
      go_ret
      exact ⟨by rw [HX.out]; rfl, by (repeat (first | assumption | exact Below.refl _ _ | refine ba ?_ _ | refine bd ?_ | refine bdn ?_ _ | refine bs ?_ (by first | omega | (simp; done) | (simp; omega)) _ | refine bt ?_ (by assumption)))⟩
theorem sameO_any (va vb : Value) (la lb : List Ofr) (hbig : ∀ x ∈ la, x.ps.length < 1000000000) (W : World) (hA : FL W va la) (hB : FL W vb lb) : Calls Try.prog 34 #[va, vb] W fun e w' => e = .returned (.bool (decide (la.map Ofr.pl = lb.map Ofr.pl))) ∧ Below W.heap.size W w' := by
  by_cases hn : la.length = lb.length
  · exact sameO_some va vb la lb hn hbig W hA hB
  · rw [decide_eq_false fun h => hn (by simpa using congrArg List.length h)]
    exact sameO_len va vb la lb hn W hA hB
theorem sameO_yes (va vb : Value) (la lb : List Ofr) (hbig : ∀ x ∈ la, x.ps.length < 1000000000) (he : la.map Ofr.pl = lb.map Ofr.pl) (W : World) (hA : FL W va la) (hB : FL W vb lb) : Calls Try.prog 34 #[va, vb] W fun e w' => e = .returned (.bool true) ∧ Below W.heap.size W w' := by
  have := sameO_any va vb la lb hbig W hA hB
  rwa [decide_eq_true he] at this
end Go.Proofs.Ytnckjacbkhoppaa

/- mancipleref22.Same at any two lists of agents. -/
import Derived.Test.YtennhfkhdfalfaaAg7
import Derived.Test.YtennhfkhdfalfaaVrS
namespace Go.Proofs.Ytennhfkhdfalfaa
open Go.RowKit
attribute [local go_sem] ext_cell ext_frozen Mix.calmUpon Mix.mUpon
instance decPa2 : DecidableEq (List Pt × List Pt) := inferInstance
instance decPa3 : DecidableEq Pa := inferInstanceAs (DecidableEq (Int × List Pt × List Pt))
theorem plQ_same {x y : Qa} : x.pl = y.pl ↔ x.id = y.id ∧ x.tps = y.tps ∧ x.fps = y.fps := by
  unfold Qa.pl; simp only [Prod.mk.injEq]
theorem sameQ_len (va vb : Value) (la lb : List Qa) (hn : la.length ≠ lb.length) (W : World) (hA : AL W va la) (hB : AL W vb lb) : Calls Try.prog 18 #[va, vb] W fun e w' => e = .returned (.bool false) ∧ Below W.heap.size W w' := by
  obtain ⟨a, n, c, rfl, h1, _, _⟩ := hA.rs.at_
  obtain ⟨a', n', c', rfl, h2, _, _⟩ := hB.rs.at_
  have hnI : ((n : Int) == (n' : Int)) = false := by simp; omega
  have hne : n ≠ n' := by omega
  clear h1 h2 hn hA hB
  go_enter Try.func18, Try.ntmps18
  go_wp2
  go_ret
  exact ⟨rfl, Below.refl _ _⟩
set_option maxRecDepth 100000 in
set_option maxHeartbeats 4000000 in
theorem sameQ_some (va vb : Value) (la lb : List Qa) (hn : la.length = lb.length) (hbig : ∀ x ∈ la, x.tps.length < 1000000000 ∧ x.fps.length < 1000000000) (W : World) (hA : AL W va la) (hB : AL W vb lb) : Calls Try.prog 18 #[va, vb] W fun e w' => e = .returned (.bool (decide (la.map Qa.pl = lb.map Qa.pl))) ∧ Below W.heap.size W w' := by
  obtain ⟨a, n, c, rfl, h1, hc1, hm1, hat⟩ := hA.rs.at_
  obtain ⟨a', n', c', rfl, h2, hc2, hm2, hbt⟩ := hB.rs.at_
  obtain rfl : n = n' := by omega
  have HA := Lib.hid hat; have HB := Lib.hid hbt
  have HN := Lib.hid (And.intro h1 h2)
  have HVA := Lib.hid hA.vec; have HVB := Lib.hid hB.vec
  have HBG := Lib.hid hbig
  have hnm : n ≤ 9223372036854775807 := by have h := hm1; unfold maxLen at h; omega
  clear hat hbt hA hB h1 h2 hn hbig hm1 hm2
  go_enter Try.func18, Try.ntmps18
  go_wp2
  go_loopw [5] (fun i wr => ∃ t : Nat, t ≤ n ∧ i = .int .i64 t ∧ Hid ((la.take t).map Qa.pl = (lb.take t).map Qa.pl) ∧ Below W.heap.size W wr) (fun i _ => n - (intOf i).toNat)
  case atStart => exact ⟨0, Nat.zero_le _, rfl, Lib.hid (by simp), by (repeat (first | assumption | exact Below.refl _ _ | refine ba ?_ _ | refine bd ?_ | refine bdn ?_ _ | refine bs ?_ (by first | omega | (simp; done) | (simp; omega)) _ | refine bt ?_ (by assumption)))⟩
  case round =>
    obtain ⟨t, ht, rfl, HV, hb1⟩ := hrel
    obtain ⟨w1, rfl⟩ : ∃ w1, w1 = wr := ⟨_, rfl⟩
    have hs1 : W.heap.size + 0 ≤ w1.heap.size := (by have h := hb1.size; first | omega | (simp at h; omega))
    obtain ⟨hc1, hf1, hl1⟩ := bcell hb1
    clear hl1
    by_cases hlt : t < n
    · have hts : (t : Int) < (n : Int) := by omega
      obtain ⟨x, hx⟩ := at_lt (l := la) (i := t) (by rw [← HN.out.1]; exact hlt)
      obtain ⟨y, hy⟩ := at_lt (l := lb) (i := t) (by rw [← HN.out.2]; exact hlt)
      obtain ⟨b, off, rfl, hb, hcell⟩ := HA.out t x hx
      obtain ⟨b', off', rfl, hb', hcell'⟩ := HB.out t y hy
      have c0 := hcell 0 _ rfl; have c1 := hcell 1 _ rfl; have c2 := hcell 2 _ rfl
      have d0 := hcell' 0 _ rfl; have d1 := hcell' 1 _ rfl; have d2 := hcell' 2 _ rfl
      simp only [Nat.add_zero] at c0 d0
      have hbl : b < w1.heap.size := Nat.lt_of_lt_of_le hb hb1.size
      have hbl' : b' < w1.heap.size := Nat.lt_of_lt_of_le hb' hb1.size
      have HXY := Lib.hid (And.intro hx hy)
      clear hcell hcell' hx hy
      have HC := Lib.hid (show (Vc w1 x.tv x.tps ∧ Vc w1 y.tv y.tps) ∧ Vc w1 x.fv x.fps ∧ Vc w1 y.fv y.fps from
        ⟨⟨(HVA.out x (mem_at HXY.out.1)).1.on hb1, (HVB.out y (mem_at HXY.out.2)).1.on hb1⟩, (HVA.out x (mem_at HXY.out.1)).2.on hb1, (HVB.out y (mem_at HXY.out.2)).2.on hb1⟩)
      have HT := Lib.hid (show x.pl ≠ y.pl → decide (la.map Qa.pl = lb.map Qa.pl) = false from fun hne => decide_eq_false fun h => hne (by
        have h1 : (la.map Qa.pl)[t]? = some x.pl := by rw [List.getElem?_map, HXY.out.1]; rfl
        have h2 : (lb.map Qa.pl)[t]? = some y.pl := by rw [List.getElem?_map, HXY.out.2]; rfl
        rw [h, h2] at h1; exact (Option.some.inj h1).symm))
      have HW := Lib.hid (show x.pl = y.pl → (la.take (t + 1)).map Qa.pl = (lb.take (t + 1)).map Qa.pl from fun he => by
        rw [take_at HXY.out.1, take_at HXY.out.2, List.map_append, List.map_append, HV.out]; simp [he])
      have HPL := Lib.hid (plQ_same (x := x) (y := y))
      have HBX := Lib.hid (HBG.out x (mem_at HXY.out.1))
      obtain ⟨xi, xv, xs, xu, xt⟩ := x
      obtain ⟨yi, yv, ys, yu, yt⟩ := y
      simp only at c0 c1 c2 d0 d1 d2
      by_cases q0 : xi = yi
      · have q0b : (xi != yi) = false := by simpa using q0
        by_cases q1 : xs = ys
        · by_cases q2 : xt = yt
          · have HE := Lib.hid (HW.out (HPL.out.2 ⟨q0, q1, q2⟩))
            have hq := rsame_any xv yv xs ys HBX.out.1
            rw [decide_eq_true q1] at hq
            have HQ := Lib.hid fun z : Ext w1 => hq.quiet (clo_two xv yv xs ys) (W := w1) HC.out.1 (x := z)
            have hq2 := rsame_any xu yu xt yt HBX.out.2
            rw [decide_eq_true q2] at hq2
            have HQ2 := Lib.hid fun z : Ext w1 => hq2.quiet (clo_two xu yu xt yt) (W := w1) HC.out.2 (x := z)
            clear q0 q1 q2 hq hq2
            go_wp2_with fail
            refine wp_region_pure (by kernel_rfl) (by kernel_rfl) ?_
            repeat (first | go_big_quiet_step (((go_at_call 66; with_reducible (first | exact HQ.out _ | exact HQ2.out _)))) | (quiet_step (((go_at_call 66; with_reducible (first | exact HQ.out _ | exact HQ2.out _))))))
            refine wpQuiet_nil ?_
            rintro w2 ⟨x2, hx2⟩
            have hb2 := ext_below _ x2
            rw [← hx2] at hb2
            clear hx2 x2
            have hs2 : w1.heap.size + 0 ≤ w2.heap.size := (by have h := hb2.size; first | omega | (simp at h; omega))
            have hb1_2 := bel hb1 hb2 (by (repeat (first | assumption | exact Below.refl _ _ | refine ba ?_ _ | refine bd ?_ | refine bdn ?_ _ | refine bs ?_ (by first | omega | (simp; done) | (simp; omega)) _ | refine bt ?_ (by assumption))))
            clear hc1 hf1
            obtain ⟨hc2, hf2, hl2⟩ := bcell hb2
            clear hl2
            go_wp2
            go_roundw
            case rel => exact ⟨t + 1, by omega, by go_num, HE, by (repeat (first | assumption | exact Below.refl _ _ | refine ba ?_ _ | refine bd ?_ | refine bdn ?_ _ | refine bs ?_ (by first | omega | (simp; done) | (simp; omega)) _ | refine bt ?_ (by assumption)))⟩
            case measure => simp [intOf]; omega
          · have HF := Lib.hid (HT.out fun h => q2 (HPL.out.1 h).2.2)
            have hq := rsame_any xv yv xs ys HBX.out.1
            rw [decide_eq_true q1] at hq
            have HQ := Lib.hid fun z : Ext w1 => hq.quiet (clo_two xv yv xs ys) (W := w1) HC.out.1 (x := z)
            have hq2 := rsame_any xu yu xt yt HBX.out.2
            rw [decide_eq_false q2] at hq2
            have HQ2 := Lib.hid fun z : Ext w1 => hq2.quiet (clo_two xu yu xt yt) (W := w1) HC.out.2 (x := z)
            clear q0 q1 q2 hq hq2
            go_wp2_with fail
            refine wp_region_pure (by kernel_rfl) (by kernel_rfl) ?_
            repeat (first | go_big_quiet_step (((go_at_call 66; with_reducible (first | exact HQ.out _ | exact HQ2.out _)))) | (quiet_step (((go_at_call 66; with_reducible (first | exact HQ.out _ | exact HQ2.out _))))))
            refine wpQuiet_nil ?_
            rintro w2 ⟨x2, hx2⟩
            have hb2 := ext_below _ x2
            rw [← hx2] at hb2
            clear hx2 x2
            have hs2 : w1.heap.size + 0 ≤ w2.heap.size := (by have h := hb2.size; first | omega | (simp at h; omega))
            have hb1_2 := bel hb1 hb2 (by (repeat (first | assumption | exact Below.refl _ _ | refine ba ?_ _ | refine bd ?_ | refine bdn ?_ _ | refine bs ?_ (by first | omega | (simp; done) | (simp; omega)) _ | refine bt ?_ (by assumption))))
            clear hc1 hf1
            obtain ⟨hc2, hf2, hl2⟩ := bcell hb2
            clear hl2
            go_wp2
            go_ret
            exact ⟨by rw [HF.out]; rfl, by (repeat (first | assumption | exact Below.refl _ _ | refine ba ?_ _ | refine bd ?_ | refine bdn ?_ _ | refine bs ?_ (by first | omega | (simp; done) | (simp; omega)) _ | refine bt ?_ (by assumption)))⟩
        · have HF := Lib.hid (HT.out fun h => q1 (HPL.out.1 h).2.1)
          have hq := rsame_any xv yv xs ys HBX.out.1
          rw [decide_eq_false q1] at hq
          have HQ := Lib.hid fun z : Ext w1 => hq.quiet (clo_two xv yv xs ys) (W := w1) HC.out.1 (x := z)
          clear q0 q1 hq
          go_wp2_with fail
          refine wp_region_pure (by kernel_rfl) (by kernel_rfl) ?_
          repeat (first | go_big_quiet_step (((go_at_call 66; with_reducible exact HQ.out _))) | (quiet_step (((go_at_call 66; with_reducible exact HQ.out _)))))
          refine wpQuiet_nil ?_
          rintro w2 ⟨x2, hx2⟩
          have hb2 := ext_below _ x2
          rw [← hx2] at hb2
          clear hx2 x2
          have hs2 : w1.heap.size + 0 ≤ w2.heap.size := (by have h := hb2.size; first | omega | (simp at h; omega))
          have hb1_2 := bel hb1 hb2 (by (repeat (first | assumption | exact Below.refl _ _ | refine ba ?_ _ | refine bd ?_ | refine bdn ?_ _ | refine bs ?_ (by first | omega | (simp; done) | (simp; omega)) _ | refine bt ?_ (by assumption))))
          clear hc1 hf1
          obtain ⟨hc2, hf2, hl2⟩ := bcell hb2
          clear hl2
          go_wp2
          go_ret
          exact ⟨by rw [HF.out]; rfl, by (repeat (first | assumption | exact Below.refl _ _ | refine ba ?_ _ | refine bd ?_ | refine bdn ?_ _ | refine bs ?_ (by first | omega | (simp; done) | (simp; omega)) _ | refine bt ?_ (by assumption)))⟩
      · have q0b : (xi != yi) = true := by simpa using q0
        have HF := Lib.hid (HT.out fun h => q0 (HPL.out.1 h).1)
        clear q0
        go_wp2_with fail
        refine wp_region_pure (by kernel_rfl) (by kernel_rfl) ?_
        repeat (first | go_big_quiet_step ((fail)) | (quiet_step ((fail))))
        refine wpQuiet_nil ?_
        rintro w2 ⟨x2, hx2⟩
        have hb2 := ext_below _ x2
        rw [← hx2] at hb2
        clear hx2 x2
        have hs2 : w1.heap.size + 0 ≤ w2.heap.size := (by have h := hb2.size; first | omega | (simp at h; omega))
        have hb1_2 := bel hb1 hb2 (by (repeat (first | assumption | exact Below.refl _ _ | refine ba ?_ _ | refine bd ?_ | refine bdn ?_ _ | refine bs ?_ (by first | omega | (simp; done) | (simp; omega)) _ | refine bt ?_ (by assumption))))
        clear hc1 hf1
        obtain ⟨hc2, hf2, hl2⟩ := bcell hb2
        clear hl2
        go_wp2
        go_ret
        exact ⟨by rw [HF.out]; rfl, by (repeat (first | assumption | exact Below.refl _ _ | refine ba ?_ _ | refine bd ?_ | refine bdn ?_ _ | refine bs ?_ (by first | omega | (simp; done) | (simp; omega)) _ | refine bt ?_ (by assumption)))⟩
    · obtain rfl : n = t := by omega
      have HX := Lib.hid (show decide (la.map Qa.pl = lb.map Qa.pl) = true from decide_eq_true (by
        have := HV.out
        rw [List.take_of_length_le (by rw [HN.out.1]; exact Nat.le_refl _), List.take_of_length_le (by rw [HN.out.2]; exact Nat.le_refl _)] at this
        exact this))
      go_wp2
      go_ret
      exact ⟨by rw [HX.out]; rfl, by (repeat (first | assumption | exact Below.refl _ _ | refine ba ?_ _ | refine bd ?_ | refine bdn ?_ _ | refine bs ?_ (by first | omega | (simp; done) | (simp; omega)) _ | refine bt ?_ (by assumption)))⟩
theorem sameQ_any (va vb : Value) (la lb : List Qa) (hbig : ∀ x ∈ la, x.tps.length < 1000000000 ∧ x.fps.length < 1000000000) (W : World) (hA : AL W va la) (hB : AL W vb lb) : Calls Try.prog 18 #[va, vb] W fun e w' => e = .returned (.bool (decide (la.map Qa.pl = lb.map Qa.pl))) ∧ Below W.heap.size W w' := by
  by_cases hn : la.length = lb.length
  · exact sameQ_some va vb la lb hn hbig W hA hB
  · rw [decide_eq_false fun h => hn (by simpa using congrArg List.length h)]
    exact sameQ_len va vb la lb hn W hA hB
theorem sameQ_yes (va vb : Value) (la lb : List Qa) (hbig : ∀ x ∈ la, x.tps.length < 1000000000 ∧ x.fps.length < 1000000000) (he : la.map Qa.pl = lb.map Qa.pl) (W : World) (hA : AL W va la) (hB : AL W vb lb) : Calls Try.prog 18 #[va, vb] W fun e w' => e = .returned (.bool true) ∧ Below W.heap.size W w' := by
  have := sameQ_any va vb la lb hbig W hA hB
  rwa [decide_eq_true he] at this
end Go.Proofs.Ytennhfkhdfalfaa

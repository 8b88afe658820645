/- pool: what the law PoolTells reckons. -/
import Derived.Test.YtnckjacbkhoppaaPo8
namespace Go.Proofs.Ytnckjacbkhoppaa
open Go.RowKit Go.Maps
attribute [local go_sem] ext_cell ext_frozen extC_cell extC_frozen Mix.calmUpon Mix.mUpon
/-- How many tell of a launch. -/
def cnt13 (l : List Pe) : Nat := (l.filter fun e => e.1 == 13).length
theorem cnt_evs (f g : Int) (l : List Qo) : cnt13 (evsOf f g l) = cntL l := by
  unfold cnt13 cntL evsOf
  induction l with
  | nil => rfl
  | cons o l ih =>
    rw [List.filterMap_cons, List.filter_cons]
    unfold evOf at ih ⊢
    by_cases h1 : o.1 = 1
    · simp only [h1, if_true]
      rw [List.filter_cons]
      simp [ih]
    · by_cases h2 : o.1 = 2
      · simp [h2, ih]
      · by_cases h3 : o.1 = 3
        · simp [h3, ih]
        · simp [h1, h2, h3, ih]
set_option maxRecDepth 100000 in
set_option maxHeartbeats 4000000 in
theorem tells15 (W : World) {ov : Value} {l : List Po} (f g : Int) (hO : OL W ov l) : Calls Try.prog 3 #[.int .i64 f, .int .i64 g, ov] W fun e W' => e = .returned (.bool true) ∧ Below W.heap.size W W' := by
  have HF := Lib.hid (few15 hO (Vc.nil W))
  have HO := Lib.hid hO
  obtain ⟨oa, on, oc, rfl, -, -, -, -⟩ := hO.rs.at_
  clear hO
  go_enter Try.func3, Try.ntmps3
  go_wp2_with fail
  refine HF.out.mono ?_
  rintro e w1 ⟨rfl, hb1⟩
  have HB1 := Lib.hid hb1
  clear hb1
  rw [show decide (([] : List Pt).length ≤ 150) = true from rfl, Bool.true_and]
  by_cases hfw : FewO l
  · rw [show decide (FewO l) = true from decide_eq_true hfw]
    have HW := Lib.hid hfw
    clear hfw
    have HR := Lib.hid (rEvents_any f g (HO.out.below HB1.out) (by have := HW.out.1; omega) fun x hx => by have := HW.out.2 x hx; omega)
    go_wp2_with fail
    refine HR.out.mono ?_
    rintro e w2 ⟨ev, el, rfl, hel, hpl, hb2⟩
    have HB2 := Lib.hid (bt HB1.out hb2)
    have HEL := Lib.hid hel; have HPL := Lib.hid hpl
    obtain ⟨a, n, c, rfl, hn, hc, hm, hat⟩ := hel.rs.at_
    have hn9 : n ≤ 9223372036854775807 := by unfold maxLen at hm; omega
    have HN := Lib.hid hn; have HAT := Lib.hid hat
    clear hel hpl hn hc hm hat hb2
    go_wp2
    go_loopw [8, 9] (fun sv iv wr => ∃ (t q : Nat), t ≤ n ∧ iv = .int .i64 t ∧ sv = .int .i64 q ∧ q ≤ t ∧ Hid (Below w2.heap.size w2 wr ∧ q = ((el.take t).filter fun x => x.kind == 13).length)) (fun _ iv _ => n - (intOf iv).toNat)
    case atStart => exact ⟨0, 0, Nat.zero_le _, rfl, rfl, Nat.le_refl _, Lib.hid ⟨Below.refl _ _, rfl⟩⟩
    case round =>
      obtain ⟨t, q, ht, rfl, rfl, hqt, HQ⟩ := hrel
      obtain ⟨w3, rfl⟩ : ∃ w3, w3 = wr := ⟨_, rfl⟩
      by_cases hlt : t < n
      · have hts : (t : Int) < (n : Int) := by omega
        obtain ⟨x, hx⟩ := at_lt (l := el) (i := t) (by rw [← HN.out]; exact hlt)
        have HT := Lib.hid (show ((el.take (t + 1)).filter fun x => x.kind == 13).length = q + (if (x.kind == 13) = true then 1 else 0) from by
          rw [take_at hx, List.filter_append, List.length_append, ← HQ.out.2, List.filter_cons, List.filter_nil]
          split <;> rfl)
        obtain ⟨b, off, rfl, hb, hcell⟩ := HAT.out t x hx
        have d0 := (HQ.out.1.cell (p := ⟨b, _, none⟩) hb).trans (hcell 0 _ rfl)
        simp only [Nat.add_zero] at d0
        have q0 : b < w3.heap.size := Nat.lt_of_lt_of_le hb HQ.out.1.size
        clear hcell hx hb
        by_cases hk : x.kind = 13
        · have hkb : (x.kind == 13) = true := by simp [hk]
          have HI := Lib.hid (show q + 1 = ((el.take (t + 1)).filter fun x => x.kind == 13).length from by rw [HT.out, if_pos (by exact hkb)])
          clear hk
          go_wp2
          go_roundw
          case rel => exact ⟨t + 1, q + 1, by omega, by go_num, by go_num, by omega, Lib.hid ⟨HQ.out.1, HI.out⟩⟩
          case measure => simp [intOf]; omega
        · have hkb : (x.kind == 13) = false := by simp [hk]
          have HI := Lib.hid (show q = ((el.take (t + 1)).filter fun x => x.kind == 13).length from by rw [HT.out, if_neg (by rw [hkb]; simp)]; rfl)
          clear hk
          go_wp2
          go_roundw
          case rel => exact ⟨t + 1, q, by omega, by go_num, rfl, by omega, Lib.hid ⟨HQ.out.1, HI.out⟩⟩
          case measure => simp [intOf]; omega
      · obtain rfl : n = t := by omega
        have HC := Lib.hid (show q = cntL (l.map Po.pl) from by
          rw [HQ.out.2, HN.out, List.take_length, ← cnt_evs f g, ← HPL.out]; unfold cnt13; rw [List.filter_map, List.length_map]; rfl)
        have HP := Lib.hid (pEvents_any f g (HO.out.below (bt HB2.out HQ.out.1)) (by have := HW.out.1; omega) fun x hx => by have := HW.out.2 x hx; omega)
        have HB3 := Lib.hid (bt HB2.out HQ.out.1)
        have HEL3 := Lib.hid (show EL w3 _ el from ⟨HEL.out.rs.below HQ.out.1, fun x hx => (HEL.out.vec x hx).on HQ.out.1⟩)
        clear HQ
        go_wp2_with fail
        refine HP.out.mono ?_
        rintro e w4 ⟨pv, pl, rfl, hpl, hpp, hb4⟩
        obtain ⟨pa, pn, pc, rfl, -, -, -, -⟩ := hpl.rs.at_
        have HS := Lib.hid (sev_yes _ _ pl el (fun x hx => by
          have hm : x.pl ∈ evsOf f g (l.map Po.pl) := by rw [← hpp]; exact List.mem_map_of_mem hx
          obtain ⟨o, ho, he⟩ := List.mem_filterMap.1 hm
          obtain ⟨y, hy, rfl⟩ := List.mem_map.1 ho
          have hl := HW.out.2 y hy
          have h2 : x.ps = y.ps := by
            unfold evOf at he
            split at he
            · have := Option.some.inj he; exact (congrArg (fun e : Pe => e.2.2.2.2) this).symm
            · split at he
              · have := Option.some.inj he; exact (congrArg (fun e : Pe => e.2.2.2.2) this).symm
              · split at he
                · have := Option.some.inj he; exact (congrArg (fun e : Pe => e.2.2.2.2) this).symm
                · cases he
          rw [h2]; omega) (by rw [hpp, HPL.out]) w4 hpl ⟨HEL3.out.rs.below hb4, fun x hx => (HEL3.out.vec x hx).on hb4⟩)
        have HB4 := Lib.hid (bt HB3.out hb4)
        clear hpl hpp hb4
        go_wp2_with fail
        refine HS.out.mono ?_
        rintro e w5 ⟨rfl, hb5⟩
        have HB5 := Lib.hid (bt HB4.out hb5)
        have HT := Lib.hid (Tasks_any (HO.out.below HB5.out))
        clear hb5
        go_wp2_with fail
        refine HT.out.mono ?_
        rintro e w6 ⟨rfl, hb6⟩
        have HB6 := Lib.hid (bt HB5.out hb6)
        rw [← HC.out]
        have HK := Lib.hid (works15 w6)
        clear hb6
        go_wp2_with fail
        refine HK.out.mono ?_
        rintro e w7 ⟨rfl, hb7⟩
        have HB7 := Lib.hid (bt HB6.out hb7)
        clear hb7
        go_wp2
        go_ret
        exact ⟨rfl, HB7.out⟩
  · rw [show decide (FewO l) = false from decide_eq_false hfw]
    go_wp2
    go_ret
    exact ⟨rfl, HB1.out⟩
end Go.Proofs.Ytnckjacbkhoppaa

/- frames: New; an act on a table; manciplelaw23.works. -/
import Derived.Test.YtajcelmnblncaaaFr5
namespace Go.Proofs.Ytajcelmnblncaaa
open Go.RowKit Go.Maps
open Go.ChangeMaps (setBlock)
attribute [local go_sem] ext_cell ext_frozen extC_cell extC_frozen Mix.calmUpon Mix.mUpon eqFr
theorem makeFm (w : World) : (Instr.makeMap 124 none).run Try.prog w = .ok (.map (some w.heap.size)) (w.alloc (.map #[] 0)) := by kernel_rfl
set_option maxRecDepth 100000 in
theorem fnew_any (w : World) {cap : Int} (hc : 1 ≤ cap) : Calls Try.prog 54 #[.int .i64 cap] w fun e w' => e = .returned (ptr (w.heap.size + 1)) ∧ TS w' (w.heap.size + 1) w.heap.size cap [] ∧ Below w.heap.size w w' := by
  have n1 : ¬ cap < 1 := by omega
  have hmm := makeFm
  go_enter Try.func54, Try.ntmps54
  go_wp2
  go_ret
  refine ⟨rfl, ⟨fun _ => (0, 0), [], ⟨?_, ?_, fun k => rfl, rfl, RO.none_, by omega, by simp⟩⟩, by (repeat (first | assumption | exact Below.refl _ _ | refine ba ?_ _ | refine bd ?_ | refine bdn ?_ _ | refine bs ?_ (by first | omega | (simp; done) | (simp; omega)) _ | refine bt ?_ (by assumption)))⟩
  · have e : (Try.zeroCells129.setIfInBounds 0 (.int .i64 cap)).setIfInBounds 1 (.map (some w.heap.size)) = (tcs cap w.heap.size fun _ => (0, 0)).toArray := by kernel_rfl
    rw [e]
    have := heap_alloc_new (w.alloc (.map #[] 0)) (.cells (tcs cap w.heap.size fun _ => (0, 0)).toArray 129)
    rw [show (w.alloc (.map #[] 0)).heap.size = w.heap.size + 1 by simp] at this
    exact this
  · exact (MapK.made w).below (ba (Below.refl _ _) _) (by simp)
theorem fnew_none (w : World) {cap : Int} (hc : cap < 1) : Calls Try.prog 54 #[.int .i64 cap] w fun e w' => e = .returned (.pointer none) ∧ Below w.heap.size w w' := by
  go_enter Try.func54, Try.ntmps54
  go_wp2
  go_ret
  exact ⟨rfl, Below.refl _ _⟩
abbrev aval (a : FAct) : Value := .agg #[.int .i64 a.kind, .int .i64 a.id, .int .i64 a.role, .int .i64 a.weight, .int .i64 a.time]
section
variable {w : World} {tp M : Nat} {cap : Int} {S : List Fr}
def DoPost (w : World) (tp M : Nat) (cap : Int) (S : List Fr) (a : FAct) : Ending → World → Prop := TP w tp M cap (fstep cap S a).1 (.tuple #[.bool (fstep cap S a).2.1, .int .i64 (fstep cap S a).2.2])
set_option maxRecDepth 100000 in
set_option maxHeartbeats 1000000 in
theorem fdo (h : TS w tp M cap S) (hbig : S.length < 900000) (a : FAct) (hk : J64 a.id) : Calls Try.prog 57 #[ptr tp, aval a] w (DoPost w tp M cap S a) := by
  obtain ⟨kind, id, role, wt, t⟩ := a
  have H := Lib.hid h
  have HB0 := Lib.hid (show Below w.heap.size w (w.alloc (.cells #[.int .i64 kind, .int .i64 id, .int .i64 role, .int .i64 wt, .int .i64 t] 110)) from ba (Below.refl _ _) _)
  unfold DoPost
  by_cases h0 : kind = 0
  · subst h0
    have E1 := Lib.hid (show fstep cap S ⟨0, id, role, wt, t⟩ = fsub cap S ⟨0, id, role, wt, t⟩ from if_pos rfl)
    clear h
    go_enter Try.func57, Try.ntmps57
    go_wp2_with fail
    refine (fsubs (H.out.below HB0.out) hbig 0 id role wt t hk).mono ?_
    rintro e w1 ⟨rfl, hts, hc⟩
    have HT := Lib.hid hts; have HC := Lib.hid hc
    clear hts hc
    go_wp2
    go_ret2
    rw [E1.out]
    exact ⟨rfl, HT.out, (Chg.of_below _ HB0.out).same HC.out⟩
  · have k0 : (kind == 0) = false := by simpa using h0
    by_cases h1 : kind = 1
    · subst h1
      have E1 := Lib.hid (show fstep cap S ⟨1, id, role, wt, t⟩ = ((fdis S ⟨1, id, role, wt, t⟩).1, false, (fdis S ⟨1, id, role, wt, t⟩).2) from (if_neg (show ¬ (1 : Int) = 0 by decide)).trans (if_pos rfl))
      clear h h0
      go_enter Try.func57, Try.ntmps57
      go_wp2_with fail
      refine (fdisc (H.out.below HB0.out) hk role wt 1).mono ?_
      rintro e w1 ⟨rfl, hts, hc⟩
      have HT := Lib.hid hts; have HC := Lib.hid hc
      clear hts hc
      go_wp2
      go_ret2
      rw [E1.out]
      exact ⟨rfl, HT.out, (Chg.of_below _ HB0.out).same HC.out⟩
    · have k1 : (kind == 1) = false := by simpa using h1
      by_cases h2 : kind = 2
      · subst h2
        have E1 := Lib.hid (show fstep cap S ⟨2, id, role, wt, t⟩ = (delF S id, (fndF S id).isSome, 0) from (if_neg (show ¬ (2 : Int) = 0 by decide)).trans ((if_neg (show ¬ (2 : Int) = 1 by decide)).trans (if_pos rfl)))
        clear h h0 h1
        go_enter Try.func57, Try.ntmps57
        go_wp2_with fail
        refine (fdrop (H.out.below HB0.out) hk).mono ?_
        rintro e w1 ⟨rfl, hts, hc⟩
        have HT := Lib.hid hts; have HC := Lib.hid hc
        clear hts hc
        go_wp2
        go_ret2
        rw [E1.out]
        exact ⟨rfl, HT.out, (Chg.of_below _ HB0.out).same HC.out⟩
      · have k2 : (kind == 2) = false := by simpa using h2
        have e1 : fstep cap S ⟨kind, id, role, wt, t⟩ = ((fqui S id (decide (kind = 3))).1, false, (fqui S id (decide (kind = 3))).2) := (if_neg h0).trans ((if_neg h1).trans (if_neg h2))
        clear h h0 h1 h2
        by_cases h3 : kind = 3
        · subst h3
          have E1 := Lib.hid (e1.trans (show _ = ((fqui S id true).1, false, (fqui S id true).2) from rfl))
          clear e1
          go_enter Try.func57, Try.ntmps57
          go_wp2_with fail
          refine (fquiet (H.out.below HB0.out) hk true).mono ?_
          rintro e w1 ⟨rfl, hts, hc⟩
          have HT := Lib.hid hts; have HC := Lib.hid hc
          clear hts hc
          go_wp2
          go_ret2
          rw [E1.out]
          exact ⟨rfl, HT.out, (Chg.of_below _ HB0.out).same HC.out⟩
        · have k3 : (kind == 3) = false := by simpa using h3
          rw [decide_eq_false h3] at e1
          have E1 := Lib.hid e1
          clear e1 h3
          go_enter Try.func57, Try.ntmps57
          go_wp2_with fail
          refine (fquiet (H.out.below HB0.out) hk false).mono ?_
          rintro e w1 ⟨rfl, hts, hc⟩
          have HT := Lib.hid hts; have HC := Lib.hid hc
          clear hts hc
          go_wp2
          go_ret2
          rw [E1.out]
          exact ⟨rfl, HT.out, (Chg.of_below _ HB0.out).same HC.out⟩
end
theorem TP.at_ {w w' : World} {tp M : Nat} {cap : Int} {S' : List Fr} {v : Value} {e : Ending} (h : TP w tp M cap S' v e w') {n : Nat} (hn : n ≤ w.heap.size) (h1 : n ≤ tp) (h2 : n ≤ M) : Below n w w' := h.2.2.below hn fun k hk => by rcases hk with rfl | rfl <;> assumption
set_option maxRecDepth 100000 in
set_option maxHeartbeats 1000000 in
theorem works23 : Pure Try.prog 55 #[] (.bool true) := by
  intro w
  go_enter Try.func55, Try.ntmps55
  go_wp2_with fail
  refine (fnew_any w (cap := 3) (by decide)).mono ?_
  rintro e w1 ⟨rfl, h1, hb1⟩
  have H1 := Lib.hid h1; have HB1 := Lib.hid hb1
  clear h1 hb1
  go_wp2_with fail
  refine (fsubs H1.out (by simp) 0 1 2 3 7 ⟨by omega, by omega⟩).mono ?_
  rintro e w2 hP
  obtain ⟨rfl, h2, c2⟩ := (show TP w1 (w.heap.size + 1) w.heap.size 3 [⟨1, 2, 3, true, false, 7, 0⟩] (.tuple #[.bool true, .int .i64 0]) e w2 from hP)
  have H2 := Lib.hid h2; have C2 := Lib.hid c2
  clear h2 c2
  go_wp2_with fail
  refine (fsubs H2.out (by simp) 0 5 2 4 0 ⟨by omega, by omega⟩).mono ?_
  rintro e w3 hP
  obtain ⟨rfl, h3, c3⟩ := (show TP w2 (w.heap.size + 1) w.heap.size 3 [⟨1, 2, 3, true, false, 7, 0⟩] (.tuple #[.bool false, .int .i64 22]) e w3 from hP)
  have H3 := Lib.hid h3; have C3 := Lib.hid c3
  clear h3 c3
  go_wp2_with fail
  refine (fdisc (k := 1) (now := 10) H3.out ⟨by omega, by omega⟩ 0 0 0).mono ?_
  rintro e w4 hP
  obtain ⟨rfl, h4, c4⟩ := (show TP w3 (w.heap.size + 1) w.heap.size 3 [⟨1, 2, 3, false, false, 7, 17⟩] (.int .i64 0) e w4 from hP)
  have H4 := Lib.hid h4; have C4 := Lib.hid c4
  clear h4 c4
  go_wp2_with fail
  refine (fget (k := 1) H4.out ⟨by omega, by omega⟩).mono ?_
  rintro e w5 ⟨rfl, hb5⟩
  have HB5 := Lib.hid hb5
  clear hb5
  rw [show getA [⟨1, 2, 3, false, false, 7, 17⟩] 1 = .tuple #[fval ⟨1, 2, 3, false, false, 7, 17⟩, .bool true] from rfl]
  have HFB := Lib.hid (FB.made w5 ⟨1, 2, 3, false, false, 7, 17⟩)
  go_wp2_with fail
  refine (fweight (H4.out.below (bt HB5.out (ba (Below.refl _ _) _))) 2).mono ?_
  rintro e w6 ⟨rfl, hb6⟩
  rw [show wtA [⟨1, 2, 3, false, false, 7, 17⟩] 2 = .tuple #[.int .i64 3, .bool true] from rfl]
  have HB6 := Lib.hid (bt (bt HB5.out (ba (Below.refl _ _) _)) hb6)
  obtain ⟨x0, x1, x2, x3, x4, x5, x6⟩ := (HFB.out.below hb6).cells
  have hsz : w5.heap.size < w6.heap.size := by have := hb6.size; simp at this; omega
  clear hb6
  go_wp2_with fail
  refine (flong (H4.out.below HB6.out)).mono ?_
  rintro e w7 ⟨rfl, hb7⟩
  go_wp2
  go_ret
  have n2 := C2.out.size
  have n1 := HB1.out.size
  have hT := H2.out.lt
  refine ⟨rfl, ?_⟩
  have hF : ∀ k, FT (w.heap.size + 1) w.heap.size k → w.heap.size ≤ k := fun k hk => by rcases hk with rfl | rfl <;> omega
  exact (((((Chg.of_below _ HB1.out).same C2.out).same C3.out).same C4.out).then_below (bt HB6.out hb7)).below (Nat.le_refl _) hF
end Go.Proofs.Ytajcelmnblncaaa

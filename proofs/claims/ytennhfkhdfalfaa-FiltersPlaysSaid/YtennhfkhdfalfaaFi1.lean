/- filters: book.Order, the order of filters. -/
import Derived.Test.YtennhfkhdfalfaaFi0
namespace Go.Proofs.Ytennhfkhdfalfaa
open Go.RowKit Go.Maps
attribute [local go_sem] MixD.extD_cell MixD.extD_frozen MixD.calmUpon MixD.mUpon
/-- A vector, read at a place. -/
theorem Vc.at_ {w : World} {v : Value} {l : List Pt} (h : Vc w v l) : ∃ a n c, v = .slice a n c ∧ n = l.length ∧ n ≤ c ∧ c ≤ maxLen ∧ ∀ i p, l[i]? = some p → ∃ b off, a = some ⟨b, off, none⟩ ∧ b < w.heap.size ∧
    w.cell? ⟨b, off + i * 3, none⟩ = some (.int .i64 p.1) ∧ w.cell? ⟨b, off + i * 3 + 1, none⟩ = some (.int .i64 p.2.1) ∧ w.cell? ⟨b, off + i * 3 + 2, none⟩ = some (.int .i64 p.2.2) := by
  rcases h with ⟨⟨a, cap, rfl, hc⟩, rfl⟩ | ⟨b, off, cap, rfl, h2, h3, h4, h5⟩
  · exact ⟨a, 0, cap, rfl, rfl, Nat.zero_le _, hc.1, fun i p e => by simp at e⟩
  · refine ⟨_, _, _, rfl, rfl, h2, h3, fun i p e => ⟨b, off, rfl, h4, ?_⟩⟩
    obtain ⟨hi, e⟩ := List.getElem?_eq_some_iff.1 e
    have := h5 i hi
    have hg : l.getD i (0, 0, 0) = p := by rw [getD_lt hi, e]
    unfold kk rr aa at this
    rw [hg] at this
    exact this
theorem drop_at {α : Type} {l : List α} {k : Nat} {x : α} (h : l[k]? = some x) : l.drop k = x :: l.drop (k + 1) := by
  obtain ⟨hk, rfl⟩ := List.getElem?_eq_some_iff.1 h
  exact List.drop_eq_getElem_cons hk
set_option maxRecDepth 100000 in
set_option maxHeartbeats 2000000 in
theorem ocmpf (va vb : Value) (la lb : List Pt) (W : World) (hA : Vc W va la) (hB : Vc W vb lb) :
    Calls Try.prog 155 #[va, vb, .func (.func 156) #[] #[]] W fun e w' => e = .returned (.int .i64 (vord la lb)) ∧ MixD.Grow W w' := by
  obtain ⟨a, n, c, rfl, hn, hc, hm, hF⟩ := hA.at_
  obtain ⟨a', n', c', rfl, hn', hc', hm', hG⟩ := hB.at_
  have hnm : n ≤ 9223372036854775807 := by unfold maxLen at hm; omega
  have hnm' : n' ≤ 9223372036854775807 := by unfold maxLen at hm'; omega
  have HN := Lib.hid (And.intro hn hn'); have HF := Lib.hid hF; have HG := Lib.hid hG
  clear hA hB hn hn' hc hc' hm hm' hF hG
  go_enter Try.func155, Try.ntmps155
  go_wp2
  go_loopw [7, 8, 9, 10, 13] (fun _ _ _ _ iv wr => ∃ k : Nat, k ≤ n ∧ iv = .int .i64 k ∧ Hid (MixD.Grow W wr ∧ k ≤ n' ∧ vord la lb = vord (la.drop k) (lb.drop k))) (fun _ _ _ _ iv _ => n - (intOf iv).toNat)
  case atStart => exact ⟨0, Nat.zero_le _, rfl, Lib.hid ⟨MixD.Grow.refl _, Nat.zero_le _, rfl⟩⟩
  case round =>
    obtain ⟨k, hk, rfl, HI⟩ := hrel
    obtain ⟨w1, rfl⟩ : ∃ w1, w1 = wr := ⟨_, rfl⟩
    by_cases hlt : k < n
    · have hts : (k : Int) < (n : Int) := by omega
      obtain ⟨p, hp⟩ := at_lt (l := la) (i := k) (by rw [← HN.out.1]; exact hlt)
      obtain ⟨b, off, rfl, hb, e0, e1, e2⟩ := HF.out k p hp
      have c0 := (HI.out.1.1.cell (p := ⟨b, _, none⟩) hb).trans e0
      have c1 := (HI.out.1.1.cell (p := ⟨b, _, none⟩) hb).trans e1
      have c2 := (HI.out.1.1.cell (p := ⟨b, _, none⟩) hb).trans e2
      have hbl : b < w1.heap.size := Nat.lt_of_lt_of_le hb HI.out.1.1.size
      have HP := Lib.hid hp
      clear hp e0 e1 e2 hb
      by_cases hlt' : k < n'
      · have hts' : ¬ (n' : Int) ≤ (k : Int) := by omega
        obtain ⟨q, hq⟩ := at_lt (l := lb) (i := k) (by rw [← HN.out.2]; exact hlt')
        obtain ⟨b', off', rfl, hb', e0, e1, e2⟩ := HG.out k q hq
        have d0 := (HI.out.1.1.cell (p := ⟨b', _, none⟩) hb').trans e0
        have d1 := (HI.out.1.1.cell (p := ⟨b', _, none⟩) hb').trans e1
        have d2 := (HI.out.1.1.cell (p := ⟨b', _, none⟩) hb').trans e2
        have hbl' : b' < w1.heap.size := Nat.lt_of_lt_of_le hb' HI.out.1.1.size
        have HV := Lib.hid (show vord la lb = if pcmp p q ≠ 0 then pcmp p q else vord (la.drop (k + 1)) (lb.drop (k + 1)) from by
          rw [HI.out.2.2, drop_at HP.out, drop_at hq]; rfl)
        have HW := Lib.hid (show MixD.Grow W ((w1.alloc (.cells #[.int .i64 p.1, .int .i64 p.2.1, .int .i64 p.2.2] 57)).alloc (.cells #[.int .i64 q.1, .int .i64 q.2.1, .int .i64 q.2.2] 57)) from HI.out.1.trans ⟨ba (ba (Below.refl _ _) _) _, Nat.le_refl _⟩)
        have HO := Lib.hid (ocmp p q)
        clear hq e0 e1 e2 hb'
        obtain ⟨pk, pr, pa⟩ := p
        obtain ⟨qk, qr, qa⟩ := q
        simp only at c0 c1 c2 d0 d1 d2 HW HO
        go_wp2_with fail
        refine (HO.out _).mono ?_
        rintro e w2 ⟨rfl, hg2⟩
        have HG2 := Lib.hid (HW.out.trans hg2)
        clear hg2
        generalize pcmp (pk, pr, pa) (qk, qr, qa) = r at *
        by_cases hr : r = 0
        · subst hr
          have hv := HV.out
          rw [if_neg (fun e => e rfl)] at hv
          have HV2 := Lib.hid hv
          clear hv c0 c1 c2 d0 d1 d2
          go_wp2
          go_roundw
          case rel => exact ⟨k + 1, by omega, by go_num, Lib.hid ⟨HG2.out, by omega, HV2.out⟩⟩
          case measure => simp [intOf]; omega
        · have hrb : (r == 0) = false := by simpa using hr
          have hv := HV.out
          rw [if_pos hr] at hv
          have HV2 := Lib.hid hv
          clear hv c0 c1 c2 d0 d1 d2
          go_wp2
          go_ret
          exact ⟨by rw [HV2.out]; rfl, HG2.out⟩
      · have hts' : (n' : Int) ≤ (k : Int) := by omega
        have HV := Lib.hid (show vord la lb = 1 from by
          have e : lb.drop k = [] := List.drop_eq_nil_iff.2 (by have := HN.out.2; omega)
          rw [HI.out.2.2, drop_at HP.out, e]; rfl)
        have HW := Lib.hid (show MixD.Grow W (w1.alloc (.cells #[.int .i64 p.1, .int .i64 p.2.1, .int .i64 p.2.2] 57)) from HI.out.1.trans ⟨ba (Below.refl _ _) _, Nat.le_refl _⟩)
        go_wp2
        go_ret
        exact ⟨by rw [HV.out]; rfl, HW.out⟩
    · obtain rfl : n = k := by omega
      have e : la.drop n = [] := List.drop_eq_nil_iff.2 (by have := HN.out.1; omega)
      have hv := HI.out.2.2
      rw [e] at hv
      by_cases hlt' : n < n'
      · have hts' : (n : Int) < (n' : Int) := by omega
        obtain ⟨q, hq⟩ := at_lt (l := lb) (i := n) (by rw [← HN.out.2]; exact hlt')
        rw [drop_at hq] at hv
        have HV := Lib.hid (show vord la lb = -1 from hv)
        clear e hv hq
        go_wp2
        go_ret
        exact ⟨by rw [HV.out]; rfl, HI.out.1⟩
      · have hts' : ¬ (n : Int) < (n' : Int) := by omega
        have e' : lb.drop n = [] := List.drop_eq_nil_iff.2 (by have := HN.out.2; omega)
        rw [e'] at hv
        have HV := Lib.hid (show vord la lb = 0 from hv)
        clear e hv e'
        go_wp2
        go_ret
        exact ⟨by rw [HV.out]; rfl, HI.out.1⟩
set_option maxRecDepth 100000 in
theorem border (va vb : Value) (la lb : List Pt) (W : World) (hA : Vc W va la) (hB : Vc W vb lb) :
    Calls Try.prog 120 #[va, vb] W fun e w' => e = .returned (.int .i64 (vord la lb)) ∧ MixD.Grow W w' := by
  have H := Lib.hid (ocmpf va vb la lb W hA hB)
  obtain ⟨a, c, rfl, -, -⟩ := hA.form
  obtain ⟨a', c', rfl, -, -⟩ := hB.form
  clear hA hB
  go_enter Try.func120, Try.ntmps120
  go_wp2_with fail
  refine H.out.mono ?_
  rintro e w1 ⟨rfl, hg⟩
  have HG := Lib.hid hg
  clear hg
  go_wp2
  go_ret
  exact ⟨rfl, HG.out⟩
end Go.Proofs.Ytennhfkhdfalfaa

/- The document's slot, Right, Same, Get of layer 5, and vec.Get, at any slice of parts. -/
import Derived.Test.YtlhljioncgddeaaDoorVecS
import Derived.Test.YtlhljioncgddeaaDoorVecO
namespace Go.Proofs.YtlhljioncgddeaaDoor
open Go.RowKit
attribute [local go_sem] ext_cell ext_frozen Mix.calmUpon Mix.mUpon
theorem refslotright_any (k r : Int) : Pure Tryd.prog 45 #[L2 k r] (.bool (decide (LOk k r))) := by
  intro W
  by_cases h1 : 0 ≤ k
  · by_cases h2 : k ≤ 3
    · by_cases h3 : 0 ≤ r
      · have hq : decide (LOk k r) = decide (r ≤ 32) := decide_eq_decide.2 ⟨fun h => h.2.2.2, fun h => ⟨h1, by omega, h3, h⟩⟩
        rw [hq]
        go_enter Tryd.func45, Tryd.ntmps45
        go_wp2
        go_ret
        refine ⟨rfl, ?_⟩
        (repeat (first | assumption | exact Below.refl _ _ | refine ba ?_ _ | refine bd ?_ | refine bdn ?_ _ | refine bs ?_ (by first | omega | (simp; done) | (simp; omega)) _ | refine bt ?_ (by assumption)))
      · have hq : decide (LOk k r) = false := decide_eq_false fun h => h3 h.2.2.1
        rw [hq]
        go_enter Tryd.func45, Tryd.ntmps45
        go_wp2
        go_ret
        refine ⟨rfl, ?_⟩
        (repeat (first | assumption | exact Below.refl _ _ | refine ba ?_ _ | refine bd ?_ | refine bdn ?_ _ | refine bs ?_ (by first | omega | (simp; done) | (simp; omega)) _ | refine bt ?_ (by assumption)))
    · have hq : decide (LOk k r) = false := decide_eq_false fun h => h2 (by have := h.2.1; omega)
      rw [hq]
      go_enter Tryd.func45, Tryd.ntmps45
      go_wp2
      go_ret
      refine ⟨rfl, ?_⟩
      (repeat (first | assumption | exact Below.refl _ _ | refine ba ?_ _ | refine bd ?_ | refine bdn ?_ _ | refine bs ?_ (by first | omega | (simp; done) | (simp; omega)) _ | refine bt ?_ (by assumption)))
  · have hq : decide (LOk k r) = false := decide_eq_false fun h => h1 h.1
    rw [hq]
    go_enter Tryd.func45, Tryd.ntmps45
    go_wp2
    go_ret
    refine ⟨rfl, ?_⟩
    (repeat (first | assumption | exact Below.refl _ _ | refine ba ?_ _ | refine bd ?_ | refine bdn ?_ _ | refine bs ?_ (by first | omega | (simp; done) | (simp; omega)) _ | refine bt ?_ (by assumption)))

theorem refslot_any (k r a : Int) : Pure Tryd.prog 46 #[P3 k r a] (L2 k r) := by
  intro W
  go_enter Tryd.func46, Tryd.ntmps46
  go_wp2
  refine bodyPost_ret (v := L2 k r) (by simp [results, Tryd.results46, go_sem, *]) rfl ⟨rfl, ?_⟩
  (repeat (first | assumption | exact Below.refl _ _ | refine ba ?_ _ | refine bd ?_ | refine bdn ?_ _ | refine bs ?_ (by first | omega | (simp; done) | (simp; omega)) _ | refine bt ?_ (by assumption)))
theorem refcmp4_any (k r k' r' : Int) : Pure Tryd.prog 51 #[L2 k r, L2 k' r'] (.int .i64 (lcmp k r k' r')) := by
  intro W
  by_cases h : k = k'
  · subst h
    by_cases h1 : r < r'
    · have hr : lcmp k r k r' = -1 := by unfold lcmp cmpI; rw [if_pos rfl, if_pos h1]
      rw [hr]
      go_enter Tryd.func51, Tryd.ntmps51
      go_wp2
      go_ret
      refine ⟨rfl, ?_⟩
      (repeat (first | assumption | exact Below.refl _ _ | refine ba ?_ _ | refine bd ?_ | refine bdn ?_ _ | refine bs ?_ (by first | omega | (simp; done) | (simp; omega)) _ | refine bt ?_ (by assumption)))
    · by_cases h2 : r = r'
      · subst h2
        have hr : lcmp k r k r = 0 := by unfold lcmp cmpI; rw [if_pos rfl, if_neg (by omega), if_neg (by omega)]
        rw [hr]
        clear h1 hr
        go_enter Tryd.func51, Tryd.ntmps51
        go_wp2
        go_ret
        refine ⟨rfl, ?_⟩
        (repeat (first | assumption | exact Below.refl _ _ | refine ba ?_ _ | refine bd ?_ | refine bdn ?_ _ | refine bs ?_ (by first | omega | (simp; done) | (simp; omega)) _ | refine bt ?_ (by assumption)))
      · have hr : lcmp k r k r' = 1 := by unfold lcmp cmpI; rw [if_pos rfl, if_neg h1, if_pos (by omega)]
        rw [hr]
        have hrb : (r == r') = false := by simpa using h2
        have h1' : r' ≤ r := by omega
        clear h1 h2 hr
        go_enter Tryd.func51, Tryd.ntmps51
        go_wp2
        go_ret
        refine ⟨rfl, ?_⟩
        (repeat (first | assumption | exact Below.refl _ _ | refine ba ?_ _ | refine bd ?_ | refine bdn ?_ _ | refine bs ?_ (by first | omega | (simp; done) | (simp; omega)) _ | refine bt ?_ (by assumption)))
  · have hkb : (k == k') = false := by simpa using h
    by_cases h1 : k < k'
    · have hr : lcmp k r k' r' = -1 := by unfold lcmp cmpI; rw [if_neg h, if_pos h1]
      rw [hr]
      clear h hr
      go_enter Tryd.func51, Tryd.ntmps51
      go_wp2
      go_ret
      refine ⟨rfl, ?_⟩
      (repeat (first | assumption | exact Below.refl _ _ | refine ba ?_ _ | refine bd ?_ | refine bdn ?_ _ | refine bs ?_ (by first | omega | (simp; done) | (simp; omega)) _ | refine bt ?_ (by assumption)))
    · have hr : lcmp k r k' r' = 1 := by unfold lcmp cmpI; rw [if_neg h, if_neg h1, if_pos (by omega)]
      rw [hr]
      have h1' : k' ≤ k := by omega
      clear h h1 hr
      go_enter Tryd.func51, Tryd.ntmps51
      go_wp2
      go_ret
      refine ⟨rfl, ?_⟩
      (repeat (first | assumption | exact Below.refl _ _ | refine ba ?_ _ | refine bd ?_ | refine bdn ?_ _ | refine bs ?_ (by first | omega | (simp; done) | (simp; omega)) _ | refine bt ?_ (by assumption)))
/-- The parts from a place on. -/
theorem gt_drop {l : List Pt} {t : Nat} (h : t < l.length) (k r : Int) : gt (l.drop t) k r = if kk l t = k ∧ rr l t = r then aa l t else gt (l.drop (t + 1)) k r := by
  rw [List.drop_eq_getElem_cons h, gt, kra h]
theorem eqS_yes (k r k' r' : Int) (h : k = k' ∧ r = r') (w : World) : (Op.equalIn 10000 24 (.agg #[.int .i64 k, .int .i64 r]) (.agg #[.int .i64 k', .int .i64 r'])).run Tryd.prog w = .ok true w := by
  rw [eqL2]; obtain ⟨rfl, rfl⟩ := h; simp
theorem eqS_no (k r k' r' : Int) (h : ¬ (k = k' ∧ r = r')) (w : World) : (Op.equalIn 10000 24 (.agg #[.int .i64 k, .int .i64 r]) (.agg #[.int .i64 k', .int .i64 r'])).run Tryd.prog w = .ok false w := by
  rw [eqL2]
  congr 1
  rw [Bool.eq_false_iff]
  intro hh; apply h; simpa using hh
set_option maxRecDepth 100000 in
set_option maxHeartbeats 2000000 in
theorem vget_any (v : Value) (l : List Pt) (k r : Int) (hbig : l.length < 1000000000) : PureOn (fun w => Vc w v l) Tryd.prog 17 #[v, L2 k r] (.int .i64 (gt l k r)) := by
  intro W hV
  obtain ⟨a, n, cap, rfl, hn, hC⟩ := hV.cells
  have HC := Lib.hid hC; have HN := Lib.hid hn
  have hn9 : n < 1000000000 := by omega
  obtain ⟨g, hg⟩ : ∃ g, g = gt l k r := ⟨_, rfl⟩
  have HG := Lib.hid hg
  rw [← hg]
  clear hC hn hV hbig hg
  go_enter Tryd.func17, Tryd.ntmps17
  go_wp2
  have HB0 := Lib.hid (show Below W.heap.size W _ from ba (Below.refl _ _) (.cells #[.int .i64 k, .int .i64 r] 24))
  go_loopw [9] (fun i wr => ∃ t : Nat, t ≤ n ∧ i = .int .i64 t ∧ Hid (g = gt (l.drop t) k r) ∧ Below (W.alloc (.cells #[.int .i64 k, .int .i64 r] 24)).heap.size (W.alloc (.cells #[.int .i64 k, .int .i64 r] 24)) wr) (fun i _ => n - (intOf i).toNat)
  case atStart => exact ⟨0, Nat.zero_le _, rfl, Lib.hid HG.out, Below.refl _ _⟩
  case round =>
    obtain ⟨t, ht, rfl, HS, hb1⟩ := hrel
    obtain ⟨w1, rfl⟩ : ∃ w1, w1 = wr := ⟨_, rfl⟩
    have hs1 : W.heap.size + 1 ≤ w1.heap.size := (by have h := hb1.size; first | omega | (simp at h; omega))
    have hz1_0 : W.heap.size < w1.heap.size := (by omega)
    obtain ⟨hc1, hf1, hl1⟩ := bcell hb1
    clear hl1
    have HB1 := Lib.hid (show Below W.heap.size W w1 from bt HB0.out hb1)
    by_cases hlt : t < n
    · have hts : (t : Int) < (n : Int) := by omega
      have hll : t < l.length := by rw [← HN.out]; exact hlt
      obtain ⟨b, off, rfl, hb, c0, c1, c2⟩ := HC.out t hlt
      have hbl : b < w1.heap.size := Nat.lt_of_lt_of_le hb HB1.out.size
      have hd := gt_drop hll k r
      rw [← HS.out] at hd
      by_cases he : kk l t = k ∧ rr l t = r
      · rw [if_pos he] at hd
        have hq := eqS_yes _ _ _ _ he
        have HO := Lib.hid (vecof_any (kk l t) (rr l t) (aa l t))
        rw [← hd] at c2 HO
        clear he hd hll HG HS
        generalize kk l t = k' at *; generalize rr l t = r' at *
        go_wp2_with fail
        refine wp_region_pure (by kernel_rfl) (by kernel_rfl) ?_
        repeat (first | go_big_quiet_step (((go_at_call 42; with_reducible exact HO.out.quiet))) | (quiet_step (((go_at_call 42; with_reducible exact HO.out.quiet)))))
        refine wpQuiet_nil ?_
        rintro w2 ⟨x2, hx2⟩
        have hb2 := ext_below _ x2
        rw [← hx2] at hb2
        clear hx2 x2
        have hs2 : w1.heap.size + 1 ≤ w2.heap.size := (by have h := hb2.size; first | omega | (simp at h; omega))
        have hb1_2 := bel hb1 hb2 (by (repeat (first | assumption | exact Below.refl _ _ | refine ba ?_ _ | refine bd ?_ | refine bdn ?_ _ | refine bs ?_ (by first | omega | (simp; done) | (simp; omega)) _ | refine bt ?_ (by assumption))))
        clear hz1_0 hc1 hf1
        obtain ⟨hc1_2, hf1_2, hl1_2⟩ := bcell hb1_2
        clear hl1_2
        have hz2_0 : W.heap.size < w2.heap.size := (by omega)
        have hz2_1 : w1.heap.size < w2.heap.size := (by omega)
        obtain ⟨hc2, hf2, hl2⟩ := bcell hb2
        clear hl2
        go_wp2
        go_ret
        exact ⟨rfl, by have := HB1.out; (repeat (first | assumption | exact Below.refl _ _ | refine ba ?_ _ | refine bd ?_ | refine bdn ?_ _ | refine bs ?_ (by first | omega | (simp; done) | (simp; omega)) _ | refine bt ?_ (by assumption)))⟩
      · rw [if_neg he] at hd
        have HD := Lib.hid hd
        have hq := eqS_no _ _ _ _ he
        have HO := Lib.hid (vecof_any (kk l t) (rr l t) (aa l t))
        clear he hd hll HG HS
        generalize kk l t = k' at *; generalize rr l t = r' at *; generalize aa l t = a' at *
        go_wp2_with fail
        refine wp_region_pure (by kernel_rfl) (by kernel_rfl) ?_
        repeat (first | go_big_quiet_step (((go_at_call 42; with_reducible exact HO.out.quiet))) | (quiet_step (((go_at_call 42; with_reducible exact HO.out.quiet)))))
        refine wpQuiet_nil ?_
        rintro w2 ⟨x2, hx2⟩
        have hb2 := ext_below _ x2
        rw [← hx2] at hb2
        clear hx2 x2
        have hs2 : w1.heap.size + 1 ≤ w2.heap.size := (by have h := hb2.size; first | omega | (simp at h; omega))
        have hb1_2 := bel hb1 hb2 (by (repeat (first | assumption | exact Below.refl _ _ | refine ba ?_ _ | refine bd ?_ | refine bdn ?_ _ | refine bs ?_ (by first | omega | (simp; done) | (simp; omega)) _ | refine bt ?_ (by assumption))))
        clear hz1_0 hc1 hf1
        obtain ⟨hc1_2, hf1_2, hl1_2⟩ := bcell hb1_2
        clear hl1_2
        have hz2_0 : W.heap.size < w2.heap.size := (by omega)
        have hz2_1 : w1.heap.size < w2.heap.size := (by omega)
        obtain ⟨hc2, hf2, hl2⟩ := bcell hb2
        clear hl2
        go_wp2
        go_roundw
        case rel => exact ⟨t + 1, by omega, by go_num, HD, by (repeat (first | assumption | exact Below.refl _ _ | refine ba ?_ _ | refine bd ?_ | refine bdn ?_ _ | refine bs ?_ (by first | omega | (simp; done) | (simp; omega)) _ | refine bt ?_ (by assumption)))⟩
        case measure => simp [intOf]; omega
    · obtain rfl : n = t := by omega
      have hz : g = 0 := by
        have h := HS.out
        rw [List.drop_of_length_le (by rw [HN.out]; exact Nat.le_refl _)] at h
        exact h
      subst hz
      go_wp2
      go_ret
      exact ⟨rfl, by have := HB1.out; (repeat (first | assumption | exact Below.refl _ _ | refine ba ?_ _ | refine bd ?_ | refine bdn ?_ _ | refine bs ?_ (by first | omega | (simp; done) | (simp; omega)) _ | refine bt ?_ (by assumption)))⟩
set_option maxRecDepth 100000 in
set_option maxHeartbeats 2000000 in
theorem rget_any (v : Value) (l : List Pt) (k r : Int) (hbig : l.length < 1000000000) : PureOn (fun w => Vc w v l) Tryd.prog 18 #[v, L2 k r] (.int .i64 (gt l k r)) := by
  intro W hV
  obtain ⟨a, n, cap, rfl, hn, hC⟩ := hV.cells
  have HC := Lib.hid hC; have HN := Lib.hid hn
  have hn9 : n < 1000000000 := by omega
  obtain ⟨g, hg⟩ : ∃ g, g = gt l k r := ⟨_, rfl⟩
  have HG := Lib.hid hg
  rw [← hg]
  clear hC hn hV hbig hg
  go_enter Tryd.func18, Tryd.ntmps18
  go_wp2
  have HB0 := Lib.hid (show Below W.heap.size W _ from ba (Below.refl _ _) (.cells #[.int .i64 k, .int .i64 r] 24))
  go_loopw [5] (fun i wr => ∃ t : Nat, t ≤ n ∧ i = .int .i64 t ∧ Hid (g = gt (l.drop t) k r) ∧ Below (W.alloc (.cells #[.int .i64 k, .int .i64 r] 24)).heap.size (W.alloc (.cells #[.int .i64 k, .int .i64 r] 24)) wr) (fun i _ => n - (intOf i).toNat)
  case atStart => exact ⟨0, Nat.zero_le _, rfl, Lib.hid HG.out, Below.refl _ _⟩
  case round =>
    obtain ⟨t, ht, rfl, HS, hb1⟩ := hrel
    obtain ⟨w1, rfl⟩ : ∃ w1, w1 = wr := ⟨_, rfl⟩
    have hs1 : W.heap.size + 1 ≤ w1.heap.size := (by have h := hb1.size; first | omega | (simp at h; omega))
    have hz1_0 : W.heap.size < w1.heap.size := (by omega)
    obtain ⟨hc1, hf1, hl1⟩ := bcell hb1
    clear hl1
    have HB1 := Lib.hid (show Below W.heap.size W w1 from bt HB0.out hb1)
    by_cases hlt : t < n
    · have hts : (t : Int) < (n : Int) := by omega
      have hll : t < l.length := by rw [← HN.out]; exact hlt
      obtain ⟨b, off, rfl, hb, c0, c1, c2⟩ := HC.out t hlt
      have hbl : b < w1.heap.size := Nat.lt_of_lt_of_le hb HB1.out.size
      have hd := gt_drop hll k r
      rw [← HS.out] at hd
      by_cases he : kk l t = k ∧ rr l t = r
      · rw [if_pos he] at hd
        have hq := eqS_yes _ _ _ _ he
        have HO := Lib.hid (refslot_any (kk l t) (rr l t) (aa l t))
        rw [← hd] at c2 HO
        clear he hd hll HG HS
        generalize kk l t = k' at *; generalize rr l t = r' at *
        go_wp2_with fail
        refine wp_region_pure (by kernel_rfl) (by kernel_rfl) ?_
        repeat (first | go_big_quiet_step (((go_at_call 46; with_reducible exact HO.out.quiet))) | (quiet_step (((go_at_call 46; with_reducible exact HO.out.quiet)))))
        refine wpQuiet_nil ?_
        rintro w2 ⟨x2, hx2⟩
        have hb2 := ext_below _ x2
        rw [← hx2] at hb2
        clear hx2 x2
        have hs2 : w1.heap.size + 0 ≤ w2.heap.size := (by have h := hb2.size; first | omega | (simp at h; omega))
        have hb1_2 := bel hb1 hb2 (by (repeat (first | assumption | exact Below.refl _ _ | refine ba ?_ _ | refine bd ?_ | refine bdn ?_ _ | refine bs ?_ (by first | omega | (simp; done) | (simp; omega)) _ | refine bt ?_ (by assumption))))
        clear hz1_0 hc1 hf1
        obtain ⟨hc1_2, hf1_2, hl1_2⟩ := bcell hb1_2
        clear hl1_2
        have hz2_0 : W.heap.size < w2.heap.size := (by omega)
        obtain ⟨hc2, hf2, hl2⟩ := bcell hb2
        clear hl2
        go_wp2
        go_ret
        exact ⟨rfl, by have := HB1.out; (repeat (first | assumption | exact Below.refl _ _ | refine ba ?_ _ | refine bd ?_ | refine bdn ?_ _ | refine bs ?_ (by first | omega | (simp; done) | (simp; omega)) _ | refine bt ?_ (by assumption)))⟩
      · rw [if_neg he] at hd
        have HD := Lib.hid hd
        have hq := eqS_no _ _ _ _ he
        have HO := Lib.hid (refslot_any (kk l t) (rr l t) (aa l t))
        clear he hd hll HG HS
        generalize kk l t = k' at *; generalize rr l t = r' at *; generalize aa l t = a' at *
        go_wp2_with fail
        refine wp_region_pure (by kernel_rfl) (by kernel_rfl) ?_
        repeat (first | go_big_quiet_step (((go_at_call 46; with_reducible exact HO.out.quiet))) | (quiet_step (((go_at_call 46; with_reducible exact HO.out.quiet)))))
        refine wpQuiet_nil ?_
        rintro w2 ⟨x2, hx2⟩
        have hb2 := ext_below _ x2
        rw [← hx2] at hb2
        clear hx2 x2
        have hs2 : w1.heap.size + 0 ≤ w2.heap.size := (by have h := hb2.size; first | omega | (simp at h; omega))
        have hb1_2 := bel hb1 hb2 (by (repeat (first | assumption | exact Below.refl _ _ | refine ba ?_ _ | refine bd ?_ | refine bdn ?_ _ | refine bs ?_ (by first | omega | (simp; done) | (simp; omega)) _ | refine bt ?_ (by assumption))))
        clear hz1_0 hc1 hf1
        obtain ⟨hc1_2, hf1_2, hl1_2⟩ := bcell hb1_2
        clear hl1_2
        have hz2_0 : W.heap.size < w2.heap.size := (by omega)
        obtain ⟨hc2, hf2, hl2⟩ := bcell hb2
        clear hl2
        go_wp2
        go_roundw
        case rel => exact ⟨t + 1, by omega, by go_num, HD, by (repeat (first | assumption | exact Below.refl _ _ | refine ba ?_ _ | refine bd ?_ | refine bdn ?_ _ | refine bs ?_ (by first | omega | (simp; done) | (simp; omega)) _ | refine bt ?_ (by assumption)))⟩
        case measure => simp [intOf]; omega
    · obtain rfl : n = t := by omega
      have hz : g = 0 := by
        have h := HS.out
        rw [List.drop_of_length_le (by rw [HN.out]; exact Nat.le_refl _)] at h
        exact h
      subst hz
      go_wp2
      go_ret
      exact ⟨rfl, by have := HB1.out; (repeat (first | assumption | exact Below.refl _ _ | refine ba ?_ _ | refine bd ?_ | refine bdn ?_ _ | refine bs ?_ (by first | omega | (simp; done) | (simp; omega)) _ | refine bt ?_ (by assumption)))⟩
theorem rsame_len (va vb : Value) (la lb : List Pt) (hn : la.length ≠ lb.length) (W : World) (hA : Vc W va la) (hB : Vc W vb lb) : Calls Tryd.prog 14 #[va, vb] W fun e w' => e = .returned (.bool false) ∧ Below W.heap.size W w' := by
  obtain ⟨a, n, c, rfl, h1, _, _⟩ : ∃ a n c, va = .slice a n c ∧ n = la.length ∧ n ≤ c ∧ c ≤ maxLen := by obtain ⟨a, c, h1, h2, h3⟩ := hA.form; exact ⟨a, _, c, h1, rfl, h2, h3⟩
  obtain ⟨a', n', c', rfl, h2, _, _⟩ : ∃ a n c, vb = .slice a n c ∧ n = lb.length ∧ n ≤ c ∧ c ≤ maxLen := by obtain ⟨a, c, h1, h2, h3⟩ := hB.form; exact ⟨a, _, c, h1, rfl, h2, h3⟩
  have hne : n ≠ n' := by omega
  have hnI : ((n : Int) == (n' : Int)) = false := by simp; omega
  clear h1 h2 hn hA hB
  go_enter Tryd.func14, Tryd.ntmps14
  go_wp2
  go_ret
  refine ⟨rfl, ?_⟩
  (repeat (first | assumption | exact Below.refl _ _ | refine ba ?_ _ | refine bd ?_ | refine bdn ?_ _ | refine bs ?_ (by first | omega | (simp; done) | (simp; omega)) _ | refine bt ?_ (by assumption)))
theorem rsame_nil (va vb : Value) (W : World) (hA : Vc W va []) (hB : Vc W vb []) : Calls Tryd.prog 14 #[va, vb] W fun e w' => e = .returned (.bool true) ∧ Below W.heap.size W w' := by
  obtain ⟨a, c, rfl⟩ := hA.empty
  obtain ⟨a', c', rfl⟩ := hB.empty
  clear hA hB
  go_enter Tryd.func14, Tryd.ntmps14
  go_wp2
  go_loopw [5] (fun i wr => i = .int .i64 0 ∧ Below W.heap.size W wr) (fun _ _ => 0)
  case atStart => exact ⟨rfl, by (repeat (first | assumption | exact Below.refl _ _ | refine ba ?_ _ | refine bd ?_ | refine bdn ?_ _ | refine bs ?_ (by first | omega | (simp; done) | (simp; omega)) _ | refine bt ?_ (by assumption)))⟩
  case round =>
    obtain ⟨rfl, hb1⟩ := hrel
    go_wp2
    go_ret
    exact ⟨rfl, by (repeat (first | assumption | exact Below.refl _ _ | refine ba ?_ _ | refine bd ?_ | refine bdn ?_ _ | refine bs ?_ (by first | omega | (simp; done) | (simp; omega)) _ | refine bt ?_ (by assumption)))⟩
set_option maxRecDepth 100000 in
set_option maxHeartbeats 2000000 in
theorem rsame_some (va vb : Value) (la lb : List Pt) (hn : la.length = lb.length) (h0 : 0 < la.length) (hbig : la.length < 1000000000) (W : World) (hA : Vc W va la) (hB : Vc W vb lb) : Calls Tryd.prog 14 #[va, vb] W fun e w' => e = .returned (.bool (decide (la = lb))) ∧ Below W.heap.size W w' := by
  obtain ⟨b, off, n, cap, rfl, h1, k1, k2, k3, hF⟩ := hA.some h0
  obtain ⟨b', off', n', cap', rfl, h2, k1', k2', k3', hG⟩ := hB.some (by omega)
  obtain rfl : n = n' := by omega
  have HN := Lib.hid (And.intro h1 h2)
  have HF := Lib.hid hF; have HG := Lib.hid hG
  have hn0 : 0 < n := by omega
  have hb9 : n < 1000000000 := by omega
  clear hF hG hA hB h1 h2 hn h0 hbig
  go_enter Tryd.func14, Tryd.ntmps14
  go_wp2
  go_loopw [5] (fun i wr => ∃ t : Nat, t ≤ n ∧ i = .int .i64 t ∧ Hid (∀ j, j < t → kk la j = kk lb j ∧ rr la j = rr lb j ∧ aa la j = aa lb j) ∧ Below W.heap.size W wr) (fun i _ => n - (intOf i).toNat)
  case atStart => exact ⟨0, Nat.zero_le _, rfl, Lib.hid (fun j hj => by omega), by (repeat (first | assumption | exact Below.refl _ _ | refine ba ?_ _ | refine bd ?_ | refine bdn ?_ _ | refine bs ?_ (by first | omega | (simp; done) | (simp; omega)) _ | refine bt ?_ (by assumption)))⟩
  case round =>
    obtain ⟨t, ht, rfl, HV, hb1⟩ := hrel
    obtain ⟨w1, rfl⟩ : ∃ w1, w1 = wr := ⟨_, rfl⟩
    have hs1 : W.heap.size + 0 ≤ w1.heap.size := (by have h := hb1.size; first | omega | (simp at h; omega))
    obtain ⟨hc1, hf1, hl1⟩ := bcell hb1
    clear hl1
    by_cases hlt : t < n
    · have hts : (t : Int) < (n : Int) := by omega
      obtain ⟨c0, c1, c2⟩ := HF.out t hlt
      obtain ⟨d0, d1, d2⟩ := HG.out t hlt
      have hbl : b < w1.heap.size := Nat.lt_of_lt_of_le k3 hb1.size
      have hbl' : b' < w1.heap.size := Nat.lt_of_lt_of_le k3' hb1.size
      by_cases he : kk la t = kk lb t ∧ rr la t = rr lb t ∧ aa la t = aa lb t
      · have hq := eqP_yes _ _ _ _ _ _ he
        have HW := Lib.hid (show ∀ j, j < t + 1 → kk la j = kk lb j ∧ rr la j = rr lb j ∧ aa la j = aa lb j from fun j hj => by
          by_cases hjt : j = t
          · rw [hjt]; exact he
          · exact HV.out j (by omega))
        clear he
        generalize kk la t = k at *; generalize rr la t = r at *; generalize aa la t = a at *
        generalize kk lb t = k' at *; generalize rr lb t = r' at *; generalize aa lb t = a' at *
        go_wp2_with fail
        refine wp_region_pure (by kernel_rfl) (by kernel_rfl) ?_
        repeat (first | go_big_quiet_step ((fail)) | (quiet_step ((fail))))
        refine wpQuiet_nil ?_
        rintro w2 ⟨x2, hx2⟩
        have hb2 := ext_below _ x2
        rw [← hx2] at hb2
        clear hx2 x2
        have hs2 : w1.heap.size + 0 ≤ w2.heap.size := (by have h := hb2.size; first | omega | (simp at h; omega))
        have hb1_2 := bel hb1 hb2 (by (repeat (first | assumption | exact Below.refl _ _ | refine ba ?_ _ | refine bd ?_ | refine bdn ?_ _ | refine bs ?_ (by first | omega | (simp; done) | (simp; omega)) _ | refine bt ?_ (by assumption))))
        clear hc1 hf1
        obtain ⟨hc2, hf2, hl2⟩ := bcell hb2
        clear hl2
        go_wp2
        go_roundw
        case rel => exact ⟨t + 1, by omega, by go_num, HW, by (repeat (first | assumption | exact Below.refl _ _ | refine ba ?_ _ | refine bd ?_ | refine bdn ?_ _ | refine bs ?_ (by first | omega | (simp; done) | (simp; omega)) _ | refine bt ?_ (by assumption)))⟩
        case measure => simp [intOf]; omega
      ·
        have hq := eqP_no _ _ _ _ _ _ he
        have HX := Lib.hid (show decide (la = lb) = false from decide_eq_false fun h => he (by rw [h]; exact ⟨rfl, rfl, rfl⟩))
        clear he
        generalize kk la t = k at *; generalize rr la t = r at *; generalize aa la t = a at *
        generalize kk lb t = k' at *; generalize rr lb t = r' at *; generalize aa lb t = a' at *
        go_wp2_with fail
        refine wp_region_pure (by kernel_rfl) (by kernel_rfl) ?_
        repeat (first | go_big_quiet_step ((fail)) | (quiet_step ((fail))))
        refine wpQuiet_nil ?_
        rintro w2 ⟨x2, hx2⟩
        have hb2 := ext_below _ x2
        rw [← hx2] at hb2
        clear hx2 x2
        have hs2 : w1.heap.size + 0 ≤ w2.heap.size := (by have h := hb2.size; first | omega | (simp at h; omega))
        have hb1_2 := bel hb1 hb2 (by (repeat (first | assumption | exact Below.refl _ _ | refine ba ?_ _ | refine bd ?_ | refine bdn ?_ _ | refine bs ?_ (by first | omega | (simp; done) | (simp; omega)) _ | refine bt ?_ (by assumption))))
        clear hc1 hf1
        obtain ⟨hc2, hf2, hl2⟩ := bcell hb2
        clear hl2
        go_wp2
        go_ret
        exact ⟨by rw [HX.out]; rfl, by (repeat (first | assumption | exact Below.refl _ _ | refine ba ?_ _ | refine bd ?_ | refine bdn ?_ _ | refine bs ?_ (by first | omega | (simp; done) | (simp; omega)) _ | refine bt ?_ (by assumption)))⟩
    · obtain rfl : n = t := by omega
      have HX := Lib.hid (show decide (la = lb) = true from decide_eq_true (list_same (HN.out.1.symm.trans HN.out.2) fun j hj => HV.out j (by rw [HN.out.1]; exact hj)))
      go_wp2
      go_ret
      exact ⟨by rw [HX.out]; rfl, by (repeat (first | assumption | exact Below.refl _ _ | refine ba ?_ _ | refine bd ?_ | refine bdn ?_ _ | refine bs ?_ (by first | omega | (simp; done) | (simp; omega)) _ | refine bt ?_ (by assumption)))⟩
theorem rsame_any (va vb : Value) (la lb : List Pt) (hl : la.length < 1000000000) : PureOn (fun w => Vc w va la ∧ Vc w vb lb) Tryd.prog 14 #[va, vb] (.bool (decide (la = lb))) := fun W ⟨hA, hB⟩ => by
  by_cases hn : la.length = lb.length
  · by_cases h0 : 0 < la.length
    · exact rsame_some va vb la lb hn h0 hl W hA hB
    · have e1 : la = [] := List.eq_nil_of_length_eq_zero (by omega)
      have e2 : lb = [] := List.eq_nil_of_length_eq_zero (by omega)
      subst e1 e2
      rw [decide_eq_true rfl]; exact rsame_nil va vb W hA hB
  · rw [decide_eq_false fun h => hn (by rw [h])]; exact rsame_len va vb la lb hn W hA hB
set_option maxRecDepth 100000 in
set_option maxHeartbeats 4000000 in
theorem rright_some (b off len cap : Nat) (k r a : Nat → Int) (W : World) (hb : b < W.heap.size) (hbig : len < 1000000000) (hF : Parts W b off len k r a) :
    Calls Tryd.prog 16 #[.slice (some ⟨b, off, none⟩) len cap] W fun e w' => ∃ q : Bool, e = .returned (.bool q) ∧ (q = true ↔ VOk k r a len) ∧ Below W.heap.size W w' := by
  have HF := Lib.hid hF
  clear hF
  go_enter Tryd.func16, Tryd.ntmps16
  go_wp2
  go_loopw [3] (fun i wr => ∃ t : Nat, t ≤ len ∧ i = .int .i64 t ∧ Hid (VOk k r a t) ∧ Below W.heap.size W wr) (fun i _ => len - (intOf i).toNat)
  case atStart => exact ⟨0, Nat.zero_le _, rfl, Lib.hid (fun i hi => by omega), by (repeat (first | assumption | exact Below.refl _ _ | refine ba ?_ _ | refine bd ?_ | refine bdn ?_ _ | refine bs ?_ (by first | omega | (simp; done) | (simp; omega)) _ | refine bt ?_ (by assumption)))⟩
  case round =>
    obtain ⟨t, ht, rfl, HV, hb1⟩ := hrel
    obtain ⟨w1, rfl⟩ : ∃ w1, w1 = wr := ⟨_, rfl⟩
    have hs1 : W.heap.size + 0 ≤ w1.heap.size := (by have h := hb1.size; first | omega | (simp at h; omega))
    obtain ⟨hc1, hf1, hl1⟩ := bcell hb1
    clear hl1
    by_cases hlt : t < len
    · have hts : (t : Int) < (len : Int) := by omega
      obtain ⟨c0, c1, c2⟩ := HF.out t hlt
      have hbl : b < w1.heap.size := Nat.lt_of_lt_of_le hb hb1.size
      have HO := Lib.hid (refslot_any (k t) (r t) (a t))
      have HR := Lib.hid (refslotright_any (k t) (r t))
      by_cases hl : LOk (k t) (r t)
      · rw [decide_eq_true hl] at HR
        have HL := Lib.hid hl
        clear hl
        by_cases h1 : 1 ≤ a t
        · by_cases h2 : a t ≤ 9007199254740992
          · have HP := Lib.hid (show POk k r a t from ⟨HL.out, h1, h2⟩)
            cases t with
            | zero =>
              have HN := Lib.hid (vok_succ HV.out HP.out (fun h => absurd h (Nat.lt_irrefl 0)))
              simp only [Nat.zero_mul, Nat.add_zero] at c0 c1 c2
              have h1f : (a 0 < 1) = False := eq_false (by omega)
              have h2f : (9007199254740992 < a 0) = False := eq_false (by omega)
              go_wp2_with fail
              refine wp_region_pure (by kernel_rfl) (by kernel_rfl) ?_
              repeat (first | go_big_quiet_step (((first | (go_at_call 46; with_reducible exact HO.out.quiet) | (go_at_call 45; with_reducible exact HR.out.quiet)))) | (quiet_step (((first | (go_at_call 46; with_reducible exact HO.out.quiet) | (go_at_call 45; with_reducible exact HR.out.quiet))))))
              refine wpQuiet_nil ?_
              rintro w4 ⟨x4, hx4⟩
              have hb4 := ext_below _ x4
              rw [← hx4] at hb4
              clear hx4 x4
              have hs4 : w1.heap.size + 0 ≤ w4.heap.size := (by have h := hb4.size; first | omega | (simp at h; omega))
              have hb1_4 := bel hb1 hb4 (by (repeat (first | assumption | exact Below.refl _ _ | refine ba ?_ _ | refine bd ?_ | refine bdn ?_ _ | refine bs ?_ (by first | omega | (simp; done) | (simp; omega)) _ | refine bt ?_ (by assumption))))
              clear hc1 hf1
              obtain ⟨hc4, hf4, hl4⟩ := bcell hb4
              clear hl4
              go_wp2
              go_roundw
              case rel => exact ⟨1, by omega, by go_num, HN, by (repeat (first | assumption | exact Below.refl _ _ | refine ba ?_ _ | refine bd ?_ | refine bdn ?_ _ | refine bs ?_ (by first | omega | (simp; done) | (simp; omega)) _ | refine bt ?_ (by assumption)))⟩
              case measure => simp [intOf]; omega
            | succ u =>
              obtain ⟨d0, d1, d2⟩ := HF.out u (by omega)
              have HO2 := Lib.hid (refslot_any (k u) (r u) (a u))
              have HC := refcmp4_any (k u) (r u) (k (u + 1)) (r (u + 1))
              generalize hq : lcmp (k u) (r u) (k (u + 1)) (r (u + 1)) = q at HC
              have HC := Lib.hid HC
              have HQ := Lib.hid hq
              clear hq
              have us : (u : Int) < (len : Int) := by omega
              have uN : u < len := by omega
              have h1f : (a (u + 1) < 1) = False := eq_false (by omega)
              have h2f : (9007199254740992 < a (u + 1)) = False := eq_false (by omega)
              by_cases h0 : 0 ≤ q
              · have HN := Lib.hid (show ¬ VOk k r a len from fun h => by
                  have h5 := (h (u + 1) hlt).2 (by omega)
                  have h6 : lcmp (k u) (r u) (k (u + 1)) (r (u + 1)) < 0 := h5
                  rw [HQ.out] at h6
                  omega)
                go_wp2_with fail
                refine wp_region_pure (by kernel_rfl) (by kernel_rfl) ?_
                repeat (first | go_big_quiet_step (((first | (go_at_call 46; first | with_reducible exact HO.out.quiet | with_reducible exact HO2.out.quiet) | (go_at_call 45; with_reducible exact HR.out.quiet) | (go_at_call 51; with_reducible exact HC.out.quiet)))) | (quiet_step (((first | (go_at_call 46; first | with_reducible exact HO.out.quiet | with_reducible exact HO2.out.quiet) | (go_at_call 45; with_reducible exact HR.out.quiet) | (go_at_call 51; with_reducible exact HC.out.quiet))))))
                refine wpQuiet_nil ?_
                rintro w4 ⟨x4, hx4⟩
                have hb4 := ext_below _ x4
                rw [← hx4] at hb4
                clear hx4 x4
                have hs4 : w1.heap.size + 0 ≤ w4.heap.size := (by have h := hb4.size; first | omega | (simp at h; omega))
                have hb1_4 := bel hb1 hb4 (by (repeat (first | assumption | exact Below.refl _ _ | refine ba ?_ _ | refine bd ?_ | refine bdn ?_ _ | refine bs ?_ (by first | omega | (simp; done) | (simp; omega)) _ | refine bt ?_ (by assumption))))
                clear hc1 hf1
                obtain ⟨hc4, hf4, hl4⟩ := bcell hb4
                clear hl4
                go_wp2
                go_ret
                refine ⟨_, rfl, ⟨fun h => by simp at h, fun h => absurd h HN.out⟩, ?_⟩
                (repeat (first | assumption | exact Below.refl _ _ | refine ba ?_ _ | refine bd ?_ | refine bdn ?_ _ | refine bs ?_ (by first | omega | (simp; done) | (simp; omega)) _ | refine bt ?_ (by assumption)))
              · have HN := Lib.hid (vok_succ HV.out HP.out (fun _ => by show lcmp (k u) (r u) (k (u + 1)) (r (u + 1)) < 0; rw [HQ.out]; omega))
                have h0' : q < 0 := by omega
                clear h0
                go_wp2_with fail
                refine wp_region_pure (by kernel_rfl) (by kernel_rfl) ?_
                repeat (first | go_big_quiet_step (((first | (go_at_call 46; first | with_reducible exact HO.out.quiet | with_reducible exact HO2.out.quiet) | (go_at_call 45; with_reducible exact HR.out.quiet) | (go_at_call 51; with_reducible exact HC.out.quiet)))) | (quiet_step (((first | (go_at_call 46; first | with_reducible exact HO.out.quiet | with_reducible exact HO2.out.quiet) | (go_at_call 45; with_reducible exact HR.out.quiet) | (go_at_call 51; with_reducible exact HC.out.quiet))))))
                refine wpQuiet_nil ?_
                rintro w4 ⟨x4, hx4⟩
                have hb4 := ext_below _ x4
                rw [← hx4] at hb4
                clear hx4 x4
                have hs4 : w1.heap.size + 0 ≤ w4.heap.size := (by have h := hb4.size; first | omega | (simp at h; omega))
                have hb1_4 := bel hb1 hb4 (by (repeat (first | assumption | exact Below.refl _ _ | refine ba ?_ _ | refine bd ?_ | refine bdn ?_ _ | refine bs ?_ (by first | omega | (simp; done) | (simp; omega)) _ | refine bt ?_ (by assumption))))
                clear hc1 hf1
                obtain ⟨hc4, hf4, hl4⟩ := bcell hb4
                clear hl4
                go_wp2
                go_roundw
                case rel => exact ⟨u + 1 + 1, by omega, by go_num, HN, by (repeat (first | assumption | exact Below.refl _ _ | refine ba ?_ _ | refine bd ?_ | refine bdn ?_ _ | refine bs ?_ (by first | omega | (simp; done) | (simp; omega)) _ | refine bt ?_ (by assumption)))⟩
                case measure => simp [intOf]; omega
          · have HN := Lib.hid (show ¬ VOk k r a len from fun h => h2 (h t hlt).1.2.2)
            have h2' : 9007199254740992 < a t := by omega
            clear h2
            go_wp2_with fail
            refine wp_region_pure (by kernel_rfl) (by kernel_rfl) ?_
            repeat (first | go_big_quiet_step (((first | (go_at_call 46; with_reducible exact HO.out.quiet) | (go_at_call 45; with_reducible exact HR.out.quiet)))) | (quiet_step (((first | (go_at_call 46; with_reducible exact HO.out.quiet) | (go_at_call 45; with_reducible exact HR.out.quiet))))))
            refine wpQuiet_nil ?_
            rintro w4 ⟨x4, hx4⟩
            have hb4 := ext_below _ x4
            rw [← hx4] at hb4
            clear hx4 x4
            have hs4 : w1.heap.size + 0 ≤ w4.heap.size := (by have h := hb4.size; first | omega | (simp at h; omega))
            have hb1_4 := bel hb1 hb4 (by (repeat (first | assumption | exact Below.refl _ _ | refine ba ?_ _ | refine bd ?_ | refine bdn ?_ _ | refine bs ?_ (by first | omega | (simp; done) | (simp; omega)) _ | refine bt ?_ (by assumption))))
            clear hc1 hf1
            obtain ⟨hc4, hf4, hl4⟩ := bcell hb4
            clear hl4
            go_wp2
            go_ret
            refine ⟨_, rfl, ⟨fun h => by simp at h, fun h => absurd h HN.out⟩, ?_⟩
            (repeat (first | assumption | exact Below.refl _ _ | refine ba ?_ _ | refine bd ?_ | refine bdn ?_ _ | refine bs ?_ (by first | omega | (simp; done) | (simp; omega)) _ | refine bt ?_ (by assumption)))
        · have HN := Lib.hid (show ¬ VOk k r a len from fun h => h1 (h t hlt).1.2.1)
          have h1' : a t < 1 := by omega
          clear h1
          go_wp2_with fail
          refine wp_region_pure (by kernel_rfl) (by kernel_rfl) ?_
          repeat (first | go_big_quiet_step (((first | (go_at_call 46; with_reducible exact HO.out.quiet) | (go_at_call 45; with_reducible exact HR.out.quiet)))) | (quiet_step (((first | (go_at_call 46; with_reducible exact HO.out.quiet) | (go_at_call 45; with_reducible exact HR.out.quiet))))))
          refine wpQuiet_nil ?_
          rintro w4 ⟨x4, hx4⟩
          have hb4 := ext_below _ x4
          rw [← hx4] at hb4
          clear hx4 x4
          have hs4 : w1.heap.size + 0 ≤ w4.heap.size := (by have h := hb4.size; first | omega | (simp at h; omega))
          have hb1_4 := bel hb1 hb4 (by (repeat (first | assumption | exact Below.refl _ _ | refine ba ?_ _ | refine bd ?_ | refine bdn ?_ _ | refine bs ?_ (by first | omega | (simp; done) | (simp; omega)) _ | refine bt ?_ (by assumption))))
          clear hc1 hf1
          obtain ⟨hc4, hf4, hl4⟩ := bcell hb4
          clear hl4
          go_wp2
          go_ret
          refine ⟨_, rfl, ⟨fun h => by simp at h, fun h => absurd h HN.out⟩, ?_⟩
          (repeat (first | assumption | exact Below.refl _ _ | refine ba ?_ _ | refine bd ?_ | refine bdn ?_ _ | refine bs ?_ (by first | omega | (simp; done) | (simp; omega)) _ | refine bt ?_ (by assumption)))
      · rw [decide_eq_false hl] at HR
        have HN := Lib.hid (show ¬ VOk k r a len from fun h => hl (h t hlt).1.1)
        clear hl
        go_wp2_with fail
        refine wp_region_pure (by kernel_rfl) (by kernel_rfl) ?_
        repeat (first | go_big_quiet_step (((first | (go_at_call 46; with_reducible exact HO.out.quiet) | (go_at_call 45; with_reducible exact HR.out.quiet)))) | (quiet_step (((first | (go_at_call 46; with_reducible exact HO.out.quiet) | (go_at_call 45; with_reducible exact HR.out.quiet))))))
        refine wpQuiet_nil ?_
        rintro w4 ⟨x4, hx4⟩
        have hb4 := ext_below _ x4
        rw [← hx4] at hb4
        clear hx4 x4
        have hs4 : w1.heap.size + 0 ≤ w4.heap.size := (by have h := hb4.size; first | omega | (simp at h; omega))
        have hb1_4 := bel hb1 hb4 (by (repeat (first | assumption | exact Below.refl _ _ | refine ba ?_ _ | refine bd ?_ | refine bdn ?_ _ | refine bs ?_ (by first | omega | (simp; done) | (simp; omega)) _ | refine bt ?_ (by assumption))))
        clear hc1 hf1
        obtain ⟨hc4, hf4, hl4⟩ := bcell hb4
        clear hl4
        go_wp2
        go_ret
        refine ⟨_, rfl, ⟨fun h => by simp at h, fun h => absurd h HN.out⟩, ?_⟩
        (repeat (first | assumption | exact Below.refl _ _ | refine ba ?_ _ | refine bd ?_ | refine bdn ?_ _ | refine bs ?_ (by first | omega | (simp; done) | (simp; omega)) _ | refine bt ?_ (by assumption)))
    · have htl : len = t := by omega
      subst htl
      go_wp2
      go_ret
      exact ⟨_, rfl, ⟨fun _ => HV.out, fun _ => rfl⟩, hb1⟩
theorem rright_v (v : Value) (l : List Pt) (hbig : l.length < 1000000000) : PureOn (fun w => Vc w v l) Tryd.prog 16 #[v] (.bool (decide (VR l))) := by
  intro W hV
  rcases hV with ⟨rfl, rfl⟩ | ⟨b, off, cap, rfl, h2, h3, h4, h5⟩
  · have hq : decide (VR []) = true := decide_eq_true VR.nil
    rw [hq]
    go_enter Tryd.func16, Tryd.ntmps16
    go_wp2
    go_loopw [3] (fun i wr => i = .int .i64 0 ∧ Below W.heap.size W wr) (fun _ _ => 0)
    case atStart => exact ⟨rfl, by (repeat (first | assumption | exact Below.refl _ _ | refine ba ?_ _ | refine bd ?_ | refine bdn ?_ _ | refine bs ?_ (by first | omega | (simp; done) | (simp; omega)) _ | refine bt ?_ (by assumption)))⟩
    case round =>
      obtain ⟨rfl, hb1⟩ := hrel
      go_wp2
      go_ret
      exact ⟨rfl, hb1⟩
  · refine (rright_some b off l.length cap (kk l) (rr l) (aa l) W h4 hbig h5).mono ?_
    rintro e w' ⟨q, rfl, hq, hb⟩
    refine ⟨?_, hb⟩
    rw [vok_iff] at hq
    by_cases hv : VR l
    · rw [decide_eq_true hv, hq.2 hv]
    · rw [decide_eq_false hv]
      cases q with
      | true => exact absurd (hq.1 rfl) hv
      | false => rfl
end Go.Proofs.YtlhljioncgddeaaDoor

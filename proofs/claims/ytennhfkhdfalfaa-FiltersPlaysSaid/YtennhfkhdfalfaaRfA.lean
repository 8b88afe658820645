/- The document's Get, Right, Holds (layer 5), order (layer 16), alike filters (layer 26). Laid together out of XRf5, XRf6. -/
import Derived.Test.YtennhfkhdfalfaaVrS
import Derived.Test.YtennhfkhdfalfaaVecN
import Derived.Test.YtennhfkhdfalfaaVecAe
import Derived.Test.YtennhfkhdfalfaaFi5
import Derived.Test.YtennhfkhdfalfaaCmO
namespace Go.Proofs.Ytennhfkhdfalfaa
section
open Go.RowKit Go.Maps
attribute [local go_sem] ext_cell ext_frozen Mix.calmUpon Mix.mUpon
theorem kra {l : List Pt} {t : Nat} (h : t < l.length) : l[t] = (kk l t, rr l t, aa l t) := by
  unfold kk rr aa; rw [getD_lt h]
theorem take_succ' {l : List Pt} {t : Nat} (h : t < l.length) : l.take (t + 1) = l.take t ++ [(kk l t, rr l t, aa l t)] := by
  rw [← kra h, List.take_add_one, List.getElem?_eq_getElem h]; rfl
/-- The sum of a kind's amounts. -/
def kS : List Pt → Nat → Int
  | [], _ => 0
  | p :: t, j => (if p.1 = j then p.2.2 else 0) + kS t j
theorem kS_snoc (l : List Pt) (p : Pt) (j : Nat) : kS (l ++ [p]) j = kS l j + if p.1 = j then p.2.2 else 0 := by
  induction l with
  | nil => simp [kS]
  | cons x t ih => rw [List.cons_append, kS, ih, kS]; omega
theorem sl_gt {l : List Pt} (h : VR l) (k r : Int) : sl l k r = gt l k r := by
  induction l with
  | nil => rfl
  | cons p t ih =>
    rw [sl, gt, ih h.tail]
    by_cases he : p.1 = k ∧ p.2.1 = r
    · rw [if_pos he, if_pos he, gt_ahead (l := t) (k := k) (r := r) (fun x hx => by have := h.lt x hx; unfold qy at this ⊢; rw [he.1, he.2] at this; exact this)]; omega
    · rw [if_neg he, if_neg he]; omega
theorem partedV {l : List Pt} {t : Nat} (h : t < l.length) : l = l.take t ++ (kk l t, rr l t, aa l t) :: l.drop (t + 1) := by
  rw [← kra h, ← List.drop_eq_getElem_cons h, List.take_append_drop]

theorem Vc.cells {w : World} {v : Value} {l : List Pt} (h : Vc w v l) : ∃ a n cap, v = .slice a n cap ∧ n = l.length ∧ ∀ i, i < n → ∃ b off, a = Option.some ⟨b, off, none⟩ ∧ b < w.heap.size ∧
    w.cell? ⟨b, off + i * 3, none⟩ = Option.some (.int .i64 (kk l i)) ∧ w.cell? ⟨b, off + i * 3 + 1, none⟩ = Option.some (.int .i64 (rr l i)) ∧ w.cell? ⟨b, off + i * 3 + 2, none⟩ = Option.some (.int .i64 (aa l i)) := by
  rcases h with ⟨⟨a, cap, rfl, _⟩, rfl⟩ | ⟨b, off, cap, h1, h2, h3, h4, h5⟩
  · exact ⟨a, 0, cap, rfl, rfl, fun i hi => absurd hi (by omega)⟩
  · exact ⟨_, _, cap, h1, rfl, fun i hi => ⟨b, off, rfl, h4, h5 i hi⟩⟩
theorem I64s.at {l : List Pt} (h : I64s l) {t : Nat} (ht : t < l.length) : I64 (kk l t) ∧ I64 (rr l t) ∧ I64 (aa l t) := by
  have := h _ (List.getElem_mem ht); rw [kra ht] at this; exact this
theorem refslotright_any (k r : Int) : Pure Try.prog 105 #[L2 k r] (.bool (decide (LOk k r))) := by
  intro W
  by_cases h1 : 0 ≤ k
  · by_cases h2 : k ≤ 3
    · by_cases h3 : 0 ≤ r
      · have hq : decide (LOk k r) = decide (r ≤ 32) := decide_eq_decide.2 ⟨fun h => h.2.2.2, fun h => ⟨h1, by omega, h3, h⟩⟩
        rw [hq]
        go_enter Try.func105, Try.ntmps105
        go_wp2
        go_ret
        refine ⟨rfl, ?_⟩
        (repeat (first | assumption | exact Below.refl _ _ | refine ba ?_ _ | refine bd ?_ | refine bdn ?_ _ | refine bs ?_ (by first | omega | (simp; done) | (simp; omega)) _ | refine bt ?_ (by assumption)))
      · have hq : decide (LOk k r) = false := decide_eq_false fun h => h3 h.2.2.1
        rw [hq]
        go_enter Try.func105, Try.ntmps105
        go_wp2
        go_ret
        refine ⟨rfl, ?_⟩
        (repeat (first | assumption | exact Below.refl _ _ | refine ba ?_ _ | refine bd ?_ | refine bdn ?_ _ | refine bs ?_ (by first | omega | (simp; done) | (simp; omega)) _ | refine bt ?_ (by assumption)))
    · have hq : decide (LOk k r) = false := decide_eq_false fun h => h2 (by have := h.2.1; omega)
      rw [hq]
      go_enter Try.func105, Try.ntmps105
      go_wp2
      go_ret
      refine ⟨rfl, ?_⟩
      (repeat (first | assumption | exact Below.refl _ _ | refine ba ?_ _ | refine bd ?_ | refine bdn ?_ _ | refine bs ?_ (by first | omega | (simp; done) | (simp; omega)) _ | refine bt ?_ (by assumption)))
  · have hq : decide (LOk k r) = false := decide_eq_false fun h => h1 h.1
    rw [hq]
    go_enter Try.func105, Try.ntmps105
    go_wp2
    go_ret
    refine ⟨rfl, ?_⟩
    (repeat (first | assumption | exact Below.refl _ _ | refine ba ?_ _ | refine bd ?_ | refine bdn ?_ _ | refine bs ?_ (by first | omega | (simp; done) | (simp; omega)) _ | refine bt ?_ (by assumption)))

theorem refslot_any (k r a : Int) : Pure Try.prog 102 #[P3 k r a] (L2 k r) := by
  intro W
  go_enter Try.func102, Try.ntmps102
  go_wp2
  refine bodyPost_ret (v := L2 k r) (by simp [results, Try.results102, go_sem, *]) rfl ⟨rfl, ?_⟩
  (repeat (first | assumption | exact Below.refl _ _ | refine ba ?_ _ | refine bd ?_ | refine bdn ?_ _ | refine bs ?_ (by first | omega | (simp; done) | (simp; omega)) _ | refine bt ?_ (by assumption)))
theorem refcmp4_any (k r k' r' : Int) : Pure Try.prog 106 #[L2 k r, L2 k' r'] (.int .i64 (lcmp k r k' r')) := by
  intro W
  by_cases h : k = k'
  · subst h
    by_cases h1 : r < r'
    · have hr : lcmp k r k r' = -1 := by unfold lcmp cmpI; rw [if_pos rfl, if_pos h1]
      rw [hr]
      go_enter Try.func106, Try.ntmps106
      go_wp2
      go_ret
      refine ⟨rfl, ?_⟩
      (repeat (first | assumption | exact Below.refl _ _ | refine ba ?_ _ | refine bd ?_ | refine bdn ?_ _ | refine bs ?_ (by first | omega | (simp; done) | (simp; omega)) _ | refine bt ?_ (by assumption)))
    · by_cases h2 : r = r'
      · subst h2
        have hr : lcmp k r k r = 0 := by unfold lcmp cmpI; rw [if_pos rfl, if_neg (by omega), if_neg (by omega)]
        rw [hr]
        clear h1 hr
        go_enter Try.func106, Try.ntmps106
        go_wp2
        go_ret
        refine ⟨rfl, ?_⟩
        (repeat (first | assumption | exact Below.refl _ _ | refine ba ?_ _ | refine bd ?_ | refine bdn ?_ _ | refine bs ?_ (by first | omega | (simp; done) | (simp; omega)) _ | refine bt ?_ (by assumption)))
      · have hr : lcmp k r k r' = 1 := by unfold lcmp cmpI; rw [if_pos rfl, if_neg h1, if_pos (by omega)]
        rw [hr]
        have hrb : (r == r') = false := by simpa using h2
        have h1' : r' ≤ r := by omega
        clear h1 h2 hr
        go_enter Try.func106, Try.ntmps106
        go_wp2
        go_ret
        refine ⟨rfl, ?_⟩
        (repeat (first | assumption | exact Below.refl _ _ | refine ba ?_ _ | refine bd ?_ | refine bdn ?_ _ | refine bs ?_ (by first | omega | (simp; done) | (simp; omega)) _ | refine bt ?_ (by assumption)))
  · have hkb : (k == k') = false := by simpa using h
    by_cases h1 : k < k'
    · have hr : lcmp k r k' r' = -1 := by unfold lcmp cmpI; rw [if_neg h, if_pos h1]
      rw [hr]
      clear h hr
      go_enter Try.func106, Try.ntmps106
      go_wp2
      go_ret
      refine ⟨rfl, ?_⟩
      (repeat (first | assumption | exact Below.refl _ _ | refine ba ?_ _ | refine bd ?_ | refine bdn ?_ _ | refine bs ?_ (by first | omega | (simp; done) | (simp; omega)) _ | refine bt ?_ (by assumption)))
    · have hr : lcmp k r k' r' = 1 := by unfold lcmp cmpI; rw [if_neg h, if_neg h1, if_pos (by omega)]
      rw [hr]
      have h1' : k' ≤ k := by omega
      clear h h1 hr
      go_enter Try.func106, Try.ntmps106
      go_wp2
      go_ret
      refine ⟨rfl, ?_⟩
      (repeat (first | assumption | exact Below.refl _ _ | refine ba ?_ _ | refine bd ?_ | refine bdn ?_ _ | refine bs ?_ (by first | omega | (simp; done) | (simp; omega)) _ | refine bt ?_ (by assumption)))
/-- The parts from a place on. -/
theorem gt_drop {l : List Pt} {t : Nat} (h : t < l.length) (k r : Int) : gt (l.drop t) k r = if kk l t = k ∧ rr l t = r then aa l t else gt (l.drop (t + 1)) k r := by
  rw [List.drop_eq_getElem_cons h, gt, kra h]
theorem eqS_yes (k r k' r' : Int) (h : k = k' ∧ r = r') (w : World) : (Op.equalIn 10000 142 (.agg #[.int .i64 k, .int .i64 r]) (.agg #[.int .i64 k', .int .i64 r'])).run Try.prog w = .ok true w := by
  rw [eqL2]; obtain ⟨rfl, rfl⟩ := h; simp
theorem eqS_no (k r k' r' : Int) (h : ¬ (k = k' ∧ r = r')) (w : World) : (Op.equalIn 10000 142 (.agg #[.int .i64 k, .int .i64 r]) (.agg #[.int .i64 k', .int .i64 r'])).run Try.prog w = .ok false w := by
  rw [eqL2]
  congr 1
  rw [Bool.eq_false_iff]
  intro hh; apply h; simpa using hh
set_option maxRecDepth 100000 in
set_option maxHeartbeats 2000000 in
theorem rget_any (v : Value) (l : List Pt) (k r : Int) (hbig : l.length < 1000000000) : PureOn (fun w => Vc w v l) Try.prog 103 #[v, L2 k r] (.int .i64 (gt l k r)) := by
  intro W hV
  obtain ⟨a, n, cap, rfl, hn, hC⟩ := hV.cells
  have HC := Lib.hid hC; have HN := Lib.hid hn
  have hn9 : n < 1000000000 := by omega
  obtain ⟨g, hg⟩ : ∃ g, g = gt l k r := ⟨_, rfl⟩
  have HG := Lib.hid hg
  rw [← hg]
  clear hC hn hV hbig hg
  go_enter Try.func103, Try.ntmps103
  go_wp2
  have HB0 := Lib.hid (show Below W.heap.size W _ from ba (Below.refl _ _) (.cells #[.int .i64 k, .int .i64 r] 142))
  go_loopw [5] (fun i wr => ∃ t : Nat, t ≤ n ∧ i = .int .i64 t ∧ Hid (g = gt (l.drop t) k r) ∧ Below (W.alloc (.cells #[.int .i64 k, .int .i64 r] 142)).heap.size (W.alloc (.cells #[.int .i64 k, .int .i64 r] 142)) wr) (fun i _ => n - (intOf i).toNat)
  case atStart => exact ⟨0, Nat.zero_le _, rfl, Lib.hid HG.out, Below.refl _ _⟩
  case round =>
    obtain ⟨t, ht, rfl, HS, hb1⟩ := hrel
    obtain ⟨w1, rfl⟩ : ∃ w1, w1 = wr := ⟨_, rfl⟩
    have hs1 : W.heap.size + 1 ≤ w1.heap.size := (by have h := hb1.size; first | omega | (simp at h; omega))
    have hz1_0 : W.heap.size < w1.heap.size := (by omega)
    obtain ⟨hc1, hf1, hl1⟩ := bcell hb1
    clear hl1
    have HB1 := Lib.hid (show Below W.heap.size W w1 from bt HB0.out hb1)
    by_cases hlt : t < n
    · have hts : (t : Int) < (n : Int) := by omega
      have hll : t < l.length := by rw [← HN.out]; exact hlt
      obtain ⟨b, off, rfl, hb, c0, c1, c2⟩ := HC.out t hlt
      have hbl : b < w1.heap.size := Nat.lt_of_lt_of_le hb HB1.out.size
      have hd := gt_drop hll k r
      rw [← HS.out] at hd
      by_cases he : kk l t = k ∧ rr l t = r
      · rw [if_pos he] at hd
        have hq := eqS_yes _ _ _ _ he
        have HO := Lib.hid (refslot_any (kk l t) (rr l t) (aa l t))
        rw [← hd] at c2 HO
        clear he hd hll HG HS
        generalize kk l t = k' at *; generalize rr l t = r' at *
        go_wp2_with fail
        refine wp_region_pure (by kernel_rfl) (by kernel_rfl) ?_
        repeat (first | go_big_quiet_step (((go_at_call 102; with_reducible exact HO.out.quiet))) | (quiet_step (((go_at_call 102; with_reducible exact HO.out.quiet)))))
        refine wpQuiet_nil ?_
        rintro w2 ⟨x2, hx2⟩
        have hb2 := ext_below _ x2
        rw [← hx2] at hb2
        clear hx2 x2
        have hs2 : w1.heap.size + 0 ≤ w2.heap.size := (by have h := hb2.size; first | omega | (simp at h; omega))
        have hb1_2 := bel hb1 hb2 (by (repeat (first | assumption | exact Below.refl _ _ | refine ba ?_ _ | refine bd ?_ | refine bdn ?_ _ | refine bs ?_ (by first | omega | (simp; done) | (simp; omega)) _ | refine bt ?_ (by assumption))))
        clear hz1_0 hc1 hf1
        obtain ⟨hc1_2, hf1_2, hl1_2⟩ := bcell hb1_2
        clear hl1_2
        have hz2_0 : W.heap.size < w2.heap.size := (by omega)
        obtain ⟨hc2, hf2, hl2⟩ := bcell hb2
        clear hl2
        go_wp2
        go_ret
        exact ⟨rfl, by have := HB1.out; (repeat (first | assumption | exact Below.refl _ _ | refine ba ?_ _ | refine bd ?_ | refine bdn ?_ _ | refine bs ?_ (by first | omega | (simp; done) | (simp; omega)) _ | refine bt ?_ (by assumption)))⟩
      · rw [if_neg he] at hd
        have HD := Lib.hid hd
        have hq := eqS_no _ _ _ _ he
        have HO := Lib.hid (refslot_any (kk l t) (rr l t) (aa l t))
        clear he hd hll HG HS
        generalize kk l t = k' at *; generalize rr l t = r' at *; generalize aa l t = a' at *
        go_wp2_with fail
        refine wp_region_pure (by kernel_rfl) (by kernel_rfl) ?_
        repeat (first | go_big_quiet_step (((go_at_call 102; with_reducible exact HO.out.quiet))) | (quiet_step (((go_at_call 102; with_reducible exact HO.out.quiet)))))
        refine wpQuiet_nil ?_
        rintro w2 ⟨x2, hx2⟩
        have hb2 := ext_below _ x2
        rw [← hx2] at hb2
        clear hx2 x2
        have hs2 : w1.heap.size + 0 ≤ w2.heap.size := (by have h := hb2.size; first | omega | (simp at h; omega))
        have hb1_2 := bel hb1 hb2 (by (repeat (first | assumption | exact Below.refl _ _ | refine ba ?_ _ | refine bd ?_ | refine bdn ?_ _ | refine bs ?_ (by first | omega | (simp; done) | (simp; omega)) _ | refine bt ?_ (by assumption))))
        clear hz1_0 hc1 hf1
        obtain ⟨hc1_2, hf1_2, hl1_2⟩ := bcell hb1_2
        clear hl1_2
        have hz2_0 : W.heap.size < w2.heap.size := (by omega)
        obtain ⟨hc2, hf2, hl2⟩ := bcell hb2
        clear hl2
        go_wp2
        go_roundw
        case rel => exact ⟨t + 1, by omega, by go_num, HD, by (repeat (first | assumption | exact Below.refl _ _ | refine ba ?_ _ | refine bd ?_ | refine bdn ?_ _ | refine bs ?_ (by first | omega | (simp; done) | (simp; omega)) _ | refine bt ?_ (by assumption)))⟩
        case measure => simp [intOf]; omega
    · obtain rfl : n = t := by omega
      have hz : g = 0 := by
        have h := HS.out
        rw [List.drop_of_length_le (by rw [HN.out]; exact Nat.le_refl _)] at h
        exact h
      subst hz
      go_wp2
      go_ret
      exact ⟨rfl, by have := HB1.out; (repeat (first | assumption | exact Below.refl _ _ | refine ba ?_ _ | refine bd ?_ | refine bdn ?_ _ | refine bs ?_ (by first | omega | (simp; done) | (simp; omega)) _ | refine bt ?_ (by assumption)))⟩
set_option maxRecDepth 100000 in
set_option maxHeartbeats 4000000 in
theorem rright_some (b off len cap : Nat) (k r a : Nat → Int) (W : World) (hb : b < W.heap.size) (hbig : len < 1000000000) (hF : Parts W b off len k r a) :
    Calls Try.prog 60 #[.slice (some ⟨b, off, none⟩) len cap] W fun e w' => ∃ q : Bool, e = .returned (.bool q) ∧ (q = true ↔ VOk k r a len) ∧ Below W.heap.size W w' := by
  have HF := Lib.hid hF
  clear hF
  go_enter Try.func60, Try.ntmps60
  go_wp2
  go_loopw [3] (fun i wr => ∃ t : Nat, t ≤ len ∧ i = .int .i64 t ∧ Hid (VOk k r a t) ∧ Below W.heap.size W wr) (fun i _ => len - (intOf i).toNat)
  case atStart => exact ⟨0, Nat.zero_le _, rfl, Lib.hid (fun i hi => by omega), by (repeat (first | assumption | exact Below.refl _ _ | refine ba ?_ _ | refine bd ?_ | refine bdn ?_ _ | refine bs ?_ (by first | omega | (simp; done) | (simp; omega)) _ | refine bt ?_ (by assumption)))⟩
  case round =>
    obtain ⟨t, ht, rfl, HV, hb1⟩ := hrel
    obtain ⟨w1, rfl⟩ : ∃ w1, w1 = wr := ⟨_, rfl⟩
    have hs1 : W.heap.size + 0 ≤ w1.heap.size := (by have h := hb1.size; first | omega | (simp at h; omega))
    obtain ⟨hc1, hf1, hl1⟩ := bcell hb1
    clear hl1
    by_cases hlt : t < len
    · have hts : (t : Int) < (len : Int) := by omega
      obtain ⟨c0, c1, c2⟩ := HF.out t hlt
      have hbl : b < w1.heap.size := Nat.lt_of_lt_of_le hb hb1.size
      have HO := Lib.hid (refslot_any (k t) (r t) (a t))
      have HR := Lib.hid (refslotright_any (k t) (r t))
      by_cases hl : LOk (k t) (r t)
      · rw [decide_eq_true hl] at HR
        have HL := Lib.hid hl
        clear hl
        by_cases h1 : 1 ≤ a t
        · by_cases h2 : a t ≤ 9007199254740992
          · have HP := Lib.hid (show POk k r a t from ⟨HL.out, h1, h2⟩)
            cases t with
            | zero =>
              have HN := Lib.hid (vok_succ HV.out HP.out (fun h => absurd h (Nat.lt_irrefl 0)))
              simp only [Nat.zero_mul, Nat.add_zero] at c0 c1 c2
              have h1f : (a 0 < 1) = False := eq_false (by omega)
              have h2f : (9007199254740992 < a 0) = False := eq_false (by omega)
              go_wp2_with fail
              refine wp_region_pure (by kernel_rfl) (by kernel_rfl) ?_
              repeat (first | go_big_quiet_step (((first | (go_at_call 102; with_reducible exact HO.out.quiet) | (go_at_call 105; with_reducible exact HR.out.quiet)))) | (quiet_step (((first | (go_at_call 102; with_reducible exact HO.out.quiet) | (go_at_call 105; with_reducible exact HR.out.quiet))))))
              refine wpQuiet_nil ?_
              rintro w4 ⟨x4, hx4⟩
              have hb4 := ext_below _ x4
              rw [← hx4] at hb4
              clear hx4 x4
              have hs4 : w1.heap.size + 0 ≤ w4.heap.size := (by have h := hb4.size; first | omega | (simp at h; omega))
              have hb1_4 := bel hb1 hb4 (by (repeat (first | assumption | exact Below.refl _ _ | refine ba ?_ _ | refine bd ?_ | refine bdn ?_ _ | refine bs ?_ (by first | omega | (simp; done) | (simp; omega)) _ | refine bt ?_ (by assumption))))
              clear hc1 hf1
              obtain ⟨hc4, hf4, hl4⟩ := bcell hb4
              clear hl4
              go_wp2
              go_roundw
              case rel => exact ⟨1, by omega, by go_num, HN, by (repeat (first | assumption | exact Below.refl _ _ | refine ba ?_ _ | refine bd ?_ | refine bdn ?_ _ | refine bs ?_ (by first | omega | (simp; done) | (simp; omega)) _ | refine bt ?_ (by assumption)))⟩
              case measure => simp [intOf]; omega
            | succ u =>
              obtain ⟨d0, d1, d2⟩ := HF.out u (by omega)
              have HO2 := Lib.hid (refslot_any (k u) (r u) (a u))
              have HC := refcmp4_any (k u) (r u) (k (u + 1)) (r (u + 1))
              generalize hq : lcmp (k u) (r u) (k (u + 1)) (r (u + 1)) = q at HC
              have HC := Lib.hid HC
              have HQ := Lib.hid hq
              clear hq
              have us : (u : Int) < (len : Int) := by omega
              have uN : u < len := by omega
              have h1f : (a (u + 1) < 1) = False := eq_false (by omega)
              have h2f : (9007199254740992 < a (u + 1)) = False := eq_false (by omega)
              by_cases h0 : 0 ≤ q
              · have HN := Lib.hid (show ¬ VOk k r a len from fun h => by
                  have h5 := (h (u + 1) hlt).2 (by omega)
                  have h6 : lcmp (k u) (r u) (k (u + 1)) (r (u + 1)) < 0 := h5
                  rw [HQ.out] at h6
                  omega)
                go_wp2_with fail
                refine wp_region_pure (by kernel_rfl) (by kernel_rfl) ?_
                repeat (first | go_big_quiet_step (((first | (go_at_call 102; first | with_reducible exact HO.out.quiet | with_reducible exact HO2.out.quiet) | (go_at_call 105; with_reducible exact HR.out.quiet) | (go_at_call 106; with_reducible exact HC.out.quiet)))) | (quiet_step (((first | (go_at_call 102; first | with_reducible exact HO.out.quiet | with_reducible exact HO2.out.quiet) | (go_at_call 105; with_reducible exact HR.out.quiet) | (go_at_call 106; with_reducible exact HC.out.quiet))))))
                refine wpQuiet_nil ?_
                rintro w4 ⟨x4, hx4⟩
                have hb4 := ext_below _ x4
                rw [← hx4] at hb4
                clear hx4 x4
                have hs4 : w1.heap.size + 0 ≤ w4.heap.size := (by have h := hb4.size; first | omega | (simp at h; omega))
                have hb1_4 := bel hb1 hb4 (by (repeat (first | assumption | exact Below.refl _ _ | refine ba ?_ _ | refine bd ?_ | refine bdn ?_ _ | refine bs ?_ (by first | omega | (simp; done) | (simp; omega)) _ | refine bt ?_ (by assumption))))
                clear hc1 hf1
                obtain ⟨hc4, hf4, hl4⟩ := bcell hb4
                clear hl4
                go_wp2
                go_ret
                refine ⟨_, rfl, ⟨fun h => by simp at h, fun h => absurd h HN.out⟩, ?_⟩
                (repeat (first | assumption | exact Below.refl _ _ | refine ba ?_ _ | refine bd ?_ | refine bdn ?_ _ | refine bs ?_ (by first | omega | (simp; done) | (simp; omega)) _ | refine bt ?_ (by assumption)))
              · have HN := Lib.hid (vok_succ HV.out HP.out (fun _ => by show lcmp (k u) (r u) (k (u + 1)) (r (u + 1)) < 0; rw [HQ.out]; omega))
                have h0' : q < 0 := by omega
                clear h0
                go_wp2_with fail
                refine wp_region_pure (by kernel_rfl) (by kernel_rfl) ?_
                repeat (first | go_big_quiet_step (((first | (go_at_call 102; first | with_reducible exact HO.out.quiet | with_reducible exact HO2.out.quiet) | (go_at_call 105; with_reducible exact HR.out.quiet) | (go_at_call 106; with_reducible exact HC.out.quiet)))) | (quiet_step (((first | (go_at_call 102; first | with_reducible exact HO.out.quiet | with_reducible exact HO2.out.quiet) | (go_at_call 105; with_reducible exact HR.out.quiet) | (go_at_call 106; with_reducible exact HC.out.quiet))))))
                refine wpQuiet_nil ?_
                rintro w4 ⟨x4, hx4⟩
                have hb4 := ext_below _ x4
                rw [← hx4] at hb4
                clear hx4 x4
                have hs4 : w1.heap.size + 0 ≤ w4.heap.size := (by have h := hb4.size; first | omega | (simp at h; omega))
                have hb1_4 := bel hb1 hb4 (by (repeat (first | assumption | exact Below.refl _ _ | refine ba ?_ _ | refine bd ?_ | refine bdn ?_ _ | refine bs ?_ (by first | omega | (simp; done) | (simp; omega)) _ | refine bt ?_ (by assumption))))
                clear hc1 hf1
                obtain ⟨hc4, hf4, hl4⟩ := bcell hb4
                clear hl4
                go_wp2
                go_roundw
                case rel => exact ⟨u + 1 + 1, by omega, by go_num, HN, by (repeat (first | assumption | exact Below.refl _ _ | refine ba ?_ _ | refine bd ?_ | refine bdn ?_ _ | refine bs ?_ (by first | omega | (simp; done) | (simp; omega)) _ | refine bt ?_ (by assumption)))⟩
                case measure => simp [intOf]; omega
          · have HN := Lib.hid (show ¬ VOk k r a len from fun h => h2 (h t hlt).1.2.2)
            have h2' : 9007199254740992 < a t := by omega
            clear h2
            go_wp2_with fail
            refine wp_region_pure (by kernel_rfl) (by kernel_rfl) ?_
            repeat (first | go_big_quiet_step (((first | (go_at_call 102; with_reducible exact HO.out.quiet) | (go_at_call 105; with_reducible exact HR.out.quiet)))) | (quiet_step (((first | (go_at_call 102; with_reducible exact HO.out.quiet) | (go_at_call 105; with_reducible exact HR.out.quiet))))))
            refine wpQuiet_nil ?_
            rintro w4 ⟨x4, hx4⟩
            have hb4 := ext_below _ x4
            rw [← hx4] at hb4
            clear hx4 x4
            have hs4 : w1.heap.size + 0 ≤ w4.heap.size := (by have h := hb4.size; first | omega | (simp at h; omega))
            have hb1_4 := bel hb1 hb4 (by (repeat (first | assumption | exact Below.refl _ _ | refine ba ?_ _ | refine bd ?_ | refine bdn ?_ _ | refine bs ?_ (by first | omega | (simp; done) | (simp; omega)) _ | refine bt ?_ (by assumption))))
            clear hc1 hf1
            obtain ⟨hc4, hf4, hl4⟩ := bcell hb4
            clear hl4
            go_wp2
            go_ret
            refine ⟨_, rfl, ⟨fun h => by simp at h, fun h => absurd h HN.out⟩, ?_⟩
            (repeat (first | assumption | exact Below.refl _ _ | refine ba ?_ _ | refine bd ?_ | refine bdn ?_ _ | refine bs ?_ (by first | omega | (simp; done) | (simp; omega)) _ | refine bt ?_ (by assumption)))
        · have HN := Lib.hid (show ¬ VOk k r a len from fun h => h1 (h t hlt).1.2.1)
          have h1' : a t < 1 := by omega
          clear h1
          go_wp2_with fail
          refine wp_region_pure (by kernel_rfl) (by kernel_rfl) ?_
          repeat (first | go_big_quiet_step (((first | (go_at_call 102; with_reducible exact HO.out.quiet) | (go_at_call 105; with_reducible exact HR.out.quiet)))) | (quiet_step (((first | (go_at_call 102; with_reducible exact HO.out.quiet) | (go_at_call 105; with_reducible exact HR.out.quiet))))))
          refine wpQuiet_nil ?_
          rintro w4 ⟨x4, hx4⟩
          have hb4 := ext_below _ x4
          rw [← hx4] at hb4
          clear hx4 x4
          have hs4 : w1.heap.size + 0 ≤ w4.heap.size := (by have h := hb4.size; first | omega | (simp at h; omega))
          have hb1_4 := bel hb1 hb4 (by (repeat (first | assumption | exact Below.refl _ _ | refine ba ?_ _ | refine bd ?_ | refine bdn ?_ _ | refine bs ?_ (by first | omega | (simp; done) | (simp; omega)) _ | refine bt ?_ (by assumption))))
          clear hc1 hf1
          obtain ⟨hc4, hf4, hl4⟩ := bcell hb4
          clear hl4
          go_wp2
          go_ret
          refine ⟨_, rfl, ⟨fun h => by simp at h, fun h => absurd h HN.out⟩, ?_⟩
          (repeat (first | assumption | exact Below.refl _ _ | refine ba ?_ _ | refine bd ?_ | refine bdn ?_ _ | refine bs ?_ (by first | omega | (simp; done) | (simp; omega)) _ | refine bt ?_ (by assumption)))
      · rw [decide_eq_false hl] at HR
        have HN := Lib.hid (show ¬ VOk k r a len from fun h => hl (h t hlt).1.1)
        clear hl
        go_wp2_with fail
        refine wp_region_pure (by kernel_rfl) (by kernel_rfl) ?_
        repeat (first | go_big_quiet_step (((first | (go_at_call 102; with_reducible exact HO.out.quiet) | (go_at_call 105; with_reducible exact HR.out.quiet)))) | (quiet_step (((first | (go_at_call 102; with_reducible exact HO.out.quiet) | (go_at_call 105; with_reducible exact HR.out.quiet))))))
        refine wpQuiet_nil ?_
        rintro w4 ⟨x4, hx4⟩
        have hb4 := ext_below _ x4
        rw [← hx4] at hb4
        clear hx4 x4
        have hs4 : w1.heap.size + 0 ≤ w4.heap.size := (by have h := hb4.size; first | omega | (simp at h; omega))
        have hb1_4 := bel hb1 hb4 (by (repeat (first | assumption | exact Below.refl _ _ | refine ba ?_ _ | refine bd ?_ | refine bdn ?_ _ | refine bs ?_ (by first | omega | (simp; done) | (simp; omega)) _ | refine bt ?_ (by assumption))))
        clear hc1 hf1
        obtain ⟨hc4, hf4, hl4⟩ := bcell hb4
        clear hl4
        go_wp2
        go_ret
        refine ⟨_, rfl, ⟨fun h => by simp at h, fun h => absurd h HN.out⟩, ?_⟩
        (repeat (first | assumption | exact Below.refl _ _ | refine ba ?_ _ | refine bd ?_ | refine bdn ?_ _ | refine bs ?_ (by first | omega | (simp; done) | (simp; omega)) _ | refine bt ?_ (by assumption)))
    · have htl : len = t := by omega
      subst htl
      go_wp2
      go_ret
      exact ⟨_, rfl, ⟨fun _ => HV.out, fun _ => rfl⟩, hb1⟩
theorem rright_v (v : Value) (l : List Pt) (hbig : l.length < 1000000000) : PureOn (fun w => Vc w v l) Try.prog 60 #[v] (.bool (decide (VR l))) := by
  intro W hV
  rcases hV with ⟨⟨a, cap, rfl, _⟩, rfl⟩ | ⟨b, off, cap, rfl, h2, h3, h4, h5⟩
  · have hq : decide (VR []) = true := decide_eq_true VR.nil
    rw [hq]
    go_enter Try.func60, Try.ntmps60
    go_wp2
    go_loopw [3] (fun i wr => i = .int .i64 0 ∧ Below W.heap.size W wr) (fun _ _ => 0)
    case atStart => exact ⟨rfl, by (repeat (first | assumption | exact Below.refl _ _ | refine ba ?_ _ | refine bd ?_ | refine bdn ?_ _ | refine bs ?_ (by first | omega | (simp; done) | (simp; omega)) _ | refine bt ?_ (by assumption)))⟩
    case round =>
      obtain ⟨rfl, hb1⟩ := hrel
      go_wp2
      go_ret
      exact ⟨rfl, hb1⟩
  · refine (rright_some b off l.length cap (kk l) (rr l) (aa l) W h4 hbig h5).mono ?_
    rintro e w' ⟨q, rfl, hq, hb⟩
    refine ⟨?_, hb⟩
    rw [vok_iff] at hq
    by_cases hv : VR l
    · rw [decide_eq_true hv, hq.2 hv]
    · rw [decide_eq_false hv]
      cases q with
      | true => exact absurd (hq.1 rfl) hv
      | false => rfl
def hB (a b : List Pt) : Bool := (mrg gSub a b).isSome
theorem hB_iff (a b : List Pt) : hB a b = true ↔ HLD a b := sub_iff a b
theorem hB_self (a : List Pt) : decide (VR a) = hB a a := by
  by_cases h : VR a
  · rw [decide_eq_true h]; exact ((hB_iff a a).2 (hld_self.2 h)).symm
  · rw [decide_eq_false h]
    cases hq : hB a a with
    | true => exact absurd (hld_self.1 ((hB_iff a a).1 hq)) h
    | false => rfl
theorem vholds_b (va vb : Value) (la lb : List Pt) (hl : la.length < 1000000000) (hl' : lb.length < 1000000000) : PureOn (fun w => Vc w va la ∧ Vc w vb lb) Try.prog 23 #[va, vb] (.bool (hB la lb)) := vholds_any va vb la lb hl hl'
theorem hld_iff {a b : List Pt} (ha : VR a) (hb : VR b) : HLD a b ↔ ∀ p ∈ b, p.2.2 ≤ gt a p.1 p.2.1 := by
  constructor
  · intro h p hp
    have h1 := h.2.2 p.1 p.2.1
    have h2 : gt b p.1 p.2.1 = p.2.2 := by
      rw [← sl_gt hb]
      clear h1 h ha
      induction b with
      | nil => simp at hp
      | cons q t ih =>
        rw [sl]
        rcases List.mem_cons.1 hp with rfl | hp'
        · rw [if_pos ⟨rfl, rfl⟩, sl_gt hb.tail, gt_ahead (l := t) (fun x hx => hb.lt x hx)]; omega
        · have hne : ¬ (q.1 = p.1 ∧ q.2.1 = p.2.1) := fun e => by
            have := hb.lt p hp'; unfold qy at this; rw [e.1, e.2] at this; omega
          rw [if_neg hne, ih hb.tail hp']; omega
    omega
  · intro h
    refine ⟨ha, hb, fun k r => ?_⟩
    by_cases h0 : 0 < gt b k r
    · obtain ⟨x, hx, e1, e2⟩ := (gt_pos hb).1 h0
      have h1 := h x hx
      rw [e1, e2] at h1
      have h2 : gt b k r = x.2.2 := by
        rw [← sl_gt hb]
        clear h1 h h0 ha
        induction b with
        | nil => simp at hx
        | cons q t ih =>
          rw [sl]
          rcases List.mem_cons.1 hx with rfl | hx'
          · rw [if_pos ⟨e1, e2⟩, sl_gt hb.tail, gt_ahead (l := t) (fun y hy => by have := hb.lt y hy; unfold qy at this ⊢; rw [e1, e2] at this; exact this)]; omega
          · have hne : ¬ (q.1 = k ∧ q.2.1 = r) := fun e => by
              have := hb.lt x hx'; unfold qy at this; rw [e.1, e.2, e1, e2] at this; omega
            rw [if_neg hne, ih hb.tail hx']; omega
      omega
    · have := gt_nn ha k r; omega
theorem rholds_any (va vb : Value) (la lb : List Pt) (hl : la.length < 1000000000) (hl' : lb.length < 1000000000) : PureOn (fun w => Vc w va la ∧ Vc w vb lb) Try.prog 59 #[va, vb] (.bool (hB la lb)) := by
  intro W ⟨hA, hV⟩
  have HA := Lib.hid hA; have HV := Lib.hid hV
  obtain ⟨a, n, cap, rfl, hn, hC⟩ := hV.cells
  have HC := Lib.hid hC; have HN := Lib.hid hn
  have hn9 : n < 1000000000 := by omega
  have HGet := Lib.hid fun k r => rget_any va la k r hl
  have R1 := rright_v va la hl
  have R2 := rright_v (.slice a n cap) lb hl'
  obtain ⟨g, hg⟩ : ∃ g, g = hB la lb := ⟨_, rfl⟩
  have HG := Lib.hid hg
  rw [← hg]
  clear hA hV hC hn hg hl hl'
  go_enter Try.func59, Try.ntmps59
  go_wp2
  go_loopw [5] (fun i wr => ∃ t : Nat, t ≤ n ∧ i = .int .i64 t ∧ Hid (∀ p ∈ lb.take t, p.2.2 ≤ gt la p.1 p.2.1) ∧ Below W.heap.size W wr) (fun i _ => n - (intOf i).toNat)
  case atStart => exact ⟨0, Nat.zero_le _, rfl, Lib.hid (fun p hp => by simp at hp), by (repeat (first | assumption | exact Below.refl _ _ | refine ba ?_ _ | refine bd ?_ | refine bdn ?_ _ | refine bs ?_ (by first | omega | (simp; done) | (simp; omega)) _ | refine bt ?_ (by assumption)))⟩
  case round =>
    obtain ⟨t, ht, rfl, HS, hb1⟩ := hrel
    obtain ⟨w1, rfl⟩ : ∃ w1, w1 = wr := ⟨_, rfl⟩
    have hs1 : W.heap.size + 0 ≤ w1.heap.size := (by have h := hb1.size; first | omega | (simp at h; omega))
    obtain ⟨hc1, hf1, hl1⟩ := bcell hb1
    clear hl1
    have HA1 := Lib.hid (HA.out.on hb1)
    by_cases hlt : t < n
    · have hts : (t : Int) < (n : Int) := by omega
      have hll : t < lb.length := by rw [← HN.out]; exact hlt
      obtain ⟨b, off, rfl, hb, c0, c1, c2⟩ := HC.out t hlt
      have hbl : b < w1.heap.size := Nat.lt_of_lt_of_le hb hb1.size
      have HP := Lib.hid (partedV hll)
      have HT := Lib.hid (take_succ' hll)
      clear hll
      generalize kk lb t = k at *; generalize rr lb t = r at *; generalize aa lb t = x at *
      have HO := Lib.hid (refslot_any k r x)
      have G1 := HGet.out k r
      obtain ⟨y, hy⟩ : ∃ y, y = gt la k r := ⟨_, rfl⟩
      rw [← hy] at G1
      have G1 := Lib.hid G1
      have HY := Lib.hid hy
      have X1 := Lib.hid (fun z : Ext w1 => HA1.out.on (ext_below _ z))
      clear hy
      by_cases he : y < x
      · have HX := Lib.hid (show g = false by
          rw [HG.out]
          cases hq : hB la lb with
          | false => rfl
          | true =>
            have h1 := (hB_iff _ _).1 hq
            have h2 := (hld_iff h1.1 h1.2.1).1 h1 (k, r, x) (by rw [HP.out]; simp)
            have h3 : y < x := he
            rw [HY.out] at h3
            have h4 : x ≤ gt la k r := h2
            omega)
        go_wp2_with fail
        refine wp_region_pure (by kernel_rfl) (by kernel_rfl) ?_
        repeat (first | go_big_quiet_step (((first | (go_at_call 102; with_reducible exact HO.out.quiet) | (go_at_call 103; with_reducible exact G1.out.quiet (clo_Vc _ _) HA1.out)))) | (quiet_step (((first | (go_at_call 102; with_reducible exact HO.out.quiet) | (go_at_call 103; with_reducible exact G1.out.quiet (clo_Vc _ _) HA1.out))))))
        refine wpQuiet_nil ?_
        rintro w2 ⟨x2, hx2⟩
        have hb2 := ext_below _ x2
        rw [← hx2] at hb2
        clear hx2 x2
        have hs2 : w1.heap.size + 0 ≤ w2.heap.size := (by have h := hb2.size; first | omega | (simp at h; omega))
        have hb1_2 := bel hb1 hb2 (by (repeat (first | assumption | exact Below.refl _ _ | refine ba ?_ _ | refine bd ?_ | refine bdn ?_ _ | refine bs ?_ (by first | omega | (simp; done) | (simp; omega)) _ | refine bt ?_ (by assumption))))
        clear hc1 hf1
        obtain ⟨hc2, hf2, hl2⟩ := bcell hb2
        clear hl2
        go_wp2
        go_ret
        exact ⟨by rw [HX.out]; rfl, by (repeat (first | assumption | exact Below.refl _ _ | refine ba ?_ _ | refine bd ?_ | refine bdn ?_ _ | refine bs ?_ (by first | omega | (simp; done) | (simp; omega)) _ | refine bt ?_ (by assumption)))⟩
      · have he' : x ≤ y := by omega
        have hef : (y < x) = False := eq_false he
        clear he
        go_wp2_with fail
        refine wp_region_pure (by kernel_rfl) (by kernel_rfl) ?_
        repeat (first | go_big_quiet_step (((first | (go_at_call 102; with_reducible exact HO.out.quiet) | (go_at_call 103; with_reducible exact G1.out.quiet (clo_Vc _ _) HA1.out)))) | (quiet_step (((first | (go_at_call 102; with_reducible exact HO.out.quiet) | (go_at_call 103; with_reducible exact G1.out.quiet (clo_Vc _ _) HA1.out))))))
        refine wpQuiet_nil ?_
        rintro w2 ⟨x2, hx2⟩
        have hb2 := ext_below _ x2
        rw [← hx2] at hb2
        clear hx2 x2
        have hs2 : w1.heap.size + 0 ≤ w2.heap.size := (by have h := hb2.size; first | omega | (simp at h; omega))
        have hb1_2 := bel hb1 hb2 (by (repeat (first | assumption | exact Below.refl _ _ | refine ba ?_ _ | refine bd ?_ | refine bdn ?_ _ | refine bs ?_ (by first | omega | (simp; done) | (simp; omega)) _ | refine bt ?_ (by assumption))))
        clear hc1 hf1
        obtain ⟨hc2, hf2, hl2⟩ := bcell hb2
        clear hl2
        go_wp2
        go_roundw
        case rel =>
          refine ⟨t + 1, by omega, by go_num, Lib.hid fun p hp => ?_, by (repeat (first | assumption | exact Below.refl _ _ | refine ba ?_ _ | refine bd ?_ | refine bdn ?_ _ | refine bs ?_ (by first | omega | (simp; done) | (simp; omega)) _ | refine bt ?_ (by assumption)))⟩
          rw [HT.out] at hp
          rcases List.mem_append.1 hp with hp | hp
          · exact HS.out p hp
          · rw [List.mem_singleton.1 hp]; show x ≤ gt la k r; rw [← HY.out]; exact he'
        case measure => simp [intOf]; omega
    · obtain rfl : n = t := by omega
      have HL := HS.out
      rw [show lb.take n = lb from by rw [HN.out]; exact List.take_length] at HL
      have HL := Lib.hid HL
      by_cases h1 : VR la
      · rw [decide_eq_true h1] at R1
        have R1 := Lib.hid R1
        by_cases h2 : VR lb
        · rw [decide_eq_true h2] at R2
          have R2 := Lib.hid R2
          have HX := Lib.hid (show g = true by rw [HG.out]; exact (hB_iff _ _).2 ((hld_iff h1 h2).2 HL.out))
          go_wp2_with fail
          (with_reducible refine (R1.out.app _ (HA1.out.on (by (repeat (first | assumption | exact Below.refl _ _ | refine ba ?_ _ | refine bd ?_ | refine bdn ?_ _ | refine bs ?_ (by first | omega | (simp; done) | (simp; omega)) _ | refine bt ?_ (by assumption)))))).mono ?_)
          rintro e w2 ⟨rfl, hb2⟩
          have hs2 : w1.heap.size + 0 ≤ w2.heap.size := (by have h := hb2.size; first | omega | (simp at h; omega))
          have hb1_2 := bel hb1 hb2 (by (repeat (first | assumption | exact Below.refl _ _ | refine ba ?_ _ | refine bd ?_ | refine bdn ?_ _ | refine bs ?_ (by first | omega | (simp; done) | (simp; omega)) _ | refine bt ?_ (by assumption))))
          clear hc1 hf1
          obtain ⟨hc2, hf2, hl2⟩ := bcell hb2
          clear hl2
          go_wp2_with fail
          (with_reducible refine (R2.out.app _ (HV.out.on (by (repeat (first | assumption | exact Below.refl _ _ | refine ba ?_ _ | refine bd ?_ | refine bdn ?_ _ | refine bs ?_ (by first | omega | (simp; done) | (simp; omega)) _ | refine bt ?_ (by assumption)))))).mono ?_)
          rintro e w3 ⟨rfl, hb3⟩
          have hs3 : w2.heap.size + 0 ≤ w3.heap.size := (by have h := hb3.size; first | omega | (simp at h; omega))
          have hb1_3 := bel hb1_2 hb3 (by (repeat (first | assumption | exact Below.refl _ _ | refine ba ?_ _ | refine bd ?_ | refine bdn ?_ _ | refine bs ?_ (by first | omega | (simp; done) | (simp; omega)) _ | refine bt ?_ (by assumption))))
          have hb2_3 := bel hb2 hb3 (by (repeat (first | assumption | exact Below.refl _ _ | refine ba ?_ _ | refine bd ?_ | refine bdn ?_ _ | refine bs ?_ (by first | omega | (simp; done) | (simp; omega)) _ | refine bt ?_ (by assumption))))
          clear hc2 hf2
          obtain ⟨hc3, hf3, hl3⟩ := bcell hb3
          clear hl3
          go_wp2
          go_ret
          exact ⟨by rw [HX.out]; rfl, by (repeat (first | assumption | exact Below.refl _ _ | refine ba ?_ _ | refine bd ?_ | refine bdn ?_ _ | refine bs ?_ (by first | omega | (simp; done) | (simp; omega)) _ | refine bt ?_ (by assumption)))⟩
        · rw [decide_eq_false h2] at R2
          have R2 := Lib.hid R2
          have HX := Lib.hid (show g = false by
            rw [HG.out]
            cases hq : hB la lb with
            | false => rfl
            | true => exact absurd ((hB_iff _ _).1 hq).2.1 h2)
          go_wp2_with fail
          (with_reducible refine (R1.out.app _ (HA1.out.on (by (repeat (first | assumption | exact Below.refl _ _ | refine ba ?_ _ | refine bd ?_ | refine bdn ?_ _ | refine bs ?_ (by first | omega | (simp; done) | (simp; omega)) _ | refine bt ?_ (by assumption)))))).mono ?_)
          rintro e w2 ⟨rfl, hb2⟩
          have hs2 : w1.heap.size + 0 ≤ w2.heap.size := (by have h := hb2.size; first | omega | (simp at h; omega))
          have hb1_2 := bel hb1 hb2 (by (repeat (first | assumption | exact Below.refl _ _ | refine ba ?_ _ | refine bd ?_ | refine bdn ?_ _ | refine bs ?_ (by first | omega | (simp; done) | (simp; omega)) _ | refine bt ?_ (by assumption))))
          clear hc1 hf1
          obtain ⟨hc2, hf2, hl2⟩ := bcell hb2
          clear hl2
          go_wp2_with fail
          (with_reducible refine (R2.out.app _ (HV.out.on (by (repeat (first | assumption | exact Below.refl _ _ | refine ba ?_ _ | refine bd ?_ | refine bdn ?_ _ | refine bs ?_ (by first | omega | (simp; done) | (simp; omega)) _ | refine bt ?_ (by assumption)))))).mono ?_)
          rintro e w3 ⟨rfl, hb3⟩
          have hs3 : w2.heap.size + 0 ≤ w3.heap.size := (by have h := hb3.size; first | omega | (simp at h; omega))
          have hb1_3 := bel hb1_2 hb3 (by (repeat (first | assumption | exact Below.refl _ _ | refine ba ?_ _ | refine bd ?_ | refine bdn ?_ _ | refine bs ?_ (by first | omega | (simp; done) | (simp; omega)) _ | refine bt ?_ (by assumption))))
          have hb2_3 := bel hb2 hb3 (by (repeat (first | assumption | exact Below.refl _ _ | refine ba ?_ _ | refine bd ?_ | refine bdn ?_ _ | refine bs ?_ (by first | omega | (simp; done) | (simp; omega)) _ | refine bt ?_ (by assumption))))
          clear hc2 hf2
          obtain ⟨hc3, hf3, hl3⟩ := bcell hb3
          clear hl3
          go_wp2
          go_ret
          exact ⟨by rw [HX.out]; rfl, by (repeat (first | assumption | exact Below.refl _ _ | refine ba ?_ _ | refine bd ?_ | refine bdn ?_ _ | refine bs ?_ (by first | omega | (simp; done) | (simp; omega)) _ | refine bt ?_ (by assumption)))⟩
      · rw [decide_eq_false h1] at R1
        have R1 := Lib.hid R1
        have HX := Lib.hid (show g = false by
          rw [HG.out]
          cases hq : hB la lb with
          | false => rfl
          | true => exact absurd ((hB_iff _ _).1 hq).1 h1)
        go_wp2_with fail
        (with_reducible refine (R1.out.app _ (HA1.out.on (by (repeat (first | assumption | exact Below.refl _ _ | refine ba ?_ _ | refine bd ?_ | refine bdn ?_ _ | refine bs ?_ (by first | omega | (simp; done) | (simp; omega)) _ | refine bt ?_ (by assumption)))))).mono ?_)
        rintro e w2 ⟨rfl, hb2⟩
        have hs2 : w1.heap.size + 0 ≤ w2.heap.size := (by have h := hb2.size; first | omega | (simp at h; omega))
        have hb1_2 := bel hb1 hb2 (by (repeat (first | assumption | exact Below.refl _ _ | refine ba ?_ _ | refine bd ?_ | refine bdn ?_ _ | refine bs ?_ (by first | omega | (simp; done) | (simp; omega)) _ | refine bt ?_ (by assumption))))
        clear hc1 hf1
        obtain ⟨hc2, hf2, hl2⟩ := bcell hb2
        clear hl2
        go_wp2
        go_ret
        exact ⟨by rw [HX.out]; rfl, by (repeat (first | assumption | exact Below.refl _ _ | refine ba ?_ _ | refine bd ?_ | refine bdn ?_ _ | refine bs ?_ (by first | omega | (simp; done) | (simp; omega)) _ | refine bt ?_ (by assumption)))⟩
end
section
open Go.RowKit Go.Maps
attribute [local go_sem] ext_cell ext_frozen Mix.calmUpon Mix.mUpon
set_option maxRecDepth 100000 in
set_option maxHeartbeats 2000000 in
theorem rpart_any (p q : Pt) : Pure Try.prog 145 #[.agg #[.int .i64 p.1, .int .i64 p.2.1, .int .i64 p.2.2], .agg #[.int .i64 q.1, .int .i64 q.2.1, .int .i64 q.2.2]] (.int .i64 (pcmp p q)) := by
  intro w
  obtain ⟨k, r, a⟩ := p
  obtain ⟨k', r', a'⟩ := q
  simp only
  by_cases h : k = k' ∧ r = r' ∧ a = a'
  · have hq := eqP_yes k r a k' r' a' h
    obtain ⟨rfl, rfl, rfl⟩ := h
    rw [(pcmp_zero (k, r, a) (k, r, a)).2 rfl]
    go_enter Try.func145, Try.ntmps145
    go_wp2
    go_ret
    exact ⟨rfl, by (repeat (first | assumption | exact Below.refl _ _ | refine ba ?_ _ | refine bd ?_ | refine bdn ?_ _ | refine bs ?_ (by first | omega | (simp; done) | (simp; omega)) _ | refine bt ?_ (by assumption)))⟩
  have hq := eqP_no k r a k' r' a' h
  by_cases h1 : k < k'
  · rw [show pcmp (k, r, a) (k', r', a') = -1 by simp [pcmp, orF, cmps3, Go.Lib.compareInt, h1]]
    clear h
    go_enter Try.func145, Try.ntmps145
    go_wp2
    go_ret
    exact ⟨rfl, by (repeat (first | assumption | exact Below.refl _ _ | refine ba ?_ _ | refine bd ?_ | refine bdn ?_ _ | refine bs ?_ (by first | omega | (simp; done) | (simp; omega)) _ | refine bt ?_ (by assumption)))⟩
  by_cases h2 : k' < k
  · rw [show pcmp (k, r, a) (k', r', a') = 1 by simp [pcmp, orF, cmps3, Go.Lib.compareInt, h1, h2]]
    have e1 : (k == k') = false := by simp; omega
    have n1 : ¬ k = k' := by omega
    clear h
    go_enter Try.func145, Try.ntmps145
    go_wp2
    go_ret
    exact ⟨rfl, by (repeat (first | assumption | exact Below.refl _ _ | refine ba ?_ _ | refine bd ?_ | refine bdn ?_ _ | refine bs ?_ (by first | omega | (simp; done) | (simp; omega)) _ | refine bt ?_ (by assumption)))⟩
  obtain rfl : k = k' := by omega
  by_cases h3 : r < r'
  · rw [show pcmp (k, r, a) (k, r', a') = -1 by simp [pcmp, orF, cmps3, Go.Lib.compareInt, h3]]
    clear h
    go_enter Try.func145, Try.ntmps145
    go_wp2
    go_ret
    exact ⟨rfl, by (repeat (first | assumption | exact Below.refl _ _ | refine ba ?_ _ | refine bd ?_ | refine bdn ?_ _ | refine bs ?_ (by first | omega | (simp; done) | (simp; omega)) _ | refine bt ?_ (by assumption)))⟩
  by_cases h4 : r' < r
  · rw [show pcmp (k, r, a) (k, r', a') = 1 by simp [pcmp, orF, cmps3, Go.Lib.compareInt, h3, h4]]
    have e1 : (r == r') = false := by simp; omega
    have n1 : ¬ r = r' := by omega
    clear h
    go_enter Try.func145, Try.ntmps145
    go_wp2
    go_ret
    exact ⟨rfl, by (repeat (first | assumption | exact Below.refl _ _ | refine ba ?_ _ | refine bd ?_ | refine bdn ?_ _ | refine bs ?_ (by first | omega | (simp; done) | (simp; omega)) _ | refine bt ?_ (by assumption)))⟩
  obtain rfl : r = r' := by omega
  have hn : ¬ a = a' := fun e => h ⟨rfl, rfl, e⟩
  by_cases h5 : a < a'
  · rw [show pcmp (k, r, a) (k, r, a') = -1 by simp [pcmp, orF, cmps3, Go.Lib.compareInt, h5]]
    clear h hn
    go_enter Try.func145, Try.ntmps145
    go_wp2
    go_ret
    exact ⟨rfl, by (repeat (first | assumption | exact Below.refl _ _ | refine ba ?_ _ | refine bd ?_ | refine bdn ?_ _ | refine bs ?_ (by first | omega | (simp; done) | (simp; omega)) _ | refine bt ?_ (by assumption)))⟩
  · have h6 : a' < a := by omega
    rw [show pcmp (k, r, a) (k, r, a') = 1 by simp [pcmp, orF, cmps3, Go.Lib.compareInt, h5, h6]]
    clear h hn
    go_enter Try.func145, Try.ntmps145
    go_wp2
    go_ret
    exact ⟨rfl, by (repeat (first | assumption | exact Below.refl _ _ | refine ba ?_ _ | refine bd ?_ | refine bdn ?_ _ | refine bs ?_ (by first | omega | (simp; done) | (simp; omega)) _ | refine bt ?_ (by assumption)))⟩
set_option maxRecDepth 100000 in
set_option maxHeartbeats 2000000 in
theorem rorder_any (va vb : Value) (la lb : List Pt) (W : World) (hA : Vc W va la) (hB : Vc W vb lb) :
    Calls Try.prog 116 #[va, vb] W fun e w' => e = .returned (.int .i64 (vord la lb)) ∧ Below W.heap.size W w' := by
  obtain ⟨a, n, c, rfl, hn, hc, hm, hF⟩ := hA.at_
  obtain ⟨a', n', c', rfl, hn', hc', hm', hG⟩ := hB.at_
  have hnm : n ≤ 9223372036854775807 := by unfold maxLen at hm; omega
  have hnm' : n' ≤ 9223372036854775807 := by unfold maxLen at hm'; omega
  have HN := Lib.hid (And.intro hn hn'); have HF := Lib.hid hF; have HG := Lib.hid hG
  clear hA hB hn hn' hc hc' hm hm' hF hG
  go_enter Try.func116, Try.ntmps116
  go_wp2
  go_loopw [5] (fun iv wr => ∃ k : Nat, k ≤ n ∧ k ≤ n' ∧ iv = .int .i64 k ∧ Hid (Below W.heap.size W wr ∧ vord la lb = vord (la.drop k) (lb.drop k))) (fun iv _ => n - (intOf iv).toNat)
  case atStart => exact ⟨0, Nat.zero_le _, Nat.zero_le _, rfl, Lib.hid ⟨Below.refl _ _, rfl⟩⟩
  case round =>
    obtain ⟨k, hk, hk', rfl, HI⟩ := hrel
    obtain ⟨w1, rfl⟩ : ∃ w1, w1 = wr := ⟨_, rfl⟩
    by_cases hlt : k < n
    · have hts : (k : Int) < (n : Int) := by omega
      by_cases hlt' : k < n'
      · have hts' : (k : Int) < (n' : Int) := by omega
        obtain ⟨p, hp⟩ := at_lt (l := la) (i := k) (by rw [← HN.out.1]; exact hlt)
        obtain ⟨b, off, rfl, hb, e0, e1, e2⟩ := HF.out k p hp
        obtain ⟨q, hq⟩ := at_lt (l := lb) (i := k) (by rw [← HN.out.2]; exact hlt')
        obtain ⟨b', off', rfl, hb', f0, f1, f2⟩ := HG.out k q hq
        have c0 := (HI.out.1.cell (p := ⟨b, _, none⟩) hb).trans e0
        have c1 := (HI.out.1.cell (p := ⟨b, _, none⟩) hb).trans e1
        have c2 := (HI.out.1.cell (p := ⟨b, _, none⟩) hb).trans e2
        have hbl : b < w1.heap.size := Nat.lt_of_lt_of_le hb HI.out.1.size
        have d0 := (HI.out.1.cell (p := ⟨b', _, none⟩) hb').trans f0
        have d1 := (HI.out.1.cell (p := ⟨b', _, none⟩) hb').trans f1
        have d2 := (HI.out.1.cell (p := ⟨b', _, none⟩) hb').trans f2
        have hbl' : b' < w1.heap.size := Nat.lt_of_lt_of_le hb' HI.out.1.size
        have HV := Lib.hid (show vord la lb = if pcmp p q ≠ 0 then pcmp p q else vord (la.drop (k + 1)) (lb.drop (k + 1)) from by
          rw [HI.out.2, drop_at hp, drop_at hq]; rfl)
        have HO := Lib.hid (rpart_any p q)
        have HC := Lib.hid (And.intro (And.intro c0 (And.intro c1 c2)) (And.intro d0 (And.intro d1 d2)))
        clear hp hq e0 e1 e2 f0 f1 f2 hb hb'
        obtain ⟨pk, pr, pa⟩ := p
        obtain ⟨qk, qr, qa⟩ := q
        simp only at c0 c1 c2 d0 d1 d2 HO HC
        generalize pcmp (pk, pr, pa) (qk, qr, qa) = r at *
        by_cases hr : r = 0
        · subst hr
          have hv := HV.out
          rw [if_neg (fun e => e rfl)] at hv
          have HV2 := Lib.hid hv
          clear hv
          go_wp2_with fail
          refine wp_region_pure (by kernel_rfl) (by kernel_rfl) ?_
          repeat (first | go_big_quiet_step ((go_at_call 145; with_reducible exact HO.out.quiet)) | (quiet_step ((go_at_call 145; with_reducible exact HO.out.quiet))))
          refine wpQuiet_nil ?_
          rintro w2 ⟨x2, hx2⟩
          have hb2 := ext_below _ x2
          rw [← hx2] at hb2
          have HB2 := Lib.hid (HI.out.1.trans (hb2.mono HI.out.1.size))
          clear hx2 x2 hb2 c0 c1 c2 d0 d1 d2
          go_wp2
          go_roundw
          case rel => exact ⟨k + 1, by omega, by omega, by go_num, Lib.hid ⟨HB2.out, HV2.out⟩⟩
          case measure => simp [intOf]; omega
        · have hrb : (r == 0) = false := by simpa using hr
          have hv := HV.out
          rw [if_pos hr] at hv
          have HV2 := Lib.hid hv
          clear hv
          go_wp2_with fail
          refine wp_region_pure (by kernel_rfl) (by kernel_rfl) ?_
          repeat (first | go_big_quiet_step ((go_at_call 145; with_reducible exact HO.out.quiet)) | (quiet_step ((go_at_call 145; with_reducible exact HO.out.quiet))))
          refine wpQuiet_nil ?_
          rintro w2 ⟨x2, hx2⟩
          have hb2 := ext_below _ x2
          rw [← hx2] at hb2
          have HB2 := Lib.hid (HI.out.1.trans (hb2.mono HI.out.1.size))
          clear hx2 x2 c0 c1 c2 d0 d1 d2
          have c0 := (hb2.cell (p := ⟨b, _, none⟩) hbl).trans HC.out.1.1
          have c1 := (hb2.cell (p := ⟨b, _, none⟩) hbl).trans HC.out.1.2.1
          have c2 := (hb2.cell (p := ⟨b, _, none⟩) hbl).trans HC.out.1.2.2
          have d0 := (hb2.cell (p := ⟨b', _, none⟩) hbl').trans HC.out.2.1
          have d1 := (hb2.cell (p := ⟨b', _, none⟩) hbl').trans HC.out.2.2.1
          have d2 := (hb2.cell (p := ⟨b', _, none⟩) hbl').trans HC.out.2.2.2
          have hbl2 : b < w2.heap.size := Nat.lt_of_lt_of_le hbl hb2.size
          have hbl2' : b' < w2.heap.size := Nat.lt_of_lt_of_le hbl' hb2.size
          clear hb2
          go_wp2_with fail
          refine wp_region_pure (by kernel_rfl) (by kernel_rfl) ?_
          repeat (first | go_big_quiet_step ((go_at_call 145; with_reducible exact HO.out.quiet)) | (quiet_step ((go_at_call 145; with_reducible exact HO.out.quiet))))
          refine wpQuiet_nil ?_
          rintro w3 ⟨x3, hx3⟩
          have hb3 := ext_below _ x3
          rw [← hx3] at hb3
          have HB3 := Lib.hid (HB2.out.trans (hb3.mono HB2.out.size))
          clear hx3 x3 hb3 c0 c1 c2 d0 d1 d2
          go_wp2
          go_ret
          exact ⟨by rw [HV2.out]; rfl, HB3.out⟩
      · have hts' : ¬ (k : Int) < (n' : Int) := by omega
        obtain rfl : k = n' := by omega
        have h1 : ¬ (n : Int) < (k : Int) := by omega
        obtain ⟨p, hp⟩ := at_lt (l := la) (i := k) (by rw [← HN.out.1]; exact hlt)
        have HV := Lib.hid (show vord la lb = 1 from by
          have e : lb.drop k = [] := List.drop_eq_nil_iff.2 (by have := HN.out.2; omega)
          rw [HI.out.2, drop_at hp, e]; rfl)
        clear hp
        go_wp2
        go_ret
        exact ⟨by rw [HV.out]; rfl, HI.out.1⟩
    · obtain rfl : k = n := by omega
      by_cases hlt' : k < n'
      · have hts' : (k : Int) < (n' : Int) := by omega
        obtain ⟨q, hq⟩ := at_lt (l := lb) (i := k) (by rw [← HN.out.2]; exact hlt')
        have HV := Lib.hid (show vord la lb = -1 from by
          have e : la.drop k = [] := List.drop_eq_nil_iff.2 (by have := HN.out.1; omega)
          rw [HI.out.2, drop_at hq, e]; rfl)
        clear hq
        go_wp2
        go_ret
        exact ⟨by rw [HV.out]; rfl, HI.out.1⟩
      · obtain rfl : k = n' := by omega
        have HV := Lib.hid (show vord la lb = 0 from by
          have e : la.drop k = [] := List.drop_eq_nil_iff.2 (by have := HN.out.1; omega)
          have e' : lb.drop k = [] := List.drop_eq_nil_iff.2 (by have := HN.out.2; omega)
          rw [HI.out.2, e, e']; rfl)
        go_wp2
        go_ret
        exact ⟨by rw [HV.out]; rfl, HI.out.1⟩
/-- The order of filters, field by field. -/
theorem flt_iff (i g t i' g' t' : Int) (ps us : List Pt) : flt (i, g, t, ps) (i', g', t', us) = if i ≠ i' then decide (i < i') else if g ≠ g' then decide (g < g') else (decide (t < t') || (decide (t = t') && decide (vord ps us < 0))) := by
  have hc : ∀ a b : Int, decide (Go.Lib.compareInt a b < 0) = decide (a < b) := fun a b => by
    unfold Go.Lib.compareInt
    by_cases h1 : a < b
    · simp [h1]
    · by_cases h2 : b < a <;> simp [h1, h2]
  have hz := fun a b : Int => cmpI_zero a b
  unfold flt ford
  by_cases h1 : i = i'
  · by_cases h2 : g = g'
    · by_cases h3 : t = t'
      · simp [orF, cmps4, h1, h2, h3, (hz _ _).2]
      · have : Go.Lib.compareInt t t' ≠ 0 := fun e => h3 ((hz _ _).1 e)
        simp [orF, cmps4, h1, h2, h3, this, (hz _ _).2, hc]
    · have : Go.Lib.compareInt g g' ≠ 0 := fun e => h2 ((hz _ _).1 e)
      simp [orF, cmps4, h1, h2, this, (hz _ _).2, hc]
  · have : Go.Lib.compareInt i i' ≠ 0 := fun e => h1 ((hz _ _).1 e)
    simp [orF, cmps4, h1, this, hc]
set_option maxRecDepth 100000 in
set_option maxHeartbeats 2000000 in
/-- Two filters are alike. -/
theorem rsameF (x y : Fl) (W : World) (hx : Vc W x.vv x.ps) (hy : Vc W y.vv y.ps) (hl : x.ps.length < 1000000000) : Calls Try.prog 79 #[flval x, flval y] W fun e w' => e = .returned (.bool (decide (x.pl = y.pl))) ∧ Below W.heap.size W w' := by
  have hd : decide (x.pl = y.pl) = (decide (x.fr = y.fr) && (decide (x.ag = y.ag) && (decide (x.ti = y.ti) && decide (x.ps = y.ps)))) := by
    rw [Bool.eq_iff_iff]; simp [Fl.pl]
  rw [hd]
  clear hd
  obtain ⟨i, g, t, v, ps⟩ := x
  obtain ⟨i', g', t', u, us⟩ := y
  obtain ⟨va, vc, hvv, -, -⟩ := hx.form
  obtain ⟨ua, uc, huv, -, -⟩ := hy.form
  simp only at hvv huv hx hy
  subst hvv huv
  obtain ⟨n, hn⟩ : ∃ n, n = ps.length := ⟨_, rfl⟩
  obtain ⟨m, hm⟩ : ∃ m, m = us.length := ⟨_, rfl⟩
  rw [← hn] at hx ⊢
  rw [← hm] at hy ⊢
  have hb2 := ba (ba (Below.refl W.heap.size W) (.cells #[.int .i64 i, .int .i64 g, .int .i64 t, .slice va n vc] 72)) (.cells #[.int .i64 i', .int .i64 g', .int .i64 t', .slice ua m uc] 72)
  have HB2 := Lib.hid hb2
  have HV := Lib.hid (And.intro (hx.on hb2) (hy.on hb2))
  clear hb2 hx hy hm hn
  have HL := Lib.hid hl
  clear hl
  simp only
  by_cases h1 : i = i'
  · have b1 : (i == i') = true := by simpa using h1
    rw [decide_eq_true h1, Bool.true_and]
    clear h1
    by_cases h2 : g = g'
    · have b2 : (g == g') = true := by simpa using h2
      rw [decide_eq_true h2, Bool.true_and]
      clear h2
      by_cases h3 : t = t'
      · have b3 : (t == t') = true := by simpa using h3
        rw [decide_eq_true h3, Bool.true_and]
        clear h3
        have HS := Lib.hid (rsame_any (.slice va n vc) (.slice ua m uc) ps us HL.out _ HV.out)
        generalize decide (ps = us) = r at *
        go_enter Try.func79, Try.ntmps79
        go_wp2_with fail
        refine HS.out.mono ?_
        rintro e w2 ⟨rfl, hb⟩
        have HB3 := Lib.hid (bt HB2.out hb)
        clear hb
        go_wp2
        go_ret
        exact ⟨rfl, HB3.out⟩
      · have b3 : (t == t') = false := by simpa using h3
        rw [decide_eq_false h3, Bool.false_and]
        clear h3
        go_enter Try.func79, Try.ntmps79
        go_wp2
        go_ret
        exact ⟨rfl, HB2.out⟩
    · have b2 : (g == g') = false := by simpa using h2
      rw [decide_eq_false h2, Bool.false_and]
      clear h2
      go_enter Try.func79, Try.ntmps79
      go_wp2
      go_ret
      exact ⟨rfl, HB2.out⟩
  · have b1 : (i == i') = false := by simpa using h1
    rw [decide_eq_false h1, Bool.false_and]
    clear h1
    go_enter Try.func79, Try.ntmps79
    go_wp2
    go_ret
    exact ⟨rfl, HB2.out⟩
set_option maxRecDepth 100000 in
set_option maxHeartbeats 2000000 in
/-- A filter stands ahead of another one. -/
theorem rahead (x y : Fl) (W : World) (hx : Vc W x.vv x.ps) (hy : Vc W y.vv y.ps) : Calls Try.prog 80 #[flval x, flval y] W fun e w' => e = .returned (.bool (flt x.pl y.pl)) ∧ Below W.heap.size W w' := by
  obtain ⟨i, g, t, v, ps⟩ := x
  obtain ⟨i', g', t', u, us⟩ := y
  obtain ⟨va, vc, hvv, -, -⟩ := hx.form
  obtain ⟨ua, uc, huv, -, -⟩ := hy.form
  simp only at hvv huv hx hy
  subst hvv huv
  obtain ⟨n, hn⟩ : ∃ n, n = ps.length := ⟨_, rfl⟩
  obtain ⟨m, hm⟩ : ∃ m, m = us.length := ⟨_, rfl⟩
  rw [← hn] at hx ⊢
  rw [← hm] at hy ⊢
  have hb2 := ba (ba (Below.refl W.heap.size W) (.cells #[.int .i64 i, .int .i64 g, .int .i64 t, .slice va n vc] 72)) (.cells #[.int .i64 i', .int .i64 g', .int .i64 t', .slice ua m uc] 72)
  have HB2 := Lib.hid hb2
  have HV := Lib.hid (And.intro (hx.on hb2) (hy.on hb2))
  clear hb2 hx hy hm hn
  show Calls _ _ _ _ (fun e w' => e = .returned (.bool (flt (i, g, t, ps) (i', g', t', us))) ∧ _)
  rw [flt_iff]
  by_cases h1 : i = i'
  · have b1 : (i == i') = true := by simpa using h1
    rw [if_neg (fun e => e h1)]
    have H1 := Lib.hid h1
    clear h1
    by_cases h2 : g = g'
    · have b2 : (g == g') = true := by simpa using h2
      rw [if_neg (fun e => e h2)]
      clear h2
      by_cases h4 : t < t'
      · have b4 : decide (t < t') = true := decide_eq_true h4
        rw [b4, Bool.true_or]
        go_enter Try.func80, Try.ntmps80
        go_wp2
        go_ret
        exact ⟨rfl, HB2.out⟩
      · rw [decide_eq_false h4, Bool.false_or]
        by_cases h3 : t = t'
        · have b3 : (t == t') = true := by simpa using h3
          rw [decide_eq_true h3, Bool.true_and]
          clear h3
          have HS := Lib.hid (rorder_any (.slice va n vc) (.slice ua m uc) ps us _ HV.out.1 HV.out.2)
          generalize vord ps us = r at *
          go_enter Try.func80, Try.ntmps80
          go_wp2_with fail
          refine HS.out.mono ?_
          rintro e w2 ⟨rfl, hb⟩
          have HB3 := Lib.hid (bt HB2.out hb)
          clear hb
          go_wp2
          go_ret
          exact ⟨rfl, HB3.out⟩
        · have b3 : (t == t') = false := by simpa using h3
          rw [decide_eq_false h3, Bool.false_and]
          clear h3
          go_enter Try.func80, Try.ntmps80
          go_wp2
          go_ret
          exact ⟨rfl, HB2.out⟩
    · have b2 : (g == g') = false := by simpa using h2
      rw [if_pos h2]
      clear h2
      go_enter Try.func80, Try.ntmps80
      go_wp2
      go_ret
      exact ⟨rfl, HB2.out⟩
  · have b1 : (i == i') = false := by simpa using h1
    rw [if_pos h1]
    clear h1
    go_enter Try.func80, Try.ntmps80
    go_wp2
    go_ret
    exact ⟨rfl, HB2.out⟩
end
end Go.Proofs.Ytennhfkhdfalfaa

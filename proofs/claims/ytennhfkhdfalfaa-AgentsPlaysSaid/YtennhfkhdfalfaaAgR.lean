/- The document's Right, Get, Of, Holds, Add, Sub of layer 5 at any vectors, its Add and Of of layer 6. -/
import Derived.Test.YtennhfkhdfalfaaAgSm
import Derived.Test.YtennhfkhdfalfaaAga
import Derived.Test.YtennhfkhdfalfaaMixG
import Derived.Test.YtennhfkhdfalfaaVecN
namespace Go.Proofs.Ytennhfkhdfalfaa
open Go.RowKit Go.Maps
/-- Which parts have a vector, reckoned. -/
def ofB (l : List Pt) : Bool := l.all (fun p => decide (LOk p.1 p.2.1 ∧ 0 ≤ p.2.2)) && l.all (fun p => decide (sl l p.1 p.2.1 ≤ 9007199254740992))
theorem sl_none {l : List Pt} {k r : Int} (h : ∀ x ∈ l, ¬ (x.1 = k ∧ x.2.1 = r)) : sl l k r = 0 := by
  induction l with
  | nil => rfl
  | cons p t ih => rw [sl, if_neg (h p (by simp)), ih fun x hx => h x (by simp [hx])]; rfl
theorem ofB_iff (l : List Pt) : ofB l = true ↔ OfOk l := by
  unfold ofB OfOk
  rw [Bool.and_eq_true, List.all_eq_true, List.all_eq_true]
  constructor
  · rintro ⟨h1, h2⟩
    refine ⟨fun p hp => of_decide_eq_true (h1 p hp), fun k r => ?_⟩
    by_cases hx : ∃ x ∈ l, x.1 = k ∧ x.2.1 = r
    · obtain ⟨x, hx, rfl, rfl⟩ := hx; exact of_decide_eq_true (h2 x hx)
    · rw [sl_none fun x h e => hx ⟨x, h, e⟩]; decide
  · rintro ⟨h1, h2⟩
    exact ⟨fun p hp => decide_eq_true (h1 p hp), fun p hp => decide_eq_true (h2 _ _)⟩
instance (l : List Pt) : Decidable (OfOk l) := decidable_of_iff _ (ofB_iff l)
def ofO (l : List Pt) : Option (List Pt) := if OfOk l then some (ofV l) else none
theorem partedV {l : List Pt} {t : Nat} (h : t < l.length) : l = l.take t ++ (kk l t, rr l t, aa l t) :: l.drop (t + 1) := by
  rw [← kra h, ← List.drop_eq_getElem_cons h, List.take_append_drop]

theorem Vc.cells {w : World} {v : Value} {l : List Pt} (h : Vc w v l) : ∃ a n cap, v = .slice a n cap ∧ n = l.length ∧ ∀ i, i < n → ∃ b off, a = Option.some ⟨b, off, none⟩ ∧ b < w.heap.size ∧
    w.cell? ⟨b, off + i * 3, none⟩ = Option.some (.int .i64 (kk l i)) ∧ w.cell? ⟨b, off + i * 3 + 1, none⟩ = Option.some (.int .i64 (rr l i)) ∧ w.cell? ⟨b, off + i * 3 + 2, none⟩ = Option.some (.int .i64 (aa l i)) := by
  rcases h with ⟨⟨a, cap, rfl, _⟩, rfl⟩ | ⟨b, off, cap, h1, h2, h3, h4, h5⟩
  · exact ⟨a, 0, cap, rfl, rfl, fun i hi => absurd hi (by omega)⟩
  · exact ⟨_, _, cap, h1, rfl, fun i hi => ⟨b, off, rfl, h4, h5 i hi⟩⟩
theorem I64s.at {l : List Pt} (h : I64s l) {t : Nat} (ht : t < l.length) : I64 (kk l t) ∧ I64 (rr l t) ∧ I64 (aa l t) := by
  have := h _ (List.getElem_mem ht); rw [kra ht] at this; exact this
theorem ofL_len (S : Int → Int → Int) : ∀ n, (ofL S n).length ≤ n
  | 0 => Nat.le_refl _
  | n + 1 => by have := ofL_len S n; rw [ofL, List.length_append]; split <;> simp <;> omega
end Go.Proofs.Ytennhfkhdfalfaa
namespace Go.Proofs.Ytennhfkhdfalfaa
open Go.RowKit Go.Maps
attribute [local go_sem] ext_cell ext_frozen Mix.calmUpon Mix.mUpon
theorem refslotright_any (k r : Int) : Pure Try.prog 105 #[L2 k r] (.bool (decide (LOk k r))) := by
  intro W
  by_cases h1 : 0 ≤ k
  · by_cases h2 : k ≤ 3
    · by_cases h3 : 0 ≤ r
      · have hq : decide (LOk k r) = decide (r ≤ 32) := decide_eq_decide.2 ⟨fun h => h.2.2.2, fun h => ⟨h1, by omega, h3, h⟩⟩
        rw [hq]
        go_enter Try.func105, Try.ntmps105
        go_wp2
        go_ret
        refine ⟨rfl, ?_⟩
        (repeat (first | assumption | exact Below.refl _ _ | refine ba ?_ _ | refine bd ?_ | refine bdn ?_ _ | refine bs ?_ (by first | omega | (simp; done) | (simp; omega)) _ | refine bt ?_ (by assumption)))
      · have hq : decide (LOk k r) = false := decide_eq_false fun h => h3 h.2.2.1
        rw [hq]
        go_enter Try.func105, Try.ntmps105
        go_wp2
        go_ret
        refine ⟨rfl, ?_⟩
        (repeat (first | assumption | exact Below.refl _ _ | refine ba ?_ _ | refine bd ?_ | refine bdn ?_ _ | refine bs ?_ (by first | omega | (simp; done) | (simp; omega)) _ | refine bt ?_ (by assumption)))
    · have hq : decide (LOk k r) = false := decide_eq_false fun h => h2 (by have := h.2.1; omega)
      rw [hq]
      go_enter Try.func105, Try.ntmps105
      go_wp2
      go_ret
      refine ⟨rfl, ?_⟩
      (repeat (first | assumption | exact Below.refl _ _ | refine ba ?_ _ | refine bd ?_ | refine bdn ?_ _ | refine bs ?_ (by first | omega | (simp; done) | (simp; omega)) _ | refine bt ?_ (by assumption)))
  · have hq : decide (LOk k r) = false := decide_eq_false fun h => h1 h.1
    rw [hq]
    go_enter Try.func105, Try.ntmps105
    go_wp2
    go_ret
    refine ⟨rfl, ?_⟩
    (repeat (first | assumption | exact Below.refl _ _ | refine ba ?_ _ | refine bd ?_ | refine bdn ?_ _ | refine bs ?_ (by first | omega | (simp; done) | (simp; omega)) _ | refine bt ?_ (by assumption)))

theorem refslot_any (k r a : Int) : Pure Try.prog 102 #[P3 k r a] (L2 k r) := by
  intro W
  go_enter Try.func102, Try.ntmps102
  go_wp2
  refine bodyPost_ret (v := L2 k r) (by simp [results, Try.results102, go_sem, *]) rfl ⟨rfl, ?_⟩
  (repeat (first | assumption | exact Below.refl _ _ | refine ba ?_ _ | refine bd ?_ | refine bdn ?_ _ | refine bs ?_ (by first | omega | (simp; done) | (simp; omega)) _ | refine bt ?_ (by assumption)))
theorem refcmp4_any (k r k' r' : Int) : Pure Try.prog 106 #[L2 k r, L2 k' r'] (.int .i64 (lcmp k r k' r')) := by
  intro W
  by_cases h : k = k'
  · subst h
    by_cases h1 : r < r'
    · have hr : lcmp k r k r' = -1 := by unfold lcmp cmpI; rw [if_pos rfl, if_pos h1]
      rw [hr]
      go_enter Try.func106, Try.ntmps106
      go_wp2
      go_ret
      refine ⟨rfl, ?_⟩
      (repeat (first | assumption | exact Below.refl _ _ | refine ba ?_ _ | refine bd ?_ | refine bdn ?_ _ | refine bs ?_ (by first | omega | (simp; done) | (simp; omega)) _ | refine bt ?_ (by assumption)))
    · by_cases h2 : r = r'
      · subst h2
        have hr : lcmp k r k r = 0 := by unfold lcmp cmpI; rw [if_pos rfl, if_neg (by omega), if_neg (by omega)]
        rw [hr]
        clear h1 hr
        go_enter Try.func106, Try.ntmps106
        go_wp2
        go_ret
        refine ⟨rfl, ?_⟩
        (repeat (first | assumption | exact Below.refl _ _ | refine ba ?_ _ | refine bd ?_ | refine bdn ?_ _ | refine bs ?_ (by first | omega | (simp; done) | (simp; omega)) _ | refine bt ?_ (by assumption)))
      · have hr : lcmp k r k r' = 1 := by unfold lcmp cmpI; rw [if_pos rfl, if_neg h1, if_pos (by omega)]
        rw [hr]
        have hrb : (r == r') = false := by simpa using h2
        have h1' : r' ≤ r := by omega
        clear h1 h2 hr
        go_enter Try.func106, Try.ntmps106
        go_wp2
        go_ret
        refine ⟨rfl, ?_⟩
        (repeat (first | assumption | exact Below.refl _ _ | refine ba ?_ _ | refine bd ?_ | refine bdn ?_ _ | refine bs ?_ (by first | omega | (simp; done) | (simp; omega)) _ | refine bt ?_ (by assumption)))
  · have hkb : (k == k') = false := by simpa using h
    by_cases h1 : k < k'
    · have hr : lcmp k r k' r' = -1 := by unfold lcmp cmpI; rw [if_neg h, if_pos h1]
      rw [hr]
      clear h hr
      go_enter Try.func106, Try.ntmps106
      go_wp2
      go_ret
      refine ⟨rfl, ?_⟩
      (repeat (first | assumption | exact Below.refl _ _ | refine ba ?_ _ | refine bd ?_ | refine bdn ?_ _ | refine bs ?_ (by first | omega | (simp; done) | (simp; omega)) _ | refine bt ?_ (by assumption)))
    · have hr : lcmp k r k' r' = 1 := by unfold lcmp cmpI; rw [if_neg h, if_neg h1, if_pos (by omega)]
      rw [hr]
      have h1' : k' ≤ k := by omega
      clear h h1 hr
      go_enter Try.func106, Try.ntmps106
      go_wp2
      go_ret
      refine ⟨rfl, ?_⟩
      (repeat (first | assumption | exact Below.refl _ _ | refine ba ?_ _ | refine bd ?_ | refine bdn ?_ _ | refine bs ?_ (by first | omega | (simp; done) | (simp; omega)) _ | refine bt ?_ (by assumption)))
/-- The parts from a place on. -/
theorem gt_drop {l : List Pt} {t : Nat} (h : t < l.length) (k r : Int) : gt (l.drop t) k r = if kk l t = k ∧ rr l t = r then aa l t else gt (l.drop (t + 1)) k r := by
  rw [List.drop_eq_getElem_cons h, gt, kra h]
theorem eqS_yes (k r k' r' : Int) (h : k = k' ∧ r = r') (w : World) : (Op.equalIn 10000 142 (.agg #[.int .i64 k, .int .i64 r]) (.agg #[.int .i64 k', .int .i64 r'])).run Try.prog w = .ok true w := by
  rw [eqL2]; obtain ⟨rfl, rfl⟩ := h; simp
theorem eqS_no (k r k' r' : Int) (h : ¬ (k = k' ∧ r = r')) (w : World) : (Op.equalIn 10000 142 (.agg #[.int .i64 k, .int .i64 r]) (.agg #[.int .i64 k', .int .i64 r'])).run Try.prog w = .ok false w := by
  rw [eqL2]
  congr 1
  rw [Bool.eq_false_iff]
  intro hh; apply h; simpa using hh
set_option maxRecDepth 100000 in
set_option maxHeartbeats 2000000 in
theorem rget_any (v : Value) (l : List Pt) (k r : Int) (hbig : l.length < 1000000000) : PureOn (fun w => Vc w v l) Try.prog 103 #[v, L2 k r] (.int .i64 (gt l k r)) := by
  intro W hV
  obtain ⟨a, n, cap, rfl, hn, hC⟩ := hV.cells
  have HC := Lib.hid hC; have HN := Lib.hid hn
  have hn9 : n < 1000000000 := by omega
  obtain ⟨g, hg⟩ : ∃ g, g = gt l k r := ⟨_, rfl⟩
  have HG := Lib.hid hg
  rw [← hg]
  clear hC hn hV hbig hg
  go_enter Try.func103, Try.ntmps103
  go_wp2
  have HB0 := Lib.hid (show Below W.heap.size W _ from ba (Below.refl _ _) (.cells #[.int .i64 k, .int .i64 r] 142))
  go_loopw [5] (fun i wr => ∃ t : Nat, t ≤ n ∧ i = .int .i64 t ∧ Hid (g = gt (l.drop t) k r) ∧ Below (W.alloc (.cells #[.int .i64 k, .int .i64 r] 142)).heap.size (W.alloc (.cells #[.int .i64 k, .int .i64 r] 142)) wr) (fun i _ => n - (intOf i).toNat)
  case atStart => exact ⟨0, Nat.zero_le _, rfl, Lib.hid HG.out, Below.refl _ _⟩
  case round =>
    obtain ⟨t, ht, rfl, HS, hb1⟩ := hrel
    obtain ⟨w1, rfl⟩ : ∃ w1, w1 = wr := ⟨_, rfl⟩
    have hs1 : W.heap.size + 1 ≤ w1.heap.size := (by have h := hb1.size; first | omega | (simp at h; omega))
    have hz1_0 : W.heap.size < w1.heap.size := (by omega)
    obtain ⟨hc1, hf1, hl1⟩ := bcell hb1
    clear hl1
    have HB1 := Lib.hid (show Below W.heap.size W w1 from bt HB0.out hb1)
    by_cases hlt : t < n
    · have hts : (t : Int) < (n : Int) := by omega
      have hll : t < l.length := by rw [← HN.out]; exact hlt
      obtain ⟨b, off, rfl, hb, c0, c1, c2⟩ := HC.out t hlt
      have hbl : b < w1.heap.size := Nat.lt_of_lt_of_le hb HB1.out.size
      have hd := gt_drop hll k r
      rw [← HS.out] at hd
      by_cases he : kk l t = k ∧ rr l t = r
      · rw [if_pos he] at hd
        have hq := eqS_yes _ _ _ _ he
        have HO := Lib.hid (refslot_any (kk l t) (rr l t) (aa l t))
        rw [← hd] at c2 HO
        clear he hd hll HG HS
        generalize kk l t = k' at *; generalize rr l t = r' at *
        go_wp2_with fail
        refine wp_region_pure (by kernel_rfl) (by kernel_rfl) ?_
        repeat (first | go_big_quiet_step (((go_at_call 102; with_reducible exact HO.out.quiet))) | (quiet_step (((go_at_call 102; with_reducible exact HO.out.quiet)))))
        refine wpQuiet_nil ?_
        rintro w2 ⟨x2, hx2⟩
        have hb2 := ext_below _ x2
        rw [← hx2] at hb2
        clear hx2 x2
        have hs2 : w1.heap.size + 0 ≤ w2.heap.size := (by have h := hb2.size; first | omega | (simp at h; omega))
        have hb1_2 := bel hb1 hb2 (by (repeat (first | assumption | exact Below.refl _ _ | refine ba ?_ _ | refine bd ?_ | refine bdn ?_ _ | refine bs ?_ (by first | omega | (simp; done) | (simp; omega)) _ | refine bt ?_ (by assumption))))
        clear hz1_0 hc1 hf1
        obtain ⟨hc1_2, hf1_2, hl1_2⟩ := bcell hb1_2
        clear hl1_2
        have hz2_0 : W.heap.size < w2.heap.size := (by omega)
        obtain ⟨hc2, hf2, hl2⟩ := bcell hb2
        clear hl2
        go_wp2
        go_ret
        exact ⟨rfl, by have := HB1.out; (repeat (first | assumption | exact Below.refl _ _ | refine ba ?_ _ | refine bd ?_ | refine bdn ?_ _ | refine bs ?_ (by first | omega | (simp; done) | (simp; omega)) _ | refine bt ?_ (by assumption)))⟩
      · rw [if_neg he] at hd
        have HD := Lib.hid hd
        have hq := eqS_no _ _ _ _ he
        have HO := Lib.hid (refslot_any (kk l t) (rr l t) (aa l t))
        clear he hd hll HG HS
        generalize kk l t = k' at *; generalize rr l t = r' at *; generalize aa l t = a' at *
        go_wp2_with fail
        refine wp_region_pure (by kernel_rfl) (by kernel_rfl) ?_
        repeat (first | go_big_quiet_step (((go_at_call 102; with_reducible exact HO.out.quiet))) | (quiet_step (((go_at_call 102; with_reducible exact HO.out.quiet)))))
        refine wpQuiet_nil ?_
        rintro w2 ⟨x2, hx2⟩
        have hb2 := ext_below _ x2
        rw [← hx2] at hb2
        clear hx2 x2
        have hs2 : w1.heap.size + 0 ≤ w2.heap.size := (by have h := hb2.size; first | omega | (simp at h; omega))
        have hb1_2 := bel hb1 hb2 (by (repeat (first | assumption | exact Below.refl _ _ | refine ba ?_ _ | refine bd ?_ | refine bdn ?_ _ | refine bs ?_ (by first | omega | (simp; done) | (simp; omega)) _ | refine bt ?_ (by assumption))))
        clear hz1_0 hc1 hf1
        obtain ⟨hc1_2, hf1_2, hl1_2⟩ := bcell hb1_2
        clear hl1_2
        have hz2_0 : W.heap.size < w2.heap.size := (by omega)
        obtain ⟨hc2, hf2, hl2⟩ := bcell hb2
        clear hl2
        go_wp2
        go_roundw
        case rel => exact ⟨t + 1, by omega, by go_num, HD, by (repeat (first | assumption | exact Below.refl _ _ | refine ba ?_ _ | refine bd ?_ | refine bdn ?_ _ | refine bs ?_ (by first | omega | (simp; done) | (simp; omega)) _ | refine bt ?_ (by assumption)))⟩
        case measure => simp [intOf]; omega
    · obtain rfl : n = t := by omega
      have hz : g = 0 := by
        have h := HS.out
        rw [List.drop_of_length_le (by rw [HN.out]; exact Nat.le_refl _)] at h
        exact h
      subst hz
      go_wp2
      go_ret
      exact ⟨rfl, by have := HB1.out; (repeat (first | assumption | exact Below.refl _ _ | refine ba ?_ _ | refine bd ?_ | refine bdn ?_ _ | refine bs ?_ (by first | omega | (simp; done) | (simp; omega)) _ | refine bt ?_ (by assumption)))⟩
set_option maxRecDepth 100000 in
set_option maxHeartbeats 4000000 in
theorem rright_some (b off len cap : Nat) (k r a : Nat → Int) (W : World) (hb : b < W.heap.size) (hbig : len < 1000000000) (hF : Parts W b off len k r a) :
    Calls Try.prog 60 #[.slice (some ⟨b, off, none⟩) len cap] W fun e w' => ∃ q : Bool, e = .returned (.bool q) ∧ (q = true ↔ VOk k r a len) ∧ Below W.heap.size W w' := by
  have HF := Lib.hid hF
  clear hF
  go_enter Try.func60, Try.ntmps60
  go_wp2
  go_loopw [3] (fun i wr => ∃ t : Nat, t ≤ len ∧ i = .int .i64 t ∧ Hid (VOk k r a t) ∧ Below W.heap.size W wr) (fun i _ => len - (intOf i).toNat)
  case atStart => exact ⟨0, Nat.zero_le _, rfl, Lib.hid (fun i hi => by omega), by (repeat (first | assumption | exact Below.refl _ _ | refine ba ?_ _ | refine bd ?_ | refine bdn ?_ _ | refine bs ?_ (by first | omega | (simp; done) | (simp; omega)) _ | refine bt ?_ (by assumption)))⟩
  case round =>
    obtain ⟨t, ht, rfl, HV, hb1⟩ := hrel
    obtain ⟨w1, rfl⟩ : ∃ w1, w1 = wr := ⟨_, rfl⟩
    have hs1 : W.heap.size + 0 ≤ w1.heap.size := (by have h := hb1.size; first | omega | (simp at h; omega))
    obtain ⟨hc1, hf1, hl1⟩ := bcell hb1
    clear hl1
    by_cases hlt : t < len
    · have hts : (t : Int) < (len : Int) := by omega
      obtain ⟨c0, c1, c2⟩ := HF.out t hlt
      have hbl : b < w1.heap.size := Nat.lt_of_lt_of_le hb hb1.size
      have HO := Lib.hid (refslot_any (k t) (r t) (a t))
      have HR := Lib.hid (refslotright_any (k t) (r t))
      by_cases hl : LOk (k t) (r t)
      · rw [decide_eq_true hl] at HR
        have HL := Lib.hid hl
        clear hl
        by_cases h1 : 1 ≤ a t
        · by_cases h2 : a t ≤ 9007199254740992
          · have HP := Lib.hid (show POk k r a t from ⟨HL.out, h1, h2⟩)
            cases t with
            | zero =>
              have HN := Lib.hid (vok_succ HV.out HP.out (fun h => absurd h (Nat.lt_irrefl 0)))
              simp only [Nat.zero_mul, Nat.add_zero] at c0 c1 c2
              have h1f : (a 0 < 1) = False := eq_false (by omega)
              have h2f : (9007199254740992 < a 0) = False := eq_false (by omega)
              go_wp2_with fail
              refine wp_region_pure (by kernel_rfl) (by kernel_rfl) ?_
              repeat (first | go_big_quiet_step (((first | (go_at_call 102; with_reducible exact HO.out.quiet) | (go_at_call 105; with_reducible exact HR.out.quiet)))) | (quiet_step (((first | (go_at_call 102; with_reducible exact HO.out.quiet) | (go_at_call 105; with_reducible exact HR.out.quiet))))))
              refine wpQuiet_nil ?_
              rintro w4 ⟨x4, hx4⟩
              have hb4 := ext_below _ x4
              rw [← hx4] at hb4
              clear hx4 x4
              have hs4 : w1.heap.size + 0 ≤ w4.heap.size := (by have h := hb4.size; first | omega | (simp at h; omega))
              have hb1_4 := bel hb1 hb4 (by (repeat (first | assumption | exact Below.refl _ _ | refine ba ?_ _ | refine bd ?_ | refine bdn ?_ _ | refine bs ?_ (by first | omega | (simp; done) | (simp; omega)) _ | refine bt ?_ (by assumption))))
              clear hc1 hf1
              obtain ⟨hc4, hf4, hl4⟩ := bcell hb4
              clear hl4
              go_wp2
              go_roundw
              case rel => exact ⟨1, by omega, by go_num, HN, by (repeat (first | assumption | exact Below.refl _ _ | refine ba ?_ _ | refine bd ?_ | refine bdn ?_ _ | refine bs ?_ (by first | omega | (simp; done) | (simp; omega)) _ | refine bt ?_ (by assumption)))⟩
              case measure => simp [intOf]; omega
            | succ u =>
              obtain ⟨d0, d1, d2⟩ := HF.out u (by omega)
              have HO2 := Lib.hid (refslot_any (k u) (r u) (a u))
              have HC := refcmp4_any (k u) (r u) (k (u + 1)) (r (u + 1))
              generalize hq : lcmp (k u) (r u) (k (u + 1)) (r (u + 1)) = q at HC
              have HC := Lib.hid HC
              have HQ := Lib.hid hq
              clear hq
              have us : (u : Int) < (len : Int) := by omega
              have uN : u < len := by omega
              have h1f : (a (u + 1) < 1) = False := eq_false (by omega)
              have h2f : (9007199254740992 < a (u + 1)) = False := eq_false (by omega)
              by_cases h0 : 0 ≤ q
              · have HN := Lib.hid (show ¬ VOk k r a len from fun h => by
                  have h5 := (h (u + 1) hlt).2 (by omega)
                  have h6 : lcmp (k u) (r u) (k (u + 1)) (r (u + 1)) < 0 := h5
                  rw [HQ.out] at h6
                  omega)
                go_wp2_with fail
                refine wp_region_pure (by kernel_rfl) (by kernel_rfl) ?_
                repeat (first | go_big_quiet_step (((first | (go_at_call 102; first | with_reducible exact HO.out.quiet | with_reducible exact HO2.out.quiet) | (go_at_call 105; with_reducible exact HR.out.quiet) | (go_at_call 106; with_reducible exact HC.out.quiet)))) | (quiet_step (((first | (go_at_call 102; first | with_reducible exact HO.out.quiet | with_reducible exact HO2.out.quiet) | (go_at_call 105; with_reducible exact HR.out.quiet) | (go_at_call 106; with_reducible exact HC.out.quiet))))))
                refine wpQuiet_nil ?_
                rintro w4 ⟨x4, hx4⟩
                have hb4 := ext_below _ x4
                rw [← hx4] at hb4
                clear hx4 x4
                have hs4 : w1.heap.size + 0 ≤ w4.heap.size := (by have h := hb4.size; first | omega | (simp at h; omega))
                have hb1_4 := bel hb1 hb4 (by (repeat (first | assumption | exact Below.refl _ _ | refine ba ?_ _ | refine bd ?_ | refine bdn ?_ _ | refine bs ?_ (by first | omega | (simp; done) | (simp; omega)) _ | refine bt ?_ (by assumption))))
                clear hc1 hf1
                obtain ⟨hc4, hf4, hl4⟩ := bcell hb4
                clear hl4
                go_wp2
                go_ret
                refine ⟨_, rfl, ⟨fun h => by simp at h, fun h => absurd h HN.out⟩, ?_⟩
                (repeat (first | assumption | exact Below.refl _ _ | refine ba ?_ _ | refine bd ?_ | refine bdn ?_ _ | refine bs ?_ (by first | omega | (simp; done) | (simp; omega)) _ | refine bt ?_ (by assumption)))
              · have HN := Lib.hid (vok_succ HV.out HP.out (fun _ => by show lcmp (k u) (r u) (k (u + 1)) (r (u + 1)) < 0; rw [HQ.out]; omega))
                have h0' : q < 0 := by omega
                clear h0
                go_wp2_with fail
                refine wp_region_pure (by kernel_rfl) (by kernel_rfl) ?_
                repeat (first | go_big_quiet_step (((first | (go_at_call 102; first | with_reducible exact HO.out.quiet | with_reducible exact HO2.out.quiet) | (go_at_call 105; with_reducible exact HR.out.quiet) | (go_at_call 106; with_reducible exact HC.out.quiet)))) | (quiet_step (((first | (go_at_call 102; first | with_reducible exact HO.out.quiet | with_reducible exact HO2.out.quiet) | (go_at_call 105; with_reducible exact HR.out.quiet) | (go_at_call 106; with_reducible exact HC.out.quiet))))))
                refine wpQuiet_nil ?_
                rintro w4 ⟨x4, hx4⟩
                have hb4 := ext_below _ x4
                rw [← hx4] at hb4
                clear hx4 x4
                have hs4 : w1.heap.size + 0 ≤ w4.heap.size := (by have h := hb4.size; first | omega | (simp at h; omega))
                have hb1_4 := bel hb1 hb4 (by (repeat (first | assumption | exact Below.refl _ _ | refine ba ?_ _ | refine bd ?_ | refine bdn ?_ _ | refine bs ?_ (by first | omega | (simp; done) | (simp; omega)) _ | refine bt ?_ (by assumption))))
                clear hc1 hf1
                obtain ⟨hc4, hf4, hl4⟩ := bcell hb4
                clear hl4
                go_wp2
                go_roundw
                case rel => exact ⟨u + 1 + 1, by omega, by go_num, HN, by (repeat (first | assumption | exact Below.refl _ _ | refine ba ?_ _ | refine bd ?_ | refine bdn ?_ _ | refine bs ?_ (by first | omega | (simp; done) | (simp; omega)) _ | refine bt ?_ (by assumption)))⟩
                case measure => simp [intOf]; omega
          · have HN := Lib.hid (show ¬ VOk k r a len from fun h => h2 (h t hlt).1.2.2)
            have h2' : 9007199254740992 < a t := by omega
            clear h2
            go_wp2_with fail
            refine wp_region_pure (by kernel_rfl) (by kernel_rfl) ?_
            repeat (first | go_big_quiet_step (((first | (go_at_call 102; with_reducible exact HO.out.quiet) | (go_at_call 105; with_reducible exact HR.out.quiet)))) | (quiet_step (((first | (go_at_call 102; with_reducible exact HO.out.quiet) | (go_at_call 105; with_reducible exact HR.out.quiet))))))
            refine wpQuiet_nil ?_
            rintro w4 ⟨x4, hx4⟩
            have hb4 := ext_below _ x4
            rw [← hx4] at hb4
            clear hx4 x4
            have hs4 : w1.heap.size + 0 ≤ w4.heap.size := (by have h := hb4.size; first | omega | (simp at h; omega))
            have hb1_4 := bel hb1 hb4 (by (repeat (first | assumption | exact Below.refl _ _ | refine ba ?_ _ | refine bd ?_ | refine bdn ?_ _ | refine bs ?_ (by first | omega | (simp; done) | (simp; omega)) _ | refine bt ?_ (by assumption))))
            clear hc1 hf1
            obtain ⟨hc4, hf4, hl4⟩ := bcell hb4
            clear hl4
            go_wp2
            go_ret
            refine ⟨_, rfl, ⟨fun h => by simp at h, fun h => absurd h HN.out⟩, ?_⟩
            (repeat (first | assumption | exact Below.refl _ _ | refine ba ?_ _ | refine bd ?_ | refine bdn ?_ _ | refine bs ?_ (by first | omega | (simp; done) | (simp; omega)) _ | refine bt ?_ (by assumption)))
        · have HN := Lib.hid (show ¬ VOk k r a len from fun h => h1 (h t hlt).1.2.1)
          have h1' : a t < 1 := by omega
          clear h1
          go_wp2_with fail
          refine wp_region_pure (by kernel_rfl) (by kernel_rfl) ?_
          repeat (first | go_big_quiet_step (((first | (go_at_call 102; with_reducible exact HO.out.quiet) | (go_at_call 105; with_reducible exact HR.out.quiet)))) | (quiet_step (((first | (go_at_call 102; with_reducible exact HO.out.quiet) | (go_at_call 105; with_reducible exact HR.out.quiet))))))
          refine wpQuiet_nil ?_
          rintro w4 ⟨x4, hx4⟩
          have hb4 := ext_below _ x4
          rw [← hx4] at hb4
          clear hx4 x4
          have hs4 : w1.heap.size + 0 ≤ w4.heap.size := (by have h := hb4.size; first | omega | (simp at h; omega))
          have hb1_4 := bel hb1 hb4 (by (repeat (first | assumption | exact Below.refl _ _ | refine ba ?_ _ | refine bd ?_ | refine bdn ?_ _ | refine bs ?_ (by first | omega | (simp; done) | (simp; omega)) _ | refine bt ?_ (by assumption))))
          clear hc1 hf1
          obtain ⟨hc4, hf4, hl4⟩ := bcell hb4
          clear hl4
          go_wp2
          go_ret
          refine ⟨_, rfl, ⟨fun h => by simp at h, fun h => absurd h HN.out⟩, ?_⟩
          (repeat (first | assumption | exact Below.refl _ _ | refine ba ?_ _ | refine bd ?_ | refine bdn ?_ _ | refine bs ?_ (by first | omega | (simp; done) | (simp; omega)) _ | refine bt ?_ (by assumption)))
      · rw [decide_eq_false hl] at HR
        have HN := Lib.hid (show ¬ VOk k r a len from fun h => hl (h t hlt).1.1)
        clear hl
        go_wp2_with fail
        refine wp_region_pure (by kernel_rfl) (by kernel_rfl) ?_
        repeat (first | go_big_quiet_step (((first | (go_at_call 102; with_reducible exact HO.out.quiet) | (go_at_call 105; with_reducible exact HR.out.quiet)))) | (quiet_step (((first | (go_at_call 102; with_reducible exact HO.out.quiet) | (go_at_call 105; with_reducible exact HR.out.quiet))))))
        refine wpQuiet_nil ?_
        rintro w4 ⟨x4, hx4⟩
        have hb4 := ext_below _ x4
        rw [← hx4] at hb4
        clear hx4 x4
        have hs4 : w1.heap.size + 0 ≤ w4.heap.size := (by have h := hb4.size; first | omega | (simp at h; omega))
        have hb1_4 := bel hb1 hb4 (by (repeat (first | assumption | exact Below.refl _ _ | refine ba ?_ _ | refine bd ?_ | refine bdn ?_ _ | refine bs ?_ (by first | omega | (simp; done) | (simp; omega)) _ | refine bt ?_ (by assumption))))
        clear hc1 hf1
        obtain ⟨hc4, hf4, hl4⟩ := bcell hb4
        clear hl4
        go_wp2
        go_ret
        refine ⟨_, rfl, ⟨fun h => by simp at h, fun h => absurd h HN.out⟩, ?_⟩
        (repeat (first | assumption | exact Below.refl _ _ | refine ba ?_ _ | refine bd ?_ | refine bdn ?_ _ | refine bs ?_ (by first | omega | (simp; done) | (simp; omega)) _ | refine bt ?_ (by assumption)))
    · have htl : len = t := by omega
      subst htl
      go_wp2
      go_ret
      exact ⟨_, rfl, ⟨fun _ => HV.out, fun _ => rfl⟩, hb1⟩
theorem rright_v (v : Value) (l : List Pt) (hbig : l.length < 1000000000) : PureOn (fun w => Vc w v l) Try.prog 60 #[v] (.bool (decide (VR l))) := by
  intro W hV
  rcases hV with ⟨⟨a, cap, rfl, _⟩, rfl⟩ | ⟨b, off, cap, rfl, h2, h3, h4, h5⟩
  · have hq : decide (VR []) = true := decide_eq_true VR.nil
    rw [hq]
    go_enter Try.func60, Try.ntmps60
    go_wp2
    go_loopw [3] (fun i wr => i = .int .i64 0 ∧ Below W.heap.size W wr) (fun _ _ => 0)
    case atStart => exact ⟨rfl, by (repeat (first | assumption | exact Below.refl _ _ | refine ba ?_ _ | refine bd ?_ | refine bdn ?_ _ | refine bs ?_ (by first | omega | (simp; done) | (simp; omega)) _ | refine bt ?_ (by assumption)))⟩
    case round =>
      obtain ⟨rfl, hb1⟩ := hrel
      go_wp2
      go_ret
      exact ⟨rfl, hb1⟩
  · refine (rright_some b off l.length cap (kk l) (rr l) (aa l) W h4 hbig h5).mono ?_
    rintro e w' ⟨q, rfl, hq, hb⟩
    refine ⟨?_, hb⟩
    rw [vok_iff] at hq
    by_cases hv : VR l
    · rw [decide_eq_true hv, hq.2 hv]
    · rw [decide_eq_false hv]
      cases q with
      | true => exact absurd (hq.1 rfl) hv
      | false => rfl
end Go.Proofs.Ytennhfkhdfalfaa
namespace Go.Proofs.Ytennhfkhdfalfaa
open Go.RowKit Go.Maps
attribute [local go_sem] ext_cell ext_frozen Mix.calmUpon Mix.mUpon
theorem infoSlot : (Try.prog.info? 142).map (fun i => (i.zero, i.size, i.bytes)) = some (some (.agg #[.int .i64 0, .int .i64 0]), 2, 16) := by kernel_rfl
/-- The cells of the first n slots. -/
def allC : Nat → List Value
  | 0 => []
  | n + 1 => allC n ++ [.int .i64 (n / 33 : Nat), .int .i64 (n % 33 : Nat)]
theorem allC_len : ∀ n, (allC n).length = n * 2
  | 0 => rfl
  | n + 1 => by rw [allC, List.length_append, allC_len n]; simp; omega
theorem allC_get (n : Nat) : ∀ i, i < n → (allC n)[i * 2]? = some (.int .i64 (i / 33 : Nat)) ∧ (allC n)[i * 2 + 1]? = some (.int .i64 (i % 33 : Nat)) := by
  induction n with
  | zero => intro i h; omega
  | succ n ih =>
    intro i h
    by_cases hi : i < n
    · obtain ⟨a, b⟩ := ih i hi
      have := allC_len n
      refine ⟨?_, ?_⟩
      · rw [allC, List.getElem?_append_left (by omega), a]
      · rw [allC, List.getElem?_append_left (by omega), b]
    · obtain rfl : i = n := by omega
      have := allC_len i
      refine ⟨?_, ?_⟩
      · rw [allC, List.getElem?_append_right (by omega), this]; simp
      · rw [allC, List.getElem?_append_right (by omega), this, show i * 2 + 1 - i * 2 = 1 by omega]; rfl
theorem own_more2 {w wr w1 : World} {v : Value} {n : Nat} {l : List Value} {o : Obj} {E z : Nat} (hown : wr.ownsRow w.heap.size E z v n l) (hb : Below w.heap.size w wr)
    (hgrow : (wr.alloc o).grownBy w1 v.ownBlock) : Below w.heap.size w w1 :=
  (hb.alloc hb.size o).grown hgrow (by have := hb.size; simp; omega) (fun j hj => (hown.lt j hj).1)
set_option maxRecDepth 100000 in
set_option maxHeartbeats 2000000 in
theorem refall_any (w : World) : Calls Try.prog 133 #[] w fun e w' => ∃ g cap, e = .returned (.slice (some ⟨g, 0, none⟩) 132 cap) ∧ w.heap.size ≤ g ∧ g < w'.heap.size ∧
    Hid (∀ i, i < 132 → w'.cell? ⟨g, i * 2, none⟩ = some (.int .i64 (i / 33 : Nat)) ∧ w'.cell? ⟨g, i * 2 + 1, none⟩ = some (.int .i64 (i % 33 : Nat))) ∧ Below w.heap.size w w' := by
  obtain ⟨i0, hi, hz0, hz1, hz2⟩ := info_parts infoSlot
  go_enter Try.func133, Try.ntmps133
  go_wp2
  go_loopw [1, 2, 3] (fun v k r wr => ∃ (i : Nat), i ≤ 4 ∧ k = .int .i64 i ∧ wr.ownsRow w.heap.size 142 2 v (33 * i) (allC (33 * i)) ∧ Below w.heap.size w wr) (fun _ k _ _ => 4 - (intOf k).toNat)
  case atStart => exact ⟨0, by omega, rfl, World.ownsRow_nil _ _ _ _, Below.refl _ _⟩
  case round =>
    obtain ⟨i, hi4, rfl, hown, hb⟩ := hrel
    by_cases hlt : i < 4
    · have hks : (i : Int) < 4 := by omega
      rename_i wr
      obtain ⟨wo, rfl⟩ : ∃ wo : World, wo = wr := ⟨_, rfl⟩
      go_wp2
      go_loopw [1, 3] (fun v r wr => ∃ (j : Nat), j ≤ 33 ∧ r = .int .i64 j ∧ wr.ownsRow w.heap.size 142 2 v (33 * i + j) (allC (33 * i + j)) ∧ Below w.heap.size w wr) (fun _ r _ => 33 - (intOf r).toNat)
      case atStart => exact ⟨0, by omega, rfl, hown, hb⟩
      case round =>
        clear hown hb
        obtain ⟨j, hj33, rfl, hown, hb⟩ := hrel
        by_cases hjt : j < 33
        · have hjs : (j : Int) < 33 := by omega
          have hbs := hb.size
          rename_i wr
          go_wp2_with (at_builtin; refine wpList_append_own _ rfl _ _ 178 rfl w.heap.size 142 i0 (.agg #[.int .i64 0, .int .i64 0]) 2 16 Try.underlying178 hi hz0 hz1 hz2 rfl (by decide) _ _ _ rfl (hown.alloc _) ⟨_, 0, none⟩ 1 1 [.int .i64 i, .int .i64 j] rfl rfl ?c1 ?c2 ?c3 ?c4 ?c5 ?_)
          case c1 => intro q u' hq; rcases q with _ | _ | q <;> simp at hq <;> subst hq <;> simp [Addr.add, go_sem]
          case c2 => intro u' hu; simp at hu; rcases hu with rfl | rfl <;> rfl
          case c3 => unfold maxLen; omega
          case c4 => omega
          case c5 => simp; omega
          intro v' w1 hown' hgrow _
          have hb1 := own_more2 hown hb hgrow
          have e1 : (33 * i + j) / 33 = i := by omega
          have e2 : (33 * i + j) % 33 = j := by omega
          have hown1 : w1.ownsRow w.heap.size 142 2 v' (33 * i + (j + 1)) (allC (33 * i + (j + 1))) := by
            rw [← Nat.add_assoc, allC, e1, e2]; exact hown'
          clear hown' hgrow hown hb e1 e2
          go_wp2
          go_roundw
          case rel => exact ⟨j + 1, by omega, by go_num, hown1, hb1⟩
          case measure => simp [intOf]; omega
        · obtain rfl : j = 33 := by omega
          go_wp2
          go_roundw
          case rel => exact ⟨i + 1, by omega, by go_num, by rw [Nat.mul_add]; exact hown, hb⟩
          case measure => simp [intOf]; omega
    · obtain rfl : i = 4 := by omega
      go_wp2
      go_ret
      rcases hown.2 with ⟨_, h⟩ | ⟨g, cap, cur, h, hg, _⟩
      · omega
      · refine ⟨g, cap, by rw [h]; rfl, hg, (hown.lt g (by rw [h]; rfl)).2, Lib.hid fun j hj => ?_, hb⟩
        subst h
        obtain ⟨a, b⟩ := allC_get 132 j hj
        exact ⟨by rw [World.ownsRow.cellAt hown _ (by omega)]; exact a, by rw [World.ownsRow.cellAt hown _ (by omega)]; exact b⟩

/-- A part more, if it has an amount. -/
def wl (l : List Pt) (k r n : Int) : List Pt := if n = 0 then l else l ++ [(k, r, n)]
set_option maxRecDepth 100000 in
theorem with_any (B : Nat) (v : Value) (l : List Pt) (k r n : Int) (hl : l.length < 1000000) (W : World) (hB : B ≤ W.heap.size) (hO : OwnP W B v l) : Calls Try.prog 101 #[v, L2 k r, .int .i64 n] W fun e w' => ∃ u, e = .returned u ∧ OwnP w' B u (wl l k r n) ∧ Below B W w' := by
  obtain ⟨i0, hi, hz0, hz1, hz2⟩ := info_parts infoPart
  have HO := Lib.hid hO
  by_cases h : n = 0
  · have HE := Lib.hid (show wl l k r n = l from if_pos h)
    subst h
    clear hO
    go_enter Try.func101, Try.ntmps101
    go_wp2
    go_ret
    exact ⟨_, rfl, by rw [HE.out]; exact rowP_grow HO.out (ba (Below.refl _ _) _), (Below.refl _ _).alloc hB _⟩
  · have HE := Lib.hid (show wl l k r n = l ++ [(k, r, n)] from if_neg h)
    have hb : (n == 0) = false := by simpa using h
    clear hO h
    go_enter Try.func101, Try.ntmps101
    go_wp2_with (at_builtin; refine wpList_append_own _ rfl _ _ 32 rfl B 57 i0 (.agg #[.int .i64 0, .int .i64 0, .int .i64 0]) 3 24 Try.underlying32 hi hz0 hz1 hz2 rfl (by decide) _ _ _ rfl ((rowP_grow HO.out (ba (Below.refl _ _) (.cells #[.int .i64 k, .int .i64 r] 142))).alloc _) ⟨_, 0, none⟩ 1 1 [.int .i64 k, .int .i64 r, .int .i64 n] rfl rfl ?c1 ?c2 ?c3 ?c4 ?c5 ?_)
    case c1 => intro q u' hq; rcases q with _ | _ | _ | q <;> simp at hq <;> subst hq <;> simp [Addr.add, go_sem]
    case c2 => intro u' hu; simp at hu; rcases hu with rfl | rfl | rfl <;> rfl
    case c3 => unfold maxLen; omega
    case c4 => omega
    case c5 => simp; omega
    intro v' w1 hown' hgrow _
    have HV := Lib.hid hown'; have HG := Lib.hid hgrow
    clear hown' hgrow
    go_wp2
    go_ret
    refine ⟨_, rfl, by rw [HE.out, OwnP, pcells_append, List.length_append]; exact HV.out, Below.grown (((Below.refl _ _).alloc hB _).alloc (by simp; omega) _) HG.out (by simp; omega) (fun j hj => (HO.out.lt j hj).1)⟩
/-- The amounts that may be summed. -/
def SmOk (xs : List Int) : Prop := (∀ x ∈ xs, 0 ≤ x) ∧ xs.sum ≤ 9007199254740992
abbrev i64s (xs : List Int) : List Value := xs.map (Value.int .i64)
theorem sm_nn {xs : List Int} (h : ∀ x ∈ xs, 0 ≤ x) : 0 ≤ xs.sum := by
  induction xs with
  | nil => simp
  | cons x t ih =>
    have := ih fun y hy => h y (by simp [hy]); have := h x (by simp)
    rw [List.sum_cons]; omega
theorem smOk_pre {xs ys : List Int} (h : SmOk (xs ++ ys)) : SmOk xs := by
  refine ⟨fun x hx => h.1 x (by simp [hx]), ?_⟩
  have h1 := h.2
  have h2 := sm_nn (xs := ys) fun y hy => h.1 y (by simp [hy])
  rw [List.sum_append] at h1; omega
theorem sm_parted {xs : List Int} {t : Nat} (h : t < xs.length) : xs = xs.take t ++ (xs.getD t 0 :: xs.drop (t + 1)) := by
  have : xs.getD t 0 = xs[t] := by simp [List.getD, List.getElem?_eq_getElem h]
  rw [this, ← List.drop_eq_getElem_cons h, List.take_append_drop]
theorem sm_take {xs : List Int} {t : Nat} (h : t < xs.length) : xs.take (t + 1) = xs.take t ++ [xs.getD t 0] := by
  have : xs.getD t 0 = xs[t] := by simp [List.getD, List.getElem?_eq_getElem h]
  rw [this, List.take_add_one, List.getElem?_eq_getElem h]; rfl
theorem smOk_snoc {xs : List Int} {x : Int} (h : SmOk xs) (h0 : 0 ≤ x) (h1 : x ≤ 9007199254740992 - xs.sum) : SmOk (xs ++ [x]) := by
  refine ⟨fun y hy => ?_, by rw [List.sum_append]; simp; omega⟩
  rcases List.mem_append.1 hy with hy | hy
  · exact h.1 y hy
  · rw [List.mem_singleton.1 hy]; exact h0
set_option maxRecDepth 100000 in
set_option maxHeartbeats 4000000 in
theorem qsum_any (B : Nat) (v : Value) (xs : List Int) (hbig : xs.length < 1000000) (W : World) (hO : W.ownsRow B 2 1 v xs.length (i64s xs)) : Calls Try.prog 134 #[.int .i64 9007199254740992, v] W fun e w' => ((SmOk xs ∧ e = .returned (.tuple #[.int .i64 xs.sum, .bool true])) ∨ (¬ SmOk xs ∧ e = .returned (.tuple #[.int .i64 0, .bool false]))) ∧ Below W.heap.size W w' := by
  obtain ⟨n, hn⟩ : ∃ n, n = xs.length := ⟨_, rfl⟩
  obtain ⟨a, cp, rfl⟩ : ∃ a cp, v = .slice a n cp := by
    rcases hO.2 with ⟨e1, e2⟩ | ⟨g, cap, cur, e1, _⟩
    · exact ⟨none, 0, by rw [e1, hn, e2]⟩
    · exact ⟨_, _, by rw [e1, hn]⟩
  have HO := Lib.hid hO; have HN := Lib.hid hn
  have hn9 : n < 1000000 := by omega
  clear hO hn hbig
  go_enter Try.func134, Try.ntmps134
  go_wp2
  go_loopw [6, 7] (fun lf i wr => ∃ (t : Nat) (y : Int), t ≤ n ∧ i = .int .i64 t ∧ lf = .int .i64 y ∧ 0 ≤ y ∧ y ≤ 9007199254740992 ∧ Hid (y = 9007199254740992 - (xs.take t).sum ∧ SmOk (xs.take t)) ∧ Below W.heap.size W wr) (fun _ i _ => n - (intOf i).toNat)
  case atStart => exact ⟨0, _, Nat.zero_le _, rfl, rfl, by omega, by omega, Lib.hid ⟨by simp, fun x hx => by simp at hx, by simp⟩, by (repeat (first | assumption | exact Below.refl _ _ | refine ba ?_ _ | refine bd ?_ | refine bdn ?_ _ | refine bs ?_ (by first | omega | (simp; done) | (simp; omega)) _ | refine bt ?_ (by assumption)))⟩
  case round =>
    obtain ⟨t, y, ht, rfl, rfl, y0, y1, HS, hb1⟩ := hrel
    obtain ⟨w1, rfl⟩ : ∃ w1, w1 = wr := ⟨_, rfl⟩
    have hs1 : W.heap.size + 0 ≤ w1.heap.size := (by have h := hb1.size; first | omega | (simp at h; omega))
    obtain ⟨hc1, hf1, hl1⟩ := bcell hb1
    clear hl1
    by_cases hlt : t < n
    · have hts : (t : Int) < (n : Int) := by omega
      have hll : t < xs.length := by rw [← HN.out]; exact hlt
      have hown := HO.out
      rw [← HN.out] at hown
      obtain ⟨g, rfl⟩ : ∃ g, a = some ⟨g, 0, none⟩ := by
        rcases hown.2 with ⟨_, e2⟩ | ⟨g, cap, cur, e1, _⟩
        · omega
        · injection e1 with e1 _ _; exact ⟨g, e1⟩
      have hgw := (hown.lt g rfl).2
      have c0 : W.cell? ⟨g, t, none⟩ = some (.int .i64 (xs.getD t 0)) := by
        rw [World.ownsRow.cellAt hown t (by omega)]
        simp [List.getElem?_map, List.getElem?_eq_getElem hll, List.getD]
      have hgl : g < w1.heap.size := Nat.lt_of_lt_of_le hgw hb1.size
      have HP := Lib.hid (sm_parted hll)
      have HT := Lib.hid (sm_take hll)
      generalize xs.getD t 0 = x at *
      clear hown hll
      by_cases h0 : 0 ≤ x
      · by_cases h1 : x ≤ y
        · have h0f : (x < 0) = False := eq_false (by omega)
          have y0f : (y < 0) = False := eq_false (by omega)
          have h1f : (y < x) = False := eq_false (by omega)
          have wy : IntKind.i64.wrap (y - x) = y - x := IntWalk.i64_in _ (by omega)
          go_wp2
          go_roundw
          case rel =>
            refine ⟨t + 1, y - x, by omega, by go_num, rfl, by omega, by omega, Lib.hid ⟨?_, ?_⟩, by (repeat (first | assumption | exact Below.refl _ _ | refine ba ?_ _ | refine bd ?_ | refine bdn ?_ _ | refine bs ?_ (by first | omega | (simp; done) | (simp; omega)) _ | refine bt ?_ (by assumption)))⟩
            · rw [HT.out, List.sum_append]; have := HS.out.1; simp; omega
            · rw [HT.out]; exact smOk_snoc HS.out.2 h0 (by have := HS.out.1; omega)
          case measure => simp [intOf]; omega
        · have HX := Lib.hid (show ¬ SmOk xs from fun h => by
            have h2 := (smOk_pre (xs := xs.take t ++ [x]) (ys := xs.drop (t + 1)) (by rw [HP.out] at h; simpa using h)).2
            rw [List.sum_append] at h2
            have := HS.out.1
            simp at h2; omega)
          have h0f : (x < 0) = False := eq_false (by omega)
          have y0f : (y < 0) = False := eq_false (by omega)
          have h1t : y < x := by omega
          clear h1
          go_wp2
          go_ret2
          exact ⟨.inr ⟨HX.out, rfl⟩, by (repeat (first | assumption | exact Below.refl _ _ | refine ba ?_ _ | refine bd ?_ | refine bdn ?_ _ | refine bs ?_ (by first | omega | (simp; done) | (simp; omega)) _ | refine bt ?_ (by assumption)))⟩
      · have HX := Lib.hid (show ¬ SmOk xs from fun h => h0 (h.1 x (by rw [HP.out]; simp)))
        have h0t : x < 0 := by omega
        clear h0
        go_wp2
        go_ret2
        exact ⟨.inr ⟨HX.out, rfl⟩, by (repeat (first | assumption | exact Below.refl _ _ | refine ba ?_ _ | refine bd ?_ | refine bdn ?_ _ | refine bs ?_ (by first | omega | (simp; done) | (simp; omega)) _ | refine bt ?_ (by assumption)))⟩
    · obtain rfl : n = t := by omega
      have hs : xs.take n = xs := by rw [HN.out]; exact List.take_length
      have HE := HS.out
      rw [hs] at HE
      obtain ⟨e1, e2⟩ := HE
      have wy : IntKind.i64.wrap (9007199254740992 - y) = 9007199254740992 - y := IntWalk.i64_in _ (by omega)
      have HX := Lib.hid (And.intro (show 9007199254740992 - y = xs.sum by omega) e2)
      clear e1 e2 hs
      go_wp2
      go_ret2
      exact ⟨.inl ⟨HX.out.2, by rw [← HX.out.1]; rfl⟩, by (repeat (first | assumption | exact Below.refl _ _ | refine ba ?_ _ | refine bd ?_ | refine bdn ?_ _ | refine bs ?_ (by first | omega | (simp; done) | (simp; omega)) _ | refine bt ?_ (by assumption)))⟩
end Go.Proofs.Ytennhfkhdfalfaa
namespace Go.Proofs.Ytennhfkhdfalfaa
open Go.RowKit Go.Maps
attribute [local go_sem] ext_cell ext_frozen Mix.calmUpon Mix.mUpon
/-- The amounts of a place. -/
def am : List Pt → Int → Int → List Int
  | [], _, _ => []
  | p :: t, k, r => if p.1 = k ∧ p.2.1 = r then p.2.2 :: am t k r else am t k r
theorem am_sum (k r : Int) : ∀ l, (am l k r).sum = sl l k r
  | [] => rfl
  | p :: t => by
    rw [am, sl]; split
    · rw [List.sum_cons, am_sum k r t]
    · rw [am_sum k r t]; omega
theorem am_mem {k r x : Int} : ∀ {l : List Pt}, x ∈ am l k r → ∃ p ∈ l, p.1 = k ∧ p.2.1 = r ∧ p.2.2 = x
  | [], h => by simp [am] at h
  | p :: t, h => by
    rw [am] at h; split at h
    · rename_i e
      rcases List.mem_cons.1 h with rfl | h
      · exact ⟨p, by simp, e.1, e.2, rfl⟩
      · obtain ⟨q, hq, e'⟩ := am_mem h; exact ⟨q, by simp [hq], e'⟩
    · obtain ⟨q, hq, e'⟩ := am_mem h; exact ⟨q, by simp [hq], e'⟩
theorem mem_am : ∀ {l : List Pt} {p : Pt}, p ∈ l → p.2.2 ∈ am l p.1 p.2.1
  | q :: t, p, h => by
    rw [am]
    rcases List.mem_cons.1 h with rfl | h
    · rw [if_pos ⟨rfl, rfl⟩]; simp
    · split
      · exact List.mem_cons_of_mem _ (mem_am h)
      · exact mem_am h
theorem am_snoc (k r : Int) (p : Pt) : ∀ l, am (l ++ [p]) k r = am l k r ++ (if p.1 = k ∧ p.2.1 = r then [p.2.2] else [])
  | [] => by simp only [List.nil_append, am]
  | q :: t => by
    rw [List.cons_append, am, am_snoc k r p t, am]; split <;> rfl
theorem am_len (k r : Int) : ∀ l, (am l k r).length ≤ l.length
  | [] => Nat.le_refl _
  | p :: t => by have := am_len k r t; rw [am]; split <;> simp <;> omega
theorem smOk_am {l : List Pt} (h : OfOk l) (k r : Int) : SmOk (am l k r) := by
  refine ⟨fun x hx => ?_, by rw [am_sum]; exact h.2 k r⟩
  obtain ⟨p, hp, _, _, rfl⟩ := am_mem hx
  exact (h.1 p hp).2
theorem ofOk_am {l : List Pt} (h1 : ∀ p ∈ l, LOk p.1 p.2.1) (h2 : ∀ j, j < 132 → SmOk (am l (j / 33 : Nat) (j % 33 : Nat))) : OfOk l := by
  have at' : ∀ k r, LOk k r → SmOk (am l k r) := fun k r h => by
    obtain ⟨a, b, c, d⟩ := h
    have := h2 (k * 33 + r).toNat (by omega)
    rw [show (((k * 33 + r).toNat / 33 : Nat) : Int) = k by omega, show (((k * 33 + r).toNat % 33 : Nat) : Int) = r by omega] at this
    exact this
  refine ⟨fun p hp => ⟨h1 p hp, (at' _ _ (h1 p hp)).1 _ (mem_am hp)⟩, fun k r => ?_⟩
  by_cases hL : LOk k r
  · rw [← am_sum]; exact (at' k r hL).2
  · have e0 : sl l k r = 0 := sl_none fun x hx e => hL (by have := h1 x hx; rw [e.1, e.2] at this; exact this)
    rw [e0]; decide
theorem wl_ofL {S : Int → Int → Int} {k : Nat} (h0 : 0 ≤ S (k / 33 : Nat) (k % 33 : Nat)) : wl (ofL S k) (k / 33 : Nat) (k % 33 : Nat) (S (k / 33 : Nat) (k % 33 : Nat)) = ofL S (k + 1) := by
  rw [ofL, wl]
  by_cases h : S (k / 33 : Nat) (k % 33 : Nat) = 0
  · rw [if_pos h, if_neg (by omega), List.append_nil]
  · rw [if_neg h, if_pos (by omega)]
theorem infoI64 : (Try.prog.info? 2).map (fun i => (i.zero, i.size, i.bytes)) = some (some (.int .i64 0), 1, 8) := by kernel_rfl
/-- Where the loop over the slots stands. -/
structure RO3 (W wa wr : World) (l : List Pt) (v : Value) (k : Nat) : Prop where
  own : OwnP wr wa.heap.size v (ofL (sl l) k)
  ok : ∀ j, j < k → SmOk (am l (j / 33 : Nat) (j % 33 : Nat))
  bel : Below wa.heap.size wa wr
/-- Where the loop over the parts stands. -/
structure RO (wb wr : World) (l : List Pt) (k r : Int) (v : Value) (t : Nat) : Prop where
  own : wr.ownsRow wb.heap.size 2 1 v (am (l.take t) k r).length (i64s (am (l.take t) k r))
  bel : Below wb.heap.size wb wr
set_option maxRecDepth 100000 in
set_option maxHeartbeats 8000000 in
theorem rof_any (v : Value) (l : List Pt) (hbig : l.length < 1000000) (W : World) (hV : Vc W v l) : Calls Try.prog 104 #[v] W (RetW W (ofO l)) := by
  obtain ⟨i0, hi, hz0, hz1, hz2⟩ := info_parts infoI64
  obtain ⟨a, n, cap, rfl, hn, hC⟩ := hV.cells
  have HC := Lib.hid hC; have HN := Lib.hid hn
  have hn9 : n < 1000000 := by omega
  clear hC hn hV hbig
  go_enter Try.func104, Try.ntmps104
  go_wp2
  go_loopw [4] (fun i wr => ∃ t : Nat, t ≤ n ∧ i = .int .i64 t ∧ Hid (∀ p ∈ l.take t, LOk p.1 p.2.1) ∧ Below W.heap.size W wr) (fun i _ => n - (intOf i).toNat)
  case atStart => exact ⟨0, Nat.zero_le _, rfl, Lib.hid (fun p hp => by simp at hp), by (repeat (first | assumption | exact Below.refl _ _ | refine ba ?_ _ | refine bd ?_ | refine bdn ?_ _ | refine bs ?_ (by first | omega | (simp; done) | (simp; omega)) _ | refine bt ?_ (by assumption)))⟩
  case round =>
    obtain ⟨t, ht, rfl, HS, hb1⟩ := hrel
    obtain ⟨w1, rfl⟩ : ∃ w1, w1 = wr := ⟨_, rfl⟩
    have hs1 : W.heap.size + 0 ≤ w1.heap.size := (by have h := hb1.size; first | omega | (simp at h; omega))
    obtain ⟨hc1, hf1, hl1⟩ := bcell hb1
    clear hl1
    by_cases hlt : t < n
    · have hts : (t : Int) < (n : Int) := by omega
      have hll : t < l.length := by rw [← HN.out]; exact hlt
      obtain ⟨b, off, rfl, hb, c0, c1, c2⟩ := HC.out t hlt
      have hbl : b < w1.heap.size := Nat.lt_of_lt_of_le hb hb1.size
      have HP := Lib.hid (partedV hll)
      have HT := Lib.hid (take_succ' hll)
      clear hll
      generalize kk l t = k at *; generalize rr l t = r at *; generalize aa l t = x at *
      have HO := Lib.hid (refslot_any k r x)
      have HR := refslotright_any k r
      by_cases hR : LOk k r
      · rw [decide_eq_true hR] at HR
        have HR := Lib.hid HR
        have HRR := Lib.hid hR
        clear hR
        go_wp2_with fail
        (with_reducible refine (HO.out _).mono ?_)
        rintro e w2 ⟨rfl, hb2⟩
        have hs2 : w1.heap.size + 0 ≤ w2.heap.size := (by have h := hb2.size; first | omega | (simp at h; omega))
        have hb1_2 := bel hb1 hb2 (by (repeat (first | assumption | exact Below.refl _ _ | refine ba ?_ _ | refine bd ?_ | refine bdn ?_ _ | refine bs ?_ (by first | omega | (simp; done) | (simp; omega)) _ | refine bt ?_ (by assumption))))
        clear hc1 hf1
        obtain ⟨hc2, hf2, hl2⟩ := bcell hb2
        clear hl2
        go_wp2_with fail
        (with_reducible refine (HR.out _).mono ?_)
        rintro e w3 ⟨rfl, hb3⟩
        have hs3 : w2.heap.size + 0 ≤ w3.heap.size := (by have h := hb3.size; first | omega | (simp at h; omega))
        have hb1_3 := bel hb1_2 hb3 (by (repeat (first | assumption | exact Below.refl _ _ | refine ba ?_ _ | refine bd ?_ | refine bdn ?_ _ | refine bs ?_ (by first | omega | (simp; done) | (simp; omega)) _ | refine bt ?_ (by assumption))))
        have hb2_3 := bel hb2 hb3 (by (repeat (first | assumption | exact Below.refl _ _ | refine ba ?_ _ | refine bd ?_ | refine bdn ?_ _ | refine bs ?_ (by first | omega | (simp; done) | (simp; omega)) _ | refine bt ?_ (by assumption))))
        clear hc2 hf2
        obtain ⟨hc3, hf3, hl3⟩ := bcell hb3
        clear hl3
        go_wp2
        go_roundw
        case rel =>
          refine ⟨t + 1, by omega, by go_num, Lib.hid fun p hp => ?_, by (repeat (first | assumption | exact Below.refl _ _ | refine ba ?_ _ | refine bd ?_ | refine bdn ?_ _ | refine bs ?_ (by first | omega | (simp; done) | (simp; omega)) _ | refine bt ?_ (by assumption)))⟩
          rw [HT.out] at hp
          rcases List.mem_append.1 hp with hp | hp
          · exact HS.out p hp
          · rw [List.mem_singleton.1 hp]; exact HRR.out
        case measure => simp [intOf]; omega
      · rw [decide_eq_false hR] at HR
        have HR := Lib.hid HR
        have HX := Lib.hid (show ofO l = none from if_neg fun h => hR (h.1 (k, r, x) (by rw [HP.out]; simp)).1)
        clear hR
        go_wp2_with fail
        (with_reducible refine (HO.out _).mono ?_)
        rintro e w2 ⟨rfl, hb2⟩
        have hs2 : w1.heap.size + 0 ≤ w2.heap.size := (by have h := hb2.size; first | omega | (simp at h; omega))
        have hb1_2 := bel hb1 hb2 (by (repeat (first | assumption | exact Below.refl _ _ | refine ba ?_ _ | refine bd ?_ | refine bdn ?_ _ | refine bs ?_ (by first | omega | (simp; done) | (simp; omega)) _ | refine bt ?_ (by assumption))))
        clear hc1 hf1
        obtain ⟨hc2, hf2, hl2⟩ := bcell hb2
        clear hl2
        go_wp2_with fail
        (with_reducible refine (HR.out _).mono ?_)
        rintro e w3 ⟨rfl, hb3⟩
        have hs3 : w2.heap.size + 0 ≤ w3.heap.size := (by have h := hb3.size; first | omega | (simp at h; omega))
        have hb1_3 := bel hb1_2 hb3 (by (repeat (first | assumption | exact Below.refl _ _ | refine ba ?_ _ | refine bd ?_ | refine bdn ?_ _ | refine bs ?_ (by first | omega | (simp; done) | (simp; omega)) _ | refine bt ?_ (by assumption))))
        have hb2_3 := bel hb2 hb3 (by (repeat (first | assumption | exact Below.refl _ _ | refine ba ?_ _ | refine bd ?_ | refine bdn ?_ _ | refine bs ?_ (by first | omega | (simp; done) | (simp; omega)) _ | refine bt ?_ (by assumption))))
        clear hc2 hf2
        obtain ⟨hc3, hf3, hl3⟩ := bcell hb3
        clear hl3
        go_wp2
        go_ret2
        exact RetW.none HX.out (by (repeat (first | assumption | exact Below.refl _ _ | refine ba ?_ _ | refine bd ?_ | refine bdn ?_ _ | refine bs ?_ (by first | omega | (simp; done) | (simp; omega)) _ | refine bt ?_ (by assumption))))
    · obtain rfl : n = t := by omega
      have hll : l.take n = l := by rw [HN.out]; exact List.take_length
      have HLK := HS.out
      rw [hll] at HLK
      have HLK := Lib.hid HLK
      have HBB := Lib.hid hb1
      clear HS hll hlt
      go_wp2_with fail
      refine (refall_any _).mono ?_
      rintro e w2 ⟨g, gc, rfl, hg1, hg2, HALL, hb2⟩
      have hs2 : w1.heap.size + 0 ≤ w2.heap.size := (by have h := hb2.size; first | omega | (simp at h; omega))
      have hb1_2 := bel hb1 hb2 (by (repeat (first | assumption | exact Below.refl _ _ | refine ba ?_ _ | refine bd ?_ | refine bdn ?_ _ | refine bs ?_ (by first | omega | (simp; done) | (simp; omega)) _ | refine bt ?_ (by assumption))))
      clear hc1 hf1
      obtain ⟨hc2, hf2, hl2⟩ := bcell hb2
      clear hl2
      have HB2 := Lib.hid (show Below W.heap.size W w2 by (repeat (first | assumption | exact Below.refl _ _ | refine ba ?_ _ | refine bd ?_ | refine bdn ?_ _ | refine bs ?_ (by first | omega | (simp; done) | (simp; omega)) _ | refine bt ?_ (by assumption))))
      clear hb1
      go_wp2
      go_loopw [6, 7] (fun out kd wr => ∃ k : Nat, k ≤ 132 ∧ kd = .int .i64 k ∧ Hid (RO3 W w2 wr l out k)) (fun _ kd _ => 132 - (intOf kd).toNat)
      case atStart => exact ⟨0, by omega, rfl, Lib.hid ⟨World.ownsRow_nil _ _ _ _, fun j hj => by omega, Below.refl _ _⟩⟩
      case round =>
        obtain ⟨k, hk132, rfl, H2⟩ := hrel
        obtain ⟨w3, rfl⟩ : ∃ w3 : World, w3 = wr := ⟨_, rfl⟩
        have hb3 := H2.out.bel
        have hs3 : w2.heap.size + 0 ≤ w3.heap.size := (by have h := hb3.size; first | omega | (simp at h; omega))
        obtain ⟨hc3, hf3, hl3⟩ := bcell hb3
        clear hl3
        by_cases hlt4 : k < 132
        · have hks : (k : Int) < 132 := by omega
          obtain ⟨s0, s1⟩ := HALL.out k hlt4
          obtain ⟨kk', hkk⟩ : ∃ x : Int, x = ((k / 33 : Nat) : Int) := ⟨_, rfl⟩
          obtain ⟨rr', hrr⟩ : ∃ x : Int, x = ((k % 33 : Nat) : Int) := ⟨_, rfl⟩
          rw [← hkk] at s0; rw [← hrr] at s1
          have HKR := Lib.hid (And.intro hkk hrr)
          clear hkk hrr
          go_wp2
          go_loopw [8, 9] (fun ow i wr => ∃ t : Nat, t ≤ n ∧ i = .int .i64 t ∧ Hid (RO w3 wr l kk' rr' ow t)) (fun _ i _ => n - (intOf i).toNat)
          case atStart => exact ⟨0, Nat.zero_le _, rfl, Lib.hid ⟨World.ownsRow_nil _ _ _ _, Below.refl _ _⟩⟩
          case round =>
            obtain ⟨t, ht', rfl, H3⟩ := hrel
            obtain ⟨w4, rfl⟩ : ∃ w4 : World, w4 = wr := ⟨_, rfl⟩
            have hb4 := H3.out.bel
            have hs4 : w3.heap.size + 0 ≤ w4.heap.size := (by have h := hb4.size; first | omega | (simp at h; omega))
            have hb3_4 := bel hb3 hb4 (by (repeat (first | assumption | exact Below.refl _ _ | refine ba ?_ _ | refine bd ?_ | refine bdn ?_ _ | refine bs ?_ (by first | omega | (simp; done) | (simp; omega)) _ | refine bt ?_ (by assumption))))
            clear hc3 hf3
            obtain ⟨hc4, hf4, hl4⟩ := bcell hb4
            clear hl4
            have HW4 := Lib.hid (show Below W.heap.size W w4 from bt HB2.out (bt hb3 hb4))
            by_cases hlt5 : t < n
            · have hts : (t : Int) < (n : Int) := by omega
              have hll : t < l.length := by rw [← HN.out]; exact hlt5
              obtain ⟨b, off, rfl, hb, c0, c1, c2⟩ := HC.out t hlt5
              have d0 := (HW4.out.cell (p := ⟨b, off + t * 3, none⟩) hb).trans c0
              have d1 := (HW4.out.cell (p := ⟨b, off + t * 3 + 1, none⟩) hb).trans c1
              have d2 := (HW4.out.cell (p := ⟨b, off + t * 3 + 2, none⟩) hb).trans c2
              have e0 := (hb3_4.cell (p := ⟨g, k * 2, none⟩) hg2).trans s0
              have e1 := (hb3_4.cell (p := ⟨g, k * 2 + 1, none⟩) hg2).trans s1
              have hbl4 : b < w4.heap.size := Nat.lt_of_lt_of_le hb HW4.out.size
              have hgl4 : g < w4.heap.size := Nat.lt_of_lt_of_le hg2 hb3_4.size
              have HT := Lib.hid (take_succ' hll)
              have hal := am_len kk' rr' (l.take t)
              have hln : (l.take t).length ≤ n := by rw [HN.out]; exact List.length_take_le' _ _
              clear hll c0 c1 c2
              generalize kk l t = k2 at *; generalize rr l t = r2 at *; generalize aa l t = x at *
              have HO := Lib.hid (refslot_any k2 r2 x)
              by_cases he : k2 = kk' ∧ r2 = rr'
              · have hq := eqS_yes _ _ _ _ he
                have HA := Lib.hid (show am (l.take (t + 1)) kk' rr' = am (l.take t) kk' rr' ++ [x] by rw [HT.out, am_snoc, if_pos he])
                have hown := H3.out.own
                have hb4s := hb4.size
                clear he
                go_wp2_with fail
                refine wp_region_pure (by kernel_rfl) (by kernel_rfl) ?_
                repeat (first | go_big_quiet_step (((go_at_call 102; with_reducible exact HO.out.quiet))) | (quiet_step (((go_at_call 102; with_reducible exact HO.out.quiet)))))
                refine wpQuiet_nil ?_
                rintro w5 ⟨x5, hx5⟩
                have hb5 := ext_below _ x5
                rw [← hx5] at hb5
                clear hx5 x5
                have hs5 : w4.heap.size + 0 ≤ w5.heap.size := (by have h := hb5.size; first | omega | (simp at h; omega))
                have hb3_5 := bel hb3_4 hb5 (by (repeat (first | assumption | exact Below.refl _ _ | refine ba ?_ _ | refine bd ?_ | refine bdn ?_ _ | refine bs ?_ (by first | omega | (simp; done) | (simp; omega)) _ | refine bt ?_ (by assumption))))
                have hb4_5 := bel hb4 hb5 (by (repeat (first | assumption | exact Below.refl _ _ | refine ba ?_ _ | refine bd ?_ | refine bdn ?_ _ | refine bs ?_ (by first | omega | (simp; done) | (simp; omega)) _ | refine bt ?_ (by assumption))))
                clear hc4 hf4
                obtain ⟨hc5, hf5, hl5⟩ := bcell hb5
                clear hl5
                have HB5 := Lib.hid (show Below w4.heap.size w4 w5 by (repeat (first | assumption | exact Below.refl _ _ | refine ba ?_ _ | refine bd ?_ | refine bdn ?_ _ | refine bs ?_ (by first | omega | (simp; done) | (simp; omega)) _ | refine bt ?_ (by assumption))))
                have hs5 := HB5.out.size
                have hbl5 : b < w5.heap.size := by omega
                have f2 := (HB5.out.cell (p := ⟨b, off + t * 3 + 2, none⟩) hbl4).trans d2
                go_wp2_with (at_builtin; refine wpList_append_own _ rfl _ _ 98 rfl w3.heap.size 2 i0 (.int .i64 0) 1 8 Try.underlying98 hi hz0 hz1 hz2 rfl (by decide) _ _ _ rfl ((rowP_grow hown HB5.out).alloc _) ⟨_, 0, none⟩ 1 1 [.int .i64 x] rfl rfl ?c1 ?c2 ?c3 ?c4 ?c5 ?_)
                case c1 => intro j u' hj; cases j <;> simp at hj; subst hj; simp [Addr.add, go_sem]
                case c2 => intro u' hu; simp at hu; subst hu; rfl
                case c3 => unfold maxLen; omega
                case c4 => omega
                case c5 => simp; omega
                intro v' w6 hown' hgrow _
                have HV := Lib.hid hown'; have HG := Lib.hid hgrow
                clear hown' hgrow
                have HB6 := Lib.hid (own_more3 (rowP_grow hown HB5.out) (bt hb4 HB5.out) HG.out)
                go_wp2
                go_roundw
                case rel => exact ⟨t + 1, by omega, by go_num, Lib.hid ⟨by rw [HA.out, List.length_append, i64s, List.map_append]; exact HV.out, HB6.out⟩⟩
                case measure => simp [intOf]; omega
              · have hq := eqS_no _ _ _ _ he
                have HA := Lib.hid (show am (l.take (t + 1)) kk' rr' = am (l.take t) kk' rr' by rw [HT.out, am_snoc, if_neg he, List.append_nil])
                clear he
                go_wp2_with fail
                refine wp_region_pure (by kernel_rfl) (by kernel_rfl) ?_
                repeat (first | go_big_quiet_step (((go_at_call 102; with_reducible exact HO.out.quiet))) | (quiet_step (((go_at_call 102; with_reducible exact HO.out.quiet)))))
                refine wpQuiet_nil ?_
                rintro w5 ⟨x5, hx5⟩
                have hb5 := ext_below _ x5
                rw [← hx5] at hb5
                clear hx5 x5
                have hs5 : w4.heap.size + 0 ≤ w5.heap.size := (by have h := hb5.size; first | omega | (simp at h; omega))
                have hb3_5 := bel hb3_4 hb5 (by (repeat (first | assumption | exact Below.refl _ _ | refine ba ?_ _ | refine bd ?_ | refine bdn ?_ _ | refine bs ?_ (by first | omega | (simp; done) | (simp; omega)) _ | refine bt ?_ (by assumption))))
                have hb4_5 := bel hb4 hb5 (by (repeat (first | assumption | exact Below.refl _ _ | refine ba ?_ _ | refine bd ?_ | refine bdn ?_ _ | refine bs ?_ (by first | omega | (simp; done) | (simp; omega)) _ | refine bt ?_ (by assumption))))
                clear hc4 hf4
                obtain ⟨hc5, hf5, hl5⟩ := bcell hb5
                clear hl5
                have HB5 := Lib.hid (show Below w4.heap.size w4 w5 by (repeat (first | assumption | exact Below.refl _ _ | refine ba ?_ _ | refine bd ?_ | refine bdn ?_ _ | refine bs ?_ (by first | omega | (simp; done) | (simp; omega)) _ | refine bt ?_ (by assumption))))
                go_wp2
                go_roundw
                case rel => exact ⟨t + 1, by omega, by go_num, Lib.hid ⟨by rw [HA.out]; exact rowP_grow H3.out.own HB5.out, bt hb4 HB5.out⟩⟩
                case measure => simp [intOf]; omega
            · obtain rfl : n = t := by omega
              have hown := H3.out.own
              rw [show l.take n = l from by rw [HN.out]; exact List.take_length] at hown
              have hal := am_len kk' rr' l
              have HSUM := Lib.hid (fun w (h : Below w4.heap.size w4 w) => qsum_any w3.heap.size u8 (am l kk' rr') (by have := HN.out; omega) w (rowP_grow hown h))
              clear hown
              go_wp2_with fail
              refine (HSUM.out _ (by (repeat (first | assumption | exact Below.refl _ _ | refine ba ?_ _ | refine bd ?_ | refine bdn ?_ _ | refine bs ?_ (by first | omega | (simp; done) | (simp; omega)) _ | refine bt ?_ (by assumption))))).mono ?_
              rintro e w5 ⟨hres, hb5⟩
              have hs5 : w4.heap.size + 0 ≤ w5.heap.size := (by have h := hb5.size; first | omega | (simp at h; omega))
              have hb3_5 := bel hb3_4 hb5 (by (repeat (first | assumption | exact Below.refl _ _ | refine ba ?_ _ | refine bd ?_ | refine bdn ?_ _ | refine bs ?_ (by first | omega | (simp; done) | (simp; omega)) _ | refine bt ?_ (by assumption))))
              have hb4_5 := bel hb4 hb5 (by (repeat (first | assumption | exact Below.refl _ _ | refine ba ?_ _ | refine bd ?_ | refine bdn ?_ _ | refine bs ?_ (by first | omega | (simp; done) | (simp; omega)) _ | refine bt ?_ (by assumption))))
              clear hc4 hf4
              obtain ⟨hc5, hf5, hl5⟩ := bcell hb5
              clear hl5
              have HB5 := Lib.hid (show Below w4.heap.size w4 w5 by (repeat (first | assumption | exact Below.refl _ _ | refine ba ?_ _ | refine bd ?_ | refine bdn ?_ _ | refine bs ?_ (by first | omega | (simp; done) | (simp; omega)) _ | refine bt ?_ (by assumption))))
              rcases hres with ⟨hsm, rfl⟩ | ⟨hsm, rfl⟩
              · have HSM := Lib.hid hsm
                have hs0 := sm_nn hsm.1
                have HSL := Lib.hid (am_sum kk' rr' l)
                obtain ⟨y, hy⟩ : ∃ y, y = (am l kk' rr').sum := ⟨_, rfl⟩
                rw [← hy] at hs0 ⊢
                have HY := Lib.hid hy
                have e0 := (show Below w2.heap.size w2 w5 from bt hb3 (bt hb4 HB5.out)).cell (p := ⟨g, k * 2, none⟩) hg2
                have e1 := (show Below w2.heap.size w2 w5 from bt hb3 (bt hb4 HB5.out)).cell (p := ⟨g, k * 2 + 1, none⟩) hg2
                rw [s0] at e0; rw [s1] at e1
                have hgl5 : g < w5.heap.size := by have := HB5.out.size; have := hb4.size; omega
                have HOUT := Lib.hid (rowP_grow H2.out.own (bt hb4 HB5.out))
                have HWI := Lib.hid (fun w (h : Below w5.heap.size w5 w) => with_any w2.heap.size u6 (ofL (sl l) k) kk' rr' y (by have := ofL_len (sl l) k; omega) w (by have := h.size; have := HB5.out.size; have := hb4.size; have := hb3.size; omega) (rowP_grow HOUT.out h))
                have HBW := Lib.hid (show Below w2.heap.size w2 w5 from bt hb3 (bt hb4 HB5.out))
                clear hsm hy
                go_wp2_with fail
                refine (HWI.out _ (by (repeat (first | assumption | exact Below.refl _ _ | refine ba ?_ _ | refine bd ?_ | refine bdn ?_ _ | refine bs ?_ (by first | omega | (simp; done) | (simp; omega)) _ | refine bt ?_ (by assumption))))).mono ?_
                rintro e w6 ⟨u, rfl, hu, hb6⟩
                have HU := Lib.hid hu
                have HB6 := Lib.hid (HBW.out.trans hb6)
                clear hu hb6
                go_wp2
                go_roundw
                case rel =>
                  refine ⟨k + 1, by omega, by go_num, Lib.hid ⟨?_, fun j hj => ?_, HB6.out⟩⟩
                  · have e := wl_ofL (S := sl l) (k := k) (by rw [← HKR.out.1, ← HKR.out.2, ← HSL.out, ← HY.out]; exact hs0)
                    rw [← HKR.out.1, ← HKR.out.2, ← HSL.out, ← HY.out] at e
                    rw [← e]; exact HU.out
                  · by_cases hjk : j = k
                    · rw [hjk, ← HKR.out.1, ← HKR.out.2]; exact HSM.out
                    · exact H2.out.ok j (by omega)
                case measure => simp [intOf]; omega
              · have HX := Lib.hid (show ofO l = none from if_neg fun h => hsm (smOk_am h kk' rr'))
                clear hsm
                go_wp2
                go_ret2
                exact RetW.none HX.out (bt HB2.out (bt hb3 (bt hb4 HB5.out)))
        · obtain rfl : k = 132 := by omega
          have HX := Lib.hid (show ofO l = some (ofV l) from if_pos (ofOk_am HLK.out H2.out.ok))
          have HO := Lib.hid (show OwnP w3 w2.heap.size u6 (ofV l) from H2.out.own)
          go_wp2
          go_ret2
          exact RetW.some HX.out (ownsRow_base HO.out HB2.out.size) (bt HB2.out hb3)
end Go.Proofs.Ytennhfkhdfalfaa
namespace Go.Proofs.Ytennhfkhdfalfaa
open Go.RowKit Go.Maps
def hB (a b : List Pt) : Bool := (mrg gSub a b).isSome
theorem hB_iff (a b : List Pt) : hB a b = true ↔ HLD a b := sub_iff a b
theorem hB_self (a : List Pt) : decide (VR a) = hB a a := by
  by_cases h : VR a
  · rw [decide_eq_true h]; exact ((hB_iff a a).2 (hld_self.2 h)).symm
  · rw [decide_eq_false h]
    cases hq : hB a a with
    | true => exact absurd (hld_self.1 ((hB_iff a a).1 hq)) h
    | false => rfl
theorem vholds_b (va vb : Value) (la lb : List Pt) (hl : la.length < 1000000000) (hl' : lb.length < 1000000000) : PureOn (fun w => Vc w va la ∧ Vc w vb lb) Try.prog 23 #[va, vb] (.bool (hB la lb)) := vholds_any va vb la lb hl hl'
end Go.Proofs.Ytennhfkhdfalfaa
namespace Go.Proofs.Ytennhfkhdfalfaa
open Go.RowKit Go.Maps
attribute [local go_sem] ext_cell ext_frozen Mix.extG_cell Mix.extG_frozen Mix.calmUpon Mix.mUpon
theorem sl_append (l m : List Pt) (k r : Int) : sl (l ++ m) k r = sl l k r + sl m k r := by
  induction l with
  | nil => simp [sl]
  | cons p t ih => rw [List.cons_append, sl, ih, sl]; omega
theorem vr_parts {l : List Pt} (h : VR l) : ∀ p ∈ l, LOk p.1 p.2.1 ∧ 0 ≤ p.2.2 := fun p hp => ⟨(h.1 p hp).1, by have := (h.1 p hp).2.1; omega⟩
/-- The parts of two valid vectors together have the vector that is their sum. -/
theorem ofO_append {a b : List Pt} (ha : VR a) (hb : VR b) : ofO (a ++ b) = mrg gAdd a b := by
  have hs : ∀ k r, sl (a ++ b) k r = gt a k r + gt b k r := fun k r => by rw [sl_append, sl_gt ha, sl_gt hb]
  have hp : ∀ p ∈ a ++ b, LOk p.1 p.2.1 ∧ 0 ≤ p.2.2 := fun p hp => by
    rcases List.mem_append.1 hp with hp | hp
    · exact vr_parts ha p hp
    · exact vr_parts hb p hp
  cases hm : mrg gAdd a b with
  | some l =>
    obtain ⟨_, _, hl, hg⟩ := mrg_some gAdd0 gAddB hm
    have hv : ∀ k r, gt a k r + gt b k r ≤ 9007199254740992 ∧ gt l k r = gt a k r + gt b k r := fun k r => by
      have := hg k r; unfold gAdd at this; split at this
      · rename_i h; exact ⟨h, (Option.some.inj this).symm⟩
      · cases this
    have hok : OfOk (a ++ b) := ⟨hp, fun k r => by rw [hs]; exact (hv k r).1⟩
    unfold ofO; rw [if_pos hok]
    exact congrArg Option.some (vr_ext (ofV_vr hok) hl fun k r => by rw [ofV_gt hok, hs, (hv k r).2])
  | none =>
    unfold ofO; rw [if_neg]
    intro hok
    obtain ⟨l, hl⟩ := mrg_of gAdd0 gAddB ha hb fun k r h => by
      unfold gAdd at h
      rw [if_pos (by have := hok.2 k r; rw [hs] at this; exact this)] at h
      cases h
    rw [hm] at hl; cases hl
/-- The parts with other amounts, where they have one. -/
def fL (F : Int → Int → Int → Int) : List Pt → List Pt
  | [] => []
  | p :: t => if F p.1 p.2.1 p.2.2 = 0 then fL F t else (p.1, p.2.1, F p.1 p.2.1 p.2.2) :: fL F t
theorem fL_snoc (F : Int → Int → Int → Int) (p : Pt) : ∀ l, fL F (l ++ [p]) = wl (fL F l) p.1 p.2.1 (F p.1 p.2.1 p.2.2)
  | [] => by
    simp only [List.nil_append, fL, wl]
  | q :: t => by
    rw [List.cons_append, fL, fL_snoc F p t, fL]
    split
    · rfl
    · unfold wl; split <;> simp
theorem fL_mem {F : Int → Int → Int → Int} : ∀ {l : List Pt} {x : Pt}, x ∈ fL F l → ∃ p ∈ l, x.1 = p.1 ∧ x.2.1 = p.2.1 ∧ x.2.2 = F p.1 p.2.1 p.2.2 ∧ x.2.2 ≠ 0
  | [], x, h => by simp [fL] at h
  | p :: t, x, h => by
    rw [fL] at h; split at h
    · obtain ⟨q, hq, e⟩ := fL_mem h; exact ⟨q, by simp [hq], e⟩
    · rename_i h0
      rcases List.mem_cons.1 h with rfl | h
      · exact ⟨p, by simp, rfl, rfl, rfl, h0⟩
      · obtain ⟨q, hq, e⟩ := fL_mem h; exact ⟨q, by simp [hq], e⟩
theorem fL_vr {F : Int → Int → Int → Int} : ∀ {l : List Pt}, VR l → (∀ p ∈ l, 0 ≤ F p.1 p.2.1 p.2.2 ∧ F p.1 p.2.1 p.2.2 ≤ 9007199254740992) → VR (fL F l) ∧ ∀ k r, gt (fL F l) k r = if 0 < gt l k r then F k r (gt l k r) else 0
  | [], _, _ => ⟨VR.nil, fun k r => by simp [fL, gt]⟩
  | p :: t, h, hF => by
    obtain ⟨i1, i2⟩ := fL_vr h.tail fun q hq => hF q (by simp [hq])
    have hp := hF p (by simp)
    have hpo := h.head
    have hlt : ∀ x ∈ fL F t, qy p < qy x := fun x hx => by
      obtain ⟨q, hq, e1, e2, _⟩ := fL_mem hx
      have := h.lt q hq; unfold qy at this ⊢; rw [e1, e2]; exact this
    have h0 : ∀ k r, p.1 = k ∧ p.2.1 = r → gt t k r = 0 ∧ gt (fL F t) k r = 0 := fun k r he =>
      ⟨gt_ahead fun x hx => by have := h.lt x hx; unfold qy at this ⊢; rw [he.1, he.2] at this; exact this,
       gt_ahead fun x hx => by have := hlt x hx; unfold qy at this ⊢; rw [he.1, he.2] at this; exact this⟩
    rw [fL]
    by_cases hz : F p.1 p.2.1 p.2.2 = 0
    · rw [if_pos hz]
      refine ⟨i1, fun k r => ?_⟩
      rw [gt]
      by_cases he : p.1 = k ∧ p.2.1 = r
      · rw [if_pos he, (h0 k r he).2]; obtain ⟨rfl, rfl⟩ := he; rw [hz]; simp
      · rw [if_neg he]; exact i2 k r
    · rw [if_neg hz]
      refine ⟨VR.cons ⟨hpo.1, by show 1 ≤ F _ _ _; omega, hp.2⟩ hlt i1, fun k r => ?_⟩
      rw [gt, gt]
      by_cases he : p.1 = k ∧ p.2.1 = r
      · rw [if_pos he, if_pos he]; obtain ⟨rfl, rfl⟩ := he
        rw [if_pos (by have := hpo.2.1; omega)]
      · rw [if_neg he, if_neg he]; exact i2 k r
/-- What is held, part by part. -/
theorem hld_iff {a b : List Pt} (ha : VR a) (hb : VR b) : HLD a b ↔ ∀ p ∈ b, p.2.2 ≤ gt a p.1 p.2.1 := by
  constructor
  · intro h p hp
    have h1 := h.2.2 p.1 p.2.1
    have h2 : gt b p.1 p.2.1 = p.2.2 := by
      rw [← sl_gt hb]
      clear h1 h ha
      induction b with
      | nil => simp at hp
      | cons q t ih =>
        rw [sl]
        rcases List.mem_cons.1 hp with rfl | hp'
        · rw [if_pos ⟨rfl, rfl⟩, sl_gt hb.tail, gt_ahead (l := t) (fun x hx => hb.lt x hx)]; omega
        · have hne : ¬ (q.1 = p.1 ∧ q.2.1 = p.2.1) := fun e => by
            have := hb.lt p hp'; unfold qy at this; rw [e.1, e.2] at this; omega
          rw [if_neg hne, ih hb.tail hp']; omega
    omega
  · intro h
    refine ⟨ha, hb, fun k r => ?_⟩
    by_cases h0 : 0 < gt b k r
    · obtain ⟨x, hx, e1, e2⟩ := (gt_pos hb).1 h0
      have h1 := h x hx
      rw [e1, e2] at h1
      have h2 : gt b k r = x.2.2 := by
        rw [← sl_gt hb]
        clear h1 h h0 ha
        induction b with
        | nil => simp at hx
        | cons q t ih =>
          rw [sl]
          rcases List.mem_cons.1 hx with rfl | hx'
          · rw [if_pos ⟨e1, e2⟩, sl_gt hb.tail, gt_ahead (l := t) (fun y hy => by have := hb.lt y hy; unfold qy at this ⊢; rw [e1, e2] at this; exact this)]; omega
          · have hne : ¬ (q.1 = k ∧ q.2.1 = r) := fun e => by
              have := hb.lt x hx'; unfold qy at this; rw [e.1, e.2, e1, e2] at this; omega
            rw [if_neg hne, ih hb.tail hx']; omega
      omega
    · have := gt_nn ha k r; omega
theorem sub_fL {a b : List Pt} (h : HLD a b) : mrg gSub a b = some (fL (fun k r x => x - gt b k r) a) := by
  obtain ⟨l, hl⟩ := Option.isSome_iff_exists.1 ((sub_iff a b).2 h)
  obtain ⟨ha, hb, hv, hg⟩ := mrg_some gSub0 gSubB hl
  rw [hl]
  have hF : ∀ p ∈ a, 0 ≤ p.2.2 - gt b p.1 p.2.1 ∧ p.2.2 - gt b p.1 p.2.1 ≤ 9007199254740992 := fun p hp => by
    have h1 := ha.1 p hp
    have h2 := (hld_iff ha ha).1 (hld_self.2 ha) p hp
    have h3 := gt_nn hb p.1 p.2.1
    have h4 := h.2.2 p.1 p.2.1
    have h5 : gt a p.1 p.2.1 = p.2.2 := by
      have e := (gt_pos ha (k := p.1) (r := p.2.1)).2 ⟨p, hp, rfl, rfl⟩
      rw [← sl_gt ha]
      clear h2 h4 h3 e h hl hg hv
      induction a with
      | nil => simp at hp
      | cons q t ih =>
        rw [sl]
        rcases List.mem_cons.1 hp with rfl | hp'
        · rw [if_pos ⟨rfl, rfl⟩, sl_gt ha.tail, gt_ahead (l := t) (fun x hx => ha.lt x hx)]; omega
        · have hne : ¬ (q.1 = p.1 ∧ q.2.1 = p.2.1) := fun e => by
            have := ha.lt p hp'; unfold qy at this; rw [e.1, e.2] at this; omega
          rw [if_neg hne, ih ha.tail hp']; omega
    have := h1.2.2
    omega
  obtain ⟨v, g⟩ := fL_vr (F := fun k r x => x - gt b k r) ha hF
  rw [vr_ext hv v fun k r => ?_]
  rw [g]
  have h1 := hg k r
  unfold gSub at h1
  rw [if_pos (h.2.2 k r)] at h1
  have h1 := Option.some.inj h1
  have h2 := gt_nn ha k r; have h3 := gt_nn hb k r; have h4 := h.2.2 k r
  split <;> omega
theorem min_fL {a b : List Pt} (ha : VR a) (hb : VR b) : mrg gMin a b = some (fL (fun k r x => min x (gt b k r)) a) := by
  obtain ⟨l, hl⟩ := min_some ha hb
  obtain ⟨_, _, hv, hg⟩ := mrg_some gMin0 gMinB hl
  rw [hl]
  have hF : ∀ p ∈ a, 0 ≤ min p.2.2 (gt b p.1 p.2.1) ∧ min p.2.2 (gt b p.1 p.2.1) ≤ 9007199254740992 := fun p hp => by
    have h1 := ha.1 p hp
    have h3 := gt_nn hb p.1 p.2.1
    have := h1.2
    omega
  obtain ⟨v, g⟩ := fL_vr (F := fun k r x => min x (gt b k r)) ha hF
  rw [vr_ext hv v fun k r => ?_]
  rw [g]
  have h1 := Option.some.inj (hg k r)
  have h2 := gt_nn ha k r; have h3 := gt_nn hb k r
  rw [← h1]
  split
  · split <;> omega
  · split <;> omega

theorem run_append_vc (w : World) (B : Nat) (v x : Value) (l m : List Pt) (ty : TypeId) (hO : OwnP w B v l) (hx : Vc w x m) (hlen : l.length + m.length ≤ 1000000) (hB : B ≤ w.heap.size) :
    ∃ v' w', (Builtin.append_ #[32, 32] ty #[v, x]).run Try.prog w = .ok v' w' ∧ OwnP w' B v' (l ++ m) ∧ w.grownBy w' v.ownBlock := by
  obtain ⟨i0, hi, hz0, hz1, hz2⟩ := info_parts infoPart
  rcases hx with ⟨⟨ax, cx, rfl, hcx, hnx⟩, rfl⟩ | ⟨b, off, cap, rfl, h2, h3, h4, h5⟩
  · cases ax with
    | none =>
      obtain rfl := hnx rfl
      exact ⟨v, w, run_append_owned_none w B 32 ty 57 i0 3 Try.underlying32 hi v l.length (pcells l) hO, by rw [List.append_nil]; exact hO, ⟨rfl, rfl, rfl, Nat.le_refl _, fun _ _ _ => rfl⟩⟩
    | some ax =>
      obtain ⟨v', w', e1, e2, e3, _⟩ := run_append_own (P := Try.prog) w B 32 ty 57 i0 (.agg #[.int .i64 0, .int .i64 0, .int .i64 0]) 3 24 Try.underlying32 hi hz0 hz1 hz2 rfl (by decide) v l.length (pcells l) hO ax 0 cx [] rfl (fun _ _ h => by simp at h) (fun _ h => by simp at h) (by unfold maxLen; omega) (by omega) hB
      exact ⟨v', w', e1, by rw [List.append_nil]; simpa using e2, e3⟩
  · obtain ⟨v', w', e1, e2, e3, _⟩ := run_append_own (P := Try.prog) w B 32 ty 57 i0 (.agg #[.int .i64 0, .int .i64 0, .int .i64 0]) 3 24 Try.underlying32 hi hz0 hz1 hz2 rfl (by decide) v l.length (pcells l) hO ⟨b, off, none⟩ m.length cap (pcells m) (pcells_len m) (parts_cells h5) (pcells_one m) (by unfold maxLen; omega) (by omega) hB
    exact ⟨v', w', e1, by rw [OwnP, List.length_append, pcells_append]; exact e2, e3⟩
theorem wpList_append_vc {w : World} {ops : Array Oper} {rest : List Oper} {o : Oper} {a : Act} {Q : Exit → Act → World → Prop} (hgd : o.guard = none) (s y : Operand)
    (ho : o.op = .call { callee := .builtin .append, args := #[s, y], argTypes := #[32, 32] }) (B : Nat) (v x : Value) (l m : List Pt) (hs : a.eval s = v) (hy : a.eval y = x)
    (hO : OwnP w B v l) (hx : Vc w x m) (hlen : l.length + m.length ≤ 1000000) (hB : B ≤ w.heap.size)
    (h : ∀ v' w', OwnP w' B v' (l ++ m) → w.grownBy w' v.ownBlock → wpList Try.prog ops Q rest (a.put o.dst v') w') : wpList Try.prog ops Q (o :: rest) a w := by
  refine wpList_plain hgd fun K hK => ?_
  obtain ⟨v', w', hrun, h1, h2⟩ := run_append_vc w B v x l m o.type hO hx hlen hB
  unfold Oper.wp
  simp [execOp, ho, resolve, invoke, builtin, hs, hy, hrun, Result.andThen]
  exact hK _ _ (h v' w' h1 h2)
set_option maxRecDepth 100000 in
theorem with_g (B : Nat) (v : Value) (l : List Pt) (k r n : Int) (hl : l.length < 1000000) (W : World) (hB : B ≤ W.heap.size) (hO : OwnP W B v l) : Calls Try.prog 101 #[v, L2 k r, .int .i64 n] W fun e w' => ∃ u, e = .returned u ∧ OwnP w' B u (wl l k r n) ∧ W.grownBy w' v.ownBlock := by
  obtain ⟨i0, hi, hz0, hz1, hz2⟩ := info_parts infoPart
  have HO := Lib.hid hO
  by_cases h : n = 0
  · have HE := Lib.hid (show wl l k r n = l from if_pos h)
    subst h
    clear hO
    go_enter Try.func101, Try.ntmps101
    go_wp2
    go_ret
    exact ⟨_, rfl, by rw [HE.out]; exact rowP_grow HO.out (ba (Below.refl _ _) _), Mix.grown_of _ (ba (Below.refl _ _) _)⟩
  · have HE := Lib.hid (show wl l k r n = l ++ [(k, r, n)] from if_neg h)
    have hb : (n == 0) = false := by simpa using h
    clear hO h
    go_enter Try.func101, Try.ntmps101
    go_wp2_with (at_builtin; refine wpList_append_own _ rfl _ _ 32 rfl B 57 i0 (.agg #[.int .i64 0, .int .i64 0, .int .i64 0]) 3 24 Try.underlying32 hi hz0 hz1 hz2 rfl (by decide) _ _ _ rfl ((rowP_grow HO.out (ba (Below.refl _ _) (.cells #[.int .i64 k, .int .i64 r] 142))).alloc _) ⟨_, 0, none⟩ 1 1 [.int .i64 k, .int .i64 r, .int .i64 n] rfl rfl ?c1 ?c2 ?c3 ?c4 ?c5 ?_)
    case c1 => intro q u' hq; rcases q with _ | _ | _ | q <;> simp at hq <;> subst hq <;> simp [Addr.add, go_sem]
    case c2 => intro u' hu; simp at hu; rcases hu with rfl | rfl | rfl <;> rfl
    case c3 => unfold maxLen; omega
    case c4 => omega
    case c5 => simp; omega
    intro v' w1 hown' hgrow _
    have HV := Lib.hid hown'; have HG := Lib.hid hgrow
    clear hown' hgrow
    go_wp2
    go_ret
    refine ⟨_, rfl, by rw [HE.out, OwnP, pcells_append, List.length_append]; exact HV.out, (Mix.grown_of _ (ba (ba (Below.refl _ _) _) _)).trans HG.out⟩
set_option maxRecDepth 100000 in
set_option maxHeartbeats 4000000 in
theorem rholds_any (va vb : Value) (la lb : List Pt) (hl : la.length < 1000000000) (hl' : lb.length < 1000000000) : PureOn (fun w => Vc w va la ∧ Vc w vb lb) Try.prog 59 #[va, vb] (.bool (hB la lb)) := by
  intro W ⟨hA, hV⟩
  have HA := Lib.hid hA; have HV := Lib.hid hV
  obtain ⟨a, n, cap, rfl, hn, hC⟩ := hV.cells
  have HC := Lib.hid hC; have HN := Lib.hid hn
  have hn9 : n < 1000000000 := by omega
  have HGet := Lib.hid fun k r => rget_any va la k r hl
  have R1 := rright_v va la hl
  have R2 := rright_v (.slice a n cap) lb hl'
  obtain ⟨g, hg⟩ : ∃ g, g = hB la lb := ⟨_, rfl⟩
  have HG := Lib.hid hg
  rw [← hg]
  clear hA hV hC hn hg hl hl'
  go_enter Try.func59, Try.ntmps59
  go_wp2
  go_loopw [5] (fun i wr => ∃ t : Nat, t ≤ n ∧ i = .int .i64 t ∧ Hid (∀ p ∈ lb.take t, p.2.2 ≤ gt la p.1 p.2.1) ∧ Below W.heap.size W wr) (fun i _ => n - (intOf i).toNat)
  case atStart => exact ⟨0, Nat.zero_le _, rfl, Lib.hid (fun p hp => by simp at hp), by (repeat (first | assumption | exact Below.refl _ _ | refine ba ?_ _ | refine bd ?_ | refine bdn ?_ _ | refine bs ?_ (by first | omega | (simp; done) | (simp; omega)) _ | refine bt ?_ (by assumption)))⟩
  case round =>
    obtain ⟨t, ht, rfl, HS, hb1⟩ := hrel
    obtain ⟨w1, rfl⟩ : ∃ w1, w1 = wr := ⟨_, rfl⟩
    have hs1 : W.heap.size + 0 ≤ w1.heap.size := (by have h := hb1.size; first | omega | (simp at h; omega))
    obtain ⟨hc1, hf1, hl1⟩ := bcell hb1
    clear hl1
    have HA1 := Lib.hid (HA.out.on hb1)
    by_cases hlt : t < n
    · have hts : (t : Int) < (n : Int) := by omega
      have hll : t < lb.length := by rw [← HN.out]; exact hlt
      obtain ⟨b, off, rfl, hb, c0, c1, c2⟩ := HC.out t hlt
      have hbl : b < w1.heap.size := Nat.lt_of_lt_of_le hb hb1.size
      have HP := Lib.hid (partedV hll)
      have HT := Lib.hid (take_succ' hll)
      clear hll
      generalize kk lb t = k at *; generalize rr lb t = r at *; generalize aa lb t = x at *
      have HO := Lib.hid (refslot_any k r x)
      have G1 := HGet.out k r
      obtain ⟨y, hy⟩ : ∃ y, y = gt la k r := ⟨_, rfl⟩
      rw [← hy] at G1
      have G1 := Lib.hid G1
      have HY := Lib.hid hy
      have X1 := Lib.hid (fun z : Ext w1 => HA1.out.on (ext_below _ z))
      clear hy
      by_cases he : y < x
      · have HX := Lib.hid (show g = false by
          rw [HG.out]
          cases hq : hB la lb with
          | false => rfl
          | true =>
            have h1 := (hB_iff _ _).1 hq
            have h2 := (hld_iff h1.1 h1.2.1).1 h1 (k, r, x) (by rw [HP.out]; simp)
            have h3 : y < x := he
            rw [HY.out] at h3
            have h4 : x ≤ gt la k r := h2
            omega)
        go_wp2_with fail
        refine wp_region_pure (by kernel_rfl) (by kernel_rfl) ?_
        repeat (first | go_big_quiet_step (((first | (go_at_call 102; with_reducible exact HO.out.quiet) | (go_at_call 103; with_reducible exact G1.out.quiet (clo_Vc _ _) HA1.out)))) | (quiet_step (((first | (go_at_call 102; with_reducible exact HO.out.quiet) | (go_at_call 103; with_reducible exact G1.out.quiet (clo_Vc _ _) HA1.out))))))
        refine wpQuiet_nil ?_
        rintro w2 ⟨x2, hx2⟩
        have hb2 := ext_below _ x2
        rw [← hx2] at hb2
        clear hx2 x2
        have hs2 : w1.heap.size + 0 ≤ w2.heap.size := (by have h := hb2.size; first | omega | (simp at h; omega))
        have hb1_2 := bel hb1 hb2 (by (repeat (first | assumption | exact Below.refl _ _ | refine ba ?_ _ | refine bd ?_ | refine bdn ?_ _ | refine bs ?_ (by first | omega | (simp; done) | (simp; omega)) _ | refine bt ?_ (by assumption))))
        clear hc1 hf1
        obtain ⟨hc2, hf2, hl2⟩ := bcell hb2
        clear hl2
        go_wp2
        go_ret
        exact ⟨by rw [HX.out]; rfl, by (repeat (first | assumption | exact Below.refl _ _ | refine ba ?_ _ | refine bd ?_ | refine bdn ?_ _ | refine bs ?_ (by first | omega | (simp; done) | (simp; omega)) _ | refine bt ?_ (by assumption)))⟩
      · have he' : x ≤ y := by omega
        have hef : (y < x) = False := eq_false he
        clear he
        go_wp2_with fail
        refine wp_region_pure (by kernel_rfl) (by kernel_rfl) ?_
        repeat (first | go_big_quiet_step (((first | (go_at_call 102; with_reducible exact HO.out.quiet) | (go_at_call 103; with_reducible exact G1.out.quiet (clo_Vc _ _) HA1.out)))) | (quiet_step (((first | (go_at_call 102; with_reducible exact HO.out.quiet) | (go_at_call 103; with_reducible exact G1.out.quiet (clo_Vc _ _) HA1.out))))))
        refine wpQuiet_nil ?_
        rintro w2 ⟨x2, hx2⟩
        have hb2 := ext_below _ x2
        rw [← hx2] at hb2
        clear hx2 x2
        have hs2 : w1.heap.size + 0 ≤ w2.heap.size := (by have h := hb2.size; first | omega | (simp at h; omega))
        have hb1_2 := bel hb1 hb2 (by (repeat (first | assumption | exact Below.refl _ _ | refine ba ?_ _ | refine bd ?_ | refine bdn ?_ _ | refine bs ?_ (by first | omega | (simp; done) | (simp; omega)) _ | refine bt ?_ (by assumption))))
        clear hc1 hf1
        obtain ⟨hc2, hf2, hl2⟩ := bcell hb2
        clear hl2
        go_wp2
        go_roundw
        case rel =>
          refine ⟨t + 1, by omega, by go_num, Lib.hid fun p hp => ?_, by (repeat (first | assumption | exact Below.refl _ _ | refine ba ?_ _ | refine bd ?_ | refine bdn ?_ _ | refine bs ?_ (by first | omega | (simp; done) | (simp; omega)) _ | refine bt ?_ (by assumption)))⟩
          rw [HT.out] at hp
          rcases List.mem_append.1 hp with hp | hp
          · exact HS.out p hp
          · rw [List.mem_singleton.1 hp]; show x ≤ gt la k r; rw [← HY.out]; exact he'
        case measure => simp [intOf]; omega
    · obtain rfl : n = t := by omega
      have HL := HS.out
      rw [show lb.take n = lb from by rw [HN.out]; exact List.take_length] at HL
      have HL := Lib.hid HL
      by_cases h1 : VR la
      · rw [decide_eq_true h1] at R1
        have R1 := Lib.hid R1
        by_cases h2 : VR lb
        · rw [decide_eq_true h2] at R2
          have R2 := Lib.hid R2
          have HX := Lib.hid (show g = true by rw [HG.out]; exact (hB_iff _ _).2 ((hld_iff h1 h2).2 HL.out))
          go_wp2_with fail
          (with_reducible refine (R1.out.app _ (HA1.out.on (by (repeat (first | assumption | exact Below.refl _ _ | refine ba ?_ _ | refine bd ?_ | refine bdn ?_ _ | refine bs ?_ (by first | omega | (simp; done) | (simp; omega)) _ | refine bt ?_ (by assumption)))))).mono ?_)
          rintro e w2 ⟨rfl, hb2⟩
          have hs2 : w1.heap.size + 0 ≤ w2.heap.size := (by have h := hb2.size; first | omega | (simp at h; omega))
          have hb1_2 := bel hb1 hb2 (by (repeat (first | assumption | exact Below.refl _ _ | refine ba ?_ _ | refine bd ?_ | refine bdn ?_ _ | refine bs ?_ (by first | omega | (simp; done) | (simp; omega)) _ | refine bt ?_ (by assumption))))
          clear hc1 hf1
          obtain ⟨hc2, hf2, hl2⟩ := bcell hb2
          clear hl2
          go_wp2_with fail
          (with_reducible refine (R2.out.app _ (HV.out.on (by (repeat (first | assumption | exact Below.refl _ _ | refine ba ?_ _ | refine bd ?_ | refine bdn ?_ _ | refine bs ?_ (by first | omega | (simp; done) | (simp; omega)) _ | refine bt ?_ (by assumption)))))).mono ?_)
          rintro e w3 ⟨rfl, hb3⟩
          have hs3 : w2.heap.size + 0 ≤ w3.heap.size := (by have h := hb3.size; first | omega | (simp at h; omega))
          have hb1_3 := bel hb1_2 hb3 (by (repeat (first | assumption | exact Below.refl _ _ | refine ba ?_ _ | refine bd ?_ | refine bdn ?_ _ | refine bs ?_ (by first | omega | (simp; done) | (simp; omega)) _ | refine bt ?_ (by assumption))))
          have hb2_3 := bel hb2 hb3 (by (repeat (first | assumption | exact Below.refl _ _ | refine ba ?_ _ | refine bd ?_ | refine bdn ?_ _ | refine bs ?_ (by first | omega | (simp; done) | (simp; omega)) _ | refine bt ?_ (by assumption))))
          clear hc2 hf2
          obtain ⟨hc3, hf3, hl3⟩ := bcell hb3
          clear hl3
          go_wp2
          go_ret
          exact ⟨by rw [HX.out]; rfl, by (repeat (first | assumption | exact Below.refl _ _ | refine ba ?_ _ | refine bd ?_ | refine bdn ?_ _ | refine bs ?_ (by first | omega | (simp; done) | (simp; omega)) _ | refine bt ?_ (by assumption)))⟩
        · rw [decide_eq_false h2] at R2
          have R2 := Lib.hid R2
          have HX := Lib.hid (show g = false by
            rw [HG.out]
            cases hq : hB la lb with
            | false => rfl
            | true => exact absurd ((hB_iff _ _).1 hq).2.1 h2)
          go_wp2_with fail
          (with_reducible refine (R1.out.app _ (HA1.out.on (by (repeat (first | assumption | exact Below.refl _ _ | refine ba ?_ _ | refine bd ?_ | refine bdn ?_ _ | refine bs ?_ (by first | omega | (simp; done) | (simp; omega)) _ | refine bt ?_ (by assumption)))))).mono ?_)
          rintro e w2 ⟨rfl, hb2⟩
          have hs2 : w1.heap.size + 0 ≤ w2.heap.size := (by have h := hb2.size; first | omega | (simp at h; omega))
          have hb1_2 := bel hb1 hb2 (by (repeat (first | assumption | exact Below.refl _ _ | refine ba ?_ _ | refine bd ?_ | refine bdn ?_ _ | refine bs ?_ (by first | omega | (simp; done) | (simp; omega)) _ | refine bt ?_ (by assumption))))
          clear hc1 hf1
          obtain ⟨hc2, hf2, hl2⟩ := bcell hb2
          clear hl2
          go_wp2_with fail
          (with_reducible refine (R2.out.app _ (HV.out.on (by (repeat (first | assumption | exact Below.refl _ _ | refine ba ?_ _ | refine bd ?_ | refine bdn ?_ _ | refine bs ?_ (by first | omega | (simp; done) | (simp; omega)) _ | refine bt ?_ (by assumption)))))).mono ?_)
          rintro e w3 ⟨rfl, hb3⟩
          have hs3 : w2.heap.size + 0 ≤ w3.heap.size := (by have h := hb3.size; first | omega | (simp at h; omega))
          have hb1_3 := bel hb1_2 hb3 (by (repeat (first | assumption | exact Below.refl _ _ | refine ba ?_ _ | refine bd ?_ | refine bdn ?_ _ | refine bs ?_ (by first | omega | (simp; done) | (simp; omega)) _ | refine bt ?_ (by assumption))))
          have hb2_3 := bel hb2 hb3 (by (repeat (first | assumption | exact Below.refl _ _ | refine ba ?_ _ | refine bd ?_ | refine bdn ?_ _ | refine bs ?_ (by first | omega | (simp; done) | (simp; omega)) _ | refine bt ?_ (by assumption))))
          clear hc2 hf2
          obtain ⟨hc3, hf3, hl3⟩ := bcell hb3
          clear hl3
          go_wp2
          go_ret
          exact ⟨by rw [HX.out]; rfl, by (repeat (first | assumption | exact Below.refl _ _ | refine ba ?_ _ | refine bd ?_ | refine bdn ?_ _ | refine bs ?_ (by first | omega | (simp; done) | (simp; omega)) _ | refine bt ?_ (by assumption)))⟩
      · rw [decide_eq_false h1] at R1
        have R1 := Lib.hid R1
        have HX := Lib.hid (show g = false by
          rw [HG.out]
          cases hq : hB la lb with
          | false => rfl
          | true => exact absurd ((hB_iff _ _).1 hq).1 h1)
        go_wp2_with fail
        (with_reducible refine (R1.out.app _ (HA1.out.on (by (repeat (first | assumption | exact Below.refl _ _ | refine ba ?_ _ | refine bd ?_ | refine bdn ?_ _ | refine bs ?_ (by first | omega | (simp; done) | (simp; omega)) _ | refine bt ?_ (by assumption)))))).mono ?_)
        rintro e w2 ⟨rfl, hb2⟩
        have hs2 : w1.heap.size + 0 ≤ w2.heap.size := (by have h := hb2.size; first | omega | (simp at h; omega))
        have hb1_2 := bel hb1 hb2 (by (repeat (first | assumption | exact Below.refl _ _ | refine ba ?_ _ | refine bd ?_ | refine bdn ?_ _ | refine bs ?_ (by first | omega | (simp; done) | (simp; omega)) _ | refine bt ?_ (by assumption))))
        clear hc1 hf1
        obtain ⟨hc2, hf2, hl2⟩ := bcell hb2
        clear hl2
        go_wp2
        go_ret
        exact ⟨by rw [HX.out]; rfl, by (repeat (first | assumption | exact Below.refl _ _ | refine ba ?_ _ | refine bd ?_ | refine bdn ?_ _ | refine bs ?_ (by first | omega | (simp; done) | (simp; omega)) _ | refine bt ?_ (by assumption)))⟩
end Go.Proofs.Ytennhfkhdfalfaa
namespace Go.Proofs.Ytennhfkhdfalfaa
open Go.RowKit Go.Maps
attribute [local go_sem] ext_cell ext_frozen Mix.extG_cell Mix.extG_frozen Mix.calmUpon Mix.mUpon
theorem refadd_bad1 (va vb : Value) (la : List Pt) (h : ¬ VR la) (hl : la.length < 1000000000) (W : World) (hA : Vc W va la) : Calls Try.prog 58 #[va, vb] W fun e w' => e = .returned (.tuple #[.slice none 0 0, .bool false]) ∧ Below W.heap.size W w' := by
  have HR := rright_v va la hl
  rw [decide_eq_false h] at HR
  have HR := Lib.hid HR
  have HA := Lib.hid hA
  clear hA h
  go_enter Try.func58, Try.ntmps58
  go_wp2_with fail
  (with_reducible refine (HR.out.app _ HA.out).mono ?_)
  rintro e w1 ⟨rfl, hb1⟩
  have hs1 : W.heap.size + 0 ≤ w1.heap.size := (by have h := hb1.size; first | omega | (simp at h; omega))
  obtain ⟨hc1, hf1, hl1⟩ := bcell hb1
  clear hl1
  go_wp2
  go_ret2
  refine ⟨rfl, ?_⟩
  (repeat (first | assumption | exact Below.refl _ _ | refine ba ?_ _ | refine bd ?_ | refine bdn ?_ _ | refine bs ?_ (by first | omega | (simp; done) | (simp; omega)) _ | refine bt ?_ (by assumption)))
theorem refadd_bad2 (va vb : Value) (la lb : List Pt) (h1 : VR la) (h : ¬ VR lb) (hl : la.length < 1000000000) (hl' : lb.length < 1000000000) (W : World) (hA : Vc W va la) (hB : Vc W vb lb) : Calls Try.prog 58 #[va, vb] W fun e w' => e = .returned (.tuple #[.slice none 0 0, .bool false]) ∧ Below W.heap.size W w' := by
  have HR := rright_v va la hl
  rw [decide_eq_true h1] at HR
  have HR := Lib.hid HR
  have HS := rright_v vb lb hl'
  rw [decide_eq_false h] at HS
  have HS := Lib.hid HS
  have HA := Lib.hid hA; have HB := Lib.hid hB
  clear hA hB h h1
  go_enter Try.func58, Try.ntmps58
  go_wp2_with fail
  (with_reducible refine (HR.out.app _ HA.out).mono ?_)
  rintro e w1 ⟨rfl, hb1⟩
  have hs1 : W.heap.size + 0 ≤ w1.heap.size := (by have h := hb1.size; first | omega | (simp at h; omega))
  obtain ⟨hc1, hf1, hl1⟩ := bcell hb1
  clear hl1
  go_wp2_with fail
  (with_reducible refine (HS.out.app _ (HB.out.on (by (repeat (first | assumption | exact Below.refl _ _ | refine ba ?_ _ | refine bd ?_ | refine bdn ?_ _ | refine bs ?_ (by first | omega | (simp; done) | (simp; omega)) _ | refine bt ?_ (by assumption)))))).mono ?_)
  rintro e w2 ⟨rfl, hb2⟩
  have hs2 : w1.heap.size + 0 ≤ w2.heap.size := (by have h := hb2.size; first | omega | (simp at h; omega))
  have hb1_2 := bel hb1 hb2 (by (repeat (first | assumption | exact Below.refl _ _ | refine ba ?_ _ | refine bd ?_ | refine bdn ?_ _ | refine bs ?_ (by first | omega | (simp; done) | (simp; omega)) _ | refine bt ?_ (by assumption))))
  clear hc1 hf1
  obtain ⟨hc2, hf2, hl2⟩ := bcell hb2
  clear hl2
  go_wp2
  go_ret2
  refine ⟨rfl, ?_⟩
  (repeat (first | assumption | exact Below.refl _ _ | refine ba ?_ _ | refine bd ?_ | refine bdn ?_ _ | refine bs ?_ (by first | omega | (simp; done) | (simp; omega)) _ | refine bt ?_ (by assumption)))
set_option maxRecDepth 100000 in
set_option maxHeartbeats 4000000 in
theorem refadd_good (va vb : Value) (la lb : List Pt) (h1 : VR la) (h2 : VR lb) (W : World) (hA : Vc W va la) (hB : Vc W vb lb) : Calls Try.prog 58 #[va, vb] W (RetW W (mrg gAdd la lb)) := by
  have l1 := vr_len h1; have l2 := vr_len h2
  have HR := rright_v va la (by omega)
  rw [decide_eq_true h1] at HR
  have HR := Lib.hid HR
  have HS := rright_v vb lb (by omega)
  rw [decide_eq_true h2] at HS
  have HS := Lib.hid HS
  have HA := Lib.hid hA; have HB := Lib.hid hB
  have HOF := fun (v : Value) w (h : Vc w v (la ++ lb)) => rof_any v (la ++ lb) (by rw [List.length_append]; omega) w h
  rw [ofO_append h1 h2] at HOF
  have HOF := Lib.hid HOF
  generalize mrg gAdd la lb = o at *
  clear hA hB h1 h2
  go_enter Try.func58, Try.ntmps58
  go_wp2_with fail
  (with_reducible refine (HR.out.app _ HA.out).mono ?_)
  rintro e w1 ⟨rfl, hb1⟩
  have hs1 : W.heap.size + 0 ≤ w1.heap.size := (by have h := hb1.size; first | omega | (simp at h; omega))
  obtain ⟨hc1, hf1, hl1⟩ := bcell hb1
  clear hl1
  go_wp2_with fail
  (with_reducible refine (HS.out.app _ (HB.out.on (by (repeat (first | assumption | exact Below.refl _ _ | refine ba ?_ _ | refine bd ?_ | refine bdn ?_ _ | refine bs ?_ (by first | omega | (simp; done) | (simp; omega)) _ | refine bt ?_ (by assumption)))))).mono ?_)
  rintro e w2 ⟨rfl, hb2⟩
  have hs2 : w1.heap.size + 0 ≤ w2.heap.size := (by have h := hb2.size; first | omega | (simp at h; omega))
  have hb1_2 := bel hb1 hb2 (by (repeat (first | assumption | exact Below.refl _ _ | refine ba ?_ _ | refine bd ?_ | refine bdn ?_ _ | refine bs ?_ (by first | omega | (simp; done) | (simp; omega)) _ | refine bt ?_ (by assumption))))
  clear hc1 hf1
  obtain ⟨hc2, hf2, hl2⟩ := bcell hb2
  clear hl2
  have HB2 := Lib.hid (show Below W.heap.size W w2 by (repeat (first | assumption | exact Below.refl _ _ | refine ba ?_ _ | refine bd ?_ | refine bdn ?_ _ | refine bs ?_ (by first | omega | (simp; done) | (simp; omega)) _ | refine bt ?_ (by assumption))))
  have HE := Lib.hid (show OwnP (w2.alloc (.cells #[] 57)) w2.heap.size (.slice (some ⟨w2.heap.size, 0, none⟩) 0 0) [] from World.ownsRow_made w2 #[] 0 (Nat.le_refl _) (by unfold maxLen; omega) rfl)
  go_wp2_with (at_builtin; first
    | (refine wpList_append_vc rfl _ _ rfl w2.heap.size (.slice (some ⟨w2.heap.size, 0, none⟩) 0 0) _ [] la rfl rfl HE.out (HA.out.on (bt HB2.out (ba (Below.refl _ _) _))) (by simp; omega) (by simp) ?_; intro v3 w3 ho3 hg3; have HO3 := Lib.hid ho3; have HG3 := Lib.hid (Below.grown ((Below.refl w2.heap.size w2).alloc (Nat.le_refl _) (.cells #[] 57)) hg3 (by simp) (fun k hk => (HE.out.lt k hk).1)); clear ho3 hg3)
    | (refine wpList_append_vc rfl _ _ rfl w2.heap.size v3 _ la lb rfl rfl (by have := HO3.out; simpa using this) (HB.out.on (bt HB2.out HG3.out)) (by omega) HG3.out.size ?_; intro v4 w4 ho4 hg4; have HO4 := Lib.hid ho4; have HG4 := Lib.hid (Below.grown HG3.out hg4 HG3.out.size (fun k hk => (HO3.out.lt k hk).1)); clear ho4 hg4))
  refine (HOF.out _ _ HO4.out.vc).mono ?_
  rintro e w5 ⟨v5, rfl, hv5, hb5⟩
  have HV5 := Lib.hid hv5
  have HB5 := Lib.hid hb5
  clear hv5 hb5
  go_wp2
  go_ret2
  exact ⟨v5, rfl, ownsRow_base HV5.out (Nat.le_trans HB2.out.size HG4.out.size), bt HB2.out (bt HG4.out HB5.out)⟩
theorem refadd_any (va vb : Value) (la lb : List Pt) (hl : la.length < 1000000000) (hl' : lb.length < 1000000000) (W : World) (hA : Vc W va la) (hB : Vc W vb lb) : Calls Try.prog 58 #[va, vb] W (RetW W (mrg gAdd la lb)) := by
  by_cases h1 : VR la
  · by_cases h2 : VR lb
    · exact refadd_good va vb la lb h1 h2 W hA hB
    · rw [mrg_bad fun h => h2 h.2]
      exact (refadd_bad2 va vb la lb h1 h2 hl hl' W hA hB).mono fun e w' ⟨he, hb⟩ => by subst he; exact RetW.none rfl hb
  · rw [mrg_bad fun h => h1 h.1]
    exact (refadd_bad1 va vb la h1 hl W hA).mono fun e w' ⟨he, hb⟩ => by subst he; exact RetW.none rfl hb
theorem gt_first_at {l : List Pt} (h : VR l) {t : Nat} (ht : t < l.length) : gt l (kk l t) (rr l t) = aa l t := by
  have h1 := gt_drop ht (kk l t) (rr l t)
  rw [if_pos ⟨rfl, rfl⟩] at h1
  have h3 := gt_append (l := l.take t) (m := l.drop t) (k := kk l t) (r := rr l t) fun x hx e => ?_
  · rw [List.take_append_drop] at h3
    exact h3.trans h1
  obtain ⟨i, hi, rfl⟩ := List.mem_iff_getElem.1 hx
  have hit : i < t := by rw [List.length_take] at hi; omega
  have h2 := List.pairwise_iff_getElem.1 h.2 i t (by omega) ht hit
  rw [List.getElem_take] at e
  unfold qy at h2
  rw [e.1, e.2, kra ht] at h2
  simp at h2
/-- Where the loop over the parts stands. -/
structure FS (W wr : World) (F : Int → Int → Int → Int) (l : List Pt) (v : Value) (t : Nat) : Prop where
  own : OwnP wr W.heap.size v (fL F (l.take t))
  bel : Below W.heap.size W wr
theorem fL_len (F : Int → Int → Int → Int) : ∀ l, (fL F l).length ≤ l.length
  | [] => Nat.le_refl _
  | p :: t => by have := fL_len F t; rw [fL]; split <;> simp <;> omega
set_option maxRecDepth 100000 in
set_option maxHeartbeats 8000000 in
theorem refsub_good (va vb : Value) (la lb : List Pt) (hh : HLD la lb) (W : World) (hA : Vc W va la) (hB : Vc W vb lb) : Calls Try.prog 57 #[va, vb] W fun e w' => ∃ v, e = .returned (.tuple #[v, .bool true]) ∧ OwnP w' W.heap.size v (fL (fun k r x => x - gt lb k r) la) ∧ Below W.heap.size W w' := by
  have h1 := hh.1; have h2 := hh.2.1
  have hlen := vr_len h1
  have hlb := vr_len h2
  have HVA := Lib.hid h1
  have HVB := Lib.hid h2
  have HH := rholds_any va vb la lb (by have := vr_len h1; omega) (by have := vr_len h2; omega)
  rw [(hB_iff _ _).2 hh] at HH
  have HH := Lib.hid HH
  have HHD := Lib.hid hh
  have HA := Lib.hid hA; have HB := Lib.hid hB
  obtain ⟨a, n, cap, rfl, hn, hC⟩ := hA.cells
  have HC := Lib.hid hC; have HN := Lib.hid hn
  have hn9 : n ≤ 132 := by omega
  have HGet := Lib.hid fun k r => rget_any vb lb k r (by omega)
  clear hA hB hC hn h1 h2 hlen hh
  go_enter Try.func57, Try.ntmps57
  go_wp2_with fail
  (with_reducible refine (HH.out.app _ ⟨HA.out, HB.out⟩).mono ?_)
  rintro e w1 ⟨rfl, hb1⟩
  have hs1 : W.heap.size + 0 ≤ w1.heap.size := (by have h := hb1.size; first | omega | (simp at h; omega))
  obtain ⟨hc1, hf1, hl1⟩ := bcell hb1
  clear hl1
  have HW := Lib.hid (show Below W.heap.size W w1 by (repeat (first | assumption | exact Below.refl _ _ | refine ba ?_ _ | refine bd ?_ | refine bdn ?_ _ | refine bs ?_ (by first | omega | (simp; done) | (simp; omega)) _ | refine bt ?_ (by assumption))))
  go_wp2
  go_loopw [6, 7] (fun v i wr => ∃ t : Nat, t ≤ n ∧ i = .int .i64 t ∧ Hid (FS W wr (fun k r x => x - gt lb k r) la v t)) (fun _ i _ => n - (intOf i).toNat)
  case atStart => exact ⟨0, Nat.zero_le _, rfl, Lib.hid ⟨World.ownsRow_nil _ _ _ _, HW.out⟩⟩
  case round =>
    clear HW
    obtain ⟨t, ht, rfl, HS⟩ := hrel
    obtain ⟨w3, rfl⟩ : ∃ w3, w3 = wr := ⟨_, rfl⟩
    have hb3 := HS.out.bel
    have hs3 : W.heap.size + 0 ≤ w3.heap.size := (by have h := hb3.size; first | omega | (simp at h; omega))
    obtain ⟨hc3, hf3, hl3⟩ := bcell hb3
    clear hl3
    by_cases hlt : t < n
    · have hts : (t : Int) < (n : Int) := by omega
      have hll : t < la.length := by rw [← HN.out]; exact hlt
      obtain ⟨b, off, rfl, hb, c0, c1, c2⟩ := HC.out t hlt
      have hbl : b < w3.heap.size := Nat.lt_of_lt_of_le hb hb3.size
      have HT := Lib.hid (show fL (fun k r x => x - gt lb k r) (la.take (t + 1)) = wl (fL (fun k r x => x - gt lb k r) (la.take t)) (kk la t) (rr la t) ((fun k r x => x - gt lb k r) (kk la t) (rr la t) (aa la t)) by rw [take_succ' hll, fL_snoc])
      have hpok := HVA.out.1 _ (List.getElem_mem hll)
      rw [kra hll] at hpok
      have hx0 := hpok.2.1; have hx1 := hpok.2.2
      simp only at hx0 hx1
      have hle := HHD.out.2.2 (kk la t) (rr la t)
      have hga : gt la (kk la t) (rr la t) = aa la t := (gt_first_at HVA.out hll)
      rw [hga] at hle
      have hlf := fL_len (fun k r x => x - gt lb k r) (la.take t)
      have hlt2 : (la.take t).length ≤ n := by rw [HN.out]; exact List.length_take_le' _ _
      have hgn := gt_nn HVB.out (kk la t) (rr la t)
      clear hll hpok
      generalize kk la t = k at *; generalize rr la t = r at *; generalize aa la t = x at *
      have HO := Lib.hid (refslot_any k r x)
      have G1 := HGet.out k r
      obtain ⟨y, hy⟩ : ∃ y, y = gt lb k r := ⟨_, rfl⟩
      rw [← hy] at G1 hgn
      have G1 := Lib.hid G1
      have HY := Lib.hid hy
      have hy1 : y ≤ x := by
        rw [HY.out]; exact hle
      have wv : IntKind.i64.wrap (x - y) = x - y := IntWalk.i64_in _ (by omega)
      have hrow : u6.ownBlock ≠ some b := fun e => by have := (HS.out.own.lt _ e).1; omega
      have HBG := Lib.hid (fun (z : Mix.ExtG w3 u6.ownBlock) => HB.out.on (Below.grown hb3 (Mix.extG_grown _ _ z) hb3.size (fun j hj => (HS.out.own.lt j hj).1)))
      clear hy hle hga
      go_wp2_with fail
      refine Mix.regionG u6.ownBlock (by kernel_rfl) ?_
      intro w4 hb4
      refine Mix.take_exG _ _ 0 rfl (by kernel_rfl) (by kernel_rfl) (by kernel_rfl) (by kernel_rfl) (fun K hK => ?_)
      go_simp
      first | (refine hK _ ?_; clear hK K) | (apply Exists.intro; refine ⟨fun x => ?_, hK _ ?_⟩; ((go_at_call 102; with_reducible exact HO.out _)); clear hK K)
      refine Mix.take_exG _ _ 1 rfl (by kernel_rfl) (by kernel_rfl) (by kernel_rfl) (by kernel_rfl) (fun K hK => ?_)
      go_simp
      first | (refine hK _ ?_; clear hK K) | (apply Exists.intro; refine ⟨fun x => ?_, hK _ ?_⟩; ((go_at_call 102; with_reducible exact HO.out _)); clear hK K)
      refine Mix.take_exG _ _ 2 rfl (by kernel_rfl) (by kernel_rfl) (by kernel_rfl) (by kernel_rfl) (fun K hK => ?_)
      go_simp
      first | (refine hK _ ?_; clear hK K) | (apply Exists.intro; refine ⟨fun x => ?_, hK _ ?_⟩; ((go_at_call 102; with_reducible exact HO.out _)); clear hK K)
      refine Mix.take_exG _ _ 3 rfl (by kernel_rfl) (by kernel_rfl) (by kernel_rfl) (by kernel_rfl) (fun K hK => ?_)
      go_simp
      first | (refine hK _ ?_; clear hK K) | (apply Exists.intro; refine ⟨fun x => ?_, hK _ ?_⟩; ((go_at_call 102; with_reducible exact HO.out _)); clear hK K)
      refine Mix.take_exG _ _ 4 rfl (by kernel_rfl) (by kernel_rfl) (by kernel_rfl) (by kernel_rfl) (fun K hK => ?_)
      go_simp
      first | (refine hK _ ?_; clear hK K) | (apply Exists.intro; refine ⟨fun x => ?_, hK _ ?_⟩; ((go_at_call 102; with_reducible exact HO.out _)); clear hK K)
      refine Mix.take_exG _ _ 5 rfl (by kernel_rfl) (by kernel_rfl) (by kernel_rfl) (by kernel_rfl) (fun K hK => ?_)
      go_simp
      first | (refine hK _ ?_; clear hK K) | (apply Exists.intro; refine ⟨fun x => ?_, hK _ ?_⟩; ((go_at_call 102; with_reducible exact HO.out _)); clear hK K)
      refine Mix.take_exG _ _ 6 rfl (by kernel_rfl) (by kernel_rfl) (by kernel_rfl) (by kernel_rfl) (fun K hK => ?_)
      go_simp
      first | (refine hK _ ?_; clear hK K) | (apply Exists.intro; refine ⟨fun x => ?_, hK _ ?_⟩; ((go_at_call 102; with_reducible exact HO.out _)); clear hK K)
      refine Mix.take_exG _ _ 7 rfl (by kernel_rfl) (by kernel_rfl) (by kernel_rfl) (by kernel_rfl) (fun K hK => ?_)
      go_simp
      first | (refine hK _ ?_; clear hK K) | (apply Exists.intro; refine ⟨fun x => ?_, hK _ ?_⟩; ((go_at_call 102; with_reducible exact HO.out _)); clear hK K)
      refine Mix.take_exG _ _ 8 rfl (by kernel_rfl) (by kernel_rfl) (by kernel_rfl) (by kernel_rfl) (fun K hK => ?_)
      go_simp
      first | (refine hK _ ?_; clear hK K) | (apply Exists.intro; refine ⟨fun x => ?_, hK _ ?_⟩; ((go_at_call 102; with_reducible exact HO.out _)); clear hK K)
      refine Mix.take_exG _ _ 9 rfl (by kernel_rfl) (by kernel_rfl) (by kernel_rfl) (by kernel_rfl) (fun K hK => ?_)
      go_simp
      first | (refine hK _ ?_; clear hK K) | (apply Exists.intro; refine ⟨fun x => ?_, hK _ ?_⟩; ((go_at_call 102; with_reducible exact HO.out _)); clear hK K)
      refine Mix.take_exG _ _ 10 rfl (by kernel_rfl) (by kernel_rfl) (by kernel_rfl) (by kernel_rfl) (fun K hK => ?_)
      go_simp
      first | (refine hK _ ?_; clear hK K) | (apply Exists.intro; refine ⟨fun x => ?_, hK _ ?_⟩; ((go_at_call 102; with_reducible exact HO.out _)); clear hK K)
      refine Mix.take_exG _ _ 11 rfl (by kernel_rfl) (by kernel_rfl) (by kernel_rfl) (by kernel_rfl) (fun K hK => ?_)
      go_simp
      first | (refine hK _ ?_; clear hK K) | (apply Exists.intro; refine ⟨fun x => ?_, hK _ ?_⟩; ((go_at_call 102; with_reducible exact HO.out _)); clear hK K)
      refine Mix.take_exG _ _ 12 rfl (by kernel_rfl) (by kernel_rfl) (by kernel_rfl) (by kernel_rfl) (fun K hK => ?_)
      go_simp
      first | (refine hK _ ?_; clear hK K) | (apply Exists.intro; refine ⟨fun x => ?_, hK _ ?_⟩; ((go_at_call 102; with_reducible exact HO.out _)); clear hK K)
      refine Mix.take_exG _ _ 13 rfl (by kernel_rfl) (by kernel_rfl) (by kernel_rfl) (by kernel_rfl) (fun K hK => ?_)
      go_simp
      first | (refine hK _ ?_; clear hK K) | (apply Exists.intro; refine ⟨fun x => ?_, hK _ ?_⟩; ((go_at_call 102; with_reducible exact HO.out _)); clear hK K)
      refine Mix.take_exG _ _ 14 rfl (by kernel_rfl) (by kernel_rfl) (by kernel_rfl) (by kernel_rfl) (fun K hK => ?_)
      go_simp
      first | (refine hK _ ?_; clear hK K) | (apply Exists.intro; refine ⟨fun x => ?_, hK _ ?_⟩; ((go_at_call 102; with_reducible exact HO.out _)); clear hK K)
      refine Mix.take_exG _ _ 15 rfl (by kernel_rfl) (by kernel_rfl) (by kernel_rfl) (by kernel_rfl) (fun K hK => ?_)
      go_simp
      first | (refine hK _ ?_; clear hK K) | (apply Exists.intro; refine ⟨fun x => ?_, hK _ ?_⟩; ((go_at_call 102; with_reducible exact HO.out _)); clear hK K)
      refine Mix.take_exG _ _ 16 rfl (by kernel_rfl) (by kernel_rfl) (by kernel_rfl) (by kernel_rfl) (fun K hK => ?_)
      go_simp
      first | (refine hK _ ?_; clear hK K) | (apply Exists.intro; refine ⟨fun x => ?_, hK _ ?_⟩; ((go_at_call 102; with_reducible exact HO.out _)); clear hK K)
      refine Mix.take_exG _ _ 17 rfl (by kernel_rfl) (by kernel_rfl) (by kernel_rfl) (by kernel_rfl) (fun K hK => ?_)
      go_simp
      first | (refine hK _ ?_; clear hK K) | (apply Exists.intro; refine ⟨fun x => ?_, hK _ ?_⟩; ((go_at_call 103; with_reducible exact G1.out.app _ (HBG.out _))); clear hK K)
      refine Mix.take_exG _ _ 18 rfl (by kernel_rfl) (by kernel_rfl) (by kernel_rfl) (by kernel_rfl) (fun K hK => ?_)
      go_simp
      first | (refine hK _ ?_; clear hK K) | (apply Exists.intro; refine ⟨fun x => ?_, hK _ ?_⟩; (fail); clear hK K)
      refine Mix.all (rs := [19]) (by kernel_rfl) (by simp) (Mix.grown_of _ hb4) ?_
      intro i5 hi5 w5 hb5 hC5
      clear hC5
      have HB5 := Lib.hid (show Below w3.heap.size w3 w5 from bt hb4 hb5)
      simp only [List.mem_cons, List.not_mem_nil, or_false] at hi5
      subst hi5
      refine Mix.op rfl (by kernel_rfl) ?_
      go_simp
      refine (with_g W.heap.size u6 (fL (fun k r x => x - gt lb k r) (la.take t)) k r (x - y) (by omega) w5 (bt hb3 HB5.out).size (rowP_grow HS.out.own HB5.out)).mono ?_
      rintro e w6 ⟨u, rfl, hu, hg6⟩
      have HU := Lib.hid hu; have HG6 := Lib.hid hg6
      clear hu hg6
      refine ⟨_, rfl, ?_⟩
      refine Mix.all (rs := [20]) (by kernel_rfl) (by simp) ((Mix.grown_of _ HB5.out).trans HG6.out) ?_
      intro i8 hi8 w8 hb8 hC8
      simp only [List.mem_cons, List.not_mem_nil, or_false] at hi8
      subst hi8
      refine Mix.op rfl (by kernel_rfl) ?_
      go_simp
      refine Mix.done (by kernel_rfl) hC8 ?_
      intro w9 hb9
      have HB9 := Lib.hid (show Below w6.heap.size w6 w9 from bt hb8 hb9)
      clear hC8 hb8 hb9
      go_wp2
      go_roundw
      case rel =>
        refine ⟨t + 1, by omega, by go_num, Lib.hid ⟨?_, bt (Below.grown (bt hb3 HB5.out) HG6.out (bt hb3 HB5.out).size (fun j hj => (HS.out.own.lt j hj).1)) HB9.out⟩⟩
        rw [HT.out, ← HY.out]; exact rowP_grow HU.out HB9.out
      case measure => simp [intOf]; omega
    · obtain rfl : n = t := by omega
      have HF := HS.out.own
      rw [show la.take n = la from by rw [HN.out]; exact List.take_length] at HF
      have HV := Lib.hid HF
      have HF9 := Lib.hid hb3
      clear HF
      go_wp2
      go_ret2
      exact ⟨_, rfl, HV.out, by have := HF9.out; (repeat (first | assumption | exact Below.refl _ _ | refine ba ?_ _ | refine bd ?_ | refine bdn ?_ _ | refine bs ?_ (by first | omega | (simp; done) | (simp; omega)) _ | refine bt ?_ (by assumption)))⟩
theorem refsub_any (va vb : Value) (la lb : List Pt) (hl : la.length < 1000000000) (hl' : lb.length < 1000000000) (W : World) (hA : Vc W va la) (hB' : Vc W vb lb) : Calls Try.prog 57 #[va, vb] W (RetW W (mrg gSub la lb)) := by
  by_cases hh : HLD la lb
  · rw [sub_fL hh]
    exact (refsub_good va vb la lb hh W hA hB').mono fun e w' ⟨v, he, hv, hb⟩ => ⟨v, he, hv, hb⟩
  · have hz : hB la lb = false := by
      cases hq : hB la lb with
      | false => rfl
      | true => exact absurd ((hB_iff _ _).1 hq) hh
    have hm : mrg gSub la lb = none := by
      cases hq : mrg gSub la lb with
      | none => rfl
      | some l => exact absurd ((sub_iff la lb).1 (by rw [hq]; rfl)) hh
    rw [hm]
    have HH := rholds_any va vb la lb hl hl'
    rw [hz] at HH
    have HH := Lib.hid HH
    have HA := Lib.hid hA; have HB := Lib.hid hB'
    clear hA hB' hm hz hh
    go_enter Try.func57, Try.ntmps57
    go_wp2_with fail
    (with_reducible refine (HH.out.app _ ⟨HA.out, HB.out⟩).mono ?_)
    rintro e w1 ⟨rfl, hb1⟩
    have hs1 : W.heap.size + 0 ≤ w1.heap.size := (by have h := hb1.size; first | omega | (simp at h; omega))
    obtain ⟨hc1, hf1, hl1⟩ := bcell hb1
    clear hl1
    go_wp2
    go_ret2
    exact RetW.none rfl (by (repeat (first | assumption | exact Below.refl _ _ | refine ba ?_ _ | refine bd ?_ | refine bdn ?_ _ | refine bs ?_ (by first | omega | (simp; done) | (simp; omega)) _ | refine bt ?_ (by assumption))))
end Go.Proofs.Ytennhfkhdfalfaa
namespace Go.Proofs.Ytennhfkhdfalfaa
open Go.RowKit Go.Maps
attribute [local go_sem] ext_cell ext_frozen Mix.calmUpon Mix.mUpon
set_option maxRecDepth 100000 in
set_option maxHeartbeats 4000000 in
theorem refadd_both (a b : Nat → Int) (q : Bool) (ha : SOk a) (hb : SOk b) (hq : decide (SOk fun k => a k + b k) = q) : Pure Try.prog 71 #[S4 a, S4 b] (.tuple #[if q then S4 (fun k => a k + b k) else S4 Z4, .bool q]) := by
  intro W
  have HA := refright6 a
  rw [decide_eq_true ha] at HA
  have HA := Lib.hid HA
  have HB := refright6 b
  rw [decide_eq_true hb] at HB
  have HB := Lib.hid HB
  have HS := refright6 (fun k => a k + b k)
  rw [hq] at HS
  have HS := Lib.hid HS
  have HSA := Lib.hid ha; have HSB := Lib.hid hb
  clear ha hb hq
  go_enter Try.func71, Try.ntmps71
  go_wp2_with fail
  (with_reducible refine (HA.out _).mono ?_)
  rintro e w1 ⟨rfl, hb1⟩
  have hs1 : W.heap.size + 4 ≤ w1.heap.size := (by have h := hb1.size; first | omega | (simp at h; omega))
  have hz1_0 : W.heap.size < w1.heap.size := (by omega)
  have hz1_1 : W.heap.size + 1 < w1.heap.size := (by omega)
  have hz1_2 : W.heap.size + 2 < w1.heap.size := (by omega)
  have hx1_2 : W.heap.size + 1 + 1 < w1.heap.size := (by omega)
  have hz1_3 : W.heap.size + 3 < w1.heap.size := (by omega)
  have hx1_3 : W.heap.size + 1 + 1 + 1 < w1.heap.size := (by omega)
  obtain ⟨hc1, hf1, hl1⟩ := bcell hb1
  clear hl1
  go_wp2_with fail
  refine (HB.out _).mono ?_
  rintro e w2 ⟨rfl, hb2⟩
  have HD := Lib.hid (A4.four (a := a) (b := b) (c := Z4) (d := Z4) (bt hb1 hb2))
  clear hb1 hb2
  go_wp2
  go_loopw [7] (fun i wr => ∃ t : Nat, t ≤ 4 ∧ i = .int .i64 t ∧ Hid (A4 W wr 4 (X4 a b Z4 (upto Z4 (fun k => a k + b k) t)))) (fun i _ => 4 - (intOf i).toNat)
  case atStart => exact ⟨0, Nat.zero_le _, rfl, HD⟩
  case round =>
    clear HD
    obtain ⟨t, ht, rfl, HD⟩ := hrel
    have hs3 := HD.out.size
    have z0 : W.heap.size < wr.heap.size := by omega
    have z1 : W.heap.size + 1 < wr.heap.size := by omega
    have z2 : W.heap.size + 1 + 1 < wr.heap.size := by omega
    have z3 : W.heap.size + 1 + 1 + 1 < wr.heap.size := by omega
    by_cases hlt : t < 4
    · have hts : (t : Int) < 4 := by omega
      have c0 : wr.cell? ⟨W.heap.size, t, none⟩ = some (.int .i64 (a t)) := (HD.out.c 0 (by omega) t hlt).trans (by simp [X4])
      have c1 : wr.cell? ⟨W.heap.size + 1, t, none⟩ = some (.int .i64 (b t)) := (HD.out.c 1 (by omega) t hlt).trans (by simp [X4])
      have e0 : wr.cell? ⟨W.heap.size + 1 + 1 + 1, t, none⟩ = some (.int .i64 0) := (HD.out.c 3 (by omega) t hlt).trans (by simp [X4, upto])
      have f0 : wr.frozen? ⟨W.heap.size + 1 + 1 + 1, t, none⟩ = false := HD.out.f 3 (by omega) t
      have ab := sok_at HSA.out t hlt
      have bb := sok_at HSB.out t hlt
      have wq : IntKind.i64.wrap (a t + b t) = a t + b t := by obtain ⟨_, _⟩ := ab; obtain ⟨_, _⟩ := bb; exact IntWalk.i64_in _ (by omega)
      clear ab bb
      go_wp2
      go_region
      go_wp2
      go_roundw
      case rel =>
        refine ⟨t + 1, by omega, by go_num, Lib.hid (A4.congr ?_ fun i hi j _ => X4.next (y := fun k => a k + b k) i j hi)⟩
        first
          | exact (HD.out.set 3 t (by omega) hlt _).drew
          | exact (HD.out.set 3 t (by omega) hlt _)
          | exact (HD.out.drew.set 3 t (by omega) hlt _)
      case measure => simp [intOf]; omega
    · obtain rfl : t = 4 := by omega
      have g0 := HD.out.c 3 (by omega); have g2 := HD.out.c 2 (by omega); have h2 := HD.out.f 2 (by omega)
      have c0 : wr.cell? ⟨W.heap.size + 1 + 1 + 1, 0, none⟩ = some (.int .i64 (a 0 + b 0)) := g0 0 (by omega)
      have c1 : wr.cell? ⟨W.heap.size + 1 + 1 + 1, 1, none⟩ = some (.int .i64 (a 1 + b 1)) := g0 1 (by omega)
      have c2 : wr.cell? ⟨W.heap.size + 1 + 1 + 1, 2, none⟩ = some (.int .i64 (a 2 + b 2)) := g0 2 (by omega)
      have c3 : wr.cell? ⟨W.heap.size + 1 + 1 + 1, 3, none⟩ = some (.int .i64 (a 3 + b 3)) := g0 3 (by omega)
      clear g0 g2 h2
      go_wp2_with fail
      refine (HS.out _).mono ?_
      rintro e w4 ⟨rfl, hb4⟩
      have HE := Lib.hid (HD.out.grow hb4)
      have hz := hb4.size
      clear c0 c1 c2 c3 HD hb4
      have g0 := HE.out.c 3 (by omega); have g2 := HE.out.c 2 (by omega); have h2 := HE.out.f 2 (by omega)
      have c0 : w4.cell? ⟨W.heap.size + 1 + 1 + 1, 0, none⟩ = some (.int .i64 (a 0 + b 0)) := g0 0 (by omega)
      have c1 : w4.cell? ⟨W.heap.size + 1 + 1 + 1, 1, none⟩ = some (.int .i64 (a 1 + b 1)) := g0 1 (by omega)
      have c2 : w4.cell? ⟨W.heap.size + 1 + 1 + 1, 2, none⟩ = some (.int .i64 (a 2 + b 2)) := g0 2 (by omega)
      have c3 : w4.cell? ⟨W.heap.size + 1 + 1 + 1, 3, none⟩ = some (.int .i64 (a 3 + b 3)) := g0 3 (by omega)
      have r0 : w4.cell? ⟨W.heap.size + 1 + 1, 0, none⟩ = some (.int .i64 0) := g2 0 (by omega)
      have r1 : w4.cell? ⟨W.heap.size + 1 + 1, 1, none⟩ = some (.int .i64 0) := g2 1 (by omega)
      have r2 : w4.cell? ⟨W.heap.size + 1 + 1, 2, none⟩ = some (.int .i64 0) := g2 2 (by omega)
      have r3 : w4.cell? ⟨W.heap.size + 1 + 1, 3, none⟩ = some (.int .i64 0) := g2 3 (by omega)
      have f0 : w4.frozen? ⟨W.heap.size + 1 + 1, 0, none⟩ = false := h2 0
      have f1 : w4.frozen? ⟨W.heap.size + 1 + 1, 1, none⟩ = false := h2 1
      have f2 : w4.frozen? ⟨W.heap.size + 1 + 1, 2, none⟩ = false := h2 2
      have f3 : w4.frozen? ⟨W.heap.size + 1 + 1, 3, none⟩ = false := h2 3
      clear g0 g2 h2
      have hbl := Lib.hid HE.out.bel
      cases q with
      | true =>
        go_wp2
        refine bodyPost_ret (v := .tuple #[S4 (fun k => a k + b k), .bool true]) (by simp [results, Try.results71, go_sem, *]) rfl ⟨rfl, ?_⟩
        exact bs (bs (bs (bs hbl.out (by simp; omega) _) (by simp; omega) _) (by simp; omega) _) (by simp; omega) _
      | false =>
        go_wp2
        refine bodyPost_ret (v := .tuple #[S4 Z4, .bool false]) (by simp [results, Try.results71, go_sem, *]) rfl ⟨rfl, ?_⟩
        exact bs (bs (bs (bs hbl.out (by simp; omega) _) (by simp; omega) _) (by simp; omega) _) (by simp; omega) _
end Go.Proofs.Ytennhfkhdfalfaa

/- Regions whose last operation stands behind all others; mancipleref05.Right; sorted lists; mancipleref06.Add. -/
import Derived.Test.YtnckjacbkhoppaaChg
import Derived.Test.YtnckjacbkhoppaaVecV
import Derived.Test.YtnckjacbkhoppaaSrt
import Derived.Test.YtnckjacbkhoppaaSumsAe
namespace Go.Proofs.Ytnckjacbkhoppaa.Mix
open Go.RowKit
variable {P : Program} {md : Region.Mode} {ops : Array Oper} {C : World → Prop} {last : Nat}
/-- As mAny; the class is asked for only while the last operation is to come. -/
def mAnyL (P : Program) (md : Region.Mode) (ops : Array Oper) (C : World → Prop) (last : Nat) (Q : Act → World → Prop) : Nat → Array Bool → Act → World → Prop
  | 0, listed, a, w => (listed.getD last true = false → C w) ∧ Region.ready md ops listed = [] ∧ ∀ w', Grow w w' → Q a w'
  | fuel + 1, listed, a, w => (listed.getD last true = false → C w) ∧ (Region.ready md ops listed = [] → ∀ w', Grow w w' → Q a w') ∧
      ∀ i ∈ Region.ready md ops listed, ∀ w', Grow w w' → (listed.getD last true = false → C w') → mOp P ops i (mAnyL P md ops C last Q fuel (listed.setIfInBounds i true)) a w'
theorem mAnyL_C {Q : Act → World → Prop} {fuel : Nat} {listed : Array Bool} {a : Act} {w : World} (h : mAnyL P md ops C last Q fuel listed a w) : listed.getD last true = false → C w := by
  cases fuel <;> exact h.1
theorem mAnyL_grow {Q : Act → World → Prop} (hC : Closed C) {fuel : Nat} {listed : Array Bool} {a : Act} {w w' : World} (h : mAnyL P md ops C last Q fuel listed a w) (hg : Grow w w') : mAnyL P md ops C last Q fuel listed a w' := by
  cases fuel with
  | zero => exact ⟨fun e => hC _ _ (h.1 e) hg, h.2.1, fun w'' h' => h.2.2 _ (hg.trans h')⟩
  | succ fuel => exact ⟨fun e => hC _ _ (h.1 e) hg, fun h0 w'' h' => h.2.1 h0 _ (hg.trans h'), fun i hi w'' h' hc => h.2.2 i hi _ (hg.trans h') hc⟩
theorem mAnyL_any {Q : Act → World → Prop} {Q' : Exit → Act → World → Prop} (hQ : ∀ a w, Q a w → Q' .normal a w) : ∀ (fuel : Nat) (listed : Array Bool) (a : Act) (w : World),
    mAnyL P md ops C last Q fuel listed a w → wpAny P md ops Q' fuel listed a w
  | 0, _, _, w, h => ⟨h.2.1, hQ _ _ (h.2.2 w (.refl w))⟩
  | fuel + 1, _, _, w, h => ⟨fun h0 => hQ _ _ (h.2.1 h0 w (.refl w)), fun i hi => mOp_wpOp (mOp_mono (fun a' w' h' => mAnyL_any hQ fuel _ a' w' h') (h.2.2 i hi w (.refl w) h.1))⟩
theorem getD_set_other {l : Array Bool} {i j : Nat} (h : i ≠ j) (d : Bool) : (l.setIfInBounds i true).getD j d = l.getD j d := by
  simp [h]
theorem firstL {Q : Act → World → Prop} (hC : Closed C) {i : Nat} {oi ol : Oper} {v : Value} (hi : ops[i]? = some oi) (hl : ops[last]? = some ol) (hil : i ≠ last) (hdep : ∃ e ∈ ol.after, Region.binds md e = true ∧ e.on = i)
    (hsel : ∀ (j : Nat) (o : Oper) cs b, ops[j]? = some o → o.op ≠ .select cs b) :
    ∀ (fuel : Nat) (listed : Array Bool) (a : Act) (w : World),
      (∀ j oj, ops[j]? = some oj → j ≠ i → listed.getD j true = false → (∀ e ∈ oj.after, Region.binds md e = true → e.on ≠ i) → oi.apart ops oj = true) →
      i ∈ Region.ready md ops listed → listed.getD last true = false → Calm P ops C oi v a →
      mAnyL P md ops C last Q fuel (listed.setIfInBounds i true) (a.put oi.dst v) w → mAnyL P md ops C last Q (fuel + 1) listed a w := by
  intro fuel
  induction fuel with
  | zero =>
    intro listed a w _ hr hlast hy H
    have hlast' : (listed.setIfInBounds i true).getD last true = false := by rw [getD_set_other hil]; exact hlast
    refine ⟨fun _ => mAnyL_C H hlast', fun h => (by rw [h] at hr; cases hr), fun j hj w' hg hc => ?_⟩
    by_cases hji : j = i
    · subst hji; exact hy.mOp hi (hc hlast) fun w'' hg' => mAnyL_grow hC H (hg.trans hg')
    · have := ready_mono hj hji
      rw [H.2.1] at this
      cases this
  | succ fuel ih =>
    intro listed a w hfree hr hlast hy H
    have hlast' : (listed.setIfInBounds i true).getD last true = false := by rw [getD_set_other hil]; exact hlast
    refine ⟨fun _ => mAnyL_C H hlast', fun h => (by rw [h] at hr; cases hr), fun j hj w' hg hc => ?_⟩
    by_cases hji : j = i
    · subst hji; exact hy.mOp hi (hc hlast) fun w'' hg' => mAnyL_grow hC H (hg.trans hg')
    · have h1 := H.2.2 j (ready_mono hj hji) w' hg fun _ => hc hlast
      obtain ⟨hjun, oj, hoj, hall⟩ := mem_ready.1 hj
      have hnot : ∀ e ∈ oj.after, Region.binds md e = true → e.on ≠ i := fun e he hb heq => by
        have k1 := hall e he hb
        have k0 := (mem_ready.1 hr).1
        rw [heq] at k1
        rcases Nat.lt_or_ge i listed.size with h' | h'
        · simp [h'] at k0 k1; rw [k0] at k1; cases k1
        · simp [Array.getElem?_eq_none h'] at k1
      have hjl : j ≠ last := fun e => by
        subst e
        rw [hl] at hoj; cases hoj
        obtain ⟨e, he, hb, hon⟩ := hdep
        exact hnot e he hb hon
      have h2 := mOp_put hoj (hfree j oj hoj hji hjun hnot) (fun cs b => hsel i oi cs b hi) (fun cs b => hsel j oj cs b hoj) hy h1
      have hfree' : ∀ k ok, ops[k]? = some ok → k ≠ i → (listed.setIfInBounds j true).getD k true = false →
          (∀ e ∈ ok.after, Region.binds md e = true → e.on ≠ i) → oi.apart ops ok = true := fun k ok hk hki hun hno => by
        refine hfree k ok hk hki ?_ hno
        by_cases hjk : j = k
        · subst hjk; exact hjun
        · rw [getD_set_ne true hjk] at hun; exact hun
      refine mOp_mono (fun a' w'' h3 => ih (listed.setIfInBounds j true) a' w'' hfree' (ready_mono hr (Ne.symm hji)) (by rw [getD_set_other hjl]; exact hlast) h3.1 ?_) h2
      rw [Array.setIfInBounds_comm _ _ hji]
      exact h3.2
/-- Does the last operation stand behind operation i? -/
def behind (md : Region.Mode) (ops : Array Oper) (last i : Nat) : Bool := ((ops[last]?).map fun o => o.after.any fun e => Region.binds md e && e.on == i).getD false && i != last
theorem takeL {Q : Act → World → Prop} (hC : Closed C) (i : Nat) {oi : Oper} {v : Value} {fuel : Nat} {listed : Array Bool} {a : Act} {w : World} (hi : ops[i]? = some oi)
    (hs : Region.noSelect ops = true) (hf : Region.free md ops listed i = true) (hr : (Region.ready md ops listed).contains i = true) (hb : behind md ops last i = true) (hl : listed.getD last true = false) (hy : Calm P ops C oi v a)
    (h : mAnyL P md ops C last Q fuel (listed.setIfInBounds i true) (a.put oi.dst v) w) : mAnyL P md ops C last Q (fuel + 1) listed a w := by
  unfold behind at hb
  rw [Bool.and_eq_true] at hb
  obtain ⟨h1, h2⟩ := hb
  cases ho : ops[last]? with
  | none => rw [ho] at h1; cases h1
  | some ol =>
    rw [ho] at h1
    simp only [Option.map_some, Option.getD_some, Array.any_eq_true, Bool.and_eq_true, beq_iff_eq] at h1
    obtain ⟨k, hk, hk1, hk2⟩ := h1
    exact firstL hC hi ho (by simpa using h2) ⟨_, Array.getElem_mem hk, hk1, hk2⟩ (Region.noSelect_spec hs) fuel listed a w (Region.free_spec hi hf) (by simpa using hr) hl hy h
theorem allL {Q : Act → World → Prop} {rs : List Nat} {fuel : Nat} {listed : Array Bool} {a : Act} {w : World} (hr : Region.ready md ops listed = rs) (hne : rs ≠ []) (hw : C w)
    (hl : listed.getD last true = false) (h : ∀ i ∈ rs, ∀ w', Grow w w' → C w' → mOp P ops i (mAnyL P md ops C last Q fuel (listed.setIfInBounds i true)) a w') : mAnyL P md ops C last Q (fuel + 1) listed a w := by
  subst hr
  exact ⟨fun _ => hw, fun h0 => absurd h0 hne, fun i hi w' hg hc => h i hi w' hg (hc hl)⟩
theorem doneL {Q : Act → World → Prop} {listed : Array Bool} {a : Act} {w : World} (hr : Region.ready md ops listed = []) (hl : listed.getD last true = true) (h : ∀ w', Grow w w' → Q a w') : mAnyL P md ops C last Q 0 listed a w :=
  ⟨fun e => (by rw [hl] at e; cases e), hr, h⟩
theorem take_exL (W : World) (F : Nat → Prop) {Q : Act → World → Prop} (i : Nat) {oi : Oper} {fuel : Nat} {listed : Array Bool} {a : Act} {w : World} (hi : ops[i]? = some oi)
    (hs : Region.noSelect ops = true) (hf : Region.free md ops listed i = true) (hr : (Region.ready md ops listed).contains i = true) (hw : Region.wanted oi (yielded ops a.tmps) = true) (hb : behind md ops last i = true) (hl : listed.getD last true = false)
    (h : ∀ K : Act → Prop, (∀ a', mAnyL P md ops (OverC W F) last Q fuel (listed.setIfInBounds i true) a' w → K a') → ∃ v, (∀ x : ExtC W F, calmUpon P (extC W F x) v ((execOp a.eval oi).run P (extC W F x))) ∧ K (a.put oi.dst v)) :
    mAnyL P md ops (OverC W F) last Q (fuel + 1) listed a w := by
  obtain ⟨v, h1, h2⟩ := h _ (fun _ h => h)
  exact takeL (overC_closed W F) i hi hs hf hr hb hl (.inl ⟨hw, fun w hx => h1 ⟨w, hx⟩⟩) h2
theorem skip_L (W : World) (F : Nat → Prop) {Q : Act → World → Prop} (i : Nat) {oi : Oper} {fuel : Nat} {listed : Array Bool} {a : Act} {w : World} (hi : ops[i]? = some oi)
    (hs : Region.noSelect ops = true) (hf : Region.free md ops listed i = true) (hr : (Region.ready md ops listed).contains i = true) (hw : Region.wanted oi (yielded ops a.tmps) = false) (hb : behind md ops last i = true) (hl : listed.getD last true = false)
    (h : mAnyL P md ops (OverC W F) last Q fuel (listed.setIfInBounds i true) (a.put oi.dst undef) w) : mAnyL P md ops (OverC W F) last Q (fuel + 1) listed a w :=
  takeL (overC_closed W F) i hi hs hf hr hb hl (.inr ⟨hw, rfl⟩) h
theorem regionL {id : Nat} {Q : Exit → Act → World → Prop} {a : Act} {w : World} {l : List Oper} (F : Nat → Prop) (hm : P.follows .mixedOrders = true)
    (h : ∀ w', Grow w w' → mAnyL P .any l.toArray (OverC w F) (l.length - 1) (fun a w => Q .normal a w) l.length (Array.replicate l.length false) a w') : (Code.region id l.toArray true).wp P Q a w :=
  wp_region_any hm (mAnyL_any (fun _ _ h => h) _ _ _ _ (by simpa using h w.drew (bd (Below.refl _ _))))
end Go.Proofs.Ytnckjacbkhoppaa.Mix
namespace Go.Proofs.Ytnckjacbkhoppaa
open Go.RowKit
attribute [local go_sem] ext_cell ext_frozen Mix.calmUpon Mix.mUpon
theorem refslotright_any (k r : Int) : Pure Try.prog 119 #[L2 k r] (.bool (decide (LOk k r))) := by
  intro W
  by_cases h1 : 0 ≤ k
  · by_cases h2 : k ≤ 3
    · by_cases h3 : 0 ≤ r
      · have hq : decide (LOk k r) = decide (r ≤ 32) := decide_eq_decide.2 ⟨fun h => h.2.2.2, fun h => ⟨h1, by omega, h3, h⟩⟩
        rw [hq]
        go_enter Try.func119, Try.ntmps119
        go_wp2
        go_ret
        refine ⟨rfl, ?_⟩
        (repeat (first | assumption | exact Below.refl _ _ | refine ba ?_ _ | refine bd ?_ | refine bdn ?_ _ | refine bs ?_ (by first | omega | (simp; done) | (simp; omega)) _ | refine bt ?_ (by assumption)))
      · have hq : decide (LOk k r) = false := decide_eq_false fun h => h3 h.2.2.1
        rw [hq]
        go_enter Try.func119, Try.ntmps119
        go_wp2
        go_ret
        refine ⟨rfl, ?_⟩
        (repeat (first | assumption | exact Below.refl _ _ | refine ba ?_ _ | refine bd ?_ | refine bdn ?_ _ | refine bs ?_ (by first | omega | (simp; done) | (simp; omega)) _ | refine bt ?_ (by assumption)))
    · have hq : decide (LOk k r) = false := decide_eq_false fun h => h2 (by have := h.2.1; omega)
      rw [hq]
      go_enter Try.func119, Try.ntmps119
      go_wp2
      go_ret
      refine ⟨rfl, ?_⟩
      (repeat (first | assumption | exact Below.refl _ _ | refine ba ?_ _ | refine bd ?_ | refine bdn ?_ _ | refine bs ?_ (by first | omega | (simp; done) | (simp; omega)) _ | refine bt ?_ (by assumption)))
  · have hq : decide (LOk k r) = false := decide_eq_false fun h => h1 h.1
    rw [hq]
    go_enter Try.func119, Try.ntmps119
    go_wp2
    go_ret
    refine ⟨rfl, ?_⟩
    (repeat (first | assumption | exact Below.refl _ _ | refine ba ?_ _ | refine bd ?_ | refine bdn ?_ _ | refine bs ?_ (by first | omega | (simp; done) | (simp; omega)) _ | refine bt ?_ (by assumption)))

theorem refslot_any (k r a : Int) : Pure Try.prog 120 #[P3 k r a] (L2 k r) := by
  intro W
  go_enter Try.func120, Try.ntmps120
  go_wp2
  refine bodyPost_ret (v := L2 k r) (by simp [results, Try.results120, go_sem, *]) rfl ⟨rfl, ?_⟩
  (repeat (first | assumption | exact Below.refl _ _ | refine ba ?_ _ | refine bd ?_ | refine bdn ?_ _ | refine bs ?_ (by first | omega | (simp; done) | (simp; omega)) _ | refine bt ?_ (by assumption)))
theorem refcmp4_any (k r k' r' : Int) : Pure Try.prog 121 #[L2 k r, L2 k' r'] (.int .i64 (lcmp k r k' r')) := by
  intro W
  by_cases h : k = k'
  · subst h
    by_cases h1 : r < r'
    · have hr : lcmp k r k r' = -1 := by unfold lcmp cmpI; rw [if_pos rfl, if_pos h1]
      rw [hr]
      go_enter Try.func121, Try.ntmps121
      go_wp2
      go_ret
      refine ⟨rfl, ?_⟩
      (repeat (first | assumption | exact Below.refl _ _ | refine ba ?_ _ | refine bd ?_ | refine bdn ?_ _ | refine bs ?_ (by first | omega | (simp; done) | (simp; omega)) _ | refine bt ?_ (by assumption)))
    · by_cases h2 : r = r'
      · subst h2
        have hr : lcmp k r k r = 0 := by unfold lcmp cmpI; rw [if_pos rfl, if_neg (by omega), if_neg (by omega)]
        rw [hr]
        clear h1 hr
        go_enter Try.func121, Try.ntmps121
        go_wp2
        go_ret
        refine ⟨rfl, ?_⟩
        (repeat (first | assumption | exact Below.refl _ _ | refine ba ?_ _ | refine bd ?_ | refine bdn ?_ _ | refine bs ?_ (by first | omega | (simp; done) | (simp; omega)) _ | refine bt ?_ (by assumption)))
      · have hr : lcmp k r k r' = 1 := by unfold lcmp cmpI; rw [if_pos rfl, if_neg h1, if_pos (by omega)]
        rw [hr]
        have hrb : (r == r') = false := by simpa using h2
        have h1' : r' ≤ r := by omega
        clear h1 h2 hr
        go_enter Try.func121, Try.ntmps121
        go_wp2
        go_ret
        refine ⟨rfl, ?_⟩
        (repeat (first | assumption | exact Below.refl _ _ | refine ba ?_ _ | refine bd ?_ | refine bdn ?_ _ | refine bs ?_ (by first | omega | (simp; done) | (simp; omega)) _ | refine bt ?_ (by assumption)))
  · have hkb : (k == k') = false := by simpa using h
    by_cases h1 : k < k'
    · have hr : lcmp k r k' r' = -1 := by unfold lcmp cmpI; rw [if_neg h, if_pos h1]
      rw [hr]
      clear h hr
      go_enter Try.func121, Try.ntmps121
      go_wp2
      go_ret
      refine ⟨rfl, ?_⟩
      (repeat (first | assumption | exact Below.refl _ _ | refine ba ?_ _ | refine bd ?_ | refine bdn ?_ _ | refine bs ?_ (by first | omega | (simp; done) | (simp; omega)) _ | refine bt ?_ (by assumption)))
    · have hr : lcmp k r k' r' = 1 := by unfold lcmp cmpI; rw [if_neg h, if_neg h1, if_pos (by omega)]
      rw [hr]
      have h1' : k' ≤ k := by omega
      clear h h1 hr
      go_enter Try.func121, Try.ntmps121
      go_wp2
      go_ret
      refine ⟨rfl, ?_⟩
      (repeat (first | assumption | exact Below.refl _ _ | refine ba ?_ _ | refine bd ?_ | refine bdn ?_ _ | refine bs ?_ (by first | omega | (simp; done) | (simp; omega)) _ | refine bt ?_ (by assumption)))
set_option maxRecDepth 100000 in
set_option maxHeartbeats 4000000 in
theorem rright_some (b off len cap : Nat) (k r a : Nat → Int) (W : World) (hb : b < W.heap.size) (hbig : len < 1000000000) (hF : Parts W b off len k r a) :
    Calls Try.prog 90 #[.slice (some ⟨b, off, none⟩) len cap] W fun e w' => ∃ q : Bool, e = .returned (.bool q) ∧ (q = true ↔ VOk k r a len) ∧ Below W.heap.size W w' := by
  have HF := Lib.hid hF
  clear hF
  go_enter Try.func90, Try.ntmps90
  go_wp2
  go_loopw [3] (fun i wr => ∃ t : Nat, t ≤ len ∧ i = .int .i64 t ∧ Hid (VOk k r a t) ∧ Below W.heap.size W wr) (fun i _ => len - (intOf i).toNat)
  case atStart => exact ⟨0, Nat.zero_le _, rfl, Lib.hid (fun i hi => by omega), by (repeat (first | assumption | exact Below.refl _ _ | refine ba ?_ _ | refine bd ?_ | refine bdn ?_ _ | refine bs ?_ (by first | omega | (simp; done) | (simp; omega)) _ | refine bt ?_ (by assumption)))⟩
  case round =>
    obtain ⟨t, ht, rfl, HV, hb1⟩ := hrel
    obtain ⟨w1, rfl⟩ : ∃ w1, w1 = wr := ⟨_, rfl⟩
    have hs1 : W.heap.size + 0 ≤ w1.heap.size := (by have h := hb1.size; first | omega | (simp at h; omega))
    obtain ⟨hc1, hf1, hl1⟩ := bcell hb1
    clear hl1
    by_cases hlt : t < len
    · have hts : (t : Int) < (len : Int) := by omega
      obtain ⟨c0, c1, c2⟩ := HF.out t hlt
      have hbl : b < w1.heap.size := Nat.lt_of_lt_of_le hb hb1.size
      have HO := Lib.hid (refslot_any (k t) (r t) (a t))
      have HR := Lib.hid (refslotright_any (k t) (r t))
      by_cases hl : LOk (k t) (r t)
      · rw [decide_eq_true hl] at HR
        have HL := Lib.hid hl
        clear hl
        by_cases h1 : 1 ≤ a t
        · by_cases h2 : a t ≤ 9007199254740992
          · have HP := Lib.hid (show POk k r a t from ⟨HL.out, h1, h2⟩)
            cases t with
            | zero =>
              have HN := Lib.hid (vok_succ HV.out HP.out (fun h => absurd h (Nat.lt_irrefl 0)))
              simp only [Nat.zero_mul, Nat.add_zero] at c0 c1 c2
              have h1f : (a 0 < 1) = False := eq_false (by omega)
              have h2f : (9007199254740992 < a 0) = False := eq_false (by omega)
              go_wp2_with fail
              refine wp_region_pure (by kernel_rfl) (by kernel_rfl) ?_
              repeat (first | go_big_quiet_step (((first | (go_at_call 120; with_reducible exact HO.out.quiet) | (go_at_call 119; with_reducible exact HR.out.quiet)))) | (quiet_step (((first | (go_at_call 120; with_reducible exact HO.out.quiet) | (go_at_call 119; with_reducible exact HR.out.quiet))))))
              refine wpQuiet_nil ?_
              rintro w4 ⟨x4, hx4⟩
              have hb4 := ext_below _ x4
              rw [← hx4] at hb4
              clear hx4 x4
              have hs4 : w1.heap.size + 0 ≤ w4.heap.size := (by have h := hb4.size; first | omega | (simp at h; omega))
              have hb1_4 := bel hb1 hb4 (by (repeat (first | assumption | exact Below.refl _ _ | refine ba ?_ _ | refine bd ?_ | refine bdn ?_ _ | refine bs ?_ (by first | omega | (simp; done) | (simp; omega)) _ | refine bt ?_ (by assumption))))
              clear hc1 hf1
              obtain ⟨hc4, hf4, hl4⟩ := bcell hb4
              clear hl4
              go_wp2
              go_roundw
              case rel => exact ⟨1, by omega, by go_num, HN, by (repeat (first | assumption | exact Below.refl _ _ | refine ba ?_ _ | refine bd ?_ | refine bdn ?_ _ | refine bs ?_ (by first | omega | (simp; done) | (simp; omega)) _ | refine bt ?_ (by assumption)))⟩
              case measure => simp [intOf]; omega
            | succ u =>
              obtain ⟨d0, d1, d2⟩ := HF.out u (by omega)
              have HO2 := Lib.hid (refslot_any (k u) (r u) (a u))
              have HC := refcmp4_any (k u) (r u) (k (u + 1)) (r (u + 1))
              generalize hq : lcmp (k u) (r u) (k (u + 1)) (r (u + 1)) = q at HC
              have HC := Lib.hid HC
              have HQ := Lib.hid hq
              clear hq
              have us : (u : Int) < (len : Int) := by omega
              have uN : u < len := by omega
              have h1f : (a (u + 1) < 1) = False := eq_false (by omega)
              have h2f : (9007199254740992 < a (u + 1)) = False := eq_false (by omega)
              by_cases h0 : 0 ≤ q
              · have HN := Lib.hid (show ¬ VOk k r a len from fun h => by
                  have h5 := (h (u + 1) hlt).2 (by omega)
                  have h6 : lcmp (k u) (r u) (k (u + 1)) (r (u + 1)) < 0 := h5
                  rw [HQ.out] at h6
                  omega)
                go_wp2_with fail
                refine wp_region_pure (by kernel_rfl) (by kernel_rfl) ?_
                repeat (first | go_big_quiet_step (((first | (go_at_call 120; first | with_reducible exact HO.out.quiet | with_reducible exact HO2.out.quiet) | (go_at_call 119; with_reducible exact HR.out.quiet) | (go_at_call 121; with_reducible exact HC.out.quiet)))) | (quiet_step (((first | (go_at_call 120; first | with_reducible exact HO.out.quiet | with_reducible exact HO2.out.quiet) | (go_at_call 119; with_reducible exact HR.out.quiet) | (go_at_call 121; with_reducible exact HC.out.quiet))))))
                refine wpQuiet_nil ?_
                rintro w4 ⟨x4, hx4⟩
                have hb4 := ext_below _ x4
                rw [← hx4] at hb4
                clear hx4 x4
                have hs4 : w1.heap.size + 0 ≤ w4.heap.size := (by have h := hb4.size; first | omega | (simp at h; omega))
                have hb1_4 := bel hb1 hb4 (by (repeat (first | assumption | exact Below.refl _ _ | refine ba ?_ _ | refine bd ?_ | refine bdn ?_ _ | refine bs ?_ (by first | omega | (simp; done) | (simp; omega)) _ | refine bt ?_ (by assumption))))
                clear hc1 hf1
                obtain ⟨hc4, hf4, hl4⟩ := bcell hb4
                clear hl4
                go_wp2
                go_ret
                refine ⟨_, rfl, ⟨fun h => by simp at h, fun h => absurd h HN.out⟩, ?_⟩
                (repeat (first | assumption | exact Below.refl _ _ | refine ba ?_ _ | refine bd ?_ | refine bdn ?_ _ | refine bs ?_ (by first | omega | (simp; done) | (simp; omega)) _ | refine bt ?_ (by assumption)))
              · have HN := Lib.hid (vok_succ HV.out HP.out (fun _ => by show lcmp (k u) (r u) (k (u + 1)) (r (u + 1)) < 0; rw [HQ.out]; omega))
                have h0' : q < 0 := by omega
                clear h0
                go_wp2_with fail
                refine wp_region_pure (by kernel_rfl) (by kernel_rfl) ?_
                repeat (first | go_big_quiet_step (((first | (go_at_call 120; first | with_reducible exact HO.out.quiet | with_reducible exact HO2.out.quiet) | (go_at_call 119; with_reducible exact HR.out.quiet) | (go_at_call 121; with_reducible exact HC.out.quiet)))) | (quiet_step (((first | (go_at_call 120; first | with_reducible exact HO.out.quiet | with_reducible exact HO2.out.quiet) | (go_at_call 119; with_reducible exact HR.out.quiet) | (go_at_call 121; with_reducible exact HC.out.quiet))))))
                refine wpQuiet_nil ?_
                rintro w4 ⟨x4, hx4⟩
                have hb4 := ext_below _ x4
                rw [← hx4] at hb4
                clear hx4 x4
                have hs4 : w1.heap.size + 0 ≤ w4.heap.size := (by have h := hb4.size; first | omega | (simp at h; omega))
                have hb1_4 := bel hb1 hb4 (by (repeat (first | assumption | exact Below.refl _ _ | refine ba ?_ _ | refine bd ?_ | refine bdn ?_ _ | refine bs ?_ (by first | omega | (simp; done) | (simp; omega)) _ | refine bt ?_ (by assumption))))
                clear hc1 hf1
                obtain ⟨hc4, hf4, hl4⟩ := bcell hb4
                clear hl4
                go_wp2
                go_roundw
                case rel => exact ⟨u + 1 + 1, by omega, by go_num, HN, by (repeat (first | assumption | exact Below.refl _ _ | refine ba ?_ _ | refine bd ?_ | refine bdn ?_ _ | refine bs ?_ (by first | omega | (simp; done) | (simp; omega)) _ | refine bt ?_ (by assumption)))⟩
                case measure => simp [intOf]; omega
          · have HN := Lib.hid (show ¬ VOk k r a len from fun h => h2 (h t hlt).1.2.2)
            have h2' : 9007199254740992 < a t := by omega
            clear h2
            go_wp2_with fail
            refine wp_region_pure (by kernel_rfl) (by kernel_rfl) ?_
            repeat (first | go_big_quiet_step (((first | (go_at_call 120; with_reducible exact HO.out.quiet) | (go_at_call 119; with_reducible exact HR.out.quiet)))) | (quiet_step (((first | (go_at_call 120; with_reducible exact HO.out.quiet) | (go_at_call 119; with_reducible exact HR.out.quiet))))))
            refine wpQuiet_nil ?_
            rintro w4 ⟨x4, hx4⟩
            have hb4 := ext_below _ x4
            rw [← hx4] at hb4
            clear hx4 x4
            have hs4 : w1.heap.size + 0 ≤ w4.heap.size := (by have h := hb4.size; first | omega | (simp at h; omega))
            have hb1_4 := bel hb1 hb4 (by (repeat (first | assumption | exact Below.refl _ _ | refine ba ?_ _ | refine bd ?_ | refine bdn ?_ _ | refine bs ?_ (by first | omega | (simp; done) | (simp; omega)) _ | refine bt ?_ (by assumption))))
            clear hc1 hf1
            obtain ⟨hc4, hf4, hl4⟩ := bcell hb4
            clear hl4
            go_wp2
            go_ret
            refine ⟨_, rfl, ⟨fun h => by simp at h, fun h => absurd h HN.out⟩, ?_⟩
            (repeat (first | assumption | exact Below.refl _ _ | refine ba ?_ _ | refine bd ?_ | refine bdn ?_ _ | refine bs ?_ (by first | omega | (simp; done) | (simp; omega)) _ | refine bt ?_ (by assumption)))
        · have HN := Lib.hid (show ¬ VOk k r a len from fun h => h1 (h t hlt).1.2.1)
          have h1' : a t < 1 := by omega
          clear h1
          go_wp2_with fail
          refine wp_region_pure (by kernel_rfl) (by kernel_rfl) ?_
          repeat (first | go_big_quiet_step (((first | (go_at_call 120; with_reducible exact HO.out.quiet) | (go_at_call 119; with_reducible exact HR.out.quiet)))) | (quiet_step (((first | (go_at_call 120; with_reducible exact HO.out.quiet) | (go_at_call 119; with_reducible exact HR.out.quiet))))))
          refine wpQuiet_nil ?_
          rintro w4 ⟨x4, hx4⟩
          have hb4 := ext_below _ x4
          rw [← hx4] at hb4
          clear hx4 x4
          have hs4 : w1.heap.size + 0 ≤ w4.heap.size := (by have h := hb4.size; first | omega | (simp at h; omega))
          have hb1_4 := bel hb1 hb4 (by (repeat (first | assumption | exact Below.refl _ _ | refine ba ?_ _ | refine bd ?_ | refine bdn ?_ _ | refine bs ?_ (by first | omega | (simp; done) | (simp; omega)) _ | refine bt ?_ (by assumption))))
          clear hc1 hf1
          obtain ⟨hc4, hf4, hl4⟩ := bcell hb4
          clear hl4
          go_wp2
          go_ret
          refine ⟨_, rfl, ⟨fun h => by simp at h, fun h => absurd h HN.out⟩, ?_⟩
          (repeat (first | assumption | exact Below.refl _ _ | refine ba ?_ _ | refine bd ?_ | refine bdn ?_ _ | refine bs ?_ (by first | omega | (simp; done) | (simp; omega)) _ | refine bt ?_ (by assumption)))
      · rw [decide_eq_false hl] at HR
        have HN := Lib.hid (show ¬ VOk k r a len from fun h => hl (h t hlt).1.1)
        clear hl
        go_wp2_with fail
        refine wp_region_pure (by kernel_rfl) (by kernel_rfl) ?_
        repeat (first | go_big_quiet_step (((first | (go_at_call 120; with_reducible exact HO.out.quiet) | (go_at_call 119; with_reducible exact HR.out.quiet)))) | (quiet_step (((first | (go_at_call 120; with_reducible exact HO.out.quiet) | (go_at_call 119; with_reducible exact HR.out.quiet))))))
        refine wpQuiet_nil ?_
        rintro w4 ⟨x4, hx4⟩
        have hb4 := ext_below _ x4
        rw [← hx4] at hb4
        clear hx4 x4
        have hs4 : w1.heap.size + 0 ≤ w4.heap.size := (by have h := hb4.size; first | omega | (simp at h; omega))
        have hb1_4 := bel hb1 hb4 (by (repeat (first | assumption | exact Below.refl _ _ | refine ba ?_ _ | refine bd ?_ | refine bdn ?_ _ | refine bs ?_ (by first | omega | (simp; done) | (simp; omega)) _ | refine bt ?_ (by assumption))))
        clear hc1 hf1
        obtain ⟨hc4, hf4, hl4⟩ := bcell hb4
        clear hl4
        go_wp2
        go_ret
        refine ⟨_, rfl, ⟨fun h => by simp at h, fun h => absurd h HN.out⟩, ?_⟩
        (repeat (first | assumption | exact Below.refl _ _ | refine ba ?_ _ | refine bd ?_ | refine bdn ?_ _ | refine bs ?_ (by first | omega | (simp; done) | (simp; omega)) _ | refine bt ?_ (by assumption)))
    · have htl : len = t := by omega
      subst htl
      go_wp2
      go_ret
      exact ⟨_, rfl, ⟨fun _ => HV.out, fun _ => rfl⟩, hb1⟩
theorem rright_v (v : Value) (l : List Pt) (hbig : l.length < 1000000000) : PureOn (fun w => Vc w v l) Try.prog 90 #[v] (.bool (decide (VR l))) := by
  intro W hV
  rcases hV with ⟨⟨a, cap, rfl, _⟩, rfl⟩ | ⟨b, off, cap, rfl, h2, h3, h4, h5⟩
  · have hq : decide (VR []) = true := decide_eq_true VR.nil
    rw [hq]
    go_enter Try.func90, Try.ntmps90
    go_wp2
    go_loopw [3] (fun i wr => i = .int .i64 0 ∧ Below W.heap.size W wr) (fun _ _ => 0)
    case atStart => exact ⟨rfl, by (repeat (first | assumption | exact Below.refl _ _ | refine ba ?_ _ | refine bd ?_ | refine bdn ?_ _ | refine bs ?_ (by first | omega | (simp; done) | (simp; omega)) _ | refine bt ?_ (by assumption)))⟩
    case round =>
      obtain ⟨rfl, hb1⟩ := hrel
      go_wp2
      go_ret
      exact ⟨rfl, hb1⟩
  · refine (rright_some b off l.length cap (kk l) (rr l) (aa l) W h4 hbig h5).mono ?_
    rintro e w' ⟨q, rfl, hq, hb⟩
    refine ⟨?_, hb⟩
    rw [vok_iff] at hq
    by_cases hv : VR l
    · rw [decide_eq_true hv, hq.2 hv]
    · rw [decide_eq_false hv]
      cases q with
      | true => exact absurd (hq.1 rfl) hv
      | false => rfl
end Go.Proofs.Ytnckjacbkhoppaa
namespace Go.Proofs.Ytnckjacbkhoppaa
open Go.RowKit
namespace Srt
variable {α κ : Type} [DecidableEq κ] {key : α → κ} {lt : α → α → Bool}
theorem perm_ins (x : α) (l : List α) : (ins lt x l).Perm (x :: l) := by
  induction l with
  | nil => exact .refl _
  | cons p t ih =>
    unfold ins
    split
    · exact .refl _
    · exact (ih.cons p).trans (.swap x p t)
theorem perm_put (l : List α) (x : α) : (put key lt l x).Perm (x :: del key l (key x)) := perm_ins _ _
theorem perm_del {l : List α} (h : In key lt l) {k : κ} {x : α} (hk : fnd key l k = some x) : l.Perm (x :: del key l k) := by
  induction l with
  | nil => simp [fnd] at hk
  | cons p t ih =>
    rw [fnd_cons] at hk
    by_cases he : key p = k
    · rw [if_pos he] at hk
      injection hk with hk; subst hk
      have : del key (p :: t) k = del key t k := by unfold del; rw [List.filter_cons, if_neg (by simpa using he)]
      rw [this, del_same (fnd_none.2 fun q hq e => (h.head q hq).2 (by rw [he, e]))]
    · rw [if_neg he] at hk
      have : del key (p :: t) k = p :: del key t k := by unfold del; rw [List.filter_cons, if_pos (by simpa using he)]
      rw [this]
      exact ((ih h.tail hk).cons p).trans (.swap _ _ _)
/-- One more at the end, behind what is put in. -/
theorem put_after {l : List α} {x p : α} (hl : lt x p = true) (hk : key p ≠ key x) : put key lt (l ++ [p]) x = put key lt l x ++ [p] := by
  unfold put
  rw [del_snoc, if_neg hk]
  by_cases h : ∃ q ∈ del key l (key x), lt x q = true
  · exact ins_app h
  · have h' : ∀ q ∈ del key l (key x), lt x q = false := fun q hq => by
      cases hq' : lt x q with
      | false => rfl
      | true => exact absurd ⟨q, hq, hq'⟩ h
    rw [ins_here h' hl, ins_end h']
theorem put_end {l : List α} {x : α} (h : ∀ q ∈ l, lt x q = false ∧ key q ≠ key x) : put key lt l x = l ++ [x] := by
  unfold put
  rw [del_same (fnd_none.2 fun q hq => (h q hq).2)]
  exact ins_end fun q hq => (h q hq).1
theorem put_over {l : List α} {x p : α} (h : ∀ q ∈ l, lt x q = false ∧ key q ≠ key x) (hk : key p = key x) : put key lt (l ++ [p]) x = l ++ [x] := by
  unfold put
  rw [del_snoc, if_pos hk, del_same (fnd_none.2 fun q hq => (h q hq).2), List.append_nil]
  exact ins_end fun q hq => (h q hq).1
end Srt
/-- 'append' within a region that draws its order, by what its run is known to be. -/
theorem Mix.opApp {P : Program} {ops : Array Oper} {i : Nat} {o : Oper} {K : Act → World → Prop} {a : Act} {w : World} (hi : ops[i]? = some o) (hwt : Region.wanted o (yielded ops a.tmps) = true) (s x : Operand) (t : TypeId)
    (ho : o.op = .call { callee := .builtin .append, args := #[s, x], argTypes := #[t, t] }) {vs vx : Value} (hs : a.eval s = vs) (hx : a.eval x = vx) {v' : Value} {w' : World} (hr : (Builtin.append_ #[t, t] o.type #[vs, vx]).run P w = .ok v' w')
    (h : K (a.put o.dst v') w') : Mix.mOp P ops i K a w := by
  refine Mix.op hi hwt ?_
  unfold execOp
  simp only [ho, resolve, invoke, builtin, Sem.run_bind, Sem.run_pure, Result.andThen_ok, List.map_toArray, List.map_cons, List.map_nil, hs, hx, hr, Mix.mUpon]
  exact h
end Go.Proofs.Ytnckjacbkhoppaa
namespace Go.Proofs.Ytnckjacbkhoppaa
open Go.RowKit
attribute [local go_sem] ext_cell ext_frozen Mix.calmUpon Mix.mUpon
set_option maxRecDepth 100000 in
set_option maxHeartbeats 4000000 in
theorem refadd_both (a b : Nat → Int) (q : Bool) (ha : SOk a) (hb : SOk b) (hq : decide (SOk fun k => a k + b k) = q) : Pure Try.prog 94 #[S4 a, S4 b] (.tuple #[if q then S4 (fun k => a k + b k) else S4 Z4, .bool q]) := by
  intro W
  have HA := refright6 a
  rw [decide_eq_true ha] at HA
  have HA := Lib.hid HA
  have HB := refright6 b
  rw [decide_eq_true hb] at HB
  have HB := Lib.hid HB
  have HS := refright6 (fun k => a k + b k)
  rw [hq] at HS
  have HS := Lib.hid HS
  have HSA := Lib.hid ha; have HSB := Lib.hid hb
  clear ha hb hq
  go_enter Try.func94, Try.ntmps94
  go_wp2_with fail
  (with_reducible refine (HA.out _).mono ?_)
  rintro e w1 ⟨rfl, hb1⟩
  have hs1 : W.heap.size + 4 ≤ w1.heap.size := (by have h := hb1.size; first | omega | (simp at h; omega))
  have hz1_0 : W.heap.size < w1.heap.size := (by omega)
  have hz1_1 : W.heap.size + 1 < w1.heap.size := (by omega)
  have hz1_2 : W.heap.size + 2 < w1.heap.size := (by omega)
  have hx1_2 : W.heap.size + 1 + 1 < w1.heap.size := (by omega)
  have hz1_3 : W.heap.size + 3 < w1.heap.size := (by omega)
  have hx1_3 : W.heap.size + 1 + 1 + 1 < w1.heap.size := (by omega)
  obtain ⟨hc1, hf1, hl1⟩ := bcell hb1
  clear hl1
  go_wp2_with fail
  refine (HB.out _).mono ?_
  rintro e w2 ⟨rfl, hb2⟩
  have HD := Lib.hid (A4.four (a := a) (b := b) (c := Z4) (d := Z4) (bt hb1 hb2))
  clear hb1 hb2
  go_wp2
  go_loopw [7] (fun i wr => ∃ t : Nat, t ≤ 4 ∧ i = .int .i64 t ∧ Hid (A4 W wr 4 (X4 a b Z4 (upto Z4 (fun k => a k + b k) t)))) (fun i _ => 4 - (intOf i).toNat)
  case atStart => exact ⟨0, Nat.zero_le _, rfl, HD⟩
  case round =>
    clear HD
    obtain ⟨t, ht, rfl, HD⟩ := hrel
    have hs3 := HD.out.size
    have z0 : W.heap.size < wr.heap.size := by omega
    have z1 : W.heap.size + 1 < wr.heap.size := by omega
    have z2 : W.heap.size + 1 + 1 < wr.heap.size := by omega
    have z3 : W.heap.size + 1 + 1 + 1 < wr.heap.size := by omega
    by_cases hlt : t < 4
    · have hts : (t : Int) < 4 := by omega
      have c0 : wr.cell? ⟨W.heap.size, t, none⟩ = some (.int .i64 (a t)) := (HD.out.c 0 (by omega) t hlt).trans (by simp [X4])
      have c1 : wr.cell? ⟨W.heap.size + 1, t, none⟩ = some (.int .i64 (b t)) := (HD.out.c 1 (by omega) t hlt).trans (by simp [X4])
      have e0 : wr.cell? ⟨W.heap.size + 1 + 1 + 1, t, none⟩ = some (.int .i64 0) := (HD.out.c 3 (by omega) t hlt).trans (by simp [X4, upto])
      have f0 : wr.frozen? ⟨W.heap.size + 1 + 1 + 1, t, none⟩ = false := HD.out.f 3 (by omega) t
      have ab := sok_at HSA.out t hlt
      have bb := sok_at HSB.out t hlt
      have wq : IntKind.i64.wrap (a t + b t) = a t + b t := by obtain ⟨_, _⟩ := ab; obtain ⟨_, _⟩ := bb; exact IntWalk.i64_in _ (by omega)
      clear ab bb
      go_wp2
      go_region
      go_wp2
      go_roundw
      case rel =>
        refine ⟨t + 1, by omega, by go_num, Lib.hid (A4.congr ?_ fun i hi j _ => X4.next (y := fun k => a k + b k) i j hi)⟩
        first
          | exact (HD.out.set 3 t (by omega) hlt _).drew
          | exact (HD.out.set 3 t (by omega) hlt _)
          | exact (HD.out.drew.set 3 t (by omega) hlt _)
      case measure => simp [intOf]; omega
    · obtain rfl : t = 4 := by omega
      have g0 := HD.out.c 3 (by omega); have g2 := HD.out.c 2 (by omega); have h2 := HD.out.f 2 (by omega)
      have c0 : wr.cell? ⟨W.heap.size + 1 + 1 + 1, 0, none⟩ = some (.int .i64 (a 0 + b 0)) := g0 0 (by omega)
      have c1 : wr.cell? ⟨W.heap.size + 1 + 1 + 1, 1, none⟩ = some (.int .i64 (a 1 + b 1)) := g0 1 (by omega)
      have c2 : wr.cell? ⟨W.heap.size + 1 + 1 + 1, 2, none⟩ = some (.int .i64 (a 2 + b 2)) := g0 2 (by omega)
      have c3 : wr.cell? ⟨W.heap.size + 1 + 1 + 1, 3, none⟩ = some (.int .i64 (a 3 + b 3)) := g0 3 (by omega)
      clear g0 g2 h2
      go_wp2_with fail
      refine (HS.out _).mono ?_
      rintro e w4 ⟨rfl, hb4⟩
      have HE := Lib.hid (HD.out.grow hb4)
      have hz := hb4.size
      clear c0 c1 c2 c3 HD hb4
      have g0 := HE.out.c 3 (by omega); have g2 := HE.out.c 2 (by omega); have h2 := HE.out.f 2 (by omega)
      have c0 : w4.cell? ⟨W.heap.size + 1 + 1 + 1, 0, none⟩ = some (.int .i64 (a 0 + b 0)) := g0 0 (by omega)
      have c1 : w4.cell? ⟨W.heap.size + 1 + 1 + 1, 1, none⟩ = some (.int .i64 (a 1 + b 1)) := g0 1 (by omega)
      have c2 : w4.cell? ⟨W.heap.size + 1 + 1 + 1, 2, none⟩ = some (.int .i64 (a 2 + b 2)) := g0 2 (by omega)
      have c3 : w4.cell? ⟨W.heap.size + 1 + 1 + 1, 3, none⟩ = some (.int .i64 (a 3 + b 3)) := g0 3 (by omega)
      have r0 : w4.cell? ⟨W.heap.size + 1 + 1, 0, none⟩ = some (.int .i64 0) := g2 0 (by omega)
      have r1 : w4.cell? ⟨W.heap.size + 1 + 1, 1, none⟩ = some (.int .i64 0) := g2 1 (by omega)
      have r2 : w4.cell? ⟨W.heap.size + 1 + 1, 2, none⟩ = some (.int .i64 0) := g2 2 (by omega)
      have r3 : w4.cell? ⟨W.heap.size + 1 + 1, 3, none⟩ = some (.int .i64 0) := g2 3 (by omega)
      have f0 : w4.frozen? ⟨W.heap.size + 1 + 1, 0, none⟩ = false := h2 0
      have f1 : w4.frozen? ⟨W.heap.size + 1 + 1, 1, none⟩ = false := h2 1
      have f2 : w4.frozen? ⟨W.heap.size + 1 + 1, 2, none⟩ = false := h2 2
      have f3 : w4.frozen? ⟨W.heap.size + 1 + 1, 3, none⟩ = false := h2 3
      clear g0 g2 h2
      have hbl := Lib.hid HE.out.bel
      cases q with
      | true =>
        go_wp2
        refine bodyPost_ret (v := .tuple #[S4 (fun k => a k + b k), .bool true]) (by simp [results, Try.results94, go_sem, *]) rfl ⟨rfl, ?_⟩
        exact bs (bs (bs (bs hbl.out (by simp; omega) _) (by simp; omega) _) (by simp; omega) _) (by simp; omega) _
      | false =>
        go_wp2
        refine bodyPost_ret (v := .tuple #[S4 Z4, .bool false]) (by simp [results, Try.results94, go_sem, *]) rfl ⟨rfl, ?_⟩
        exact bs (bs (bs (bs hbl.out (by simp; omega) _) (by simp; omega) _) (by simp; omega) _) (by simp; omega) _
end Go.Proofs.Ytnckjacbkhoppaa

/- vec.Copy and vec.Move at any slice of parts. Condition: the numbers are int64. -/
import Derived.Test.YtnckjacbkhoppaaVecOe
import Derived.Laws.CopyOwn
namespace Go.Proofs.Ytnckjacbkhoppaa
open Go.RowKit Go.Maps
attribute [local go_sem] ext_cell ext_frozen Mix.calmUpon Mix.mUpon
/-- All of one role moved to another one. -/
def ren (f t : Int) (p : Pt) : Pt := if p.2.1 = f then (p.1, t, p.2.2) else p
def mvL (f t : Int) (l : List Pt) (n : Nat) : List Pt := (l.take n).map (ren f t) ++ l.drop n
theorem mvL_len (f t : Int) (l : List Pt) (n : Nat) : (mvL f t l n).length = l.length := by unfold mvL; simp; omega
theorem mvL_at (f t : Int) {l : List Pt} {n : Nat} (h : n < l.length) : (mvL f t l n)[n]'(by rw [mvL_len]; exact h) = l[n] := by
  unfold mvL
  rw [List.getElem_append_right (by simp; omega)]
  simp [Nat.min_eq_left (Nat.le_of_lt h)]
theorem mvL_succ (f t : Int) {l : List Pt} {n : Nat} (h : n < l.length) : mvL f t l (n + 1) = (mvL f t l n).set n (ren f t l[n]) := by
  unfold mvL
  have e : l.take (n + 1) = l.take n ++ [l[n]] := by rw [List.take_add_one, List.getElem?_eq_getElem h]; rfl
  have e2 : ((l.take n).map (ren f t)).length = n := by rw [List.length_map, List.length_take]; omega
  rw [e, List.map_append, List.set_append_right _ _ (by rw [e2]; exact Nat.le_refl _), e2, Nat.sub_self, List.drop_eq_getElem_cons h, List.append_assoc]
  rfl
theorem mvL_all (f t : Int) (l : List Pt) : mvL f t l l.length = l.map (ren f t) := by unfold mvL; simp
theorem pcells_set : ∀ (L : List Pt) (n : Nat) (k r a t : Int), L[n]? = some (k, r, a) → pcells (L.set n (k, t, a)) = (pcells L).set (n * 3 + 1) (.int .i64 t)
  | [], n, k, r, a, t, h => by simp at h
  | p :: L, 0, k, r, a, t, h => by
    simp at h; subst h; rfl
  | p :: L, n + 1, k, r, a, t, h => by
    rw [List.set_cons_succ, pcells, pcells_set L n k r a t (by simpa using h), show (n + 1) * 3 + 1 = n * 3 + 1 + 3 by omega, pcells]
    rfl
theorem mvL_hit {f t : Int} {l : List Pt} {n : Nat} (h : n < l.length) (hr : rr l n = f) : pcells (mvL f t l (n + 1)) = (pcells (mvL f t l n)).set (n * 3 + 1) (.int .i64 t) := by
  have e : ren f t l[n] = (kk l n, t, aa l n) := by
    rw [kra h]; unfold ren; rw [if_pos hr]
  rw [mvL_succ f t h, e]
  refine pcells_set _ n (kk l n) (rr l n) (aa l n) t ?_
  rw [List.getElem?_eq_getElem (by rw [mvL_len]; exact h), mvL_at f t h, kra h]
theorem mvL_miss {f t : Int} {l : List Pt} {n : Nat} (h : n < l.length) (hr : rr l n ≠ f) : mvL f t l (n + 1) = mvL f t l n := by
  have e : ren f t l[n] = l[n] := by
    rw [kra h]; unfold ren; rw [if_neg hr]
  rw [mvL_succ f t h, e, ← mvL_at f t h]
  exact List.set_getElem_self _
theorem mvL_cells (f t : Int) {l : List Pt} {n : Nat} (h : n < l.length) : (pcells (mvL f t l n))[n * 3]? = some (.int .i64 (kk l n)) ∧ (pcells (mvL f t l n))[n * 3 + 1]? = some (.int .i64 (rr l n)) ∧ (pcells (mvL f t l n))[n * 3 + 2]? = some (.int .i64 (aa l n)) := by
  have hL : n < (mvL f t l n).length := by rw [mvL_len]; exact h
  have := pcells_get (mvL f t l n) n hL
  unfold kk rr aa at this ⊢
  rw [getD_lt hL, mvL_at f t h] at this
  rw [getD_lt h]; exact this
theorem rowP_base {w : World} {base base' : Nat} {e : TypeId} {size : Nat} {v : Value} {n : Nat} {xs : List Value} (h : w.ownsRow base e size v n xs) (hb : base' ≤ base) : w.ownsRow base' e size v n xs := by
  obtain ⟨h1, h2⟩ := h
  refine ⟨h1, ?_⟩
  rcases h2 with h2 | ⟨g, cap, cur, a, b, c⟩
  · exact .inl h2
  · exact .inr ⟨g, cap, cur, a, Nat.le_trans hb b, c⟩
def mvO (l : List Pt) (f t : Int) : Option (List Pt) := if VR l ∧ LOk 0 f ∧ LOk 0 t then ofO (l.map (ren f t)) else none
/-- The row that is being renamed. -/
structure MVs (W wr : World) (u : Value) (f t : Int) (l : List Pt) (n : Nat) : Prop where
  own : wr.ownsRow W.heap.size 86 3 u l.length (pcells (mvL f t l n))
  bel : Below W.heap.size W wr
theorem RetO.from {W w w' : World} {o : Option (List Pt)} {e : Ending} (h : RetO w o e w') (hb : Below W.heap.size W w) : RetO W o e w' := by
  obtain ⟨v, h1, h2, h3⟩ := h; exact ⟨v, h1, h2, bt hb h3⟩
set_option maxRecDepth 100000 in
set_option maxHeartbeats 8000000 in
theorem vmove_any (v : Value) (l : List Pt) (f t : Int) (hI : I64s l) (hbig : l.length < 1000000) (W : World) (hV : Vc W v l) : Calls Try.prog 25 #[v, .int .i64 f, .int .i64 t] W (RetO W (mvO l f t)) := by
  have HV := Lib.hid hV
  have HI := Lib.hid hI
  have HG := Lib.hid hbig
  have HR := vecright_v v l (by omega)
  have hS1 := slotright_any 0 f
  have hS2 := slotright_any 0 t
  by_cases h1 : VR l
  · rw [decide_eq_true h1] at HR
    have HR := Lib.hid HR
    by_cases h2 : LOk 0 f
    · rw [decide_eq_true h2] at hS1
      have HS1 := Lib.hid hS1
      by_cases h3 : LOk 0 t
      · rw [decide_eq_true h3] at hS2
        have HS2 := Lib.hid hS2
        have HX := Lib.hid (show mvO l f t = ofO (l.map (ren f t)) from if_pos ⟨h1, h2, h3⟩)
        have HJ := Lib.hid (show I64s (l.map (ren f t)) from fun p hp => by
          obtain ⟨q, hq, rfl⟩ := List.mem_map.1 hp
          obtain ⟨a, b, c⟩ := hI q hq
          unfold ren; split
          · exact ⟨a, ⟨by have := h3.2.2.1; show -9223372036854775808 ≤ t; omega, by have := h3.2.2.2; show t ≤ 9223372036854775807; omega⟩, c⟩
          · exact ⟨a, b, c⟩)
        clear hS1 hS2 h1 h2 h3 hV hI hbig
        go_enter Try.func25, Try.ntmps25
        go_wp2_with fail
        (with_reducible refine (HR.out.app _ HV.out).mono ?_)
        rintro e w1 ⟨rfl, hb1⟩
        have hs1 : W.heap.size + 0 ≤ w1.heap.size := (by have h := hb1.size; first | omega | (simp at h; omega))
        obtain ⟨hc1, hf1, hl1⟩ := bcell hb1
        clear hl1
        go_wp2_with fail
        (with_reducible refine (HS1.out _).mono ?_)
        rintro e w2 ⟨rfl, hb2⟩
        have hs2 : w1.heap.size + 0 ≤ w2.heap.size := (by have h := hb2.size; first | omega | (simp at h; omega))
        have hb1_2 := bel hb1 hb2 (by (repeat (first | assumption | exact Below.refl _ _ | refine ba ?_ _ | refine bd ?_ | refine bdn ?_ _ | refine bs ?_ (by first | omega | (simp; done) | (simp; omega)) _ | refine bt ?_ (by assumption))))
        clear hc1 hf1
        obtain ⟨hc2, hf2, hl2⟩ := bcell hb2
        clear hl2
        go_wp2_with fail
        (with_reducible refine (HS2.out _).mono ?_)
        rintro e w3 ⟨rfl, hb3⟩
        have hs3 : w2.heap.size + 0 ≤ w3.heap.size := (by have h := hb3.size; first | omega | (simp at h; omega))
        have hb1_3 := bel hb1_2 hb3 (by (repeat (first | assumption | exact Below.refl _ _ | refine ba ?_ _ | refine bd ?_ | refine bdn ?_ _ | refine bs ?_ (by first | omega | (simp; done) | (simp; omega)) _ | refine bt ?_ (by assumption))))
        have hb2_3 := bel hb2 hb3 (by (repeat (first | assumption | exact Below.refl _ _ | refine ba ?_ _ | refine bd ?_ | refine bdn ?_ _ | refine bs ?_ (by first | omega | (simp; done) | (simp; omega)) _ | refine bt ?_ (by assumption))))
        clear hc2 hf2
        obtain ⟨hc3, hf3, hl3⟩ := bcell hb3
        clear hl3
        go_wp2_with fail
        refine (vcopy_any v l HG.out _ (HV.out.on (by (repeat (first | assumption | exact Below.refl _ _ | refine ba ?_ _ | refine bd ?_ | refine bdn ?_ _ | refine bs ?_ (by first | omega | (simp; done) | (simp; omega)) _ | refine bt ?_ (by assumption)))))).mono ?_
        rintro e w4 ⟨u, rfl, hown, hb4⟩
        have HO := Lib.hid (rowP_base hown (base' := W.heap.size) (by have : Below W.heap.size W w3 := (by (repeat (first | assumption | exact Below.refl _ _ | refine ba ?_ _ | refine bd ?_ | refine bdn ?_ _ | refine bs ?_ (by first | omega | (simp; done) | (simp; omega)) _ | refine bt ?_ (by assumption)))); exact this.size))
        have hs4 : w3.heap.size + 0 ≤ w4.heap.size := (by have h := hb4.size; first | omega | (simp at h; omega))
        have hb1_4 := bel hb1_3 hb4 (by (repeat (first | assumption | exact Below.refl _ _ | refine ba ?_ _ | refine bd ?_ | refine bdn ?_ _ | refine bs ?_ (by first | omega | (simp; done) | (simp; omega)) _ | refine bt ?_ (by assumption))))
        have hb2_4 := bel hb2_3 hb4 (by (repeat (first | assumption | exact Below.refl _ _ | refine ba ?_ _ | refine bd ?_ | refine bdn ?_ _ | refine bs ?_ (by first | omega | (simp; done) | (simp; omega)) _ | refine bt ?_ (by assumption))))
        have hb3_4 := bel hb3 hb4 (by (repeat (first | assumption | exact Below.refl _ _ | refine ba ?_ _ | refine bd ?_ | refine bdn ?_ _ | refine bs ?_ (by first | omega | (simp; done) | (simp; omega)) _ | refine bt ?_ (by assumption))))
        clear hc3 hf3
        obtain ⟨hc4, hf4, hl4⟩ := bcell hb4
        clear hl4
        have HB := Lib.hid (show Below W.heap.size W w4 by (repeat (first | assumption | exact Below.refl _ _ | refine ba ?_ _ | refine bd ?_ | refine bdn ?_ _ | refine bs ?_ (by first | omega | (simp; done) | (simp; omega)) _ | refine bt ?_ (by assumption))))
        obtain ⟨n, hn⟩ : ∃ n, n = l.length := ⟨_, rfl⟩
        have HN := Lib.hid hn
        obtain ⟨a, c, rfl⟩ : ∃ a c, u = .slice a n c := by
          rcases hown.2 with ⟨e1, e2⟩ | ⟨g, cap, cur, e1, _⟩
          · exact ⟨none, 0, by rw [e1, hn, e2]⟩
          · exact ⟨_, _, by rw [e1, hn]⟩
        have hn9 : n < 1000000 := by have := HG.out; omega
        clear hown hn HV
        go_wp2
        go_loopw [30] (fun i wr => ∃ m : Nat, m ≤ n ∧ i = .int .i64 m ∧ Hid (MVs W wr (.slice a n c) f t l m)) (fun i _ => n - (intOf i).toNat)
        case atStart => exact ⟨0, Nat.zero_le _, rfl, Lib.hid ⟨HO.out, HB.out⟩⟩
        case round =>
          clear HO HB
          obtain ⟨m, hm, rfl, HS⟩ := hrel
          obtain ⟨w5, rfl⟩ : ∃ w5, w5 = wr := ⟨_, rfl⟩
          have hb5 := HS.out.bel
          have hs5 : W.heap.size + 0 ≤ w5.heap.size := (by have h := hb5.size; first | omega | (simp at h; omega))
          obtain ⟨hc5, hf5, hl5⟩ := bcell hb5
          clear hl5
          by_cases hlt : m < n
          · have hms : (m : Int) < (n : Int) := by omega
            have hml : m < l.length := by rw [← HN.out]; exact hlt
            obtain ⟨g, rfl⟩ : ∃ g, a = some ⟨g, 0, none⟩ := by
              rcases HS.out.own.2 with ⟨_, e2⟩ | ⟨g, cap, cur, e1, _⟩
              · have := HN.out; omega
              · injection e1 with e1 _ _; exact ⟨g, e1⟩
            have hgl := HS.out.own.lt g rfl
            have hgW := hgl.1; have hgw := hgl.2
            obtain ⟨d0, d1, d2⟩ := mvL_cells f t hml
            have hown := HS.out.own
            rw [← HN.out] at hown
            have c0 := (World.ownsRow.cellAt hown (m * 3) (by omega)).trans d0
            have c1 := (World.ownsRow.cellAt hown (m * 3 + 1) (by omega)).trans d1
            have c2 := (World.ownsRow.cellAt hown (m * 3 + 2) (by omega)).trans d2
            have hfz := fun j => World.ownsRow.frozenAt hown j
            have HOW := Lib.hid hown
            clear d0 d1 d2 hown hgl
            by_cases hr : rr l m = f
            · have HX2 := Lib.hid (mvL_hit (t := t) hml hr)
              clear hml
              generalize kk l m = k at *; generalize rr l m = r at *; generalize aa l m = x at *
              go_wp2
              go_roundw
              case rel =>
                have hst := World.ownsRow.stored HOW.out (m * 3 + 1) (.int .i64 t)
                refine ⟨m + 1, by omega, by go_num, Lib.hid ⟨?_, ?_⟩⟩
                · rw [HX2.out, ← HN.out]; exact rowP_grow hst.1 (ba (Below.refl _ _) _)
                · exact ba (Below.grown hb5 hst.2 hb5.size (fun j hj => by cases hj; exact hgW)) _
              case measure => simp [intOf]; omega
            · have HX2 := Lib.hid (mvL_miss (t := t) hml hr)
              have hrb : (rr l m == f) = false := by simpa using hr
              clear hml hr
              generalize kk l m = k at *; generalize rr l m = r at *; generalize aa l m = x at *
              go_wp2
              go_roundw
              case rel => exact ⟨m + 1, by omega, by go_num, Lib.hid ⟨by rw [HX2.out]; exact rowP_grow HS.out.own (ba (Below.refl _ _) _), by (repeat (first | assumption | exact Below.refl _ _ | refine ba ?_ _ | refine bd ?_ | refine bdn ?_ _ | refine bs ?_ (by first | omega | (simp; done) | (simp; omega)) _ | refine bt ?_ (by assumption)))⟩⟩
              case measure => simp [intOf]; omega
          · obtain rfl : n = m := by omega
            have HOW := HS.out.own
            rw [HN.out, mvL_all] at HOW
            have HVc := Lib.hid (OwnP.vc (B := W.heap.size) (l := l.map (ren f t)) (by rw [OwnP, List.length_map]; exact HOW))
            rw [← HN.out] at HVc
            have HOF := Lib.hid fun w (h : Below w5.heap.size w5 w) => vof_any _ (l.map (ren f t)) HJ.out (by rw [List.length_map]; exact HG.out) w (HVc.out.on h)
            rw [← HX.out] at HOF
            generalize mvO l f t = o at *
            clear HOW
            go_wp2_with fail
            refine (HOF.out _ (by (repeat (first | assumption | exact Below.refl _ _ | refine ba ?_ _ | refine bd ?_ | refine bdn ?_ _ | refine bs ?_ (by first | omega | (simp; done) | (simp; omega)) _ | refine bt ?_ (by assumption))))).mono ?_
            rintro e w6 ⟨v6, rfl, hv6, hb6⟩
            have HV6 := Lib.hid hv6
            clear hv6
            go_wp2
            go_ret2
            exact ⟨_, rfl, HV6.out, bt hb5 (by (repeat (first | assumption | exact Below.refl _ _ | refine ba ?_ _ | refine bd ?_ | refine bdn ?_ _ | refine bs ?_ (by first | omega | (simp; done) | (simp; omega)) _ | refine bt ?_ (by assumption))))⟩
      · rw [decide_eq_false h3] at hS2
        have HS2 := Lib.hid hS2
        have HX := Lib.hid (show mvO l f t = none from if_neg fun h => h3 h.2.2)
        clear hS1 hS2 h1 h2 h3 hV hI hbig
        go_enter Try.func25, Try.ntmps25
        go_wp2_with fail
        (with_reducible refine (HR.out.app _ HV.out).mono ?_)
        rintro e w1 ⟨rfl, hb1⟩
        have hs1 : W.heap.size + 0 ≤ w1.heap.size := (by have h := hb1.size; first | omega | (simp at h; omega))
        obtain ⟨hc1, hf1, hl1⟩ := bcell hb1
        clear hl1
        go_wp2_with fail
        (with_reducible refine (HS1.out _).mono ?_)
        rintro e w2 ⟨rfl, hb2⟩
        have hs2 : w1.heap.size + 0 ≤ w2.heap.size := (by have h := hb2.size; first | omega | (simp at h; omega))
        have hb1_2 := bel hb1 hb2 (by (repeat (first | assumption | exact Below.refl _ _ | refine ba ?_ _ | refine bd ?_ | refine bdn ?_ _ | refine bs ?_ (by first | omega | (simp; done) | (simp; omega)) _ | refine bt ?_ (by assumption))))
        clear hc1 hf1
        obtain ⟨hc2, hf2, hl2⟩ := bcell hb2
        clear hl2
        go_wp2_with fail
        (with_reducible refine (HS2.out _).mono ?_)
        rintro e w3 ⟨rfl, hb3⟩
        have hs3 : w2.heap.size + 0 ≤ w3.heap.size := (by have h := hb3.size; first | omega | (simp at h; omega))
        have hb1_3 := bel hb1_2 hb3 (by (repeat (first | assumption | exact Below.refl _ _ | refine ba ?_ _ | refine bd ?_ | refine bdn ?_ _ | refine bs ?_ (by first | omega | (simp; done) | (simp; omega)) _ | refine bt ?_ (by assumption))))
        have hb2_3 := bel hb2 hb3 (by (repeat (first | assumption | exact Below.refl _ _ | refine ba ?_ _ | refine bd ?_ | refine bdn ?_ _ | refine bs ?_ (by first | omega | (simp; done) | (simp; omega)) _ | refine bt ?_ (by assumption))))
        clear hc2 hf2
        obtain ⟨hc3, hf3, hl3⟩ := bcell hb3
        clear hl3
        go_wp2
        go_ret2
        exact RetO.none HX.out (by (repeat (first | assumption | exact Below.refl _ _ | refine ba ?_ _ | refine bd ?_ | refine bdn ?_ _ | refine bs ?_ (by first | omega | (simp; done) | (simp; omega)) _ | refine bt ?_ (by assumption))))
    · rw [decide_eq_false h2] at hS1
      have HS1 := Lib.hid hS1
      have HX := Lib.hid (show mvO l f t = none from if_neg fun h => h2 h.2.1)
      clear hS1 hS2 h1 h2 hV hI hbig
      go_enter Try.func25, Try.ntmps25
      go_wp2_with fail
      (with_reducible refine (HR.out.app _ HV.out).mono ?_)
      rintro e w1 ⟨rfl, hb1⟩
      have hs1 : W.heap.size + 0 ≤ w1.heap.size := (by have h := hb1.size; first | omega | (simp at h; omega))
      obtain ⟨hc1, hf1, hl1⟩ := bcell hb1
      clear hl1
      go_wp2_with fail
      (with_reducible refine (HS1.out _).mono ?_)
      rintro e w2 ⟨rfl, hb2⟩
      have hs2 : w1.heap.size + 0 ≤ w2.heap.size := (by have h := hb2.size; first | omega | (simp at h; omega))
      have hb1_2 := bel hb1 hb2 (by (repeat (first | assumption | exact Below.refl _ _ | refine ba ?_ _ | refine bd ?_ | refine bdn ?_ _ | refine bs ?_ (by first | omega | (simp; done) | (simp; omega)) _ | refine bt ?_ (by assumption))))
      clear hc1 hf1
      obtain ⟨hc2, hf2, hl2⟩ := bcell hb2
      clear hl2
      go_wp2
      go_ret2
      exact RetO.none HX.out (by (repeat (first | assumption | exact Below.refl _ _ | refine ba ?_ _ | refine bd ?_ | refine bdn ?_ _ | refine bs ?_ (by first | omega | (simp; done) | (simp; omega)) _ | refine bt ?_ (by assumption))))
  · rw [decide_eq_false h1] at HR
    have HR := Lib.hid HR
    have HX := Lib.hid (show mvO l f t = none from if_neg fun h => h1 h.1)
    clear hS1 hS2 h1 hV hI hbig
    go_enter Try.func25, Try.ntmps25
    go_wp2_with fail
    (with_reducible refine (HR.out.app _ HV.out).mono ?_)
    rintro e w1 ⟨rfl, hb1⟩
    have hs1 : W.heap.size + 0 ≤ w1.heap.size := (by have h := hb1.size; first | omega | (simp at h; omega))
    obtain ⟨hc1, hf1, hl1⟩ := bcell hb1
    clear hl1
    go_wp2
    go_ret2
    exact RetO.none HX.out (by (repeat (first | assumption | exact Below.refl _ _ | refine ba ?_ _ | refine bd ?_ | refine bdn ?_ _ | refine bs ?_ (by first | omega | (simp; done) | (simp; omega)) _ | refine bt ?_ (by assumption))))
end Go.Proofs.Ytnckjacbkhoppaa

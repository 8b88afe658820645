/- The document's Move at any slice of parts; the walk of VecMoves. Condition: the names of the kinds and the powers of ten lie in their variables; the numbers are int64. -/
import Derived.Test.YtlhljioncgddeaaDoorVr6
import Derived.Test.YtlhljioncgddeaaDoorVecF
namespace Go.Proofs.YtlhljioncgddeaaDoor
open Go.RowKit
attribute [local go_sem] ext_cell ext_frozen Mix.calmUpon Mix.mUpon
theorem ren_map_take (f t : Int) {l : List Pt} {m : Nat} (h : m < l.length) : (l.take (m + 1)).map (ren f t) = (l.take m).map (ren f t) ++ [ren f t (kk l m, rr l m, aa l m)] := by
  rw [take_succ' h, List.map_append]; rfl
theorem rmove_no (v : Value) (l : List Pt) (f t : Int) (hl : l.length < 1000000000) (h : ¬ VR l) (W : World) (hV : Vc W v l) : Calls Tryd.prog 31 #[v, .int .i64 f, .int .i64 t] W fun e w' => e = .returned (.tuple #[.slice none 0 0, .bool false]) ∧ Below W.heap.size W w' := by
  have HR := rright_v v l hl
  rw [decide_eq_false h] at HR
  have HR := Lib.hid HR
  have HV := Lib.hid hV
  clear hV h
  go_enter Tryd.func31, Tryd.ntmps31
  go_wp2_with fail
  (with_reducible refine (HR.out.app _ HV.out).mono ?_)
  rintro e w1 ⟨rfl, hb1⟩
  have hs1 : W.heap.size + 0 ≤ w1.heap.size := (by have h := hb1.size; first | omega | (simp at h; omega))
  obtain ⟨hc1, hf1, hl1⟩ := bcell hb1
  clear hl1
  go_wp2
  go_ret2
  refine ⟨rfl, ?_⟩
  (repeat (first | assumption | exact Below.refl _ _ | refine ba ?_ _ | refine bd ?_ | refine bdn ?_ _ | refine bs ?_ (by first | omega | (simp; done) | (simp; omega)) _ | refine bt ?_ (by assumption)))
theorem rmove_f1 (v : Value) (l : List Pt) (f t : Int) (hl : l.length < 1000000000) (h : VR l) (h1 : f < 0) (W : World) (hV : Vc W v l) : Calls Tryd.prog 31 #[v, .int .i64 f, .int .i64 t] W fun e w' => e = .returned (.tuple #[.slice none 0 0, .bool false]) ∧ Below W.heap.size W w' := by
  have HR := rright_v v l hl
  rw [decide_eq_true h] at HR
  have HR := Lib.hid HR
  have HV := Lib.hid hV
  have _u := h1
  clear hV h
  go_enter Tryd.func31, Tryd.ntmps31
  go_wp2_with fail
  (with_reducible refine (HR.out.app _ HV.out).mono ?_)
  rintro e w1 ⟨rfl, hb1⟩
  have hs1 : W.heap.size + 0 ≤ w1.heap.size := (by have h := hb1.size; first | omega | (simp at h; omega))
  obtain ⟨hc1, hf1, hl1⟩ := bcell hb1
  clear hl1
  go_wp2
  go_ret2
  refine ⟨rfl, ?_⟩
  (repeat (first | assumption | exact Below.refl _ _ | refine ba ?_ _ | refine bd ?_ | refine bdn ?_ _ | refine bs ?_ (by first | omega | (simp; done) | (simp; omega)) _ | refine bt ?_ (by assumption)))
theorem rmove_f2 (v : Value) (l : List Pt) (f t : Int) (hl : l.length < 1000000000) (h : VR l) (h1 : 0 ≤ f) (h2 : 32 < f) (W : World) (hV : Vc W v l) : Calls Tryd.prog 31 #[v, .int .i64 f, .int .i64 t] W fun e w' => e = .returned (.tuple #[.slice none 0 0, .bool false]) ∧ Below W.heap.size W w' := by
  have HR := rright_v v l hl
  rw [decide_eq_true h] at HR
  have HR := Lib.hid HR
  have HV := Lib.hid hV
  have e1 : (f < 0) = False := eq_false (by omega)
  have _u := h1
  have _v := h2
  clear hV h
  go_enter Tryd.func31, Tryd.ntmps31
  go_wp2_with fail
  (with_reducible refine (HR.out.app _ HV.out).mono ?_)
  rintro e w1 ⟨rfl, hb1⟩
  have hs1 : W.heap.size + 0 ≤ w1.heap.size := (by have h := hb1.size; first | omega | (simp at h; omega))
  obtain ⟨hc1, hf1, hl1⟩ := bcell hb1
  clear hl1
  go_wp2
  go_ret2
  refine ⟨rfl, ?_⟩
  (repeat (first | assumption | exact Below.refl _ _ | refine ba ?_ _ | refine bd ?_ | refine bdn ?_ _ | refine bs ?_ (by first | omega | (simp; done) | (simp; omega)) _ | refine bt ?_ (by assumption)))
theorem rmove_t1 (v : Value) (l : List Pt) (f t : Int) (hl : l.length < 1000000000) (h : VR l) (h1 : 0 ≤ f) (h2 : f ≤ 32) (h3 : t < 0) (W : World) (hV : Vc W v l) : Calls Tryd.prog 31 #[v, .int .i64 f, .int .i64 t] W fun e w' => e = .returned (.tuple #[.slice none 0 0, .bool false]) ∧ Below W.heap.size W w' := by
  have HR := rright_v v l hl
  rw [decide_eq_true h] at HR
  have HR := Lib.hid HR
  have HV := Lib.hid hV
  have e1 : (f < 0) = False := eq_false (by omega)
  have e2 : (32 < f) = False := eq_false (by omega)
  have _u := h1
  have _v := h2
  have _x := h3
  clear hV h
  go_enter Tryd.func31, Tryd.ntmps31
  go_wp2_with fail
  (with_reducible refine (HR.out.app _ HV.out).mono ?_)
  rintro e w1 ⟨rfl, hb1⟩
  have hs1 : W.heap.size + 0 ≤ w1.heap.size := (by have h := hb1.size; first | omega | (simp at h; omega))
  obtain ⟨hc1, hf1, hl1⟩ := bcell hb1
  clear hl1
  go_wp2
  go_ret2
  refine ⟨rfl, ?_⟩
  (repeat (first | assumption | exact Below.refl _ _ | refine ba ?_ _ | refine bd ?_ | refine bdn ?_ _ | refine bs ?_ (by first | omega | (simp; done) | (simp; omega)) _ | refine bt ?_ (by assumption)))
theorem rmove_t2 (v : Value) (l : List Pt) (f t : Int) (hl : l.length < 1000000000) (h : VR l) (h1 : 0 ≤ f) (h2 : f ≤ 32) (h3 : 0 ≤ t) (h4 : 32 < t) (W : World) (hV : Vc W v l) : Calls Tryd.prog 31 #[v, .int .i64 f, .int .i64 t] W fun e w' => e = .returned (.tuple #[.slice none 0 0, .bool false]) ∧ Below W.heap.size W w' := by
  have HR := rright_v v l hl
  rw [decide_eq_true h] at HR
  have HR := Lib.hid HR
  have HV := Lib.hid hV
  have e1 : (f < 0) = False := eq_false (by omega)
  have e2 : (32 < f) = False := eq_false (by omega)
  have e3 : (t < 0) = False := eq_false (by omega)
  have _u := h1
  have _v := h2
  have _x := h3
  have _y := h4
  clear hV h
  go_enter Tryd.func31, Tryd.ntmps31
  go_wp2_with fail
  (with_reducible refine (HR.out.app _ HV.out).mono ?_)
  rintro e w1 ⟨rfl, hb1⟩
  have hs1 : W.heap.size + 0 ≤ w1.heap.size := (by have h := hb1.size; first | omega | (simp at h; omega))
  obtain ⟨hc1, hf1, hl1⟩ := bcell hb1
  clear hl1
  go_wp2
  go_ret2
  refine ⟨rfl, ?_⟩
  (repeat (first | assumption | exact Below.refl _ _ | refine ba ?_ _ | refine bd ?_ | refine bdn ?_ _ | refine bs ?_ (by first | omega | (simp; done) | (simp; omega)) _ | refine bt ?_ (by assumption)))
set_option maxRecDepth 100000 in
set_option maxHeartbeats 8000000 in
theorem rmove_good (v : Value) (l : List Pt) (f t : Int) (h : VR l) (hf : LOk 0 f) (ht' : LOk 0 t) (W : World) (hV : Vc W v l) : Calls Tryd.prog 31 #[v, .int .i64 f, .int .i64 t] W (RetO W (ofO (l.map (ren f t)))) := by
  obtain ⟨i0, hi, hz0, hz1, hz2⟩ := info_parts infoPart
  obtain ⟨a, n, cap, rfl, hn, hC⟩ := hV.cells
  have HC := Lib.hid hC; have HN := Lib.hid hn; have HVc := Lib.hid hV
  have hlen := vr_len h
  have hn9 : n ≤ 132 := by omega
  have HR := rright_v (.slice a n cap) l (by omega)
  rw [decide_eq_true h] at HR
  have HR := Lib.hid HR
  obtain ⟨_, _, f0, f1⟩ := hf
  obtain ⟨_, _, t0, t1⟩ := ht'
  have e1 : (f < 0) = False := eq_false (by omega)
  have e2 : (32 < f) = False := eq_false (by omega)
  have e3 : (t < 0) = False := eq_false (by omega)
  have e4 : (32 < t) = False := eq_false (by omega)
  have HOF := Lib.hid (fun (u : Value) w (hu : Vc w u (l.map (ren f t))) => rof_any u (l.map (ren f t)) (by rw [List.length_map]; omega) w hu)
  generalize ofO (l.map (ren f t)) = o at *
  clear hC hn hV h hlen
  go_enter Tryd.func31, Tryd.ntmps31
  go_wp2_with fail
  (with_reducible refine (HR.out.app _ HVc.out).mono ?_)
  rintro e w1 ⟨rfl, hb1⟩
  have hs1 : W.heap.size + 0 ≤ w1.heap.size := (by have h := hb1.size; first | omega | (simp at h; omega))
  obtain ⟨hc1, hf1, hl1⟩ := bcell hb1
  clear hl1
  have HW := Lib.hid (show Below W.heap.size W w1 by (repeat (first | assumption | exact Below.refl _ _ | refine ba ?_ _ | refine bd ?_ | refine bdn ?_ _ | refine bs ?_ (by first | omega | (simp; done) | (simp; omega)) _ | refine bt ?_ (by assumption))))
  go_wp2
  go_loopw [8, 9] (fun v i wr => ∃ m : Nat, m ≤ n ∧ i = .int .i64 m ∧ Hid (GS W wr v ((l.take m).map (ren f t)))) (fun _ i _ => n - (intOf i).toNat)
  case atStart => exact ⟨0, Nat.zero_le _, rfl, Lib.hid ⟨World.ownsRow_nil _ _ _ _, HW.out⟩⟩
  case round =>
    clear HW
    obtain ⟨m, hm, rfl, HS⟩ := hrel
    obtain ⟨w3, rfl⟩ : ∃ w3, w3 = wr := ⟨_, rfl⟩
    have hb3 := HS.out.bel
    have hs3 := hb3.size
    have hs3 : W.heap.size + 0 ≤ w3.heap.size := (by have h := hb3.size; first | omega | (simp at h; omega))
    obtain ⟨hc3, hf3, hl3⟩ := bcell hb3
    clear hl3
    by_cases hlt : m < n
    · have hms : (m : Int) < (n : Int) := by omega
      have hll : m < l.length := by rw [← HN.out]; exact hlt
      obtain ⟨b, off, rfl, hb, c0, c1, c2⟩ := HC.out m hlt
      have hbl : b < w3.heap.size := Nat.lt_of_lt_of_le hb hb3.size
      have HT := Lib.hid (ren_map_take f t hll)
      have hmr : ((l.take m).map (ren f t)).length ≤ n := by rw [List.length_map, HN.out]; exact List.length_take_le' _ _
      clear hll
      generalize kk l m = k at *; generalize rr l m = r at *; generalize aa l m = x at *
      generalize (l.take m).map (ren f t) = M at *
      by_cases hr : r = f
      · have HT2 := Lib.hid (show (l.take (m + 1)).map (ren f t) = M ++ [(k, t, x)] by rw [HT.out]; simp [ren, hr])
        have hq : (r == f) = true := by simpa using hr
        clear hr
        go_wp2_with (at_builtin; refine wpList_append_own _ rfl _ _ 22 rfl W.heap.size 64 i0 (.agg #[.int .i64 0, .int .i64 0, .int .i64 0]) 3 24 Tryd.underlying22 hi hz0 hz1 hz2 rfl (by decide) _ _ _ rfl ((rowP_grow HS.out.own (by (repeat (first | assumption | exact Below.refl _ _ | refine ba ?_ _ | refine bd ?_ | refine bdn ?_ _ | refine bs ?_ (by first | omega | (simp; done) | (simp; omega)) _ | refine bt ?_ (by assumption))))).alloc _) ⟨_, 0, none⟩ 1 1 [.int .i64 k, .int .i64 t, .int .i64 x] rfl rfl ?c1 ?c2 ?c3 ?c4 ?c5 ?_)
        case c1 => intro q u' hq; rcases q with _ | _ | _ | q <;> simp at hq <;> subst hq <;> simp [Addr.add, go_sem]
        case c2 => intro u' hu; simp at hu; rcases hu with rfl | rfl | rfl <;> rfl
        case c3 => unfold maxLen; omega
        case c4 => omega
        case c5 => (first | omega | (simp; omega))
        intro v' w9 hown' hgrow _
        have HV9 := Lib.hid hown'
        have HB9 := Lib.hid (Below.grown (show Below W.heap.size W _ from (ba (ba hb3 _) _)) hgrow (by first | omega | (simp; omega)) (fun j hj => (HS.out.own.lt j hj).1))
        clear hown' hgrow
        go_wp2
        go_roundw
        case rel =>
          exact ⟨m + 1, by omega, by go_num, Lib.hid ⟨by rw [HT2.out, OwnP, pcells_append, List.length_append]; exact HV9.out, HB9.out⟩⟩
        case measure => simp [intOf]; omega
      · have HT2 := Lib.hid (show (l.take (m + 1)).map (ren f t) = M ++ [(k, r, x)] by rw [HT.out]; simp [ren, hr])
        have hq : (r == f) = false := by simpa using hr
        clear hr
        go_wp2_with (at_builtin; refine wpList_append_own _ rfl _ _ 22 rfl W.heap.size 64 i0 (.agg #[.int .i64 0, .int .i64 0, .int .i64 0]) 3 24 Tryd.underlying22 hi hz0 hz1 hz2 rfl (by decide) _ _ _ rfl ((rowP_grow HS.out.own (by (repeat (first | assumption | exact Below.refl _ _ | refine ba ?_ _ | refine bd ?_ | refine bdn ?_ _ | refine bs ?_ (by first | omega | (simp; done) | (simp; omega)) _ | refine bt ?_ (by assumption))))).alloc _) ⟨_, 0, none⟩ 1 1 [.int .i64 k, .int .i64 r, .int .i64 x] rfl rfl ?c1 ?c2 ?c3 ?c4 ?c5 ?_)
        case c1 => intro q u' hq; rcases q with _ | _ | _ | q <;> simp at hq <;> subst hq <;> simp [Addr.add, go_sem]
        case c2 => intro u' hu; simp at hu; rcases hu with rfl | rfl | rfl <;> rfl
        case c3 => unfold maxLen; omega
        case c4 => omega
        case c5 => (first | omega | (simp; omega))
        intro v' w9 hown' hgrow _
        have HV9 := Lib.hid hown'
        have HB9 := Lib.hid (Below.grown (show Below W.heap.size W _ from (ba (ba hb3 _) _)) hgrow (by first | omega | (simp; omega)) (fun j hj => (HS.out.own.lt j hj).1))
        clear hown' hgrow
        go_wp2
        go_roundw
        case rel =>
          exact ⟨m + 1, by omega, by go_num, Lib.hid ⟨by rw [HT2.out, OwnP, pcells_append, List.length_append]; exact HV9.out, HB9.out⟩⟩
        case measure => simp [intOf]; omega
    · obtain rfl : n = m := by omega
      have HF := HS.out.own
      rw [show l.take n = l from by rw [HN.out]; exact List.take_length] at HF
      have HV := Lib.hid HF
      have HF9 := Lib.hid hb3
      clear HF
      go_wp2_with fail
      refine (HOF.out _ _ HV.out.vc).mono ?_
      rintro e w5 ⟨v5, rfl, hv5, hb5⟩
      have HV5 := Lib.hid hv5
      have HB5 := Lib.hid hb5
      clear hv5 hb5
      go_wp2
      go_ret2
      exact ⟨v5, rfl, HV5.out, bt HF9.out HB5.out⟩
theorem rmove_any (v : Value) (l : List Pt) (f t : Int) (hl : l.length < 1000000000) (W : World) (hV : Vc W v l) : Calls Tryd.prog 31 #[v, .int .i64 f, .int .i64 t] W (RetO W (mvO l f t)) := by
  unfold mvO
  by_cases h : VR l
  · by_cases hf : LOk 0 f
    · by_cases ht : LOk 0 t
      · rw [if_pos ⟨h, hf, ht⟩]; exact rmove_good v l f t h hf ht W hV
      · rw [if_neg fun e => ht e.2.2]
        obtain ⟨_, _, f0, f1⟩ := hf
        by_cases h3 : 0 ≤ t
        · exact (rmove_t2 v l f t hl h f0 f1 h3 (by
            by_cases h4 : t ≤ 32
            · exact absurd ⟨by omega, by omega, h3, h4⟩ ht
            · omega) W hV).mono fun e w' ⟨he, hb⟩ => by subst he; exact RetO.none rfl hb
        · exact (rmove_t1 v l f t hl h f0 f1 (by omega) W hV).mono fun e w' ⟨he, hb⟩ => by subst he; exact RetO.none rfl hb
    · rw [if_neg fun e => hf e.2.1]
      by_cases h3 : 0 ≤ f
      · exact (rmove_f2 v l f t hl h h3 (by
          by_cases h4 : f ≤ 32
          · exact absurd ⟨by omega, by omega, h3, h4⟩ hf
          · omega) W hV).mono fun e w' ⟨he, hb⟩ => by subst he; exact RetO.none rfl hb
      · exact (rmove_f1 v l f t hl h (by omega) W hV).mono fun e w' ⟨he, hb⟩ => by subst he; exact RetO.none rfl hb
  · rw [if_neg fun e => h e.1]
    exact (rmove_no v l f t hl h W hV).mono fun e w' ⟨he, hb⟩ => by subst he; exact RetO.none rfl hb
theorem few1 (W : World) (T : TypeId) (a : Option Addr) (n c : Nat) : Calls Tryd.prog 11 #[.slice (some ⟨W.heap.size, 0, none⟩) 1 1] (W.alloc (.cells #[.slice a n c] T)) fun e w' => e = .returned (.bool (decide (n ≤ 150))) ∧ Below (W.alloc (.cells #[.slice a n c] T)).heap.size (W.alloc (.cells #[.slice a n c] T)) w' := by
  have h := few_any W.heap.size 1 1 (fun _ => a) (fun _ => n) (fun _ => c) (by decide) (W.alloc (.cells #[.slice a n c] T)) (by simp) (fun i hi => by
    obtain rfl : i = 0 := by omega
    simp [go_sem])
  refine h.mono fun e w' ⟨he, hb⟩ => ⟨?_, hb⟩
  rw [he]
  exact congrArg (fun q => Ending.returned (.bool q)) (decide_eq_decide.2 ⟨fun h => h 0 (by decide), fun h i _ => h⟩)
theorem onlyL_none (l : List Pt) : onlyL (fun _ => false) l = [] := by
  unfold onlyL flt; split <;> simp
theorem onlyL_len (g : Int → Bool) (l : List Pt) : (onlyL g l).length ≤ l.length := by
  unfold onlyL; split
  · exact flt_len g l
  · simp
theorem mvO_len (l : List Pt) (f t : Int) : ((mvO l f t).getD []).length ≤ 132 := by
  unfold mvO; split
  · exact ofO_len _
  · simp
set_option maxRecDepth 100000 in
set_option maxHeartbeats 4000000 in
theorem moves_long (v : Value) (l : List Pt) (f t : Int) (W : World) (hV : Vc W v l) (hl : ¬ l.length ≤ 150) : Calls Tryd.prog 5 #[v, .int .i64 f, .int .i64 t] W fun e w' => e = .returned (.bool true) ∧ Below W.heap.size W w' := by
  obtain ⟨a, n, c, rfl, hn, _, _⟩ := hV.form'
  have HF := few1 W 22 a n c
  rw [hn, decide_eq_false hl, ← hn] at HF
  have HF := Lib.hid HF
  clear hV hn hl
  go_enter Tryd.func5, Tryd.ntmps5
  go_wp2_with fail
  (with_reducible refine (HF.out).mono ?_)
  rintro e w1 ⟨rfl, hb1⟩
  have hs1 : W.heap.size + 1 ≤ w1.heap.size := (by have h := hb1.size; first | omega | (simp at h; omega))
  have hz1_0 : W.heap.size < w1.heap.size := (by omega)
  obtain ⟨hc1, hf1, hl1⟩ := bcell hb1
  clear hl1
  go_wp2
  go_ret
  refine ⟨rfl, ?_⟩
  (repeat (first | assumption | exact Below.refl _ _ | refine ba ?_ _ | refine bd ?_ | refine bdn ?_ _ | refine bs ?_ (by first | omega | (simp; done) | (simp; omega)) _ | refine bt ?_ (by assumption)))
set_option maxRecDepth 100000 in
set_option maxHeartbeats 8000000 in
theorem moves_short (v : Value) (l : List Pt) (f t : Int) (W : World) (hV : Vc W v l) (hI : I64s l) (hT : TN W) (hl : l.length ≤ 150) : Calls Tryd.prog 5 #[v, .int .i64 f, .int .i64 t] W fun e w' => e = .returned (.bool true) ∧ Below W.heap.size W w' := by
  have HA := Lib.hid hV; have HT := Lib.hid hT
  obtain ⟨a, n, c, rfl, hn, _, _⟩ := hV.form'
  have HF := few1 W 22 a n c
  rw [hn, decide_eq_true hl, ← hn] at HF
  have HF := Lib.hid HF
  have hL1 := mvO_len l f t
  have P1 := fun w (h : Vc w (.slice a n c) l) => vmove_any (.slice a n c) l f t hI (by omega) w h
  have Q1 := fun w (h : Vc w (.slice a n c) l) => rmove_any (.slice a n c) l f t (by omega) w h
  unfold RetO at P1 Q1
  generalize hq1 : (mvO l f t).isSome = q1 at P1 Q1
  generalize hQ1 : (mvO l f t).getD [] = L1 at P1 Q1 hL1
  have P1 := Lib.hid P1; have Q1 := Lib.hid Q1
  have S1 := Lib.hid fun x y => rsame_v x y L1 (by omega)
  have hL2 := onlyL_len (fun x => x == f || x == t) l
  have P2 := Lib.hid fun b w (h : Vc w (.slice a n c) l) h2 => vonly_any (.slice a n c) (.slice (some ⟨b, 0, none⟩) 2 2) l (fun x => x == f || x == t) (by omega) w h h2
  have Q2 := Lib.hid fun w (h : Vc w (.slice a n c) l) => ronly_any (.slice a n c) l f t (by omega) w h
  generalize hQ2 : onlyL (fun x => x == f || x == t) l = L2 at P2 Q2 hL2
  have S2 := Lib.hid fun x y => rsame_v x y L2 (by omega)
  have hL3 := onlyL_len (fun x => x == t || x == t) l
  have P3 := Lib.hid fun b w (h : Vc w (.slice a n c) l) h2 => vonly_any (.slice a n c) (.slice (some ⟨b, 0, none⟩) 1 1) l (fun x => x == t || x == t) (by omega) w h h2
  have Q3 := Lib.hid fun w (h : Vc w (.slice a n c) l) => ronly_any (.slice a n c) l t t (by omega) w h
  generalize hQ3 : onlyL (fun x => x == t || x == t) l = L3 at P3 Q3 hL3
  have S3 := Lib.hid fun x y => rsame_v x y L3 (by omega)
  have P4 := fun w (h : Vc w (.slice a n c) l) => vonly_any (.slice a n c) (.slice none 0 0) l (fun _ => false) (by omega) w h (contains0 w)
  rw [onlyL_none] at P4
  have P4 := Lib.hid P4
  clear hV hI hT hn hl hL1 hL2 hL3 hq1 hQ1 hQ2 hQ3
  go_enter Tryd.func5, Tryd.ntmps5
  go_wp2_with fail
  (with_reducible refine (HF.out).mono ?_)
  rintro e w1 ⟨rfl, hb1⟩
  have hs1 : W.heap.size + 1 ≤ w1.heap.size := (by have h := hb1.size; first | omega | (simp at h; omega))
  have hz1_0 : W.heap.size < w1.heap.size := (by omega)
  obtain ⟨hc1, hf1, hl1⟩ := bcell hb1
  clear hl1
  go_wp2_with fail
  refine (P1.out _ (HA.out.on (by (repeat (first | assumption | exact Below.refl _ _ | refine ba ?_ _ | refine bd ?_ | refine bdn ?_ _ | refine bs ?_ (by first | omega | (simp; done) | (simp; omega)) _ | refine bt ?_ (by assumption)))))).mono ?_
  rintro e w2 ⟨v2, rfl, hv2, hb2⟩
  have U2 := Lib.hid hv2
  clear hv2
  have hs2 : w1.heap.size + 0 ≤ w2.heap.size := (by have h := hb2.size; first | omega | (simp at h; omega))
  have hb1_2 := bel hb1 hb2 (by (repeat (first | assumption | exact Below.refl _ _ | refine ba ?_ _ | refine bd ?_ | refine bdn ?_ _ | refine bs ?_ (by first | omega | (simp; done) | (simp; omega)) _ | refine bt ?_ (by assumption))))
  clear hz1_0 hc1 hf1
  obtain ⟨hc1_2, hf1_2, hl1_2⟩ := bcell hb1_2
  clear hl1_2
  have hz2_0 : W.heap.size < w2.heap.size := (by omega)
  obtain ⟨hc2, hf2, hl2⟩ := bcell hb2
  clear hl2
  go_wp2_with fail
  refine (Q1.out _ (HA.out.on (by (repeat (first | assumption | exact Below.refl _ _ | refine ba ?_ _ | refine bd ?_ | refine bdn ?_ _ | refine bs ?_ (by first | omega | (simp; done) | (simp; omega)) _ | refine bt ?_ (by assumption)))))).mono ?_
  rintro e w3 ⟨v3, rfl, hv3, hb3⟩
  have U3 := Lib.hid hv3
  clear hv3
  have hs3 : w2.heap.size + 0 ≤ w3.heap.size := (by have h := hb3.size; first | omega | (simp at h; omega))
  have hb1_3 := bel hb1_2 hb3 (by (repeat (first | assumption | exact Below.refl _ _ | refine ba ?_ _ | refine bd ?_ | refine bdn ?_ _ | refine bs ?_ (by first | omega | (simp; done) | (simp; omega)) _ | refine bt ?_ (by assumption))))
  have hb2_3 := bel hb2 hb3 (by (repeat (first | assumption | exact Below.refl _ _ | refine ba ?_ _ | refine bd ?_ | refine bdn ?_ _ | refine bs ?_ (by first | omega | (simp; done) | (simp; omega)) _ | refine bt ?_ (by assumption))))
  clear hc1_2 hf1_2 hz2_0 hc2 hf2
  obtain ⟨hc1_3, hf1_3, hl1_3⟩ := bcell hb1_3
  clear hl1_3
  have hz3_0 : W.heap.size < w3.heap.size := (by omega)
  obtain ⟨hc3, hf3, hl3⟩ := bcell hb3
  clear hl3
  go_wp2_with fail
  (with_reducible refine ((S1.out _ _).app _ ⟨U2.out.on (by (repeat (first | assumption | exact Below.refl _ _ | refine ba ?_ _ | refine bd ?_ | refine bdn ?_ _ | refine bs ?_ (by first | omega | (simp; done) | (simp; omega)) _ | refine bt ?_ (by assumption)))), U3.out.on (by (repeat (first | assumption | exact Below.refl _ _ | refine ba ?_ _ | refine bd ?_ | refine bdn ?_ _ | refine bs ?_ (by first | omega | (simp; done) | (simp; omega)) _ | refine bt ?_ (by assumption))))⟩).mono ?_)
  rintro e w4 ⟨rfl, hb4⟩
  have hs4 : w3.heap.size + 0 ≤ w4.heap.size := (by have h := hb4.size; first | omega | (simp at h; omega))
  have hb1_4 := bel hb1_3 hb4 (by (repeat (first | assumption | exact Below.refl _ _ | refine ba ?_ _ | refine bd ?_ | refine bdn ?_ _ | refine bs ?_ (by first | omega | (simp; done) | (simp; omega)) _ | refine bt ?_ (by assumption))))
  have hb2_4 := bel hb2_3 hb4 (by (repeat (first | assumption | exact Below.refl _ _ | refine ba ?_ _ | refine bd ?_ | refine bdn ?_ _ | refine bs ?_ (by first | omega | (simp; done) | (simp; omega)) _ | refine bt ?_ (by assumption))))
  have hb3_4 := bel hb3 hb4 (by (repeat (first | assumption | exact Below.refl _ _ | refine ba ?_ _ | refine bd ?_ | refine bdn ?_ _ | refine bs ?_ (by first | omega | (simp; done) | (simp; omega)) _ | refine bt ?_ (by assumption))))
  clear hc1_3 hf1_3 hz3_0 hc3 hf3
  obtain ⟨hc1_4, hf1_4, hl1_4⟩ := bcell hb1_4
  clear hl1_4
  have hz4_0 : W.heap.size < w4.heap.size := (by omega)
  obtain ⟨hc4, hf4, hl4⟩ := bcell hb4
  clear hl4
  go_wp2_with fail
  refine (P2.out _ _ (HA.out.on (by (repeat (first | assumption | exact Below.refl _ _ | refine ba ?_ _ | refine bd ?_ | refine bdn ?_ _ | refine bs ?_ (by first | omega | (simp; done) | (simp; omega)) _ | refine bt ?_ (by assumption))))) (contains2 _ _ f t (by simp) (by simp [go_sem]) (by simp [go_sem]))).mono ?_
  rintro e w5 ⟨v5, rfl, hv5, hb5⟩
  have U5 := Lib.hid hv5
  clear hv5
  have hs5 : w4.heap.size + 1 ≤ w5.heap.size := (by have h := hb5.size; first | omega | (simp at h; omega))
  have hb1_5 := bel hb1_4 hb5 (by (repeat (first | assumption | exact Below.refl _ _ | refine ba ?_ _ | refine bd ?_ | refine bdn ?_ _ | refine bs ?_ (by first | omega | (simp; done) | (simp; omega)) _ | refine bt ?_ (by assumption))))
  have hb2_5 := bel hb2_4 hb5 (by (repeat (first | assumption | exact Below.refl _ _ | refine ba ?_ _ | refine bd ?_ | refine bdn ?_ _ | refine bs ?_ (by first | omega | (simp; done) | (simp; omega)) _ | refine bt ?_ (by assumption))))
  have hb3_5 := bel hb3_4 hb5 (by (repeat (first | assumption | exact Below.refl _ _ | refine ba ?_ _ | refine bd ?_ | refine bdn ?_ _ | refine bs ?_ (by first | omega | (simp; done) | (simp; omega)) _ | refine bt ?_ (by assumption))))
  have hb4_5 := bel hb4 hb5 (by (repeat (first | assumption | exact Below.refl _ _ | refine ba ?_ _ | refine bd ?_ | refine bdn ?_ _ | refine bs ?_ (by first | omega | (simp; done) | (simp; omega)) _ | refine bt ?_ (by assumption))))
  clear hc1_4 hf1_4 hz4_0 hc4 hf4
  obtain ⟨hc1_5, hf1_5, hl1_5⟩ := bcell hb1_5
  clear hl1_5
  have hz5_0 : W.heap.size < w5.heap.size := (by omega)
  have hz5_1 : w4.heap.size < w5.heap.size := (by omega)
  obtain ⟨hc5, hf5, hl5⟩ := bcell hb5
  clear hl5
  go_wp2_with fail
  refine (Q2.out _ (HA.out.on (by (repeat (first | assumption | exact Below.refl _ _ | refine ba ?_ _ | refine bd ?_ | refine bdn ?_ _ | refine bs ?_ (by first | omega | (simp; done) | (simp; omega)) _ | refine bt ?_ (by assumption)))))).mono ?_
  rintro e w6 ⟨v6, rfl, hv6, hb6⟩
  have U6 := Lib.hid hv6
  clear hv6
  have hs6 : w5.heap.size + 0 ≤ w6.heap.size := (by have h := hb6.size; first | omega | (simp at h; omega))
  have hb1_6 := bel hb1_5 hb6 (by (repeat (first | assumption | exact Below.refl _ _ | refine ba ?_ _ | refine bd ?_ | refine bdn ?_ _ | refine bs ?_ (by first | omega | (simp; done) | (simp; omega)) _ | refine bt ?_ (by assumption))))
  have hb2_6 := bel hb2_5 hb6 (by (repeat (first | assumption | exact Below.refl _ _ | refine ba ?_ _ | refine bd ?_ | refine bdn ?_ _ | refine bs ?_ (by first | omega | (simp; done) | (simp; omega)) _ | refine bt ?_ (by assumption))))
  have hb3_6 := bel hb3_5 hb6 (by (repeat (first | assumption | exact Below.refl _ _ | refine ba ?_ _ | refine bd ?_ | refine bdn ?_ _ | refine bs ?_ (by first | omega | (simp; done) | (simp; omega)) _ | refine bt ?_ (by assumption))))
  have hb4_6 := bel hb4_5 hb6 (by (repeat (first | assumption | exact Below.refl _ _ | refine ba ?_ _ | refine bd ?_ | refine bdn ?_ _ | refine bs ?_ (by first | omega | (simp; done) | (simp; omega)) _ | refine bt ?_ (by assumption))))
  have hb5_6 := bel hb5 hb6 (by (repeat (first | assumption | exact Below.refl _ _ | refine ba ?_ _ | refine bd ?_ | refine bdn ?_ _ | refine bs ?_ (by first | omega | (simp; done) | (simp; omega)) _ | refine bt ?_ (by assumption))))
  clear hc1_5 hf1_5 hz5_0 hz5_1 hc5 hf5
  obtain ⟨hc1_6, hf1_6, hl1_6⟩ := bcell hb1_6
  clear hl1_6
  obtain ⟨hc5_6, hf5_6, hl5_6⟩ := bcell hb5_6
  clear hl5_6
  have hz6_0 : W.heap.size < w6.heap.size := (by omega)
  have hz6_1 : w4.heap.size < w6.heap.size := (by omega)
  obtain ⟨hc6, hf6, hl6⟩ := bcell hb6
  clear hl6
  go_wp2_with fail
  (with_reducible refine ((S2.out _ _).app _ ⟨U5.out.on (by (repeat (first | assumption | exact Below.refl _ _ | refine ba ?_ _ | refine bd ?_ | refine bdn ?_ _ | refine bs ?_ (by first | omega | (simp; done) | (simp; omega)) _ | refine bt ?_ (by assumption)))), U6.out.on (by (repeat (first | assumption | exact Below.refl _ _ | refine ba ?_ _ | refine bd ?_ | refine bdn ?_ _ | refine bs ?_ (by first | omega | (simp; done) | (simp; omega)) _ | refine bt ?_ (by assumption))))⟩).mono ?_)
  rintro e w7 ⟨rfl, hb7⟩
  have hs7 : w6.heap.size + 0 ≤ w7.heap.size := (by have h := hb7.size; first | omega | (simp at h; omega))
  have hb1_7 := bel hb1_6 hb7 (by (repeat (first | assumption | exact Below.refl _ _ | refine ba ?_ _ | refine bd ?_ | refine bdn ?_ _ | refine bs ?_ (by first | omega | (simp; done) | (simp; omega)) _ | refine bt ?_ (by assumption))))
  have hb2_7 := bel hb2_6 hb7 (by (repeat (first | assumption | exact Below.refl _ _ | refine ba ?_ _ | refine bd ?_ | refine bdn ?_ _ | refine bs ?_ (by first | omega | (simp; done) | (simp; omega)) _ | refine bt ?_ (by assumption))))
  have hb3_7 := bel hb3_6 hb7 (by (repeat (first | assumption | exact Below.refl _ _ | refine ba ?_ _ | refine bd ?_ | refine bdn ?_ _ | refine bs ?_ (by first | omega | (simp; done) | (simp; omega)) _ | refine bt ?_ (by assumption))))
  have hb4_7 := bel hb4_6 hb7 (by (repeat (first | assumption | exact Below.refl _ _ | refine ba ?_ _ | refine bd ?_ | refine bdn ?_ _ | refine bs ?_ (by first | omega | (simp; done) | (simp; omega)) _ | refine bt ?_ (by assumption))))
  have hb5_7 := bel hb5_6 hb7 (by (repeat (first | assumption | exact Below.refl _ _ | refine ba ?_ _ | refine bd ?_ | refine bdn ?_ _ | refine bs ?_ (by first | omega | (simp; done) | (simp; omega)) _ | refine bt ?_ (by assumption))))
  have hb6_7 := bel hb6 hb7 (by (repeat (first | assumption | exact Below.refl _ _ | refine ba ?_ _ | refine bd ?_ | refine bdn ?_ _ | refine bs ?_ (by first | omega | (simp; done) | (simp; omega)) _ | refine bt ?_ (by assumption))))
  clear hc1_6 hf1_6 hc5_6 hf5_6 hz6_0 hz6_1 hc6 hf6
  obtain ⟨hc1_7, hf1_7, hl1_7⟩ := bcell hb1_7
  clear hl1_7
  obtain ⟨hc5_7, hf5_7, hl5_7⟩ := bcell hb5_7
  clear hl5_7
  have hz7_0 : W.heap.size < w7.heap.size := (by omega)
  have hz7_1 : w4.heap.size < w7.heap.size := (by omega)
  obtain ⟨hc7, hf7, hl7⟩ := bcell hb7
  clear hl7
  go_wp2_with fail
  refine (P3.out _ _ (HA.out.on (by (repeat (first | assumption | exact Below.refl _ _ | refine ba ?_ _ | refine bd ?_ | refine bdn ?_ _ | refine bs ?_ (by first | omega | (simp; done) | (simp; omega)) _ | refine bt ?_ (by assumption))))) (contains1 _ _ t (by simp) (by simp [go_sem]))).mono ?_
  rintro e w8 ⟨v8, rfl, hv8, hb8⟩
  have U8 := Lib.hid hv8
  clear hv8
  have hs8 : w7.heap.size + 1 ≤ w8.heap.size := (by have h := hb8.size; first | omega | (simp at h; omega))
  have hb1_8 := bel hb1_7 hb8 (by (repeat (first | assumption | exact Below.refl _ _ | refine ba ?_ _ | refine bd ?_ | refine bdn ?_ _ | refine bs ?_ (by first | omega | (simp; done) | (simp; omega)) _ | refine bt ?_ (by assumption))))
  have hb2_8 := bel hb2_7 hb8 (by (repeat (first | assumption | exact Below.refl _ _ | refine ba ?_ _ | refine bd ?_ | refine bdn ?_ _ | refine bs ?_ (by first | omega | (simp; done) | (simp; omega)) _ | refine bt ?_ (by assumption))))
  have hb3_8 := bel hb3_7 hb8 (by (repeat (first | assumption | exact Below.refl _ _ | refine ba ?_ _ | refine bd ?_ | refine bdn ?_ _ | refine bs ?_ (by first | omega | (simp; done) | (simp; omega)) _ | refine bt ?_ (by assumption))))
  have hb4_8 := bel hb4_7 hb8 (by (repeat (first | assumption | exact Below.refl _ _ | refine ba ?_ _ | refine bd ?_ | refine bdn ?_ _ | refine bs ?_ (by first | omega | (simp; done) | (simp; omega)) _ | refine bt ?_ (by assumption))))
  have hb5_8 := bel hb5_7 hb8 (by (repeat (first | assumption | exact Below.refl _ _ | refine ba ?_ _ | refine bd ?_ | refine bdn ?_ _ | refine bs ?_ (by first | omega | (simp; done) | (simp; omega)) _ | refine bt ?_ (by assumption))))
  have hb6_8 := bel hb6_7 hb8 (by (repeat (first | assumption | exact Below.refl _ _ | refine ba ?_ _ | refine bd ?_ | refine bdn ?_ _ | refine bs ?_ (by first | omega | (simp; done) | (simp; omega)) _ | refine bt ?_ (by assumption))))
  have hb7_8 := bel hb7 hb8 (by (repeat (first | assumption | exact Below.refl _ _ | refine ba ?_ _ | refine bd ?_ | refine bdn ?_ _ | refine bs ?_ (by first | omega | (simp; done) | (simp; omega)) _ | refine bt ?_ (by assumption))))
  clear hc1_7 hf1_7 hc5_7 hf5_7 hz7_0 hz7_1 hc7 hf7
  obtain ⟨hc1_8, hf1_8, hl1_8⟩ := bcell hb1_8
  clear hl1_8
  obtain ⟨hc5_8, hf5_8, hl5_8⟩ := bcell hb5_8
  clear hl5_8
  have hz8_0 : W.heap.size < w8.heap.size := (by omega)
  have hz8_1 : w4.heap.size < w8.heap.size := (by omega)
  have hz8_2 : w7.heap.size < w8.heap.size := (by omega)
  obtain ⟨hc8, hf8, hl8⟩ := bcell hb8
  clear hl8
  go_wp2_with fail
  refine (Q3.out _ (HA.out.on (by (repeat (first | assumption | exact Below.refl _ _ | refine ba ?_ _ | refine bd ?_ | refine bdn ?_ _ | refine bs ?_ (by first | omega | (simp; done) | (simp; omega)) _ | refine bt ?_ (by assumption)))))).mono ?_
  rintro e w9 ⟨v9, rfl, hv9, hb9⟩
  have U9 := Lib.hid hv9
  clear hv9
  have hs9 : w8.heap.size + 0 ≤ w9.heap.size := (by have h := hb9.size; first | omega | (simp at h; omega))
  have hb1_9 := bel hb1_8 hb9 (by (repeat (first | assumption | exact Below.refl _ _ | refine ba ?_ _ | refine bd ?_ | refine bdn ?_ _ | refine bs ?_ (by first | omega | (simp; done) | (simp; omega)) _ | refine bt ?_ (by assumption))))
  have hb2_9 := bel hb2_8 hb9 (by (repeat (first | assumption | exact Below.refl _ _ | refine ba ?_ _ | refine bd ?_ | refine bdn ?_ _ | refine bs ?_ (by first | omega | (simp; done) | (simp; omega)) _ | refine bt ?_ (by assumption))))
  have hb3_9 := bel hb3_8 hb9 (by (repeat (first | assumption | exact Below.refl _ _ | refine ba ?_ _ | refine bd ?_ | refine bdn ?_ _ | refine bs ?_ (by first | omega | (simp; done) | (simp; omega)) _ | refine bt ?_ (by assumption))))
  have hb4_9 := bel hb4_8 hb9 (by (repeat (first | assumption | exact Below.refl _ _ | refine ba ?_ _ | refine bd ?_ | refine bdn ?_ _ | refine bs ?_ (by first | omega | (simp; done) | (simp; omega)) _ | refine bt ?_ (by assumption))))
  have hb5_9 := bel hb5_8 hb9 (by (repeat (first | assumption | exact Below.refl _ _ | refine ba ?_ _ | refine bd ?_ | refine bdn ?_ _ | refine bs ?_ (by first | omega | (simp; done) | (simp; omega)) _ | refine bt ?_ (by assumption))))
  have hb6_9 := bel hb6_8 hb9 (by (repeat (first | assumption | exact Below.refl _ _ | refine ba ?_ _ | refine bd ?_ | refine bdn ?_ _ | refine bs ?_ (by first | omega | (simp; done) | (simp; omega)) _ | refine bt ?_ (by assumption))))
  have hb7_9 := bel hb7_8 hb9 (by (repeat (first | assumption | exact Below.refl _ _ | refine ba ?_ _ | refine bd ?_ | refine bdn ?_ _ | refine bs ?_ (by first | omega | (simp; done) | (simp; omega)) _ | refine bt ?_ (by assumption))))
  have hb8_9 := bel hb8 hb9 (by (repeat (first | assumption | exact Below.refl _ _ | refine ba ?_ _ | refine bd ?_ | refine bdn ?_ _ | refine bs ?_ (by first | omega | (simp; done) | (simp; omega)) _ | refine bt ?_ (by assumption))))
  clear hc1_8 hf1_8 hc5_8 hf5_8 hz8_0 hz8_1 hz8_2 hc8 hf8
  obtain ⟨hc1_9, hf1_9, hl1_9⟩ := bcell hb1_9
  clear hl1_9
  obtain ⟨hc5_9, hf5_9, hl5_9⟩ := bcell hb5_9
  clear hl5_9
  obtain ⟨hc8_9, hf8_9, hl8_9⟩ := bcell hb8_9
  clear hl8_9
  have hz9_0 : W.heap.size < w9.heap.size := (by omega)
  have hz9_1 : w4.heap.size < w9.heap.size := (by omega)
  have hz9_2 : w7.heap.size < w9.heap.size := (by omega)
  obtain ⟨hc9, hf9, hl9⟩ := bcell hb9
  clear hl9
  go_wp2_with fail
  (with_reducible refine ((S3.out _ _).app _ ⟨U8.out.on (by (repeat (first | assumption | exact Below.refl _ _ | refine ba ?_ _ | refine bd ?_ | refine bdn ?_ _ | refine bs ?_ (by first | omega | (simp; done) | (simp; omega)) _ | refine bt ?_ (by assumption)))), U9.out.on (by (repeat (first | assumption | exact Below.refl _ _ | refine ba ?_ _ | refine bd ?_ | refine bdn ?_ _ | refine bs ?_ (by first | omega | (simp; done) | (simp; omega)) _ | refine bt ?_ (by assumption))))⟩).mono ?_)
  rintro e w10 ⟨rfl, hb10⟩
  have hs10 : w9.heap.size + 0 ≤ w10.heap.size := (by have h := hb10.size; first | omega | (simp at h; omega))
  have hb1_10 := bel hb1_9 hb10 (by (repeat (first | assumption | exact Below.refl _ _ | refine ba ?_ _ | refine bd ?_ | refine bdn ?_ _ | refine bs ?_ (by first | omega | (simp; done) | (simp; omega)) _ | refine bt ?_ (by assumption))))
  have hb2_10 := bel hb2_9 hb10 (by (repeat (first | assumption | exact Below.refl _ _ | refine ba ?_ _ | refine bd ?_ | refine bdn ?_ _ | refine bs ?_ (by first | omega | (simp; done) | (simp; omega)) _ | refine bt ?_ (by assumption))))
  have hb3_10 := bel hb3_9 hb10 (by (repeat (first | assumption | exact Below.refl _ _ | refine ba ?_ _ | refine bd ?_ | refine bdn ?_ _ | refine bs ?_ (by first | omega | (simp; done) | (simp; omega)) _ | refine bt ?_ (by assumption))))
  have hb4_10 := bel hb4_9 hb10 (by (repeat (first | assumption | exact Below.refl _ _ | refine ba ?_ _ | refine bd ?_ | refine bdn ?_ _ | refine bs ?_ (by first | omega | (simp; done) | (simp; omega)) _ | refine bt ?_ (by assumption))))
  have hb5_10 := bel hb5_9 hb10 (by (repeat (first | assumption | exact Below.refl _ _ | refine ba ?_ _ | refine bd ?_ | refine bdn ?_ _ | refine bs ?_ (by first | omega | (simp; done) | (simp; omega)) _ | refine bt ?_ (by assumption))))
  have hb6_10 := bel hb6_9 hb10 (by (repeat (first | assumption | exact Below.refl _ _ | refine ba ?_ _ | refine bd ?_ | refine bdn ?_ _ | refine bs ?_ (by first | omega | (simp; done) | (simp; omega)) _ | refine bt ?_ (by assumption))))
  have hb7_10 := bel hb7_9 hb10 (by (repeat (first | assumption | exact Below.refl _ _ | refine ba ?_ _ | refine bd ?_ | refine bdn ?_ _ | refine bs ?_ (by first | omega | (simp; done) | (simp; omega)) _ | refine bt ?_ (by assumption))))
  have hb8_10 := bel hb8_9 hb10 (by (repeat (first | assumption | exact Below.refl _ _ | refine ba ?_ _ | refine bd ?_ | refine bdn ?_ _ | refine bs ?_ (by first | omega | (simp; done) | (simp; omega)) _ | refine bt ?_ (by assumption))))
  have hb9_10 := bel hb9 hb10 (by (repeat (first | assumption | exact Below.refl _ _ | refine ba ?_ _ | refine bd ?_ | refine bdn ?_ _ | refine bs ?_ (by first | omega | (simp; done) | (simp; omega)) _ | refine bt ?_ (by assumption))))
  clear hc1_9 hf1_9 hc5_9 hf5_9 hc8_9 hf8_9 hz9_0 hz9_1 hz9_2 hc9 hf9
  obtain ⟨hc1_10, hf1_10, hl1_10⟩ := bcell hb1_10
  clear hl1_10
  obtain ⟨hc5_10, hf5_10, hl5_10⟩ := bcell hb5_10
  clear hl5_10
  obtain ⟨hc8_10, hf8_10, hl8_10⟩ := bcell hb8_10
  clear hl8_10
  have hz10_0 : W.heap.size < w10.heap.size := (by omega)
  have hz10_1 : w4.heap.size < w10.heap.size := (by omega)
  have hz10_2 : w7.heap.size < w10.heap.size := (by omega)
  obtain ⟨hc10, hf10, hl10⟩ := bcell hb10
  clear hl10
  go_wp2_with fail
  refine (P4.out _ (HA.out.on (by (repeat (first | assumption | exact Below.refl _ _ | refine ba ?_ _ | refine bd ?_ | refine bdn ?_ _ | refine bs ?_ (by first | omega | (simp; done) | (simp; omega)) _ | refine bt ?_ (by assumption)))))).mono ?_
  rintro e w12 ⟨v12, rfl, hv12, hb12⟩
  obtain ⟨a12, c12, rfl⟩ := hv12.empty
  have U12 := Lib.hid hv12
  clear hv12
  have hs12 : w10.heap.size + 0 ≤ w12.heap.size := (by have h := hb12.size; first | omega | (simp at h; omega))
  have hb1_12 := bel hb1_10 hb12 (by (repeat (first | assumption | exact Below.refl _ _ | refine ba ?_ _ | refine bd ?_ | refine bdn ?_ _ | refine bs ?_ (by first | omega | (simp; done) | (simp; omega)) _ | refine bt ?_ (by assumption))))
  have hb2_12 := bel hb2_10 hb12 (by (repeat (first | assumption | exact Below.refl _ _ | refine ba ?_ _ | refine bd ?_ | refine bdn ?_ _ | refine bs ?_ (by first | omega | (simp; done) | (simp; omega)) _ | refine bt ?_ (by assumption))))
  have hb3_12 := bel hb3_10 hb12 (by (repeat (first | assumption | exact Below.refl _ _ | refine ba ?_ _ | refine bd ?_ | refine bdn ?_ _ | refine bs ?_ (by first | omega | (simp; done) | (simp; omega)) _ | refine bt ?_ (by assumption))))
  have hb4_12 := bel hb4_10 hb12 (by (repeat (first | assumption | exact Below.refl _ _ | refine ba ?_ _ | refine bd ?_ | refine bdn ?_ _ | refine bs ?_ (by first | omega | (simp; done) | (simp; omega)) _ | refine bt ?_ (by assumption))))
  have hb5_12 := bel hb5_10 hb12 (by (repeat (first | assumption | exact Below.refl _ _ | refine ba ?_ _ | refine bd ?_ | refine bdn ?_ _ | refine bs ?_ (by first | omega | (simp; done) | (simp; omega)) _ | refine bt ?_ (by assumption))))
  have hb6_12 := bel hb6_10 hb12 (by (repeat (first | assumption | exact Below.refl _ _ | refine ba ?_ _ | refine bd ?_ | refine bdn ?_ _ | refine bs ?_ (by first | omega | (simp; done) | (simp; omega)) _ | refine bt ?_ (by assumption))))
  have hb7_12 := bel hb7_10 hb12 (by (repeat (first | assumption | exact Below.refl _ _ | refine ba ?_ _ | refine bd ?_ | refine bdn ?_ _ | refine bs ?_ (by first | omega | (simp; done) | (simp; omega)) _ | refine bt ?_ (by assumption))))
  have hb8_12 := bel hb8_10 hb12 (by (repeat (first | assumption | exact Below.refl _ _ | refine ba ?_ _ | refine bd ?_ | refine bdn ?_ _ | refine bs ?_ (by first | omega | (simp; done) | (simp; omega)) _ | refine bt ?_ (by assumption))))
  have hb9_12 := bel hb9_10 hb12 (by (repeat (first | assumption | exact Below.refl _ _ | refine ba ?_ _ | refine bd ?_ | refine bdn ?_ _ | refine bs ?_ (by first | omega | (simp; done) | (simp; omega)) _ | refine bt ?_ (by assumption))))
  have hb10_12 := bel hb10 hb12 (by (repeat (first | assumption | exact Below.refl _ _ | refine ba ?_ _ | refine bd ?_ | refine bdn ?_ _ | refine bs ?_ (by first | omega | (simp; done) | (simp; omega)) _ | refine bt ?_ (by assumption))))
  clear hc1_10 hf1_10 hc5_10 hf5_10 hc8_10 hf8_10 hz10_0 hz10_1 hz10_2 hc10 hf10
  obtain ⟨hc1_12, hf1_12, hl1_12⟩ := bcell hb1_12
  clear hl1_12
  obtain ⟨hc5_12, hf5_12, hl5_12⟩ := bcell hb5_12
  clear hl5_12
  obtain ⟨hc8_12, hf8_12, hl8_12⟩ := bcell hb8_12
  clear hl8_12
  have hz12_0 : W.heap.size < w12.heap.size := (by omega)
  have hz12_1 : w4.heap.size < w12.heap.size := (by omega)
  have hz12_2 : w7.heap.size < w12.heap.size := (by omega)
  obtain ⟨hc12, hf12, hl12⟩ := bcell hb12
  clear hl12
  go_wp2_with fail
  (with_reducible refine (works5.app _ (TN.on HT.out (by (repeat (first | assumption | exact Below.refl _ _ | refine ba ?_ _ | refine bd ?_ | refine bdn ?_ _ | refine bs ?_ (by first | omega | (simp; done) | (simp; omega)) _ | refine bt ?_ (by assumption)))))).mono ?_)
  rintro e w13 ⟨rfl, hb13⟩
  have hs13 : w12.heap.size + 0 ≤ w13.heap.size := (by have h := hb13.size; first | omega | (simp at h; omega))
  have hb1_13 := bel hb1_12 hb13 (by (repeat (first | assumption | exact Below.refl _ _ | refine ba ?_ _ | refine bd ?_ | refine bdn ?_ _ | refine bs ?_ (by first | omega | (simp; done) | (simp; omega)) _ | refine bt ?_ (by assumption))))
  have hb2_13 := bel hb2_12 hb13 (by (repeat (first | assumption | exact Below.refl _ _ | refine ba ?_ _ | refine bd ?_ | refine bdn ?_ _ | refine bs ?_ (by first | omega | (simp; done) | (simp; omega)) _ | refine bt ?_ (by assumption))))
  have hb3_13 := bel hb3_12 hb13 (by (repeat (first | assumption | exact Below.refl _ _ | refine ba ?_ _ | refine bd ?_ | refine bdn ?_ _ | refine bs ?_ (by first | omega | (simp; done) | (simp; omega)) _ | refine bt ?_ (by assumption))))
  have hb4_13 := bel hb4_12 hb13 (by (repeat (first | assumption | exact Below.refl _ _ | refine ba ?_ _ | refine bd ?_ | refine bdn ?_ _ | refine bs ?_ (by first | omega | (simp; done) | (simp; omega)) _ | refine bt ?_ (by assumption))))
  have hb5_13 := bel hb5_12 hb13 (by (repeat (first | assumption | exact Below.refl _ _ | refine ba ?_ _ | refine bd ?_ | refine bdn ?_ _ | refine bs ?_ (by first | omega | (simp; done) | (simp; omega)) _ | refine bt ?_ (by assumption))))
  have hb6_13 := bel hb6_12 hb13 (by (repeat (first | assumption | exact Below.refl _ _ | refine ba ?_ _ | refine bd ?_ | refine bdn ?_ _ | refine bs ?_ (by first | omega | (simp; done) | (simp; omega)) _ | refine bt ?_ (by assumption))))
  have hb7_13 := bel hb7_12 hb13 (by (repeat (first | assumption | exact Below.refl _ _ | refine ba ?_ _ | refine bd ?_ | refine bdn ?_ _ | refine bs ?_ (by first | omega | (simp; done) | (simp; omega)) _ | refine bt ?_ (by assumption))))
  have hb8_13 := bel hb8_12 hb13 (by (repeat (first | assumption | exact Below.refl _ _ | refine ba ?_ _ | refine bd ?_ | refine bdn ?_ _ | refine bs ?_ (by first | omega | (simp; done) | (simp; omega)) _ | refine bt ?_ (by assumption))))
  have hb9_13 := bel hb9_12 hb13 (by (repeat (first | assumption | exact Below.refl _ _ | refine ba ?_ _ | refine bd ?_ | refine bdn ?_ _ | refine bs ?_ (by first | omega | (simp; done) | (simp; omega)) _ | refine bt ?_ (by assumption))))
  have hb10_13 := bel hb10_12 hb13 (by (repeat (first | assumption | exact Below.refl _ _ | refine ba ?_ _ | refine bd ?_ | refine bdn ?_ _ | refine bs ?_ (by first | omega | (simp; done) | (simp; omega)) _ | refine bt ?_ (by assumption))))
  have hb12_13 := bel hb12 hb13 (by (repeat (first | assumption | exact Below.refl _ _ | refine ba ?_ _ | refine bd ?_ | refine bdn ?_ _ | refine bs ?_ (by first | omega | (simp; done) | (simp; omega)) _ | refine bt ?_ (by assumption))))
  clear hc1_12 hf1_12 hc5_12 hf5_12 hc8_12 hf8_12 hz12_0 hz12_1 hz12_2 hc12 hf12
  obtain ⟨hc1_13, hf1_13, hl1_13⟩ := bcell hb1_13
  clear hl1_13
  obtain ⟨hc5_13, hf5_13, hl5_13⟩ := bcell hb5_13
  clear hl5_13
  obtain ⟨hc8_13, hf8_13, hl8_13⟩ := bcell hb8_13
  clear hl8_13
  have hz13_0 : W.heap.size < w13.heap.size := (by omega)
  have hz13_1 : w4.heap.size < w13.heap.size := (by omega)
  have hz13_2 : w7.heap.size < w13.heap.size := (by omega)
  obtain ⟨hc13, hf13, hl13⟩ := bcell hb13
  clear hl13
  go_wp2
  go_ret
  refine ⟨rfl, ?_⟩
  (repeat (first | assumption | exact Below.refl _ _ | refine ba ?_ _ | refine bd ?_ | refine bdn ?_ _ | refine bs ?_ (by first | omega | (simp; done) | (simp; omega)) _ | refine bt ?_ (by assumption)))
theorem moves5 (v : Value) (l : List Pt) (f t : Int) (W : World) (hV : Vc W v l) (hI : I64s l) (hT : TN W) : Calls Tryd.prog 5 #[v, .int .i64 f, .int .i64 t] W fun e w' => e = .returned (.bool true) ∧ Below W.heap.size W w' := by
  by_cases hl : l.length ≤ 150
  · exact moves_short v l f t W hV hI hT hl
  · exact moves_long v l f t W hV hl
end Go.Proofs.YtlhljioncgddeaaDoor

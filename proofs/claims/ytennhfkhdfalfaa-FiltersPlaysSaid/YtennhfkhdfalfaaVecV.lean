/- Slices of parts, as lists; vec.Right, vec.first, vec.next at any of them. -/
import Derived.Test.YtennhfkhdfalfaaVecM
import Derived.Test.YtennhfkhdfalfaaOn
import Derived.OwnWalk
import Derived.Laws.OwnMore
import Derived.Laws.MakeOwn
namespace Go.Proofs.Ytennhfkhdfalfaa
open Go.RowKit
attribute [local go_sem] ext_cell ext_frozen Mix.calmUpon Mix.mUpon
/-- The numbers of the i-th part. -/
def kk (l : List Pt) (i : Nat) : Int := (l.getD i (0, 0, 0)).1
def rr (l : List Pt) (i : Nat) : Int := (l.getD i (0, 0, 0)).2.1
def aa (l : List Pt) (i : Nat) : Int := (l.getD i (0, 0, 0)).2.2
theorem getD_lt {l : List Pt} {i : Nat} (h : i < l.length) : l.getD i (0, 0, 0) = l[i] := by simp [List.getD, List.getElem?_eq_getElem h]
theorem pok_iff {l : List Pt} {i : Nat} (h : i < l.length) : POk (kk l) (rr l) (aa l) i ↔ POK l[i] := by
  unfold POk POK kk rr aa; rw [getD_lt h]
theorem vok_iff (l : List Pt) : VOk (kk l) (rr l) (aa l) l.length ↔ VR l := by
  constructor
  · intro h
    have hP : ∀ i (hi : i < l.length), POK l[i] := fun i hi => (pok_iff hi).1 (h i hi).1
    have step : ∀ i (hi : i + 1 < l.length), qy (l[i]'(Nat.lt_of_succ_lt hi)) < qy (l[i + 1]'hi) := fun i hi => by
      have h2 := (h (i + 1) hi).2 (by omega)
      have e1 : kk l (i + 1 - 1) = (l[i]'(Nat.lt_of_succ_lt hi)).1 := by unfold kk; rw [getD_lt (by omega : i + 1 - 1 < l.length)]; rfl
      have e2 : rr l (i + 1 - 1) = (l[i]'(Nat.lt_of_succ_lt hi)).2.1 := by unfold rr; rw [getD_lt (by omega : i + 1 - 1 < l.length)]; rfl
      have e3 : kk l (i + 1) = (l[i + 1]).1 := by unfold kk; rw [getD_lt hi]
      have e4 : rr l (i + 1) = (l[i + 1]).2.1 := by unfold rr; rw [getD_lt hi]
      rw [e1, e2, e3, e4] at h2
      exact (lcmp_neg (hP i (by omega)).1 (hP (i + 1) hi).1).1 h2
    refine ⟨fun p hp => ?_, List.pairwise_iff_getElem.2 fun i j hi hj hij => ?_⟩
    · obtain ⟨i, hi, rfl⟩ := List.mem_iff_getElem.1 hp; exact hP i hi
    · obtain ⟨d, rfl⟩ : ∃ d, j = i + d + 1 := ⟨j - i - 1, by omega⟩
      clear hij
      induction d with
      | zero => exact step i hj
      | succ d ih => exact Int.lt_trans (ih (by omega)) (step (i + d + 1) hj)
  · intro h i hi
    refine ⟨(pok_iff hi).2 (h.1 _ (List.getElem_mem hi)), fun h0 => ?_⟩
    have h1 := List.pairwise_iff_getElem.1 h.2 (i - 1) i (by omega) hi (by omega)
    have e1 : kk l (i - 1) = (l[i - 1]'(by omega)).1 := by unfold kk; rw [getD_lt (by omega)]
    have e2 : rr l (i - 1) = (l[i - 1]'(by omega)).2.1 := by unfold rr; rw [getD_lt (by omega)]
    have e3 : kk l i = (l[i]).1 := by unfold kk; rw [getD_lt hi]
    have e4 : rr l i = (l[i]).2.1 := by unfold rr; rw [getD_lt hi]
    rw [e1, e2, e3, e4]
    exact (lcmp_neg (h.1 _ (List.getElem_mem _)).1 (h.1 _ (List.getElem_mem hi)).1).2 h1
/-- The cells of a list of parts. -/
def pcells : List Pt → List Value
  | [] => []
  | p :: t => .int .i64 p.1 :: .int .i64 p.2.1 :: .int .i64 p.2.2 :: pcells t
theorem pcells_len : ∀ l, (pcells l).length = l.length * 3
  | [] => rfl
  | p :: t => by rw [pcells]; simp [pcells_len t]; omega
theorem pcells_append : ∀ l m, pcells (l ++ m) = pcells l ++ pcells m
  | [], m => rfl
  | p :: t, m => by rw [List.cons_append, pcells, pcells_append t m, pcells]; rfl
theorem pcells_get : ∀ (l : List Pt) (i : Nat), i < l.length → (pcells l)[i * 3]? = some (.int .i64 (kk l i)) ∧ (pcells l)[i * 3 + 1]? = some (.int .i64 (rr l i)) ∧ (pcells l)[i * 3 + 2]? = some (.int .i64 (aa l i))
  | [], i, h => by simp at h
  | p :: t, 0, _ => ⟨rfl, rfl, rfl⟩
  | p :: t, i + 1, h => by
    obtain ⟨a, b, c⟩ := pcells_get t i (by simpa using h)
    rw [show (i + 1) * 3 = i * 3 + 3 by omega]
    exact ⟨a, b, c⟩

/-- v is a slice that holds the parts l. -/
def Vc (w : World) (v : Value) (l : List Pt) : Prop :=
  ((∃ a cap, v = .slice a 0 cap ∧ cap ≤ maxLen ∧ (a = none → cap = 0)) ∧ l = []) ∨ ∃ b off cap, v = .slice (some ⟨b, off, none⟩) l.length cap ∧ l.length ≤ cap ∧ cap ≤ maxLen ∧ b < w.heap.size ∧ Parts w b off l.length (kk l) (rr l) (aa l)
theorem clo_Vc (v : Value) (l : List Pt) : Clo fun w => Vc w v l := fun w w' h hb => by
  rcases h with h | ⟨b, off, cap, h1, h2, h3, h4, h5⟩
  · exact .inl h
  · exact .inr ⟨b, off, cap, h1, h2, h3, Nat.lt_of_lt_of_le h4 hb.size, h5.grow h4 hb⟩
theorem Vc.on {W w : World} {v : Value} {l : List Pt} (h : Vc W v l) (hb : Below W.heap.size W w) : Vc w v l := clo_Vc v l _ _ h hb
theorem Vc.form {w : World} {v : Value} {l : List Pt} (h : Vc w v l) : ∃ a cap, v = .slice a l.length cap ∧ l.length ≤ cap ∧ cap ≤ maxLen := by
  rcases h with ⟨⟨a, cap, rfl, hc⟩, rfl⟩ | ⟨b, off, cap, h1, h2, h3, _⟩
  · exact ⟨a, cap, rfl, Nat.zero_le _, hc.1⟩
  · exact ⟨_, _, h1, h2, h3⟩
theorem Vc.nil (w : World) : Vc w (.slice none 0 0) [] := .inl ⟨⟨none, 0, rfl, Nat.zero_le _, fun _ => rfl⟩, rfl⟩
/-- An empty slice, whatever it points at. -/
theorem Vc.zero (w : World) (a : Option Addr) {cap : Nat} (h : cap ≤ maxLen ∧ (a = none → cap = 0)) : Vc w (.slice a 0 cap) [] := .inl ⟨⟨a, cap, rfl, h⟩, rfl⟩
/-- A slice that has a part. -/
theorem Vc.cons {w : World} {v : Value} {p : Pt} {t : List Pt} (h : Vc w v (p :: t)) : ∃ b off n cap, v = .slice (some ⟨b, off, none⟩) n cap ∧ n = t.length + 1 ∧ n ≤ cap ∧ cap ≤ maxLen ∧ b < w.heap.size ∧
    w.cell? ⟨b, off, none⟩ = some (.int .i64 p.1) ∧ w.cell? ⟨b, off + 1, none⟩ = some (.int .i64 p.2.1) ∧ w.cell? ⟨b, off + 2, none⟩ = some (.int .i64 p.2.2) ∧ Vc w (.slice (some ⟨b, off + 3, none⟩) (n - 1) (cap - 1)) t := by
  rcases h with ⟨_, h⟩ | ⟨b, off, cap, h1, h2, h3, h4, h5⟩
  · cases h
  · obtain ⟨c0, c1, c2⟩ := h5 0 (by simp)
    simp only [Nat.zero_mul, Nat.add_zero] at c0 c1 c2
    simp only [List.length_cons] at h1 h2
    refine ⟨b, off, t.length + 1, cap, h1, rfl, h2, h3, h4, c0, c1, c2, .inr ⟨b, off + 3, cap - 1, rfl, by omega, by omega, h4, fun i hi => ?_⟩⟩
    obtain ⟨d0, d1, d2⟩ := h5 (i + 1) (by simpa using hi)
    rw [show off + (i + 1) * 3 = off + 3 + i * 3 by omega] at d0 d1 d2
    exact ⟨d0, d1, d2⟩
theorem Vc.empty {w : World} {v : Value} (h : Vc w v []) : ∃ a cap, v = .slice a 0 cap := by
  obtain ⟨a, cap, h1, _⟩ := h.form; exact ⟨a, cap, h1⟩
/-- A row of the call's own that holds parts. -/
abbrev OwnP (w : World) (B : Nat) (v : Value) (l : List Pt) : Prop := w.ownsRow B 57 3 v l.length (pcells l)
theorem OwnP.vc {w : World} {B : Nat} {v : Value} {l : List Pt} (h : OwnP w B v l) : Vc w v l := by
  have h0 := h
  obtain ⟨h1, h2⟩ := h
  rcases h2 with ⟨h2, h3⟩ | ⟨g, cap, cur, a, b, c, d, e, f⟩
  · exact .inl ⟨⟨none, 0, h2, Nat.zero_le _, fun _ => rfl⟩, List.eq_nil_of_length_eq_zero h3⟩
  · subst a
    refine .inr ⟨g, 0, cap, rfl, d, e, (World.ownsRow.lt h0 g rfl).2, fun i hi => ?_⟩
    have hl : i * 3 + 2 < l.length * 3 := by omega
    obtain ⟨c0, c1, c2⟩ := pcells_get l i hi
    refine ⟨?_, ?_, ?_⟩
    · rw [Nat.zero_add, World.ownsRow.cellAt h0 _ (by omega)]; exact c0
    · rw [Nat.zero_add, World.ownsRow.cellAt h0 _ (by omega)]; exact c1
    · rw [Nat.zero_add, World.ownsRow.cellAt h0 _ (by omega)]; exact c2
set_option maxRecDepth 100000 in
theorem vecright_all (v : Value) (l : List Pt) : PureOn (fun w => Vc w v l) Try.prog 44 #[v] (.bool (decide (VR l))) := by
  intro W hV
  rcases hV with ⟨⟨a, cap, rfl, _⟩, rfl⟩ | ⟨b, off, cap, rfl, h2, h3, h4, h5⟩
  · have hq : decide (VR []) = true := decide_eq_true VR.nil
    rw [hq]
    go_enter Try.func44, Try.ntmps44
    go_wp2
    go_loopw [7] (fun i wr => i = .int .i64 0 ∧ Below W.heap.size W wr) (fun _ _ => 0)
    case atStart => exact ⟨rfl, by (repeat (first | assumption | exact Below.refl _ _ | refine ba ?_ _ | refine bd ?_ | refine bdn ?_ _ | refine bs ?_ (by first | omega | (simp; done) | (simp; omega)) _ | refine bt ?_ (by assumption)))⟩
    case round =>
      obtain ⟨rfl, hb1⟩ := hrel
      go_wp2
      go_ret
      exact ⟨rfl, hb1⟩
  · refine (vecright_some b off l.length cap (kk l) (rr l) (aa l) W h4 (by simp only [maxLen] at h3; omega) h5).mono ?_
    rintro e w' ⟨q, rfl, hq, hb⟩
    refine ⟨?_, hb⟩
    rw [vok_iff] at hq
    by_cases hv : VR l
    · rw [decide_eq_true hv, hq.2 hv]
    · rw [decide_eq_false hv]
      cases q with
      | true => exact absurd (hq.1 rfl) hv
      | false => rfl
theorem vecright_v (v : Value) (l : List Pt) (_ : l.length < 1000000000) : PureOn (fun w => Vc w v l) Try.prog 44 #[v] (.bool (decide (VR l))) := vecright_all v l
theorem eqL2 (k r k' r' : Int) (w : World) : (Op.equalIn 10000 142 (.agg #[.int .i64 k, .int .i64 r]) (.agg #[.int .i64 k', .int .i64 r'])).run Try.prog w = .ok (k == k' && r == r') w := by
  have u4 := Try.underlying3
  have a4' := Try.isAgg3
  have z4 := Try.sizeOf3
  rw [show (10000 : Nat) = 9999 + 1 from rfl, Op.equalIn]
  simp only [Sem.run_bind, run_underlying Try.underlying142, Result.andThen_ok]
  go_simp
  by_cases e1 : k = k' <;> by_cases e2 : r = r' <;> simp [e1, e2]
theorem eqP3 (k r a k' r' a' : Int) (w : World) : (Op.equalIn 10000 57 (.agg #[.int .i64 k, .int .i64 r, .int .i64 a]) (.agg #[.int .i64 k', .int .i64 r', .int .i64 a'])).run Try.prog w = .ok (k == k' && (r == r' && a == a')) w := by
  have u4 := Try.underlying3
  have a4' := Try.isAgg3
  have z4 := Try.sizeOf3
  have u3 := Try.underlying2
  have a3' := Try.isAgg2
  have z3 := Try.sizeOf2
  rw [show (10000 : Nat) = 9999 + 1 from rfl, Op.equalIn]
  simp only [Sem.run_bind, run_underlying Try.underlying57, Result.andThen_ok]
  go_simp
  by_cases e1 : k = k' <;> by_cases e2 : r = r' <;> by_cases e3 : a = a' <;> simp [e1, e2, e3]
attribute [local go_sem] eqL2 eqP3
set_option maxRecDepth 100000 in
theorem first_b (va vb : Value) (p : Pt) (t : List Pt) (W : World) (hA : Vc W va (p :: t)) (hB : Vc W vb []) : Calls Try.prog 121 #[va, vb] W fun e w' => e = .returned (L2 p.1 p.2.1) ∧ Below W.heap.size W w' := by
  obtain ⟨a', cap', rfl⟩ := hB.empty
  obtain ⟨b, off, n, cap, rfl, hn, k1, k2, k3, c0, c1, c2, _⟩ := hA.cons
  have HO := Lib.hid (vecof_any p.1 p.2.1 p.2.2)
  have hnI : 0 < (n : Int) := by omega
  have hnN : 0 < n := by omega
  clear hA hB hn
  go_enter Try.func121, Try.ntmps121
  go_wp2_with fail
  refine wp_region_pure (by kernel_rfl) (by kernel_rfl) ?_
  repeat (first | go_big_quiet_step ((fail)) | (quiet_step ((fail))))
  refine wpQuiet_nil ?_
  rintro w1 ⟨x1, hx1⟩
  have hb1 := ext_below _ x1
  rw [← hx1] at hb1
  clear hx1 x1
  have hs1 : W.heap.size + 1 ≤ w1.heap.size := (by have h := hb1.size; first | omega | (simp at h; omega))
  have hz1_0 : W.heap.size < w1.heap.size := (by omega)
  obtain ⟨hc1, hf1, hl1⟩ := bcell hb1
  clear hl1
  go_wp2_with fail
  (with_reducible refine (HO.out _).mono ?_)
  rintro e w2 ⟨rfl, hb2⟩
  have hs2 : w1.heap.size + 0 ≤ w2.heap.size := (by have h := hb2.size; first | omega | (simp at h; omega))
  have hb1_2 := bel hb1 hb2 (by (repeat (first | assumption | exact Below.refl _ _ | refine ba ?_ _ | refine bd ?_ | refine bdn ?_ _ | refine bs ?_ (by first | omega | (simp; done) | (simp; omega)) _ | refine bt ?_ (by assumption))))
  obtain ⟨hc1_2, hf1_2, hl1_2⟩ := bcell hb1_2
  clear hl1_2
  have hz2_0 : W.heap.size < w2.heap.size := (by omega)
  obtain ⟨hc2, hf2, hl2⟩ := bcell hb2
  clear hl2
  go_wp2
  refine bodyPost_ret (v := L2 p.1 p.2.1) (by simp [results, Try.results121, go_sem, *]) rfl ⟨rfl, ?_⟩
  (repeat (first | assumption | exact Below.refl _ _ | refine ba ?_ _ | refine bd ?_ | refine bdn ?_ _ | refine bs ?_ (by first | omega | (simp; done) | (simp; omega)) _ | refine bt ?_ (by assumption)))
set_option maxRecDepth 100000 in
theorem first_a (va vb : Value) (p : Pt) (t : List Pt) (W : World) (hA : Vc W va []) (hB : Vc W vb (p :: t)) : Calls Try.prog 121 #[va, vb] W fun e w' => e = .returned (L2 p.1 p.2.1) ∧ Below W.heap.size W w' := by
  obtain ⟨a', cap', rfl⟩ := hA.empty
  obtain ⟨b, off, n, cap, rfl, hn, k1, k2, k3, c0, c1, c2, _⟩ := hB.cons
  have HO := Lib.hid (vecof_any p.1 p.2.1 p.2.2)
  have hnI : 0 < (n : Int) := by omega
  have hnN : 0 < n := by omega
  have hn0 : ((n : Int) == 0) = false := by simp; omega
  clear hA hB hn
  go_enter Try.func121, Try.ntmps121
  go_wp2_with fail
  refine wp_region_pure (by kernel_rfl) (by kernel_rfl) ?_
  repeat (first | go_big_quiet_step ((fail)) | (quiet_step ((fail))))
  refine wpQuiet_nil ?_
  rintro w1 ⟨x1, hx1⟩
  have hb1 := ext_below _ x1
  rw [← hx1] at hb1
  clear hx1 x1
  have hs1 : W.heap.size + 1 ≤ w1.heap.size := (by have h := hb1.size; first | omega | (simp at h; omega))
  have hz1_0 : W.heap.size < w1.heap.size := (by omega)
  obtain ⟨hc1, hf1, hl1⟩ := bcell hb1
  clear hl1
  go_wp2_with fail
  (with_reducible refine (HO.out _).mono ?_)
  rintro e w2 ⟨rfl, hb2⟩
  have hs2 : w1.heap.size + 0 ≤ w2.heap.size := (by have h := hb2.size; first | omega | (simp at h; omega))
  have hb1_2 := bel hb1 hb2 (by (repeat (first | assumption | exact Below.refl _ _ | refine ba ?_ _ | refine bd ?_ | refine bdn ?_ _ | refine bs ?_ (by first | omega | (simp; done) | (simp; omega)) _ | refine bt ?_ (by assumption))))
  obtain ⟨hc1_2, hf1_2, hl1_2⟩ := bcell hb1_2
  clear hl1_2
  have hz2_0 : W.heap.size < w2.heap.size := (by omega)
  obtain ⟨hc2, hf2, hl2⟩ := bcell hb2
  clear hl2
  go_wp2
  refine bodyPost_ret (v := L2 p.1 p.2.1) (by simp [results, Try.results121, go_sem, *]) rfl ⟨rfl, ?_⟩
  (repeat (first | assumption | exact Below.refl _ _ | refine ba ?_ _ | refine bd ?_ | refine bdn ?_ _ | refine bs ?_ (by first | omega | (simp; done) | (simp; omega)) _ | refine bt ?_ (by assumption)))
set_option maxRecDepth 100000 in
theorem first_lt (va vb : Value) (x y : Pt) (s t : List Pt) (W : World) (hA : Vc W va (x :: s)) (hB : Vc W vb (y :: t)) (q : Int) (hq : lcmp x.1 x.2.1 y.1 y.2.1 = q) (h0 : q < 0) : Calls Try.prog 121 #[va, vb] W fun e w' => e = .returned (L2 x.1 x.2.1) ∧ Below W.heap.size W w' := by
  obtain ⟨b, off, n, cap, rfl, hn, k1, k2, k3, c0, c1, c2, _⟩ := hA.cons
  obtain ⟨b', off', n', cap', rfl, hn', k1', k2', k3', c0', c1', c2', _⟩ := hB.cons
  have HO := Lib.hid (vecof_any x.1 x.2.1 x.2.2)
  have HO2 := Lib.hid (vecof_any y.1 y.2.1 y.2.2)
  have HC := slotcmp_any x.1 x.2.1 y.1 y.2.1
  rw [hq] at HC
  have HC := Lib.hid HC
  have hnI : 0 < (n : Int) := by omega
  have hnN : 0 < n := by omega
  have hnJ : 0 < (n' : Int) := by omega
  have hn0 : ((n' : Int) == 0) = false := by simp; omega
  clear hA hB hn hn' hq
  go_enter Try.func121, Try.ntmps121
  go_wp2_with fail
  refine wp_region_pure (by kernel_rfl) (by kernel_rfl) ?_
  repeat (first | go_big_quiet_step (((first | (go_at_call 90; first | with_reducible exact HO.out.quiet | with_reducible exact HO2.out.quiet) | (go_at_call 91; with_reducible exact HC.out.quiet)))) | (quiet_step (((first | (go_at_call 90; first | with_reducible exact HO.out.quiet | with_reducible exact HO2.out.quiet) | (go_at_call 91; with_reducible exact HC.out.quiet))))))
  refine wpQuiet_nil ?_
  rintro w1 ⟨x1, hx1⟩
  have hb1 := ext_below _ x1
  rw [← hx1] at hb1
  clear hx1 x1
  have hs1 : W.heap.size + 1 ≤ w1.heap.size := (by have h := hb1.size; first | omega | (simp at h; omega))
  have hz1_0 : W.heap.size < w1.heap.size := (by omega)
  obtain ⟨hc1, hf1, hl1⟩ := bcell hb1
  clear hl1
  go_wp2_with fail
  (with_reducible refine (HO.out _).mono ?_)
  rintro e w2 ⟨rfl, hb2⟩
  have hs2 : w1.heap.size + 0 ≤ w2.heap.size := (by have h := hb2.size; first | omega | (simp at h; omega))
  have hb1_2 := bel hb1 hb2 (by (repeat (first | assumption | exact Below.refl _ _ | refine ba ?_ _ | refine bd ?_ | refine bdn ?_ _ | refine bs ?_ (by first | omega | (simp; done) | (simp; omega)) _ | refine bt ?_ (by assumption))))
  obtain ⟨hc1_2, hf1_2, hl1_2⟩ := bcell hb1_2
  clear hl1_2
  have hz2_0 : W.heap.size < w2.heap.size := (by omega)
  obtain ⟨hc2, hf2, hl2⟩ := bcell hb2
  clear hl2
  go_wp2
  refine bodyPost_ret (v := L2 x.1 x.2.1) (by simp [results, Try.results121, go_sem, *]) rfl ⟨rfl, ?_⟩
  (repeat (first | assumption | exact Below.refl _ _ | refine ba ?_ _ | refine bd ?_ | refine bdn ?_ _ | refine bs ?_ (by first | omega | (simp; done) | (simp; omega)) _ | refine bt ?_ (by assumption)))
set_option maxRecDepth 100000 in
theorem first_ge (va vb : Value) (x y : Pt) (s t : List Pt) (W : World) (hA : Vc W va (x :: s)) (hB : Vc W vb (y :: t)) (q : Int) (hq : lcmp x.1 x.2.1 y.1 y.2.1 = q) (h0 : 0 ≤ q) : Calls Try.prog 121 #[va, vb] W fun e w' => e = .returned (L2 y.1 y.2.1) ∧ Below W.heap.size W w' := by
  obtain ⟨b, off, n, cap, rfl, hn, k1, k2, k3, c0, c1, c2, _⟩ := hA.cons
  obtain ⟨b', off', n', cap', rfl, hn', k1', k2', k3', c0', c1', c2', _⟩ := hB.cons
  have HO := Lib.hid (vecof_any x.1 x.2.1 x.2.2)
  have HO2 := Lib.hid (vecof_any y.1 y.2.1 y.2.2)
  have HC := slotcmp_any x.1 x.2.1 y.1 y.2.1
  rw [hq] at HC
  have HC := Lib.hid HC
  have hnI : 0 < (n : Int) := by omega
  have hnN : 0 < n := by omega
  have hnJ : 0 < (n' : Int) := by omega
  have hn0 : ((n' : Int) == 0) = false := by simp; omega
  clear hA hB hn hn' hq
  go_enter Try.func121, Try.ntmps121
  go_wp2_with fail
  refine wp_region_pure (by kernel_rfl) (by kernel_rfl) ?_
  repeat (first | go_big_quiet_step (((first | (go_at_call 90; first | with_reducible exact HO.out.quiet | with_reducible exact HO2.out.quiet) | (go_at_call 91; with_reducible exact HC.out.quiet)))) | (quiet_step (((first | (go_at_call 90; first | with_reducible exact HO.out.quiet | with_reducible exact HO2.out.quiet) | (go_at_call 91; with_reducible exact HC.out.quiet))))))
  refine wpQuiet_nil ?_
  rintro w1 ⟨x1, hx1⟩
  have hb1 := ext_below _ x1
  rw [← hx1] at hb1
  clear hx1 x1
  have hs1 : W.heap.size + 1 ≤ w1.heap.size := (by have h := hb1.size; first | omega | (simp at h; omega))
  have hz1_0 : W.heap.size < w1.heap.size := (by omega)
  obtain ⟨hc1, hf1, hl1⟩ := bcell hb1
  clear hl1
  go_wp2_with fail
  (with_reducible refine (HO2.out _).mono ?_)
  rintro e w2 ⟨rfl, hb2⟩
  have hs2 : w1.heap.size + 0 ≤ w2.heap.size := (by have h := hb2.size; first | omega | (simp at h; omega))
  have hb1_2 := bel hb1 hb2 (by (repeat (first | assumption | exact Below.refl _ _ | refine ba ?_ _ | refine bd ?_ | refine bdn ?_ _ | refine bs ?_ (by first | omega | (simp; done) | (simp; omega)) _ | refine bt ?_ (by assumption))))
  obtain ⟨hc1_2, hf1_2, hl1_2⟩ := bcell hb1_2
  clear hl1_2
  have hz2_0 : W.heap.size < w2.heap.size := (by omega)
  obtain ⟨hc2, hf2, hl2⟩ := bcell hb2
  clear hl2
  go_wp2
  refine bodyPost_ret (v := L2 y.1 y.2.1) (by simp [results, Try.results121, go_sem, *]) rfl ⟨rfl, ?_⟩
  (repeat (first | assumption | exact Below.refl _ _ | refine ba ?_ _ | refine bd ?_ | refine bdn ?_ _ | refine bs ?_ (by first | omega | (simp; done) | (simp; omega)) _ | refine bt ?_ (by assumption)))
theorem first_v (va vb : Value) (la lb : List Pt) (hne : ¬ (la = [] ∧ lb = [])) (W : World) (hA : Vc W va la) (hB : Vc W vb lb) : Calls Try.prog 121 #[va, vb] W fun e w' => e = .returned (L2 (fst2 la lb).1 (fst2 la lb).2) ∧ Below W.heap.size W w' := by
  cases la with
  | nil =>
    cases lb with
    | nil => exact absurd ⟨rfl, rfl⟩ hne
    | cons y t => exact first_a va vb y t W hA hB
  | cons x s =>
    cases lb with
    | nil => exact first_b va vb x s W hA hB
    | cons y t =>
      by_cases hc : lcmp x.1 x.2.1 y.1 y.2.1 < 0
      · rw [show fst2 (x :: s) (y :: t) = (x.1, x.2.1) from if_pos hc]
        exact first_lt va vb x y s t W hA hB _ rfl hc
      · rw [show fst2 (x :: s) (y :: t) = (y.1, y.2.1) from if_neg hc]
        exact first_ge va vb x y s t W hA hB _ rfl (by omega)
/-- What follows a vector's first part. -/
def tlV (v : Value) (l : List Pt) (s : Int × Int) : Value :=
  match l with
  | [] => v
  | p :: _ => if p.1 = s.1 ∧ p.2.1 = s.2 then (match v with | .slice (some ⟨b, off, none⟩) n cap => if cap = 1 then .slice (some ⟨b, off, none⟩) (n - 1) 0 else .slice (some ⟨b, off + 3, none⟩) (n - 1) (cap - 1) | v => v) else v
theorem Vc.tl {w : World} {v : Value} {l : List Pt} (h : Vc w v l) (s : Int × Int) : Vc w (tlV v l s) (nxT l s) := by
  cases l with
  | nil => exact h
  | cons p t =>
    unfold tlV nxT
    by_cases he : p.1 = s.1 ∧ p.2.1 = s.2
    · simp only [if_pos he]
      obtain ⟨b, off, n, cap, rfl, hn, hnc, _, hlt, _, _, _, h'⟩ := h.cons
      by_cases hc : cap = 1
      · simp only [if_pos hc]
        have h0 : t = [] := List.eq_nil_of_length_eq_zero (by omega)
        subst h0
        exact .inr ⟨b, off, 0, by rw [hn]; rfl, Nat.le_refl _, Nat.zero_le _, hlt, fun i hi => by simp at hi⟩
      · simp only [if_neg hc]; exact h'
    · simp only [if_neg he]; exact h
set_option maxRecDepth 100000 in
theorem next_nil (v : Value) (k r : Int) (W : World) (hV : Vc W v []) : Calls Try.prog 122 #[v, L2 k r] W fun e w' => e = .returned (.tuple #[.int .i64 0, v]) ∧ Below W.heap.size W w' := by
  obtain ⟨a', cap', rfl⟩ := hV.empty
  clear hV
  go_enter Try.func122, Try.ntmps122
  go_wp2_with fail
  refine wp_region_pure (by kernel_rfl) (by kernel_rfl) ?_
  repeat (first | go_big_quiet_step ((fail)) | (quiet_step ((fail))))
  refine wpQuiet_nil ?_
  rintro w1 ⟨x1, hx1⟩
  have hb1 := ext_below _ x1
  rw [← hx1] at hb1
  clear hx1 x1
  have hs1 : W.heap.size + 1 ≤ w1.heap.size := (by have h := hb1.size; first | omega | (simp at h; omega))
  have hz1_0 : W.heap.size < w1.heap.size := (by omega)
  obtain ⟨hc1, hf1, hl1⟩ := bcell hb1
  clear hl1
  go_wp2
  go_ret2
  refine ⟨rfl, ?_⟩
  (repeat (first | assumption | exact Below.refl _ _ | refine ba ?_ _ | refine bd ?_ | refine bdn ?_ _ | refine bs ?_ (by first | omega | (simp; done) | (simp; omega)) _ | refine bt ?_ (by assumption)))
set_option maxRecDepth 100000 in
theorem next_hit (v : Value) (p : Pt) (t : List Pt) (W : World) (hV : Vc W v (p :: t)) : Calls Try.prog 122 #[v, L2 p.1 p.2.1] W fun e w' => e = .returned (.tuple #[.int .i64 p.2.2, tlV v (p :: t) (p.1, p.2.1)]) ∧ Below W.heap.size W w' := by
  obtain ⟨b, off, n, cap, rfl, hn, k1, k2, k3, c0, c1, c2, _⟩ := hV.cons
  have HO := Lib.hid (vecof_any p.1 p.2.1 p.2.2)
  have hnI : 0 < (n : Int) := by omega
  have hnN : 0 < n := by omega
  have hnJ : 1 ≤ (n : Int) := by omega
  have hcI : (n : Int) ≤ (cap : Int) := by omega
  have hn0 : ((n : Int) == 0) = false := by simp; omega
  clear hV hn
  by_cases hcap : cap = 1
  · have ht : tlV (.slice (some ⟨b, off, none⟩) n cap) (p :: t) (p.1, p.2.1) = .slice (some ⟨b, off, none⟩) (n - 1) 0 := by
      show (if p.1 = p.1 ∧ p.2.1 = p.2.1 then (if cap = 1 then _ else _) else _) = _
      rw [if_pos ⟨rfl, rfl⟩, if_pos hcap]
    rw [ht]
    clear ht
    subst hcap
    obtain rfl : n = 1 := by omega
    go_enter Try.func122, Try.ntmps122
    go_wp2_with fail
    refine wp_region_pure (by kernel_rfl) (by kernel_rfl) ?_
    repeat (first | go_big_quiet_step (((go_at_call 90; with_reducible exact HO.out.quiet))) | (quiet_step (((go_at_call 90; with_reducible exact HO.out.quiet)))))
    refine wpQuiet_nil ?_
    rintro w1 ⟨x1, hx1⟩
    have hb1 := ext_below _ x1
    rw [← hx1] at hb1
    clear hx1 x1
    have hs1 : W.heap.size + 1 ≤ w1.heap.size := (by have h := hb1.size; first | omega | (simp at h; omega))
    have hz1_0 : W.heap.size < w1.heap.size := (by omega)
    obtain ⟨hc1, hf1, hl1⟩ := bcell hb1
    clear hl1
    have hbl : b < w1.heap.size := by omega
    go_wp2_with fail
    refine wp_region_pure (by kernel_rfl) (by kernel_rfl) ?_
    repeat (first | go_big_quiet_step ((fail)) | (quiet_step ((fail))))
    refine wpQuiet_nil ?_
    rintro w2 ⟨x2, hx2⟩
    have hb2 := ext_below _ x2
    rw [← hx2] at hb2
    clear hx2 x2
    have hs2 : w1.heap.size + 0 ≤ w2.heap.size := (by have h := hb2.size; first | omega | (simp at h; omega))
    have hb1_2 := bel hb1 hb2 (by (repeat (first | assumption | exact Below.refl _ _ | refine ba ?_ _ | refine bd ?_ | refine bdn ?_ _ | refine bs ?_ (by first | omega | (simp; done) | (simp; omega)) _ | refine bt ?_ (by assumption))))
    clear hz1_0 hc1 hf1
    obtain ⟨hc1_2, hf1_2, hl1_2⟩ := bcell hb1_2
    clear hl1_2
    have hz2_0 : W.heap.size < w2.heap.size := (by omega)
    obtain ⟨hc2, hf2, hl2⟩ := bcell hb2
    clear hl2
    go_wp2
    go_ret2
    refine ⟨rfl, ?_⟩
    (repeat (first | assumption | exact Below.refl _ _ | refine ba ?_ _ | refine bd ?_ | refine bdn ?_ _ | refine bs ?_ (by first | omega | (simp; done) | (simp; omega)) _ | refine bt ?_ (by assumption)))
  · have ht : tlV (.slice (some ⟨b, off, none⟩) n cap) (p :: t) (p.1, p.2.1) = .slice (some ⟨b, off + 3, none⟩) (n - 1) (cap - 1) := by
      show (if p.1 = p.1 ∧ p.2.1 = p.2.1 then (if cap = 1 then _ else _) else _) = _
      rw [if_pos ⟨rfl, rfl⟩, if_neg hcap]
    rw [ht]
    clear ht
    have hc2 : 2 ≤ cap := by omega
    have hc3 : cap - 1 ≠ 0 := by omega
    have hc4 : 1 < cap := by omega
    go_enter Try.func122, Try.ntmps122
    go_wp2_with fail
    refine wp_region_pure (by kernel_rfl) (by kernel_rfl) ?_
    repeat (first | go_big_quiet_step (((go_at_call 90; with_reducible exact HO.out.quiet))) | (quiet_step (((go_at_call 90; with_reducible exact HO.out.quiet)))))
    refine wpQuiet_nil ?_
    rintro w1 ⟨x1, hx1⟩
    have hb1 := ext_below _ x1
    rw [← hx1] at hb1
    clear hx1 x1
    have hs1 : W.heap.size + 1 ≤ w1.heap.size := (by have h := hb1.size; first | omega | (simp at h; omega))
    have hz1_0 : W.heap.size < w1.heap.size := (by omega)
    obtain ⟨hc1, hf1, hl1⟩ := bcell hb1
    clear hl1
    have hbl : b < w1.heap.size := by omega
    go_wp2_with fail
    refine wp_region_pure (by kernel_rfl) (by kernel_rfl) ?_
    repeat (first | go_big_quiet_step ((fail)) | (quiet_step ((fail))))
    refine wpQuiet_nil ?_
    rintro w2 ⟨x2, hx2⟩
    have hb2 := ext_below _ x2
    rw [← hx2] at hb2
    clear hx2 x2
    have hs2 : w1.heap.size + 0 ≤ w2.heap.size := (by have h := hb2.size; first | omega | (simp at h; omega))
    have hb1_2 := bel hb1 hb2 (by (repeat (first | assumption | exact Below.refl _ _ | refine ba ?_ _ | refine bd ?_ | refine bdn ?_ _ | refine bs ?_ (by first | omega | (simp; done) | (simp; omega)) _ | refine bt ?_ (by assumption))))
    clear hz1_0 hc1 hf1
    obtain ⟨hc1_2, hf1_2, hl1_2⟩ := bcell hb1_2
    clear hl1_2
    have hz2_0 : W.heap.size < w2.heap.size := (by omega)
    obtain ⟨hc2, hf2, hl2⟩ := bcell hb2
    clear hl2
    go_wp2
    go_ret2
    refine ⟨rfl, ?_⟩
    (repeat (first | assumption | exact Below.refl _ _ | refine ba ?_ _ | refine bd ?_ | refine bdn ?_ _ | refine bs ?_ (by first | omega | (simp; done) | (simp; omega)) _ | refine bt ?_ (by assumption)))
set_option maxRecDepth 100000 in
theorem next_m1 (v : Value) (p : Pt) (t : List Pt) (k r : Int) (h : p.1 ≠ k) (W : World) (hV : Vc W v (p :: t)) : Calls Try.prog 122 #[v, L2 k r] W fun e w' => e = .returned (.tuple #[.int .i64 0, v]) ∧ Below W.heap.size W w' := by
  obtain ⟨b, off, n, cap, rfl, hn, k1, k2, k3, c0, c1, c2, _⟩ := hV.cons
  have HO := Lib.hid (vecof_any p.1 p.2.1 p.2.2)
  have hnI : 0 < (n : Int) := by omega
  have hnN : 0 < n := by omega
  have hn0 : ((n : Int) == 0) = false := by simp; omega
  have he : (p.1 == k) = false := by simpa using h
  clear hV hn h
  go_enter Try.func122, Try.ntmps122
  go_wp2_with fail
  refine wp_region_pure (by kernel_rfl) (by kernel_rfl) ?_
  repeat (first | go_big_quiet_step (((go_at_call 90; with_reducible exact HO.out.quiet))) | (quiet_step (((go_at_call 90; with_reducible exact HO.out.quiet)))))
  refine wpQuiet_nil ?_
  rintro w1 ⟨x1, hx1⟩
  have hb1 := ext_below _ x1
  rw [← hx1] at hb1
  clear hx1 x1
  have hs1 : W.heap.size + 1 ≤ w1.heap.size := (by have h := hb1.size; first | omega | (simp at h; omega))
  have hz1_0 : W.heap.size < w1.heap.size := (by omega)
  obtain ⟨hc1, hf1, hl1⟩ := bcell hb1
  clear hl1
  go_wp2
  go_ret2
  refine ⟨rfl, ?_⟩
  (repeat (first | assumption | exact Below.refl _ _ | refine ba ?_ _ | refine bd ?_ | refine bdn ?_ _ | refine bs ?_ (by first | omega | (simp; done) | (simp; omega)) _ | refine bt ?_ (by assumption)))
set_option maxRecDepth 100000 in
theorem next_m2 (v : Value) (p : Pt) (t : List Pt) (k r : Int) (h : p.2.1 ≠ r) (W : World) (hV : Vc W v (p :: t)) : Calls Try.prog 122 #[v, L2 k r] W fun e w' => e = .returned (.tuple #[.int .i64 0, v]) ∧ Below W.heap.size W w' := by
  obtain ⟨b, off, n, cap, rfl, hn, k1, k2, k3, c0, c1, c2, _⟩ := hV.cons
  have HO := Lib.hid (vecof_any p.1 p.2.1 p.2.2)
  have hnI : 0 < (n : Int) := by omega
  have hnN : 0 < n := by omega
  have hn0 : ((n : Int) == 0) = false := by simp; omega
  have he : (p.2.1 == r) = false := by simpa using h
  clear hV hn h
  go_enter Try.func122, Try.ntmps122
  go_wp2_with fail
  refine wp_region_pure (by kernel_rfl) (by kernel_rfl) ?_
  repeat (first | go_big_quiet_step (((go_at_call 90; with_reducible exact HO.out.quiet))) | (quiet_step (((go_at_call 90; with_reducible exact HO.out.quiet)))))
  refine wpQuiet_nil ?_
  rintro w1 ⟨x1, hx1⟩
  have hb1 := ext_below _ x1
  rw [← hx1] at hb1
  clear hx1 x1
  have hs1 : W.heap.size + 1 ≤ w1.heap.size := (by have h := hb1.size; first | omega | (simp at h; omega))
  have hz1_0 : W.heap.size < w1.heap.size := (by omega)
  obtain ⟨hc1, hf1, hl1⟩ := bcell hb1
  clear hl1
  go_wp2
  go_ret2
  refine ⟨rfl, ?_⟩
  (repeat (first | assumption | exact Below.refl _ _ | refine ba ?_ _ | refine bd ?_ | refine bdn ?_ _ | refine bs ?_ (by first | omega | (simp; done) | (simp; omega)) _ | refine bt ?_ (by assumption)))
theorem next_v (v : Value) (l : List Pt) (s : Int × Int) (W : World) (hV : Vc W v l) : Calls Try.prog 122 #[v, L2 s.1 s.2] W fun e w' => e = .returned (.tuple #[.int .i64 (nxA l s), tlV v l s]) ∧ Below W.heap.size W w' := by
  cases l with
  | nil => exact next_nil v s.1 s.2 W hV
  | cons p t =>
    by_cases he : p.1 = s.1 ∧ p.2.1 = s.2
    · rw [show nxA (p :: t) s = p.2.2 from if_pos he]
      obtain ⟨k, r⟩ := s
      obtain ⟨e1, e2⟩ := he
      simp only at e1 e2
      subst e1 e2
      exact next_hit v p t W hV
    · rw [show nxA (p :: t) s = 0 from if_neg he, show tlV v (p :: t) s = v from if_neg he]
      by_cases h1 : p.1 = s.1
      · exact next_m2 v p t s.1 s.2 (fun e => he ⟨h1, e⟩) W hV
      · exact next_m1 v p t s.1 s.2 h1 W hV
set_option maxRecDepth 100000 in
theorem part_any (k r a : Int) : Pure Try.prog 123 #[L2 k r, .int .i64 a] (P3 k r a) := by
  intro W
  go_enter Try.func123, Try.ntmps123
  go_wp2
  refine bodyPost_ret (v := P3 k r a) (by simp [results, Try.results123, go_sem, *]) rfl ⟨rfl, ?_⟩
  (repeat (first | assumption | exact Below.refl _ _ | refine ba ?_ _ | refine bd ?_ | refine bdn ?_ _ | refine bs ?_ (by first | omega | (simp; done) | (simp; omega)) _ | refine bt ?_ (by assumption)))
end Go.Proofs.Ytennhfkhdfalfaa

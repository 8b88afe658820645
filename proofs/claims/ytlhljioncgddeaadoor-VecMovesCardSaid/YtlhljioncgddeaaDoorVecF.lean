/- The walk of VecOf. Condition: the names of the kinds and the powers of ten lie in their variables; the numbers are int64. -/
import Derived.Test.YtlhljioncgddeaaDoorVr3
import Derived.Test.YtlhljioncgddeaaDoorVecL
namespace Go.Proofs.YtlhljioncgddeaaDoor
open Go.RowKit
attribute [local go_sem] ext_cell ext_frozen Mix.calmUpon Mix.mUpon
theorem rsame_v (va vb : Value) (l : List Pt) (hl : l.length < 1000000000) : PureOn (fun w => Vc w va l ∧ Vc w vb l) Tryd.prog 14 #[va, vb] (.bool true) := by
  have h := rsame_any va vb l l hl
  rw [decide_eq_true rfl] at h
  exact h
theorem ofO_len (l : List Pt) : ((ofO l).getD []).length ≤ 132 := by
  unfold ofO
  split
  · rename_i h; exact vr_len (ofV_vr h)
  · simp
theorem few2s (W : World) (T T' : TypeId) (k r : Int) (a a' : Option Addr) (n n' c c' : Nat) : Calls Tryd.prog 11 #[.slice (some ⟨W.heap.size + 1, 0, none⟩) 2 2] ((W.alloc (.cells #[.int .i64 k, .int .i64 r] T')).alloc (.cells #[.slice a n c, .slice a' n' c'] T)) fun e w' => e = .returned (.bool (decide (n ≤ 150 ∧ n' ≤ 150))) ∧ Below ((W.alloc (.cells #[.int .i64 k, .int .i64 r] T')).alloc (.cells #[.slice a n c, .slice a' n' c'] T)).heap.size ((W.alloc (.cells #[.int .i64 k, .int .i64 r] T')).alloc (.cells #[.slice a n c, .slice a' n' c'] T)) w' := by
  have h := few2 (W.alloc (.cells #[.int .i64 k, .int .i64 r] T')) T a a' n n' c c'
  have e : (W.alloc (.cells #[.int .i64 k, .int .i64 r] T')).heap.size = W.heap.size + 1 := by simp
  rw [e] at h
  exact h
set_option maxRecDepth 100000 in
set_option maxHeartbeats 4000000 in
theorem vlaw1_long (va vb : Value) (la lb : List Pt) (k r : Int) (W : World) (hA : Vc W va la) (hV : Vc W vb lb) (hl : ¬ (la.length ≤ 150 ∧ lb.length ≤ 150)) : Calls Tryd.prog 3 #[va, vb, L2 k r] W fun e w' => e = .returned (.bool true) ∧ Below W.heap.size W w' := by
  obtain ⟨a, n, c, rfl, hn, _, _⟩ := hA.form'
  obtain ⟨a', n', c', rfl, hn', _, _⟩ := hV.form'
  have HF := few2s W 22 24 k r a a' n n' c c'
  rw [hn, hn', decide_eq_false hl, ← hn, ← hn'] at HF
  have HF := Lib.hid HF
  clear hA hV hn hn' hl
  go_enter Tryd.func3, Tryd.ntmps3
  go_wp2_with fail
  (with_reducible refine (HF.out).mono ?_)
  rintro e w1 ⟨rfl, hb1⟩
  have hs1 : W.heap.size + 2 ≤ w1.heap.size := (by have h := hb1.size; first | omega | (simp at h; omega))
  have hz1_0 : W.heap.size < w1.heap.size := (by omega)
  have hz1_1 : W.heap.size + 1 < w1.heap.size := (by omega)
  obtain ⟨hc1, hf1, hl1⟩ := bcell hb1
  clear hl1
  go_wp2
  go_ret
  refine ⟨rfl, ?_⟩
  (repeat (first | assumption | exact Below.refl _ _ | refine ba ?_ _ | refine bd ?_ | refine bdn ?_ _ | refine bs ?_ (by first | omega | (simp; done) | (simp; omega)) _ | refine bt ?_ (by assumption)))
set_option maxRecDepth 100000 in
set_option maxHeartbeats 8000000 in
theorem vlaw1_short (va vb : Value) (la lb : List Pt) (k r : Int) (W : World) (hA : Vc W va la) (hV : Vc W vb lb) (hI : I64s la) (hT : TN W) (hl : la.length ≤ 150 ∧ lb.length ≤ 150) : Calls Tryd.prog 3 #[va, vb, L2 k r] W fun e w' => e = .returned (.bool true) ∧ Below W.heap.size W w' := by
  have HA := Lib.hid hA; have HV := Lib.hid hV; have HT := Lib.hid hT
  obtain ⟨a, n, c, rfl, hn, _, _⟩ := hA.form'
  obtain ⟨a', n', c', rfl, hn', _, _⟩ := hV.form'
  have HF := few2s W 22 24 k r a a' n n' c c'
  rw [hn, hn', decide_eq_true hl, ← hn, ← hn'] at HF
  have HF := Lib.hid HF
  obtain ⟨l1, l2⟩ := hl
  have hL := ofO_len la
  have K1 := fun w (h : Vc w (.slice a n c) la) => vof_any (.slice a n c) la hI (by omega) w h
  have K2 := fun w (h : Vc w (.slice a n c) la) => rof_any (.slice a n c) la (by omega) w h
  unfold RetO at K1 K2
  generalize hq : (ofO la).isSome = q at K1 K2
  generalize hQ : (ofO la).getD [] = L at K1 K2 hL
  have K1 := Lib.hid K1; have K2 := Lib.hid K2
  have K3 := Lib.hid fun x y => rsame_v x y L (by omega)
  have R1 := vecright_v (.slice a' n' c') lb (by omega)
  have R2 := rright_v (.slice a' n' c') lb (by omega)
  generalize decide (VR lb) = z at R1 R2
  have R1 := Lib.hid R1; have R2 := Lib.hid R2
  have G1 := vget_any (.slice a' n' c') lb k r (by omega)
  have G2 := rget_any (.slice a' n' c') lb k r (by omega)
  generalize gt lb k r = g at G1 G2
  have G1 := Lib.hid G1; have G2 := Lib.hid G2
  have S1 := same_any (.slice a n c) (.slice a' n' c') la lb (by omega)
  have S2 := rsame_any (.slice a n c) (.slice a' n' c') la lb (by omega)
  generalize decide (la = lb) = y at S1 S2
  have S1 := Lib.hid S1; have S2 := Lib.hid S2
  have C1 := Lib.hid fun w (h : Vc w (.slice a' n' c') lb) => vcopy_any (.slice a' n' c') lb (by omega) w h
  have C2 := Lib.hid fun x y => rsame_v x y lb (by omega)
  clear hA hV hI hT hn hn' l1 l2 hL hq hQ
  go_enter Tryd.func3, Tryd.ntmps3
  go_wp2_with fail
  (with_reducible refine (HF.out).mono ?_)
  rintro e w1 ⟨rfl, hb1⟩
  have hs1 : W.heap.size + 2 ≤ w1.heap.size := (by have h := hb1.size; first | omega | (simp at h; omega))
  have hz1_0 : W.heap.size < w1.heap.size := (by omega)
  have hz1_1 : W.heap.size + 1 < w1.heap.size := (by omega)
  obtain ⟨hc1, hf1, hl1⟩ := bcell hb1
  clear hl1
  go_wp2_with fail
  refine (K1.out _ (HA.out.on (by (repeat (first | assumption | exact Below.refl _ _ | refine ba ?_ _ | refine bd ?_ | refine bdn ?_ _ | refine bs ?_ (by first | omega | (simp; done) | (simp; omega)) _ | refine bt ?_ (by assumption)))))).mono ?_
  rintro e w2 ⟨v2, rfl, hv2, hb2⟩
  have HV2 := Lib.hid hv2
  clear hv2
  have hs2 : w1.heap.size + 0 ≤ w2.heap.size := (by have h := hb2.size; first | omega | (simp at h; omega))
  have hb1_2 := bel hb1 hb2 (by (repeat (first | assumption | exact Below.refl _ _ | refine ba ?_ _ | refine bd ?_ | refine bdn ?_ _ | refine bs ?_ (by first | omega | (simp; done) | (simp; omega)) _ | refine bt ?_ (by assumption))))
  clear hz1_0 hz1_1 hc1 hf1
  obtain ⟨hc1_2, hf1_2, hl1_2⟩ := bcell hb1_2
  clear hl1_2
  have hz2_0 : W.heap.size < w2.heap.size := (by omega)
  have hz2_1 : W.heap.size + 1 < w2.heap.size := (by omega)
  obtain ⟨hc2, hf2, hl2⟩ := bcell hb2
  clear hl2
  go_wp2_with fail
  refine (K2.out _ (HA.out.on (by (repeat (first | assumption | exact Below.refl _ _ | refine ba ?_ _ | refine bd ?_ | refine bdn ?_ _ | refine bs ?_ (by first | omega | (simp; done) | (simp; omega)) _ | refine bt ?_ (by assumption)))))).mono ?_
  rintro e w3 ⟨v3, rfl, hv3, hb3⟩
  have HV3 := Lib.hid hv3
  clear hv3
  have hs3 : w2.heap.size + 0 ≤ w3.heap.size := (by have h := hb3.size; first | omega | (simp at h; omega))
  have hb1_3 := bel hb1_2 hb3 (by (repeat (first | assumption | exact Below.refl _ _ | refine ba ?_ _ | refine bd ?_ | refine bdn ?_ _ | refine bs ?_ (by first | omega | (simp; done) | (simp; omega)) _ | refine bt ?_ (by assumption))))
  have hb2_3 := bel hb2 hb3 (by (repeat (first | assumption | exact Below.refl _ _ | refine ba ?_ _ | refine bd ?_ | refine bdn ?_ _ | refine bs ?_ (by first | omega | (simp; done) | (simp; omega)) _ | refine bt ?_ (by assumption))))
  clear hc1_2 hf1_2 hz2_0 hz2_1 hc2 hf2
  obtain ⟨hc1_3, hf1_3, hl1_3⟩ := bcell hb1_3
  clear hl1_3
  have hz3_0 : W.heap.size < w3.heap.size := (by omega)
  have hz3_1 : W.heap.size + 1 < w3.heap.size := (by omega)
  obtain ⟨hc3, hf3, hl3⟩ := bcell hb3
  clear hl3
  have A3 := Lib.hid (HA.out.on (show Below W.heap.size W w3 by (repeat (first | assumption | exact Below.refl _ _ | refine ba ?_ _ | refine bd ?_ | refine bdn ?_ _ | refine bs ?_ (by first | omega | (simp; done) | (simp; omega)) _ | refine bt ?_ (by assumption)))))
  have V3 := Lib.hid (HV.out.on (show Below W.heap.size W w3 by (repeat (first | assumption | exact Below.refl _ _ | refine ba ?_ _ | refine bd ?_ | refine bdn ?_ _ | refine bs ?_ (by first | omega | (simp; done) | (simp; omega)) _ | refine bt ?_ (by assumption)))))
  have B3 := Lib.hid (HV2.out.on (show Below w2.heap.size w2 w3 by (repeat (first | assumption | exact Below.refl _ _ | refine ba ?_ _ | refine bd ?_ | refine bdn ?_ _ | refine bs ?_ (by first | omega | (simp; done) | (simp; omega)) _ | refine bt ?_ (by assumption)))))
  have T3 := Lib.hid (TN.on HT.out (show Below W.heap.size W w3 by (repeat (first | assumption | exact Below.refl _ _ | refine ba ?_ _ | refine bd ?_ | refine bdn ?_ _ | refine bs ?_ (by first | omega | (simp; done) | (simp; omega)) _ | refine bt ?_ (by assumption)))))
  have X1 := Lib.hid (fun x : Ext w3 => And.intro (B3.out.on (ext_below _ x)) (HV3.out.on (ext_below _ x)))
  have X2 := Lib.hid (fun x : Ext w3 => V3.out.on (ext_below _ x))
  have X3 := Lib.hid (fun x : Ext w3 => And.intro (A3.out.on (ext_below _ x)) (V3.out.on (ext_below _ x)))
  go_wp2_with fail
  refine Mix.region0 (by kernel_rfl) ?_
  intro w4 hb4
  refine Mix.take_ex (_) 0 rfl (by kernel_rfl) (by kernel_rfl) (by kernel_rfl) (by kernel_rfl) (fun K hK => ?_)
  go_simp
  first | (refine hK _ ?_; clear hK K) | (apply Exists.intro; refine ⟨fun x => ?_, hK _ ?_⟩; (fail); clear hK K)
  refine Mix.take_ex (_) 1 rfl (by kernel_rfl) (by kernel_rfl) (by kernel_rfl) (by kernel_rfl) (fun K hK => ?_)
  go_simp
  first | (refine hK _ ?_; clear hK K) | (apply Exists.intro; refine ⟨fun x => ?_, hK _ ?_⟩; (fail); clear hK K)
  refine Mix.take_ex (_) 2 rfl (by kernel_rfl) (by kernel_rfl) (by kernel_rfl) (by kernel_rfl) (fun K hK => ?_)
  go_simp
  first | (refine hK _ ?_; clear hK K) | (apply Exists.intro; refine ⟨fun x => ?_, hK _ ?_⟩; ((go_at_call 14; with_reducible exact (K3.out _ _).app _ (X1.out _))); clear hK K)
  refine Mix.take_ex (_) 3 rfl (by kernel_rfl) (by kernel_rfl) (by kernel_rfl) (by kernel_rfl) (fun K hK => ?_)
  go_simp
  first | (refine hK _ ?_; clear hK K) | (apply Exists.intro; refine ⟨fun x => ?_, hK _ ?_⟩; (fail); clear hK K)
  refine Mix.take_ex (_) 4 rfl (by kernel_rfl) (by kernel_rfl) (by kernel_rfl) (by kernel_rfl) (fun K hK => ?_)
  go_simp
  first | (refine hK _ ?_; clear hK K) | (apply Exists.intro; refine ⟨fun x => ?_, hK _ ?_⟩; (fail); clear hK K)
  refine Mix.take_ex (_) 5 rfl (by kernel_rfl) (by kernel_rfl) (by kernel_rfl) (by kernel_rfl) (fun K hK => ?_)
  go_simp
  first | (refine hK _ ?_; clear hK K) | (apply Exists.intro; refine ⟨fun x => ?_, hK _ ?_⟩; (fail); clear hK K)
  refine Mix.take_ex (_) 6 rfl (by kernel_rfl) (by kernel_rfl) (by kernel_rfl) (by kernel_rfl) (fun K hK => ?_)
  go_simp
  first | (refine hK _ ?_; clear hK K) | (apply Exists.intro; refine ⟨fun x => ?_, hK _ ?_⟩; (fail); clear hK K)
  refine Mix.take_ex (_) 7 rfl (by kernel_rfl) (by kernel_rfl) (by kernel_rfl) (by kernel_rfl) (fun K hK => ?_)
  go_simp
  first | (refine hK _ ?_; clear hK K) | (apply Exists.intro; refine ⟨fun x => ?_, hK _ ?_⟩; (fail); clear hK K)
  refine Mix.take_ex (_) 8 rfl (by kernel_rfl) (by kernel_rfl) (by kernel_rfl) (by kernel_rfl) (fun K hK => ?_)
  go_simp
  first | (refine hK _ ?_; clear hK K) | (apply Exists.intro; refine ⟨fun x => ?_, hK _ ?_⟩; (fail); clear hK K)
  refine Mix.take_ex (_) 9 rfl (by kernel_rfl) (by kernel_rfl) (by kernel_rfl) (by kernel_rfl) (fun K hK => ?_)
  go_simp
  first | (refine hK _ ?_; clear hK K) | (apply Exists.intro; refine ⟨fun x => ?_, hK _ ?_⟩; (fail); clear hK K)
  refine Mix.take_ex (_) 10 rfl (by kernel_rfl) (by kernel_rfl) (by kernel_rfl) (by kernel_rfl) (fun K hK => ?_)
  go_simp
  first | (refine hK _ ?_; clear hK K) | (apply Exists.intro; refine ⟨fun x => ?_, hK _ ?_⟩; ((go_at_call 15; with_reducible exact R1.out.app _ (X2.out _))); clear hK K)
  refine Mix.take_ex (_) 11 rfl (by kernel_rfl) (by kernel_rfl) (by kernel_rfl) (by kernel_rfl) (fun K hK => ?_)
  go_simp
  first | (refine hK _ ?_; clear hK K) | (apply Exists.intro; refine ⟨fun x => ?_, hK _ ?_⟩; (fail); clear hK K)
  refine Mix.take_ex (_) 12 rfl (by kernel_rfl) (by kernel_rfl) (by kernel_rfl) (by kernel_rfl) (fun K hK => ?_)
  go_simp
  first | (refine hK _ ?_; clear hK K) | (apply Exists.intro; refine ⟨fun x => ?_, hK _ ?_⟩; ((go_at_call 16; with_reducible exact R2.out.app _ (X2.out _))); clear hK K)
  refine Mix.take_ex (_) 13 rfl (by kernel_rfl) (by kernel_rfl) (by kernel_rfl) (by kernel_rfl) (fun K hK => ?_)
  go_simp
  first | (refine hK _ ?_; clear hK K) | (apply Exists.intro; refine ⟨fun x => ?_, hK _ ?_⟩; (fail); clear hK K)
  refine Mix.take_ex (_) 14 rfl (by kernel_rfl) (by kernel_rfl) (by kernel_rfl) (by kernel_rfl) (fun K hK => ?_)
  go_simp
  first | (refine hK _ ?_; clear hK K) | (apply Exists.intro; refine ⟨fun x => ?_, hK _ ?_⟩; (fail); clear hK K)
  refine Mix.take_ex (_) 15 rfl (by kernel_rfl) (by kernel_rfl) (by kernel_rfl) (by kernel_rfl) (fun K hK => ?_)
  go_simp
  first | (refine hK _ ?_; clear hK K) | (apply Exists.intro; refine ⟨fun x => ?_, hK _ ?_⟩; (fail); clear hK K)
  refine Mix.take_ex (_) 16 rfl (by kernel_rfl) (by kernel_rfl) (by kernel_rfl) (by kernel_rfl) (fun K hK => ?_)
  go_simp
  first | (refine hK _ ?_; clear hK K) | (apply Exists.intro; refine ⟨fun x => ?_, hK _ ?_⟩; (fail); clear hK K)
  refine Mix.take_ex (_) 17 rfl (by kernel_rfl) (by kernel_rfl) (by kernel_rfl) (by kernel_rfl) (fun K hK => ?_)
  go_simp
  first | (refine hK _ ?_; clear hK K) | (apply Exists.intro; refine ⟨fun x => ?_, hK _ ?_⟩; (fail); clear hK K)
  refine Mix.take_ex (_) 18 rfl (by kernel_rfl) (by kernel_rfl) (by kernel_rfl) (by kernel_rfl) (fun K hK => ?_)
  go_simp
  first | (refine hK _ ?_; clear hK K) | (apply Exists.intro; refine ⟨fun x => ?_, hK _ ?_⟩; ((go_at_call 17; with_reducible exact G1.out.app _ (X2.out _))); clear hK K)
  refine Mix.take_ex (_) 19 rfl (by kernel_rfl) (by kernel_rfl) (by kernel_rfl) (by kernel_rfl) (fun K hK => ?_)
  go_simp
  first | (refine hK _ ?_; clear hK K) | (apply Exists.intro; refine ⟨fun x => ?_, hK _ ?_⟩; (fail); clear hK K)
  refine Mix.take_ex (_) 20 rfl (by kernel_rfl) (by kernel_rfl) (by kernel_rfl) (by kernel_rfl) (fun K hK => ?_)
  go_simp
  first | (refine hK _ ?_; clear hK K) | (apply Exists.intro; refine ⟨fun x => ?_, hK _ ?_⟩; (fail); clear hK K)
  refine Mix.take_ex (_) 21 rfl (by kernel_rfl) (by kernel_rfl) (by kernel_rfl) (by kernel_rfl) (fun K hK => ?_)
  go_simp
  first | (refine hK _ ?_; clear hK K) | (apply Exists.intro; refine ⟨fun x => ?_, hK _ ?_⟩; ((go_at_call 18; with_reducible exact G2.out.app _ (X2.out _))); clear hK K)
  refine Mix.take_ex (_) 22 rfl (by kernel_rfl) (by kernel_rfl) (by kernel_rfl) (by kernel_rfl) (fun K hK => ?_)
  go_simp
  first | (refine hK _ ?_; clear hK K) | (apply Exists.intro; refine ⟨fun x => ?_, hK _ ?_⟩; (fail); clear hK K)
  refine Mix.take_ex (_) 23 rfl (by kernel_rfl) (by kernel_rfl) (by kernel_rfl) (by kernel_rfl) (fun K hK => ?_)
  go_simp
  first | (refine hK _ ?_; clear hK K) | (apply Exists.intro; refine ⟨fun x => ?_, hK _ ?_⟩; (fail); clear hK K)
  refine Mix.take_ex (_) 24 rfl (by kernel_rfl) (by kernel_rfl) (by kernel_rfl) (by kernel_rfl) (fun K hK => ?_)
  go_simp
  first | (refine hK _ ?_; clear hK K) | (apply Exists.intro; refine ⟨fun x => ?_, hK _ ?_⟩; (fail); clear hK K)
  refine Mix.take_ex (_) 25 rfl (by kernel_rfl) (by kernel_rfl) (by kernel_rfl) (by kernel_rfl) (fun K hK => ?_)
  go_simp
  first | (refine hK _ ?_; clear hK K) | (apply Exists.intro; refine ⟨fun x => ?_, hK _ ?_⟩; (fail); clear hK K)
  refine Mix.take_ex (_) 26 rfl (by kernel_rfl) (by kernel_rfl) (by kernel_rfl) (by kernel_rfl) (fun K hK => ?_)
  go_simp
  first | (refine hK _ ?_; clear hK K) | (apply Exists.intro; refine ⟨fun x => ?_, hK _ ?_⟩; (fail); clear hK K)
  refine Mix.take_ex (_) 27 rfl (by kernel_rfl) (by kernel_rfl) (by kernel_rfl) (by kernel_rfl) (fun K hK => ?_)
  go_simp
  first | (refine hK _ ?_; clear hK K) | (apply Exists.intro; refine ⟨fun x => ?_, hK _ ?_⟩; ((go_at_call 19; with_reducible exact S1.out.app _ (X3.out _))); clear hK K)
  refine Mix.take_ex (_) 28 rfl (by kernel_rfl) (by kernel_rfl) (by kernel_rfl) (by kernel_rfl) (fun K hK => ?_)
  go_simp
  first | (refine hK _ ?_; clear hK K) | (apply Exists.intro; refine ⟨fun x => ?_, hK _ ?_⟩; (fail); clear hK K)
  refine Mix.take_ex (_) 29 rfl (by kernel_rfl) (by kernel_rfl) (by kernel_rfl) (by kernel_rfl) (fun K hK => ?_)
  go_simp
  first | (refine hK _ ?_; clear hK K) | (apply Exists.intro; refine ⟨fun x => ?_, hK _ ?_⟩; (fail); clear hK K)
  refine Mix.take_ex (_) 30 rfl (by kernel_rfl) (by kernel_rfl) (by kernel_rfl) (by kernel_rfl) (fun K hK => ?_)
  go_simp
  first | (refine hK _ ?_; clear hK K) | (apply Exists.intro; refine ⟨fun x => ?_, hK _ ?_⟩; ((go_at_call 14; with_reducible exact S2.out.app _ (X3.out _))); clear hK K)
  refine Mix.take_ex (_) 31 rfl (by kernel_rfl) (by kernel_rfl) (by kernel_rfl) (by kernel_rfl) (fun K hK => ?_)
  go_simp
  first | (refine hK _ ?_; clear hK K) | (apply Exists.intro; refine ⟨fun x => ?_, hK _ ?_⟩; (fail); clear hK K)
  refine Mix.take_ex (_) 32 rfl (by kernel_rfl) (by kernel_rfl) (by kernel_rfl) (by kernel_rfl) (fun K hK => ?_)
  go_simp
  first | (refine hK _ ?_; clear hK K) | (apply Exists.intro; refine ⟨fun x => ?_, hK _ ?_⟩; (fail); clear hK K)
  refine Mix.take_ex (_) 33 rfl (by kernel_rfl) (by kernel_rfl) (by kernel_rfl) (by kernel_rfl) (fun K hK => ?_)
  go_simp
  first | (refine hK _ ?_; clear hK K) | (apply Exists.intro; refine ⟨fun x => ?_, hK _ ?_⟩; (fail); clear hK K)
  refine Mix.take_ex (_) 34 rfl (by kernel_rfl) (by kernel_rfl) (by kernel_rfl) (by kernel_rfl) (fun K hK => ?_)
  go_simp
  first | (refine hK _ ?_; clear hK K) | (apply Exists.intro; refine ⟨fun x => ?_, hK _ ?_⟩; (fail); clear hK K)
  refine Mix.take_ex (_) 36 rfl (by kernel_rfl) (by kernel_rfl) (by kernel_rfl) (by kernel_rfl) (fun K hK => ?_)
  go_simp
  first | (refine hK _ ?_; clear hK K) | (apply Exists.intro; refine ⟨fun x => ?_, hK _ ?_⟩; (fail); clear hK K)
  have hs4 : w3.heap.size + 0 ≤ w4.heap.size := (by have h := hb4.size; first | omega | (simp at h; omega))
  have hb1_4 := bel hb1_3 hb4 (by (repeat (first | assumption | exact Below.refl _ _ | refine ba ?_ _ | refine bd ?_ | refine bdn ?_ _ | refine bs ?_ (by first | omega | (simp; done) | (simp; omega)) _ | refine bt ?_ (by assumption))))
  have hb2_4 := bel hb2_3 hb4 (by (repeat (first | assumption | exact Below.refl _ _ | refine ba ?_ _ | refine bd ?_ | refine bdn ?_ _ | refine bs ?_ (by first | omega | (simp; done) | (simp; omega)) _ | refine bt ?_ (by assumption))))
  have hb3_4 := bel hb3 hb4 (by (repeat (first | assumption | exact Below.refl _ _ | refine ba ?_ _ | refine bd ?_ | refine bdn ?_ _ | refine bs ?_ (by first | omega | (simp; done) | (simp; omega)) _ | refine bt ?_ (by assumption))))
  clear hc1_3 hf1_3 hz3_0 hz3_1 hc3 hf3
  obtain ⟨hc1_4, hf1_4, hl1_4⟩ := bcell hb1_4
  clear hl1_4
  have hz4_0 : W.heap.size < w4.heap.size := (by omega)
  have hz4_1 : W.heap.size + 1 < w4.heap.size := (by omega)
  obtain ⟨hc4, hf4, hl4⟩ := bcell hb4
  clear hl4
  refine Mix.all (rs := [35]) (by kernel_rfl) (by simp) (Mix.over_of (by (repeat (first | assumption | exact Below.refl _ _ | refine ba ?_ _ | refine bd ?_ | refine bdn ?_ _ | refine bs ?_ (by first | omega | (simp; done) | (simp; omega)) _ | refine bt ?_ (by assumption))))) ?_
  intro i5 hi5 w5 hb5 hC5
  clear hC5
  have hs5 : w4.heap.size + 0 ≤ w5.heap.size := (by have h := hb5.size; first | omega | (simp at h; omega))
  have hb1_5 := bel hb1_4 hb5 (by (repeat (first | assumption | exact Below.refl _ _ | refine ba ?_ _ | refine bd ?_ | refine bdn ?_ _ | refine bs ?_ (by first | omega | (simp; done) | (simp; omega)) _ | refine bt ?_ (by assumption))))
  have hb2_5 := bel hb2_4 hb5 (by (repeat (first | assumption | exact Below.refl _ _ | refine ba ?_ _ | refine bd ?_ | refine bdn ?_ _ | refine bs ?_ (by first | omega | (simp; done) | (simp; omega)) _ | refine bt ?_ (by assumption))))
  have hb3_5 := bel hb3_4 hb5 (by (repeat (first | assumption | exact Below.refl _ _ | refine ba ?_ _ | refine bd ?_ | refine bdn ?_ _ | refine bs ?_ (by first | omega | (simp; done) | (simp; omega)) _ | refine bt ?_ (by assumption))))
  have hb4_5 := bel hb4 hb5 (by (repeat (first | assumption | exact Below.refl _ _ | refine ba ?_ _ | refine bd ?_ | refine bdn ?_ _ | refine bs ?_ (by first | omega | (simp; done) | (simp; omega)) _ | refine bt ?_ (by assumption))))
  clear hc1_4 hf1_4 hz4_0 hz4_1 hc4 hf4
  obtain ⟨hc1_5, hf1_5, hl1_5⟩ := bcell hb1_5
  clear hl1_5
  have hz5_0 : W.heap.size < w5.heap.size := (by omega)
  have hz5_1 : W.heap.size + 1 < w5.heap.size := (by omega)
  obtain ⟨hc5, hf5, hl5⟩ := bcell hb5
  clear hl5
  simp only [List.mem_cons, List.not_mem_nil, or_false] at hi5
  subst hi5
  refine Mix.op rfl (by kernel_rfl) ?_
  go_simp
  refine (C1.out _ (V3.out.on (by (repeat (first | assumption | exact Below.refl _ _ | refine ba ?_ _ | refine bd ?_ | refine bdn ?_ _ | refine bs ?_ (by first | omega | (simp; done) | (simp; omega)) _ | refine bt ?_ (by assumption)))))).mono ?_
  rintro e w6 ⟨v6, rfl, hv6, hb6⟩
  have HV6 := Lib.hid hv6.vc
  clear hv6
  refine ⟨_, rfl, ?_⟩
  have hs6 : w5.heap.size + 0 ≤ w6.heap.size := (by have h := hb6.size; first | omega | (simp at h; omega))
  have hb1_6 := bel hb1_5 hb6 (by (repeat (first | assumption | exact Below.refl _ _ | refine ba ?_ _ | refine bd ?_ | refine bdn ?_ _ | refine bs ?_ (by first | omega | (simp; done) | (simp; omega)) _ | refine bt ?_ (by assumption))))
  have hb2_6 := bel hb2_5 hb6 (by (repeat (first | assumption | exact Below.refl _ _ | refine ba ?_ _ | refine bd ?_ | refine bdn ?_ _ | refine bs ?_ (by first | omega | (simp; done) | (simp; omega)) _ | refine bt ?_ (by assumption))))
  have hb3_6 := bel hb3_5 hb6 (by (repeat (first | assumption | exact Below.refl _ _ | refine ba ?_ _ | refine bd ?_ | refine bdn ?_ _ | refine bs ?_ (by first | omega | (simp; done) | (simp; omega)) _ | refine bt ?_ (by assumption))))
  have hb4_6 := bel hb4_5 hb6 (by (repeat (first | assumption | exact Below.refl _ _ | refine ba ?_ _ | refine bd ?_ | refine bdn ?_ _ | refine bs ?_ (by first | omega | (simp; done) | (simp; omega)) _ | refine bt ?_ (by assumption))))
  have hb5_6 := bel hb5 hb6 (by (repeat (first | assumption | exact Below.refl _ _ | refine ba ?_ _ | refine bd ?_ | refine bdn ?_ _ | refine bs ?_ (by first | omega | (simp; done) | (simp; omega)) _ | refine bt ?_ (by assumption))))
  clear hc1_5 hf1_5 hz5_0 hz5_1 hc5 hf5
  obtain ⟨hc1_6, hf1_6, hl1_6⟩ := bcell hb1_6
  clear hl1_6
  have hz6_0 : W.heap.size < w6.heap.size := (by omega)
  have hz6_1 : W.heap.size + 1 < w6.heap.size := (by omega)
  obtain ⟨hc6, hf6, hl6⟩ := bcell hb6
  clear hl6
  refine Mix.all (rs := [37]) (by kernel_rfl) (by simp) (Mix.over_of (by (repeat (first | assumption | exact Below.refl _ _ | refine ba ?_ _ | refine bd ?_ | refine bdn ?_ _ | refine bs ?_ (by first | omega | (simp; done) | (simp; omega)) _ | refine bt ?_ (by assumption))))) ?_
  intro i7 hi7 w7 hb7 hC7
  clear hC7
  have hs7 : w6.heap.size + 0 ≤ w7.heap.size := (by have h := hb7.size; first | omega | (simp at h; omega))
  have hb1_7 := bel hb1_6 hb7 (by (repeat (first | assumption | exact Below.refl _ _ | refine ba ?_ _ | refine bd ?_ | refine bdn ?_ _ | refine bs ?_ (by first | omega | (simp; done) | (simp; omega)) _ | refine bt ?_ (by assumption))))
  have hb2_7 := bel hb2_6 hb7 (by (repeat (first | assumption | exact Below.refl _ _ | refine ba ?_ _ | refine bd ?_ | refine bdn ?_ _ | refine bs ?_ (by first | omega | (simp; done) | (simp; omega)) _ | refine bt ?_ (by assumption))))
  have hb3_7 := bel hb3_6 hb7 (by (repeat (first | assumption | exact Below.refl _ _ | refine ba ?_ _ | refine bd ?_ | refine bdn ?_ _ | refine bs ?_ (by first | omega | (simp; done) | (simp; omega)) _ | refine bt ?_ (by assumption))))
  have hb4_7 := bel hb4_6 hb7 (by (repeat (first | assumption | exact Below.refl _ _ | refine ba ?_ _ | refine bd ?_ | refine bdn ?_ _ | refine bs ?_ (by first | omega | (simp; done) | (simp; omega)) _ | refine bt ?_ (by assumption))))
  have hb5_7 := bel hb5_6 hb7 (by (repeat (first | assumption | exact Below.refl _ _ | refine ba ?_ _ | refine bd ?_ | refine bdn ?_ _ | refine bs ?_ (by first | omega | (simp; done) | (simp; omega)) _ | refine bt ?_ (by assumption))))
  have hb6_7 := bel hb6 hb7 (by (repeat (first | assumption | exact Below.refl _ _ | refine ba ?_ _ | refine bd ?_ | refine bdn ?_ _ | refine bs ?_ (by first | omega | (simp; done) | (simp; omega)) _ | refine bt ?_ (by assumption))))
  clear hc1_6 hf1_6 hz6_0 hz6_1 hc6 hf6
  obtain ⟨hc1_7, hf1_7, hl1_7⟩ := bcell hb1_7
  clear hl1_7
  have hz7_0 : W.heap.size < w7.heap.size := (by omega)
  have hz7_1 : W.heap.size + 1 < w7.heap.size := (by omega)
  obtain ⟨hc7, hf7, hl7⟩ := bcell hb7
  clear hl7
  simp only [List.mem_cons, List.not_mem_nil, or_false] at hi7
  subst hi7
  refine Mix.op rfl (by kernel_rfl) ?_
  go_simp
  refine ((C2.out _ _).app _ ⟨HV6.out.on (by (repeat (first | assumption | exact Below.refl _ _ | refine ba ?_ _ | refine bd ?_ | refine bdn ?_ _ | refine bs ?_ (by first | omega | (simp; done) | (simp; omega)) _ | refine bt ?_ (by assumption)))), V3.out.on (by (repeat (first | assumption | exact Below.refl _ _ | refine ba ?_ _ | refine bd ?_ | refine bdn ?_ _ | refine bs ?_ (by first | omega | (simp; done) | (simp; omega)) _ | refine bt ?_ (by assumption))))⟩).mono ?_
  rintro e w8 ⟨rfl, hb8⟩
  refine ⟨_, rfl, ?_⟩
  have hs8 : w7.heap.size + 0 ≤ w8.heap.size := (by have h := hb8.size; first | omega | (simp at h; omega))
  have hb1_8 := bel hb1_7 hb8 (by (repeat (first | assumption | exact Below.refl _ _ | refine ba ?_ _ | refine bd ?_ | refine bdn ?_ _ | refine bs ?_ (by first | omega | (simp; done) | (simp; omega)) _ | refine bt ?_ (by assumption))))
  have hb2_8 := bel hb2_7 hb8 (by (repeat (first | assumption | exact Below.refl _ _ | refine ba ?_ _ | refine bd ?_ | refine bdn ?_ _ | refine bs ?_ (by first | omega | (simp; done) | (simp; omega)) _ | refine bt ?_ (by assumption))))
  have hb3_8 := bel hb3_7 hb8 (by (repeat (first | assumption | exact Below.refl _ _ | refine ba ?_ _ | refine bd ?_ | refine bdn ?_ _ | refine bs ?_ (by first | omega | (simp; done) | (simp; omega)) _ | refine bt ?_ (by assumption))))
  have hb4_8 := bel hb4_7 hb8 (by (repeat (first | assumption | exact Below.refl _ _ | refine ba ?_ _ | refine bd ?_ | refine bdn ?_ _ | refine bs ?_ (by first | omega | (simp; done) | (simp; omega)) _ | refine bt ?_ (by assumption))))
  have hb5_8 := bel hb5_7 hb8 (by (repeat (first | assumption | exact Below.refl _ _ | refine ba ?_ _ | refine bd ?_ | refine bdn ?_ _ | refine bs ?_ (by first | omega | (simp; done) | (simp; omega)) _ | refine bt ?_ (by assumption))))
  have hb6_8 := bel hb6_7 hb8 (by (repeat (first | assumption | exact Below.refl _ _ | refine ba ?_ _ | refine bd ?_ | refine bdn ?_ _ | refine bs ?_ (by first | omega | (simp; done) | (simp; omega)) _ | refine bt ?_ (by assumption))))
  have hb7_8 := bel hb7 hb8 (by (repeat (first | assumption | exact Below.refl _ _ | refine ba ?_ _ | refine bd ?_ | refine bdn ?_ _ | refine bs ?_ (by first | omega | (simp; done) | (simp; omega)) _ | refine bt ?_ (by assumption))))
  clear hc1_7 hf1_7 hz7_0 hz7_1 hc7 hf7
  obtain ⟨hc1_8, hf1_8, hl1_8⟩ := bcell hb1_8
  clear hl1_8
  have hz8_0 : W.heap.size < w8.heap.size := (by omega)
  have hz8_1 : W.heap.size + 1 < w8.heap.size := (by omega)
  obtain ⟨hc8, hf8, hl8⟩ := bcell hb8
  clear hl8
  refine Mix.all (rs := [38]) (by kernel_rfl) (by simp) (Mix.over_of (by (repeat (first | assumption | exact Below.refl _ _ | refine ba ?_ _ | refine bd ?_ | refine bdn ?_ _ | refine bs ?_ (by first | omega | (simp; done) | (simp; omega)) _ | refine bt ?_ (by assumption))))) ?_
  intro i9 hi9 w9 hb9 hC9
  clear hC9
  have hs9 : w8.heap.size + 0 ≤ w9.heap.size := (by have h := hb9.size; first | omega | (simp at h; omega))
  have hb1_9 := bel hb1_8 hb9 (by (repeat (first | assumption | exact Below.refl _ _ | refine ba ?_ _ | refine bd ?_ | refine bdn ?_ _ | refine bs ?_ (by first | omega | (simp; done) | (simp; omega)) _ | refine bt ?_ (by assumption))))
  have hb2_9 := bel hb2_8 hb9 (by (repeat (first | assumption | exact Below.refl _ _ | refine ba ?_ _ | refine bd ?_ | refine bdn ?_ _ | refine bs ?_ (by first | omega | (simp; done) | (simp; omega)) _ | refine bt ?_ (by assumption))))
  have hb3_9 := bel hb3_8 hb9 (by (repeat (first | assumption | exact Below.refl _ _ | refine ba ?_ _ | refine bd ?_ | refine bdn ?_ _ | refine bs ?_ (by first | omega | (simp; done) | (simp; omega)) _ | refine bt ?_ (by assumption))))
  have hb4_9 := bel hb4_8 hb9 (by (repeat (first | assumption | exact Below.refl _ _ | refine ba ?_ _ | refine bd ?_ | refine bdn ?_ _ | refine bs ?_ (by first | omega | (simp; done) | (simp; omega)) _ | refine bt ?_ (by assumption))))
  have hb5_9 := bel hb5_8 hb9 (by (repeat (first | assumption | exact Below.refl _ _ | refine ba ?_ _ | refine bd ?_ | refine bdn ?_ _ | refine bs ?_ (by first | omega | (simp; done) | (simp; omega)) _ | refine bt ?_ (by assumption))))
  have hb6_9 := bel hb6_8 hb9 (by (repeat (first | assumption | exact Below.refl _ _ | refine ba ?_ _ | refine bd ?_ | refine bdn ?_ _ | refine bs ?_ (by first | omega | (simp; done) | (simp; omega)) _ | refine bt ?_ (by assumption))))
  have hb7_9 := bel hb7_8 hb9 (by (repeat (first | assumption | exact Below.refl _ _ | refine ba ?_ _ | refine bd ?_ | refine bdn ?_ _ | refine bs ?_ (by first | omega | (simp; done) | (simp; omega)) _ | refine bt ?_ (by assumption))))
  have hb8_9 := bel hb8 hb9 (by (repeat (first | assumption | exact Below.refl _ _ | refine ba ?_ _ | refine bd ?_ | refine bdn ?_ _ | refine bs ?_ (by first | omega | (simp; done) | (simp; omega)) _ | refine bt ?_ (by assumption))))
  clear hc1_8 hf1_8 hz8_0 hz8_1 hc8 hf8
  obtain ⟨hc1_9, hf1_9, hl1_9⟩ := bcell hb1_9
  clear hl1_9
  have hz9_0 : W.heap.size < w9.heap.size := (by omega)
  have hz9_1 : W.heap.size + 1 < w9.heap.size := (by omega)
  obtain ⟨hc9, hf9, hl9⟩ := bcell hb9
  clear hl9
  simp only [List.mem_cons, List.not_mem_nil, or_false] at hi9
  subst hi9
  refine Mix.op rfl (by kernel_rfl) ?_
  go_simp
  refine Mix.all (rs := [39]) (by kernel_rfl) (by simp) (Mix.over_of (by (repeat (first | assumption | exact Below.refl _ _ | refine ba ?_ _ | refine bd ?_ | refine bdn ?_ _ | refine bs ?_ (by first | omega | (simp; done) | (simp; omega)) _ | refine bt ?_ (by assumption))))) ?_
  intro i10 hi10 w10 hb10 hC10
  clear hC10
  have hs10 : w9.heap.size + 0 ≤ w10.heap.size := (by have h := hb10.size; first | omega | (simp at h; omega))
  have hb1_10 := bel hb1_9 hb10 (by (repeat (first | assumption | exact Below.refl _ _ | refine ba ?_ _ | refine bd ?_ | refine bdn ?_ _ | refine bs ?_ (by first | omega | (simp; done) | (simp; omega)) _ | refine bt ?_ (by assumption))))
  have hb2_10 := bel hb2_9 hb10 (by (repeat (first | assumption | exact Below.refl _ _ | refine ba ?_ _ | refine bd ?_ | refine bdn ?_ _ | refine bs ?_ (by first | omega | (simp; done) | (simp; omega)) _ | refine bt ?_ (by assumption))))
  have hb3_10 := bel hb3_9 hb10 (by (repeat (first | assumption | exact Below.refl _ _ | refine ba ?_ _ | refine bd ?_ | refine bdn ?_ _ | refine bs ?_ (by first | omega | (simp; done) | (simp; omega)) _ | refine bt ?_ (by assumption))))
  have hb4_10 := bel hb4_9 hb10 (by (repeat (first | assumption | exact Below.refl _ _ | refine ba ?_ _ | refine bd ?_ | refine bdn ?_ _ | refine bs ?_ (by first | omega | (simp; done) | (simp; omega)) _ | refine bt ?_ (by assumption))))
  have hb5_10 := bel hb5_9 hb10 (by (repeat (first | assumption | exact Below.refl _ _ | refine ba ?_ _ | refine bd ?_ | refine bdn ?_ _ | refine bs ?_ (by first | omega | (simp; done) | (simp; omega)) _ | refine bt ?_ (by assumption))))
  have hb6_10 := bel hb6_9 hb10 (by (repeat (first | assumption | exact Below.refl _ _ | refine ba ?_ _ | refine bd ?_ | refine bdn ?_ _ | refine bs ?_ (by first | omega | (simp; done) | (simp; omega)) _ | refine bt ?_ (by assumption))))
  have hb7_10 := bel hb7_9 hb10 (by (repeat (first | assumption | exact Below.refl _ _ | refine ba ?_ _ | refine bd ?_ | refine bdn ?_ _ | refine bs ?_ (by first | omega | (simp; done) | (simp; omega)) _ | refine bt ?_ (by assumption))))
  have hb8_10 := bel hb8_9 hb10 (by (repeat (first | assumption | exact Below.refl _ _ | refine ba ?_ _ | refine bd ?_ | refine bdn ?_ _ | refine bs ?_ (by first | omega | (simp; done) | (simp; omega)) _ | refine bt ?_ (by assumption))))
  have hb9_10 := bel hb9 hb10 (by (repeat (first | assumption | exact Below.refl _ _ | refine ba ?_ _ | refine bd ?_ | refine bdn ?_ _ | refine bs ?_ (by first | omega | (simp; done) | (simp; omega)) _ | refine bt ?_ (by assumption))))
  clear hc1_9 hf1_9 hz9_0 hz9_1 hc9 hf9
  obtain ⟨hc1_10, hf1_10, hl1_10⟩ := bcell hb1_10
  clear hl1_10
  have hz10_0 : W.heap.size < w10.heap.size := (by omega)
  have hz10_1 : W.heap.size + 1 < w10.heap.size := (by omega)
  obtain ⟨hc10, hf10, hl10⟩ := bcell hb10
  clear hl10
  simp only [List.mem_cons, List.not_mem_nil, or_false] at hi10
  subst hi10
  refine Mix.op rfl (by kernel_rfl) ?_
  go_simp
  refine Mix.all (rs := [40]) (by kernel_rfl) (by simp) (Mix.over_of (by (repeat (first | assumption | exact Below.refl _ _ | refine ba ?_ _ | refine bd ?_ | refine bdn ?_ _ | refine bs ?_ (by first | omega | (simp; done) | (simp; omega)) _ | refine bt ?_ (by assumption))))) ?_
  intro i11 hi11 w11 hb11 hC11
  clear hC11
  have hs11 : w10.heap.size + 0 ≤ w11.heap.size := (by have h := hb11.size; first | omega | (simp at h; omega))
  have hb1_11 := bel hb1_10 hb11 (by (repeat (first | assumption | exact Below.refl _ _ | refine ba ?_ _ | refine bd ?_ | refine bdn ?_ _ | refine bs ?_ (by first | omega | (simp; done) | (simp; omega)) _ | refine bt ?_ (by assumption))))
  have hb2_11 := bel hb2_10 hb11 (by (repeat (first | assumption | exact Below.refl _ _ | refine ba ?_ _ | refine bd ?_ | refine bdn ?_ _ | refine bs ?_ (by first | omega | (simp; done) | (simp; omega)) _ | refine bt ?_ (by assumption))))
  have hb3_11 := bel hb3_10 hb11 (by (repeat (first | assumption | exact Below.refl _ _ | refine ba ?_ _ | refine bd ?_ | refine bdn ?_ _ | refine bs ?_ (by first | omega | (simp; done) | (simp; omega)) _ | refine bt ?_ (by assumption))))
  have hb4_11 := bel hb4_10 hb11 (by (repeat (first | assumption | exact Below.refl _ _ | refine ba ?_ _ | refine bd ?_ | refine bdn ?_ _ | refine bs ?_ (by first | omega | (simp; done) | (simp; omega)) _ | refine bt ?_ (by assumption))))
  have hb5_11 := bel hb5_10 hb11 (by (repeat (first | assumption | exact Below.refl _ _ | refine ba ?_ _ | refine bd ?_ | refine bdn ?_ _ | refine bs ?_ (by first | omega | (simp; done) | (simp; omega)) _ | refine bt ?_ (by assumption))))
  have hb6_11 := bel hb6_10 hb11 (by (repeat (first | assumption | exact Below.refl _ _ | refine ba ?_ _ | refine bd ?_ | refine bdn ?_ _ | refine bs ?_ (by first | omega | (simp; done) | (simp; omega)) _ | refine bt ?_ (by assumption))))
  have hb7_11 := bel hb7_10 hb11 (by (repeat (first | assumption | exact Below.refl _ _ | refine ba ?_ _ | refine bd ?_ | refine bdn ?_ _ | refine bs ?_ (by first | omega | (simp; done) | (simp; omega)) _ | refine bt ?_ (by assumption))))
  have hb8_11 := bel hb8_10 hb11 (by (repeat (first | assumption | exact Below.refl _ _ | refine ba ?_ _ | refine bd ?_ | refine bdn ?_ _ | refine bs ?_ (by first | omega | (simp; done) | (simp; omega)) _ | refine bt ?_ (by assumption))))
  have hb9_11 := bel hb9_10 hb11 (by (repeat (first | assumption | exact Below.refl _ _ | refine ba ?_ _ | refine bd ?_ | refine bdn ?_ _ | refine bs ?_ (by first | omega | (simp; done) | (simp; omega)) _ | refine bt ?_ (by assumption))))
  have hb10_11 := bel hb10 hb11 (by (repeat (first | assumption | exact Below.refl _ _ | refine ba ?_ _ | refine bd ?_ | refine bdn ?_ _ | refine bs ?_ (by first | omega | (simp; done) | (simp; omega)) _ | refine bt ?_ (by assumption))))
  clear hc1_10 hf1_10 hz10_0 hz10_1 hc10 hf10
  obtain ⟨hc1_11, hf1_11, hl1_11⟩ := bcell hb1_11
  clear hl1_11
  have hz11_0 : W.heap.size < w11.heap.size := (by omega)
  have hz11_1 : W.heap.size + 1 < w11.heap.size := (by omega)
  obtain ⟨hc11, hf11, hl11⟩ := bcell hb11
  clear hl11
  simp only [List.mem_cons, List.not_mem_nil, or_false] at hi11
  subst hi11
  refine Mix.op rfl (by kernel_rfl) ?_
  go_simp
  refine (works5.app _ (TN.on T3.out (by (repeat (first | assumption | exact Below.refl _ _ | refine ba ?_ _ | refine bd ?_ | refine bdn ?_ _ | refine bs ?_ (by first | omega | (simp; done) | (simp; omega)) _ | refine bt ?_ (by assumption)))))).mono ?_
  rintro e w12 ⟨rfl, hb12⟩
  refine ⟨_, rfl, ?_⟩
  have hs12 : w11.heap.size + 0 ≤ w12.heap.size := (by have h := hb12.size; first | omega | (simp at h; omega))
  have hb1_12 := bel hb1_11 hb12 (by (repeat (first | assumption | exact Below.refl _ _ | refine ba ?_ _ | refine bd ?_ | refine bdn ?_ _ | refine bs ?_ (by first | omega | (simp; done) | (simp; omega)) _ | refine bt ?_ (by assumption))))
  have hb2_12 := bel hb2_11 hb12 (by (repeat (first | assumption | exact Below.refl _ _ | refine ba ?_ _ | refine bd ?_ | refine bdn ?_ _ | refine bs ?_ (by first | omega | (simp; done) | (simp; omega)) _ | refine bt ?_ (by assumption))))
  have hb3_12 := bel hb3_11 hb12 (by (repeat (first | assumption | exact Below.refl _ _ | refine ba ?_ _ | refine bd ?_ | refine bdn ?_ _ | refine bs ?_ (by first | omega | (simp; done) | (simp; omega)) _ | refine bt ?_ (by assumption))))
  have hb4_12 := bel hb4_11 hb12 (by (repeat (first | assumption | exact Below.refl _ _ | refine ba ?_ _ | refine bd ?_ | refine bdn ?_ _ | refine bs ?_ (by first | omega | (simp; done) | (simp; omega)) _ | refine bt ?_ (by assumption))))
  have hb5_12 := bel hb5_11 hb12 (by (repeat (first | assumption | exact Below.refl _ _ | refine ba ?_ _ | refine bd ?_ | refine bdn ?_ _ | refine bs ?_ (by first | omega | (simp; done) | (simp; omega)) _ | refine bt ?_ (by assumption))))
  have hb6_12 := bel hb6_11 hb12 (by (repeat (first | assumption | exact Below.refl _ _ | refine ba ?_ _ | refine bd ?_ | refine bdn ?_ _ | refine bs ?_ (by first | omega | (simp; done) | (simp; omega)) _ | refine bt ?_ (by assumption))))
  have hb7_12 := bel hb7_11 hb12 (by (repeat (first | assumption | exact Below.refl _ _ | refine ba ?_ _ | refine bd ?_ | refine bdn ?_ _ | refine bs ?_ (by first | omega | (simp; done) | (simp; omega)) _ | refine bt ?_ (by assumption))))
  have hb8_12 := bel hb8_11 hb12 (by (repeat (first | assumption | exact Below.refl _ _ | refine ba ?_ _ | refine bd ?_ | refine bdn ?_ _ | refine bs ?_ (by first | omega | (simp; done) | (simp; omega)) _ | refine bt ?_ (by assumption))))
  have hb9_12 := bel hb9_11 hb12 (by (repeat (first | assumption | exact Below.refl _ _ | refine ba ?_ _ | refine bd ?_ | refine bdn ?_ _ | refine bs ?_ (by first | omega | (simp; done) | (simp; omega)) _ | refine bt ?_ (by assumption))))
  have hb10_12 := bel hb10_11 hb12 (by (repeat (first | assumption | exact Below.refl _ _ | refine ba ?_ _ | refine bd ?_ | refine bdn ?_ _ | refine bs ?_ (by first | omega | (simp; done) | (simp; omega)) _ | refine bt ?_ (by assumption))))
  have hb11_12 := bel hb11 hb12 (by (repeat (first | assumption | exact Below.refl _ _ | refine ba ?_ _ | refine bd ?_ | refine bdn ?_ _ | refine bs ?_ (by first | omega | (simp; done) | (simp; omega)) _ | refine bt ?_ (by assumption))))
  clear hc1_11 hf1_11 hz11_0 hz11_1 hc11 hf11
  obtain ⟨hc1_12, hf1_12, hl1_12⟩ := bcell hb1_12
  clear hl1_12
  have hz12_0 : W.heap.size < w12.heap.size := (by omega)
  have hz12_1 : W.heap.size + 1 < w12.heap.size := (by omega)
  obtain ⟨hc12, hf12, hl12⟩ := bcell hb12
  clear hl12
  refine Mix.all (rs := [41]) (by kernel_rfl) (by simp) (Mix.over_of (by (repeat (first | assumption | exact Below.refl _ _ | refine ba ?_ _ | refine bd ?_ | refine bdn ?_ _ | refine bs ?_ (by first | omega | (simp; done) | (simp; omega)) _ | refine bt ?_ (by assumption))))) ?_
  intro i13 hi13 w13 hb13 hC13
  clear hC13
  have hs13 : w12.heap.size + 0 ≤ w13.heap.size := (by have h := hb13.size; first | omega | (simp at h; omega))
  have hb1_13 := bel hb1_12 hb13 (by (repeat (first | assumption | exact Below.refl _ _ | refine ba ?_ _ | refine bd ?_ | refine bdn ?_ _ | refine bs ?_ (by first | omega | (simp; done) | (simp; omega)) _ | refine bt ?_ (by assumption))))
  have hb2_13 := bel hb2_12 hb13 (by (repeat (first | assumption | exact Below.refl _ _ | refine ba ?_ _ | refine bd ?_ | refine bdn ?_ _ | refine bs ?_ (by first | omega | (simp; done) | (simp; omega)) _ | refine bt ?_ (by assumption))))
  have hb3_13 := bel hb3_12 hb13 (by (repeat (first | assumption | exact Below.refl _ _ | refine ba ?_ _ | refine bd ?_ | refine bdn ?_ _ | refine bs ?_ (by first | omega | (simp; done) | (simp; omega)) _ | refine bt ?_ (by assumption))))
  have hb4_13 := bel hb4_12 hb13 (by (repeat (first | assumption | exact Below.refl _ _ | refine ba ?_ _ | refine bd ?_ | refine bdn ?_ _ | refine bs ?_ (by first | omega | (simp; done) | (simp; omega)) _ | refine bt ?_ (by assumption))))
  have hb5_13 := bel hb5_12 hb13 (by (repeat (first | assumption | exact Below.refl _ _ | refine ba ?_ _ | refine bd ?_ | refine bdn ?_ _ | refine bs ?_ (by first | omega | (simp; done) | (simp; omega)) _ | refine bt ?_ (by assumption))))
  have hb6_13 := bel hb6_12 hb13 (by (repeat (first | assumption | exact Below.refl _ _ | refine ba ?_ _ | refine bd ?_ | refine bdn ?_ _ | refine bs ?_ (by first | omega | (simp; done) | (simp; omega)) _ | refine bt ?_ (by assumption))))
  have hb7_13 := bel hb7_12 hb13 (by (repeat (first | assumption | exact Below.refl _ _ | refine ba ?_ _ | refine bd ?_ | refine bdn ?_ _ | refine bs ?_ (by first | omega | (simp; done) | (simp; omega)) _ | refine bt ?_ (by assumption))))
  have hb8_13 := bel hb8_12 hb13 (by (repeat (first | assumption | exact Below.refl _ _ | refine ba ?_ _ | refine bd ?_ | refine bdn ?_ _ | refine bs ?_ (by first | omega | (simp; done) | (simp; omega)) _ | refine bt ?_ (by assumption))))
  have hb9_13 := bel hb9_12 hb13 (by (repeat (first | assumption | exact Below.refl _ _ | refine ba ?_ _ | refine bd ?_ | refine bdn ?_ _ | refine bs ?_ (by first | omega | (simp; done) | (simp; omega)) _ | refine bt ?_ (by assumption))))
  have hb10_13 := bel hb10_12 hb13 (by (repeat (first | assumption | exact Below.refl _ _ | refine ba ?_ _ | refine bd ?_ | refine bdn ?_ _ | refine bs ?_ (by first | omega | (simp; done) | (simp; omega)) _ | refine bt ?_ (by assumption))))
  have hb11_13 := bel hb11_12 hb13 (by (repeat (first | assumption | exact Below.refl _ _ | refine ba ?_ _ | refine bd ?_ | refine bdn ?_ _ | refine bs ?_ (by first | omega | (simp; done) | (simp; omega)) _ | refine bt ?_ (by assumption))))
  have hb12_13 := bel hb12 hb13 (by (repeat (first | assumption | exact Below.refl _ _ | refine ba ?_ _ | refine bd ?_ | refine bdn ?_ _ | refine bs ?_ (by first | omega | (simp; done) | (simp; omega)) _ | refine bt ?_ (by assumption))))
  clear hc1_12 hf1_12 hz12_0 hz12_1 hc12 hf12
  obtain ⟨hc1_13, hf1_13, hl1_13⟩ := bcell hb1_13
  clear hl1_13
  have hz13_0 : W.heap.size < w13.heap.size := (by omega)
  have hz13_1 : W.heap.size + 1 < w13.heap.size := (by omega)
  obtain ⟨hc13, hf13, hl13⟩ := bcell hb13
  clear hl13
  simp only [List.mem_cons, List.not_mem_nil, or_false] at hi13
  subst hi13
  refine Mix.op rfl (by kernel_rfl) ?_
  go_simp
  refine Mix.all (rs := [42]) (by kernel_rfl) (by simp) (Mix.over_of (by (repeat (first | assumption | exact Below.refl _ _ | refine ba ?_ _ | refine bd ?_ | refine bdn ?_ _ | refine bs ?_ (by first | omega | (simp; done) | (simp; omega)) _ | refine bt ?_ (by assumption))))) ?_
  intro i14 hi14 w14 hb14 hC14
  clear hC14
  have hs14 : w13.heap.size + 0 ≤ w14.heap.size := (by have h := hb14.size; first | omega | (simp at h; omega))
  have hb1_14 := bel hb1_13 hb14 (by (repeat (first | assumption | exact Below.refl _ _ | refine ba ?_ _ | refine bd ?_ | refine bdn ?_ _ | refine bs ?_ (by first | omega | (simp; done) | (simp; omega)) _ | refine bt ?_ (by assumption))))
  have hb2_14 := bel hb2_13 hb14 (by (repeat (first | assumption | exact Below.refl _ _ | refine ba ?_ _ | refine bd ?_ | refine bdn ?_ _ | refine bs ?_ (by first | omega | (simp; done) | (simp; omega)) _ | refine bt ?_ (by assumption))))
  have hb3_14 := bel hb3_13 hb14 (by (repeat (first | assumption | exact Below.refl _ _ | refine ba ?_ _ | refine bd ?_ | refine bdn ?_ _ | refine bs ?_ (by first | omega | (simp; done) | (simp; omega)) _ | refine bt ?_ (by assumption))))
  have hb4_14 := bel hb4_13 hb14 (by (repeat (first | assumption | exact Below.refl _ _ | refine ba ?_ _ | refine bd ?_ | refine bdn ?_ _ | refine bs ?_ (by first | omega | (simp; done) | (simp; omega)) _ | refine bt ?_ (by assumption))))
  have hb5_14 := bel hb5_13 hb14 (by (repeat (first | assumption | exact Below.refl _ _ | refine ba ?_ _ | refine bd ?_ | refine bdn ?_ _ | refine bs ?_ (by first | omega | (simp; done) | (simp; omega)) _ | refine bt ?_ (by assumption))))
  have hb6_14 := bel hb6_13 hb14 (by (repeat (first | assumption | exact Below.refl _ _ | refine ba ?_ _ | refine bd ?_ | refine bdn ?_ _ | refine bs ?_ (by first | omega | (simp; done) | (simp; omega)) _ | refine bt ?_ (by assumption))))
  have hb7_14 := bel hb7_13 hb14 (by (repeat (first | assumption | exact Below.refl _ _ | refine ba ?_ _ | refine bd ?_ | refine bdn ?_ _ | refine bs ?_ (by first | omega | (simp; done) | (simp; omega)) _ | refine bt ?_ (by assumption))))
  have hb8_14 := bel hb8_13 hb14 (by (repeat (first | assumption | exact Below.refl _ _ | refine ba ?_ _ | refine bd ?_ | refine bdn ?_ _ | refine bs ?_ (by first | omega | (simp; done) | (simp; omega)) _ | refine bt ?_ (by assumption))))
  have hb9_14 := bel hb9_13 hb14 (by (repeat (first | assumption | exact Below.refl _ _ | refine ba ?_ _ | refine bd ?_ | refine bdn ?_ _ | refine bs ?_ (by first | omega | (simp; done) | (simp; omega)) _ | refine bt ?_ (by assumption))))
  have hb10_14 := bel hb10_13 hb14 (by (repeat (first | assumption | exact Below.refl _ _ | refine ba ?_ _ | refine bd ?_ | refine bdn ?_ _ | refine bs ?_ (by first | omega | (simp; done) | (simp; omega)) _ | refine bt ?_ (by assumption))))
  have hb11_14 := bel hb11_13 hb14 (by (repeat (first | assumption | exact Below.refl _ _ | refine ba ?_ _ | refine bd ?_ | refine bdn ?_ _ | refine bs ?_ (by first | omega | (simp; done) | (simp; omega)) _ | refine bt ?_ (by assumption))))
  have hb12_14 := bel hb12_13 hb14 (by (repeat (first | assumption | exact Below.refl _ _ | refine ba ?_ _ | refine bd ?_ | refine bdn ?_ _ | refine bs ?_ (by first | omega | (simp; done) | (simp; omega)) _ | refine bt ?_ (by assumption))))
  have hb13_14 := bel hb13 hb14 (by (repeat (first | assumption | exact Below.refl _ _ | refine ba ?_ _ | refine bd ?_ | refine bdn ?_ _ | refine bs ?_ (by first | omega | (simp; done) | (simp; omega)) _ | refine bt ?_ (by assumption))))
  clear hc1_13 hf1_13 hz13_0 hz13_1 hc13 hf13
  obtain ⟨hc1_14, hf1_14, hl1_14⟩ := bcell hb1_14
  clear hl1_14
  have hz14_0 : W.heap.size < w14.heap.size := (by omega)
  have hz14_1 : W.heap.size + 1 < w14.heap.size := (by omega)
  obtain ⟨hc14, hf14, hl14⟩ := bcell hb14
  clear hl14
  simp only [List.mem_cons, List.not_mem_nil, or_false] at hi14
  subst hi14
  refine Mix.op rfl (by kernel_rfl) ?_
  go_simp
  refine Mix.done (by kernel_rfl) (Mix.over_of (by (repeat (first | assumption | exact Below.refl _ _ | refine ba ?_ _ | refine bd ?_ | refine bdn ?_ _ | refine bs ?_ (by first | omega | (simp; done) | (simp; omega)) _ | refine bt ?_ (by assumption))))) ?_
  intro w15 hb15
  have hs15 : w14.heap.size + 0 ≤ w15.heap.size := (by have h := hb15.size; first | omega | (simp at h; omega))
  have hb1_15 := bel hb1_14 hb15 (by (repeat (first | assumption | exact Below.refl _ _ | refine ba ?_ _ | refine bd ?_ | refine bdn ?_ _ | refine bs ?_ (by first | omega | (simp; done) | (simp; omega)) _ | refine bt ?_ (by assumption))))
  have hb2_15 := bel hb2_14 hb15 (by (repeat (first | assumption | exact Below.refl _ _ | refine ba ?_ _ | refine bd ?_ | refine bdn ?_ _ | refine bs ?_ (by first | omega | (simp; done) | (simp; omega)) _ | refine bt ?_ (by assumption))))
  have hb3_15 := bel hb3_14 hb15 (by (repeat (first | assumption | exact Below.refl _ _ | refine ba ?_ _ | refine bd ?_ | refine bdn ?_ _ | refine bs ?_ (by first | omega | (simp; done) | (simp; omega)) _ | refine bt ?_ (by assumption))))
  have hb4_15 := bel hb4_14 hb15 (by (repeat (first | assumption | exact Below.refl _ _ | refine ba ?_ _ | refine bd ?_ | refine bdn ?_ _ | refine bs ?_ (by first | omega | (simp; done) | (simp; omega)) _ | refine bt ?_ (by assumption))))
  have hb5_15 := bel hb5_14 hb15 (by (repeat (first | assumption | exact Below.refl _ _ | refine ba ?_ _ | refine bd ?_ | refine bdn ?_ _ | refine bs ?_ (by first | omega | (simp; done) | (simp; omega)) _ | refine bt ?_ (by assumption))))
  have hb6_15 := bel hb6_14 hb15 (by (repeat (first | assumption | exact Below.refl _ _ | refine ba ?_ _ | refine bd ?_ | refine bdn ?_ _ | refine bs ?_ (by first | omega | (simp; done) | (simp; omega)) _ | refine bt ?_ (by assumption))))
  have hb7_15 := bel hb7_14 hb15 (by (repeat (first | assumption | exact Below.refl _ _ | refine ba ?_ _ | refine bd ?_ | refine bdn ?_ _ | refine bs ?_ (by first | omega | (simp; done) | (simp; omega)) _ | refine bt ?_ (by assumption))))
  have hb8_15 := bel hb8_14 hb15 (by (repeat (first | assumption | exact Below.refl _ _ | refine ba ?_ _ | refine bd ?_ | refine bdn ?_ _ | refine bs ?_ (by first | omega | (simp; done) | (simp; omega)) _ | refine bt ?_ (by assumption))))
  have hb9_15 := bel hb9_14 hb15 (by (repeat (first | assumption | exact Below.refl _ _ | refine ba ?_ _ | refine bd ?_ | refine bdn ?_ _ | refine bs ?_ (by first | omega | (simp; done) | (simp; omega)) _ | refine bt ?_ (by assumption))))
  have hb10_15 := bel hb10_14 hb15 (by (repeat (first | assumption | exact Below.refl _ _ | refine ba ?_ _ | refine bd ?_ | refine bdn ?_ _ | refine bs ?_ (by first | omega | (simp; done) | (simp; omega)) _ | refine bt ?_ (by assumption))))
  have hb11_15 := bel hb11_14 hb15 (by (repeat (first | assumption | exact Below.refl _ _ | refine ba ?_ _ | refine bd ?_ | refine bdn ?_ _ | refine bs ?_ (by first | omega | (simp; done) | (simp; omega)) _ | refine bt ?_ (by assumption))))
  have hb12_15 := bel hb12_14 hb15 (by (repeat (first | assumption | exact Below.refl _ _ | refine ba ?_ _ | refine bd ?_ | refine bdn ?_ _ | refine bs ?_ (by first | omega | (simp; done) | (simp; omega)) _ | refine bt ?_ (by assumption))))
  have hb13_15 := bel hb13_14 hb15 (by (repeat (first | assumption | exact Below.refl _ _ | refine ba ?_ _ | refine bd ?_ | refine bdn ?_ _ | refine bs ?_ (by first | omega | (simp; done) | (simp; omega)) _ | refine bt ?_ (by assumption))))
  have hb14_15 := bel hb14 hb15 (by (repeat (first | assumption | exact Below.refl _ _ | refine ba ?_ _ | refine bd ?_ | refine bdn ?_ _ | refine bs ?_ (by first | omega | (simp; done) | (simp; omega)) _ | refine bt ?_ (by assumption))))
  clear hc1_14 hf1_14 hz14_0 hz14_1 hc14 hf14
  obtain ⟨hc1_15, hf1_15, hl1_15⟩ := bcell hb1_15
  clear hl1_15
  have hz15_0 : W.heap.size < w15.heap.size := (by omega)
  have hz15_1 : W.heap.size + 1 < w15.heap.size := (by omega)
  obtain ⟨hc15, hf15, hl15⟩ := bcell hb15
  clear hl15
  go_wp2
  go_ret
  refine ⟨rfl, ?_⟩
  (repeat (first | assumption | exact Below.refl _ _ | refine ba ?_ _ | refine bd ?_ | refine bdn ?_ _ | refine bs ?_ (by first | omega | (simp; done) | (simp; omega)) _ | refine bt ?_ (by assumption)))
theorem vlaw1_any (va vb : Value) (la lb : List Pt) (k r : Int) (W : World) (hA : Vc W va la) (hV : Vc W vb lb) (hI : I64s la) (hT : TN W) : Calls Tryd.prog 3 #[va, vb, L2 k r] W fun e w' => e = .returned (.bool true) ∧ Below W.heap.size W w' := by
  by_cases hl : la.length ≤ 150 ∧ lb.length ≤ 150
  · exact vlaw1_short va vb la lb k r W hA hV hI hT hl
  · exact vlaw1_long va vb la lb k r W hA hV hl
end Go.Proofs.YtlhljioncgddeaaDoor

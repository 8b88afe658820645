/- The document's Add, Sub, Least at any two slices of parts. -/
import Derived.Test.YtlhljioncgddeaaDoorVr4
namespace Go.Proofs.YtlhljioncgddeaaDoor
open Go.RowKit
attribute [local go_sem] ext_cell ext_frozen Mix.extG_cell Mix.extG_frozen Mix.calmUpon Mix.mUpon
theorem refadd_bad1 (va vb : Value) (la : List Pt) (h : ¬ VR la) (hl : la.length < 1000000000) (W : World) (hA : Vc W va la) : Calls Tryd.prog 23 #[va, vb] W fun e w' => e = .returned (.tuple #[.slice none 0 0, .bool false]) ∧ Below W.heap.size W w' := by
  have HR := rright_v va la hl
  rw [decide_eq_false h] at HR
  have HR := Lib.hid HR
  have HA := Lib.hid hA
  clear hA h
  go_enter Tryd.func23, Tryd.ntmps23
  go_wp2_with fail
  (with_reducible refine (HR.out.app _ HA.out).mono ?_)
  rintro e w1 ⟨rfl, hb1⟩
  have hs1 : W.heap.size + 0 ≤ w1.heap.size := (by have h := hb1.size; first | omega | (simp at h; omega))
  obtain ⟨hc1, hf1, hl1⟩ := bcell hb1
  clear hl1
  go_wp2
  go_ret2
  refine ⟨rfl, ?_⟩
  (repeat (first | assumption | exact Below.refl _ _ | refine ba ?_ _ | refine bd ?_ | refine bdn ?_ _ | refine bs ?_ (by first | omega | (simp; done) | (simp; omega)) _ | refine bt ?_ (by assumption)))
theorem refadd_bad2 (va vb : Value) (la lb : List Pt) (h1 : VR la) (h : ¬ VR lb) (hl : la.length < 1000000000) (hl' : lb.length < 1000000000) (W : World) (hA : Vc W va la) (hB : Vc W vb lb) : Calls Tryd.prog 23 #[va, vb] W fun e w' => e = .returned (.tuple #[.slice none 0 0, .bool false]) ∧ Below W.heap.size W w' := by
  have HR := rright_v va la hl
  rw [decide_eq_true h1] at HR
  have HR := Lib.hid HR
  have HS := rright_v vb lb hl'
  rw [decide_eq_false h] at HS
  have HS := Lib.hid HS
  have HA := Lib.hid hA; have HB := Lib.hid hB
  clear hA hB h h1
  go_enter Tryd.func23, Tryd.ntmps23
  go_wp2_with fail
  (with_reducible refine (HR.out.app _ HA.out).mono ?_)
  rintro e w1 ⟨rfl, hb1⟩
  have hs1 : W.heap.size + 0 ≤ w1.heap.size := (by have h := hb1.size; first | omega | (simp at h; omega))
  obtain ⟨hc1, hf1, hl1⟩ := bcell hb1
  clear hl1
  go_wp2_with fail
  (with_reducible refine (HS.out.app _ (HB.out.on (by (repeat (first | assumption | exact Below.refl _ _ | refine ba ?_ _ | refine bd ?_ | refine bdn ?_ _ | refine bs ?_ (by first | omega | (simp; done) | (simp; omega)) _ | refine bt ?_ (by assumption)))))).mono ?_)
  rintro e w2 ⟨rfl, hb2⟩
  have hs2 : w1.heap.size + 0 ≤ w2.heap.size := (by have h := hb2.size; first | omega | (simp at h; omega))
  have hb1_2 := bel hb1 hb2 (by (repeat (first | assumption | exact Below.refl _ _ | refine ba ?_ _ | refine bd ?_ | refine bdn ?_ _ | refine bs ?_ (by first | omega | (simp; done) | (simp; omega)) _ | refine bt ?_ (by assumption))))
  clear hc1 hf1
  obtain ⟨hc2, hf2, hl2⟩ := bcell hb2
  clear hl2
  go_wp2
  go_ret2
  refine ⟨rfl, ?_⟩
  (repeat (first | assumption | exact Below.refl _ _ | refine ba ?_ _ | refine bd ?_ | refine bdn ?_ _ | refine bs ?_ (by first | omega | (simp; done) | (simp; omega)) _ | refine bt ?_ (by assumption)))
set_option maxRecDepth 100000 in
set_option maxHeartbeats 4000000 in
theorem refadd_good (va vb : Value) (la lb : List Pt) (h1 : VR la) (h2 : VR lb) (W : World) (hA : Vc W va la) (hB : Vc W vb lb) : Calls Tryd.prog 23 #[va, vb] W (RetO W (mrg gAdd la lb)) := by
  have l1 := vr_len h1; have l2 := vr_len h2
  have HR := rright_v va la (by omega)
  rw [decide_eq_true h1] at HR
  have HR := Lib.hid HR
  have HS := rright_v vb lb (by omega)
  rw [decide_eq_true h2] at HS
  have HS := Lib.hid HS
  have HA := Lib.hid hA; have HB := Lib.hid hB
  have HOF := fun (v : Value) w (h : Vc w v (la ++ lb)) => rof_any v (la ++ lb) (by rw [List.length_append]; omega) w h
  rw [ofO_append h1 h2] at HOF
  have HOF := Lib.hid HOF
  generalize mrg gAdd la lb = o at *
  clear hA hB h1 h2
  go_enter Tryd.func23, Tryd.ntmps23
  go_wp2_with fail
  (with_reducible refine (HR.out.app _ HA.out).mono ?_)
  rintro e w1 ⟨rfl, hb1⟩
  have hs1 : W.heap.size + 0 ≤ w1.heap.size := (by have h := hb1.size; first | omega | (simp at h; omega))
  obtain ⟨hc1, hf1, hl1⟩ := bcell hb1
  clear hl1
  go_wp2_with fail
  (with_reducible refine (HS.out.app _ (HB.out.on (by (repeat (first | assumption | exact Below.refl _ _ | refine ba ?_ _ | refine bd ?_ | refine bdn ?_ _ | refine bs ?_ (by first | omega | (simp; done) | (simp; omega)) _ | refine bt ?_ (by assumption)))))).mono ?_)
  rintro e w2 ⟨rfl, hb2⟩
  have hs2 : w1.heap.size + 0 ≤ w2.heap.size := (by have h := hb2.size; first | omega | (simp at h; omega))
  have hb1_2 := bel hb1 hb2 (by (repeat (first | assumption | exact Below.refl _ _ | refine ba ?_ _ | refine bd ?_ | refine bdn ?_ _ | refine bs ?_ (by first | omega | (simp; done) | (simp; omega)) _ | refine bt ?_ (by assumption))))
  clear hc1 hf1
  obtain ⟨hc2, hf2, hl2⟩ := bcell hb2
  clear hl2
  have HB2 := Lib.hid (show Below W.heap.size W w2 by (repeat (first | assumption | exact Below.refl _ _ | refine ba ?_ _ | refine bd ?_ | refine bdn ?_ _ | refine bs ?_ (by first | omega | (simp; done) | (simp; omega)) _ | refine bt ?_ (by assumption))))
  have HE := Lib.hid (show OwnP (w2.alloc (.cells #[] 64)) w2.heap.size (.slice (some ⟨w2.heap.size, 0, none⟩) 0 0) [] from World.ownsRow_made w2 #[] 0 (Nat.le_refl _) (by unfold maxLen; omega) rfl)
  go_wp2_with (at_builtin; first
    | (refine wpList_append_vc rfl _ _ rfl w2.heap.size (.slice (some ⟨w2.heap.size, 0, none⟩) 0 0) _ [] la rfl rfl HE.out (HA.out.on (bt HB2.out (ba (Below.refl _ _) _))) (by simp; omega) (by simp) ?_; intro v3 w3 ho3 hg3; have HO3 := Lib.hid ho3; have HG3 := Lib.hid (Below.grown ((Below.refl w2.heap.size w2).alloc (Nat.le_refl _) (.cells #[] 64)) hg3 (by simp) (fun k hk => (HE.out.lt k hk).1)); clear ho3 hg3)
    | (refine wpList_append_vc rfl _ _ rfl w2.heap.size v3 _ la lb rfl rfl (by have := HO3.out; simpa using this) (HB.out.on (bt HB2.out HG3.out)) (by omega) HG3.out.size ?_; intro v4 w4 ho4 hg4; have HO4 := Lib.hid ho4; have HG4 := Lib.hid (Below.grown HG3.out hg4 HG3.out.size (fun k hk => (HO3.out.lt k hk).1)); clear ho4 hg4))
  refine (HOF.out _ _ HO4.out.vc).mono ?_
  rintro e w5 ⟨v5, rfl, hv5, hb5⟩
  have HV5 := Lib.hid hv5
  have HB5 := Lib.hid hb5
  clear hv5 hb5
  go_wp2
  go_ret2
  exact ⟨v5, rfl, HV5.out, bt HB2.out (bt HG4.out HB5.out)⟩
theorem refadd_any (va vb : Value) (la lb : List Pt) (hl : la.length < 1000000000) (hl' : lb.length < 1000000000) (W : World) (hA : Vc W va la) (hB : Vc W vb lb) : Calls Tryd.prog 23 #[va, vb] W (RetO W (mrg gAdd la lb)) := by
  by_cases h1 : VR la
  · by_cases h2 : VR lb
    · exact refadd_good va vb la lb h1 h2 W hA hB
    · rw [mrg_bad fun h => h2 h.2]
      exact (refadd_bad2 va vb la lb h1 h2 hl hl' W hA hB).mono fun e w' ⟨he, hb⟩ => by subst he; exact RetO.none rfl hb
  · rw [mrg_bad fun h => h1 h.1]
    exact (refadd_bad1 va vb la h1 hl W hA).mono fun e w' ⟨he, hb⟩ => by subst he; exact RetO.none rfl hb
theorem gt_first_at {l : List Pt} (h : VR l) {t : Nat} (ht : t < l.length) : gt l (kk l t) (rr l t) = aa l t := by
  have h1 := gt_drop ht (kk l t) (rr l t)
  rw [if_pos ⟨rfl, rfl⟩] at h1
  have h3 := gt_append (l := l.take t) (m := l.drop t) (k := kk l t) (r := rr l t) fun x hx e => ?_
  · rw [List.take_append_drop] at h3
    exact h3.trans h1
  obtain ⟨i, hi, rfl⟩ := List.mem_iff_getElem.1 hx
  have hit : i < t := by rw [List.length_take] at hi; omega
  have h2 := List.pairwise_iff_getElem.1 h.2 i t (by omega) ht hit
  rw [List.getElem_take] at e
  unfold qy at h2
  rw [e.1, e.2, kra ht] at h2
  simp at h2
/-- Where the loop over the parts stands. -/
structure FS (W wr : World) (F : Int → Int → Int → Int) (l : List Pt) (v : Value) (t : Nat) : Prop where
  own : OwnP wr W.heap.size v (fL F (l.take t))
  bel : Below W.heap.size W wr
theorem fL_len (F : Int → Int → Int → Int) : ∀ l, (fL F l).length ≤ l.length
  | [] => Nat.le_refl _
  | p :: t => by have := fL_len F t; rw [fL]; split <;> simp <;> omega
set_option maxRecDepth 100000 in
set_option maxHeartbeats 8000000 in
theorem refsub_good (va vb : Value) (la lb : List Pt) (hh : HLD la lb) (W : World) (hA : Vc W va la) (hB : Vc W vb lb) : Calls Tryd.prog 25 #[va, vb] W fun e w' => ∃ v, e = .returned (.tuple #[v, .bool true]) ∧ Vc w' v (fL (fun k r x => x - gt lb k r) la) ∧ Below W.heap.size W w' := by
  have h1 := hh.1; have h2 := hh.2.1
  have hlen := vr_len h1
  have hlb := vr_len h2
  have HVA := Lib.hid h1
  have HVB := Lib.hid h2
  have HH := rholds_any va vb la lb (by have := vr_len h1; omega) (by have := vr_len h2; omega)
  rw [(hB_iff _ _).2 hh] at HH
  have HH := Lib.hid HH
  have HHD := Lib.hid hh
  have HA := Lib.hid hA; have HB := Lib.hid hB
  obtain ⟨a, n, cap, rfl, hn, hC⟩ := hA.cells
  have HC := Lib.hid hC; have HN := Lib.hid hn
  have hn9 : n ≤ 132 := by omega
  have HGet := Lib.hid fun k r => rget_any vb lb k r (by omega)
  clear hA hB hC hn h1 h2 hlen hh
  go_enter Tryd.func25, Tryd.ntmps25
  go_wp2_with fail
  (with_reducible refine (HH.out.app _ ⟨HA.out, HB.out⟩).mono ?_)
  rintro e w1 ⟨rfl, hb1⟩
  have hs1 : W.heap.size + 0 ≤ w1.heap.size := (by have h := hb1.size; first | omega | (simp at h; omega))
  obtain ⟨hc1, hf1, hl1⟩ := bcell hb1
  clear hl1
  have HW := Lib.hid (show Below W.heap.size W w1 by (repeat (first | assumption | exact Below.refl _ _ | refine ba ?_ _ | refine bd ?_ | refine bdn ?_ _ | refine bs ?_ (by first | omega | (simp; done) | (simp; omega)) _ | refine bt ?_ (by assumption))))
  go_wp2
  go_loopw [6, 7] (fun v i wr => ∃ t : Nat, t ≤ n ∧ i = .int .i64 t ∧ Hid (FS W wr (fun k r x => x - gt lb k r) la v t)) (fun _ i _ => n - (intOf i).toNat)
  case atStart => exact ⟨0, Nat.zero_le _, rfl, Lib.hid ⟨World.ownsRow_nil _ _ _ _, HW.out⟩⟩
  case round =>
    clear HW
    obtain ⟨t, ht, rfl, HS⟩ := hrel
    obtain ⟨w3, rfl⟩ : ∃ w3, w3 = wr := ⟨_, rfl⟩
    have hb3 := HS.out.bel
    have hs3 : W.heap.size + 0 ≤ w3.heap.size := (by have h := hb3.size; first | omega | (simp at h; omega))
    obtain ⟨hc3, hf3, hl3⟩ := bcell hb3
    clear hl3
    by_cases hlt : t < n
    · have hts : (t : Int) < (n : Int) := by omega
      have hll : t < la.length := by rw [← HN.out]; exact hlt
      obtain ⟨b, off, rfl, hb, c0, c1, c2⟩ := HC.out t hlt
      have hbl : b < w3.heap.size := Nat.lt_of_lt_of_le hb hb3.size
      have HT := Lib.hid (show fL (fun k r x => x - gt lb k r) (la.take (t + 1)) = wl (fL (fun k r x => x - gt lb k r) (la.take t)) (kk la t) (rr la t) ((fun k r x => x - gt lb k r) (kk la t) (rr la t) (aa la t)) by rw [take_succ' hll, fL_snoc])
      have hpok := HVA.out.1 _ (List.getElem_mem hll)
      rw [kra hll] at hpok
      have hx0 := hpok.2.1; have hx1 := hpok.2.2
      simp only at hx0 hx1
      have hle := HHD.out.2.2 (kk la t) (rr la t)
      have hga : gt la (kk la t) (rr la t) = aa la t := (gt_first_at HVA.out hll)
      rw [hga] at hle
      have hlf := fL_len (fun k r x => x - gt lb k r) (la.take t)
      have hlt2 : (la.take t).length ≤ n := by rw [HN.out]; exact List.length_take_le' _ _
      have hgn := gt_nn HVB.out (kk la t) (rr la t)
      clear hll hpok
      generalize kk la t = k at *; generalize rr la t = r at *; generalize aa la t = x at *
      have HO := Lib.hid (refslot_any k r x)
      have G1 := HGet.out k r
      obtain ⟨y, hy⟩ : ∃ y, y = gt lb k r := ⟨_, rfl⟩
      rw [← hy] at G1 hgn
      have G1 := Lib.hid G1
      have HY := Lib.hid hy
      have hy1 : y ≤ x := by
        rw [HY.out]; exact hle
      have wv : IntKind.i64.wrap (x - y) = x - y := IntWalk.i64_in _ (by omega)
      have hrow : u6.ownBlock ≠ some b := fun e => by have := (HS.out.own.lt _ e).1; omega
      have HBG := Lib.hid (fun (z : Mix.ExtG w3 u6.ownBlock) => HB.out.on (Below.grown hb3 (Mix.extG_grown _ _ z) hb3.size (fun j hj => (HS.out.own.lt j hj).1)))
      clear hy hle hga
      go_wp2_with fail
      refine Mix.regionG u6.ownBlock (by kernel_rfl) ?_
      intro w4 hb4
      refine Mix.take_exG _ _ 0 rfl (by kernel_rfl) (by kernel_rfl) (by kernel_rfl) (by kernel_rfl) (fun K hK => ?_)
      go_simp
      first | (refine hK _ ?_; clear hK K) | (apply Exists.intro; refine ⟨fun x => ?_, hK _ ?_⟩; ((go_at_call 46; with_reducible exact HO.out _)); clear hK K)
      refine Mix.take_exG _ _ 1 rfl (by kernel_rfl) (by kernel_rfl) (by kernel_rfl) (by kernel_rfl) (fun K hK => ?_)
      go_simp
      first | (refine hK _ ?_; clear hK K) | (apply Exists.intro; refine ⟨fun x => ?_, hK _ ?_⟩; ((go_at_call 46; with_reducible exact HO.out _)); clear hK K)
      refine Mix.take_exG _ _ 2 rfl (by kernel_rfl) (by kernel_rfl) (by kernel_rfl) (by kernel_rfl) (fun K hK => ?_)
      go_simp
      first | (refine hK _ ?_; clear hK K) | (apply Exists.intro; refine ⟨fun x => ?_, hK _ ?_⟩; ((go_at_call 46; with_reducible exact HO.out _)); clear hK K)
      refine Mix.take_exG _ _ 3 rfl (by kernel_rfl) (by kernel_rfl) (by kernel_rfl) (by kernel_rfl) (fun K hK => ?_)
      go_simp
      first | (refine hK _ ?_; clear hK K) | (apply Exists.intro; refine ⟨fun x => ?_, hK _ ?_⟩; ((go_at_call 46; with_reducible exact HO.out _)); clear hK K)
      refine Mix.take_exG _ _ 4 rfl (by kernel_rfl) (by kernel_rfl) (by kernel_rfl) (by kernel_rfl) (fun K hK => ?_)
      go_simp
      first | (refine hK _ ?_; clear hK K) | (apply Exists.intro; refine ⟨fun x => ?_, hK _ ?_⟩; ((go_at_call 46; with_reducible exact HO.out _)); clear hK K)
      refine Mix.take_exG _ _ 5 rfl (by kernel_rfl) (by kernel_rfl) (by kernel_rfl) (by kernel_rfl) (fun K hK => ?_)
      go_simp
      first | (refine hK _ ?_; clear hK K) | (apply Exists.intro; refine ⟨fun x => ?_, hK _ ?_⟩; ((go_at_call 46; with_reducible exact HO.out _)); clear hK K)
      refine Mix.take_exG _ _ 6 rfl (by kernel_rfl) (by kernel_rfl) (by kernel_rfl) (by kernel_rfl) (fun K hK => ?_)
      go_simp
      first | (refine hK _ ?_; clear hK K) | (apply Exists.intro; refine ⟨fun x => ?_, hK _ ?_⟩; ((go_at_call 46; with_reducible exact HO.out _)); clear hK K)
      refine Mix.take_exG _ _ 7 rfl (by kernel_rfl) (by kernel_rfl) (by kernel_rfl) (by kernel_rfl) (fun K hK => ?_)
      go_simp
      first | (refine hK _ ?_; clear hK K) | (apply Exists.intro; refine ⟨fun x => ?_, hK _ ?_⟩; ((go_at_call 46; with_reducible exact HO.out _)); clear hK K)
      refine Mix.take_exG _ _ 8 rfl (by kernel_rfl) (by kernel_rfl) (by kernel_rfl) (by kernel_rfl) (fun K hK => ?_)
      go_simp
      first | (refine hK _ ?_; clear hK K) | (apply Exists.intro; refine ⟨fun x => ?_, hK _ ?_⟩; ((go_at_call 46; with_reducible exact HO.out _)); clear hK K)
      refine Mix.take_exG _ _ 9 rfl (by kernel_rfl) (by kernel_rfl) (by kernel_rfl) (by kernel_rfl) (fun K hK => ?_)
      go_simp
      first | (refine hK _ ?_; clear hK K) | (apply Exists.intro; refine ⟨fun x => ?_, hK _ ?_⟩; ((go_at_call 46; with_reducible exact HO.out _)); clear hK K)
      refine Mix.take_exG _ _ 10 rfl (by kernel_rfl) (by kernel_rfl) (by kernel_rfl) (by kernel_rfl) (fun K hK => ?_)
      go_simp
      first | (refine hK _ ?_; clear hK K) | (apply Exists.intro; refine ⟨fun x => ?_, hK _ ?_⟩; ((go_at_call 46; with_reducible exact HO.out _)); clear hK K)
      refine Mix.take_exG _ _ 11 rfl (by kernel_rfl) (by kernel_rfl) (by kernel_rfl) (by kernel_rfl) (fun K hK => ?_)
      go_simp
      first | (refine hK _ ?_; clear hK K) | (apply Exists.intro; refine ⟨fun x => ?_, hK _ ?_⟩; ((go_at_call 46; with_reducible exact HO.out _)); clear hK K)
      refine Mix.take_exG _ _ 12 rfl (by kernel_rfl) (by kernel_rfl) (by kernel_rfl) (by kernel_rfl) (fun K hK => ?_)
      go_simp
      first | (refine hK _ ?_; clear hK K) | (apply Exists.intro; refine ⟨fun x => ?_, hK _ ?_⟩; ((go_at_call 46; with_reducible exact HO.out _)); clear hK K)
      refine Mix.take_exG _ _ 13 rfl (by kernel_rfl) (by kernel_rfl) (by kernel_rfl) (by kernel_rfl) (fun K hK => ?_)
      go_simp
      first | (refine hK _ ?_; clear hK K) | (apply Exists.intro; refine ⟨fun x => ?_, hK _ ?_⟩; ((go_at_call 46; with_reducible exact HO.out _)); clear hK K)
      refine Mix.take_exG _ _ 14 rfl (by kernel_rfl) (by kernel_rfl) (by kernel_rfl) (by kernel_rfl) (fun K hK => ?_)
      go_simp
      first | (refine hK _ ?_; clear hK K) | (apply Exists.intro; refine ⟨fun x => ?_, hK _ ?_⟩; ((go_at_call 46; with_reducible exact HO.out _)); clear hK K)
      refine Mix.take_exG _ _ 15 rfl (by kernel_rfl) (by kernel_rfl) (by kernel_rfl) (by kernel_rfl) (fun K hK => ?_)
      go_simp
      first | (refine hK _ ?_; clear hK K) | (apply Exists.intro; refine ⟨fun x => ?_, hK _ ?_⟩; ((go_at_call 46; with_reducible exact HO.out _)); clear hK K)
      refine Mix.take_exG _ _ 16 rfl (by kernel_rfl) (by kernel_rfl) (by kernel_rfl) (by kernel_rfl) (fun K hK => ?_)
      go_simp
      first | (refine hK _ ?_; clear hK K) | (apply Exists.intro; refine ⟨fun x => ?_, hK _ ?_⟩; ((go_at_call 46; with_reducible exact HO.out _)); clear hK K)
      refine Mix.take_exG _ _ 17 rfl (by kernel_rfl) (by kernel_rfl) (by kernel_rfl) (by kernel_rfl) (fun K hK => ?_)
      go_simp
      first | (refine hK _ ?_; clear hK K) | (apply Exists.intro; refine ⟨fun x => ?_, hK _ ?_⟩; ((go_at_call 18; with_reducible exact G1.out.app _ (HBG.out _))); clear hK K)
      refine Mix.take_exG _ _ 18 rfl (by kernel_rfl) (by kernel_rfl) (by kernel_rfl) (by kernel_rfl) (fun K hK => ?_)
      go_simp
      first | (refine hK _ ?_; clear hK K) | (apply Exists.intro; refine ⟨fun x => ?_, hK _ ?_⟩; (fail); clear hK K)
      refine Mix.all (rs := [19]) (by kernel_rfl) (by simp) (Mix.grown_of _ hb4) ?_
      intro i5 hi5 w5 hb5 hC5
      clear hC5
      have HB5 := Lib.hid (show Below w3.heap.size w3 w5 from bt hb4 hb5)
      simp only [List.mem_cons, List.not_mem_nil, or_false] at hi5
      subst hi5
      refine Mix.op rfl (by kernel_rfl) ?_
      go_simp
      refine (with_g W.heap.size u6 (fL (fun k r x => x - gt lb k r) (la.take t)) k r (x - y) (by omega) w5 (bt hb3 HB5.out).size (rowP_grow HS.out.own HB5.out)).mono ?_
      rintro e w6 ⟨u, rfl, hu, hg6⟩
      have HU := Lib.hid hu; have HG6 := Lib.hid hg6
      clear hu hg6
      refine ⟨_, rfl, ?_⟩
      refine Mix.all (rs := [20]) (by kernel_rfl) (by simp) ((Mix.grown_of _ HB5.out).trans HG6.out) ?_
      intro i8 hi8 w8 hb8 hC8
      simp only [List.mem_cons, List.not_mem_nil, or_false] at hi8
      subst hi8
      refine Mix.op rfl (by kernel_rfl) ?_
      go_simp
      refine Mix.done (by kernel_rfl) hC8 ?_
      intro w9 hb9
      have HB9 := Lib.hid (show Below w6.heap.size w6 w9 from bt hb8 hb9)
      clear hC8 hb8 hb9
      go_wp2
      go_roundw
      case rel =>
        refine ⟨t + 1, by omega, by go_num, Lib.hid ⟨?_, bt (Below.grown (bt hb3 HB5.out) HG6.out (bt hb3 HB5.out).size (fun j hj => (HS.out.own.lt j hj).1)) HB9.out⟩⟩
        rw [HT.out, ← HY.out]; exact rowP_grow HU.out HB9.out
      case measure => simp [intOf]; omega
    · obtain rfl : n = t := by omega
      have HF := HS.out.own
      rw [show la.take n = la from by rw [HN.out]; exact List.take_length] at HF
      have HV := Lib.hid HF
      have HF9 := Lib.hid hb3
      clear HF
      go_wp2
      go_ret2
      exact ⟨_, rfl, HV.out.vc, by have := HF9.out; (repeat (first | assumption | exact Below.refl _ _ | refine ba ?_ _ | refine bd ?_ | refine bdn ?_ _ | refine bs ?_ (by first | omega | (simp; done) | (simp; omega)) _ | refine bt ?_ (by assumption)))⟩
set_option maxRecDepth 100000 in
set_option maxHeartbeats 8000000 in
theorem refleast_good (va vb : Value) (la lb : List Pt) (h1 : VR la) (h2 : VR lb) (W : World) (hA : Vc W va la) (hB : Vc W vb lb) : Calls Tryd.prog 27 #[va, vb] W fun e w' => ∃ v, e = .returned v ∧ Vc w' v (fL (fun k r x => min x (gt lb k r)) la) ∧ Below W.heap.size W w' := by
  have hlen := vr_len h1
  have hlb := vr_len h2
  have HVA := Lib.hid h1
  have HVB := Lib.hid h2
  have R1 := rright_v va la (by have := vr_len h1; omega)
  rw [decide_eq_true h1] at R1
  have R1 := Lib.hid R1
  have R2 := rright_v vb lb (by have := vr_len h2; omega)
  rw [decide_eq_true h2] at R2
  have R2 := Lib.hid R2
  have HA := Lib.hid hA; have HB := Lib.hid hB
  obtain ⟨a, n, cap, rfl, hn, hC⟩ := hA.cells
  have HC := Lib.hid hC; have HN := Lib.hid hn
  have hn9 : n ≤ 132 := by omega
  have HGet := Lib.hid fun k r => rget_any vb lb k r (by omega)
  clear hA hB hC hn h1 h2 hlen
  go_enter Tryd.func27, Tryd.ntmps27
  go_wp2_with fail
  (with_reducible refine (R1.out.app _ HA.out).mono ?_)
  rintro e w1 ⟨rfl, hb1⟩
  have hs1 : W.heap.size + 0 ≤ w1.heap.size := (by have h := hb1.size; first | omega | (simp at h; omega))
  obtain ⟨hc1, hf1, hl1⟩ := bcell hb1
  clear hl1
  go_wp2_with fail
  (with_reducible refine (R2.out.app _ (HB.out.on (by (repeat (first | assumption | exact Below.refl _ _ | refine ba ?_ _ | refine bd ?_ | refine bdn ?_ _ | refine bs ?_ (by first | omega | (simp; done) | (simp; omega)) _ | refine bt ?_ (by assumption)))))).mono ?_)
  rintro e w2 ⟨rfl, hb2⟩
  have hs2 : w1.heap.size + 0 ≤ w2.heap.size := (by have h := hb2.size; first | omega | (simp at h; omega))
  have hb1_2 := bel hb1 hb2 (by (repeat (first | assumption | exact Below.refl _ _ | refine ba ?_ _ | refine bd ?_ | refine bdn ?_ _ | refine bs ?_ (by first | omega | (simp; done) | (simp; omega)) _ | refine bt ?_ (by assumption))))
  clear hc1 hf1
  obtain ⟨hc2, hf2, hl2⟩ := bcell hb2
  clear hl2
  have HW := Lib.hid (show Below W.heap.size W w2 by (repeat (first | assumption | exact Below.refl _ _ | refine ba ?_ _ | refine bd ?_ | refine bdn ?_ _ | refine bs ?_ (by first | omega | (simp; done) | (simp; omega)) _ | refine bt ?_ (by assumption))))
  go_wp2
  go_loopw [5, 6] (fun v i wr => ∃ t : Nat, t ≤ n ∧ i = .int .i64 t ∧ Hid (FS W wr (fun k r x => min x (gt lb k r)) la v t)) (fun _ i _ => n - (intOf i).toNat)
  case atStart => exact ⟨0, Nat.zero_le _, rfl, Lib.hid ⟨World.ownsRow_nil _ _ _ _, HW.out⟩⟩
  case round =>
    clear HW
    obtain ⟨t, ht, rfl, HS⟩ := hrel
    obtain ⟨w3, rfl⟩ : ∃ w3, w3 = wr := ⟨_, rfl⟩
    have hb3 := HS.out.bel
    have hs3 : W.heap.size + 0 ≤ w3.heap.size := (by have h := hb3.size; first | omega | (simp at h; omega))
    obtain ⟨hc3, hf3, hl3⟩ := bcell hb3
    clear hl3
    by_cases hlt : t < n
    · have hts : (t : Int) < (n : Int) := by omega
      have hll : t < la.length := by rw [← HN.out]; exact hlt
      obtain ⟨b, off, rfl, hb, c0, c1, c2⟩ := HC.out t hlt
      have hbl : b < w3.heap.size := Nat.lt_of_lt_of_le hb hb3.size
      have HT := Lib.hid (show fL (fun k r x => min x (gt lb k r)) (la.take (t + 1)) = wl (fL (fun k r x => min x (gt lb k r)) (la.take t)) (kk la t) (rr la t) ((fun k r x => min x (gt lb k r)) (kk la t) (rr la t) (aa la t)) by rw [take_succ' hll, fL_snoc])
      have hpok := HVA.out.1 _ (List.getElem_mem hll)
      rw [kra hll] at hpok
      have hx0 := hpok.2.1; have hx1 := hpok.2.2
      simp only at hx0 hx1
      have hlf := fL_len (fun k r x => min x (gt lb k r)) (la.take t)
      have hlt2 : (la.take t).length ≤ n := by rw [HN.out]; exact List.length_take_le' _ _
      have hgn := gt_nn HVB.out (kk la t) (rr la t)
      clear hll hpok
      generalize kk la t = k at *; generalize rr la t = r at *; generalize aa la t = x at *
      have HO := Lib.hid (refslot_any k r x)
      have G1 := HGet.out k r
      obtain ⟨y, hy⟩ : ∃ y, y = gt lb k r := ⟨_, rfl⟩
      rw [← hy] at G1 hgn
      have G1 := Lib.hid G1
      have HY := Lib.hid hy
      have wv : IntKind.i64.wrap (x - y) = x - y := IntWalk.i64_in _ (by omega)
      have hrow : u5.ownBlock ≠ some b := fun e => by have := (HS.out.own.lt _ e).1; omega
      have HBG := Lib.hid (fun (z : Mix.ExtG w3 u5.ownBlock) => HB.out.on (Below.grown hb3 (Mix.extG_grown _ _ z) hb3.size (fun j hj => (HS.out.own.lt j hj).1)))
      clear hy
      go_wp2_with fail
      refine Mix.regionG u5.ownBlock (by kernel_rfl) ?_
      intro w4 hb4
      refine Mix.take_exG _ _ 0 rfl (by kernel_rfl) (by kernel_rfl) (by kernel_rfl) (by kernel_rfl) (fun K hK => ?_)
      go_simp
      first | (refine hK _ ?_; clear hK K) | (apply Exists.intro; refine ⟨fun x => ?_, hK _ ?_⟩; ((go_at_call 46; with_reducible exact HO.out _)); clear hK K)
      refine Mix.take_exG _ _ 1 rfl (by kernel_rfl) (by kernel_rfl) (by kernel_rfl) (by kernel_rfl) (fun K hK => ?_)
      go_simp
      first | (refine hK _ ?_; clear hK K) | (apply Exists.intro; refine ⟨fun x => ?_, hK _ ?_⟩; ((go_at_call 46; with_reducible exact HO.out _)); clear hK K)
      refine Mix.take_exG _ _ 2 rfl (by kernel_rfl) (by kernel_rfl) (by kernel_rfl) (by kernel_rfl) (fun K hK => ?_)
      go_simp
      first | (refine hK _ ?_; clear hK K) | (apply Exists.intro; refine ⟨fun x => ?_, hK _ ?_⟩; ((go_at_call 46; with_reducible exact HO.out _)); clear hK K)
      refine Mix.take_exG _ _ 3 rfl (by kernel_rfl) (by kernel_rfl) (by kernel_rfl) (by kernel_rfl) (fun K hK => ?_)
      go_simp
      first | (refine hK _ ?_; clear hK K) | (apply Exists.intro; refine ⟨fun x => ?_, hK _ ?_⟩; ((go_at_call 46; with_reducible exact HO.out _)); clear hK K)
      refine Mix.take_exG _ _ 4 rfl (by kernel_rfl) (by kernel_rfl) (by kernel_rfl) (by kernel_rfl) (fun K hK => ?_)
      go_simp
      first | (refine hK _ ?_; clear hK K) | (apply Exists.intro; refine ⟨fun x => ?_, hK _ ?_⟩; ((go_at_call 46; with_reducible exact HO.out _)); clear hK K)
      refine Mix.take_exG _ _ 5 rfl (by kernel_rfl) (by kernel_rfl) (by kernel_rfl) (by kernel_rfl) (fun K hK => ?_)
      go_simp
      first | (refine hK _ ?_; clear hK K) | (apply Exists.intro; refine ⟨fun x => ?_, hK _ ?_⟩; ((go_at_call 46; with_reducible exact HO.out _)); clear hK K)
      refine Mix.take_exG _ _ 6 rfl (by kernel_rfl) (by kernel_rfl) (by kernel_rfl) (by kernel_rfl) (fun K hK => ?_)
      go_simp
      first | (refine hK _ ?_; clear hK K) | (apply Exists.intro; refine ⟨fun x => ?_, hK _ ?_⟩; ((go_at_call 46; with_reducible exact HO.out _)); clear hK K)
      refine Mix.take_exG _ _ 7 rfl (by kernel_rfl) (by kernel_rfl) (by kernel_rfl) (by kernel_rfl) (fun K hK => ?_)
      go_simp
      first | (refine hK _ ?_; clear hK K) | (apply Exists.intro; refine ⟨fun x => ?_, hK _ ?_⟩; ((go_at_call 46; with_reducible exact HO.out _)); clear hK K)
      refine Mix.take_exG _ _ 8 rfl (by kernel_rfl) (by kernel_rfl) (by kernel_rfl) (by kernel_rfl) (fun K hK => ?_)
      go_simp
      first | (refine hK _ ?_; clear hK K) | (apply Exists.intro; refine ⟨fun x => ?_, hK _ ?_⟩; ((go_at_call 46; with_reducible exact HO.out _)); clear hK K)
      refine Mix.take_exG _ _ 9 rfl (by kernel_rfl) (by kernel_rfl) (by kernel_rfl) (by kernel_rfl) (fun K hK => ?_)
      go_simp
      first | (refine hK _ ?_; clear hK K) | (apply Exists.intro; refine ⟨fun x => ?_, hK _ ?_⟩; ((go_at_call 46; with_reducible exact HO.out _)); clear hK K)
      refine Mix.take_exG _ _ 10 rfl (by kernel_rfl) (by kernel_rfl) (by kernel_rfl) (by kernel_rfl) (fun K hK => ?_)
      go_simp
      first | (refine hK _ ?_; clear hK K) | (apply Exists.intro; refine ⟨fun x => ?_, hK _ ?_⟩; ((go_at_call 46; with_reducible exact HO.out _)); clear hK K)
      refine Mix.take_exG _ _ 11 rfl (by kernel_rfl) (by kernel_rfl) (by kernel_rfl) (by kernel_rfl) (fun K hK => ?_)
      go_simp
      first | (refine hK _ ?_; clear hK K) | (apply Exists.intro; refine ⟨fun x => ?_, hK _ ?_⟩; ((go_at_call 46; with_reducible exact HO.out _)); clear hK K)
      refine Mix.take_exG _ _ 12 rfl (by kernel_rfl) (by kernel_rfl) (by kernel_rfl) (by kernel_rfl) (fun K hK => ?_)
      go_simp
      first | (refine hK _ ?_; clear hK K) | (apply Exists.intro; refine ⟨fun x => ?_, hK _ ?_⟩; ((go_at_call 46; with_reducible exact HO.out _)); clear hK K)
      refine Mix.take_exG _ _ 13 rfl (by kernel_rfl) (by kernel_rfl) (by kernel_rfl) (by kernel_rfl) (fun K hK => ?_)
      go_simp
      first | (refine hK _ ?_; clear hK K) | (apply Exists.intro; refine ⟨fun x => ?_, hK _ ?_⟩; ((go_at_call 46; with_reducible exact HO.out _)); clear hK K)
      refine Mix.take_exG _ _ 14 rfl (by kernel_rfl) (by kernel_rfl) (by kernel_rfl) (by kernel_rfl) (fun K hK => ?_)
      go_simp
      first | (refine hK _ ?_; clear hK K) | (apply Exists.intro; refine ⟨fun x => ?_, hK _ ?_⟩; ((go_at_call 46; with_reducible exact HO.out _)); clear hK K)
      refine Mix.take_exG _ _ 15 rfl (by kernel_rfl) (by kernel_rfl) (by kernel_rfl) (by kernel_rfl) (fun K hK => ?_)
      go_simp
      first | (refine hK _ ?_; clear hK K) | (apply Exists.intro; refine ⟨fun x => ?_, hK _ ?_⟩; ((go_at_call 46; with_reducible exact HO.out _)); clear hK K)
      refine Mix.take_exG _ _ 16 rfl (by kernel_rfl) (by kernel_rfl) (by kernel_rfl) (by kernel_rfl) (fun K hK => ?_)
      go_simp
      first | (refine hK _ ?_; clear hK K) | (apply Exists.intro; refine ⟨fun x => ?_, hK _ ?_⟩; ((go_at_call 46; with_reducible exact HO.out _)); clear hK K)
      refine Mix.take_exG _ _ 17 rfl (by kernel_rfl) (by kernel_rfl) (by kernel_rfl) (by kernel_rfl) (fun K hK => ?_)
      go_simp
      first | (refine hK _ ?_; clear hK K) | (apply Exists.intro; refine ⟨fun x => ?_, hK _ ?_⟩; ((go_at_call 18; with_reducible exact G1.out.app _ (HBG.out _))); clear hK K)
      refine Mix.take_exG _ _ 18 rfl (by kernel_rfl) (by kernel_rfl) (by kernel_rfl) (by kernel_rfl) (fun K hK => ?_)
      go_simp
      first | (refine hK _ ?_; clear hK K) | (apply Exists.intro; refine ⟨fun x => ?_, hK _ ?_⟩; (fail); clear hK K)
      refine Mix.all (rs := [19]) (by kernel_rfl) (by simp) (Mix.grown_of _ hb4) ?_
      intro i5 hi5 w5 hb5 hC5
      clear hC5
      have HB5 := Lib.hid (show Below w3.heap.size w3 w5 from bt hb4 hb5)
      simp only [List.mem_cons, List.not_mem_nil, or_false] at hi5
      subst hi5
      refine Mix.op rfl (by kernel_rfl) ?_
      go_simp
      refine (with_g W.heap.size u5 (fL (fun k r x => min x (gt lb k r)) (la.take t)) k r (min x y) (by omega) w5 (bt hb3 HB5.out).size (rowP_grow HS.out.own HB5.out)).mono ?_
      rintro e w6 ⟨u, rfl, hu, hg6⟩
      have HU := Lib.hid hu; have HG6 := Lib.hid hg6
      clear hu hg6
      refine ⟨_, rfl, ?_⟩
      refine Mix.all (rs := [20]) (by kernel_rfl) (by simp) ((Mix.grown_of _ HB5.out).trans HG6.out) ?_
      intro i8 hi8 w8 hb8 hC8
      simp only [List.mem_cons, List.not_mem_nil, or_false] at hi8
      subst hi8
      refine Mix.op rfl (by kernel_rfl) ?_
      go_simp
      refine Mix.done (by kernel_rfl) hC8 ?_
      intro w9 hb9
      have HB9 := Lib.hid (show Below w6.heap.size w6 w9 from bt hb8 hb9)
      clear hC8 hb8 hb9
      go_wp2
      go_roundw
      case rel =>
        refine ⟨t + 1, by omega, by go_num, Lib.hid ⟨?_, bt (Below.grown (bt hb3 HB5.out) HG6.out (bt hb3 HB5.out).size (fun j hj => (HS.out.own.lt j hj).1)) HB9.out⟩⟩
        rw [HT.out, ← HY.out]; exact rowP_grow HU.out HB9.out
      case measure => simp [intOf]; omega
    · obtain rfl : n = t := by omega
      have HF := HS.out.own
      rw [show la.take n = la from by rw [HN.out]; exact List.take_length] at HF
      have HV := Lib.hid HF
      have HF9 := Lib.hid hb3
      clear HF
      go_wp2
      go_ret
      exact ⟨_, rfl, HV.out.vc, by have := HF9.out; (repeat (first | assumption | exact Below.refl _ _ | refine ba ?_ _ | refine bd ?_ | refine bdn ?_ _ | refine bs ?_ (by first | omega | (simp; done) | (simp; omega)) _ | refine bt ?_ (by assumption)))⟩
theorem refsub_any (va vb : Value) (la lb : List Pt) (hl : la.length < 1000000000) (hl' : lb.length < 1000000000) (W : World) (hA : Vc W va la) (hB' : Vc W vb lb) : Calls Tryd.prog 25 #[va, vb] W (RetO W (mrg gSub la lb)) := by
  by_cases hh : HLD la lb
  · rw [sub_fL hh]
    exact (refsub_good va vb la lb hh W hA hB').mono fun e w' ⟨v, he, hv, hb⟩ => ⟨v, he, hv, hb⟩
  · have hz : hB la lb = false := by
      cases hq : hB la lb with
      | false => rfl
      | true => exact absurd ((hB_iff _ _).1 hq) hh
    have hm : mrg gSub la lb = none := by
      cases hq : mrg gSub la lb with
      | none => rfl
      | some l => exact absurd ((sub_iff la lb).1 (by rw [hq]; rfl)) hh
    rw [hm]
    have HH := rholds_any va vb la lb hl hl'
    rw [hz] at HH
    have HH := Lib.hid HH
    have HA := Lib.hid hA; have HB := Lib.hid hB'
    clear hA hB' hm hz hh
    go_enter Tryd.func25, Tryd.ntmps25
    go_wp2_with fail
    (with_reducible refine (HH.out.app _ ⟨HA.out, HB.out⟩).mono ?_)
    rintro e w1 ⟨rfl, hb1⟩
    have hs1 : W.heap.size + 0 ≤ w1.heap.size := (by have h := hb1.size; first | omega | (simp at h; omega))
    obtain ⟨hc1, hf1, hl1⟩ := bcell hb1
    clear hl1
    go_wp2
    go_ret2
    exact RetO.none rfl (by (repeat (first | assumption | exact Below.refl _ _ | refine ba ?_ _ | refine bd ?_ | refine bdn ?_ _ | refine bs ?_ (by first | omega | (simp; done) | (simp; omega)) _ | refine bt ?_ (by assumption))))
theorem refleast_any (va vb : Value) (la lb : List Pt) (hl : la.length < 1000000000) (hl' : lb.length < 1000000000) (W : World) (hA : Vc W va la) (hB' : Vc W vb lb) : Calls Tryd.prog 27 #[va, vb] W fun e w' => ∃ v, e = .returned v ∧ Vc w' v ((mrg gMin la lb).getD []) ∧ Below W.heap.size W w' := by
  by_cases h1 : VR la
  · by_cases h2 : VR lb
    · rw [min_fL h1 h2]; exact refleast_good va vb la lb h1 h2 W hA hB'
    · rw [mrg_bad fun h => h2 h.2]
      have R1 := rright_v va la hl
      rw [decide_eq_true h1] at R1
      have R1 := Lib.hid R1
      have R2 := rright_v vb lb hl'
      rw [decide_eq_false h2] at R2
      have R2 := Lib.hid R2
      have HA := Lib.hid hA; have HB := Lib.hid hB'
      clear hA hB' h1 h2
      go_enter Tryd.func27, Tryd.ntmps27
      go_wp2_with fail
      (with_reducible refine (R1.out.app _ HA.out).mono ?_)
      rintro e w1 ⟨rfl, hb1⟩
      have hs1 : W.heap.size + 0 ≤ w1.heap.size := (by have h := hb1.size; first | omega | (simp at h; omega))
      obtain ⟨hc1, hf1, hl1⟩ := bcell hb1
      clear hl1
      go_wp2_with fail
      (with_reducible refine (R2.out.app _ (HB.out.on (by (repeat (first | assumption | exact Below.refl _ _ | refine ba ?_ _ | refine bd ?_ | refine bdn ?_ _ | refine bs ?_ (by first | omega | (simp; done) | (simp; omega)) _ | refine bt ?_ (by assumption)))))).mono ?_)
      rintro e w2 ⟨rfl, hb2⟩
      have hs2 : w1.heap.size + 0 ≤ w2.heap.size := (by have h := hb2.size; first | omega | (simp at h; omega))
      have hb1_2 := bel hb1 hb2 (by (repeat (first | assumption | exact Below.refl _ _ | refine ba ?_ _ | refine bd ?_ | refine bdn ?_ _ | refine bs ?_ (by first | omega | (simp; done) | (simp; omega)) _ | refine bt ?_ (by assumption))))
      clear hc1 hf1
      obtain ⟨hc2, hf2, hl2⟩ := bcell hb2
      clear hl2
      go_wp2
      go_ret
      exact ⟨_, rfl, Vc.nil _, by (repeat (first | assumption | exact Below.refl _ _ | refine ba ?_ _ | refine bd ?_ | refine bdn ?_ _ | refine bs ?_ (by first | omega | (simp; done) | (simp; omega)) _ | refine bt ?_ (by assumption)))⟩
  · rw [mrg_bad fun h => h1 h.1]
    have R1 := rright_v va la hl
    rw [decide_eq_false h1] at R1
    have R1 := Lib.hid R1
    have HA := Lib.hid hA
    clear hA hB' h1
    go_enter Tryd.func27, Tryd.ntmps27
    go_wp2_with fail
    (with_reducible refine (R1.out.app _ HA.out).mono ?_)
    rintro e w1 ⟨rfl, hb1⟩
    have hs1 : W.heap.size + 0 ≤ w1.heap.size := (by have h := hb1.size; first | omega | (simp at h; omega))
    obtain ⟨hc1, hf1, hl1⟩ := bcell hb1
    clear hl1
    go_wp2
    go_ret
    exact ⟨_, rfl, Vc.nil _, by (repeat (first | assumption | exact Below.refl _ _ | refine ba ?_ _ | refine bd ?_ | refine bdn ?_ _ | refine bs ?_ (by first | omega | (simp; done) | (simp; omega)) _ | refine bt ?_ (by assumption)))⟩
end Go.Proofs.YtlhljioncgddeaaDoor

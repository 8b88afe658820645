/- agents: Lose. -/
import Derived.Test.YtennhfkhdfalfaaAg3
import Derived.Test.YtennhfkhdfalfaaVecN
namespace Go.Proofs.Ytennhfkhdfalfaa
open Go.RowKit Go.Maps
attribute [local go_sem] ext_cell ext_frozen extC_cell extC_frozen Mix.calmUpon Mix.mUpon
theorem kS_nn {l : List Pt} (h : VR l) (j : Nat) : 0 ≤ kS l j := (kS_bd h j).1
theorem sumA_nn {f : Pa → List Pt} (j : Nat) : ∀ {S : List Pa}, (∀ x ∈ S, VR (f x)) → 0 ≤ sumA f S j
  | [], _ => Int.le_refl _
  | x :: t, h => by
    rw [sumA_cons]
    have h1 := kS_nn (h x (by simp)) j
    have h2 := sumA_nn j (S := t) fun y hy => h y (by simp [hy])
    omega
theorem AIn.sok {cap most : Int} {S : List Pa} (h : AIn cap most S) : SOk (sumA totA S) := sok_all fun j hj => by
  have h1 := sumA_nn (f := totA) j (S := S) fun x hx => (h.ok x hx).vt
  have h2 := h.ms j hj
  have h3 := h.m1.2
  unfold KOk
  omega
theorem AIn.del {cap most : Int} {S : List Pa} (h : AIn cap most S) {k : Int} {x : Pa} (hx : fndA S k = some x) : AIn cap most (delA S k) := by
  refine ⟨h.srt.del k, fun y hy => h.ok y (Srt.mem_del.1 hy).1, ?_, fun j hj => ?_, h.c1, h.m1⟩
  · have := Srt.del_len h.srt hx
    have := h.cp
    unfold delA; omega
  · have h1 := sumA_del totA j h.srt hx
    have h2 := kS_nn ((h.ok x (Srt.fnd_mem hx).1).vt) j
    have h3 := h.ms j hj
    show sumA totA (delA S k) j ≤ most
    have e : totA x = x.2.1 := rfl
    rw [e] at h1; omega
theorem AIn.hok {cap most : Int} {S : List Pa} (h : AIn cap most S) {k : Int} {x : Pa} (hx : fndA S k = some x) : HOk (sumA totA S) (kS x.2.1) := by
  have hv := (h.ok x (Srt.fnd_mem hx).1).vt
  have key : ∀ j, kS x.2.1 j ≤ sumA totA S j := fun j => by
    have h1 := sumA_del totA j h.srt hx
    have h2 := sumA_nn (f := totA) j (S := delA S k) fun y hy => (h.ok y (Srt.mem_del.1 hy).1).vt
    have e : totA x = x.2.1 := rfl
    rw [e] at h1; omega
  exact ⟨h.sok, kS_ok hv, key 0, key 1, key 2, key 3⟩
abbrev TM (tp M : Nat) : Nat → Prop := fun b => b = tp ∨ b = M
section
variable {W w w' : World} {tp M : Nat} {cap most : Int} {F : Int → Option Ag} {S : List Pa}
/-- A table made anew of what it is made of. -/
theorem AT.anew (h : AT W w tp M cap most F S) {F' : Int → Option Ag} {S' : List Pa} (hc : Chg (TM tp M) w w')
    (hobj : w'.heap[tp]? = some (.cells #[.int .i64 cap, .int .i64 most, .map (some M), .int .i64 (sumA totA S' 0), .int .i64 (sumA totA S' 1), .int .i64 (sumA totA S' 2), .int .i64 (sumA totA S' 3)] 52 (0, 0)))
    (hm : MapF K64 w' M F' agval) (hv : ∀ k x, F' k = some x → F k = some x ∨ (OwnP w' W.heap.size x.tv x.tps ∧ OwnP w' W.heap.size x.fv x.fps) ∧ (∀ b, x.tv.ownBlock = some b → b ≠ tp ∧ b ≠ M) ∧ ∀ b, x.fv.ownBlock = some b → b ≠ tp ∧ b ≠ M)
    (hpl : ∀ k, fndA S' k = (F' k).map fun x => (k, x.tps, x.fps)) (hain : AIn cap most S') : AT W w' tp M cap most F' S' := by
  refine ⟨hobj, hm, h.bel.trans (hc.below h.bel.size fun k e => by rcases e with e | e; rw [e]; exact h.new.1; rw [e]; exact h.new.2), h.new, h.ne, fun k x hx => ?_, fun k x hx => ?_, hpl, hain⟩
  · rcases hv k x hx with h' | h'
    · have ho := h.off k x h'
      exact ⟨ownsRow_chg (h.vec k x h').1 hc fun b hb e => (by have := ho.1 b hb; rcases e with e | e; exact this.1 e; exact this.2 e), ownsRow_chg (h.vec k x h').2 hc fun b hb e => (by have := ho.2 b hb; rcases e with e | e; exact this.1 e; exact this.2 e)⟩
    · exact h'.1
  · rcases hv k x hx with h' | h'
    · exact h.off k x h'
    · exact h'.2
/-- The sums stored anew: the object, and what stays. -/
theorem AT.sums (h : AT W w tp M cap most F S) (A : Nat → Int) : ((((w.setCell ⟨tp, 3, none⟩ (.int .i64 (A 0))).setCell ⟨tp, 4, none⟩ (.int .i64 (A 1))).setCell ⟨tp, 5, none⟩ (.int .i64 (A 2))).setCell ⟨tp, 6, none⟩ (.int .i64 (A 3))).heap[tp]? =
    some (.cells #[.int .i64 cap, .int .i64 most, .map (some M), .int .i64 (A 0), .int .i64 (A 1), .int .i64 (A 2), .int .i64 (A 3)] 52 (0, 0)) ∧
    Chg (fun b => b = tp) w ((((w.setCell ⟨tp, 3, none⟩ (.int .i64 (A 0))).setCell ⟨tp, 4, none⟩ (.int .i64 (A 1))).setCell ⟨tp, 5, none⟩ (.int .i64 (A 2))).setCell ⟨tp, 6, none⟩ (.int .i64 (A 3))) :=
  ⟨heap_setCell_at _ (heap_setCell_at _ (heap_setCell_at _ (heap_setCell_at _ h.obj))), ((((Chg.refl (fun b => b = tp) w).setCell (p := ⟨tp, 3, none⟩) (.inl rfl) _).setCell (p := ⟨tp, 4, none⟩) (.inl rfl) _).setCell (p := ⟨tp, 5, none⟩) (.inl rfl) _).setCell (p := ⟨tp, 6, none⟩) (.inl rfl) _⟩
set_option maxRecDepth 100000 in
set_option maxHeartbeats 4000000 in
theorem alose (h : AT W w tp M cap most F S) {k : Int} (hk : I64 k) :
    Calls Try.prog 26 #[ptr tp, .int .i64 k] w fun e w' => e = .returned (.bool (fndA S k).isSome) ∧ AP W w' tp M cap most (delA S k) ∧ Chg (TM tp M) w w' := by
  cases hf : F k with
  | none =>
    have HA := afind h hk
    unfold afA at HA
    rw [hf] at HA
    have HA := Lib.hid HA
    have H := Lib.hid h
    have HPL := Lib.hid (show fndA S k = none by rw [h.pl, hf]; rfl)
    clear hf h hk
    go_enter Try.func26, Try.ntmps26
    go_wp2_with fail
    refine HA.out.mono ?_
    rintro e w1 ⟨rfl, hb1⟩
    have HB2 := Lib.hid (bt hb1 (ba (Below.refl w1.heap.size w1) (.cells #[.slice none 0 0, .slice none 0 0] 118)))
    clear hb1
    go_wp2
    go_ret
    refine ⟨by rw [HPL.out]; rfl, ⟨F, ?_⟩, .of_below _ HB2.out⟩
    rw [show delA S k = S from Srt.del_same HPL.out]; exact H.out.below HB2.out
  | some x =>
    -- the agent is there: behind find, at the world w2, its copy in block b2
    have HFK := Lib.hid hf
    obtain ⟨ta, tc, htv, -, -⟩ := (h.vec k x hf).1.vc.form
    obtain ⟨fa, fc, hfv, -, -⟩ := (h.vec k x hf).2.vc.form
    have HXV := Lib.hid (h.vec k x hf); have HXO := Lib.hid (h.off k x hf)
    obtain ⟨hfp, hpok⟩ := h.some_ok hf
    have HFP := Lib.hid hfp; have HPOK := Lib.hid hpok
    have HA := afind h hk
    unfold afA at HA
    rw [hf] at HA
    obtain ⟨tv, tps, fv, fps⟩ := x
    simp only at htv hfv HA HXV HXO HFP HPOK
    subst htv hfv
    obtain ⟨tn, htn⟩ : ∃ tn, tn = tps.length := ⟨_, rfl⟩
    obtain ⟨fn, hfn⟩ : ∃ fn, fn = fps.length := ⟨_, rfl⟩
    rw [← htn, ← hfn] at HA HXV HXO
    have HTN := Lib.hid (And.intro htn hfn)
    have HA := Lib.hid HA
    have H := Lib.hid h; have HK := Lib.hid hk
    clear hf h htn hfn hfp hpok hk
    go_enter Try.func26, Try.ntmps26
    go_wp2_with fail
    refine HA.out.mono ?_
    rintro e w1 ⟨rfl, hb1⟩
    have hbA := ba (Below.refl w1.heap.size w1) (.cells #[.slice ta tn tc, .slice fa fn fc] 118)
    have HB2 := Lib.hid (bt hb1 hbA)
    have HG2 := Lib.hid (show GB (w1.alloc (.cells #[.slice ta tn tc, .slice fa fn fc] 118)) w1.heap.size (.slice ta tn tc) (.slice fa fn fc) from GB.made w1 _ _)
    have HSZ := Lib.hid hb1.size
    clear hb1 hbA
    go_wp2_with fail
    generalize w1.alloc (.cells #[.slice ta tn tc, .slice fa fn fc] 118) = w2 at *
    obtain ⟨b2, hb2q⟩ : ∃ b2, b2 = w1.heap.size := ⟨_, rfl⟩
    rw [← hb2q] at HG2 HSZ ⊢
    clear hb2q
    have HOF := Lib.hid (fun (X : World) (hX : Below w2.heap.size w2 X) => sumsW (.slice ta tn tc) tps HPOK.out.vt X (((HXV.out.1.vc).on HB2.out).on hX))
    have hsub := sub_yes _ _ (H.out.ain.hok HFP.out)
    simp only at hsub
    have HSUB := Lib.hid hsub
    have hlk := H.out.ain.srt
    have HSD := Lib.hid (show ∀ j, sumA totA S j - kS tps j = sumA totA (delA S k) j from fun j => by
      have h1 := sumA_del totA j hlk HFP.out
      have e : totA (k, tps, fps) = tps := rfl
      rw [e] at h1; omega)
    have h2 := H.out.below HB2.out
    obtain ⟨c0, c1, c2, s0, s1, s2, s3⟩ := h2.cells
    have y3 := h2.fz 3; have y4 := h2.fz 4; have y5 := h2.fz 5; have y6 := h2.fz 6
    have hl2 := h2.lt.1
    obtain ⟨g0, g1⟩ := HG2.out.cells
    have gl := HG2.out.lt
    clear hsub hlk h2
    have hg2 : ¬ b2 = tp := by have := H.out.lt; have := HSZ.out; omega
    refine Mix.regionC (fun b => b = tp) (by kernel_rfl) ?_
    intro w3 hb3
    refine Mix.take_exC _ _ 0 rfl (by kernel_rfl) (by kernel_rfl) (by kernel_rfl) (by kernel_rfl) (fun K hK => ?_)
    go_simp
    first | (refine hK _ ?_; clear hK K) | (apply Exists.intro; refine ⟨fun x => ?_, hK _ ?_⟩; (fail); clear hK K)
    refine Mix.take_exC _ _ 1 rfl (by kernel_rfl) (by kernel_rfl) (by kernel_rfl) (by kernel_rfl) (fun K hK => ?_)
    go_simp
    first | (refine hK _ ?_; clear hK K) | (apply Exists.intro; refine ⟨fun x => ?_, hK _ ?_⟩; (fail); clear hK K)
    refine Mix.take_exC _ _ 2 rfl (by kernel_rfl) (by kernel_rfl) (by kernel_rfl) (by kernel_rfl) (fun K hK => ?_)
    go_simp
    first | (refine hK _ ?_; clear hK K) | (apply Exists.intro; refine ⟨fun x => ?_, hK _ ?_⟩; (fail); clear hK K)
    refine Mix.take_exC _ _ 3 rfl (by kernel_rfl) (by kernel_rfl) (by kernel_rfl) (by kernel_rfl) (fun K hK => ?_)
    go_simp
    first | (refine hK _ ?_; clear hK K) | (apply Exists.intro; refine ⟨fun x => ?_, hK _ ?_⟩; (fail); clear hK K)
    refine Mix.take_exC _ _ 5 rfl (by kernel_rfl) (by kernel_rfl) (by kernel_rfl) (by kernel_rfl) (fun K hK => ?_)
    go_simp
    first | (refine hK _ ?_; clear hK K) | (apply Exists.intro; refine ⟨fun x => ?_, hK _ ?_⟩; (fail); clear hK K)
    refine Mix.take_exC _ _ 6 rfl (by kernel_rfl) (by kernel_rfl) (by kernel_rfl) (by kernel_rfl) (fun K hK => ?_)
    go_simp
    first | (refine hK _ ?_; clear hK K) | (apply Exists.intro; refine ⟨fun x => ?_, hK _ ?_⟩; (fail); clear hK K)
    refine Mix.take_exC _ _ 7 rfl (by kernel_rfl) (by kernel_rfl) (by kernel_rfl) (by kernel_rfl) (fun K hK => ?_)
    go_simp
    first | (refine hK _ ?_; clear hK K) | (apply Exists.intro; refine ⟨fun x => ?_, hK _ ?_⟩; ((exact (sumsW (.slice ta tn tc) tps HPOK.out.vt _ ((((HXV.out.1.vc).on HB2.out).chg (extC_chg w2 _ x) fun b hb e => (HXO.out.1 b hb).1 e))))); clear hK K)
    refine Mix.all (rs := [4]) (by kernel_rfl) (by simp) (.of_below _ hb3) ?_
    intro i4 hi4 w4 hb4 hC4
    simp only [List.mem_cons, List.not_mem_nil, or_false] at hi4
    subst hi4
    have HB4 := Lib.hid (bt hb3 hb4)
    clear hC4 hb3 hb4
    have h4 := H.out.below (bt HB2.out HB4.out)
    have H4 := Lib.hid h4
    clear c0 c1 c2 s0 s1 s2 s3 y3 y4 y5 y6 hl2
    obtain ⟨c0, c1, c2, s0, s1, s2, s3⟩ := h4.cells
    have hl4 := h4.lt.1
    clear h4
    refine Mix.op rfl (by kernel_rfl) ?_
    go_simp
    clear s0 s1 s2 s3 hl4 c0 c1 c2
    refine Mix.take_exC _ _ 8 rfl (by kernel_rfl) (by kernel_rfl) (by kernel_rfl) (by kernel_rfl) (fun K hK => ?_)
    go_simp
    first | (refine hK _ ?_; clear hK K) | (apply Exists.intro; refine ⟨fun x => ?_, hK _ ?_⟩; ((exact HSUB.out _)); clear hK K)
    refine Mix.take_exC _ _ 9 rfl (by kernel_rfl) (by kernel_rfl) (by kernel_rfl) (by kernel_rfl) (fun K hK => ?_)
    go_simp
    first | (refine hK _ ?_; clear hK K) | (apply Exists.intro; refine ⟨fun x => ?_, hK _ ?_⟩; (fail); clear hK K)
    refine Mix.take_exC _ _ 10 rfl (by kernel_rfl) (by kernel_rfl) (by kernel_rfl) (by kernel_rfl) (fun K hK => ?_)
    go_simp
    first | (refine hK _ ?_; clear hK K) | (apply Exists.intro; refine ⟨fun x => ?_, hK _ ?_⟩; (fail); clear hK K)
    refine Mix.take_exC _ _ 11 rfl (by kernel_rfl) (by kernel_rfl) (by kernel_rfl) (by kernel_rfl) (fun K hK => ?_)
    go_simp
    first | (refine hK _ ?_; clear hK K) | (apply Exists.intro; refine ⟨fun x => ?_, hK _ ?_⟩; (fail); clear hK K)
    refine Mix.take_exC _ _ 12 rfl (by kernel_rfl) (by kernel_rfl) (by kernel_rfl) (by kernel_rfl) (fun K hK => ?_)
    go_simp
    first | (refine hK _ ?_; clear hK K) | (apply Exists.intro; refine ⟨fun x => ?_, hK _ ?_⟩; (fail); clear hK K)
    refine Mix.take_exC _ _ 13 rfl (by kernel_rfl) (by kernel_rfl) (by kernel_rfl) (by kernel_rfl) (fun K hK => ?_)
    go_simp
    first | (refine hK _ ?_; clear hK K) | (apply Exists.intro; refine ⟨fun x => ?_, hK _ ?_⟩; (fail); clear hK K)
    refine Mix.all (rs := [14]) (by kernel_rfl) (by simp) (.of_below _ HB4.out) ?_
    intro i5 hi5 w5 hb5 hC5
    simp only [List.mem_cons, List.not_mem_nil, or_false] at hi5
    subst hi5
    have HB5 := Lib.hid (bt HB4.out hb5)
    clear hC5 hb5
    have h5 := H.out.below (bt HB2.out HB5.out)
    have H5 := Lib.hid h5
    obtain ⟨c0, c1, c2, s0, s1, s2, s3⟩ := h5.cells
    have y3 := h5.fz 3; have y4 := h5.fz 4; have y5 := h5.fz 5; have y6 := h5.fz 6
    have hl5 := h5.lt.1
    have hsm := h5.sums (fun j => sumA totA S j - kS tps j)
    try simp only at hsm
    have HSM := Lib.hid hsm
    clear hsm h5
    refine Mix.op rfl (by kernel_rfl) ?_
    go_simp
    clear c0 c1 c2 s0 s1 s2 s3 y3 y4 y5 y6 hl5
    generalize (((w5.setCell ⟨tp, 3, none⟩ (.int .i64 (sumA totA S 0 - kS tps 0))).setCell ⟨tp, 4, none⟩ (.int .i64 (sumA totA S 1 - kS tps 1))).setCell ⟨tp, 5, none⟩ (.int .i64 (sumA totA S 2 - kS tps 2))).setCell ⟨tp, 6, none⟩ (.int .i64 (sumA totA S 3 - kS tps 3)) = w6 at *
    refine Mix.done (by kernel_rfl) ((Chg.of_below _ HB5.out).same HSM.out.2) ?_
    intro w7 hb7
    have HC7 := Lib.hid (show Chg (fun b => b = tp) w5 w7 from HSM.out.2.then_below hb7)
    have hobj7 : w7.heap[tp]? = some (.cells #[.int .i64 cap, .int .i64 most, .map (some M), .int .i64 (sumA totA S 0 - kS tps 0), .int .i64 (sumA totA S 1 - kS tps 1), .int .i64 (sumA totA S 2 - kS tps 2), .int .i64 (sumA totA S 3 - kS tps 3)] 52 (0, 0)) := (hb7.block tp (Array.getElem?_eq_some_iff.1 HSM.out.1).1).trans HSM.out.1
    have HO7 := Lib.hid hobj7
    have hm7 := H5.out.map.chg HC7.out (fun e => H5.out.ne e.symm)
    obtain ⟨w8, hdel, hm8, hc8⟩ := hm7.drop key64 Try.underlying50 0 (x := k) HK.out
    replace hdel : (Builtin.delete_ #[50, 2] 0 #[.map (some M), .int .i64 k]).run Try.prog w7 = .ok (.tuple #[]) w8 := hdel
    have c2 : w7.cell? ⟨tp, 2, none⟩ = some (.map (some M)) := by simp [World.cell?, hobj7]
    have hl7 : tp < w7.heap.size := (Array.getElem?_eq_some_iff.1 hobj7).1
    have HM8 := Lib.hid hm8; have HC8 := Lib.hid hc8
    clear hb7 hobj7 hm7 hm8 hc8
    go_wp2
    go_ret
    have hc58 : Chg (TM tp M) w5 w8 := (HC7.out.mono fun b e => .inl e).same (HC8.out.mono fun b e => .inr e)
    have hc08 : Chg (TM tp M) w w8 := (Chg.of_below _ (bt HB2.out HB5.out)).same hc58
    refine ⟨by rw [HFP.out]; rfl, ⟨upd F k none, ?_⟩, hc08⟩
    refine H5.out.anew hc58 ?_ HM8.out (fun j x hx => .inl (by unfold upd at hx; split at hx; cases hx; exact hx)) (fun j => ?_) (H.out.ain.del HFP.out)
    · rw [← HSD.out 0, ← HSD.out 1, ← HSD.out 2, ← HSD.out 3, HC8.out.block tp (Array.getElem?_eq_some_iff.1 HO7.out).1 H5.out.ne]; exact HO7.out
    · have := Srt.fnd_del (key := akey) S k j
      unfold fndA delA
      rw [this]
      unfold upd
      by_cases hj : j = k
      · rw [if_pos hj, if_pos hj]; rfl
      · rw [if_neg hj, if_neg hj]; exact H5.out.pl j
end
end Go.Proofs.Ytennhfkhdfalfaa

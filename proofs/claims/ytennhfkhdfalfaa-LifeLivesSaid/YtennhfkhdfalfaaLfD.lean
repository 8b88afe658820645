/- life: manciplelaw30.works. -/
import Derived.Test.YtennhfkhdfalfaaLfC
namespace Go.Proofs.Ytennhfkhdfalfaa
open Go.RowKit Go.Maps
attribute [local go_sem] ext_cell ext_frozen extC_cell extC_frozen Mix.calmUpon Mix.mUpon
theorem infoEv : (Try.prog.info? 103).map (fun i => (i.zero, i.size, i.bytes)) = some (some (.agg #[.int .i64 0, .int .i64 0, .int .i64 0, .int .i64 0, .slice none 0 0]), 5, 56) := by kernel_rfl
theorem evenc_one {x : Ev} (h : x.vv.oneCell' = true) : ∀ u ∈ evenc x, u.oneCell' = true := fun u hu => by
  simp only [evenc, List.mem_cons, List.not_mem_nil, or_false] at hu
  rcases hu with rfl | rfl | rfl | rfl | rfl <;> first | rfl | exact h
theorem evflat_len : ∀ (m : List Ev), (m.flatMap evenc).length = m.length * 5
  | [] => rfl
  | x :: t => by rw [List.flatMap_cons, List.length_append, evflat_len t, evenc_len]; simp only [List.length_cons]; omega
theorem cell_new (w : World) (c : Array Value) (e : TypeId) (j : Nat) : (w.alloc (.cells c e)).cell? ⟨w.heap.size, j, none⟩ = c[j]? := by
  have h := heap_alloc_new w (.cells c e)
  unfold World.cell?
  dsimp only
  rw [h]
  rfl
/-- 'append' of one list of events to another, of the call's own. -/
theorem evapps {w : World} {base : Nat} {v : Value} {l : List Ev} (h : OwnL 103 5 evenc w base v l) {vx : Value} {m : List Ev} {a : Addr} {n c : Nat} (hvx : vx = .slice (some a) n c) (hm : RS 5 evenc w vx m) (hne : m ≠ []) (h1 : ∀ x ∈ m, x.vv.oneCell' = true) (hl : l.length + m.length < 1000000) (hb : base ≤ w.heap.size) :
    ∃ v' w', (Builtin.append_ #[94, 94] 94 #[v, vx]).run Try.prog w = .ok v' w' ∧ OwnL 103 5 evenc w' base v' (l ++ m) ∧ Chg (fun k => v.ownBlock = some k) w w' := by
  obtain ⟨i0, hi, hz0, hz1, hz2⟩ := info_parts infoEv
  obtain ⟨a', c', he, h2, h3, h4⟩ := hm
  rw [hvx] at he
  cases he
  obtain ⟨b, off, hbe, hb', hcell⟩ := h4 hne
  cases hbe
  subst hvx
  obtain ⟨v', w', r1, r2, r3, -⟩ := run_app (P := Try.prog) w base 94 94 103 i0 _ 5 56 Try.underlying94 hi hz0 hz1 hz2 rfl (by decide) v l.length (l.flatMap evenc) h ⟨b, off, none⟩ m.length c (m.flatMap evenc) (evflat_len m)
    (fun j u hj => by
      rw [Addr.add_lit]
      have hjl : j < m.length * 5 := by
        have := (List.getElem?_eq_some_iff.1 hj).1
        rw [evflat_len] at this; exact this
      have hi5 : j / 5 < m.length := by omega
      have hj5 : j % 5 < 5 := Nat.mod_lt _ (by decide)
      have hf := flat_at evenc_len m (j / 5) hi5 (j % 5) hj5
      rw [show j / 5 * 5 + j % 5 = j by omega, hj] at hf
      have := hcell (j / 5) hi5 (j % 5) u hf.symm
      rw [show off + j / 5 * 5 + j % 5 = off + j by omega] at this
      exact this)
    (fun u hu => by
      obtain ⟨x, hx, hu⟩ := List.mem_flatMap.1 hu
      exact evenc_one (h1 x hx) u hu) (by unfold maxLen; omega) (by omega) hb
  refine ⟨v', w', r1, ?_, .of_grown r3 fun k e => e⟩
  unfold OwnL
  rw [List.length_append, List.flatMap_append]
  exact r2
theorem own_empty {w : World} {base : Nat} (h : base ≤ w.heap.size) : OwnL 103 5 evenc (w.alloc (.cells #[] 103)) base (.slice (some ⟨w.heap.size, 0, none⟩) 0 0) ([] : List Ev) :=
  ⟨rfl, .inr ⟨_, 0, #[], rfl, h, heap_alloc_new w _, Nat.le_refl _, by decide, rfl, rfl⟩⟩
theorem EB.rs {w : World} {b : Nat} {x : Ev} (h : EB w b x) : RS 5 evenc w (.slice (some ⟨b, 0, none⟩) 1 1) [x] := rs_made (l := [x]) (cap := 1) (e := 103) (fz := (0, 0)) evenc_len h (Nat.le_refl _) (by decide)
set_option maxRecDepth 100000 in
set_option maxHeartbeats 8000000 in
theorem works30 (W : World) : Calls Try.prog 54 #[] W fun e W' => e = .returned (.bool true) ∧ Below W.heap.size W W' := by
  have hL := heap_alloc_new (W.alloc (.cells #[.int .i64 0, .int .i64 0, .int .i64 2] 57)) (.cells #[.int .i64 1, .int .i64 0, .int .i64 0, .int .i64 1, .slice (some ⟨W.heap.size, 0, none⟩) 1 1, .int .i64 3, .int .i64 1, .int .i64 0, .int .i64 0, .slice none 0 0, .int .i64 6, .int .i64 1, .int .i64 1, .int .i64 1, .slice (some ⟨W.heap.size, 0, none⟩) 1 1, .int .i64 8, .int .i64 1, .int .i64 1, .int .i64 1, .slice (some ⟨W.heap.size, 0, none⟩) 1 1] 103)
  have hs1 : (W.alloc (.cells #[.int .i64 0, .int .i64 0, .int .i64 2] 57)).heap.size = W.heap.size + 1 := by simp
  rw [hs1] at hL
  have hba1 := ba (Below.refl W.heap.size W) (.cells #[.int .i64 0, .int .i64 0, .int .i64 2] 57)
  have hba2 := ba (Below.refl (W.alloc (.cells #[.int .i64 0, .int .i64 0, .int .i64 2] 57)).heap.size _) (.cells #[.int .i64 1, .int .i64 0, .int .i64 0, .int .i64 1, .slice (some ⟨W.heap.size, 0, none⟩) 1 1, .int .i64 3, .int .i64 1, .int .i64 0, .int .i64 0, .slice none 0 0, .int .i64 6, .int .i64 1, .int .i64 1, .int .i64 1, .slice (some ⟨W.heap.size, 0, none⟩) 1 1, .int .i64 8, .int .i64 1, .int .i64 1, .int .i64 1, .slice (some ⟨W.heap.size, 0, none⟩) 1 1] 103)
  have HVC := Lib.hid (show Vc ((W.alloc (.cells #[.int .i64 0, .int .i64 0, .int .i64 2] 57)).alloc (.cells #[.int .i64 1, .int .i64 0, .int .i64 0, .int .i64 1, .slice (some ⟨W.heap.size, 0, none⟩) 1 1, .int .i64 3, .int .i64 1, .int .i64 0, .int .i64 0, .slice none 0 0, .int .i64 6, .int .i64 1, .int .i64 1, .int .i64 1, .slice (some ⟨W.heap.size, 0, none⟩) 1 1, .int .i64 8, .int .i64 1, .int .i64 1, .int .i64 1, .slice (some ⟨W.heap.size, 0, none⟩) 1 1] 103)) (wv W.heap.size) wps from Vc.on (.inr ⟨W.heap.size, 0, 1, rfl, Nat.le_refl _, by decide, by simp, fun i hi => by
    obtain rfl : i = 0 := by simpa using hi
    exact ⟨cell_new W _ _ 0, cell_new W _ _ 1, cell_new W _ _ 2⟩⟩) hba2)
  have HRS := Lib.hid (show RS 5 evenc ((W.alloc (.cells #[.int .i64 0, .int .i64 0, .int .i64 2] 57)).alloc (.cells #[.int .i64 1, .int .i64 0, .int .i64 0, .int .i64 1, .slice (some ⟨W.heap.size, 0, none⟩) 1 1, .int .i64 3, .int .i64 1, .int .i64 0, .int .i64 0, .slice none 0 0, .int .i64 6, .int .i64 1, .int .i64 1, .int .i64 1, .slice (some ⟨W.heap.size, 0, none⟩) 1 1, .int .i64 8, .int .i64 1, .int .i64 1, .int .i64 1, .slice (some ⟨W.heap.size, 0, none⟩) 1 1] 103)) (.slice (some ⟨W.heap.size + 1, 0, none⟩) 4 4) (w30 W.heap.size) from rs_made (l := w30 W.heap.size) (cap := 4) evenc_len hL (Nat.le_refl _) (by decide))
  have HB0 := Lib.hid (bt hba1 hba2)
  clear hL hs1 hba1 hba2
  go_enter Try.func54, Try.ntmps54
  go_wp2_with fail
  generalize (W.alloc (.cells #[.int .i64 0, .int .i64 0, .int .i64 2] 57)).alloc (.cells #[.int .i64 1, .int .i64 0, .int .i64 0, .int .i64 1, .slice (some ⟨W.heap.size, 0, none⟩) 1 1, .int .i64 3, .int .i64 1, .int .i64 0, .int .i64 0, .slice none 0 0, .int .i64 6, .int .i64 1, .int .i64 1, .int .i64 1, .slice (some ⟨W.heap.size, 0, none⟩) 1 1, .int .i64 8, .int .i64 1, .int .i64 1, .int .i64 1, .slice (some ⟨W.heap.size, 0, none⟩) 1 1] 103) = w1 at *
  obtain ⟨p, hp⟩ : ∃ p, p = W.heap.size := ⟨_, rfl⟩
  obtain ⟨q, hq⟩ : ∃ q, q = W.heap.size + 1 := ⟨_, rfl⟩
  rw [← hq] at HRS
  rw [← hq]
  rw [← hp] at HRS HVC ⊢
  have HEI := Lib.hid (show ∀ x ∈ w30 p, EIn w1 x from fun x hx => by
    have i0 : I64 0 := ⟨by decide, by decide⟩
    have i1 : I64 1 := ⟨by decide, by decide⟩
    simp only [w30, List.mem_cons, List.not_mem_nil, or_false] at hx
    rcases hx with rfl | rfl | rfl | rfl
    · exact ⟨HVC.out, i0, i0, i1⟩
    · exact ⟨Vc.nil _, i1, i0, i0⟩
    · exact ⟨HVC.out, i1, i1, i1⟩
    · exact ⟨HVC.out, i1, i1, i1⟩)
  have hc := check_any (.slice (some ⟨q, 0, none⟩) 4 4) (w30 p) w1 HRS.out HEI.out
  rw [w30_chk] at hc
  have HC := Lib.hid hc
  clear hc hp hq
  refine HC.out.mono ?_
  rintro e w2 ⟨rfl, hb2⟩
  have HB2 := Lib.hid hb2
  have HRS2 := Lib.hid (HRS.out.below hb2)
  have HEI2 := Lib.hid (show ∀ x ∈ w30 p, EIn w2 x from fun x hx => by
    have h := HEI.out x hx
    exact ⟨h.vc.on hb2, h.fr, h.id, h.ag⟩)
  clear hb2
  obtain ⟨a0, n0, k0, he0, -, -, -, hat⟩ := HRS2.out.at_
  cases he0
  obtain ⟨b', off', hbe, hbl, hcell⟩ := hat 3 (we4 p) rfl
  cases hbe
  have c0 : w2.cell? ⟨q, 15, none⟩ = some (.int .i64 8) := hcell 0 _ rfl
  have c1 : w2.cell? ⟨q, 16, none⟩ = some (.int .i64 1) := hcell 1 _ rfl
  have c2 : w2.cell? ⟨q, 17, none⟩ = some (.int .i64 1) := hcell 2 _ rfl
  have c3 : w2.cell? ⟨q, 18, none⟩ = some (.int .i64 1) := hcell 3 _ rfl
  have c4 : w2.cell? ⟨q, 19, none⟩ = some (.slice (some ⟨p, 0, none⟩) 1 1) := hcell 4 _ rfl
  clear hat hcell
  go_wp2
  refine Mix.regionC (fun _ => False) (by kernel_rfl) ?_
  intro w5 hb5
  refine Mix.take_exC _ _ 1 rfl (by kernel_rfl) (by kernel_rfl) (by kernel_rfl) (by kernel_rfl) (fun K hK => ?_)
  go_simp
  first | (refine hK _ ?_; clear hK K) | (apply Exists.intro; refine ⟨fun x => ?_, hK _ ?_⟩; (fail); clear hK K)
  refine Mix.take_exC _ _ 3 rfl (by kernel_rfl) (by kernel_rfl) (by kernel_rfl) (by kernel_rfl) (fun K hK => ?_)
  go_simp
  first | (refine hK _ ?_; clear hK K) | (apply Exists.intro; refine ⟨fun x => ?_, hK _ ?_⟩; (fail); clear hK K)
  refine Mix.take_exC _ _ 4 rfl (by kernel_rfl) (by kernel_rfl) (by kernel_rfl) (by kernel_rfl) (fun K hK => ?_)
  go_simp
  first | (refine hK _ ?_; clear hK K) | (apply Exists.intro; refine ⟨fun x => ?_, hK _ ?_⟩; (fail); clear hK K)
  refine Mix.take_exC _ _ 5 rfl (by kernel_rfl) (by kernel_rfl) (by kernel_rfl) (by kernel_rfl) (fun K hK => ?_)
  go_simp
  first | (refine hK _ ?_; clear hK K) | (apply Exists.intro; refine ⟨fun x => ?_, hK _ ?_⟩; (fail); clear hK K)
  have HBC := Lib.hid hb5
  refine Mix.all (rs := [0, 6]) (by kernel_rfl) (by simp) (.of_below _ hb5) ?_
  intro i6 hi6 w6 hb6 hC6
  have HBC := Lib.hid (bt HBC.out hb6)
  clear hC6 hb5 hb6
  simp only [List.mem_cons, List.not_mem_nil, or_false] at hi6
  rcases hi6 with rfl | rfl
  · skip
    refine Mix.op rfl (by kernel_rfl) ?_
    go_simp
    have ho := own_empty (base := w2.heap.size) HBC.out.size
    have hba := ba (Below.refl w6.heap.size w6) (.cells #[] 103)
    obtain ⟨b0, hb0⟩ : ∃ b0, b0 = w6.heap.size := ⟨_, rfl⟩
    have HB0Q := Lib.hid hb0
    rw [← hb0] at ho ⊢
    have HO := Lib.hid ho
    have HBC := Lib.hid (bt HBC.out hba)
    generalize w6.alloc (.cells #[] 103) = w7 at *
    clear ho hba hb0
    refine Mix.all (rs := [2, 6]) (by kernel_rfl) (by simp) (.of_below _ HBC.out) ?_
    intro i8 hi8 w8 hb8 hC8
    have HBC := Lib.hid (bt HBC.out hb8)
    have HO := Lib.hid (HO.out.below hb8)
    have HBL := Lib.hid (show b0 < w8.heap.size from (HO.out.lt b0 rfl).2)
    clear hC8 hb8
    simp only [List.mem_cons, List.not_mem_nil, or_false] at hi8
    rcases hi8 with rfl | rfl
    · obtain ⟨v2, w9, hra, ho2, hc2⟩ := evapps HO.out (vx := .slice (some ⟨q, 0, none⟩) 4 4) rfl (HRS2.out.below HBC.out) (by simp) (fun x hx => by
        simp only [w30, List.mem_cons, List.not_mem_nil, or_false] at hx
        rcases hx with rfl | rfl | rfl | rfl <;> rfl) (by simp) HBC.out.size
      have HBC := Lib.hid (HBC.out.trans (hc2.below HBC.out.size fun k hk => (HO.out.lt k hk).1))
      have HO := Lib.hid (show OwnL 103 5 evenc w9 w2.heap.size v2 (w30 p) from ho2)
      refine Mix.opApp rfl (by kernel_rfl) _ _ _ rfl rfl rfl hra ?_
      clear hra ho2 hc2
      refine Mix.all (rs := [6]) (by kernel_rfl) (by simp) (.of_below _ HBC.out) ?_
      intro i10 hi10 w10 hb10 hC10
      simp only [List.mem_cons, List.not_mem_nil, or_false] at hi10
      subst hi10
      have HBC := Lib.hid (bt HBC.out hb10)
      have HO := Lib.hid (HO.out.below hb10)
      clear hC10 hb10
      refine Mix.op rfl (by kernel_rfl) ?_
      go_simp
      have hk := EB.made w10 (we4 p)
      have hba := ba (Below.refl w10.heap.size w10) (.cells #[.int .i64 8, .int .i64 1, .int .i64 1, .int .i64 1, .slice (some ⟨p, 0, none⟩) 1 1] 103)
      obtain ⟨b6, hb6⟩ : ∃ b6, b6 = w10.heap.size := ⟨_, rfl⟩
      have HB6Q := Lib.hid hb6
      rw [← hb6] at hk ⊢
      have HK := Lib.hid (show EB (w10.alloc (.cells #[.int .i64 8, .int .i64 1, .int .i64 1, .int .i64 1, .slice (some ⟨p, 0, none⟩) 1 1] 103)) b6 (we4 p) from hk)
      have HBC := Lib.hid (bt HBC.out hba)
      have HO := Lib.hid (HO.out.below hba)
      generalize w10.alloc (.cells #[.int .i64 8, .int .i64 1, .int .i64 1, .int .i64 1, .slice (some ⟨p, 0, none⟩) 1 1] 103) = w11 at *
      clear hk hba hb6
      refine Mix.all (rs := [7]) (by kernel_rfl) (by simp) (.of_below _ HBC.out) ?_
      intro i12 hi12 w12 hb12 hC12
      simp only [List.mem_cons, List.not_mem_nil, or_false] at hi12
      subst hi12
      have HBC := Lib.hid (bt HBC.out hb12)
      have HO := Lib.hid (HO.out.below hb12)
      have HK := Lib.hid (HK.out.below hb12)
      clear hC12 hb12
      obtain ⟨v3, w13, hra, ho3, hc3⟩ := evapps HO.out (vx := .slice (some ⟨b6, 0, none⟩) 1 1) rfl HK.out.rs (by simp) (fun x hx => by rw [List.mem_singleton.1 hx]; rfl) (by simp) HBC.out.size
      have HBC := Lib.hid (HBC.out.trans (hc3.below HBC.out.size fun k hk => (HO.out.lt k hk).1))
      have HO3 := Lib.hid ho3
      refine Mix.opApp rfl (by kernel_rfl) _ _ _ rfl rfl rfl hra ?_
      clear hra ho3 hc3
      refine Mix.all (rs := [8]) (by kernel_rfl) (by simp) (.of_below _ HBC.out) ?_
      intro i14 hi14 w14 hb14 hC14
      simp only [List.mem_cons, List.not_mem_nil, or_false] at hi14
      subst hi14
      have HBC := Lib.hid (bt HBC.out hb14)
      have HR14 := Lib.hid ((HO3.out.below hb14).rs evenc_len)
      clear hC14 hb14
      refine Mix.op rfl (by kernel_rfl) ?_
      go_simp
      have hc5 := check_any v3 (w30 p ++ [we4 p]) w14 HR14.out (fun x hx => by
        have h := HEI2.out x (by rcases List.mem_append.1 hx with h | h; exact h; rw [List.mem_singleton.1 h]; simp)
        exact ⟨h.vc.on HBC.out, h.fr, h.id, h.ag⟩)
      rw [w30_chk2] at hc5
      refine hc5.mono ?_
      rintro e w15 ⟨rfl, hb15⟩
      refine ⟨_, rfl, ?_⟩
      have HBC := Lib.hid (bt HBC.out hb15)
      clear hb15 hc5
      refine Mix.take_exC _ _ 9 rfl (by kernel_rfl) (by kernel_rfl) (by kernel_rfl) (by kernel_rfl) (fun K hK => ?_)
      go_simp
      first | (refine hK _ ?_; clear hK K) | (apply Exists.intro; refine ⟨fun x => ?_, hK _ ?_⟩; (fail); clear hK K)
      refine Mix.take_exC _ _ 10 rfl (by kernel_rfl) (by kernel_rfl) (by kernel_rfl) (by kernel_rfl) (fun K hK => ?_)
      go_simp
      first | (refine hK _ ?_; clear hK K) | (apply Exists.intro; refine ⟨fun x => ?_, hK _ ?_⟩; (fail); clear hK K)
      refine Mix.take_exC _ _ 11 rfl (by kernel_rfl) (by kernel_rfl) (by kernel_rfl) (by kernel_rfl) (fun K hK => ?_)
      go_simp
      first | (refine hK _ ?_; clear hK K) | (apply Exists.intro; refine ⟨fun x => ?_, hK _ ?_⟩; (fail); clear hK K)
      refine Mix.take_exC _ _ 12 rfl (by kernel_rfl) (by kernel_rfl) (by kernel_rfl) (by kernel_rfl) (fun K hK => ?_)
      go_simp
      first | (refine hK _ ?_; clear hK K) | (apply Exists.intro; refine ⟨fun x => ?_, hK _ ?_⟩; (fail); clear hK K)
      refine Mix.take_exC _ _ 13 rfl (by kernel_rfl) (by kernel_rfl) (by kernel_rfl) (by kernel_rfl) (fun K hK => ?_)
      go_simp
      first | (refine hK _ ?_; clear hK K) | (apply Exists.intro; refine ⟨fun x => ?_, hK _ ?_⟩; (fail); clear hK K)
      refine Mix.done (by kernel_rfl) (.of_below _ HBC.out) ?_
      intro w16 hb16
      have HBC := Lib.hid (bt HBC.out hb16)
      clear hb16
      have HRS3 := Lib.hid (HRS2.out.below HBC.out)
      have HEI3 := Lib.hid (show ∀ x ∈ w30 p, EIn w16 x from fun x hx => by
        have h := HEI2.out x hx
        exact ⟨h.vc.on HBC.out, h.fr, h.id, h.ag⟩)
      have hOf := of_any (.slice (some ⟨q, 0, none⟩) 4 4) (w30 p) w16 HRS3.out HEI3.out (by simp)
      rw [w30_lvs] at hOf
      have HOF := Lib.hid hOf
      clear hOf c0 c1 c2 c3 c4 hbl
      go_wp2_with fail
      refine HOF.out.mono ?_
      rintro e w17 ⟨u, rfl, hu, hb17⟩
      obtain ⟨ua, un, uc, rfl, hun, -, -, hat⟩ := hu.at_
      obtain rfl : un = 1 := hun
      obtain ⟨b', off', rfl, hbl, hcell⟩ := hat 0 _ rfl
      have d0 : w17.cell? ⟨b', off', none⟩ = some (.int .i64 1) := hcell 0 _ rfl
      have d1 : w17.cell? ⟨b', off' + 1, none⟩ = some (.int .i64 1) := hcell 1 _ rfl
      have d2 : w17.cell? ⟨b', off' + 2, none⟩ = some (.int .i64 1) := hcell 2 _ rfl
      have d3 : w17.cell? ⟨b', off' + 3, none⟩ = some (.int .i64 2) := hcell 3 _ rfl
      have d4 : w17.cell? ⟨b', off' + 4, none⟩ = some (.int .i64 3) := hcell 4 _ rfl
      have d5 : w17.cell? ⟨b', off' + 5, none⟩ = some (.int .i64 8) := hcell 5 _ rfl
      have HB17 := Lib.hid hb17
      have hOp := open_any (.slice (some ⟨q, 0, none⟩) 3 4) ((w30 p).take 3) w17 (rs_pre (HRS3.out.below hb17) (by decide)) (fun x hx => by
        have h := HEI3.out x (List.mem_of_mem_take hx)
        exact ⟨h.vc.on hb17, h.fr, h.id, h.ag⟩) (by simp)
      rw [w30_opn] at hOp
      have HOP := Lib.hid hOp
      have he6 := fun w => eqL6 1 1 1 2 3 8 1 1 1 2 3 8 w
      clear hOp hu hb17 hat hcell
      go_wp2_with fail
      refine HOP.out.mono ?_
      rintro e w18 ⟨u2, rfl, hu2, hb18⟩
      obtain ⟨ua2, un2, uc2, rfl, hun2, -, -, -⟩ := hu2.at_
      obtain rfl : un2 = 1 := hun2
      have HB18 := Lib.hid hb18
      clear hb18 hu2 d0 d1 d2 d3 d4 d5 hbl
      go_wp2
      go_ret
      exact ⟨rfl, HB0.out.trans ((HB2.out.trans ((HBC.out.trans ((HB17.out.trans (HB18.out.mono HB17.out.size)).mono HBC.out.size)).mono HB2.out.size)).mono HB0.out.size)⟩
    · skip
      refine Mix.op rfl (by kernel_rfl) ?_
      go_simp
      have hk := EB.made w8 (we4 p)
      have hba := ba (Below.refl w8.heap.size w8) (.cells #[.int .i64 8, .int .i64 1, .int .i64 1, .int .i64 1, .slice (some ⟨p, 0, none⟩) 1 1] 103)
      obtain ⟨b6, hb6⟩ : ∃ b6, b6 = w8.heap.size := ⟨_, rfl⟩
      have HB6Q := Lib.hid hb6
      rw [← hb6] at hk ⊢
      have HK := Lib.hid (show EB (w8.alloc (.cells #[.int .i64 8, .int .i64 1, .int .i64 1, .int .i64 1, .slice (some ⟨p, 0, none⟩) 1 1] 103)) b6 (we4 p) from hk)
      have HBC := Lib.hid (bt HBC.out hba)
      have HO := Lib.hid (HO.out.below hba)
      generalize w8.alloc (.cells #[.int .i64 8, .int .i64 1, .int .i64 1, .int .i64 1, .slice (some ⟨p, 0, none⟩) 1 1] 103) = w9 at *
      clear hk hba hb6
      have HNE := Lib.hid (show ¬ b0 = b6 by have := HBL.out; have := HB6Q.out; omega)
      refine Mix.all (rs := [2]) (by kernel_rfl) (by simp) (.of_below _ HBC.out) ?_
      intro i10 hi10 w10 hb10 hC10
      simp only [List.mem_cons, List.not_mem_nil, or_false] at hi10
      subst hi10
      have HBC := Lib.hid (bt HBC.out hb10)
      have HO := Lib.hid (HO.out.below hb10)
      have HK := Lib.hid (HK.out.below hb10)
      clear hC10 hb10
      obtain ⟨v2, w11, hra, ho2, hc2⟩ := evapps HO.out (vx := .slice (some ⟨q, 0, none⟩) 4 4) rfl (HRS2.out.below HBC.out) (by simp) (fun x hx => by
        simp only [w30, List.mem_cons, List.not_mem_nil, or_false] at hx
        rcases hx with rfl | rfl | rfl | rfl <;> rfl) (by simp) HBC.out.size
      have HBC := Lib.hid (HBC.out.trans (hc2.below HBC.out.size fun k hk => (HO.out.lt k hk).1))
      have HK := Lib.hid (HK.out.chg hc2 (fun e => by have e : b0 = b6 := Option.some.inj e; exact HNE.out e))
      have HO := Lib.hid (show OwnL 103 5 evenc w11 w2.heap.size v2 (w30 p) from ho2)
      refine Mix.opApp rfl (by kernel_rfl) _ _ _ rfl rfl rfl hra ?_
      clear hra ho2 hc2
      refine Mix.all (rs := [7]) (by kernel_rfl) (by simp) (.of_below _ HBC.out) ?_
      intro i12 hi12 w12 hb12 hC12
      simp only [List.mem_cons, List.not_mem_nil, or_false] at hi12
      subst hi12
      have HBC := Lib.hid (bt HBC.out hb12)
      have HO := Lib.hid (HO.out.below hb12)
      have HK := Lib.hid (HK.out.below hb12)
      clear hC12 hb12
      obtain ⟨v3, w13, hra, ho3, hc3⟩ := evapps HO.out (vx := .slice (some ⟨b6, 0, none⟩) 1 1) rfl HK.out.rs (by simp) (fun x hx => by rw [List.mem_singleton.1 hx]; rfl) (by simp) HBC.out.size
      have HBC := Lib.hid (HBC.out.trans (hc3.below HBC.out.size fun k hk => (HO.out.lt k hk).1))
      have HO3 := Lib.hid ho3
      refine Mix.opApp rfl (by kernel_rfl) _ _ _ rfl rfl rfl hra ?_
      clear hra ho3 hc3
      refine Mix.all (rs := [8]) (by kernel_rfl) (by simp) (.of_below _ HBC.out) ?_
      intro i14 hi14 w14 hb14 hC14
      simp only [List.mem_cons, List.not_mem_nil, or_false] at hi14
      subst hi14
      have HBC := Lib.hid (bt HBC.out hb14)
      have HR14 := Lib.hid ((HO3.out.below hb14).rs evenc_len)
      clear hC14 hb14
      refine Mix.op rfl (by kernel_rfl) ?_
      go_simp
      have hc5 := check_any v3 (w30 p ++ [we4 p]) w14 HR14.out (fun x hx => by
        have h := HEI2.out x (by rcases List.mem_append.1 hx with h | h; exact h; rw [List.mem_singleton.1 h]; simp)
        exact ⟨h.vc.on HBC.out, h.fr, h.id, h.ag⟩)
      rw [w30_chk2] at hc5
      refine hc5.mono ?_
      rintro e w15 ⟨rfl, hb15⟩
      refine ⟨_, rfl, ?_⟩
      have HBC := Lib.hid (bt HBC.out hb15)
      clear hb15 hc5
      refine Mix.take_exC _ _ 9 rfl (by kernel_rfl) (by kernel_rfl) (by kernel_rfl) (by kernel_rfl) (fun K hK => ?_)
      go_simp
      first | (refine hK _ ?_; clear hK K) | (apply Exists.intro; refine ⟨fun x => ?_, hK _ ?_⟩; (fail); clear hK K)
      refine Mix.take_exC _ _ 10 rfl (by kernel_rfl) (by kernel_rfl) (by kernel_rfl) (by kernel_rfl) (fun K hK => ?_)
      go_simp
      first | (refine hK _ ?_; clear hK K) | (apply Exists.intro; refine ⟨fun x => ?_, hK _ ?_⟩; (fail); clear hK K)
      refine Mix.take_exC _ _ 11 rfl (by kernel_rfl) (by kernel_rfl) (by kernel_rfl) (by kernel_rfl) (fun K hK => ?_)
      go_simp
      first | (refine hK _ ?_; clear hK K) | (apply Exists.intro; refine ⟨fun x => ?_, hK _ ?_⟩; (fail); clear hK K)
      refine Mix.take_exC _ _ 12 rfl (by kernel_rfl) (by kernel_rfl) (by kernel_rfl) (by kernel_rfl) (fun K hK => ?_)
      go_simp
      first | (refine hK _ ?_; clear hK K) | (apply Exists.intro; refine ⟨fun x => ?_, hK _ ?_⟩; (fail); clear hK K)
      refine Mix.take_exC _ _ 13 rfl (by kernel_rfl) (by kernel_rfl) (by kernel_rfl) (by kernel_rfl) (fun K hK => ?_)
      go_simp
      first | (refine hK _ ?_; clear hK K) | (apply Exists.intro; refine ⟨fun x => ?_, hK _ ?_⟩; (fail); clear hK K)
      refine Mix.done (by kernel_rfl) (.of_below _ HBC.out) ?_
      intro w16 hb16
      have HBC := Lib.hid (bt HBC.out hb16)
      clear hb16
      have HRS3 := Lib.hid (HRS2.out.below HBC.out)
      have HEI3 := Lib.hid (show ∀ x ∈ w30 p, EIn w16 x from fun x hx => by
        have h := HEI2.out x hx
        exact ⟨h.vc.on HBC.out, h.fr, h.id, h.ag⟩)
      have hOf := of_any (.slice (some ⟨q, 0, none⟩) 4 4) (w30 p) w16 HRS3.out HEI3.out (by simp)
      rw [w30_lvs] at hOf
      have HOF := Lib.hid hOf
      clear hOf c0 c1 c2 c3 c4 hbl
      go_wp2_with fail
      refine HOF.out.mono ?_
      rintro e w17 ⟨u, rfl, hu, hb17⟩
      obtain ⟨ua, un, uc, rfl, hun, -, -, hat⟩ := hu.at_
      obtain rfl : un = 1 := hun
      obtain ⟨b', off', rfl, hbl, hcell⟩ := hat 0 _ rfl
      have d0 : w17.cell? ⟨b', off', none⟩ = some (.int .i64 1) := hcell 0 _ rfl
      have d1 : w17.cell? ⟨b', off' + 1, none⟩ = some (.int .i64 1) := hcell 1 _ rfl
      have d2 : w17.cell? ⟨b', off' + 2, none⟩ = some (.int .i64 1) := hcell 2 _ rfl
      have d3 : w17.cell? ⟨b', off' + 3, none⟩ = some (.int .i64 2) := hcell 3 _ rfl
      have d4 : w17.cell? ⟨b', off' + 4, none⟩ = some (.int .i64 3) := hcell 4 _ rfl
      have d5 : w17.cell? ⟨b', off' + 5, none⟩ = some (.int .i64 8) := hcell 5 _ rfl
      have HB17 := Lib.hid hb17
      have hOp := open_any (.slice (some ⟨q, 0, none⟩) 3 4) ((w30 p).take 3) w17 (rs_pre (HRS3.out.below hb17) (by decide)) (fun x hx => by
        have h := HEI3.out x (List.mem_of_mem_take hx)
        exact ⟨h.vc.on hb17, h.fr, h.id, h.ag⟩) (by simp)
      rw [w30_opn] at hOp
      have HOP := Lib.hid hOp
      have he6 := fun w => eqL6 1 1 1 2 3 8 1 1 1 2 3 8 w
      clear hOp hu hb17 hat hcell
      go_wp2_with fail
      refine HOP.out.mono ?_
      rintro e w18 ⟨u2, rfl, hu2, hb18⟩
      obtain ⟨ua2, un2, uc2, rfl, hun2, -, -, -⟩ := hu2.at_
      obtain rfl : un2 = 1 := hun2
      have HB18 := Lib.hid hb18
      clear hb18 hu2 d0 d1 d2 d3 d4 d5 hbl
      go_wp2
      go_ret
      exact ⟨rfl, HB0.out.trans ((HB2.out.trans ((HBC.out.trans ((HB17.out.trans (HB18.out.mono HB17.out.size)).mono HBC.out.size)).mono HB2.out.size)).mono HB0.out.size)⟩
  · skip
    refine Mix.op rfl (by kernel_rfl) ?_
    go_simp
    have hk := EB.made w6 (we4 p)
    have hba := ba (Below.refl w6.heap.size w6) (.cells #[.int .i64 8, .int .i64 1, .int .i64 1, .int .i64 1, .slice (some ⟨p, 0, none⟩) 1 1] 103)
    obtain ⟨b6, hb6⟩ : ∃ b6, b6 = w6.heap.size := ⟨_, rfl⟩
    have HB6Q := Lib.hid hb6
    rw [← hb6] at hk ⊢
    have HK := Lib.hid (show EB (w6.alloc (.cells #[.int .i64 8, .int .i64 1, .int .i64 1, .int .i64 1, .slice (some ⟨p, 0, none⟩) 1 1] 103)) b6 (we4 p) from hk)
    have HBC := Lib.hid (bt HBC.out hba)
    generalize w6.alloc (.cells #[.int .i64 8, .int .i64 1, .int .i64 1, .int .i64 1, .slice (some ⟨p, 0, none⟩) 1 1] 103) = w7 at *
    clear hk hba hb6
    refine Mix.all (rs := [0]) (by kernel_rfl) (by simp) (.of_below _ HBC.out) ?_
    intro i8 hi8 w8 hb8 hC8
    simp only [List.mem_cons, List.not_mem_nil, or_false] at hi8
    subst hi8
    have HBC := Lib.hid (bt HBC.out hb8)
    have HK := Lib.hid (HK.out.below hb8)
    have HBL := Lib.hid (show b6 < w8.heap.size from HK.out.lt)
    clear hC8 hb8
    refine Mix.op rfl (by kernel_rfl) ?_
    go_simp
    have ho := own_empty (base := w2.heap.size) HBC.out.size
    have hba := ba (Below.refl w8.heap.size w8) (.cells #[] 103)
    obtain ⟨b0, hb0⟩ : ∃ b0, b0 = w8.heap.size := ⟨_, rfl⟩
    have HB0Q := Lib.hid hb0
    rw [← hb0] at ho ⊢
    have HO := Lib.hid ho
    have HBC := Lib.hid (bt HBC.out hba)
    have HK := Lib.hid (HK.out.below hba)
    generalize w8.alloc (.cells #[] 103) = w9 at *
    clear ho hba hb0
    have HNE := Lib.hid (show ¬ b0 = b6 by have := HBL.out; have := HB0Q.out; omega)
    refine Mix.all (rs := [2]) (by kernel_rfl) (by simp) (.of_below _ HBC.out) ?_
    intro i10 hi10 w10 hb10 hC10
    simp only [List.mem_cons, List.not_mem_nil, or_false] at hi10
    subst hi10
    have HBC := Lib.hid (bt HBC.out hb10)
    have HO := Lib.hid (HO.out.below hb10)
    have HK := Lib.hid (HK.out.below hb10)
    clear hC10 hb10
    obtain ⟨v2, w11, hra, ho2, hc2⟩ := evapps HO.out (vx := .slice (some ⟨q, 0, none⟩) 4 4) rfl (HRS2.out.below HBC.out) (by simp) (fun x hx => by
      simp only [w30, List.mem_cons, List.not_mem_nil, or_false] at hx
      rcases hx with rfl | rfl | rfl | rfl <;> rfl) (by simp) HBC.out.size
    have HBC := Lib.hid (HBC.out.trans (hc2.below HBC.out.size fun k hk => (HO.out.lt k hk).1))
    have HK := Lib.hid (HK.out.chg hc2 (fun e => by have e : b0 = b6 := Option.some.inj e; exact HNE.out e))
    have HO := Lib.hid (show OwnL 103 5 evenc w11 w2.heap.size v2 (w30 p) from ho2)
    refine Mix.opApp rfl (by kernel_rfl) _ _ _ rfl rfl rfl hra ?_
    clear hra ho2 hc2
    refine Mix.all (rs := [7]) (by kernel_rfl) (by simp) (.of_below _ HBC.out) ?_
    intro i12 hi12 w12 hb12 hC12
    simp only [List.mem_cons, List.not_mem_nil, or_false] at hi12
    subst hi12
    have HBC := Lib.hid (bt HBC.out hb12)
    have HO := Lib.hid (HO.out.below hb12)
    have HK := Lib.hid (HK.out.below hb12)
    clear hC12 hb12
    obtain ⟨v3, w13, hra, ho3, hc3⟩ := evapps HO.out (vx := .slice (some ⟨b6, 0, none⟩) 1 1) rfl HK.out.rs (by simp) (fun x hx => by rw [List.mem_singleton.1 hx]; rfl) (by simp) HBC.out.size
    have HBC := Lib.hid (HBC.out.trans (hc3.below HBC.out.size fun k hk => (HO.out.lt k hk).1))
    have HO3 := Lib.hid ho3
    refine Mix.opApp rfl (by kernel_rfl) _ _ _ rfl rfl rfl hra ?_
    clear hra ho3 hc3
    refine Mix.all (rs := [8]) (by kernel_rfl) (by simp) (.of_below _ HBC.out) ?_
    intro i14 hi14 w14 hb14 hC14
    simp only [List.mem_cons, List.not_mem_nil, or_false] at hi14
    subst hi14
    have HBC := Lib.hid (bt HBC.out hb14)
    have HR14 := Lib.hid ((HO3.out.below hb14).rs evenc_len)
    clear hC14 hb14
    refine Mix.op rfl (by kernel_rfl) ?_
    go_simp
    have hc5 := check_any v3 (w30 p ++ [we4 p]) w14 HR14.out (fun x hx => by
      have h := HEI2.out x (by rcases List.mem_append.1 hx with h | h; exact h; rw [List.mem_singleton.1 h]; simp)
      exact ⟨h.vc.on HBC.out, h.fr, h.id, h.ag⟩)
    rw [w30_chk2] at hc5
    refine hc5.mono ?_
    rintro e w15 ⟨rfl, hb15⟩
    refine ⟨_, rfl, ?_⟩
    have HBC := Lib.hid (bt HBC.out hb15)
    clear hb15 hc5
    refine Mix.take_exC _ _ 9 rfl (by kernel_rfl) (by kernel_rfl) (by kernel_rfl) (by kernel_rfl) (fun K hK => ?_)
    go_simp
    first | (refine hK _ ?_; clear hK K) | (apply Exists.intro; refine ⟨fun x => ?_, hK _ ?_⟩; (fail); clear hK K)
    refine Mix.take_exC _ _ 10 rfl (by kernel_rfl) (by kernel_rfl) (by kernel_rfl) (by kernel_rfl) (fun K hK => ?_)
    go_simp
    first | (refine hK _ ?_; clear hK K) | (apply Exists.intro; refine ⟨fun x => ?_, hK _ ?_⟩; (fail); clear hK K)
    refine Mix.take_exC _ _ 11 rfl (by kernel_rfl) (by kernel_rfl) (by kernel_rfl) (by kernel_rfl) (fun K hK => ?_)
    go_simp
    first | (refine hK _ ?_; clear hK K) | (apply Exists.intro; refine ⟨fun x => ?_, hK _ ?_⟩; (fail); clear hK K)
    refine Mix.take_exC _ _ 12 rfl (by kernel_rfl) (by kernel_rfl) (by kernel_rfl) (by kernel_rfl) (fun K hK => ?_)
    go_simp
    first | (refine hK _ ?_; clear hK K) | (apply Exists.intro; refine ⟨fun x => ?_, hK _ ?_⟩; (fail); clear hK K)
    refine Mix.take_exC _ _ 13 rfl (by kernel_rfl) (by kernel_rfl) (by kernel_rfl) (by kernel_rfl) (fun K hK => ?_)
    go_simp
    first | (refine hK _ ?_; clear hK K) | (apply Exists.intro; refine ⟨fun x => ?_, hK _ ?_⟩; (fail); clear hK K)
    refine Mix.done (by kernel_rfl) (.of_below _ HBC.out) ?_
    intro w16 hb16
    have HBC := Lib.hid (bt HBC.out hb16)
    clear hb16
    have HRS3 := Lib.hid (HRS2.out.below HBC.out)
    have HEI3 := Lib.hid (show ∀ x ∈ w30 p, EIn w16 x from fun x hx => by
      have h := HEI2.out x hx
      exact ⟨h.vc.on HBC.out, h.fr, h.id, h.ag⟩)
    have hOf := of_any (.slice (some ⟨q, 0, none⟩) 4 4) (w30 p) w16 HRS3.out HEI3.out (by simp)
    rw [w30_lvs] at hOf
    have HOF := Lib.hid hOf
    clear hOf c0 c1 c2 c3 c4 hbl
    go_wp2_with fail
    refine HOF.out.mono ?_
    rintro e w17 ⟨u, rfl, hu, hb17⟩
    obtain ⟨ua, un, uc, rfl, hun, -, -, hat⟩ := hu.at_
    obtain rfl : un = 1 := hun
    obtain ⟨b', off', rfl, hbl, hcell⟩ := hat 0 _ rfl
    have d0 : w17.cell? ⟨b', off', none⟩ = some (.int .i64 1) := hcell 0 _ rfl
    have d1 : w17.cell? ⟨b', off' + 1, none⟩ = some (.int .i64 1) := hcell 1 _ rfl
    have d2 : w17.cell? ⟨b', off' + 2, none⟩ = some (.int .i64 1) := hcell 2 _ rfl
    have d3 : w17.cell? ⟨b', off' + 3, none⟩ = some (.int .i64 2) := hcell 3 _ rfl
    have d4 : w17.cell? ⟨b', off' + 4, none⟩ = some (.int .i64 3) := hcell 4 _ rfl
    have d5 : w17.cell? ⟨b', off' + 5, none⟩ = some (.int .i64 8) := hcell 5 _ rfl
    have HB17 := Lib.hid hb17
    have hOp := open_any (.slice (some ⟨q, 0, none⟩) 3 4) ((w30 p).take 3) w17 (rs_pre (HRS3.out.below hb17) (by decide)) (fun x hx => by
      have h := HEI3.out x (List.mem_of_mem_take hx)
      exact ⟨h.vc.on hb17, h.fr, h.id, h.ag⟩) (by simp)
    rw [w30_opn] at hOp
    have HOP := Lib.hid hOp
    have he6 := fun w => eqL6 1 1 1 2 3 8 1 1 1 2 3 8 w
    clear hOp hu hb17 hat hcell
    go_wp2_with fail
    refine HOP.out.mono ?_
    rintro e w18 ⟨u2, rfl, hu2, hb18⟩
    obtain ⟨ua2, un2, uc2, rfl, hun2, -, -, -⟩ := hu2.at_
    obtain rfl : un2 = 1 := hun2
    have HB18 := Lib.hid hb18
    clear hb18 hu2 d0 d1 d2 d3 d4 d5 hbl
    go_wp2
    go_ret
    exact ⟨rfl, HB0.out.trans ((HB2.out.trans ((HBC.out.trans ((HB17.out.trans (HB18.out.mono HB17.out.size)).mono HBC.out.size)).mono HB2.out.size)).mono HB0.out.size)⟩
end Go.Proofs.Ytennhfkhdfalfaa

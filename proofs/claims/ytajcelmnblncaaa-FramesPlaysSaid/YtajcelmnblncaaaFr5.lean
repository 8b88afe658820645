/- frames: Subscribe of a new framework; Subscribe in whole. -/
import Derived.Test.YtajcelmnblncaaaFr4
namespace Go.Proofs.Ytajcelmnblncaaa
open Go.RowKit Go.Maps
open Go.ChangeMaps (setBlock)
attribute [local go_sem] ext_cell ext_frozen extC_cell extC_frozen Mix.calmUpon Mix.mUpon eqFr
theorem ro_g2 {S : List Fr} {g : Nat → It} {f : Fr} {r : Nat} (h : RO S (fun k => (g k).1) (fun k => (g k).2)) (hg : fndF S f.id = none) (hr : f.role = r) (hf : FOk f) (hw : 0 < (g r).1 → (g r).2 = f.weight) :
    RO (putF S f) (fun k => (put1 (put1 g r ((g r).1, f.weight)) r ((g r).1 + 1, (put1 g r ((g r).1, f.weight) r).2) k).1) (fun k => (put1 (put1 g r ((g r).1, f.weight)) r ((g r).1 + 1, (put1 g r ((g r).1, f.weight) r).2) k).2) := by
  have := h.new hg hr hf hw
  rw [fst_put1, snd_put1, fst_put1, snd_put1, up1_same (fun k => (g k).1)]
  have e : up1 (up1 (fun k => (g k).2) r f.weight) r (put1 g r ((g r).1, f.weight) r).2 = up1 (fun k => (g k).2) r f.weight := by
    funext k; unfold up1 put1; split <;> simp
  rw [e]
  exact this
section
variable {w : World} {tp M : Nat} {cap : Int} {S : List Fr}
set_option maxRecDepth 100000 in
set_option maxHeartbeats 1000000 in
theorem fsub_new (h : TS w tp M cap S) (hbig : S.length < 900000) {id : Int} {r : Nat} {wt t : Int} (hs : SubOk id r wt t) (hk : J64 id) (kind : Int) (hf : fndF S id = none) : Calls Try.prog 70 #[ptr tp, .int .i64 id, .int .i64 r, .int .i64 wt, .int .i64 t] w (SubPost w tp M cap S ⟨kind, id, r, wt, t⟩) := by
  have hya : ∀ a, fsub cap S ⟨kind, id, r, wt, t⟩ = a ↔ (if 0 < wtF S r ∧ wtF S r ≠ wt then (S, false, 22) else if cap ≤ (S.length : Int) then (S, false, 32) else (putF S (fresh ⟨kind, id, r, wt, t⟩ false), true, 0)) = a := fun a => by
    unfold fsub; rw [if_neg (hs.good kind)]; simp only; rw [hf]
  have HG := Lib.hid hs
  have HYA := Lib.hid hya
  obtain ⟨i0, r0, r1, w0, w1', t0, t1⟩ := hs
  have n1 : ¬ id < 1 := by omega
  have n2 : ¬ wt < 1 := by omega
  have n3 : ¬ 1000 < wt := by omega
  have n4 : ¬ t < 0 := by omega
  have n5 : ¬ 9007199254740992 < t := by omega
  have hidx : (r : Int) < 33 := by omega
  unfold SubPost
  clear hya
  have H := Lib.hid h
  have HR := Lib.hid (fright r)
  rw [decide_eq_true (show (1 : Int) ≤ r by omega), decide_eq_true (show (r : Int) ≤ 32 by omega)] at HR
  go_enter Try.func70, Try.ntmps70
  go_wp2_with fail
  refine (fmade H.out).mono ?_
  rintro e w1 ⟨rfl, hb1⟩
  go_wp2_with fail
  refine (HR.out w1).mono ?_
  rintro e w2 ⟨rfl, hb2⟩
  have HB2 := Lib.hid (bt hb1 hb2)
  clear hb1 hb2
  obtain ⟨g, L, H2⟩ := H.out.below HB2.out
  have c1 := H2.c1
  have hl := H2.lt.1
  have hlook := H2.find hk false
  rw [hf] at hlook
  replace hlook := hlook.trans (show _ = .ok (fval fzero) w2 from rfl)
  obtain ⟨d0, d1⟩ := H2.cr r1
  have hw := H2.wt0 r1
  have hp := fun h => H2.wpos r1 h
  by_cases hA : 0 < (g r).1 ∧ (g r).2 ≠ wt
  · have E1 := Lib.hid ((HYA.out _).2 (by rw [hw, if_pos hA.1, if_pos ⟨hp hA.1, hA.2⟩]))
    have hg0 := hA.1
    have hwb : ((g r).2 == wt) = false := by simpa using hA.2
    clear hA hw hp
    go_wp2
    go_ret2
    rw [E1.out]
    exact ⟨rfl, H.out.below (ba HB2.out _), .of_below _ (ba HB2.out _)⟩
  · have hya2 : ∀ a, fsub cap S ⟨kind, id, r, wt, t⟩ = a ↔ (if cap ≤ (S.length : Int) then (S, false, 32) else (putF S (fresh ⟨kind, id, r, wt, t⟩ false), true, 0)) = a := fun a => by
      rw [HYA.out, if_neg]
      rintro ⟨a, b⟩
      rw [hw] at a b
      by_cases hh : 0 < (g r).1
      · rw [if_pos hh] at b; exact hA ⟨hh, b⟩
      · rw [if_neg hh] at a; omega
    have HYB := Lib.hid hya2
    have hlen0 := H2.map.len Try.underlying124 3
    rw [H2.len] at hlen0
    have c0 := H2.c0
    clear hya2 hw hp
    by_cases hg0 : 0 < (g r).1
    · have hwb : ((g r).2 == wt) = true := by
        by_cases e : (g r).2 = wt
        · simpa using e
        · exact absurd ⟨hg0, e⟩ hA
      have HW := Lib.hid (show 0 < (g r).1 → (g r).2 = wt from fun _ => by simpa using hwb)
      clear hA
      go_wp2
      have HFB := Lib.hid (FB.made w2 fzero)
      have HB3 := Lib.hid (ba HB2.out (.cells #[.int .i64 0, .int .i64 0, .int .i64 0, .bool false, .bool false, .int .i64 0, .int .i64 0] 114))
      have hsz : w2.heap.size < (w2.alloc (.cells #[.int .i64 0, .int .i64 0, .int .i64 0, .bool false, .bool false, .int .i64 0, .int .i64 0] 114)).heap.size := by simp
      have HM := Lib.hid (show w2.heap.size ≠ M ∧ w2.heap.size ≠ tp from ⟨fun e => by have := H2.lt.2; omega, fun e => by have := H2.lt.1; omega⟩)
      have H3 := H2.below (ba (Below.refl _ _) (.cells #[.int .i64 0, .int .i64 0, .int .i64 0, .bool false, .bool false, .int .i64 0, .int .i64 0] 114))
      clear d0 d1 c1 c0 hl hlook H2 hlen0
      generalize w2.alloc (.cells #[.int .i64 0, .int .i64 0, .int .i64 0, .bool false, .bool false, .int .i64 0, .int .i64 0] 114) = w3 at *
      have e4 := H3.lt.1; have e5 := H3.hM
      have c0 := H3.c0; have c1 := H3.c1
      have hlen := (H3.below (bd (Below.refl _ _))).map.len Try.underlying124 3
      rw [H3.len] at hlen
      have H3 := Lib.hid H3
      by_cases hcap : cap ≤ (S.length : Int)
      · have E1 := Lib.hid ((HYB.out _).2 (by rw [if_pos hcap]))
        go_region
        go_wp2
        go_ret2
        rw [E1.out]
        exact ⟨rfl, H.out.below (bd HB3.out), .of_below _ (bd HB3.out)⟩
      · have E1 := Lib.hid ((HYB.out _).2 (by rw [if_neg hcap]))
        go_region
        have HB4 := Lib.hid (bd HB3.out)
        have HFB4 := Lib.hid (HFB.out.below (bd (Below.refl _ _)))
        have H4 := H3.out.below (bd (Below.refl _ _))
        have hsz4 : w2.heap.size < w3.drew.heap.size := hsz
        clear e4 c0 c1 hlen hsz
        generalize w3.drew = w4 at *
        obtain ⟨d0, d1⟩ := H4.cr r1
        have hl := H4.lt.1
        have z0 := H4.fz (2 + r * 2)
        have z1 := H4.fz (2 + r * 2 + 1)
        have hcn := H4.g1 r1
        have hcl := cnt_le S (r : Int)
        have hwr : IntKind.i64.wrap ((g r).1 + 1) = (g r).1 + 1 := IntWalk.i64_in _ (by omega)
        have H4 := Lib.hid H4
        clear hcn hcl
        go_wp2
        go_region
        have o1 := obj_set (obj_set H4.out.obj (2 + r * 2 + 1) (.int .i64 wt)) (2 + r * 2) (.int .i64 ((g r).1 + 1))
        rw [tcs_set1 HG.out.r1, tcs_set0 HG.out.r1] at o1
        have o2 : ((w4.setCell ⟨tp, 2 + r * 2 + 1, none⟩ (.int .i64 wt)).setCell ⟨tp, 2 + r * 2, none⟩ (.int .i64 ((g r).1 + 1))).drew.heap[tp]? = some (.cells (tcs cap M (put1 (put1 g r ((g r).1, wt)) r ((g r).1 + 1, (put1 g r ((g r).1, wt) r).2))).toArray 129 (0, 0)) := o1
        have HC := Lib.hid (show Chg (fun k => k = tp) w4 ((w4.setCell ⟨tp, 2 + r * 2 + 1, none⟩ (.int .i64 wt)).setCell ⟨tp, 2 + r * 2, none⟩ (.int .i64 ((g r).1 + 1))).drew from
          (((Chg.refl (fun k => k = tp) w4).setCell (p := ⟨tp, 2 + r * 2 + 1, none⟩) (.inl rfl) _).setCell (p := ⟨tp, 2 + r * 2, none⟩) (.inl rfl) _).drew)
        clear d0 d1 z0 z1 o1 hl
        generalize ((w4.setCell ⟨tp, 2 + r * 2 + 1, none⟩ (.int .i64 wt)).setCell ⟨tp, 2 + r * 2, none⟩ (.int .i64 ((g r).1 + 1))).drew = w5 at *
        have c1 : w5.cell? ⟨tp, 1, none⟩ = some (.map (some M)) := by simp [World.cell?, o2, tcs]
        have e4 : tp < w5.heap.size := (Array.getElem?_eq_some_iff.1 o2).1
        have hsz5 : w2.heap.size < w5.heap.size := Nat.lt_of_lt_of_le hsz4 HC.out.size
        have e6 := HM.out.1
        have x4 := (HFB4.out.chg HC.out HM.out.2).cells.2.2.2.2.1
        have O2 := Lib.hid o2
        have HX := Lib.hid (show FOk (fresh ⟨kind, id, r, wt, t⟩ false) from ⟨i0, hk.2, (by show (1 : Int) ≤ (r : Int); omega), (by show (r : Int) ≤ 32; omega), w0, w1', t0, t1, (by show (0 : Int) ≤ 0; omega), (by show (0 : Int) ≤ _; omega), fun _ => rfl⟩)
        have RO2 := Lib.hid (ro_g2 H4.out.ro (f := fresh ⟨kind, id, r, wt, t⟩ false) (r := r) hf rfl HX.out HW.out)
        have MAP5 := Lib.hid (H4.out.map.chg HC.out fun e => H4.out.hM e.symm)
        have BG := Lib.hid (show (putF S (fresh ⟨kind, id, r, wt, t⟩ false)).length < 1000000 from Nat.lt_of_le_of_lt (Srt.put_le S _) (by omega))
        have HY := Lib.hid (show ∀ w6, Below w5.heap.size w5 w6 → ∃ w', (Instr.mapUpdate 124 (.map (some M)) (.int .i64 id) (.agg #[.int .i64 id, .int .i64 r, .int .i64 wt, .bool true, .bool false, .int .i64 t, .int .i64 0])).run Try.prog w6 = .ok () w' ∧ TS w' tp M cap (putF S (fresh ⟨kind, id, r, wt, t⟩ false)) ∧ w6.grownBy w' (some M) from fun w6 hb6 =>
          tb_put (f := fresh ⟨kind, id, r, wt, t⟩ false) ((hb6.block tp (Array.getElem?_eq_some_iff.1 O2.out).1).trans O2.out) (MAP5.out.below hb6 MAP5.out.lt) H4.out.look H4.out.len H4.out.hM RO2.out H4.out.ro.sf BG.out HX.out)
        clear o2
        go_wp2
        refine Mix.regionC (fun k => k = M) (by kernel_rfl) ?_
        intro w6 hb6
        refine Mix.take_exC _ _ 0 rfl (by kernel_rfl) (by kernel_rfl) (by kernel_rfl) (by kernel_rfl) (fun K hK => ?_)
        go_simp
        first | (refine hK _ ?_; clear hK K) | (apply Exists.intro; refine ⟨fun x => ?_, hK _ ?_⟩; (fail); clear hK K)
        refine Mix.take_exC _ _ 1 rfl (by kernel_rfl) (by kernel_rfl) (by kernel_rfl) (by kernel_rfl) (fun K hK => ?_)
        go_simp
        first | (refine hK _ ?_; clear hK K) | (apply Exists.intro; refine ⟨fun x => ?_, hK _ ?_⟩; (fail); clear hK K)
        refine Mix.take_exC _ _ 2 rfl (by kernel_rfl) (by kernel_rfl) (by kernel_rfl) (by kernel_rfl) (fun K hK => ?_)
        go_simp
        first | (refine hK _ ?_; clear hK K) | (apply Exists.intro; refine ⟨fun x => ?_, hK _ ?_⟩; (fail); clear hK K)
        refine Mix.take_exC _ _ 3 rfl (by kernel_rfl) (by kernel_rfl) (by kernel_rfl) (by kernel_rfl) (fun K hK => ?_)
        go_simp
        first | (refine hK _ ?_; clear hK K) | (apply Exists.intro; refine ⟨fun x => ?_, hK _ ?_⟩; (fail); clear hK K)
        refine Mix.take_exC _ _ 4 rfl (by kernel_rfl) (by kernel_rfl) (by kernel_rfl) (by kernel_rfl) (fun K hK => ?_)
        go_simp
        first | (refine hK _ ?_; clear hK K) | (apply Exists.intro; refine ⟨fun x => ?_, hK _ ?_⟩; (fail); clear hK K)
        refine Mix.take_exC _ _ 5 rfl (by kernel_rfl) (by kernel_rfl) (by kernel_rfl) (by kernel_rfl) (fun K hK => ?_)
        go_simp
        first | (refine hK _ ?_; clear hK K) | (apply Exists.intro; refine ⟨fun x => ?_, hK _ ?_⟩; (fail); clear hK K)
        refine Mix.take_exC _ _ 6 rfl (by kernel_rfl) (by kernel_rfl) (by kernel_rfl) (by kernel_rfl) (fun K hK => ?_)
        go_simp
        first | (refine hK _ ?_; clear hK K) | (apply Exists.intro; refine ⟨fun x => ?_, hK _ ?_⟩; (fail); clear hK K)
        refine Mix.take_exC _ _ 7 rfl (by kernel_rfl) (by kernel_rfl) (by kernel_rfl) (by kernel_rfl) (fun K hK => ?_)
        go_simp
        first | (refine hK _ ?_; clear hK K) | (apply Exists.intro; refine ⟨fun x => ?_, hK _ ?_⟩; (fail); clear hK K)
        refine Mix.take_exC _ _ 8 rfl (by kernel_rfl) (by kernel_rfl) (by kernel_rfl) (by kernel_rfl) (fun K hK => ?_)
        go_simp
        first | (refine hK _ ?_; clear hK K) | (apply Exists.intro; refine ⟨fun x => ?_, hK _ ?_⟩; (fail); clear hK K)
        refine Mix.take_exC _ _ 9 rfl (by kernel_rfl) (by kernel_rfl) (by kernel_rfl) (by kernel_rfl) (fun K hK => ?_)
        go_simp
        first | (refine hK _ ?_; clear hK K) | (apply Exists.intro; refine ⟨fun x => ?_, hK _ ?_⟩; (fail); clear hK K)
        refine Mix.take_exC _ _ 10 rfl (by kernel_rfl) (by kernel_rfl) (by kernel_rfl) (by kernel_rfl) (fun K hK => ?_)
        go_simp
        first | (refine hK _ ?_; clear hK K) | (apply Exists.intro; refine ⟨fun x => ?_, hK _ ?_⟩; (fail); clear hK K)
        refine Mix.take_exC _ _ 11 rfl (by kernel_rfl) (by kernel_rfl) (by kernel_rfl) (by kernel_rfl) (fun K hK => ?_)
        go_simp
        first | (refine hK _ ?_; clear hK K) | (apply Exists.intro; refine ⟨fun x => ?_, hK _ ?_⟩; (fail); clear hK K)
        refine Mix.all (rs := [12]) (by kernel_rfl) (by simp) (.of_below _ hb6) ?_
        intro i7 hi7 w7 hb7 hC7
        simp only [List.mem_cons, List.not_mem_nil, or_false] at hi7
        subst hi7
        clear hC7
        obtain ⟨w8, hrun, hts, hgr⟩ := HY.out w7 (bt hb6 hb7)
        refine Mix.op rfl (by kernel_rfl) ?_
        have HP4 := Lib.hid hts
        have HC4 := Lib.hid (show Chg (fun k => k = M) w5 w8 from (Chg.of_below _ (bt hb6 hb7)).same (.of_grown hgr fun k e => by cases e; rfl))
        clear hts hgr hb6 hb7
        go_simp
        refine Mix.done (by kernel_rfl) HC4.out ?_
        intro w9 hb9
        have HB9 := Lib.hid hb9
        clear hb9 hrun
        go_wp2
        go_ret2
        rw [E1.out]
        exact ⟨rfl, HP4.out.below HB9.out, ((Chg.of_below _ HB4.out).same (HC.out.mono fun k e => .inl e)).same ((HC4.out.then_below HB9.out).mono fun k e => .inr e)⟩
    · have HW := Lib.hid (show 0 < (g r).1 → (g r).2 = wt from fun h => absurd h hg0)
      clear hA
      go_wp2
      have HFB := Lib.hid (FB.made w2 fzero)
      have HB3 := Lib.hid (ba HB2.out (.cells #[.int .i64 0, .int .i64 0, .int .i64 0, .bool false, .bool false, .int .i64 0, .int .i64 0] 114))
      have hsz : w2.heap.size < (w2.alloc (.cells #[.int .i64 0, .int .i64 0, .int .i64 0, .bool false, .bool false, .int .i64 0, .int .i64 0] 114)).heap.size := by simp
      have HM := Lib.hid (show w2.heap.size ≠ M ∧ w2.heap.size ≠ tp from ⟨fun e => by have := H2.lt.2; omega, fun e => by have := H2.lt.1; omega⟩)
      have H3 := H2.below (ba (Below.refl _ _) (.cells #[.int .i64 0, .int .i64 0, .int .i64 0, .bool false, .bool false, .int .i64 0, .int .i64 0] 114))
      clear d0 d1 c1 c0 hl hlook H2 hlen0
      generalize w2.alloc (.cells #[.int .i64 0, .int .i64 0, .int .i64 0, .bool false, .bool false, .int .i64 0, .int .i64 0] 114) = w3 at *
      have e4 := H3.lt.1; have e5 := H3.hM
      have c0 := H3.c0; have c1 := H3.c1
      have hlen := (H3.below (bd (Below.refl _ _))).map.len Try.underlying124 3
      rw [H3.len] at hlen
      have H3 := Lib.hid H3
      by_cases hcap : cap ≤ (S.length : Int)
      · have E1 := Lib.hid ((HYB.out _).2 (by rw [if_pos hcap]))
        go_region
        go_wp2
        go_ret2
        rw [E1.out]
        exact ⟨rfl, H.out.below (bd HB3.out), .of_below _ (bd HB3.out)⟩
      · have E1 := Lib.hid ((HYB.out _).2 (by rw [if_neg hcap]))
        go_region
        have HB4 := Lib.hid (bd HB3.out)
        have HFB4 := Lib.hid (HFB.out.below (bd (Below.refl _ _)))
        have H4 := H3.out.below (bd (Below.refl _ _))
        have hsz4 : w2.heap.size < w3.drew.heap.size := hsz
        clear e4 c0 c1 hlen hsz
        generalize w3.drew = w4 at *
        obtain ⟨d0, d1⟩ := H4.cr r1
        have hl := H4.lt.1
        have z0 := H4.fz (2 + r * 2)
        have z1 := H4.fz (2 + r * 2 + 1)
        have hcn := H4.g1 r1
        have hcl := cnt_le S (r : Int)
        have hwr : IntKind.i64.wrap ((g r).1 + 1) = (g r).1 + 1 := IntWalk.i64_in _ (by omega)
        have H4 := Lib.hid H4
        clear hcn hcl
        go_wp2
        go_region
        have o1 := obj_set (obj_set H4.out.obj (2 + r * 2 + 1) (.int .i64 wt)) (2 + r * 2) (.int .i64 ((g r).1 + 1))
        rw [tcs_set1 HG.out.r1, tcs_set0 HG.out.r1] at o1
        have o2 : ((w4.setCell ⟨tp, 2 + r * 2 + 1, none⟩ (.int .i64 wt)).setCell ⟨tp, 2 + r * 2, none⟩ (.int .i64 ((g r).1 + 1))).drew.heap[tp]? = some (.cells (tcs cap M (put1 (put1 g r ((g r).1, wt)) r ((g r).1 + 1, (put1 g r ((g r).1, wt) r).2))).toArray 129 (0, 0)) := o1
        have HC := Lib.hid (show Chg (fun k => k = tp) w4 ((w4.setCell ⟨tp, 2 + r * 2 + 1, none⟩ (.int .i64 wt)).setCell ⟨tp, 2 + r * 2, none⟩ (.int .i64 ((g r).1 + 1))).drew from
          (((Chg.refl (fun k => k = tp) w4).setCell (p := ⟨tp, 2 + r * 2 + 1, none⟩) (.inl rfl) _).setCell (p := ⟨tp, 2 + r * 2, none⟩) (.inl rfl) _).drew)
        clear d0 d1 z0 z1 o1 hl
        generalize ((w4.setCell ⟨tp, 2 + r * 2 + 1, none⟩ (.int .i64 wt)).setCell ⟨tp, 2 + r * 2, none⟩ (.int .i64 ((g r).1 + 1))).drew = w5 at *
        have c1 : w5.cell? ⟨tp, 1, none⟩ = some (.map (some M)) := by simp [World.cell?, o2, tcs]
        have e4 : tp < w5.heap.size := (Array.getElem?_eq_some_iff.1 o2).1
        have hsz5 : w2.heap.size < w5.heap.size := Nat.lt_of_lt_of_le hsz4 HC.out.size
        have e6 := HM.out.1
        have x4 := (HFB4.out.chg HC.out HM.out.2).cells.2.2.2.2.1
        have O2 := Lib.hid o2
        have HX := Lib.hid (show FOk (fresh ⟨kind, id, r, wt, t⟩ false) from ⟨i0, hk.2, (by show (1 : Int) ≤ (r : Int); omega), (by show (r : Int) ≤ 32; omega), w0, w1', t0, t1, (by show (0 : Int) ≤ 0; omega), (by show (0 : Int) ≤ _; omega), fun _ => rfl⟩)
        have RO2 := Lib.hid (ro_g2 H4.out.ro (f := fresh ⟨kind, id, r, wt, t⟩ false) (r := r) hf rfl HX.out HW.out)
        have MAP5 := Lib.hid (H4.out.map.chg HC.out fun e => H4.out.hM e.symm)
        have BG := Lib.hid (show (putF S (fresh ⟨kind, id, r, wt, t⟩ false)).length < 1000000 from Nat.lt_of_le_of_lt (Srt.put_le S _) (by omega))
        have HY := Lib.hid (show ∀ w6, Below w5.heap.size w5 w6 → ∃ w', (Instr.mapUpdate 124 (.map (some M)) (.int .i64 id) (.agg #[.int .i64 id, .int .i64 r, .int .i64 wt, .bool true, .bool false, .int .i64 t, .int .i64 0])).run Try.prog w6 = .ok () w' ∧ TS w' tp M cap (putF S (fresh ⟨kind, id, r, wt, t⟩ false)) ∧ w6.grownBy w' (some M) from fun w6 hb6 =>
          tb_put (f := fresh ⟨kind, id, r, wt, t⟩ false) ((hb6.block tp (Array.getElem?_eq_some_iff.1 O2.out).1).trans O2.out) (MAP5.out.below hb6 MAP5.out.lt) H4.out.look H4.out.len H4.out.hM RO2.out H4.out.ro.sf BG.out HX.out)
        clear o2
        go_wp2
        refine Mix.regionC (fun k => k = M) (by kernel_rfl) ?_
        intro w6 hb6
        refine Mix.take_exC _ _ 0 rfl (by kernel_rfl) (by kernel_rfl) (by kernel_rfl) (by kernel_rfl) (fun K hK => ?_)
        go_simp
        first | (refine hK _ ?_; clear hK K) | (apply Exists.intro; refine ⟨fun x => ?_, hK _ ?_⟩; (fail); clear hK K)
        refine Mix.take_exC _ _ 1 rfl (by kernel_rfl) (by kernel_rfl) (by kernel_rfl) (by kernel_rfl) (fun K hK => ?_)
        go_simp
        first | (refine hK _ ?_; clear hK K) | (apply Exists.intro; refine ⟨fun x => ?_, hK _ ?_⟩; (fail); clear hK K)
        refine Mix.take_exC _ _ 2 rfl (by kernel_rfl) (by kernel_rfl) (by kernel_rfl) (by kernel_rfl) (fun K hK => ?_)
        go_simp
        first | (refine hK _ ?_; clear hK K) | (apply Exists.intro; refine ⟨fun x => ?_, hK _ ?_⟩; (fail); clear hK K)
        refine Mix.take_exC _ _ 3 rfl (by kernel_rfl) (by kernel_rfl) (by kernel_rfl) (by kernel_rfl) (fun K hK => ?_)
        go_simp
        first | (refine hK _ ?_; clear hK K) | (apply Exists.intro; refine ⟨fun x => ?_, hK _ ?_⟩; (fail); clear hK K)
        refine Mix.take_exC _ _ 4 rfl (by kernel_rfl) (by kernel_rfl) (by kernel_rfl) (by kernel_rfl) (fun K hK => ?_)
        go_simp
        first | (refine hK _ ?_; clear hK K) | (apply Exists.intro; refine ⟨fun x => ?_, hK _ ?_⟩; (fail); clear hK K)
        refine Mix.take_exC _ _ 5 rfl (by kernel_rfl) (by kernel_rfl) (by kernel_rfl) (by kernel_rfl) (fun K hK => ?_)
        go_simp
        first | (refine hK _ ?_; clear hK K) | (apply Exists.intro; refine ⟨fun x => ?_, hK _ ?_⟩; (fail); clear hK K)
        refine Mix.take_exC _ _ 6 rfl (by kernel_rfl) (by kernel_rfl) (by kernel_rfl) (by kernel_rfl) (fun K hK => ?_)
        go_simp
        first | (refine hK _ ?_; clear hK K) | (apply Exists.intro; refine ⟨fun x => ?_, hK _ ?_⟩; (fail); clear hK K)
        refine Mix.take_exC _ _ 7 rfl (by kernel_rfl) (by kernel_rfl) (by kernel_rfl) (by kernel_rfl) (fun K hK => ?_)
        go_simp
        first | (refine hK _ ?_; clear hK K) | (apply Exists.intro; refine ⟨fun x => ?_, hK _ ?_⟩; (fail); clear hK K)
        refine Mix.take_exC _ _ 8 rfl (by kernel_rfl) (by kernel_rfl) (by kernel_rfl) (by kernel_rfl) (fun K hK => ?_)
        go_simp
        first | (refine hK _ ?_; clear hK K) | (apply Exists.intro; refine ⟨fun x => ?_, hK _ ?_⟩; (fail); clear hK K)
        refine Mix.take_exC _ _ 9 rfl (by kernel_rfl) (by kernel_rfl) (by kernel_rfl) (by kernel_rfl) (fun K hK => ?_)
        go_simp
        first | (refine hK _ ?_; clear hK K) | (apply Exists.intro; refine ⟨fun x => ?_, hK _ ?_⟩; (fail); clear hK K)
        refine Mix.take_exC _ _ 10 rfl (by kernel_rfl) (by kernel_rfl) (by kernel_rfl) (by kernel_rfl) (fun K hK => ?_)
        go_simp
        first | (refine hK _ ?_; clear hK K) | (apply Exists.intro; refine ⟨fun x => ?_, hK _ ?_⟩; (fail); clear hK K)
        refine Mix.take_exC _ _ 11 rfl (by kernel_rfl) (by kernel_rfl) (by kernel_rfl) (by kernel_rfl) (fun K hK => ?_)
        go_simp
        first | (refine hK _ ?_; clear hK K) | (apply Exists.intro; refine ⟨fun x => ?_, hK _ ?_⟩; (fail); clear hK K)
        refine Mix.all (rs := [12]) (by kernel_rfl) (by simp) (.of_below _ hb6) ?_
        intro i7 hi7 w7 hb7 hC7
        simp only [List.mem_cons, List.not_mem_nil, or_false] at hi7
        subst hi7
        clear hC7
        obtain ⟨w8, hrun, hts, hgr⟩ := HY.out w7 (bt hb6 hb7)
        refine Mix.op rfl (by kernel_rfl) ?_
        have HP4 := Lib.hid hts
        have HC4 := Lib.hid (show Chg (fun k => k = M) w5 w8 from (Chg.of_below _ (bt hb6 hb7)).same (.of_grown hgr fun k e => by cases e; rfl))
        clear hts hgr hb6 hb7
        go_simp
        refine Mix.done (by kernel_rfl) HC4.out ?_
        intro w9 hb9
        have HB9 := Lib.hid hb9
        clear hb9 hrun
        go_wp2
        go_ret2
        rw [E1.out]
        exact ⟨rfl, HP4.out.below HB9.out, ((Chg.of_below _ HB4.out).same (HC.out.mono fun k e => .inl e)).same ((HC4.out.then_below HB9.out).mono fun k e => .inr e)⟩
theorem fsubs (h : TS w tp M cap S) (hbig : S.length < 900000) (kind id role wt t : Int) (hk : J64 id) : Calls Try.prog 70 #[ptr tp, .int .i64 id, .int .i64 role, .int .i64 wt, .int .i64 t] w (SubPost w tp M cap S ⟨kind, id, role, wt, t⟩) := by
  by_cases hb : subBad ⟨kind, id, role, wt, t⟩
  · exact fsub_bad h ⟨kind, id, role, wt, t⟩ hb
  · unfold subBad at hb
    simp only at hb
    obtain ⟨r, rfl⟩ : ∃ r : Nat, role = r := ⟨role.toNat, by omega⟩
    have hs : SubOk id r wt t := ⟨by omega, by omega, by omega, by omega, by omega, by omega, by omega⟩
    cases hf : fndF S id with
    | none => exact fsub_new h hbig hs hk kind hf
    | some y => exact fsub_old h hs hk kind hf
end
end Go.Proofs.Ytajcelmnblncaaa

/- heap: cut. -/
import Derived.Test.YtajcelmnblncaaaHeap7
namespace Go.Proofs.Ytajcelmnblncaaa
open Go.RowKit Go.Maps
attribute [local go_sem] ext_cell ext_frozen extC_cell extC_frozen Mix.calmUpon Mix.mUpon
section
variable {hp M : Nat} {v : Value} {n : Nat} {g : Nat → It} {f : Int → Option Nat} {s : Int} {w : World}
theorem PM.drop (h : PM w M f) {k : Int} (hk : J64 k) (ty : TypeId) :
    ∃ w', (Builtin.delete_ #[69, 2] ty #[.map (some M), .int .i64 k]).run Try.prog w = .ok (.tuple #[]) w' ∧ PM w' M (upd f k none) ∧ w.grownBy w' (some M) := by
  obtain ⟨L, h1, h2⟩ := h
  obtain ⟨o, hrun, h3⟩ := h1.drop key64 Try.underlying69 ty (x := k) hk
  refine ⟨_, hrun, ⟨_, h3, fun k' => ?_⟩, grown_setBlock _ _ _⟩
  rw [look_mdel, h2]
  unfold upd
  split <;> rfl
theorem HS.mapTo (h : HS w hp M v n g f s) {w' : World} {f' : Int → Option Nat} (hm : PM w' M f') (hc : Chg (fun k => k = M) w w') : HS w' hp M v n g f' s :=
  ⟨by rw [hc.block hp (h.lt hp (.inl rfl)) h.hM]; exact h.obj, ownsRow_chg h.own hc fun b e e2 => h.vM (by rw [e, e2]), hm, h.vh, h.vM, h.hM, h.j64, h.big⟩
theorem HS.shrink {b cap : Nat} (h : HS w hp M (.slice (some ⟨b, 0, none⟩) (n + 1) cap) (n + 1) g f s) :
    HS (w.setCell ⟨hp, 0, none⟩ (.slice (some ⟨b, 0, none⟩) n cap)) hp M (.slice (some ⟨b, 0, none⟩) n cap) n g f s := by
  have c0 : Chg (fun k => k = hp) w (w.setCell ⟨hp, 0, none⟩ (.slice (some ⟨b, 0, none⟩) n cap)) := (Chg.refl (fun k => k = hp) w).setCell (p := ⟨hp, 0, none⟩) (.inl rfl) _
  have vh := h.vh
  have vM := h.vM
  refine ⟨?_, ?_, h.map.chg c0 fun e => h.hM e.symm, vh, vM, h.hM, fun i hi => h.j64 i (by omega), by have := h.big; omega⟩
  · rw [heap_setCell_at _ h.obj]; simp
  · obtain ⟨hl, hr⟩ := h.own
    refine ⟨ics_len _ _, ?_⟩
    rcases hr with ⟨e, _⟩ | ⟨b', cap', cur, e, h0, hg, h1, h2, h3, h4⟩
    · cases e
    · cases e
      refine .inr ⟨b, cap, cur, rfl, h0, ?_, by omega, h2, h3, ?_⟩
      · rw [c0.block b (Array.getElem?_eq_some_iff.1 hg).1 (fun e => vh (by rw [e]; rfl))]; exact hg
      · have := congrArg (List.take (n * 2)) h4
        rw [List.take_take, Nat.min_eq_left (by omega), ics, List.take_append_of_le_length (by rw [ics_len]; omega), List.take_of_length_le (l := ics g n) (by rw [ics_len]; omega)] at this
        exact this
theorem PosOK.last {n : Nat} {g : Nat → It} {f : Int → Option Nat} (h : PosOK (n + 1) g f) : PosOK n g (upd f (g n).1 none) := by
  constructor
  · intro i hi
    unfold upd
    rw [if_neg fun e => by have := h.inj (show i < n + 1 by omega) (show n < n + 1 by omega) e; omega]
    exact h.at_ i (by omega)
  · intro k i hk
    unfold upd at hk
    split at hk
    · cases hk
    · rename_i hne
      obtain ⟨a, b⟩ := h.of_ k i hk
      refine ⟨?_, b⟩
      rcases Nat.lt_or_ge i n with h' | h'
      · exact h'
      · obtain rfl : i = n := by omega
        exact absurd b.symm hne
theorem con_last {n : Nat} {g : Nat → It} {f : Int → Option Nat} (k : Int) : con g (upd f k none) = updC (con g f) k none := by
  funext k'
  unfold con upd updC
  split <;> rfl
theorem PosOK.gone {n : Nat} {g : Nat → It} {f : Int → Option Nat} (h : PosOK (n + 1) g f) {i : Nat} (hi : i < n) : PosOK n (put1 g i (g n)) (upd (upd f (g i).1 none) (g n).1 (some i)) := by
  have hne : (g i).1 ≠ (g n).1 := fun e => by have := h.inj (show i < n + 1 by omega) (show n < n + 1 by omega) e; omega
  constructor
  · intro j hj
    unfold put1 upd
    by_cases e : j = i
    · subst e; rw [if_pos rfl, if_pos rfl]
    · rw [if_neg e, if_neg fun e2 => by have := h.inj (show j < n + 1 by omega) (show n < n + 1 by omega) e2; omega, if_neg fun e2 => e (h.inj (show j < n + 1 by omega) (show i < n + 1 by omega) e2)]
      exact h.at_ j (by omega)
  · intro k j hk
    unfold upd at hk
    unfold put1
    split at hk
    · rename_i e; cases hk; rw [if_pos rfl]; exact ⟨hi, e.symm⟩
    · split at hk
      · cases hk
      · rename_i h1 h2
        obtain ⟨a, b⟩ := h.of_ k j hk
        have hjn : j ≠ n := fun e => h1 (by rw [← b, e])
        rw [if_neg fun e => h2 (by rw [← b, e])]
        exact ⟨by omega, b⟩
theorem con_gone {n : Nat} {g : Nat → It} {f : Int → Option Nat} (h : PosOK (n + 1) g f) {i : Nat} (hi : i < n) : con (put1 g i (g n)) (upd (upd f (g i).1 none) (g n).1 (some i)) = updC (con g f) (g i).1 none := by
  have hne : (g i).1 ≠ (g n).1 := fun e => by have := h.inj (show i < n + 1 by omega) (show n < n + 1 by omega) e; omega
  funext k
  unfold con upd updC
  by_cases h1 : k = (g n).1
  · rw [if_pos h1, if_neg fun e => hne (by rw [← e, h1])]
    subst h1
    show some (put1 g i (g n) i).2 = (f (g n).1).map fun i => (g i).2
    rw [h.at_ n (by omega)]; simp [put1]
  · rw [if_neg h1]
    by_cases h2 : k = (g i).1
    · rw [if_pos h2, if_pos h2]; rfl
    · rw [if_neg h2, if_neg h2]
      show (f k).map (fun j => (put1 g i (g n) j).2) = (f k).map fun i => (g i).2
      cases hf : f k with
      | none => rfl
      | some j =>
        have hj := (h.of_ k j hf).2
        simp only [Option.map_some, Option.some.injEq]
        unfold put1
        rw [if_neg fun e => h2 (by rw [← hj, e])]
def CutPost (w : World) (hp M : Nat) (v : Value) (n : Nat) (g : Nat → It) (f : Int → Option Nat) (s : Int) (i : Nat) (e : Ending) (w' : World) : Prop :=
  ∃ F' d1 d2, e = .returned (.tuple #[]) ∧ HM w w' hp (hF hp M v) F' n (updC (con g f) (g i).1 none) (s + ((d1 + d2 : Nat) : Int)) ∧ 2 ^ d1 ≤ n + 1 ∧ 2 ^ d2 ≤ n + 1
set_option maxRecDepth 100000 in
set_option maxHeartbeats 1000000 in
theorem cut_any (h : HS w hp M v (n + 1) g f s) (pos : PosOK (n + 1) g f) (hh : Hp (n + 1) g) (i : Nat) (hi : i ≤ n) (hs0 : 0 ≤ s) (hs1 : s ≤ 1000000000000) :
    Calls Try.prog 90 #[ptr hp, .int .i64 i] w (CutPost w hp M v n g f s i) := by
  have H := Lib.hid h; have HP := Lib.hid pos; have HH := Lib.hid hh
  obtain ⟨a, cap, rfl, hc, hm, hcell⟩ := h.form
  obtain ⟨b, rfl, hb, hbh, hbM, hfz, hat⟩ := hcell (by omega)
  have c0 := h.c0; have c1 := h.c1; have hl := h.lt hp (.inl rfl)
  have hpM := h.hM
  obtain ⟨d0, d1⟩ := hat i (by omega)
  have hiI : (i : Int) < (n : Int) + 1 := by omega
  have hbig := h.big
  have hJ := Lib.hid (h.j64 i (by omega))
  have HAT := Lib.hid hat
  clear hcell hat hfz h pos hh
  go_enter Try.func90, Try.ntmps90
  go_wp2
  have hl := H.out.lt hp (.inl rfl)
  have hb := H.out.lt b (.inr (.inr rfl))
  refine Mix.regionC (fun k => k = M) (by kernel_rfl) ?_
  intro w1 hb1
  refine Mix.take_exC _ _ 0 rfl (by kernel_rfl) (by kernel_rfl) (by kernel_rfl) (by kernel_rfl) (fun K hK => ?_)
  go_simp
  first | (refine hK _ ?_; clear hK K) | (apply Exists.intro; refine ⟨fun x => ?_, hK _ ?_⟩; (fail); clear hK K)
  refine Mix.take_exC _ _ 1 rfl (by kernel_rfl) (by kernel_rfl) (by kernel_rfl) (by kernel_rfl) (fun K hK => ?_)
  go_simp
  first | (refine hK _ ?_; clear hK K) | (apply Exists.intro; refine ⟨fun x => ?_, hK _ ?_⟩; (fail); clear hK K)
  refine Mix.take_exC _ _ 2 rfl (by kernel_rfl) (by kernel_rfl) (by kernel_rfl) (by kernel_rfl) (fun K hK => ?_)
  go_simp
  first | (refine hK _ ?_; clear hK K) | (apply Exists.intro; refine ⟨fun x => ?_, hK _ ?_⟩; (fail); clear hK K)
  refine Mix.take_exC _ _ 3 rfl (by kernel_rfl) (by kernel_rfl) (by kernel_rfl) (by kernel_rfl) (fun K hK => ?_)
  go_simp
  first | (refine hK _ ?_; clear hK K) | (apply Exists.intro; refine ⟨fun x => ?_, hK _ ?_⟩; (fail); clear hK K)
  refine Mix.take_exC _ _ 4 rfl (by kernel_rfl) (by kernel_rfl) (by kernel_rfl) (by kernel_rfl) (fun K hK => ?_)
  go_simp
  first | (refine hK _ ?_; clear hK K) | (apply Exists.intro; refine ⟨fun x => ?_, hK _ ?_⟩; (fail); clear hK K)
  refine Mix.take_exC _ _ 5 rfl (by kernel_rfl) (by kernel_rfl) (by kernel_rfl) (by kernel_rfl) (fun K hK => ?_)
  go_simp
  first | (refine hK _ ?_; clear hK K) | (apply Exists.intro; refine ⟨fun x => ?_, hK _ ?_⟩; (fail); clear hK K)
  refine Mix.take_exC _ _ 6 rfl (by kernel_rfl) (by kernel_rfl) (by kernel_rfl) (by kernel_rfl) (fun K hK => ?_)
  go_simp
  first | (refine hK _ ?_; clear hK K) | (apply Exists.intro; refine ⟨fun x => ?_, hK _ ?_⟩; (fail); clear hK K)
  refine Mix.take_exC _ _ 7 rfl (by kernel_rfl) (by kernel_rfl) (by kernel_rfl) (by kernel_rfl) (fun K hK => ?_)
  go_simp
  first | (refine hK _ ?_; clear hK K) | (apply Exists.intro; refine ⟨fun x => ?_, hK _ ?_⟩; (fail); clear hK K)
  refine Mix.take_exC _ _ 8 rfl (by kernel_rfl) (by kernel_rfl) (by kernel_rfl) (by kernel_rfl) (fun K hK => ?_)
  go_simp
  first | (refine hK _ ?_; clear hK K) | (apply Exists.intro; refine ⟨fun x => ?_, hK _ ?_⟩; (fail); clear hK K)
  refine Mix.take_exC _ _ 9 rfl (by kernel_rfl) (by kernel_rfl) (by kernel_rfl) (by kernel_rfl) (fun K hK => ?_)
  go_simp
  first | (refine hK _ ?_; clear hK K) | (apply Exists.intro; refine ⟨fun x => ?_, hK _ ?_⟩; (fail); clear hK K)
  refine Mix.take_exC _ _ 10 rfl (by kernel_rfl) (by kernel_rfl) (by kernel_rfl) (by kernel_rfl) (fun K hK => ?_)
  go_simp
  first | (refine hK _ ?_; clear hK K) | (apply Exists.intro; refine ⟨fun x => ?_, hK _ ?_⟩; (fail); clear hK K)
  refine Mix.take_exC _ _ 11 rfl (by kernel_rfl) (by kernel_rfl) (by kernel_rfl) (by kernel_rfl) (fun K hK => ?_)
  go_simp
  first | (refine hK _ ?_; clear hK K) | (apply Exists.intro; refine ⟨fun x => ?_, hK _ ?_⟩; (fail); clear hK K)
  refine Mix.all (rs := [12]) (by kernel_rfl) (by simp) (.of_below _ hb1) ?_
  intro i2 hi2 w2 hb2 hC2
  simp only [List.mem_cons, List.not_mem_nil, or_false] at hi2
  subst hi2
  have HB2 := Lib.hid (bt hb1 hb2)
  clear hC2 hb1 hb2
  obtain ⟨w3, hrun, hpm, hgr⟩ := (H.out.map.chg (.of_below (fun _ => False) HB2.out) id).drop hJ.out.1 0
  have H3 := Lib.hid ((H.out.below HB2.out).mapTo hpm (.of_grown hgr fun k e => by cases e; rfl))
  have C3 := Lib.hid (show Chg (fun k => k = M) w w3 from (Chg.of_below _ HB2.out).same (.of_grown hgr fun k e => by cases e; rfl))
  clear hpm hgr
  refine Mix.op rfl (by kernel_rfl) ?_
  go_simp
  refine Mix.done (by kernel_rfl) C3.out ?_
  intro w4 hb4
  have HB4 := Lib.hid hb4
  have H4 := Lib.hid (H3.out.below hb4)
  have C4 := Lib.hid (C3.out.then_below hb4)
  have HJn := Lib.hid (H4.out.j64 n (by omega))
  clear c0 c1 d0 d1 hb4 hrun
  have c0 := H4.out.c0
  have z0 := H4.out.fz 0
  have hl := H4.out.lt hp (.inl rfl)
  have hb := H4.out.lt b (.inr (.inr rfl))
  obtain ⟨a', cap', e', _, hcap, hcell⟩ := H4.out.form
  cases e'
  obtain ⟨b', e', hb', _, _, hfz, hat⟩ := hcell (by omega)
  cases e'
  obtain ⟨d0, d1⟩ := hat n (by omega)
  have hnI : (n : Int) < (n : Int) + 1 := by omega
  rename_i hcap0 _
  have hcn : n ≤ cap := by omega
  have CS := Lib.hid (show Chg (hF hp M (.slice (some ⟨b, 0, none⟩) (n + 1) cap)) w (w4.setCell ⟨hp, 0, none⟩ (.slice (some ⟨b, 0, none⟩) n cap)) from
    (C4.out.mono fun k e => .inr (.inl e)).setCell (p := ⟨hp, 0, none⟩) (.inl (.inl rfl)) _)
  have HS5 := Lib.hid H4.out.shrink
  clear hcell hfz hat
  by_cases hin : i < n
  · have hinI : (i : Int) < (n : Int) := by omega
    go_wp2_with fail
    refine (set_any (HS5.out.below (ba (Below.refl _ _) _)) i hin (g n) HJn.out).mono ?_
    rintro e w6 ⟨rfl, H6, C6⟩
    have H6 := Lib.hid H6
    have C6 := Lib.hid (show Chg (hG M (.slice (some ⟨b, 0, none⟩) n cap)) (w4.setCell ⟨hp, 0, none⟩ (.slice (some ⟨b, 0, none⟩) n cap)) w6 from (Chg.of_below _ (ba (Below.refl _ _) _)).same C6)
    have HP6 := Lib.hid (HP.out.gone hin)
    have HB6 := Lib.hid (Hp.but HH.out.less hin (g n))
    have HC6 := Lib.hid (con_gone HP.out hin)
    have g0 := H6.out.c2
    have g1 := H6.out.lt hp (.inl rfl)
    have g2 : ¬ hG M (.slice (some ⟨b, 0, none⟩) n cap) hp := fun e => by
      rcases e with e | e
      · exact H6.out.hM e
      · exact H6.out.vh e
    clear c0 z0 d0 d1
    go_wp2_with fail
    refine Mix.regionL (hG M (.slice (some ⟨b, 0, none⟩) n cap)) (by kernel_rfl) ?_
    intro w7 hb7
    refine Mix.take_exL _ _ 0 rfl (by kernel_rfl) (by kernel_rfl) (by kernel_rfl) (by kernel_rfl) (by kernel_rfl) (by kernel_rfl) (fun K hK => ?_)
    go_simp
    first | (refine hK _ ?_; clear hK K) | (apply Exists.intro; refine ⟨fun x => ?_, hK _ ?_⟩; (fail); clear hK K)
    refine Mix.take_exL _ _ 1 rfl (by kernel_rfl) (by kernel_rfl) (by kernel_rfl) (by kernel_rfl) (by kernel_rfl) (by kernel_rfl) (fun K hK => ?_)
    go_simp
    first | (refine hK _ ?_; clear hK K) | (apply Exists.intro; refine ⟨fun x => ?_, hK _ ?_⟩; (fail); clear hK K)
    refine Mix.take_exL _ _ 2 rfl (by kernel_rfl) (by kernel_rfl) (by kernel_rfl) (by kernel_rfl) (by kernel_rfl) (by kernel_rfl) (fun K hK => ?_)
    go_simp
    first | (refine hK _ ?_; clear hK K) | (apply Exists.intro; refine ⟨fun x => ?_, hK _ ?_⟩; (fail); clear hK K)
    refine Mix.take_exL _ _ 3 rfl (by kernel_rfl) (by kernel_rfl) (by kernel_rfl) (by kernel_rfl) (by kernel_rfl) (by kernel_rfl) (fun K hK => ?_)
    go_simp
    first | (refine hK _ ?_; clear hK K) | (apply Exists.intro; refine ⟨fun x => ?_, hK _ ?_⟩; (fail); clear hK K)
    refine Mix.take_exL _ _ 4 rfl (by kernel_rfl) (by kernel_rfl) (by kernel_rfl) (by kernel_rfl) (by kernel_rfl) (by kernel_rfl) (fun K hK => ?_)
    go_simp
    first | (refine hK _ ?_; clear hK K) | (apply Exists.intro; refine ⟨fun x => ?_, hK _ ?_⟩; (fail); clear hK K)
    refine Mix.take_exL _ _ 5 rfl (by kernel_rfl) (by kernel_rfl) (by kernel_rfl) (by kernel_rfl) (by kernel_rfl) (by kernel_rfl) (fun K hK => ?_)
    go_simp
    first | (refine hK _ ?_; clear hK K) | (apply Exists.intro; refine ⟨fun x => ?_, hK _ ?_⟩; (fail); clear hK K)
    refine Mix.allL (rs := [6]) (by kernel_rfl) (by simp) (.of_below _ hb7) (by kernel_rfl) ?_
    intro i8 hi8 w8 hb8 hC8
    simp only [List.mem_cons, List.not_mem_nil, or_false] at hi8
    subst hi8
    have HB8 := Lib.hid (bt hb7 hb8)
    clear hC8 hb7 hb8
    refine Mix.op rfl (by kernel_rfl) ?_
    go_simp
    refine (settle_any (H6.out.below HB8.out) HP6.out i hin HB6.out).mono ?_
    rintro e w9 ⟨d1, d2, g', f', rfl, M9, H9, D1, D2⟩
    refine ⟨_, rfl, ?_⟩
    have M9 := Lib.hid M9; have H9 := Lib.hid H9; have D1 := Lib.hid D1; have D2 := Lib.hid D2
    have x1 : d1 < 100000 := by
      have h1 := D1.out
      have h2 : d1 < 2 ^ d1 := Nat.lt_two_pow_self
      omega
    have x2 : d2 < 100000 := by
      have h1 := D2.out
      have h2 : d2 < 2 ^ d2 := Nat.lt_two_pow_self
      omega
    have hw2 : IntKind.i64.wrap (s + ((d1 : Int) + (d2 : Int))) = s + ((d1 : Int) + (d2 : Int)) := IntWalk.i64_in _ (by omega)
    refine Mix.take_exL _ _ 7 rfl (by kernel_rfl) (by kernel_rfl) (by kernel_rfl) (by kernel_rfl) (by kernel_rfl) (by kernel_rfl) (fun K hK => ?_)
    go_simp
    first | (refine hK _ ?_; clear hK K) | (apply Exists.intro; refine ⟨fun x => ?_, hK _ ?_⟩; (fail); clear hK K)
    refine Mix.allL (rs := [8]) (by kernel_rfl) (by simp) ((Chg.of_below _ HB8.out).same M9.out.chg) (by kernel_rfl) ?_
    intro i71 hi71 w71 hb71 hC71
    simp only [List.mem_cons, List.not_mem_nil, or_false] at hi71
    subst hi71
    clear hC71
    refine Mix.op rfl (by kernel_rfl) ?_
    go_simp
    refine Mix.allL (rs := [9]) (by kernel_rfl) (by simp) (((Chg.of_below _ HB8.out).same M9.out.chg).then_below hb71) (by kernel_rfl) ?_
    intro i72 hi72 w72 hb72 hC72
    simp only [List.mem_cons, List.not_mem_nil, or_false] at hi72
    subst hi72
    clear hC72
    refine Mix.op rfl (by kernel_rfl) ?_
    go_simp
    refine Mix.allL (rs := [10]) (by kernel_rfl) (by simp) (((Chg.of_below _ HB8.out).same M9.out.chg).then_below (bt hb71 hb72)) (by kernel_rfl) ?_
    intro i10 hi10 w10 hb10 hC10
    simp only [List.mem_cons, List.not_mem_nil, or_false] at hi10
    subst hi10
    have hb10 := bt (bt hb71 hb72) hb10
    have H10 := Lib.hid (M9.out.hs.below hb10)
    have C10 := Lib.hid (M9.out.chg.then_below hb10)
    have y0 := H10.out.c2
    have y1 := H10.out.fz 2
    clear hC10 hb10 hb71 hb72
    refine Mix.op rfl (by kernel_rfl) ?_
    go_simp
    refine Mix.doneL (by kernel_rfl) (by kernel_rfl) ?_
    intro w11 hb11
    have HB11 := Lib.hid hb11
    clear hb11 y0 y1
    go_wp2
    go_end0
    have hS := (H10.out.steps (s + ((d1 : Int) + (d2 : Int)))).below HB11.out
    refine ⟨hF hp M (.slice (some ⟨b, 0, none⟩) n cap), d1, d2, rfl, ⟨⟨M, .slice (some ⟨b, 0, none⟩) n cap, g', f', by simpa using hS, M9.out.pos, H9.out, ?_, rfl⟩, ?_, fun k' hk' => .inl hk'⟩, Nat.le_succ_of_le D1.out, Nat.le_succ_of_le D2.out⟩
    · rw [M9.out.con, HC6.out]
    · have q3 : Chg (hG M (.slice (some ⟨b, 0, none⟩) n cap)) (w4.setCell ⟨hp, 0, none⟩ (.slice (some ⟨b, 0, none⟩) n cap)) w10 := (C6.out.then_below HB8.out).same C10.out
      have q4 : Chg (hF hp M (.slice (some ⟨b, 0, none⟩) n cap)) w10 (w10.setCell ⟨hp, 2, none⟩ (.int .i64 (s + ((d1 : Int) + (d2 : Int))))) := (Chg.refl _ w10).setCell (p := ⟨hp, 2, none⟩) (.inl (.inl rfl)) _
      exact CS.out.same (((q3.mono fun k e => .inr e).same q4).then_below HB11.out)
  · obtain rfl : i = n := by omega
    have hinI : ¬ (i : Int) < (i : Int) := by omega
    go_wp2
    go_end0
    refine ⟨hF hp M (.slice (some ⟨b, 0, none⟩) i cap), 0, 0, rfl, ⟨⟨M, .slice (some ⟨b, 0, none⟩) i cap, g, _, by simpa using HS5.out.below (ba (Below.refl _ _) _), HP.out.last, HH.out.less, con_last (n := i) _, rfl⟩, CS.out.then_below (ba (Below.refl _ _) _), fun k' hk' => .inl hk'⟩, by simp, by simp⟩
end
end Go.Proofs.Ytajcelmnblncaaa

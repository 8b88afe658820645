/- heap: Put of a new key. -/
import Derived.Test.YtajcelmnblncaaaHeap6
namespace Go.Proofs.Ytajcelmnblncaaa
open Go.RowKit Go.Maps
attribute [local go_sem] ext_cell ext_frozen extC_cell extC_frozen Mix.calmUpon Mix.mUpon
theorem infoItem : (Try.prog.info? 148).map (fun i => (i.zero, i.size, i.bytes)) = some (some (.agg #[.int .i64 0, .int .i64 0]), 2, 16) := by kernel_rfl
section
variable {hp M : Nat} {v : Value} {n : Nat} {g : Nat → It} {f : Int → Option Nat} {s : Int} {w : World}
/-- An item appended, the slice not yet stored. -/
theorem HS.app (h : HS w hp M v n g f s) {b : Nat} (h0 : w.cell? ⟨b, 0, none⟩ = some (.int .i64 0)) (h1 : w.cell? ⟨b, 1, none⟩ = some (.int .i64 0)) :
    ∃ v' w', (Builtin.append_ #[68, 68] 68 #[v, .slice (some ⟨b, 0, none⟩) 1 1]).run Try.prog w = .ok v' w' ∧
      w'.ownsRow 0 148 2 v' (n + 1) (ics (put1 g n (0, 0)) (n + 1)) ∧ w.grownBy w' v.ownBlock ∧ (v'.ownBlock = v.ownBlock ∨ v'.ownBlock = some w.heap.size) := by
  obtain ⟨i0, hi, hz0, hz1, hz2⟩ := info_parts infoItem
  have hb := h.big
  obtain ⟨v', w', r1, r2, r3, r4⟩ := run_app (P := Try.prog) w 0 68 68 148 i0 (.agg #[.int .i64 0, .int .i64 0]) 2 16 Try.underlying68 hi hz0 hz1 hz2 rfl (by decide) v n (ics g n) h.own ⟨b, 0, none⟩ 1 1 [.int .i64 0, .int .i64 0] rfl
    (fun j u' hj => by
      rcases j with _ | _ | j <;> simp at hj
      · subst hj; simpa [Addr.add] using h0
      · subst hj; simpa [Addr.add] using h1) (fun u' hu => by simp at hu; subst hu; rfl) (by unfold maxLen; omega) (by omega) (Nat.zero_le _)
  refine ⟨v', w', r1, ?_, r3, r4⟩
  rw [ics, ics_congr (g := put1 g n (0, 0)) (h := g) n fun i hi => by unfold put1; rw [if_neg (by omega)]]
  simpa [put1] using r2
/-- .. and stored. -/
theorem HS.appd (h : HS w hp M v n g f s) {v' : Value} {w' : World} (hr : w'.ownsRow 0 148 2 v' (n + 1) (ics (put1 g n (0, 0)) (n + 1))) (hg : w.grownBy w' v.ownBlock) (hv : v'.ownBlock = v.ownBlock ∨ v'.ownBlock = some w.heap.size) (hb : n + 1 < 100000) :
    HS (w'.setCell ⟨hp, 0, none⟩ v') hp M v' (n + 1) (put1 g n (0, 0)) f s ∧ Chg (hF hp M v) w (w'.setCell ⟨hp, 0, none⟩ v') ∧ (∀ k, hF hp M v' k → hF hp M v k ∨ w.heap.size ≤ k) := by
  have lh := h.lt hp (.inl rfl)
  have lM := h.lt M (.inr (.inl rfl))
  have vh : v'.ownBlock ≠ some hp := by
    rcases hv with e | e
    · rw [e]; exact h.vh
    · rw [e]; intro e; cases e; omega
  have vM : v'.ownBlock ≠ some M := by
    rcases hv with e | e
    · rw [e]; exact h.vM
    · rw [e]; intro e; cases e; omega
  have c0 : Chg (fun k => k = hp) w' (w'.setCell ⟨hp, 0, none⟩ v') := (Chg.refl (fun k => k = hp) w').setCell (p := ⟨hp, 0, none⟩) (.inl rfl) _
  have cA : Chg (hF hp M v) w w' := .of_grown hg fun k e => .inr (.inr e)
  have hobj : w'.heap[hp]? = some (.cells #[v, .map (some M), .int .i64 s] 71 (0, 0)) := (hg.block hp lh fun e => h.vh e.symm).trans h.obj
  refine ⟨⟨?_, ?_, ?_, vh, vM, h.hM, fun i hi => ?_, hb⟩, cA.same (c0.mono fun k e => .inl e), fun k hk => ?_⟩
  · rw [heap_setCell_at _ hobj]; simp
  · exact ownsRow_chg hr c0 fun b e e2 => vh (by rw [e, e2])
  · refine (h.map.chg (F := fun k => v.ownBlock = some k) (.of_grown hg fun k e => e) h.vM).chg c0 fun e => h.hM e.symm
  · unfold put1; split
    · exact ⟨⟨by omega, by omega⟩, ⟨by omega, by omega⟩⟩
    · exact h.j64 i (by omega)
  · rcases hk with rfl | rfl | hk
    · exact .inl (.inl rfl)
    · exact .inl (.inr (.inl rfl))
    · rcases hv with e | e
      · rw [e] at hk; exact .inl (.inr (.inr hk))
      · rw [e] at hk; cases hk; exact .inr (Nat.le_refl _)
/-- The steps told anew. -/
theorem HS.steps (h : HS w hp M v n g f s) (s' : Int) : HS (w.setCell ⟨hp, 2, none⟩ (.int .i64 s')) hp M v n g f s' := by
  have c0 : Chg (fun k => k = hp) w (w.setCell ⟨hp, 2, none⟩ (.int .i64 s')) := (Chg.refl (fun k => k = hp) w).setCell (p := ⟨hp, 2, none⟩) (.inl rfl) _
  refine ⟨?_, ownsRow_chg h.own c0 fun b e e2 => h.vh (by rw [e, e2]), h.map.chg c0 fun e => h.hM e.symm, h.vh, h.vM, h.hM, h.j64, h.big⟩
  rw [heap_setCell_at _ h.obj]; simp
theorem PosOK.more {n : Nat} {g : Nat → It} {f : Int → Option Nat} (h : PosOK n g f) {x : It} (hx : f x.1 = none) : PosOK (n + 1) (put1 g n x) (upd f x.1 (some n)) := by
  constructor
  · intro i hi
    unfold put1 upd
    by_cases e : i = n
    · subst e; rw [if_pos rfl, if_pos rfl]
    · rw [if_neg e]
      have := h.at_ i (by omega)
      rw [if_neg (fun e2 => by rw [e2, hx] at this; cases this)]
      exact this
  · intro k i hk
    unfold upd at hk
    unfold put1
    split at hk
    · rename_i e; cases hk; rw [if_pos rfl]; exact ⟨by omega, e.symm⟩
    · obtain ⟨a, b⟩ := h.of_ k i hk
      rw [if_neg (by omega)]; exact ⟨by omega, b⟩
theorem con_more {n : Nat} {g : Nat → It} {f : Int → Option Nat} (h : PosOK n g f) {x : It} : con (put1 g n x) (upd f x.1 (some n)) = updC (con g f) x.1 (some x.2) := by
  funext k
  unfold con upd updC
  by_cases hk : k = x.1
  · rw [if_pos hk, if_pos hk]; simp [put1]
  · rw [if_neg hk, if_neg hk]
    show (f k).map (fun i' => (put1 g n x i').2) = (f k).map fun i => (g i).2
    cases hf : f k with
    | none => rfl
    | some j =>
      have hj := (h.of_ k j hf).1
      simp only [Option.map_some, Option.some.injEq]
      unfold put1
      rw [if_neg (by omega)]
end
theorem put1_put1 (g : Nat → It) (n : Nat) (x y : It) : put1 (put1 g n x) n y = put1 g n y := by funext k; unfold put1; split <;> rfl
set_option maxRecDepth 100000 in
set_option maxHeartbeats 1000000 in
theorem put_new {w : World} {hp : Nat} {F : Nat → Prop} {n : Nat} {C : Int → Option Int} {s : Int} (h : HO w hp F n C s) (k t : Int) (hk : J64 k) (ht : J64 t) (hC : C k = none) (hn : n < 99990) (hs0 : 0 ≤ s) (hs1 : s ≤ 1000000000000) :
    Calls Try.prog 38 #[ptr hp, .int .i64 k, .int .i64 t] w fun e w' => ∃ F' d1 d2, e = .returned (.bool true) ∧ HM w w' hp F F' (n + 1) (updC C k (some t)) (s + ((d1 + d2 : Nat) : Int)) ∧ 2 ^ d1 ≤ n + 1 ∧ 2 ^ d2 ≤ n + 1 := by
  obtain ⟨M, v, g, f, hs, pos, hh, rfl, rfl⟩ := h
  have hf : f k = none := by
    unfold con at hC
    cases hf : f k with
    | none => rfl
    | some i => rw [hf] at hC; cases hC
  have H := Lib.hid hs; have HP := Lib.hid pos; have HH := Lib.hid hh; have HK := Lib.hid hf
  clear hs pos hh hC hf
  go_enter Try.func38, Try.ntmps38
  go_wp2_with fail
  refine (made_yes H.out).mono ?_
  rintro e w1 ⟨rfl, hb1⟩
  have HB1 := Lib.hid hb1
  have H1 := Lib.hid (H.out.below hb1)
  have hlook := H1.out.map.look hk true
  rw [HK.out] at hlook
  simp only [Option.getD_none, Option.isSome_none, if_true] at hlook
  have c0 := H1.out.c0; have c1 := H1.out.c1
  have z0 := H1.out.fz 0
  have hl := H1.out.lt hp (.inl rfl)
  have HA := Lib.hid (H1.out.below (ba (Below.refl _ _) (.cells #[.int .i64 0, .int .i64 0] 148)))
  obtain ⟨v', w2, hrun, hr2, hg2, hv2⟩ := HA.out.app (b := w1.heap.size) (by simp [go_sem]) (by simp [go_sem])
  obtain ⟨k1, k2, k3⟩ := HA.out.appd hr2 hg2 hv2 (by omega)
  have e0 : w2.cell? ⟨hp, 0, none⟩ = some v := by
    rw [World.cell?_of_block (a := ⟨hp, 0, none⟩) (hg2.block hp (by simp; omega) fun e => H1.out.vh e.symm)]
    exact HA.out.c0
  have e1 : w2.frozen? ⟨hp, 0, none⟩ = false := by
    rw [World.frozen?_of_block (a := ⟨hp, 0, none⟩) (hg2.block hp (by simp; omega) fun e => H1.out.vh e.symm)]
    exact HA.out.fz 0
  have K1 := Lib.hid k1; have K2 := Lib.hid k2; have K3 := Lib.hid k3
  have HRun := Lib.hid hrun
  have HR2 := Lib.hid hr2
  clear hb1 hg2 hv2 k1 k2 k3 hrun
  obtain ⟨a', cap', rfl⟩ : ∃ a' cap', v' = .slice a' (n + 1) cap' := by
    rcases hr2.2 with ⟨_, h⟩ | ⟨g', cap', _, h, _⟩
    · omega
    · exact ⟨_, cap', h⟩
  clear hr2
  go_wp2_with (at_builtin; refine wpList_app_run rfl _ _ _ rfl rfl rfl HRun.out ?_)
  refine (set_any K1.out n (by omega) (k, t) ⟨hk, ht⟩).mono ?_
  rintro e w4 ⟨rfl, H4, C4⟩
  rw [put1_put1] at H4
  have H4 := Lib.hid H4
  have HP4 := Lib.hid (HP.out.more (x := (k, t)) HK.out)
  have HB4 := Lib.hid (HH.out.more (k, t))
  have g0 := H4.out.c2
  have g1 := H4.out.lt hp (.inl rfl)
  have g2 : ¬ hG M (.slice a' (n + 1) cap') hp := fun e => by
    rcases e with e | e
    · exact H4.out.hM e
    · exact H4.out.vh e
  have C4 := Lib.hid C4
  clear c0 c1 z0 e0 e1 hlook
  go_wp2_with fail
  refine Mix.regionL (hG M (.slice a' (n + 1) cap')) (by kernel_rfl) ?_
  intro w5 hb5
  refine Mix.take_exL _ _ 0 rfl (by kernel_rfl) (by kernel_rfl) (by kernel_rfl) (by kernel_rfl) (by kernel_rfl) (by kernel_rfl) (fun K hK => ?_)
  go_simp
  first | (refine hK _ ?_; clear hK K) | (apply Exists.intro; refine ⟨fun x => ?_, hK _ ?_⟩; (fail); clear hK K)
  refine Mix.take_exL _ _ 1 rfl (by kernel_rfl) (by kernel_rfl) (by kernel_rfl) (by kernel_rfl) (by kernel_rfl) (by kernel_rfl) (fun K hK => ?_)
  go_simp
  first | (refine hK _ ?_; clear hK K) | (apply Exists.intro; refine ⟨fun x => ?_, hK _ ?_⟩; (fail); clear hK K)
  refine Mix.take_exL _ _ 2 rfl (by kernel_rfl) (by kernel_rfl) (by kernel_rfl) (by kernel_rfl) (by kernel_rfl) (by kernel_rfl) (fun K hK => ?_)
  go_simp
  first | (refine hK _ ?_; clear hK K) | (apply Exists.intro; refine ⟨fun x => ?_, hK _ ?_⟩; (fail); clear hK K)
  refine Mix.take_exL _ _ 3 rfl (by kernel_rfl) (by kernel_rfl) (by kernel_rfl) (by kernel_rfl) (by kernel_rfl) (by kernel_rfl) (fun K hK => ?_)
  go_simp
  first | (refine hK _ ?_; clear hK K) | (apply Exists.intro; refine ⟨fun x => ?_, hK _ ?_⟩; (fail); clear hK K)
  refine Mix.take_exL _ _ 4 rfl (by kernel_rfl) (by kernel_rfl) (by kernel_rfl) (by kernel_rfl) (by kernel_rfl) (by kernel_rfl) (fun K hK => ?_)
  go_simp
  first | (refine hK _ ?_; clear hK K) | (apply Exists.intro; refine ⟨fun x => ?_, hK _ ?_⟩; (fail); clear hK K)
  refine Mix.take_exL _ _ 5 rfl (by kernel_rfl) (by kernel_rfl) (by kernel_rfl) (by kernel_rfl) (by kernel_rfl) (by kernel_rfl) (fun K hK => ?_)
  go_simp
  first | (refine hK _ ?_; clear hK K) | (apply Exists.intro; refine ⟨fun x => ?_, hK _ ?_⟩; (fail); clear hK K)
  refine Mix.allL (rs := [6]) (by kernel_rfl) (by simp) (.of_below _ hb5) (by kernel_rfl) ?_
  intro i6 hi6 w6 hb6 hC6
  simp only [List.mem_cons, List.not_mem_nil, or_false] at hi6
  subst hi6
  have HB6 := Lib.hid (bt hb5 hb6)
  clear hC6 hb5 hb6
  refine Mix.op rfl (by kernel_rfl) ?_
  go_simp
  refine (settle_any (H4.out.below HB6.out) HP4.out n (by omega) HB4.out).mono ?_
  rintro e w7 ⟨d1, d2, g', f', rfl, M7, H7, D1, D2⟩
  refine ⟨_, rfl, ?_⟩
  have M7 := Lib.hid M7; have H7 := Lib.hid H7; have D1 := Lib.hid D1; have D2 := Lib.hid D2
  have x1 : d1 < 100000 := by
    have h1 := D1.out
    have h2 : d1 < 2 ^ d1 := Nat.lt_two_pow_self
    omega
  have x2 : d2 < 100000 := by
    have h1 := D2.out
    have h2 : d2 < 2 ^ d2 := Nat.lt_two_pow_self
    omega
  have hw : IntKind.i64.wrap (s + ((d1 + d2 : Nat) : Int)) = s + ((d1 + d2 : Nat) : Int) := IntWalk.i64_in _ (by omega)
  have hw2 : IntKind.i64.wrap (s + ((d1 : Int) + (d2 : Int))) = s + ((d1 : Int) + (d2 : Int)) := IntWalk.i64_in _ (by omega)
  refine Mix.take_exL _ _ 7 rfl (by kernel_rfl) (by kernel_rfl) (by kernel_rfl) (by kernel_rfl) (by kernel_rfl) (by kernel_rfl) (fun K hK => ?_)
  go_simp
  first | (refine hK _ ?_; clear hK K) | (apply Exists.intro; refine ⟨fun x => ?_, hK _ ?_⟩; (fail); clear hK K)
  refine Mix.allL (rs := [8]) (by kernel_rfl) (by simp) ((Chg.of_below _ HB6.out).same M7.out.chg) (by kernel_rfl) ?_
  intro i71 hi71 w71 hb71 hC71
  simp only [List.mem_cons, List.not_mem_nil, or_false] at hi71
  subst hi71
  clear hC71
  refine Mix.op rfl (by kernel_rfl) ?_
  go_simp
  refine Mix.allL (rs := [9]) (by kernel_rfl) (by simp) (((Chg.of_below _ HB6.out).same M7.out.chg).then_below hb71) (by kernel_rfl) ?_
  intro i72 hi72 w72 hb72 hC72
  simp only [List.mem_cons, List.not_mem_nil, or_false] at hi72
  subst hi72
  clear hC72
  refine Mix.op rfl (by kernel_rfl) ?_
  go_simp
  refine Mix.allL (rs := [10]) (by kernel_rfl) (by simp) (((Chg.of_below _ HB6.out).same M7.out.chg).then_below (bt hb71 hb72)) (by kernel_rfl) ?_
  intro i8 hi8 w8 hb8 hC8
  simp only [List.mem_cons, List.not_mem_nil, or_false] at hi8
  subst hi8
  have hb8 := bt (bt hb71 hb72) hb8
  have H8 := Lib.hid (M7.out.hs.below hb8)
  have HC8 := Lib.hid (M7.out.chg.then_below hb8)
  have y0 := H8.out.c2
  have y1 := H8.out.fz 2
  clear hC8 hb8 hb71 hb72
  refine Mix.op rfl (by kernel_rfl) ?_
  go_simp
  refine Mix.doneL (by kernel_rfl) (by kernel_rfl) ?_
  intro w9 hb9
  have HB9 := Lib.hid hb9
  clear hb9 y0 y1
  go_wp2
  go_ret
  have hS := (H8.out.steps (s + ((d1 : Int) + (d2 : Int)))).below HB9.out
  refine ⟨_, d1, d2, rfl, ⟨⟨M, _, g', f', by simpa using hS, M7.out.pos, H7.out, ?_, rfl⟩, ?_, fun k' hk' => ?_⟩, D1.out, D2.out⟩
  · rw [M7.out.con, con_more HP.out]
  · have q1 : Chg (hF hp M v) w (w2.setCell ⟨hp, 0, none⟩ (.slice a' (n + 1) cap')) := (Chg.of_below _ (ba HB1.out _)).same K2.out
    have q3 : Chg (hG M (.slice a' (n + 1) cap')) (w2.setCell ⟨hp, 0, none⟩ (.slice a' (n + 1) cap')) w8 := (C4.out.then_below HB6.out).same HC8.out
    have q4 : Chg (hF hp M (.slice a' (n + 1) cap')) w8 (w8.setCell ⟨hp, 2, none⟩ (.int .i64 (s + ((d1 : Int) + (d2 : Int))))) := (Chg.refl _ w8).setCell (p := ⟨hp, 2, none⟩) (.inl (.inl rfl)) _
    have q5 : Chg (hF hp M (.slice a' (n + 1) cap')) (w2.setCell ⟨hp, 0, none⟩ (.slice a' (n + 1) cap')) w9 := ((q3.mono fun k e => .inr e).same q4).then_below HB9.out
    refine q1.trans q5 fun k' hk' => ?_
    rcases K3.out k' hk' with e | e
    · exact .inl e
    · right; have := HB1.out.size; simp at e; omega
  · rcases K3.out k' hk' with e | e
    · exact .inl e
    · right; have := HB1.out.size; simp at e; omega
end Go.Proofs.Ytajcelmnblncaaa

/- heap: item.precedes, made, Long, set, swap. -/
import Derived.Test.YtajcelmnblncaaaHeap1
import Derived.RegionTactic
import Derived.ChangeAlike
import Derived.Outline
namespace Go.Proofs.Ytajcelmnblncaaa
open Go.RowKit Go.Maps
open Go.ChangeMaps (setBlock)
attribute [local go_sem] ext_cell ext_frozen extC_cell extC_frozen Mix.calmUpon Mix.mUpon
abbrev itV (x : It) : Value := .agg #[.int .i64 x.1, .int .i64 x.2]
theorem prec_any (a b : It) : Pure Try.prog 123 #[itV a, itV b] (.bool (decide (lt2 a b))) := by
  obtain ⟨a1, a2⟩ := a; obtain ⟨b1, b2⟩ := b
  intro W
  by_cases h1 : a2 < b2
  · rw [decide_eq_true (show lt2 (a1, a2) (b1, b2) from .inl h1)]
    have h1b : decide (a2 < b2) = true := by simpa using h1
    go_enter Try.func123, Try.ntmps123
    go_wp2
    go_ret
    exact ⟨rfl, ba (ba (Below.refl _ _) _) _⟩
  · have h1b : decide (a2 < b2) = false := by simpa using h1
    by_cases h2 : a2 = b2
    · subst h2
      by_cases h3 : a1 < b1
      · rw [decide_eq_true (show lt2 (a1, a2) (b1, a2) from .inr ⟨rfl, h3⟩)]
        have h3b : decide (a1 < b1) = true := by simpa using h3
        clear h1
        go_enter Try.func123, Try.ntmps123
        go_wp2
        go_ret
        exact ⟨rfl, ba (ba (Below.refl _ _) _) _⟩
      · rw [decide_eq_false (show ¬ lt2 (a1, a2) (b1, a2) from fun h => by unfold lt2 at h; simp at h; omega)]
        have h3b : decide (a1 < b1) = false := by simpa using h3
        clear h1
        go_enter Try.func123, Try.ntmps123
        go_wp2
        go_ret
        exact ⟨rfl, ba (ba (Below.refl _ _) _) _⟩
    · rw [decide_eq_false (show ¬ lt2 (a1, a2) (b1, b2) from fun h => by unfold lt2 at h; simp at h; omega)]
      have h2b : (a2 == b2) = false := by simpa using h2
      go_enter Try.func123, Try.ntmps123
      go_wp2
      go_ret
      exact ⟨rfl, ba (ba (Below.refl _ _) _) _⟩
theorem prec_yes {a b : It} (h : lt2 a b) : Pure Try.prog 123 #[itV a, itV b] (.bool true) := by
  have := prec_any a b; rwa [decide_eq_true h] at this
theorem prec_no {a b : It} (h : ¬ lt2 a b) : Pure Try.prog 123 #[itV a, itV b] (.bool false) := by
  have := prec_any a b; rwa [decide_eq_false h] at this
abbrev ptr (hp : Nat) : Value := .pointer (some ⟨hp, 0, none⟩)
section
variable {hp M : Nat} {v : Value} {n : Nat} {g : Nat → It} {f : Int → Option Nat} {s : Int} {w : World}
set_option maxRecDepth 100000 in
theorem made_yes (h : HS w hp M v n g f s) : Calls Try.prog 87 #[ptr hp] w fun e w' => e = .returned (.bool true) ∧ Below w.heap.size w w' := by
  have c1 := h.c1
  have hmn := fun w : World => Go.run_neq_map_nil (P := Try.prog) w 69 _ _ (some M) Try.underlying69
  clear h
  go_enter Try.func87, Try.ntmps87
  go_wp2
  go_ret
  exact ⟨rfl, Below.refl _ _⟩
set_option maxRecDepth 100000 in
theorem long_any (h : HS w hp M v n g f s) : Calls Try.prog 36 #[ptr hp] w fun e w' => e = .returned (.int .i64 n) ∧ Below w.heap.size w w' := by
  obtain ⟨a, cap, rfl, _, _, _⟩ := h.form
  have c0 := h.c0
  clear h
  go_enter Try.func36, Try.ntmps36
  go_wp2
  go_ret
  exact ⟨rfl, Below.refl _ _⟩
theorem put_pm {w : World} {M : Nat} {f : Int → Option Nat} (h : PM w M f) {k : Int} (hk : J64 k) (i : Nat) :
    ∃ w', (Instr.mapUpdate 69 (.map (some M)) (.int .i64 k) (.int .i64 (i : Int))).run Try.prog w = .ok () w' ∧ PM w' M (upd f k (some i)) ∧ w.grownBy w' (some M) := by
  obtain ⟨L, h1, h2⟩ := h
  obtain ⟨o, hrun, h3⟩ := h1.store key64 Try.underlying69 hk (.int .i64 (i : Int))
  refine ⟨_, hrun, ⟨_, h3, fun k' => ?_⟩, grown_setBlock _ _ _⟩
  rw [look_mput, h2]
  unfold upd
  split <;> rfl
theorem HS.setItem (h : HS w hp M v n g f s) {b : Nat} (hv : v.ownBlock = some b) {i : Nat} (hi : i < n) (x : It) (hx : J64 x.1 ∧ J64 x.2) :
    HS ((w.setCell ⟨b, i * 2, none⟩ (.int .i64 x.1)).setCell ⟨b, i * 2 + 1, none⟩ (.int .i64 x.2)) hp M v n (put1 g i x) f s := by
  have hbh : b ≠ hp := fun e => h.vh (by rw [hv, e])
  have hbM : b ≠ M := fun e => h.vM (by rw [hv, e])
  have hc : Chg (fun k => k = b) w ((w.setCell ⟨b, i * 2, none⟩ (.int .i64 x.1)).setCell ⟨b, i * 2 + 1, none⟩ (.int .i64 x.2)) := ((Chg.refl (fun k => k = b) w).setCell (p := ⟨b, i * 2, none⟩) (.inl rfl) _).setCell (p := ⟨b, i * 2 + 1, none⟩) (.inl rfl) _
  refine ⟨by rw [hc.block hp (h.lt hp (.inl rfl)) (fun e => hbh e.symm)]; exact h.obj, ?_, h.map.chg hc (fun e => hbM e.symm), h.vh, h.vM, h.hM, fun j hj => ?_, h.big⟩
  · obtain ⟨hl, hr⟩ := h.own
    refine ⟨ics_len _ _, ?_⟩
    rcases hr with ⟨rfl, rfl⟩ | ⟨b', cap, cur, rfl, h0, hg, h1, h2, h3, h4⟩
    · omega
    · obtain rfl : b' = b := by simpa [Value.ownBlock] using hv
      have hlt : b' < w.heap.size := (Array.getElem?_eq_some_iff.1 hg).1
      refine .inr ⟨b', cap, (cur.setIfInBounds (i * 2) (.int .i64 x.1)).setIfInBounds (i * 2 + 1) (.int .i64 x.2), rfl, h0, ?_, h1, h2, by simp [h3], ?_⟩
      · exact heap_setCell_at _ (heap_setCell_at _ hg)
      · rw [Array.toList_setIfInBounds, Array.toList_setIfInBounds, List.take_set, List.take_set, h4, ics_set g x n i hi]
  · unfold put1
    split
    · exact hx
    · exact h.j64 j hj
set_option maxRecDepth 100000 in
theorem set_any (h : HS w hp M v n g f s) (i : Nat) (hi : i < n) (x : It) (hx : J64 x.1 ∧ J64 x.2) :
    Calls Try.prog 89 #[ptr hp, .int .i64 i, itV x] w fun e w' => e = .returned (.tuple #[]) ∧ HS w' hp M v n (put1 g i x) (upd f x.1 (some i)) s ∧ Chg (hG M v) w w' := by
  obtain ⟨x1, x2⟩ := x
  have H := Lib.hid h
  obtain ⟨a, cap, rfl, hc, hm, hcell⟩ := h.form
  obtain ⟨b, rfl, hb, hbh, hbM, hfz, hat⟩ := hcell (by omega)
  have c0 := h.c0; have c1 := h.c1
  obtain ⟨d0, d1⟩ := hat i hi
  have hl := h.lt hp (.inl rfl)
  have z1 := hfz (i * 2)
  have z2 := hfz (i * 2 + 1)
  have hiI : (i : Int) < (n : Int) := by omega
  clear hcell hat h hfz
  go_enter Try.func89, Try.ntmps89
  go_wp2
  go_region
  have H1 := (((H.out.setItem rfl hi (x1, x2) hx).chg (F := fun _ => False) ((Chg.refl _ _).alloc (.cells #[.int .i64 x1, .int .i64 x2] 148)) (fun _ _ => id)).chg (F := fun _ => False) (Chg.refl _ _).drew (fun _ _ => id))
  have HC := Lib.hid (show Chg (hG M (.slice (some ⟨b, 0, none⟩) n cap)) w ((((w.setCell ⟨b, i * 2, none⟩ (.int .i64 x1)).setCell ⟨b, i * 2 + 1, none⟩ (.int .i64 x2)).alloc (.cells #[.int .i64 x1, .int .i64 x2] 148)).drew) from
    ((((Chg.refl _ _).setCell (.inl (.inr rfl)) _).setCell (.inl (.inr rfl)) _).alloc _).drew)
  have e1 := H1.c1
  have e2 : ((((w.setCell ⟨b, i * 2, none⟩ (.int .i64 x1)).setCell ⟨b, i * 2 + 1, none⟩ (.int .i64 x2)).alloc (.cells #[.int .i64 x1, .int .i64 x2] 148)).drew).cell? ⟨w.heap.size, 0, none⟩ = some (.int .i64 x1) := by simp [go_sem]
  have e3 : w.heap.size < ((((w.setCell ⟨b, i * 2, none⟩ (.int .i64 x1)).setCell ⟨b, i * 2 + 1, none⟩ (.int .i64 x2)).alloc (.cells #[.int .i64 x1, .int .i64 x2] 148)).drew).heap.size := by simp
  have H1 := Lib.hid H1
  go_wp2
  generalize ((((w.setCell ⟨b, i * 2, none⟩ (.int .i64 x1)).setCell ⟨b, i * 2 + 1, none⟩ (.int .i64 x2)).alloc (.cells #[.int .i64 x1, .int .i64 x2] 148)).drew) = w1 at *
  have e4 := H1.out.lt hp (.inl rfl)
  have e5 := H1.out.hM
  have e6 : w.heap.size ≠ M := fun e => by have := H.out.lt M (.inr (.inl rfl)); omega
  refine Mix.regionC (fun k => k = M) (by kernel_rfl) ?_
  intro w2 hb2
  refine Mix.take_exC _ _ 0 rfl (by kernel_rfl) (by kernel_rfl) (by kernel_rfl) (by kernel_rfl) (fun K hK => ?_)
  go_simp
  first | (refine hK _ ?_; clear hK K) | (apply Exists.intro; refine ⟨fun x => ?_, hK _ ?_⟩; (fail); clear hK K)
  refine Mix.take_exC _ _ 1 rfl (by kernel_rfl) (by kernel_rfl) (by kernel_rfl) (by kernel_rfl) (fun K hK => ?_)
  go_simp
  first | (refine hK _ ?_; clear hK K) | (apply Exists.intro; refine ⟨fun x => ?_, hK _ ?_⟩; (fail); clear hK K)
  refine Mix.take_exC _ _ 2 rfl (by kernel_rfl) (by kernel_rfl) (by kernel_rfl) (by kernel_rfl) (fun K hK => ?_)
  go_simp
  first | (refine hK _ ?_; clear hK K) | (apply Exists.intro; refine ⟨fun x => ?_, hK _ ?_⟩; (fail); clear hK K)
  refine Mix.take_exC _ _ 3 rfl (by kernel_rfl) (by kernel_rfl) (by kernel_rfl) (by kernel_rfl) (fun K hK => ?_)
  go_simp
  first | (refine hK _ ?_; clear hK K) | (apply Exists.intro; refine ⟨fun x => ?_, hK _ ?_⟩; (fail); clear hK K)
  refine Mix.take_exC _ _ 4 rfl (by kernel_rfl) (by kernel_rfl) (by kernel_rfl) (by kernel_rfl) (fun K hK => ?_)
  go_simp
  first | (refine hK _ ?_; clear hK K) | (apply Exists.intro; refine ⟨fun x => ?_, hK _ ?_⟩; (fail); clear hK K)
  refine Mix.take_exC _ _ 5 rfl (by kernel_rfl) (by kernel_rfl) (by kernel_rfl) (by kernel_rfl) (fun K hK => ?_)
  go_simp
  first | (refine hK _ ?_; clear hK K) | (apply Exists.intro; refine ⟨fun x => ?_, hK _ ?_⟩; (fail); clear hK K)
  refine Mix.take_exC _ _ 6 rfl (by kernel_rfl) (by kernel_rfl) (by kernel_rfl) (by kernel_rfl) (fun K hK => ?_)
  go_simp
  first | (refine hK _ ?_; clear hK K) | (apply Exists.intro; refine ⟨fun x => ?_, hK _ ?_⟩; (fail); clear hK K)
  refine Mix.all (rs := [7]) (by kernel_rfl) (by simp) (.of_below _ hb2) ?_
  intro i7 hi7 w7 hb7 hC7
  simp only [List.mem_cons, List.not_mem_nil, or_false] at hi7
  subst hi7
  clear hC7
  obtain ⟨w4, hrun, hpm, hgr⟩ := put_pm (H1.out.map.chg (.of_below (fun _ => False) (bt hb2 hb7)) id) hx.1 i
  refine Mix.op rfl (by kernel_rfl) ?_
  have HP4 := Lib.hid hpm
  have HC4 := Lib.hid (show Chg (fun k => k = M) w1 w4 from (Chg.of_below _ (bt hb2 hb7)).same (.of_grown hgr fun k e => by cases e; rfl))
  clear hpm hgr hb2 hb7
  go_simp
  refine Mix.done (by kernel_rfl) HC4.out ?_
  intro w5 hb5
  have HB5 := Lib.hid hb5
  clear hb5 hrun
  go_wp2
  go_end0
  have H4 := H1.out
  have hc := HC4.out.then_below HB5.out
  refine ⟨rfl, ?_, HC.out.same (hc.mono fun k e => .inl e)⟩
  refine ⟨by rw [hc.block hp e4 e5]; exact H4.obj, ownsRow_chg H4.own hc fun k e => by cases e; exact hbM, (HP4.out.chg (.of_below (fun _ => False) HB5.out) id), H4.vh, H4.vM, H4.hM, H4.j64, H4.big⟩
end
end Go.Proofs.Ytajcelmnblncaaa

/- heap: Put. -/
import Derived.Test.YtajcelmnblncaaaHeap5
namespace Go.Proofs.Ytajcelmnblncaaa
open Go.RowKit Go.Maps
attribute [local go_sem] ext_cell ext_frozen extC_cell extC_frozen Mix.calmUpon Mix.mUpon
section
variable {hp M : Nat} {v : Value} {n : Nat} {g : Nat → It} {f : Int → Option Nat} {s : Int} {w : World}
theorem HS.setAt (h : HS w hp M v n g f s) {b : Nat} (hv : v.ownBlock = some b) {i : Nat} (hi : i < n) (t : Int) (ht : J64 t) :
    HS (w.setCell ⟨b, i * 2 + 1, none⟩ (.int .i64 t)) hp M v n (put1 g i ((g i).1, t)) f s := by
  have hbh : b ≠ hp := fun e => h.vh (by rw [hv, e])
  have hbM : b ≠ M := fun e => h.vM (by rw [hv, e])
  have hc : Chg (fun k => k = b) w (w.setCell ⟨b, i * 2 + 1, none⟩ (.int .i64 t)) := (Chg.refl (fun k => k = b) w).setCell (p := ⟨b, i * 2 + 1, none⟩) (.inl rfl) _
  refine ⟨by rw [hc.block hp (h.lt hp (.inl rfl)) (fun e => hbh e.symm)]; exact h.obj, ?_, h.map.chg hc (fun e => hbM e.symm), h.vh, h.vM, h.hM, fun j hj => ?_, h.big⟩
  · obtain ⟨hl, hr⟩ := h.own
    refine ⟨ics_len _ _, ?_⟩
    rcases hr with ⟨rfl, rfl⟩ | ⟨b', cap, cur, rfl, h0, hg, h1, h2, h3, h4⟩
    · omega
    · obtain rfl : b' = b := by simpa [Value.ownBlock] using hv
      refine .inr ⟨b', cap, cur.setIfInBounds (i * 2 + 1) (.int .i64 t), rfl, h0, heap_setCell_at _ hg, h1, h2, by simp [h3], ?_⟩
      rw [Array.toList_setIfInBounds, List.take_set, h4]
      have e := ics_set g ((g i).1, t) n i hi
      rw [← e]
      congr 1
      refine (List.ext_getElem? fun j => ?_)
      rw [List.getElem?_set]
      split
      · rename_i hj; subst hj
        rw [if_pos (by rw [ics_len]; omega), (ics_at g n i hi).1]
      · rfl
  · unfold put1
    split
    · exact ⟨(h.j64 i hi).1, ht⟩
    · exact h.j64 j hj
theorem PosOK.retime {n : Nat} {g : Nat → It} {f : Int → Option Nat} (h : PosOK n g f) (i : Nat) (t : Int) : PosOK n (put1 g i ((g i).1, t)) f := by
  have e : ∀ j, (put1 g i ((g i).1, t) j).1 = (g j).1 := fun j => by
    unfold put1; split
    · rename_i hj; rw [hj]
    · rfl
  exact ⟨fun j hj => by rw [e]; exact h.at_ j hj, fun k j hk => by rw [e]; exact h.of_ k j hk⟩
theorem con_retime {n : Nat} {g : Nat → It} {f : Int → Option Nat} (h : PosOK n g f) {i : Nat} (hi : i < n) (t : Int) : con (put1 g i ((g i).1, t)) f = updC (con g f) (g i).1 (some t) := by
  funext k
  unfold con updC
  by_cases hk : k = (g i).1
  · subst hk; rw [if_pos rfl, h.at_ i hi]; simp [put1]
  · rw [if_neg hk]
    show (f k).map (fun i' => (put1 g i ((g i).1, t) i').2) = (f k).map fun i => (g i).2
    cases hf : f k with
    | none => rfl
    | some j =>
      have hj := (h.of_ k j hf).2
      simp only [Option.map_some, Option.some.injEq]
      unfold put1
      rw [if_neg fun e => hk (by rw [← hj, e])]
theorem PM.look (h : PM w M f) {k : Int} (hk : J64 k) (c : Bool) : (Instr.lookup 69 (.map (some M)) (.int .i64 k) c).run Try.prog w =
    .ok (if c then .tuple #[.int .i64 (((f k).getD 0 : Nat) : Int), .bool (f k).isSome] else .int .i64 (((f k).getD 0 : Nat) : Int)) w := by
  obtain ⟨L, h1, h2⟩ := h
  have hz : (zeroValue 3).run Try.prog w = .ok (.int .i64 0) w := by kernel_rfl
  have := h1.look key64 Try.underlying69 hz (x := k) hk c
  rw [h2] at this
  refine this.trans ?_
  cases f k <;> rfl
end
set_option maxRecDepth 100000 in
theorem put_old {w : World} {hp : Nat} {F : Nat → Prop} {n : Nat} {C : Int → Option Int} {s : Int} (h : HO w hp F n C s) (k t t0 : Int) (hk : J64 k) (ht : J64 t) (hC : C k = some t0) :
    Calls Try.prog 38 #[ptr hp, .int .i64 k, .int .i64 t] w fun e w' => ∃ F', e = .returned (.bool false) ∧ HM w w' hp F F' n (updC C k (some t)) s := by
  obtain ⟨M, v, g, f, hs, pos, hh, rfl, rfl⟩ := h
  obtain ⟨i, hf, hi, hgk⟩ : ∃ i, f k = some i ∧ i < n ∧ (g i).1 = k := by
    unfold con at hC
    cases hf : f k with
    | none => rw [hf] at hC; cases hC
    | some i => exact ⟨i, rfl, pos.of_ k i hf⟩
  have H := Lib.hid hs; have HP := Lib.hid pos; have HH := Lib.hid hh
  obtain ⟨a, cap, rfl, hc, hm, hcell⟩ := hs.form
  obtain ⟨b, rfl, hb, hbh, hbM, hfz, hat⟩ := hcell (by omega)
  have hiI : (i : Int) < (n : Int) := by omega
  have hbig := hs.big
  have HK := Lib.hid hgk
  clear hcell hs pos hh hC hfz hat hgk
  go_enter Try.func38, Try.ntmps38
  go_wp2_with fail
  refine (made_yes H.out).mono ?_
  rintro e w1 ⟨rfl, hb1⟩
  have HB1 := Lib.hid hb1
  have H1 := Lib.hid (H.out.below hb1)
  have hlook := H1.out.map.look hk true
  rw [hf] at hlook
  simp only [Option.getD_some, Option.isSome_some, if_true] at hlook
  have c0 := H1.out.c0; have c1 := H1.out.c1
  obtain ⟨a', cap', e', _, _, hcell⟩ := H1.out.form
  cases e'
  obtain ⟨b', e', hb', _, _, hfz, hat⟩ := hcell (by omega)
  cases e'
  obtain ⟨d0, d1⟩ := hat i hi
  have z1 := hfz (i * 2 + 1)
  clear hcell hfz hat hb1 hf
  go_wp2_with fail
  have H2 := Lib.hid (H1.out.setAt (b := b) rfl hi t ht)
  have HN := Lib.hid (Hp.but HH.out hi ((g i).1, t))
  refine (settle_any H2.out (HP.out.retime i t) i hi HN.out).mono ?_
  rintro e w3 ⟨j, j2, g', f', rfl, HMV, hh', _, _⟩
  have HMV := Lib.hid HMV
  have HH' := Lib.hid hh'
  clear hh' c0 c1 d0 d1 z1 hlook
  go_wp2
  go_ret
  refine ⟨_, rfl, ⟨M, _, g', f', HMV.out.hs, HMV.out.pos, HH'.out, ?_, rfl⟩, ?_, fun k' h => .inl h⟩
  · rw [HMV.out.con, con_retime HP.out hi, HK.out]
  · have c1 : Chg (hF hp M (.slice (some ⟨b, 0, none⟩) n cap)) w1 (w1.setCell ⟨b, i * 2 + 1, none⟩ (.int .i64 t)) := (Chg.refl _ _).setCell (p := ⟨b, i * 2 + 1, none⟩) (.inl (.inr (.inr rfl))) _
    exact ((Chg.of_below _ HB1.out).same c1).same (HMV.out.chg.mono fun k' e => .inr e)
end Go.Proofs.Ytajcelmnblncaaa

/- alarm: unname, Drop. -/
import Derived.Test.YtajcelmnblncaaaAl2
namespace Go.Proofs.Ytajcelmnblncaaa
open Go.RowKit Go.Maps Go.WideMaps
open Go.ChangeMaps (setBlock)
attribute [local go_sem] ext_cell ext_frozen extC_cell extC_frozen Mix.calmUpon Mix.mUpon
section
variable {w w' : World} {ap hp Mn Mk : Nat} {last : Int} {Ln : List (Ky × Value)} {Lk : List (Int × Value)} {F F' : Nat → Prop} {l : List It} {s s' : Int} {R : List Rc} {G : Nat → Prop} {c : Nat}
set_option maxRecDepth 100000 in
set_option maxHeartbeats 1000000 in
theorem unname_raw {v0 v3 : Value} (obj : w.heap[ap]? = some (.cells #[v0, .map (some Mn), .map (some Mk), v3] 99 (0, 0))) (nm : MapK K3 w Mn Ln) (km : MapK K64 w Mk Lk) (h1 : ap ≠ Mn) (h2 : ap ≠ Mk) (h3 : Mn ≠ Mk) {n : Int} (hn : J64 n) {k : Ky} (hk : KOk k) (hlk : Lk.lookup n = some (kval k)) :
    Calls Try.prog 97 #[ptr ap, .int .i64 n] w fun e w' => e = .returned (.tuple #[]) ∧ MapK K3 w' Mn (mdel Ln k) ∧ MapK K64 w' Mk (mdel Lk n) ∧ Chg (fun q => q = Mn ∨ q = Mk) w w' ∧
      ∀ it todo, MapI K3 w Mn it Ln todo → it ≠ Mk → MapI K3 w' Mn it (mdel Ln k) (todo.filter fun p => decide (p.1 ≠ k)) := by
  have NM := Lib.hid nm; have KM := Lib.hid km; have OBJ := Lib.hid obj
  have c1 : w.cell? ⟨ap, 1, none⟩ = some (.map (some Mn)) := by simp [World.cell?, obj]
  have c2 : w.cell? ⟨ap, 2, none⟩ = some (.map (some Mk)) := by simp [World.cell?, obj]
  have hl : ap < w.heap.size := (Array.getElem?_eq_some_iff.1 obj).1
  have HL := Lib.hid hlk
  have nf : ap ≠ Mn := h1
  have HH := Lib.hid (show ap ≠ Mn ∧ ap ≠ Mk ∧ Mn ≠ Mk from ⟨h1, h2, h3⟩)
  clear nm km obj hlk h1 h2 h3
  go_enter Try.func97, Try.ntmps97
  go_wp2
  refine Mix.regionC (fun q => q = Mn) (by kernel_rfl) ?_
  intro w1 hb1
  refine Mix.take_exC _ _ 0 rfl (by kernel_rfl) (by kernel_rfl) (by kernel_rfl) (by kernel_rfl) (fun K hK => ?_)
  go_simp
  first | (refine hK _ ?_; clear hK K) | (apply Exists.intro; refine ⟨fun x => ?_, hK _ ?_⟩; (fail); clear hK K)
  refine Mix.take_exC _ _ 1 rfl (by kernel_rfl) (by kernel_rfl) (by kernel_rfl) (by kernel_rfl) (fun K hK => ?_)
  go_simp
  first | (refine hK _ ?_; clear hK K) | (apply Exists.intro; refine ⟨fun x => ?_, hK _ ?_⟩; (fail); clear hK K)
  refine Mix.take_exC _ _ 2 rfl (by kernel_rfl) (by kernel_rfl) (by kernel_rfl) (by kernel_rfl) (fun K hK => ?_)
  go_simp
  first | (refine hK _ ?_; clear hK K) | (apply Exists.intro; refine ⟨fun x => ?_, hK _ ?_⟩; (fail); clear hK K)
  refine Mix.take_exC _ _ 3 rfl (by kernel_rfl) (by kernel_rfl) (by kernel_rfl) (by kernel_rfl) (fun K hK => ?_)
  go_simp
  first | (refine hK _ ?_; clear hK K) | (apply Exists.intro; refine ⟨fun x => ?_, hK _ ?_⟩; (fail); clear hK K)
  refine Mix.take_exC _ _ 4 rfl (by kernel_rfl) (by kernel_rfl) (by kernel_rfl) (by kernel_rfl) (fun K hK => ?_)
  go_simp
  first | (refine hK _ ?_; clear hK K) | (apply Exists.intro; refine ⟨fun x => ?_, hK _ ?_⟩; (fail); clear hK K)
  refine Mix.take_exC _ _ 5 rfl (by kernel_rfl) (by kernel_rfl) (by kernel_rfl) (by kernel_rfl) (fun K hK => ?_)
  go_simp
  first | (refine hK _ ?_; clear hK K) | (apply Exists.intro; refine ⟨fun x => ?_, hK _ ?_⟩; (fail); clear hK K)
  refine Mix.take_exC _ _ 6 rfl (by kernel_rfl) (by kernel_rfl) (by kernel_rfl) (by kernel_rfl) (fun K hK => ?_)
  go_simp
  first | (refine hK _ ?_; clear hK K) | (apply Exists.intro; refine ⟨fun x => ?_, hK _ ?_⟩; (fail); clear hK K)
  refine Mix.take_exC _ _ 7 rfl (by kernel_rfl) (by kernel_rfl) (by kernel_rfl) (by kernel_rfl) (fun K hK => ?_)
  go_simp
  first | (refine hK _ ?_; clear hK K) | (apply Exists.intro; refine ⟨fun x => ?_, hK _ ?_⟩; (fail); clear hK K)
  refine Mix.take_exC _ _ 8 rfl (by kernel_rfl) (by kernel_rfl) (by kernel_rfl) (by kernel_rfl) (fun K hK => ?_)
  go_simp
  first | (refine hK _ ?_; clear hK K) | (apply Exists.intro; refine ⟨fun x => ?_, hK _ ?_⟩; (fail); clear hK K)
  refine Mix.all (rs := [9]) (by kernel_rfl) (by simp) (.of_below _ hb1) ?_
  intro i2 hi2 w2 hb2 hC2
  simp only [List.mem_cons, List.not_mem_nil, or_false] at hi2
  subst hi2
  have HB2 := Lib.hid (bt hb1 hb2)
  clear hC2 hb1 hb2
  have hlook : (Instr.lookup 97 (.map (some Mk)) (.int .i64 n) false).run Try.prog w2 = .ok (.agg #[.int .i64 k.1, .int .i64 k.2.1, .int .i64 k.2.2]) w2 := by
    have hz : (zeroValue 79).run Try.prog w2 = .ok (kval (0, 0, 0)) w2 := Try.zeroValue79 w2
    have := (KM.out.below HB2.out KM.out.lt).look key64 Try.underlying97 hz (x := n) hn false
    rw [HL.out] at this
    exact this.trans (by simp)
  refine Mix.op rfl (by kernel_rfl) ?_
  go_simp
  refine Mix.all (rs := [10]) (by kernel_rfl) (by simp) (.of_below _ HB2.out) ?_
  intro i3 hi3 w3 hb3 hC3
  simp only [List.mem_cons, List.not_mem_nil, or_false] at hi3
  subst hi3
  have HB3 := Lib.hid (bt HB2.out hb3)
  clear hC3 hb3 hlook
  obtain ⟨o4, hrun, nm4⟩ := (NM.out.below HB3.out NM.out.lt).drop lawKey Try.underlying96 0 hk
  replace hrun : (Builtin.delete_ #[96, 79] 0 #[.map (some Mn), .agg #[.int .i64 k.1, .int .i64 k.2.1, .int .i64 k.2.2]]).run Try.prog w3 = .ok (.tuple #[]) (setBlock w3 Mn o4) := hrun
  have HC4 := Lib.hid (show Chg (fun q => q = Mn) w (setBlock w3 Mn o4) from (Chg.of_below _ HB3.out).same (.of_grown (grown_setBlock w3 Mn o4) fun q e => by cases e; rfl))
  have NM4 := Lib.hid nm4
  have HIT := Lib.hid (show ∀ it todo, MapI K3 w Mn it Ln todo → MapI K3 (setBlock w3 Mn o4) Mn it (mdel Ln k) (todo.filter fun p => decide (p.1 ≠ k)) from fun it todo hI => by
    obtain ⟨o', hr', hI'⟩ := (hI.below HB3.out).drop lawKey Try.underlying96 0 hk
    have e := hrun.symm.trans hr'
    injection e with _ e
    rw [e]; exact hI')
  clear nm4
  refine Mix.op rfl (by kernel_rfl) ?_
  go_simp
  clear hrun
  generalize setBlock w3 Mn o4 = w4 at *
  refine Mix.done (by kernel_rfl) HC4.out ?_
  intro w5 hb5
  have HC5 := Lib.hid (HC4.out.then_below hb5)
  have NM5 := Lib.hid (NM4.out.below hb5 NM4.out.lt)
  have KM5 := Lib.hid (KM.out.chg HC5.out fun e => HH.out.2.2 e.symm)
  have OBJ5 := Lib.hid ((HC5.out.block ap hl HH.out.1).trans OBJ.out)
  have HIT5 := Lib.hid (show ∀ it todo, MapI K3 w Mn it Ln todo → MapI K3 w5 Mn it (mdel Ln k) (todo.filter fun p => decide (p.1 ≠ k)) from fun it todo hI => (HIT.out it todo hI).below hb5)
  clear hb5 c1 c2 hl nf
  have obj5 := OBJ5.out
  have c2 : w5.cell? ⟨ap, 2, none⟩ = some (.map (some Mk)) := by simp [World.cell?, obj5]
  have hl : ap < w5.heap.size := (Array.getElem?_eq_some_iff.1 obj5).1
  obtain ⟨o6, hrun, km6⟩ := KM5.out.drop key64 Try.underlying97 0 hn
  replace hrun : (Builtin.delete_ #[97, 2] 0 #[.map (some Mk), .int .i64 n]).run Try.prog w5 = .ok (.tuple #[]) (setBlock w5 Mk o6) := hrun
  have HC6 := Lib.hid (show Chg (fun q => q = Mk) w5 (setBlock w5 Mk o6) from .of_grown (grown_setBlock w5 Mk o6) fun q e => by cases e; rfl)
  have KM6 := Lib.hid km6
  clear km6 obj5
  go_wp2
  go_end0
  refine ⟨rfl, NM5.out.chg HC6.out HH.out.2.2, KM6.out, (HC5.out.mono fun q e => .inl e).same (HC6.out.mono fun q e => .inr e), fun it todo hI hne => (HIT5.out it todo hI).chg HC6.out HH.out.2.2 hne⟩
theorem AO.del (h : AO w ap hp Mn Mk last Ln Lk F l s R) {k : Ky} {y : Rc} (hk : fK R k = some y)
    (obj : w'.heap[ap]? = some (.cells #[ptr hp, .map (some Mn), .map (some Mk), .int .i64 last] 99 (0, 0))) (nm : MapK K3 w' Mn (mdel Ln k)) (km : MapK K64 w' Mk (mdel Lk y.num))
    (hl : HL w' hp F' (ldel l y.num) s') (nf : ¬ F' ap ∧ ¬ F' Mn ∧ ¬ F' Mk) :
    AO w' ap hp Mn Mk last (mdel Ln k) (mdel Lk y.num) F' (ldel l y.num) s' (dK R k) := by
  obtain ⟨hym, hyk⟩ := Srt.fnd_mem hk
  have hfn := h.ri.fnum hym
  have hlo : Lof l y.num = some y.at_ := by rw [h.lo, hfn]; rfl
  refine ⟨obj, nm, km, hl, fun k' => ?_, fun n => ?_, fun n => ?_, ?_, h.ri.del k, fun x hx => h.rng x (Srt.mem_del.1 hx).1, h.ds, nf⟩
  · have e1 : lkK (mdel Ln k) k' = if k' = k then none else lkK Ln k' := look_mdel Ln k k'
    rw [e1, h.ln, show fK (dK R k) k' = _ from Srt.fnd_del R k k']
    by_cases e : k' = k
    · rw [if_pos e, if_pos e]; rfl
    · rw [if_neg e, if_neg e]
  · rw [look_mdel, h.lk, h.ri.fn_del hk n]
    by_cases e : n = y.num
    · rw [if_pos e, if_pos e]; rfl
    · rw [if_neg e, if_neg e]
  · rw [lof_del, h.lo, h.ri.fn_del hk n]
    by_cases e : n = y.num
    · rw [if_pos e, if_pos e]; rfl
    · rw [if_neg e, if_neg e]
  · have h1 := ldel_len h.hl.1 hlo
    have h2 : (dK R k).length + 1 = R.length := Srt.del_len h.ri.srt hk
    have := h.len
    omega
/-- What a dropping leaves, the blocks told. -/
def ADR (w : World) (ap hp Mn Mk : Nat) (last : Int) (Ln : List (Ky × Value)) (F : Nat → Prop) (s : Int) (R : List Rc) (k : Ky) (e : Ending) (w' : World) : Prop :=
  e = .returned (.bool (fK R k).isSome) ∧ ∃ Ln' Lk' F' l' s', AO w' ap hp Mn Mk last Ln' Lk' F' l' s' (dK R k) ∧ Chg (AG ap Mn Mk F) w w' ∧ (∀ q, F' q → F q ∨ w.heap.size ≤ q) ∧ s ≤ s' ∧ s' ≤ s + 34 ∧
    ∀ it todo, MapI K3 w Mn it Ln todo → ¬ AG ap Mn Mk F it → MapI K3 w' Mn it Ln' (todo.filter fun p => decide (p.1 ≠ k))
set_option maxRecDepth 100000 in
set_option maxHeartbeats 2000000 in
theorem drop_raw (h : AO w ap hp Mn Mk last Ln Lk F l s R) (hbd : Bd last s R.length c) {k : Ky} (hk : KOk k) : Calls Try.prog 93 #[ptr ap, kval k] w (ADR w ap hp Mn Mk last Ln F s R k) := by
  have H := Lib.hid h
  have HD := Lib.hid hbd
  have HB0 := Lib.hid (show Below w.heap.size w (w.alloc (.cells #[.int .i64 k.1, .int .i64 k.2.1, .int .i64 k.2.2] 79)) from ba (Below.refl _ _) _)
  have HK0 := Lib.hid (KB.made w k)
  have HAS := Lib.hid (show AS w ap (AG ap Mn Mk F) R c from ⟨hp, Mn, Mk, last, Ln, Lk, F, l, s, h, rfl, hbd⟩)
  clear h hbd
  go_enter Try.func93, Try.ntmps93
  go_wp2_with fail
  generalize w.alloc (.cells #[.int .i64 k.1, .int .i64 k.2.1, .int .i64 k.2.2] 79) = w1 at *
  refine (amade (HAS.out.below HB0.out)).mono ?_
  rintro e w2 ⟨rfl, hb2⟩
  have HB2 := Lib.hid (bt HB0.out hb2)
  have HK2 := Lib.hid (HK0.out.below hb2)
  obtain ⟨x0, x1, x2⟩ := HK2.out.cells
  have hs2 := HK2.out.lt
  have H2 := Lib.hid (H.out.below HB2.out)
  have c0 := H2.out.c0; have c1 := H2.out.c1
  have hl := H2.out.lt ap (.inl rfl)
  clear hb2
  have hlook := (H2.out.below (bd (Below.refl _ _))).find hk true
  have HB3 := Lib.hid (show Below w.heap.size w w2.drew from bd HB2.out)
  have H3 := Lib.hid (H2.out.below (bd (Below.refl _ _)))
  cases hf : fK R k with
  | none =>
    rw [hf] at hlook
    replace hlook := hlook.trans (show _ = .ok (.tuple #[.int .i64 0, .bool false]) w2.drew from rfl)
    have HF := Lib.hid hf
    clear hf
    go_wp2
    go_region
    clear x0 x1 x2 hs2 c0 c1 hl hlook
    generalize w2.drew = w3 at *
    go_wp2
    go_ret
    have hdR : dK R k = R := Srt.del_same HF.out
    refine ⟨by rw [HF.out]; rfl, Ln, Lk, F, l, s, by rw [hdR]; exact H3.out, .of_below _ HB3.out, fun q hq => .inl hq, Int.le_refl _, by omega, fun it todo hI _ => ?_⟩
    have : (todo.filter fun p => decide (p.1 ≠ k)) = todo := List.filter_eq_self.2 fun p hp => by
      have hm := hI.mem p hp
      have hn : lkK Ln k = none := by rw [H.out.ln, HF.out]; rfl
      simpa using look_none.1 hn p hm
    rw [this]; exact hI.below HB3.out
  | some y =>
    rw [hf] at hlook
    replace hlook := hlook.trans (show _ = .ok (.tuple #[.int .i64 y.num, .bool true]) w2.drew from rfl)
    have hym := (Srt.fnd_mem hf).1
    have HYK := Lib.hid (Srt.fnd_mem hf).2
    have HN := Lib.hid (num64 H2.out HD.out hym)
    have HLO := Lib.hid (show Lof l y.num = some y.at_ by rw [H2.out.lo, H2.out.ri.fnum hym]; rfl)
    have HLK := Lib.hid (show Lk.lookup y.num = some (kval k) by rw [H2.out.lk, H2.out.ri.fnum hym, ← (Srt.fnd_mem hf).2]; rfl)
    have HF := Lib.hid hf
    clear hym hf
    go_wp2
    go_region
    clear x0 x1 x2 hs2 c0 c1 hl hlook
    generalize w2.drew = w3 at *
    have c0 := H3.out.c0
    have hl := H3.out.lt ap (.inl rfl)
    go_wp2_with fail
    refine (hdrop H3.out.hl y.num HN.out HD.out.s0 (by have := HD.out.s1; have := HD.out.c1; omega)).mono ?_
    rintro e w4 ⟨rfl, F4, d, h4, c4, n4, l4⟩
    have hnf := H3.out.nf
    have hlt3 := H3.out.lt
    have OBJ4 := Lib.hid (show w4.heap[ap]? = some (.cells #[ptr hp, .map (some Mn), .map (some Mk), .int .i64 last] 99 (0, 0)) by rw [c4.block ap (hlt3 ap (.inl rfl)) hnf.1]; exact H3.out.obj)
    have NM4 := Lib.hid (H3.out.nm.chg c4 hnf.2.1)
    have KM4 := Lib.hid (H3.out.km.chg c4 hnf.2.2)
    have HC4 := Lib.hid c4; have HH4 := Lib.hid h4; have HN4 := Lib.hid n4; have HL4 := Lib.hid l4
    clear h4 c4 n4 l4 hnf hlt3 c0 hl
    go_wp2_with fail
    refine (unname_raw OBJ4.out NM4.out KM4.out H3.out.ds.1 H3.out.ds.2.1 H3.out.ds.2.2 HN.out hk HLK.out).mono ?_
    rintro e w5 ⟨rfl, nm5, km5, c5, it5⟩
    have HC5 := Lib.hid c5; have NM5 := Lib.hid nm5; have KM5 := Lib.hid km5; have IT5 := Lib.hid it5
    clear nm5 km5 c5 it5
    go_wp2
    go_ret
    have hnf := H3.out.nf
    have hds := H3.out.ds
    have hlt3 := H3.out.lt
    have hF4 : ∀ q, AG ap Mn Mk F q → ¬ F q → ¬ F4 q := fun q hq hn e => by
      rcases HN4.out q e with e | e
      · exact hn e
      · have := hlt3 q hq; omega
    have nap := hF4 ap (.inl rfl) hnf.1
    have nMn := hF4 Mn (.inr (.inl rfl)) hnf.2.1
    have nMk := hF4 Mk (.inr (.inr (.inl rfl))) hnf.2.2
    have hap4 := (Array.getElem?_eq_some_iff.1 OBJ4.out).1
    have hA := H3.out.del HF.out ((HC5.out.block ap hap4 (fun e => by rcases e with e | e; exact hds.1 e; exact hds.2.1 e)).trans OBJ4.out) NM5.out KM5.out (HH4.out.chg HC5.out fun q hq e => by rcases e with e | e; (rw [e] at hq; exact nMn hq); (rw [e] at hq; exact nMk hq)) ⟨nap, nMn, nMk⟩
    have hd := HL4.out
    have h34 := lg34 (n := l.length) (by have := H3.out.len; have := HD.out.n1; have := HD.out.c1; omega)
    refine ⟨by rw [HF.out]; rfl, _, _, F4, _, _, hA, ((Chg.of_below _ HB3.out).same (HC4.out.mono fun q e => .inr (.inr (.inr e)))).same (HC5.out.mono fun q e => e.elim (fun e => .inr (.inl e)) fun e => .inr (.inr (.inl e))), fun q hq => (HN4.out q hq).imp_right fun e => by have := HB3.out.size; omega, by omega, by omega, fun it todo hI hne => ?_⟩
    exact IT5.out it todo ((hI.below HB3.out).chg HC4.out hnf.2.1 fun e => hne (.inr (.inr (.inr e)))) fun e => hne (.inr (.inr (.inl e)))
end
end Go.Proofs.Ytajcelmnblncaaa

/- Texts laid together: So4,So5,So6,So7. -/
import Derived.Test.YtgfjmafdfbghnaaGreatSgK
namespace Go.Proofs.YtgfjmafdfbghnaaGreat
section
open Go.RowKit Go.Maps
attribute [local go_sem] ext_cell ext_frozen extC_cell extC_frozen Mix.calmUpon Mix.mUpon
section
variable {w w' : World} {sp M tp b : Nat} {T : Nat → Int} {G : Int → Option Cl} {L : List Pl} {c : Cl} {i : Int} {F : Nat → Prop}
theorem SO.chg (h : SO w sp T M tp) (hc : Chg F w w') (hf : ¬ F sp) : SO w' sp T M tp := (hc.block _ h.lt hf).trans h
theorem CK.chg (h : CK w b c) (hc : Chg F w w') (hf : ¬ F b) : CK w' b c := (hc.block _ h.lt hf).trans h
theorem MapF.obj {f : Int → Option Cl} (h : MapF K64 w M f (fun c => clv c)) : ∃ es k, w.heap[M]? = some (.map es k) := by obtain ⟨L, ⟨es, k, hb, _⟩, _⟩ := h; exact ⟨es, k, hb⟩
theorem SM.ne (h : SM w sp M tp T G L) : sp ≠ M ∧ sp ≠ tp ∧ M ≠ tp := by
  obtain ⟨es, k, hm⟩ := h.m.obj
  obtain ⟨cc, ht⟩ := h.t.obj
  have ho := h.o
  unfold SO at ho
  refine ⟨fun e => ?_, fun e => ?_, fun e => ?_⟩
  · subst e; rw [hm] at ho; cases ho
  · subst e; rw [ho] at ht; injection ht with ht; injection ht with _ ht; cases ht
  · subst e; rw [hm] at ht; cases ht
theorem SM.nonodeM (h : SM w sp M tp T G L) : NoNode (fun b => b = M) w := fun b hb cs e => by
  obtain ⟨es, k, hm⟩ := h.m.obj
  have hb : b = M := hb
  subst hb
  rw [hm] at e; cases e
theorem SM.nonodeS (h : SM w sp M tp T G L) : NoNode (fun b => b = sp) w := fun b hb cs e => by
  have ho := h.o
  have hb : b = sp := hb
  subst hb
  unfold SO at ho
  rw [ho] at e; injection e with e; injection e with _ e; cases e
/-- What a call that changes the clients leaves. -/
def SPo (sp M tp : Nat) (T : Nat → Int) (G' : Int → Option Cl) (L' : List Pl) (w : World) (e : Ending) (w' : World) : Prop := e = .returned (.tuple #[]) ∧ SM w' sp M tp T G' L' ∧ Chg (SF sp M tp) w w'
set_option maxRecDepth 100000 in
set_option maxHeartbeats 1000000 in
theorem sunset_none (h : SM w sp M tp T G L) (hi : I64 i) (hg : G i = none) : Calls Tryz.prog 81 #[ptr sp, .int .i64 i] w (SPo sp M tp T G L w) := by
  have hlook := h.look hi true
  rw [hg] at hlook
  replace hlook := hlook.trans (show _ = .ok (.tuple #[.agg #[.int .i64 0, .int .i64 0, .int .i64 0, .int .i64 0, .int .i64 0, .bool false], .bool false]) w from rfl)
  obtain ⟨x0, x1, x2, x3, x4, x5⟩ := h.o.cells
  have xs := h.o.lt
  have H := Lib.hid h
  clear h hi hg
  go_enter Tryz.func81, Tryz.ntmps81
  go_wp2
  go_end0
  exact ⟨rfl, H.out.below (ba (Below.refl _ _) _), .of_below _ (ba (Below.refl _ _) _)⟩
set_option maxRecDepth 100000 in
set_option maxHeartbeats 1000000 in
theorem sunset_some (h : SM w sp M tp T G L) (h9 : S9 T G L) (hi : I64 i) (hg : G i = some c) (hl : L.length < 1000000) : Calls Tryz.prog 81 #[ptr sp, .int .i64 i] w (SPo sp M tp T (upd G i none) (delL (plOf T i c) L) w) := by
  have hlook := h.look hi true
  rw [hg] at hlook
  replace hlook := hlook.trans (show _ = .ok (.tuple #[clv c, .bool true]) w from rfl)
  obtain ⟨x0, x1, x2, x3, x4, x5⟩ := h.o.cells
  have xs := h.o.lt
  have hb1 := ba (Below.refl w.heap.size w) (.cells #[.int .i64 c.wt, .int .i64 (c.s 0), .int .i64 (c.s 1), .int .i64 (c.s 2), .int .i64 (c.s 3), .bool c.aw] 119)
  have H1 := Lib.hid (h.below hb1); have HC1 := Lib.hid (CK.made w c); have HB1 := Lib.hid hb1; have HI := Lib.hid hi; have HTL := Lib.hid h.t.lt
  have HDR := Lib.hid fun (w' : World) (h' : TU tp fcmp #[] w' L) => tdrop (OV_JH tp (HG T G)) h' trivial h9.sl (h9.jh hg) hl
  obtain ⟨p, hp⟩ : ∃ p, plOf T i c = p := ⟨_, rfl⟩
  rw [hp] at HDR ⊢
  obtain ⟨q, hq⟩ : ∃ q, hasL p L = q := ⟨_, rfl⟩
  rw [hq] at HDR
  have HP := Lib.hid hp
  clear h h9 hi hg hl hb1 hp hq
  go_enter Tryz.func81, Tryz.ntmps81
  go_upto_region 2 with (fail)
  clear hlook x0 x1 x2 x3 x4 x5 xs
  generalize w.alloc (.cells #[.int .i64 c.wt, .int .i64 (c.s 0), .int .i64 (c.s 1), .int .i64 (c.s 2), .int .i64 (c.s 3), .bool c.aw] 119) = w1 at *
  obtain ⟨kb, hkb⟩ : ∃ b, b = w.heap.size := ⟨_, rfl⟩
  rw [← hkb] at HC1 ⊢
  have HKB := Lib.hid hkb
  clear hkb
  obtain ⟨x0, x1, x2, x3, x4, x5⟩ := H1.out.o.cells
  have xs := H1.out.o.lt
  obtain ⟨k0, k1, k2, k3, k4, k5⟩ := HC1.out.cells
  have ks := HC1.out.lt
  have n1 : ¬ (fun b : Nat => b = tp) sp := H1.out.ne.2.1
  have n2 : ¬ (fun b : Nat => b = tp) kb := fun e => by have e : kb = tp := e; have := HTL.out; have := HKB.out; omega
  have HPL := Lib.hid fun x : ExtC w1 (fun b => b = tp) => splace (H1.out.o.chg (extC_chg _ _ x) n1) i c
  rw [HP.out] at HPL
  refine Mix.regionC (fun b => b = tp) (by kernel_rfl) ?_
  intro w2 hb2
  refine Mix.take_exC _ _ 0 rfl (by kernel_rfl) (by kernel_rfl) (by kernel_rfl) (by kernel_rfl) (fun K hK => ?_)
  go_simp
  first | (refine hK _ ?_; clear hK K) | (apply Exists.intro; refine ⟨fun x => ?_, hK _ ?_⟩; (fail); clear hK K)
  refine Mix.take_exC _ _ 1 rfl (by kernel_rfl) (by kernel_rfl) (by kernel_rfl) (by kernel_rfl) (fun K hK => ?_)
  go_simp
  first | (refine hK _ ?_; clear hK K) | (apply Exists.intro; refine ⟨fun x => ?_, hK _ ?_⟩; (fail); clear hK K)
  refine Mix.take_exC _ _ 2 rfl (by kernel_rfl) (by kernel_rfl) (by kernel_rfl) (by kernel_rfl) (fun K hK => ?_)
  go_simp
  first | (refine hK _ ?_; clear hK K) | (apply Exists.intro; refine ⟨fun x => ?_, hK _ ?_⟩; (fail); clear hK K)
  refine Mix.take_exC _ _ 3 rfl (by kernel_rfl) (by kernel_rfl) (by kernel_rfl) (by kernel_rfl) (fun K hK => ?_)
  go_simp
  first | (refine hK _ ?_; clear hK K) | (apply Exists.intro; refine ⟨fun x => ?_, hK _ ?_⟩; (fail); clear hK K)
  refine Mix.take_exC _ _ 4 rfl (by kernel_rfl) (by kernel_rfl) (by kernel_rfl) (by kernel_rfl) (fun K hK => ?_)
  go_simp
  first | (refine hK _ ?_; clear hK K) | (apply Exists.intro; refine ⟨fun x => ?_, hK _ ?_⟩; (fail); clear hK K)
  refine Mix.take_exC _ _ 5 rfl (by kernel_rfl) (by kernel_rfl) (by kernel_rfl) (by kernel_rfl) (fun K hK => ?_)
  go_simp
  first | (refine hK _ ?_; clear hK K) | (apply Exists.intro; refine ⟨fun x => ?_, hK _ ?_⟩; (fail); clear hK K)
  refine Mix.take_exC _ _ 6 rfl (by kernel_rfl) (by kernel_rfl) (by kernel_rfl) (by kernel_rfl) (fun K hK => ?_)
  go_simp
  first | (refine hK _ ?_; clear hK K) | (apply Exists.intro; refine ⟨fun x => ?_, hK _ ?_⟩; (fail); clear hK K)
  refine Mix.take_exC _ _ 7 rfl (by kernel_rfl) (by kernel_rfl) (by kernel_rfl) (by kernel_rfl) (fun K hK => ?_)
  go_simp
  first | (refine hK _ ?_; clear hK K) | (apply Exists.intro; refine ⟨fun x => ?_, hK _ ?_⟩; (exact HPL.out x); clear hK K)
  refine Mix.all (rs := [8]) (by kernel_rfl) (by simp) (.of_below _ hb2) ?_
  intro i3 hi3 w3 hb3 hC3
  simp only [List.mem_cons, List.not_mem_nil, or_false] at hi3
  subst hi3
  have HB3 := Lib.hid (bt hb2 hb3)
  clear hC3 hb2 hb3
  refine Mix.op rfl (by kernel_rfl) ?_
  go_simp
  refine (HDR.out w3 (H1.out.t.below HB3.out)).mono ?_
  rintro e w4 ⟨rfl, ht4, hc4⟩
  refine ⟨_, rfl, ?_⟩
  have HT4 := Lib.hid ht4; have HC4 := Lib.hid hc4
  clear ht4 hc4
  refine Mix.done (by kernel_rfl) ((Chg.of_below _ HB3.out).same HC4.out) ?_
  intro w5 hb5
  have HC5 := Lib.hid (show Chg (TF tp) w1 w5 from ((Chg.of_below _ HB3.out).same HC4.out).then_below hb5)
  have HT5 := Lib.hid (HT4.out.below hb5)
  clear hb5 x0 x1 x2 x3 x4 x5 xs k0 k1 k2 k3 k4 k5 ks n1 n2
  have ho5 := H1.out.o.chg HC5.out H1.out.ne.2.1
  have hm5 := H1.out.m.chg HC5.out H1.out.ne.2.2
  obtain ⟨x0, x1, x2, x3, x4, x5⟩ := ho5.cells
  have xs := ho5.lt
  obtain ⟨w8, hdel, hm8, hc8⟩ := hm5.drop key64 Tryz.underlying99 0 (x := i) HI.out
  replace hdel : (Builtin.delete_ #[99, 2] 0 #[.map (some M), .int .i64 i]).run Tryz.prog w5 = .ok (.tuple #[]) w8 := hdel
  have HM8 := Lib.hid hm8; have HC8 := Lib.hid hc8
  have HO8 := Lib.hid (ho5.chg hc8 H1.out.ne.1)
  have HT8 := Lib.hid (show TU tp fcmp #[] w8 (delL p L) from HT5.out.chg hc8 (fun e => H1.out.ne.2.2 e.symm) (SM.nonodeM ⟨ho5, hm5, HT5.out⟩))
  clear ho5 hm5 hm8 hc8
  go_wp2
  go_end0
  exact ⟨rfl, ⟨HO8.out, HM8.out, HT8.out⟩, (Chg.of_below _ HB1.out).same ((HC5.out.mono fun b e => .inr (.inr e)).same (HC8.out.mono fun b e => .inr (.inl e)))⟩
end
end
section
open Go.RowKit Go.Maps
attribute [local go_sem] ext_cell ext_frozen extC_cell extC_frozen Mix.calmUpon Mix.mUpon
/-- Without a client's place; with it. -/
def dl9 (T : Nat → Int) (G : Int → Option Cl) (L : List Pl) (i : Int) : List Pl := match G i with | some c => delL (plOf T i c) L | none => L
def st9 (T : Nat → Int) (G : Int → Option Cl) (L : List Pl) (i : Int) (c : Cl) : List Pl := if c.aw then insL plo (plOf T i c) (dl9 T G L i) else dl9 T G L i
section
variable {w w' : World} {sp M tp b : Nat} {T : Nat → Int} {G : Int → Option Cl} {L : List Pl} {c : Cl} {i : Int} {F : Nat → Prop}
theorem S9.out (h : S9 T G L) (i : Int) : S9 T (upd G i none) (dl9 T G L i) := by
  unfold dl9
  cases hg : G i with
  | none => simpa [upd_none hg] using h
  | some c => exact h.del hg
theorem S9.set (h : S9 T G L) (hc : COk i c) : S9 T (upd G i (some c)) (st9 T G L i c) := by
  have := (h.out i).put (i := i) (c := c) upd_at hc
  rw [upd_upd] at this
  exact this
theorem dl9_len : (dl9 T G L i).length ≤ L.length := by
  unfold dl9; split
  · exact List.length_filter_le ..
  · exact Nat.le_refl _
theorem sunset (h : SM w sp M tp T G L) (h9 : S9 T G L) (hi : I64 i) (hl : L.length < 1000000) : Calls Tryz.prog 81 #[ptr sp, .int .i64 i] w (SPo sp M tp T (upd G i none) (dl9 T G L i) w) := by
  unfold dl9
  cases hg : G i with
  | none => rw [upd_none hg]; exact sunset_none h hi hg
  | some c => exact sunset_some h h9 hi hg hl
set_option maxRecDepth 100000 in
set_option maxHeartbeats 1000000 in
theorem sset (h : SM w sp M tp T G L) (h9 : S9 T G L) (hi : I64 i) (hc : COk i c) (hl : L.length < 1000000) : Calls Tryz.prog 73 #[ptr sp, .int .i64 i, clv c] w (SPo sp M tp T (upd G i (some c)) (st9 T G L i c) w) := by
  have hb1 := ba (Below.refl w.heap.size w) (.cells #[.int .i64 c.wt, .int .i64 (c.s 0), .int .i64 (c.s 1), .int .i64 (c.s 2), .int .i64 (c.s 3), .bool c.aw] 119)
  have h9o := h9.out i
  have h9n := h9.set hc
  have hsl := h9o.sl_more (i := i) upd_at c
  rw [upd_upd] at hsl
  have hj : JH (HG T (upd G i (some c))) (plOf T i c) := h9n.jh upd_at
  have hll : (dl9 T G L i).length < 1000000 := Nat.lt_of_le_of_lt dl9_len hl
  have HPT := Lib.hid fun (w' : World) (h' : TU tp fcmp #[] w' (dl9 T G L i)) => tput (OV_JH tp (HG T (upd G i (some c)))) h' trivial hsl hj hll
  have HUN := Lib.hid (sunset (h.below hb1) h9 hi hl)
  have HC1 := Lib.hid (CK.made w c); have HB1 := Lib.hid hb1; have HI := Lib.hid hi
  have HNE := Lib.hid h.ne
  have HLT := Lib.hid (show sp < w.heap.size ∧ M < w.heap.size ∧ tp < w.heap.size from ⟨h.o.lt, h.m.lt, h.t.lt⟩)
  obtain ⟨p, hp⟩ : ∃ p, plOf T i c = p := ⟨_, rfl⟩
  have HST := Lib.hid (show st9 T G L i c = if c.aw then insL plo p (dl9 T G L i) else dl9 T G L i by rw [← hp]; rfl)
  rw [hp] at HPT
  obtain ⟨D, hD⟩ : ∃ D, dl9 T G L i = D := ⟨_, rfl⟩
  rw [hD] at HPT HUN HST
  obtain ⟨q, hq⟩ : ∃ q, hasL p D = q := ⟨_, rfl⟩
  rw [hq] at HPT
  obtain ⟨L', hL'⟩ : ∃ L', st9 T G L i c = L' := ⟨_, rfl⟩
  rw [hL'] at HST ⊢
  have HP := Lib.hid hp
  clear h h9 hi hl hb1 hp hq hc h9o h9n hsl hj hll hD hL'
  go_enter Tryz.func73, Tryz.ntmps73
  go_upto_region 1 with (fail)
  generalize w.alloc (.cells #[.int .i64 c.wt, .int .i64 (c.s 0), .int .i64 (c.s 1), .int .i64 (c.s 2), .int .i64 (c.s 3), .bool c.aw] 119) = w1 at *
  obtain ⟨kb, hkb⟩ : ∃ b, b = w.heap.size := ⟨_, rfl⟩
  rw [← hkb] at HC1 ⊢
  have HKB := Lib.hid hkb
  clear hkb
  go_wp2_with fail
  refine HUN.out.mono ?_
  rintro e w2 ⟨rfl, hs2, hc2⟩
  have HS2 := Lib.hid hs2; have HC2 := Lib.hid hc2
  have HK2 := Lib.hid (HC1.out.chg hc2 (fun e => by have := HLT.out; have := HKB.out; rcases e with e | e | e <;> omega))
  clear hs2 hc2
  obtain ⟨x0, x1, x2, x3, x4, x5⟩ := HS2.out.o.cells
  have xs := HS2.out.o.lt
  obtain ⟨k0, k1, k2, k3, k4, k5⟩ := HK2.out.cells
  have ks := HK2.out.lt
  have n1 : ¬ (fun b : Nat => b = M) sp := HNE.out.1
  have n2 : ¬ (fun b : Nat => b = M) kb := fun e => by have e : kb = M := e; have := HLT.out; have := HKB.out; omega
  go_wp2_with fail
  refine Mix.regionC (fun b => b = M) (by kernel_rfl) ?_
  intro w3 hb3
  refine Mix.take_exC _ _ 0 rfl (by kernel_rfl) (by kernel_rfl) (by kernel_rfl) (by kernel_rfl) (fun K hK => ?_)
  go_simp
  first | (refine hK _ ?_; clear hK K) | (apply Exists.intro; refine ⟨fun x => ?_, hK _ ?_⟩; (fail); clear hK K)
  refine Mix.take_exC _ _ 1 rfl (by kernel_rfl) (by kernel_rfl) (by kernel_rfl) (by kernel_rfl) (fun K hK => ?_)
  go_simp
  first | (refine hK _ ?_; clear hK K) | (apply Exists.intro; refine ⟨fun x => ?_, hK _ ?_⟩; (fail); clear hK K)
  refine Mix.take_exC _ _ 2 rfl (by kernel_rfl) (by kernel_rfl) (by kernel_rfl) (by kernel_rfl) (fun K hK => ?_)
  go_simp
  first | (refine hK _ ?_; clear hK K) | (apply Exists.intro; refine ⟨fun x => ?_, hK _ ?_⟩; (fail); clear hK K)
  refine Mix.take_exC _ _ 3 rfl (by kernel_rfl) (by kernel_rfl) (by kernel_rfl) (by kernel_rfl) (fun K hK => ?_)
  go_simp
  first | (refine hK _ ?_; clear hK K) | (apply Exists.intro; refine ⟨fun x => ?_, hK _ ?_⟩; (fail); clear hK K)
  refine Mix.take_exC _ _ 4 rfl (by kernel_rfl) (by kernel_rfl) (by kernel_rfl) (by kernel_rfl) (fun K hK => ?_)
  go_simp
  first | (refine hK _ ?_; clear hK K) | (apply Exists.intro; refine ⟨fun x => ?_, hK _ ?_⟩; (fail); clear hK K)
  refine Mix.take_exC _ _ 5 rfl (by kernel_rfl) (by kernel_rfl) (by kernel_rfl) (by kernel_rfl) (fun K hK => ?_)
  go_simp
  first | (refine hK _ ?_; clear hK K) | (apply Exists.intro; refine ⟨fun x => ?_, hK _ ?_⟩; (fail); clear hK K)
  refine Mix.all (rs := [6]) (by kernel_rfl) (by simp) (.of_below _ hb3) ?_
  intro i4 hi4 w4 hb4 hC4
  simp only [List.mem_cons, List.not_mem_nil, or_false] at hi4
  subst hi4
  have HB4 := Lib.hid (bt hb3 hb4)
  clear hC4 hb3 hb4
  obtain ⟨w5, hst, hm5, hc5⟩ := (HS2.out.below HB4.out).m.store key64 Tryz.underlying99 (x := i) HI.out c
  replace hst : (Instr.mapUpdate 99 (.map (some M)) (.int .i64 i) (clv c)).run Tryz.prog w4 = .ok () w5 := hst
  have HM5 := Lib.hid hm5
  have HC5 := Lib.hid ((Chg.of_below (fun b => b = M) HB4.out).same hc5)
  clear hm5 hc5
  refine Mix.op rfl (by kernel_rfl) ?_
  go_simp
  clear hst
  refine Mix.done (by kernel_rfl) HC5.out ?_
  intro w6 hb6
  have HC6 := Lib.hid (HC5.out.then_below hb6)
  have HM6 := Lib.hid (HM5.out.chg (.of_below (fun _ => False) hb6) id)
  clear hb6 x0 x1 x2 x3 x4 x5 xs k0 k1 k2 k3 k4 k5 ks
  have HO6 := Lib.hid (HS2.out.o.chg HC6.out n1)
  have HK6 := Lib.hid (HK2.out.chg HC6.out n2)
  have HT6 := Lib.hid (HS2.out.t.chg HC6.out (fun e => HNE.out.2.2 e.symm) HS2.out.nonodeM)
  have HM6 := Lib.hid (show MapF K64 w6 M (upd G i (some c)) (fun c => clv c) by have := HM6.out; rw [upd_upd] at this; exact this)
  clear n1 n2
  obtain ⟨x0, x1, x2, x3, x4, x5⟩ := HO6.out.cells
  have xs := HO6.out.lt
  obtain ⟨k0, k1, k2, k3, k4, k5⟩ := HK6.out.cells
  have ks := HK6.out.lt
  have HC26 := Lib.hid (show Chg (SF sp M tp) w w6 from (Chg.of_below _ HB1.out).same (HC2.out.same (HC6.out.mono fun b e => .inr (.inl e))))
  cases ha : c.aw with
  | false =>
    rw [ha] at k5
    have HST := Lib.hid (show L' = D by rw [HST.out, ha]; rfl)
    clear ha
    go_wp2
    go_end0
    exact ⟨rfl, ⟨HO6.out, HM6.out, by rw [HST.out]; exact HT6.out⟩, HC26.out⟩
  | true =>
    have HST := Lib.hid (show L' = insL plo p D by rw [HST.out, ha]; rfl)
    rw [ha] at k5
    have HPL := Lib.hid fun x : ExtC w6 (fun b => b = tp) => splace (HO6.out.chg (extC_chg _ _ x) HNE.out.2.1) i c
    rw [HP.out] at HPL
    rw [show clv c = .agg #[.int .i64 c.wt, .int .i64 (c.s 0), .int .i64 (c.s 1), .int .i64 (c.s 2), .int .i64 (c.s 3), .bool true] by rw [← ha]] at HPL
    clear ha
    have n1 : ¬ (fun b : Nat => b = tp) sp := HNE.out.2.1
    have n2 : ¬ (fun b : Nat => b = tp) kb := fun e => by have e : kb = tp := e; have := HLT.out; have := HKB.out; omega
    go_wp2_with fail
    refine Mix.regionC (fun b => b = tp) (by kernel_rfl) ?_
    intro w7 hb7
    refine Mix.take_exC _ _ 0 rfl (by kernel_rfl) (by kernel_rfl) (by kernel_rfl) (by kernel_rfl) (fun K hK => ?_)
    go_simp
    first | (refine hK _ ?_; clear hK K) | (apply Exists.intro; refine ⟨fun x => ?_, hK _ ?_⟩; (fail); clear hK K)
    refine Mix.take_exC _ _ 1 rfl (by kernel_rfl) (by kernel_rfl) (by kernel_rfl) (by kernel_rfl) (fun K hK => ?_)
    go_simp
    first | (refine hK _ ?_; clear hK K) | (apply Exists.intro; refine ⟨fun x => ?_, hK _ ?_⟩; (fail); clear hK K)
    refine Mix.take_exC _ _ 2 rfl (by kernel_rfl) (by kernel_rfl) (by kernel_rfl) (by kernel_rfl) (fun K hK => ?_)
    go_simp
    first | (refine hK _ ?_; clear hK K) | (apply Exists.intro; refine ⟨fun x => ?_, hK _ ?_⟩; (fail); clear hK K)
    refine Mix.take_exC _ _ 3 rfl (by kernel_rfl) (by kernel_rfl) (by kernel_rfl) (by kernel_rfl) (fun K hK => ?_)
    go_simp
    first | (refine hK _ ?_; clear hK K) | (apply Exists.intro; refine ⟨fun x => ?_, hK _ ?_⟩; (fail); clear hK K)
    refine Mix.take_exC _ _ 4 rfl (by kernel_rfl) (by kernel_rfl) (by kernel_rfl) (by kernel_rfl) (fun K hK => ?_)
    go_simp
    first | (refine hK _ ?_; clear hK K) | (apply Exists.intro; refine ⟨fun x => ?_, hK _ ?_⟩; (fail); clear hK K)
    refine Mix.take_exC _ _ 5 rfl (by kernel_rfl) (by kernel_rfl) (by kernel_rfl) (by kernel_rfl) (fun K hK => ?_)
    go_simp
    first | (refine hK _ ?_; clear hK K) | (apply Exists.intro; refine ⟨fun x => ?_, hK _ ?_⟩; (fail); clear hK K)
    refine Mix.take_exC _ _ 6 rfl (by kernel_rfl) (by kernel_rfl) (by kernel_rfl) (by kernel_rfl) (fun K hK => ?_)
    go_simp
    first | (refine hK _ ?_; clear hK K) | (apply Exists.intro; refine ⟨fun x => ?_, hK _ ?_⟩; (fail); clear hK K)
    refine Mix.take_exC _ _ 7 rfl (by kernel_rfl) (by kernel_rfl) (by kernel_rfl) (by kernel_rfl) (fun K hK => ?_)
    go_simp
    first | (refine hK _ ?_; clear hK K) | (apply Exists.intro; refine ⟨fun x => ?_, hK _ ?_⟩; (exact HPL.out x); clear hK K)
    refine Mix.all (rs := [8]) (by kernel_rfl) (by simp) (.of_below _ hb7) ?_
    intro i8 hi8 w8 hb8 hC8
    simp only [List.mem_cons, List.not_mem_nil, or_false] at hi8
    subst hi8
    have HB8 := Lib.hid (bt hb7 hb8)
    clear hC8 hb7 hb8
    refine Mix.op rfl (by kernel_rfl) ?_
    go_simp
    refine (HPT.out w8 (HT6.out.below HB8.out)).mono ?_
    rintro e w9 ⟨rfl, ht9, hc9⟩
    refine ⟨_, rfl, ?_⟩
    have HT9 := Lib.hid ht9; have HC9 := Lib.hid hc9
    clear ht9 hc9
    refine Mix.done (by kernel_rfl) ((Chg.of_below _ HB8.out).same HC9.out) ?_
    intro w10 hb10
    have HCA := Lib.hid (show Chg (fun b => b = tp) w6 w10 from ((Chg.of_below _ HB8.out).same HC9.out).then_below hb10)
    have HTA := Lib.hid (HT9.out.below hb10)
    have HOA := Lib.hid (HO6.out.chg HCA.out n1)
    have HMA := Lib.hid (HM6.out.chg HCA.out HNE.out.2.2)
    clear hb10 x0 x1 x2 x3 x4 x5 xs k0 k1 k2 k3 k4 k5 ks n1 n2
    go_wp2
    go_end0
    exact ⟨rfl, ⟨HOA.out, HMA.out, by rw [HST.out]; exact HTA.out⟩, HC26.out.same (HCA.out.mono fun b e => .inr (.inr e))⟩
end
end
section
open Go.RowKit Go.Maps
attribute [local go_sem] ext_cell ext_frozen extC_cell extC_frozen Mix.calmUpon Mix.mUpon
theorem s9_nil : S9 (fun _ => 0) (fun _ => none) [] := ⟨fun k _ => ⟨by simp, by simp⟩, fun i c h => (by cases h), SL.nil, fun p => (by simp)⟩
theorem makeSm (w : World) : (Instr.makeMap 99 none).run Tryz.prog w = .ok (.map (some w.heap.size)) (w.alloc (.map #[] 0)) := by kernel_rfl
set_option maxRecDepth 100000 in
theorem snew (w : World) : Calls Tryz.prog 22 #[] w fun e w' => ∃ sp M tp, e = .returned (ptr sp) ∧ SM w' sp M tp (fun _ => 0) (fun _ => none) [] ∧ Below w.heap.size w w' ∧ w.heap.size ≤ sp ∧ w.heap.size ≤ M ∧ w.heap.size ≤ tp := by
  have HM := Lib.hid (show MapF K64 (w.alloc (.map #[] 0)) w.heap.size (fun _ => none) (fun c => clv c) from MapF.made w)
  have HB := Lib.hid (show Below w.heap.size w (w.alloc (.map #[] 0)) from ba (Below.refl _ _) _)
  have HT := Lib.hid (tnew0 (fn := fcmp) (caps := #[]) (w.alloc (.map #[] 0)))
  rw [show (w.alloc (.map #[] 0)).heap.size = w.heap.size + 1 by simp] at HT
  have hmk := makeSm w
  go_enter Tryz.func22, Tryz.ntmps22
  go_wp2_with fail
  refine HT.out.mono ?_
  rintro e w2 ⟨rfl, ht, hb, hs⟩
  have HT2 := Lib.hid ht; have HB2 := Lib.hid hb
  clear ht hb hs
  go_wp2
  go_ret
  have hbn := ba (Below.refl w2.heap.size w2) (.cells #[.int .i64 0, .int .i64 0, .int .i64 0, .int .i64 0, .map (some w.heap.size), .pointer (some ⟨w.heap.size + 1, 0, none⟩)] 107)
  have h2 := (HB.out.trans (HB2.out.mono (Nat.le_succ _)))
  refine ⟨w2.heap.size, w.heap.size, w.heap.size + 1, rfl, ⟨?_, ?_, HT2.out.below hbn⟩, h2.trans (hbn.mono h2.size), h2.size, Nat.le_refl _, Nat.le_succ _⟩
  · exact heap_alloc_new w2 _
  · exact (HM.out.chg (.of_below (fun _ => False) (show Below (w.alloc (.map #[] 0)).heap.size _ _ by simpa using HB2.out)) id).chg (.of_below (fun _ => False) hbn) id
/-- What an act leaves. -/
def SPi (q : Int) (sp M tp : Nat) (T : Nat → Int) (G' : Int → Option Cl) (L' : List Pl) (w : World) (e : Ending) (w' : World) : Prop := e = .returned (.int .i64 q) ∧ SM w' sp M tp T G' L' ∧ Chg (SF sp M tp) w w'
def clN (x : Int) : Cl := ⟨x, fun _ => 0, true⟩
section
variable {w w' : World} {sp M tp b : Nat} {T : Nat → Int} {G : Int → Option Cl} {L : List Pl} {c : Cl} {i x : Int} {F : Nat → Prop}
set_option maxRecDepth 100000 in
set_option maxHeartbeats 1000000 in
theorem sput_w (h : SM w sp M tp T G L) (hx : ¬ (1 ≤ x ∧ x ≤ 1000)) : Calls Tryz.prog 46 #[ptr sp, .int .i64 i, .int .i64 x] w (SPi 41 sp M tp T G L w) := by
  have hw := weighs_any x
  rw [show decide (1 ≤ x ∧ x ≤ 1000) = false by simpa using hx] at hw
  have HW := Lib.hid hw; have H := Lib.hid h
  clear hw h hx
  go_enter Tryz.func46, Tryz.ntmps46
  go_wp2_with fail
  refine (smade H.out.o).mono ?_
  rintro e w1 ⟨rfl, rfl⟩
  go_wp2_with fail
  refine (HW.out _).mono ?_
  rintro e w2 ⟨rfl, hb2⟩
  go_wp2
  go_ret
  exact ⟨rfl, H.out.below hb2, .of_below _ hb2⟩
set_option maxRecDepth 100000 in
set_option maxHeartbeats 1000000 in
theorem sput_there (h : SM w sp M tp T G L) (hi : I64 i) (hx : 1 ≤ x ∧ x ≤ 1000) (hg : G i = some c) : Calls Tryz.prog 46 #[ptr sp, .int .i64 i, .int .i64 x] w (SPi 42 sp M tp T G L w) := by
  have hw := weighs_any x
  rw [show decide (1 ≤ x ∧ x ≤ 1000) = true by simpa using hx] at hw
  have HW := Lib.hid hw; have H := Lib.hid h; have HI := Lib.hid hi; have HG := Lib.hid hg
  clear hw h hx hi hg
  go_enter Tryz.func46, Tryz.ntmps46
  go_wp2_with fail
  refine (smade H.out.o).mono ?_
  rintro e w1 ⟨rfl, rfl⟩
  go_wp2_with fail
  refine (HW.out _).mono ?_
  rintro e w2 ⟨rfl, hb2⟩
  have H2 := Lib.hid (H.out.below hb2); have HB2 := Lib.hid hb2
  have hlook := H2.out.look HI.out true
  rw [HG.out] at hlook
  replace hlook := hlook.trans (show _ = .ok (.tuple #[clv c, .bool true]) w2 from rfl)
  obtain ⟨x0, x1, x2, x3, x4, x5⟩ := H2.out.o.cells
  have xs := H2.out.o.lt
  clear hb2
  go_wp2
  go_ret
  exact ⟨rfl, H2.out.below (ba (Below.refl _ _) _), .of_below _ (bt HB2.out (ba (Below.refl _ _) _))⟩
set_option maxRecDepth 100000 in
set_option maxHeartbeats 1000000 in
theorem sput_ok (h : SM w sp M tp T G L) (h9 : S9 T G L) (hi : I64 i) (hx : 1 ≤ x ∧ x ≤ 1000) (hg : G i = none) (hl : L.length < 1000000) : Calls Tryz.prog 46 #[ptr sp, .int .i64 i, .int .i64 x] w (SPi 0 sp M tp T (upd G i (some (clN x))) (st9 T G L i (clN x)) w) := by
  have hw := weighs_any x
  rw [show decide (1 ≤ x ∧ x ≤ 1000) = true by simpa using hx] at hw
  have HW := Lib.hid hw; have H := Lib.hid h; have HI := Lib.hid hi; have HG := Lib.hid hg
  have HS := Lib.hid fun w' (h' : SM w' sp M tp T G L) => sset (c := clN x) h' h9 hi ⟨hx.1, hx.2, fun k _ => ⟨by simp [clN], by simp [clN]⟩, hi⟩ hl
  clear hw h hx hi hg h9 hl
  go_enter Tryz.func46, Tryz.ntmps46
  go_wp2_with fail
  refine (smade H.out.o).mono ?_
  rintro e w1 ⟨rfl, rfl⟩
  go_wp2_with fail
  refine (HW.out _).mono ?_
  rintro e w2 ⟨rfl, hb2⟩
  have H2 := Lib.hid (H.out.below hb2); have HB2 := Lib.hid hb2
  have hlook := H2.out.look HI.out true
  rw [HG.out] at hlook
  replace hlook := hlook.trans (show _ = .ok (.tuple #[.agg #[.int .i64 0, .int .i64 0, .int .i64 0, .int .i64 0, .int .i64 0, .bool false], .bool false]) w2 from rfl)
  obtain ⟨x0, x1, x2, x3, x4, x5⟩ := H2.out.o.cells
  have xs := H2.out.o.lt
  clear hb2
  go_wp2_with fail
  have hbn := ba (Below.refl w2.heap.size w2) (.cells #[.int .i64 0, .int .i64 0, .int .i64 0, .int .i64 0, .int .i64 0, .bool false] 119)
  have H3 := Lib.hid (H2.out.below hbn); have HB3 := Lib.hid (bt HB2.out hbn)
  refine (HS.out _ H3.out).mono ?_
  rintro e w4 ⟨rfl, h4, hc4⟩
  have H4 := Lib.hid h4; have HC4 := Lib.hid hc4
  clear h4 hc4 x0 x1 x2 x3 x4 x5 xs hlook hbn
  go_wp2
  go_ret
  exact ⟨rfl, H4.out, (Chg.of_below _ HB3.out).same HC4.out⟩
end
end
section
open Go.RowKit Go.Maps
attribute [local go_sem] ext_cell ext_frozen extC_cell extC_frozen Mix.calmUpon Mix.mUpon
section
variable {w w' : World} {sp M tp b : Nat} {T : Nat → Int} {G : Int → Option Cl} {L : List Pl} {c : Cl} {i x : Int} {F : Nat → Prop}
theorem SPi.same {q : Int} (h : SM w sp M tp T G L) (hb : Below w.heap.size w w') : SPi q sp M tp T G L w (.returned (.int .i64 q)) w' := ⟨rfl, h.below hb, .of_below _ hb⟩
set_option maxRecDepth 100000 in
set_option maxHeartbeats 1000000 in
theorem sdrop_none (h : SM w sp M tp T G L) (hi : I64 i) (hg : G i = none) : Calls Tryz.prog 54 #[ptr sp, .int .i64 i] w (SPi 43 sp M tp T G L w) := by
  have hf := sfind h hi
  unfold sfA at hf
  rw [hg] at hf
  replace hf : Calls Tryz.prog 79 #[ptr sp, .int .i64 i] w fun e w' => e = .returned (.tuple #[.agg #[.int .i64 0, .int .i64 0, .int .i64 0, .int .i64 0, .int .i64 0, .bool false], .int .i64 43]) ∧ Below w.heap.size w w' := hf
  have HF := Lib.hid hf; have H := Lib.hid h
  clear hf h hi hg
  go_enter Tryz.func54, Tryz.ntmps54
  go_wp2_with fail
  refine HF.out.mono ?_
  rintro e w1 ⟨rfl, hb1⟩
  have HB1 := Lib.hid hb1
  clear hb1
  go_wp2
  go_ret
  exact SPi.same H.out (bt HB1.out (ba (Below.refl _ _) _))
set_option maxRecDepth 100000 in
set_option maxHeartbeats 1000000 in
theorem sdrop_some (h : SM w sp M tp T G L) (h9 : S9 T G L) (hi : I64 i) (hg : G i = some c) (hl : L.length < 1000000) : Calls Tryz.prog 54 #[ptr sp, .int .i64 i] w (SPi 0 sp M tp T (upd G i none) (dl9 T G L i) w) := by
  have hf := sfind h hi
  unfold sfA at hf
  rw [hg] at hf
  replace hf : Calls Tryz.prog 79 #[ptr sp, .int .i64 i] w fun e w' => e = .returned (.tuple #[clv c, .int .i64 0]) ∧ Below w.heap.size w w' := hf
  have HF := Lib.hid hf; have H := Lib.hid h; have HI := Lib.hid hi
  clear hf
  have HS := Lib.hid fun w' (h' : SM w' sp M tp T G L) => sunset h' h9 hi hl
  clear h h9 hi hg hl
  go_enter Tryz.func54, Tryz.ntmps54
  go_wp2_with fail
  refine HF.out.mono ?_
  rintro e w1 ⟨rfl, hb1⟩
  have HB1 := Lib.hid hb1
  clear hb1
  go_wp2_with fail
  have HB2 := Lib.hid (bt HB1.out (ba (Below.refl w1.heap.size w1) (.cells #[.int .i64 c.wt, .int .i64 (c.s 0), .int .i64 (c.s 1), .int .i64 (c.s 2), .int .i64 (c.s 3), .bool c.aw] 119)))
  refine (HS.out _ (H.out.below HB2.out)).mono ?_
  rintro e w4 ⟨rfl, h4, hc4⟩
  have H4 := Lib.hid h4; have HC4 := Lib.hid hc4
  clear h4 hc4
  go_wp2
  go_ret
  exact ⟨rfl, H4.out, (Chg.of_below _ HB2.out).same HC4.out⟩
set_option maxRecDepth 100000 in
set_option maxHeartbeats 1000000 in
theorem swake_none {a : Bool} (h : SM w sp M tp T G L) (hi : I64 i) (hg : G i = none) : Calls Tryz.prog 56 #[ptr sp, .int .i64 i, .bool a] w (SPi 43 sp M tp T G L w) := by
  have hf := sfind h hi
  unfold sfA at hf
  rw [hg] at hf
  replace hf : Calls Tryz.prog 79 #[ptr sp, .int .i64 i] w fun e w' => e = .returned (.tuple #[.agg #[.int .i64 0, .int .i64 0, .int .i64 0, .int .i64 0, .int .i64 0, .bool false], .int .i64 43]) ∧ Below w.heap.size w w' := hf
  have HF := Lib.hid hf; have H := Lib.hid h
  clear hf h hi hg
  go_enter Tryz.func56, Tryz.ntmps56
  go_wp2_with fail
  refine HF.out.mono ?_
  rintro e w1 ⟨rfl, hb1⟩
  have HB1 := Lib.hid hb1
  clear hb1
  go_wp2
  go_ret
  exact SPi.same H.out (bt HB1.out (ba (Below.refl _ _) _))
set_option maxRecDepth 100000 in
set_option maxHeartbeats 1000000 in
theorem swake_ok {a : Bool} (h : SM w sp M tp T G L) (h9 : S9 T G L) (hi : I64 i) (hg : G i = some c) (hl : L.length < 1000000) : Calls Tryz.prog 56 #[ptr sp, .int .i64 i, .bool a] w (SPi 0 sp M tp T (upd G i (some { c with aw := a })) (st9 T G L i { c with aw := a }) w) := by
  have hf := sfind h hi
  unfold sfA at hf
  rw [hg] at hf
  replace hf : Calls Tryz.prog 79 #[ptr sp, .int .i64 i] w fun e w' => e = .returned (.tuple #[clv c, .int .i64 0]) ∧ Below w.heap.size w w' := hf
  have HF := Lib.hid hf; have H := Lib.hid h; have HI := Lib.hid hi
  clear hf
  have hck := h9.ok i c hg
  have HS := Lib.hid fun w' (h' : SM w' sp M tp T G L) => sset (c := { c with aw := a }) h' h9 hi ⟨hck.w1, hck.w2, hck.sm, hi⟩ hl
  clear h h9 hi hg hl hck
  go_enter Tryz.func56, Tryz.ntmps56
  go_wp2_with fail
  refine HF.out.mono ?_
  rintro e w1 ⟨rfl, hb1⟩
  have HB1 := Lib.hid hb1
  clear hb1
  go_upto_region 4 with (fail)
  have HB2 := Lib.hid (bt HB1.out (ba (Below.refl w1.heap.size w1) (.cells #[.int .i64 c.wt, .int .i64 (c.s 0), .int .i64 (c.s 1), .int .i64 (c.s 2), .int .i64 (c.s 3), .bool c.aw] 119)))
  have HK2 := Lib.hid (CK.made w1 c)
  generalize w1.alloc (.cells #[.int .i64 c.wt, .int .i64 (c.s 0), .int .i64 (c.s 1), .int .i64 (c.s 2), .int .i64 (c.s 3), .bool c.aw] 119) = w2 at *
  obtain ⟨kb, hkb⟩ : ∃ b, b = w1.heap.size := ⟨_, rfl⟩
  rw [← hkb] at HK2 ⊢
  have HKB := Lib.hid (show w.heap.size ≤ kb from hkb ▸ HB1.out.size)
  clear hkb
  have HC5 := Lib.hid (show Below w.heap.size w (w2.setCell ⟨kb, 5, none⟩ (.bool a)) from HB2.out.setCell HKB.out _)
  obtain ⟨k0, k1, k2, k3, k4, k5⟩ := HK2.out.cells
  have ks := HK2.out.lt
  have kf := HK2.out.fz 5
  go_wp2_with fail
  refine (HS.out _ (H.out.below HC5.out)).mono ?_
  rintro e w6 ⟨rfl, h6, hc6⟩
  have H6 := Lib.hid h6; have HC6 := Lib.hid hc6
  clear h6 hc6 k0 k1 k2 k3 k4 k5 ks kf
  go_wp2
  go_ret
  exact ⟨rfl, H6.out, (Chg.of_below _ HC5.out).same HC6.out⟩
end
end
end Go.Proofs.YtgfjmafdfbghnaaGreat

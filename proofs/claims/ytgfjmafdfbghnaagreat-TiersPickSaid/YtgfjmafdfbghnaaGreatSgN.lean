/- Texts laid together: Soc,Sod,Soe,Sof. -/
import Derived.Test.YtgfjmafdfbghnaaGreatSgM
namespace Go.Proofs.YtgfjmafdfbghnaaGreat
section
open Go.RowKit Go.Maps
attribute [local go_sem] ext_cell ext_frozen extC_cell extC_frozen Mix.calmUpon Mix.mUpon
/-- The new order, behind t of the old places. -/
structure TI (n : Nat → Int) (G : Int → Option Cl) (L : List Pl) (t : Nat) (X : List Pl) : Prop where
  sl : SL (JH (HG n G)) plo X
  len : X.length ≤ t
  mem : ∀ p, p ∈ X ↔ ∃ q ∈ L.take t, ∃ c, G q.i = some c ∧ p = plOf n q.i c
section
variable {T n : Nat → Int} {G : Int → Option Cl} {L X : List Pl} {t : Nat} {x : Pl} {c : Cl}
theorem TI.nil : TI n G L 0 [] := ⟨SL.nil, by simp, fun p => by simp⟩
theorem jh_of (h : S9 T G L) (hn : Sm4 n) {i : Int} (hg : G i = some c) : JH (HG n G) (plOf n i c) := by
  have := h.ok i c hg
  exact ⟨domV_srt this.sm hn this.w1 this.w2, by simp [HG, plOf, hg]⟩
theorem TI.step (h : TI n G L t X) (h9 : S9 T G L) (hn : Sm4 n) (hx : L[t]? = some x) (hg : G x.i = some c) : TI n G L (t + 1) (insL plo (plOf n x.i c) X) := by
  have O := OA_JH (HG n G)
  have hj := jh_of h9 hn hg
  refine ⟨SL.insL O h.sl hj, Nat.le_trans (insL_len _ _ _) (by have := h.len; omega), fun p => ?_⟩
  rw [take_at hx]
  constructor
  · intro hp
    rcases insL_mem' hp with rfl | hp
    · exact ⟨x, by simp, c, hg, rfl⟩
    · obtain ⟨q, hq, r⟩ := (h.mem p).1 hp
      exact ⟨q, by simp [hq], r⟩
  · rintro ⟨q, hq, d, hd, rfl⟩
    rcases List.mem_append.1 hq with hq | hq
    · exact mem_insL' ((h.mem _).2 ⟨q, hq, d, hd, rfl⟩)
    · simp at hq
      subst hq
      rw [hg] at hd; cases hd
      exact insL_in O hj h.sl
theorem TI.done (h : TI n G L L.length X) (h9 : S9 T G L) (hn : Sm4 n) : S9 n G X where
  t := hn
  ok := h9.ok
  sl := h.sl
  mem := fun p => by
    rw [h.mem p, List.take_length]
    constructor
    · rintro ⟨q, hq, c, hc, rfl⟩
      obtain ⟨d, hd, ha, _⟩ := (h9.mem q).1 hq
      rw [hc] at hd; cases hd
      exact ⟨c, hc, ha, rfl⟩
    · rintro ⟨c, hc, ha, hp⟩
      exact ⟨plOf T p.i c, (h9.mem _).2 ⟨c, hc, ha, rfl⟩, c, hc, hp⟩
theorem S9.at_ (h9 : S9 T G L) (hx : L[t]? = some x) : ∃ c, G x.i = some c := by
  obtain ⟨c, hc, _⟩ := (h9.mem x).1 (mem_at hx)
  exact ⟨c, hc⟩
end
/-- A variable that holds a tree. -/
def VB (w : World) (vb tq : Nat) : Prop := w.heap[vb]? = some (.cells #[tptr tq] 100 (0, 0))
section
variable {w w' : World} {sp M tp b vb tq : Nat} {T n : Nat → Int} {G : Int → Option Cl} {L X : List Pl} {J : Pl → Prop} {p : Pl} {F : Nat → Prop}
theorem VB.lt (h : VB w vb tq) : vb < w.heap.size := (Array.getElem?_eq_some_iff.1 h).1
theorem VB.chg (h : VB w vb tq) (hc : Chg F w w') (hf : ¬ F vb) : VB w' vb tq := (hc.block _ h.lt hf).trans h
theorem VB.below (h : VB w vb tq) (hb : Below w.heap.size w w') : VB w' vb tq := (hb.block _ h.lt).trans h
set_option maxRecDepth 100000 in
set_option maxHeartbeats 1000000 in
theorem stot1 (h : VB w vb tq) (ht : TU tq fcmp #[] w X) {H : Int → Option Pl} (hs : SL (JH H) plo X) (hj : JH H p) (hl : X.length < 1000000) : Calls Tryz.prog 75 #[plv p, .pointer (some ⟨vb, 0, none⟩)] w fun e w' => e = .returned (.tuple #[]) ∧ TU tq fcmp #[] w' (insL plo p X) ∧ Chg (TF tq) w w' := by
  have hb1 := ba (Below.refl w.heap.size w) (.cells #[.int .i64 p.n, .int .i64 p.d, .int .i64 p.w, .int .i64 p.i] 103)
  have HP := Lib.hid (tput (OV_JH tq H) (ht.below hb1) trivial hs hj hl)
  have HK := Lib.hid (PK.made w p); have HV := Lib.hid (h.below hb1); have HB1 := Lib.hid hb1
  clear h ht hs hj hl hb1
  obtain ⟨q, hq⟩ : ∃ q, hasL p X = q := ⟨_, rfl⟩
  rw [hq] at HP
  clear hq
  go_enter Tryz.func75, Tryz.ntmps75
  go_upto_region 1 with (fail)
  generalize w.alloc (.cells #[.int .i64 p.n, .int .i64 p.d, .int .i64 p.w, .int .i64 p.i] 103) = w1 at *
  obtain ⟨kb, hkb⟩ : ∃ b, b = w.heap.size := ⟨_, rfl⟩
  rw [← hkb] at HK ⊢
  clear hkb
  obtain ⟨k0, k1, k2, k3⟩ := HK.out.cells
  have ks := HK.out.lt
  have v0 := cell_hd HV.out 0
  simp only [List.getElem?_toArray, List.getElem?_cons_zero] at v0
  have vs := HV.out.lt
  go_wp2_with fail
  refine HP.out.mono ?_
  rintro e w2 ⟨rfl, h2, hc2⟩
  have H2 := Lib.hid h2; have HC2 := Lib.hid hc2
  clear h2 hc2 k0 k1 k2 k3 ks v0 vs
  go_wp2
  go_end0
  exact ⟨rfl, H2.out, (Chg.of_below _ HB1.out).same HC2.out⟩
theorem TU.nonode (h : TU tq fcmp #[] w X) : NoNode (TF tq) w := by obtain ⟨p, t, ht, _⟩ := h; exact ht.nonode
theorem SM.off (h : SM w sp M tp T G L) (hc : Chg (fun b => b = tq) w w') (hn : tq ≠ sp ∧ tq ≠ M ∧ tq ≠ tp) (hf : NoNode (fun b => b = tq) w) : SM w' sp M tp T G L :=
  ⟨h.o.chg hc fun e => hn.1 e.symm, h.m.chg hc fun e => hn.2.1 e.symm, h.t.chg hc (fun e => hn.2.2 e.symm) hf⟩
theorem SO.setT (h : SO w sp T M tp) (n : Nat → Int) : SO ((((w.setCell ⟨sp, 0, none⟩ (.int .i64 (n 0))).setCell ⟨sp, 1, none⟩ (.int .i64 (n 1))).setCell ⟨sp, 2, none⟩ (.int .i64 (n 2))).setCell ⟨sp, 3, none⟩ (.int .i64 (n 3))) sp n M tp := heap_setCell_at _ (heap_setCell_at _ (heap_setCell_at _ (heap_setCell_at _ h)))
theorem SO.setO (h : SO w sp T M tp) (tq : Nat) : SO (w.setCell ⟨sp, 5, none⟩ (tptr tq)) sp T M tq := heap_setCell_at _ h
theorem so_chg (w : World) (sp : Nat) (u0 u1 u2 u3 : Value) : Chg (fun b => b = sp) w ((((w.setCell ⟨sp, 0, none⟩ u0).setCell ⟨sp, 1, none⟩ u1).setCell ⟨sp, 2, none⟩ u2).setCell ⟨sp, 3, none⟩ u3) :=
  ((((Chg.refl (fun k => k = sp) w).setCell (p := ⟨sp, 0, none⟩) (.inl rfl) _).setCell (p := ⟨sp, 1, none⟩) (.inl rfl) _).setCell (p := ⟨sp, 2, none⟩) (.inl rfl) _).setCell (p := ⟨sp, 3, none⟩) (.inl rfl) _
theorem SM.totals (h : SM w sp M tp T G L) (n : Nat → Int) : SM ((((w.setCell ⟨sp, 0, none⟩ (.int .i64 (n 0))).setCell ⟨sp, 1, none⟩ (.int .i64 (n 1))).setCell ⟨sp, 2, none⟩ (.int .i64 (n 2))).setCell ⟨sp, 3, none⟩ (.int .i64 (n 3))) sp M tp n G L :=
  ⟨h.o.setT n, h.m.chg (so_chg w sp _ _ _ _) (fun e => h.ne.1 e.symm), h.t.chg (so_chg w sp _ _ _ _) (fun e => h.ne.2.1 e.symm) h.nonodeS⟩
/-- What Total leaves: a new tree. -/
def STo (sp M tp : Nat) (n : Nat → Int) (G : Int → Option Cl) (w : World) (e : Ending) (w' : World) : Prop := e = .returned (.int .i64 0) ∧ ∃ tq X, SM w' sp M tq n G X ∧ S9 n G X ∧ Chg (SF sp M tp) w w' ∧ w.heap.size ≤ tq
set_option maxRecDepth 100000 in
set_option maxHeartbeats 1000000 in
theorem stotal_no (h : SM w sp M tp T G L) (hn : ¬ Sm4 n) : Calls Tryz.prog 47 #[ptr sp, S4 n] w (SPi 41 sp M tp T G L w) := by
  have hr := inrange_any n
  rw [show decide (Sm4 n) = false by simpa using hn] at hr
  have HR := Lib.hid hr; have H := Lib.hid h
  have HN := Lib.hid (NB.made w n); have HB := Lib.hid (ba (Below.refl w.heap.size w) (.cells (C4 n) 67))
  clear h hn hr
  go_enter Tryz.func47, Tryz.ntmps47
  go_upto_region 1 with (fail)
  generalize w.alloc (.cells (C4 n) 67) = w1 at *
  obtain ⟨nb, hnb⟩ : ∃ b, b = w.heap.size := ⟨_, rfl⟩
  rw [← hnb] at HN ⊢
  clear hnb
  obtain ⟨n0, n1, n2, n3⟩ := HN.out.cells
  have nl := HN.out.lt
  go_wp2_with fail
  refine (smade (H.out.o.below HB.out)).mono ?_
  rintro e w2 ⟨rfl, rfl⟩
  go_wp2_with fail
  refine (HR.out _).mono ?_
  rintro e w3 ⟨rfl, hb3⟩
  have HB3 := Lib.hid (bt HB.out hb3)
  clear hb3 n0 n1 n2 n3 nl
  go_wp2
  go_ret
  exact SPi.same H.out HB3.out
set_option maxRecDepth 100000 in
set_option maxHeartbeats 2000000 in
theorem stotal_ok (h : SM w sp M tp T G L) (h9 : S9 T G L) (hn : Sm4 n) (hl : L.length < 1000000) : Calls Tryz.prog 47 #[ptr sp, S4 n] w (STo sp M tp n G w) := by
  have hmf : ∀ (fn : Fn) (first cap : Array Value) (w : World), (Instr.makeFunc fn first cap).run Tryz.prog w = .ok (.func fn first cap) w := fun _ _ _ _ => rfl
  have hr := inrange_any n
  rw [show decide (Sm4 n) = true by simpa using hn] at hr
  have HR := Lib.hid hr; have H := Lib.hid h; have H9 := Lib.hid h9; have HSN := Lib.hid hn; have HLL := Lib.hid hl
  have HN := Lib.hid (NB.made w n); have HB := Lib.hid (ba (Below.refl w.heap.size w) (.cells (C4 n) 67))
  clear h hn hr h9 hl
  go_enter Tryz.func47, Tryz.ntmps47
  go_upto_region 1 with (fail)
  generalize w.alloc (.cells (C4 n) 67) = w1 at *
  obtain ⟨nb, hnb⟩ : ∃ b, b = w.heap.size := ⟨_, rfl⟩
  rw [← hnb] at HN ⊢
  clear hnb
  obtain ⟨n0, n1, n2, n3⟩ := HN.out.cells
  have nl := HN.out.lt
  go_wp2_with fail
  refine (smade (H.out.o.below HB.out)).mono ?_
  rintro e w2 ⟨rfl, rfl⟩
  go_wp2_with fail
  refine (HR.out _).mono ?_
  rintro e w3 ⟨rfl, hb3⟩
  have HB3 := Lib.hid (bt HB.out hb3)
  have H3 := Lib.hid (H.out.below HB3.out)
  have HN3 := Lib.hid (HN.out.below hb3)
  clear hb3 n0 n1 n2 n3 nl
  obtain ⟨n0, n1, n2, n3⟩ := HN3.out.cells
  have nl := HN3.out.lt
  obtain ⟨x0, x1, x2, x3, x4, x5⟩ := H3.out.o.cells
  have xs := H3.out.o.lt
  have xf0 := H3.out.o.fz 0; have xf1 := H3.out.o.fz 1; have xf2 := H3.out.o.fz 2; have xf3 := H3.out.o.fz 3
  have H4 := Lib.hid (H3.out.totals n)
  have HC4 := Lib.hid (so_chg w3 sp (.int .i64 (n 0)) (.int .i64 (n 1)) (.int .i64 (n 2)) (.int .i64 (n 3)))
  go_upto_region 6 with (fail)
  generalize (((w3.setCell ⟨sp, 0, none⟩ (.int .i64 (n 0))).setCell ⟨sp, 1, none⟩ (.int .i64 (n 1))).setCell ⟨sp, 2, none⟩ (.int .i64 (n 2))).setCell ⟨sp, 3, none⟩ (.int .i64 (n 3)) = w4 at *
  clear n0 n1 n2 n3 nl x0 x1 x2 x3 x4 x5 xs xf0 xf1 xf2 xf3
  have HC4 := Lib.hid (show Chg (SF sp M tp) w w4 from (Chg.of_below _ HB3.out).same (HC4.out.mono fun b e => .inl e))
  have HCW := Lib.hid (show w.heap.size ≤ w4.heap.size from HC4.out.size)
  go_wp2_with fail
  refine (tnew0 (fn := fcmp) (caps := #[]) w4).mono ?_
  rintro e w5 ⟨rfl, ht5, hb5, hs5⟩
  have hbv := ba (Below.refl w5.heap.size w5) (.cells #[tptr w4.heap.size] 100)
  have HB6 := Lib.hid (bt hb5 hbv)
  have HT6 := Lib.hid (ht5.below hbv)
  have HV6 := Lib.hid (show VB (w5.alloc (.cells #[tptr w4.heap.size] 100)) w5.heap.size w4.heap.size from heap_alloc_new w5 _)
  obtain ⟨tq, htq⟩ : ∃ b, b = w4.heap.size := ⟨_, rfl⟩
  rw [← htq] at hs5 HV6 HT6 hbv HB6 ⊢
  have HTQ := Lib.hid htq; have HVT := Lib.hid hs5
  clear ht5 hb5 hs5 hbv htq
  go_upto_region 8 with (fail)
  generalize w5.alloc (.cells #[tptr tq] 100) = w6 at *
  generalize w5.heap.size = vb at *
  have H6 := Lib.hid (H4.out.below (HTQ.out ▸ HB6.out))
  obtain ⟨x0, x1, x2, x3, x4, x5⟩ := H6.out.o.cells
  have xs := H6.out.o.lt
  go_wp2_with fail
  refine (tall H6.out.t HLL.out).mono ?_
  rintro e w7 ⟨v1, rfl, ho7, hb7⟩
  have HC7 := Lib.hid (show Chg (SF sp M tp) w w7 from HC4.out.then_below (bt (HTQ.out ▸ HB6.out) hb7))
  have H7 := Lib.hid (H6.out.below hb7); have HT7 := Lib.hid (HT6.out.below hb7); have HV7 := Lib.hid (HV6.out.below hb7)
  obtain ⟨a, m, cp, rfl, hm, hc, hmx, hat⟩ := (ho7.rs nenc_len).at_
  have HO7 := Lib.hid ho7
  have HAT := Lib.hid hat; have HM := Lib.hid hm
  have HLO := Lib.hid (show tq < w6.heap.size from HT6.out.lt)
  have hnb : m < 1000000 := by have := HLL.out; omega
  have HNE := Lib.hid H7.out.ne
  have HQN := Lib.hid (show (tq ≠ sp ∧ tq ≠ M ∧ tq ≠ tp) ∧ tq ≠ vb from by
    have h0 := H4.out.t.lt; have h1 := H4.out.o.lt; have h2 := H4.out.m.lt; have h3 := HTQ.out; have h4 := HVT.out
    exact ⟨⟨by omega, by omega, by omega⟩, by omega⟩)
  clear hat ho7 hm hb7 x0 x1 x2 x3 x4 x5 xs
  go_wp2
  go_loopw [8, 27] (fun _ iv wr => ∃ (t : Nat) (X : List Pl), t ≤ m ∧ iv = .int .i64 t ∧ Hid (TI n G L t X ∧ TU tq fcmp #[] wr X ∧ Chg (TF tq) w7 wr)) (fun _ iv _ => m - (intOf iv).toNat)
  case atStart => exact ⟨0, [], Nat.zero_le _, rfl, Lib.hid ⟨TI.nil, HT7.out, Chg.refl _ _⟩⟩
  case round =>
    obtain ⟨t, X, ht, rfl, HQ⟩ := hrel
    obtain ⟨w8, rfl⟩ : ∃ w2, w2 = wr := ⟨_, rfl⟩
    by_cases hlt : t < m
    · have hts : (t : Int) < (m : Int) := by omega
      obtain ⟨x, hx⟩ := at_lt (l := L) (i := t) (by rw [← HM.out]; exact hlt)
      obtain ⟨c, hg⟩ := H9.out.at_ hx
      have hi : I64 x.i := (H9.out.ok _ _ hg).i64
      obtain ⟨b, off, rfl, hb, hcell⟩ := HAT.out t x hx
      have hbq : ¬ (b = tq) := fun e => by have := (HO7.out.lt b rfl).1; have := HLO.out; omega
      have e0 := (HQ.out.2.2.cell hb hbq (off + t * 4 + 0)).trans (hcell 0 _ rfl)
      have e1 := (HQ.out.2.2.cell hb hbq (off + t * 4 + 1)).trans (hcell 1 _ rfl)
      have e2 := (HQ.out.2.2.cell hb hbq (off + t * 4 + 2)).trans (hcell 2 _ rfl)
      have e3 := (HQ.out.2.2.cell hb hbq (off + t * 4 + 3)).trans (hcell 3 _ rfl)
      simp only [Nat.add_zero] at e0
      have hb8 : b < w8.heap.size := Nat.lt_of_lt_of_le hb HQ.out.2.2.size
      have HST := Lib.hid (HQ.out.1.step H9.out HSN.out hx hg)
      have HJ := Lib.hid (jh_of H9.out HSN.out hg)
      have H8 := Lib.hid (H7.out.off HQ.out.2.2 HQN.out.1 HT7.out.nonode)
      have HV8 := Lib.hid (HV7.out.chg HQ.out.2.2 fun e => HQN.out.2 e.symm)
      have HXL := Lib.hid (show X.length < 1000000 by have := HQ.out.1.len; omega)
      clear hcell hx hbq
      go_upto_region 11 with (fail)
      have hbn := ba (Below.refl w8.heap.size w8) (.cells #[.int .i64 x.n, .int .i64 x.d, .int .i64 x.w, .int .i64 x.i] 103)
      have HP9 := Lib.hid (PK.made w8 x)
      have H9w := Lib.hid (H8.out.below hbn); have HT9 := Lib.hid (HQ.out.2.1.below hbn); have HV9 := Lib.hid (HV8.out.below hbn)
      have HC9 := Lib.hid (show Chg (TF tq) w7 _ from HQ.out.2.2.then_below hbn)
      have hkq : ¬ (w8.heap.size = tq) := fun e => by have := HQ.out.2.1.lt; omega
      clear hbn e0 e1 e2 e3 hb8 hb
      generalize w8.alloc (.cells #[.int .i64 x.n, .int .i64 x.d, .int .i64 x.w, .int .i64 x.i] 103) = w9 at *
      generalize w8.heap.size = kb at *
      obtain ⟨x0, x1, x2, x3, x4, x5⟩ := H9w.out.o.cells
      have xs := H9w.out.o.lt
      obtain ⟨k0, k1, k2, k3⟩ := HP9.out.cells
      have ks := HP9.out.lt
      have q1 : ¬ (fun b : Nat => b = tq) sp := fun e => HQN.out.1.1 e.symm
      have q2 : ¬ (fun b : Nat => b = tq) kb := hkq
      have hlk : ∀ y : ExtC w9 (fun b => b = tq), (Instr.lookup 99 (.map (some M)) (.int .i64 x.i) false).run Tryz.prog (extC w9 (fun b => b = tq) y) = .ok (clv c) (extC w9 (fun b => b = tq) y) := fun y => by
        have := (H9w.out.off (extC_chg _ _ y) HQN.out.1 HT9.out.nonode).look hi false
        rw [hg] at this
        exact this
      have HPL := Lib.hid fun y : ExtC w9 (fun b => b = tq) => splace (H9w.out.o.chg (extC_chg _ _ y) q1) x.i c
      obtain ⟨p, hp⟩ : ∃ p, plOf n x.i c = p := ⟨_, rfl⟩
      rw [hp] at HPL HST HJ
      clear hkq hi hg hp
      go_wp2_with fail
      refine Mix.regionC (fun b => b = tq) (by kernel_rfl) ?_
      intro wa hba
      refine Mix.take_exC _ _ 0 rfl (by kernel_rfl) (by kernel_rfl) (by kernel_rfl) (by kernel_rfl) (fun K hK => ?_)
      go_simp
      first | (refine hK _ ?_; clear hK K) | (apply Exists.intro; refine ⟨fun x => ?_, hK _ ?_⟩; (fail); clear hK K)
      refine Mix.take_exC _ _ 1 rfl (by kernel_rfl) (by kernel_rfl) (by kernel_rfl) (by kernel_rfl) (fun K hK => ?_)
      go_simp
      first | (refine hK _ ?_; clear hK K) | (apply Exists.intro; refine ⟨fun x => ?_, hK _ ?_⟩; (fail); clear hK K)
      refine Mix.take_exC _ _ 2 rfl (by kernel_rfl) (by kernel_rfl) (by kernel_rfl) (by kernel_rfl) (fun K hK => ?_)
      go_simp
      first | (refine hK _ ?_; clear hK K) | (apply Exists.intro; refine ⟨fun x => ?_, hK _ ?_⟩; (fail); clear hK K)
      refine Mix.take_exC _ _ 3 rfl (by kernel_rfl) (by kernel_rfl) (by kernel_rfl) (by kernel_rfl) (fun K hK => ?_)
      go_simp
      first | (refine hK _ ?_; clear hK K) | (apply Exists.intro; refine ⟨fun x => ?_, hK _ ?_⟩; (fail); clear hK K)
      refine Mix.take_exC _ _ 4 rfl (by kernel_rfl) (by kernel_rfl) (by kernel_rfl) (by kernel_rfl) (fun K hK => ?_)
      go_simp
      first | (refine hK _ ?_; clear hK K) | (apply Exists.intro; refine ⟨fun x => ?_, hK _ ?_⟩; (fail); clear hK K)
      refine Mix.take_exC _ _ 5 rfl (by kernel_rfl) (by kernel_rfl) (by kernel_rfl) (by kernel_rfl) (fun K hK => ?_)
      go_simp
      first | (refine hK _ ?_; clear hK K) | (apply Exists.intro; refine ⟨fun x => ?_, hK _ ?_⟩; (fail); clear hK K)
      refine Mix.take_exC _ _ 6 rfl (by kernel_rfl) (by kernel_rfl) (by kernel_rfl) (by kernel_rfl) (fun K hK => ?_)
      go_simp
      first | (refine hK _ ?_; clear hK K) | (apply Exists.intro; refine ⟨fun x => ?_, hK _ ?_⟩; (fail); clear hK K)
      refine Mix.take_exC _ _ 7 rfl (by kernel_rfl) (by kernel_rfl) (by kernel_rfl) (by kernel_rfl) (fun K hK => ?_)
      go_simp
      first | (refine hK _ ?_; clear hK K) | (apply Exists.intro; refine ⟨fun x => ?_, hK _ ?_⟩; (fail); clear hK K)
      refine Mix.take_exC _ _ 8 rfl (by kernel_rfl) (by kernel_rfl) (by kernel_rfl) (by kernel_rfl) (fun K hK => ?_)
      go_simp
      first | (refine hK _ ?_; clear hK K) | (apply Exists.intro; refine ⟨fun x => ?_, hK _ ?_⟩; (fail); clear hK K)
      refine Mix.take_exC _ _ 9 rfl (by kernel_rfl) (by kernel_rfl) (by kernel_rfl) (by kernel_rfl) (fun K hK => ?_)
      go_simp
      first | (refine hK _ ?_; clear hK K) | (apply Exists.intro; refine ⟨fun x => ?_, hK _ ?_⟩; (fail); clear hK K)
      refine Mix.take_exC _ _ 10 rfl (by kernel_rfl) (by kernel_rfl) (by kernel_rfl) (by kernel_rfl) (fun K hK => ?_)
      go_simp
      first | (refine hK _ ?_; clear hK K) | (apply Exists.intro; refine ⟨fun x => ?_, hK _ ?_⟩; (fail); clear hK K)
      refine Mix.take_exC _ _ 11 rfl (by kernel_rfl) (by kernel_rfl) (by kernel_rfl) (by kernel_rfl) (fun K hK => ?_)
      go_simp
      first | (refine hK _ ?_; clear hK K) | (apply Exists.intro; refine ⟨fun x => ?_, hK _ ?_⟩; (exact HPL.out x); clear hK K)
      refine Mix.all (rs := [12]) (by kernel_rfl) (by simp) (.of_below _ hba) ?_
      intro ic hic wc hbc hCc
      simp only [List.mem_cons, List.not_mem_nil, or_false] at hic
      subst hic
      have HBc := Lib.hid (bt hba hbc)
      clear hCc hba hbc
      refine Mix.op rfl (by kernel_rfl) ?_
      go_simp
      refine (stot1 (HV9.out.below HBc.out) (HT9.out.below HBc.out) HQ.out.1.sl HJ.out HXL.out).mono ?_
      rintro e wd ⟨rfl, htd, hcd⟩
      refine ⟨_, rfl, ?_⟩
      have HTd := Lib.hid htd; have HCd := Lib.hid hcd
      clear htd hcd
      refine Mix.done (by kernel_rfl) ((Chg.of_below _ HBc.out).same HCd.out) ?_
      intro we hbe
      have HTe := Lib.hid (HTd.out.below hbe)
      have HCe := Lib.hid (show Chg (TF tq) w7 we from ((HC9.out.then_below HBc.out).same HCd.out).then_below hbe)
      clear hbe hlk x0 x1 x2 x3 x4 x5 xs k0 k1 k2 k3 ks q1 q2
      go_wp2
      go_roundw
      case rel => exact ⟨t + 1, _, by omega, by go_num, Lib.hid ⟨HST.out, HTe.out, HCe.out⟩⟩
      case measure => simp [intOf]; omega
    · obtain rfl : m = t := by omega
      have hbx := HQ.out.2.2
      have ho8 := H7.out.o.chg hbx (fun e => HQN.out.1.1 e.symm)
      have hv8 := HV7.out.chg hbx (fun e => HQN.out.2 e.symm)
      obtain ⟨x0, x1, x2, x3, x4, x5⟩ := ho8.cells
      have xs := ho8.lt
      have xf := ho8.fz 5
      have v0 := cell_hd hv8 0
      simp only [List.getElem?_toArray, List.getElem?_cons_zero] at v0
      have vs := hv8.lt
      have hset : Chg (fun b => b = sp) w8 (w8.setCell ⟨sp, 5, none⟩ (tptr tq)) := (Chg.refl (fun k => k = sp) w8).setCell (p := ⟨sp, 5, none⟩) (.inl rfl) _
      have HO9 := Lib.hid (ho8.setO tq)
      have HM9 := Lib.hid ((H7.out.m.chg hbx (fun e => HQN.out.1.2.1 e.symm)).chg hset (fun e => HNE.out.1 e.symm))
      have HNS := Lib.hid (show NoNode (fun b => b = sp) w8 from fun b hb cs e => by
        have hb : b = sp := hb
        subst hb; unfold SO at ho8; rw [ho8] at e; injection e with e; injection e with _ e; cases e)
      have HT9 := Lib.hid (HQ.out.2.1.chg hset (fun e => HQN.out.1.1 e) HNS.out)
      have HS9 := Lib.hid hset
      have HTI := Lib.hid (show TI n G L L.length X from HM.out ▸ HQ.out.1)
      have HCF := Lib.hid (show Chg (SF sp M tp) w w8 from HC7.out.trans hbx fun b e => .inr (by have e : b = tq := e; have := HTQ.out; have := HCW.out; omega))
      clear hbx ho8 hv8 hset
      go_wp2
      go_ret
      refine ⟨rfl, tq, X, ⟨HO9.out, HM9.out, HT9.out⟩, HTI.out.done H9.out HSN.out, ?_, ?_⟩
      · exact (HCF.out.trans HS9.out fun b e => .inl (.inl e))
      · have := HTQ.out; have := HCW.out; omega
end
end
section
open Go.RowKit Go.Maps
attribute [local go_sem] ext_cell ext_frozen extC_cell extC_frozen Mix.calmUpon Mix.mUpon
/-- An act: kind, client, weight, sums. -/
structure A9 where
  k : Int
  i : Int
  x : Int
  n : Nat → Int
abbrev av9 (a : A9) : Value := .agg #[.int .i64 a.k, .int .i64 a.i, .int .i64 a.x, .int .i64 (a.n 0), .int .i64 (a.n 1), .int .i64 (a.n 2), .int .i64 (a.n 3)]
abbrev St := Int × (Nat → Int) × (Int → Option Cl)
def stT (T : Nat → Int) (G : Int → Option Cl) (n : Nat → Int) : St := if Sm4 n then (0, n, G) else (41, T, G)
def stP (T : Nat → Int) (G : Int → Option Cl) (i x : Int) : St := if 1 ≤ x ∧ x ≤ 1000 then (match G i with | some _ => (42, T, G) | none => (0, T, upd G i (some (clN x)))) else (41, T, G)
def stD (T : Nat → Int) (G : Int → Option Cl) (i : Int) : St := match G i with | some _ => (0, T, upd G i none) | none => (43, T, G)
def stW (T : Nat → Int) (G : Int → Option Cl) (i x : Int) : St := match G i with | some c => if 1 ≤ x ∧ x ≤ 1000 then (0, T, upd G i (some { c with wt := x })) else (41, T, G) | none => (43, T, G)
def stA (T : Nat → Int) (G : Int → Option Cl) (i : Int) (b : Bool) : St := match G i with | some c => (0, T, upd G i (some { c with aw := b })) | none => (43, T, G)
def stG (T : Nat → Int) (G : Int → Option Cl) (i : Int) (n : Nat → Int) : St := match G i with | some c => if Gv c.s n then (0, T, upd G i (some { c with s := fun k => c.s k + n k })) else (41, T, G) | none => (43, T, G)
def stK (T : Nat → Int) (G : Int → Option Cl) (i : Int) (n : Nat → Int) : St := match G i with | some c => if HOk c.s n then (0, T, upd G i (some { c with s := fun k => c.s k - n k })) else (30, T, G) | none => (43, T, G)
/-- What an act does, plainly. -/
def stp (T : Nat → Int) (G : Int → Option Cl) (a : A9) : St :=
  if a.k = 0 then stT T G a.n else if a.k = 1 then stP T G a.i a.x else if a.k = 2 then stD T G a.i else if a.k = 3 then stW T G a.i a.x
  else if a.k = 4 then stA T G a.i true else if a.k = 5 then stA T G a.i false else if a.k = 6 then stG T G a.i a.n else stK T G a.i a.n
/-- What an act leaves in memory. -/
def RD (sp M tp : Nat) (s : St) (w : World) (e : Ending) (w' : World) : Prop := e = .returned (.int .i64 s.1) ∧ ∃ tq X, SM w' sp M tq s.2.1 s.2.2 X ∧ S9 s.2.1 s.2.2 X ∧ Chg (SF sp M tp) w w' ∧ (tq = tp ∨ w.heap.size ≤ tq)
section
variable {w w' : World} {sp M tp b : Nat} {T n : Nat → Int} {G : Int → Option Cl} {L : List Pl} {c : Cl} {i x : Int} {e : Ending}
theorem RD.of {q : Int} {T' : Nat → Int} {G' : Int → Option Cl} {L' : List Pl} (h9 : S9 T' G' L') (h : SPi q sp M tp T' G' L' w e w') : RD sp M tp (q, T', G') w e w' := ⟨h.1, tp, L', h.2.1, h9, h.2.2, .inl rfl⟩
theorem RD.off {s : St} {w0 : World} (hb : Below w0.heap.size w0 w) (h : RD sp M tp s w e w') : RD sp M tp s w0 e w' := by
  obtain ⟨h1, tq, X, h2, h3, h4, h5⟩ := h
  exact ⟨h1, tq, X, h2, h3, (Chg.of_below _ hb).same h4, h5.imp id fun h => Nat.le_trans hb.size h⟩
variable (h : SM w sp M tp T G L) (h9 : S9 T G L) (hi : I64 i) (hl : L.length < 1000000)
include h h9
theorem rT (hl : L.length < 1000000) : Calls Tryz.prog 47 #[ptr sp, S4 n] w (RD sp M tp (stT T G n) w) := by
  unfold stT
  split
  · rename_i hn
    exact (stotal_ok h h9 hn hl).mono fun e w' ⟨h1, tq, X, h2, h3, h4, h5⟩ => ⟨h1, tq, X, h2, h3, h4, .inr h5⟩
  · rename_i hn
    exact (stotal_no h hn).mono fun e w' hh => .of h9 hh
include hi
theorem rP (hl : L.length < 1000000) : Calls Tryz.prog 46 #[ptr sp, .int .i64 i, .int .i64 x] w (RD sp M tp (stP T G i x) w) := by
  unfold stP
  split
  · rename_i hx
    cases hg : G i with
    | some c => exact (sput_there h hi hx hg).mono fun e w' hh => .of h9 hh
    | none => exact (sput_ok h h9 hi hx hg hl).mono fun e w' hh => .of (h9.set ⟨hx.1, hx.2, fun k _ => ⟨by simp [clN], by simp [clN]⟩, hi⟩) hh
  · rename_i hx
    exact (sput_w h hx).mono fun e w' hh => .of h9 hh
theorem rD (hl : L.length < 1000000) : Calls Tryz.prog 54 #[ptr sp, .int .i64 i] w (RD sp M tp (stD T G i) w) := by
  unfold stD
  cases hg : G i with
  | some c => exact (sdrop_some h h9 hi hg hl).mono fun e w' hh => .of (h9.out i) hh
  | none => exact (sdrop_none h hi hg).mono fun e w' hh => .of h9 hh
theorem rA (a : Bool) (hl : L.length < 1000000) : Calls Tryz.prog 56 #[ptr sp, .int .i64 i, .bool a] w (RD sp M tp (stA T G i a) w) := by
  unfold stA
  cases hg : G i with
  | some c =>
    have hc := h9.ok i c hg
    exact (swake_ok h h9 hi hg hl).mono fun e w' hh => .of (h9.set ⟨hc.w1, hc.w2, hc.sm, hi⟩) hh
  | none => exact (swake_none h hi hg).mono fun e w' hh => .of h9 hh
theorem rG (hl : L.length < 1000000) : Calls Tryz.prog 57 #[ptr sp, .int .i64 i, S4 n] w (RD sp M tp (stG T G i n) w) := by
  unfold stG
  cases hg : G i with
  | some c =>
    have hc := h9.ok i c hg
    by_cases hx : Gv c.s n
    · simp only [if_pos hx]
      exact (sgive_ok h h9 hi hg hx hl).mono fun e w' hh => .of (h9.set ⟨hc.w1, hc.w2, hx.2, hi⟩) hh
    · simp only [if_neg hx]
      exact (sgive_no h h9 hi hg hx).mono fun e w' hh => .of h9 hh
  | none => exact (sgive_none h hi hg).mono fun e w' hh => .of h9 hh
theorem rK (hl : L.length < 1000000) : Calls Tryz.prog 53 #[ptr sp, .int .i64 i, S4 n] w (RD sp M tp (stK T G i n) w) := by
  unfold stK
  cases hg : G i with
  | some c =>
    have hc := h9.ok i c hg
    by_cases hx : HOk c.s n
    · simp only [if_pos hx]
      exact (stake_ok h h9 hi hg hx hl).mono fun e w' hh => .of (h9.set ⟨hc.w1, hc.w2, sm4_sub hc.sm hx, hi⟩) hh
    · simp only [if_neg hx]
      exact (stake_no h hi hg hx).mono fun e w' hh => .of h9 hh
  | none => exact (stake_none h hi hg).mono fun e w' hh => .of h9 hh
end
end
section
open Go.RowKit Go.Maps
attribute [local go_sem] ext_cell ext_frozen extC_cell extC_frozen Mix.calmUpon Mix.mUpon
section
variable {w : World} {sp M tp : Nat} {T : Nat → Int} {G : Int → Option Cl} {L : List Pl}
end
end
section
open Go.RowKit Go.Maps
theorem SL.uniq {J : Pl → Prop} {o : Pl → Pl → Int} (O : OA J o) : ∀ {A B : List Pl}, SL J o A → SL J o B → (∀ x, x ∈ A ↔ x ∈ B) → A = B
  | [], [], _, _, _ => rfl
  | [], b :: B, _, _, h => by have := (h b).2 (by simp); cases this
  | a :: A, [], _, _, h => by have := (h a).1 (by simp); cases this
  | a :: A, b :: B, hA, hB, h => by
    have ja := hA.1 a (by simp)
    have jb := hB.1 b (by simp)
    have pA := List.pairwise_cons.1 hA.2
    have pB := List.pairwise_cons.1 hB.2
    have e : a = b := by
      rcases List.mem_cons.1 ((h a).1 (by simp)) with e | h1
      · exact e
      · rcases List.mem_cons.1 ((h b).2 (by simp)) with e | h2
        · exact e.symm
        · have u := pB.1 a h1
          have v := pA.1 b h2
          have := (O.anti a b ja jb).1 v
          omega
    subst e
    have ne : ∀ x, x ∈ A → x ≠ a := fun x hx e => by
      have := pA.1 x hx
      have z := (O.zero a x ja (hA.1 x (by simp [hx]))).2 e.symm
      omega
    have nb : ∀ x, x ∈ B → x ≠ a := fun x hx e => by
      have := pB.1 x hx
      have z := (O.zero a x ja (hB.1 x (by simp [hx]))).2 e.symm
      omega
    rw [SL.uniq O hA.tail hB.tail fun x => ⟨fun hx => by
      rcases List.mem_cons.1 ((h x).1 (by simp [hx])) with e | h1
      · exact absurd e (ne x hx)
      · exact h1, fun hx => by
      rcases List.mem_cons.1 ((h x).2 (by simp [hx])) with e | h1
      · exact absurd e (nb x hx)
      · exact h1⟩]
section
variable {T n : Nat → Int} {G : Int → Option Cl} {L X : List Pl} {i : Int} {c : Cl}
theorem S9.uniq (h : S9 T G L) (k : S9 T G X) : L = X := SL.uniq (OA_JH (HG T G)) h.sl k.sl fun p => (h.mem p).trans (k.mem p).symm
theorem give_back (h : S9 T G L) (hg : (stG T G i n).1 = 0) : stK (stG T G i n).2.1 (stG T G i n).2.2 i n = (0, T, G) := by
  unfold stG at *
  cases hq : G i with
  | none => rw [hq] at hg; simp at hg
  | some c =>
    rw [hq] at hg
    by_cases hx : Gv c.s n
    · simp only [if_pos hx]
      unfold stK
      rw [upd_at]
      have hc := h.ok i c hq
      have hh : HOk (fun k => c.s k + n k) n := by
        have q : ∀ k, k < 4 → n k ≤ c.s k + n k := fun k hk => by have := (hc.sm k hk).1; omega
        exact ⟨hx.2.ok, hx.1, q 0 (by decide), q 1 (by decide), q 2 (by decide), q 3 (by decide)⟩
      simp only [if_pos hh]
      refine Prod.ext rfl (Prod.ext rfl ?_)
      simp only [upd_upd]
      funext j
      unfold upd
      split
      · rename_i e
        rw [e, hq]
        congr 1
        obtain ⟨a, b, d⟩ := c
        simp only [Int.add_sub_cancel]
      · rfl
    · simp only [if_neg hx] at hg; simp at hg
end
end
end Go.Proofs.YtgfjmafdfbghnaaGreat

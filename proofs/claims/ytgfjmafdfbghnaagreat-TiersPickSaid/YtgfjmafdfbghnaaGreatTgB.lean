/- Texts laid together: Ti6,Ti7,Ti8,Ti9. -/
import Derived.Test.YtgfjmafdfbghnaaGreatTgA
namespace Go.Proofs.YtgfjmafdfbghnaaGreat
section
open Go.RowKit Go.Maps
attribute [local go_sem] ext_cell ext_frozen extC_cell extC_frozen Mix.calmUpon Mix.mUpon
/-- What an act leaves: its answer, the total, the frameworks. -/
def RT (W : World) (p MR MF : Nat) (lab : Nat → Int) (s : Int × (Nat → Int) × List Fd) (w : World) (e : Ending) (w' : World) : Prop :=
  e = .returned (.int .i64 s.1) ∧ ∃ lab' t' Q' fr', TN W w' p MR MF lab' s.2.1 t' Q' fr' ∧ TD s.2.1 s.2.2 t' Q' fr' ∧ (∀ b, b < w.heap.size → lab' b = lab b) ∧ Chg (fun b => -1 ≤ lab b) w w'
section
variable {W w w' : World} {p MR MF : Nat} {lab lab' : Nat → Int} {T n : Nat → Int} {t t' d d' : Hd} {Q : Int → Option Hd} {fr : Int → Option Int} {D D' A B : List Fd} {i r : Int} {c : Cl} {x x' : Fd}
/-- Both sorters are turned. -/
theorem TD.both (h : TD T D t Q fr) (hq : Q r = some d) (ok' : TOk D') (tT : t'.T = T) (tg : t'.g = GT D') (hdom : ∀ q, (GT D' q).isSome = (GT D q).isSome) (dT : d'.T = T) (dg : d'.g = GO D' r) (hgo : ∀ q, q ≠ r → GO D' q = GO D q) (hfr : FR D' = FR D) : TD T D' t' (upd Q r (some d')) fr where
  ok := ok'
  tT := tT
  tg := tg
  dom := fun q => by
    rw [hdom q]
    unfold upd
    split
    · rename_i e
      have := h.dom r
      rw [hq] at this
      rw [e, ← this]; rfl
    · exact h.dom q
  each := fun q a ha => by
    unfold upd at ha
    split at ha
    · rename_i e
      cases ha
      exact ⟨dT, e ▸ dg⟩
    · rename_i e
      have := h.each q a ha
      exact ⟨this.1, this.2.trans (hgo q e).symm⟩
  fr := h.fr.trans hfr.symm
theorem TD.tier (h : TD T D t Q fr) (tT : t'.T = T) (tg : t'.g = t.g) : TD T D t' Q fr := ⟨h.ok, tT, tg.trans h.tg, h.dom, h.each, h.fr⟩
theorem TD.roleSame (h : TD T D t Q fr) (hq : Q r = some d) (dT : d'.T = T) (dg : d'.g = d.g) : TD T D t (upd Q r (some d')) fr :=
  h.both hq h.ok h.tT h.tg (fun _ => rfl) dT (dg.trans (h.each r d hq).2) (fun _ _ => rfl) rfl
theorem few_GO (h : TOk D) : Few (GO D r) D.length := ⟨D.map (·.id), fun i hi => by
  obtain ⟨c, hc⟩ := Option.isSome_iff_exists.1 hi
  obtain ⟨d, hd, _, rfl, _⟩ := (GO_some h).1 hc
  exact List.mem_map_of_mem hd, by simp⟩
theorem few_GT (h : TOk D) : Few (GT D) D.length := ⟨D.map (·.role), fun i hi => by
  obtain ⟨c, hc⟩ := Option.isSome_iff_exists.1 hi
  obtain ⟨d, hd, rfl, _⟩ := (GT_some h).1 hc
  exact List.mem_map_of_mem hd, by simp⟩
theorem TD.lenT (h : TD T D t Q fr) (hn : TN W w p MR MF lab T t Q fr) : t.L.length ≤ D.length := hn.t.s9.few (h.tg ▸ few_GT h.ok)
theorem TD.lenR (h : TD T D t Q fr) (hn : TN W w p MR MF lab T t Q fr) (hq : Q r = some d) : d.L.length ≤ D.length := (hn.each r d hq).1.s9.few ((h.each r d hq).2 ▸ few_GO h.ok)
/-- Where the framework x stands. -/
theorem TD.here (h : TD T (A ++ x :: B) t Q fr) : fr x.id = some x.role ∧ I64 x.id ∧ I64 x.role ∧ 1 ≤ x.role ∧ ∃ d, Q x.role = some d ∧ d.T = T ∧ d.g = GO (A ++ x :: B) x.role ∧ d.g x.id = some (clF x) ∧ t.g x.role = some ⟨x.wt, SU (inR (A ++ x :: B) x.role), true⟩ := by
  have hx : x ∈ A ++ x :: B := by simp
  have hf : fr x.id = some x.role := by rw [h.fr]; exact (FR_some h.ok).2 ⟨x, hx, rfl, rfl⟩
  obtain ⟨d, h1, h2, h3, _⟩ := h.role hf
  exact ⟨hf, h.ok.i64 x hx, i64_role (h.ok.r1 x hx), (h.ok.r1 x hx).1, d, h1, h2, h3, by rw [h3]; exact GO_here h.ok, by rw [h.tg]; exact GT_here h.ok⟩
theorem GO_set_ne (h : TOk (A ++ x :: B)) (ha : Alike x x') : ∀ q, q ≠ x.role → GO (A ++ x' :: B) q = GO (A ++ x :: B) q := fun q hq => by rw [GO_set h ha, if_neg hq]
theorem GO_set_at (h : TOk (A ++ x :: B)) (ha : Alike x x') : GO (A ++ x' :: B) x.role = upd (GO (A ++ x :: B) x.role) x.id (some (clF x')) := by rw [GO_set h ha, if_pos rfl]
theorem dom_upd {g g' : Int → Option Cl} {c c' : Cl} (hg : g r = some c) (he : g' = upd g r (some c')) : ∀ q, (g' q).isSome = (g q).isSome := fun q => by
  rw [he]; unfold upd
  split
  · rename_i e; rw [e, hg]; rfl
  · rfl
set_option maxRecDepth 100000 in
set_option maxHeartbeats 1000000 in
theorem tiwake_no (h : TN W w p MR MF lab T t Q fr) (hd : TD T D t Q fr) (hi : I64 i) (hf : fr i = none) (q : Bool) : Calls Tryz.prog 30 #[ptr p, .int .i64 i, .bool q] w (RT W p MR MF lab (43, T, D) w) := by
  have HF := Lib.hid (tifind_none h hi hf)
  have H := Lib.hid h; have HD := Lib.hid hd
  clear h hi hf hd
  go_enter Tryz.func30, Tryz.ntmps30
  go_wp2_with fail
  refine HF.out.mono ?_
  rintro e w1 ⟨rfl, hb1⟩
  have HB1 := Lib.hid hb1
  clear hb1
  go_wp2
  go_ret
  exact ⟨rfl, lab, t, Q, fr, H.out.below HB1.out, HD.out, fun _ _ => rfl, .of_below _ HB1.out⟩
set_option maxRecDepth 100000 in
set_option maxHeartbeats 1000000 in
theorem tiwake_ok (h : TN W w p MR MF lab T t Q fr) (hd : TD T (A ++ x :: B) t Q fr) (hl : (A ++ x :: B).length < 900000) (q : Bool) : Calls Tryz.prog 30 #[ptr p, .int .i64 x.id, .bool q] w (RT W p MR MF lab (0, T, A ++ { x with aw := q } :: B) w) := by
  obtain ⟨hf, hi, hr, hr1, d, hq, dT, dg, dgx, -⟩ := hd.here
  have ha : Alike x { x with aw := q } := ⟨rfl, rfl, rfl⟩
  have hst : stA d.T d.g x.id q = (0, T, GO (A ++ { x with aw := q } :: B) x.role) := by
    unfold stA
    rw [dgx, GO_set_at hd.ok ha, dT, dg]; rfl
  have hws := fun w' (h' : TN W w' p MR MF lab T t Q fr) => rA (h'.each x.role d hq).1.sm (h'.each x.role d hq).1.s9 hi q (Nat.lt_of_le_of_lt (hd.lenR h' hq) (by omega))
  rw [hst] at hws
  have hsu := SU_same (A := A) (B := B) (r := x.role) ha rfl
  have hok := hd.ok.set ha (hd.ok.sm x (by simp)) (by rw [hsu]; exact hd.ok.su _)
  have HTD := Lib.hid fun d' (dT : d'.T = T) (dg : d'.g = GO (A ++ { x with aw := q } :: B) x.role) => hd.both (d' := d') (t' := t) hq hok hd.tT (by
    rw [hd.tg, GT_set hd.ok ha (hd.ok.sm x (by simp)) (by rw [hsu]; exact hd.ok.su _), hsu]
    funext j; unfold upd
    split
    · rename_i e; rw [e, GT_here hd.ok]
    · rfl) (dom_upd (GT_here hd.ok) (GT_set hd.ok ha (hd.ok.sm x (by simp)) (by rw [hsu]; exact hd.ok.su _))) dT dg (GO_set_ne hd.ok ha) (FR_set hd.ok ha)
  have HF := Lib.hid (tifind_some h hi hf hq hr)
  obtain ⟨s, hs⟩ : ∃ s : St, s = (0, T, GO (A ++ { x with aw := q } :: B) x.role) := ⟨_, rfl⟩
  rw [← hs] at hws
  have HS := Lib.hid hs
  have HW := Lib.hid hws; have H := Lib.hid h; have HQ := Lib.hid hq; have HR1 := Lib.hid hr1
  have hs1 : s.1 = 0 := by rw [hs]
  have HS1 := Lib.hid hs1
  clear h hd hf hi hr hr1 hq dT dg dgx ha hst hws hsu hok hs hs1
  go_enter Tryz.func30, Tryz.ntmps30
  go_wp2_with fail
  refine HF.out.mono ?_
  rintro e w1 ⟨rfl, hb1⟩
  have H1 := Lib.hid (H.out.below hb1)
  have HB1 := Lib.hid hb1
  clear hb1
  go_wp2_with fail
  refine (HW.out _ H1.out).mono ?_
  rintro e w2 hr2
  obtain ⟨rfl, d', lab', hT, hg, hTN, hlab, hchg⟩ := H1.out.role HQ.out hr2
  have HE := Lib.hid (show RT W p MR MF lab (0, T, A ++ { x with aw := q } :: B) w (.returned (.int .i64 0)) w2 from
    ⟨rfl, lab', t, _, fr, hTN, HTD.out d' (by rw [hT, HS.out]) (by rw [hg, HS.out]), fun b hb => hlab b (Nat.lt_of_lt_of_le hb HB1.out.size), (Chg.of_below _ HB1.out).same (hchg.mono fun b e => by have := HR1.out; omega)⟩)
  rw [HS1.out]
  clear hr2 hT hg hTN hlab hchg
  go_wp2
  go_ret
  exact HE.out
end
end
section
open Go.RowKit Go.Maps
attribute [local go_sem] ext_cell ext_frozen extC_cell extC_frozen Mix.calmUpon Mix.mUpon
theorem Chg.lab {w w1 w2 : World} {lab lab' : Nat → Int} {G : Nat → Prop} (h0 : Chg (fun b => -1 ≤ lab b) w w1) (hl : ∀ b, b < w.heap.size → lab' b = lab b) (hG : ∀ b, G b → -1 ≤ lab' b) (h1 : Chg G w1 w2) : Chg (fun b => -1 ≤ lab b) w w2 :=
  h0.trans h1 fun b e => by
    by_cases hb : b < w.heap.size
    · exact .inl (by have := hG b e; rw [hl b hb] at this; exact this)
    · exact .inr (by omega)
theorem NB.chg {w w' : World} {b : Nat} {n : Nat → Int} {F : Nat → Prop} (h : NB w b n) (hc : Chg F w w') (hf : ¬ F b) : NB w' b n := (hc.block _ h.lt hf).trans h
section
variable {W w w' : World} {p MR MF : Nat} {lab lab' : Nat → Int} {T n : Nat → Int} {t t' d d' : Hd} {Q : Int → Option Hd} {fr : Int → Option Int} {D D' A B : List Fd} {i r : Int} {c : Cl} {x x' : Fd}
-- the sums n lie in nb; H : TN at w1; none there
set_option maxRecDepth 100000 in
set_option maxHeartbeats 1000000 in
theorem tigive_none (h : TN W w p MR MF lab T t Q fr) (hd : TD T D t Q fr) (hi : I64 i) (hf : fr i = none) : Calls Tryz.prog 31 #[ptr p, .int .i64 i, S4 n] w (RT W p MR MF lab (43, T, D) w) := by
  have hb := ba (Below.refl w.heap.size w) (.cells (C4 n) 67)
  have HF := Lib.hid (tifind_none (h.below hb) hi hf)
  have H := Lib.hid h; have HD := Lib.hid hd; have HB := Lib.hid hb
  clear h hi hf hd hb
  go_enter Tryz.func31, Tryz.ntmps31
  go_upto_region 1 with (fail)
  generalize w.alloc (.cells (C4 n) 67) = w0 at *
  go_wp2_with fail
  refine HF.out.mono ?_
  rintro e w1 ⟨rfl, hb1⟩
  have HB1 := Lib.hid (bt HB.out hb1)
  clear hb1
  go_wp2
  go_ret
  exact ⟨rfl, lab, t, Q, fr, H.out.below HB1.out, HD.out, fun _ _ => rfl, .of_below _ HB1.out⟩
set_option maxRecDepth 100000 in
set_option maxHeartbeats 1000000 in
theorem titake_none (h : TN W w p MR MF lab T t Q fr) (hd : TD T D t Q fr) (hi : I64 i) (hf : fr i = none) : Calls Tryz.prog 32 #[ptr p, .int .i64 i, S4 n] w (RT W p MR MF lab (43, T, D) w) := by
  have hb := ba (Below.refl w.heap.size w) (.cells (C4 n) 67)
  have HF := Lib.hid (tifind_none (h.below hb) hi hf)
  have H := Lib.hid h; have HD := Lib.hid hd; have HB := Lib.hid hb
  clear h hi hf hd hb
  go_enter Tryz.func32, Tryz.ntmps32
  go_upto_region 1 with (fail)
  generalize w.alloc (.cells (C4 n) 67) = w0 at *
  go_wp2_with fail
  refine HF.out.mono ?_
  rintro e w1 ⟨rfl, hb1⟩
  have HB1 := Lib.hid (bt HB.out hb1)
  clear hb1
  go_wp2
  go_ret
  exact ⟨rfl, lab, t, Q, fr, H.out.below HB1.out, HD.out, fun _ _ => rfl, .of_below _ HB1.out⟩
theorem gv_less {a b n : Nat → Int} (ha : ∀ k, k < 4 → 0 ≤ a k ∧ a k ≤ b k) (h : Gv b n) : Gv a n := ⟨h.1, fun k hk => by
  have h1 := h.2 k hk; have h2 := ha k hk; have h3 := sok_at h.1 k hk
  obtain ⟨h3, _⟩ := h3
  constructor <;> (show _ ≤ _; simp only at h1 ⊢; omega)⟩
theorem TD.le (h : TD T (A ++ x :: B) t Q fr) : ∀ k, k < 4 → 0 ≤ x.s k ∧ x.s k ≤ SU (inR (A ++ x :: B) x.role) k := fun k hk =>
  ⟨(h.ok.sm x (by simp) k hk).1, le_SU h.ok (by simp) hk⟩
/-- The framework has r more, and so has its role. -/
theorem TD.more (h : TD T (A ++ x :: B) t Q fr) {v : Nat → Int} (hx : Sm4 v) (hq : Q x.role = some d) (hu : Sm4 fun k => SU (inR (A ++ x :: B) x.role) k + (v k - x.s k)) (tT : t'.T = T) (tg : t'.g = upd (GT (A ++ x :: B)) x.role (some ⟨x.wt, fun k => SU (inR (A ++ x :: B) x.role) k + (v k - x.s k), true⟩))
    (dT : d'.T = T) (dg : d'.g = upd (GO (A ++ x :: B) x.role) x.id (some { clF x with s := v })) : TD T (A ++ { x with s := v } :: B) t' (upd Q x.role (some d')) fr := by
  have ha : Alike x { x with s := v } := ⟨rfl, rfl, rfl⟩
  have hs : SU (inR (A ++ { x with s := v } :: B) x.role) = fun k => SU (inR (A ++ x :: B) x.role) k + (v k - x.s k) := by
    funext k
    rw [SU_set ha, if_pos rfl]
  have hu' : Sm4 (SU (inR (A ++ { x with s := v } :: B) x.role)) := by rw [hs]; exact hu
  have hg := GT_set h.ok ha hx hu'
  exact h.both hq (h.ok.set ha hx hu') tT (by rw [tg, hg, hs]) (dom_upd (GT_here h.ok) hg) dT (by rw [dg, GO_set_at h.ok ha]; rfl) (GO_set_ne h.ok ha) (FR_set h.ok ha)
-- n lies in nb, whose label is -5; the framework x was found: H2 at w2
-- a call on the sorter of roles, by the contract HC, in a drawn region: calls stands at OP, behind it TO; from w2 to w6
set_option maxRecDepth 100000 in
set_option maxHeartbeats 1000000 in
theorem tigive_ok (h : TN W w p MR MF lab T t Q fr) (hd : TD T (A ++ x :: B) t Q fr) (hl : (A ++ x :: B).length < 900000) (hG : Gv (SU (inR (A ++ x :: B) x.role)) n) : Calls Tryz.prog 31 #[ptr p, .int .i64 x.id, S4 n] w (RT W p MR MF lab (0, T, A ++ { x with s := fun k => x.s k + n k } :: B) w) := by
  obtain ⟨hf, hi, hr, hr1, d, hq, dT, dg, dgx, htg⟩ := hd.here
  have hle := hd.le
  have hb := ba (Below.refl w.heap.size w) (.cells (C4 n) 67)
  obtain ⟨lb, hlb⟩ : ∃ lb : Nat → Int, lb = fun b => if b < w.heap.size then lab b else -5 := ⟨_, rfl⟩
  have HL0 := Lib.hid (show ∀ b, b < w.heap.size → lb b = lab b from fun b hb => by rw [hlb]; exact if_pos hb)
  have HL1 := Lib.hid (show lb w.heap.size = -5 from by rw [hlb]; exact if_neg (Nat.lt_irrefl _))
  have hrl : TN W (w.alloc (.cells (C4 n) 67)) p MR MF lb T t Q fr := (h.relab HL0.out).below hb
  have H := Lib.hid hrl
  have HB := Lib.hid hb
  have HNB := Lib.hid (NB.made w n)
  have HF := Lib.hid (tifind_some hrl hi hf hq hr)
  have HQ := Lib.hid hq; have HR1 := Lib.hid hr1; have HTD := Lib.hid hd
  have hlt := fun (w' : World) (lab' : Nat → Int) (Q' : Int → Option Hd) (h' : TN W w' p MR MF lab' T t Q' fr) => Nat.lt_of_le_of_lt (h'.t.s9.few (hd.tg ▸ few_GT hd.ok)) (Nat.lt_trans hl (show 900000 < 1000000 by decide))
  have hlr := fun (w' : World) (lab' : Nat → Int) (t' : Hd) (h' : TN W w' p MR MF lab' T t' Q fr) => Nat.lt_of_le_of_lt ((h'.each x.role d hq).1.s9.few ((hd.each x.role d hq).2 ▸ few_GO hd.ok)) (Nat.lt_trans hl (show 900000 < 1000000 by decide))
  have hGx := gv_less hle hG
  obtain ⟨s1, hs1⟩ : ∃ s : St, s = stG t.T t.g x.role n := ⟨_, rfl⟩
  obtain ⟨s2, hs2⟩ : ∃ s : St, s = stG d.T d.g x.id n := ⟨_, rfl⟩
  have hc := fun (w' : World) (lab' : Nat → Int) (h' : TN W w' p MR MF lab' T t Q fr) => rG (n := n) h'.t.sm h'.t.s9 hr (hlt w' lab' Q h')
  have hc2 := fun (w' : World) (lab' : Nat → Int) (t' : Hd) (h' : TN W w' p MR MF lab' T t' Q fr) => rG (n := n) (h'.each x.role d hq).1.sm (h'.each x.role d hq).1.s9 hi (hlr w' lab' t' h')
  rw [← hs1] at hc
  rw [← hs2] at hc2
  have e1 : s1 = (0, T, upd (GT (A ++ x :: B)) x.role (some ⟨x.wt, fun k => SU (inR (A ++ x :: B) x.role) k + n k, true⟩)) := by
    rw [hs1]; unfold stG; rw [htg]; simp only [if_pos hG]; rw [hd.tT, hd.tg]
  have e2 : s2 = (0, T, upd (GO (A ++ x :: B) x.role) x.id (some { clF x with s := fun k => x.s k + n k })) := by
    rw [hs2]; unfold stG; rw [dgx]; refine (if_pos hGx).trans ?_; rw [dT, dg]; rfl
  have z1 : s1.1 = 0 := by rw [e1]
  have z2 : s2.1 = 0 := by rw [e2]
  have HE1 := Lib.hid e1; have HE2 := Lib.hid e2; have HZ1 := Lib.hid z1; have HZ2 := Lib.hid z2
  have HC := Lib.hid hc; have HC2 := Lib.hid hc2; have HGX := Lib.hid hGx; have HGG := Lib.hid hG
  clear h hd hf hi hr hr1 hq hb hrl hlb hlt hlr hc hc2 hs1 hs2 e1 e2 z1 z2 dT dg dgx htg hle hGx hG
  go_enter Tryz.func31, Tryz.ntmps31
  go_upto_region 1 with (fail)
  generalize w.alloc (.cells (C4 n) 67) = w0 at *
  obtain ⟨nb, hnb⟩ : ∃ b, b = w.heap.size := ⟨_, rfl⟩
  rw [← hnb] at HNB HL1 ⊢
  have HNQ := Lib.hid hnb
  clear hnb
  go_wp2_with fail
  refine HF.out.mono ?_
  rintro e w2 ⟨rfl, hb2⟩
  have H2 := Lib.hid (H.out.below hb2)
  have HN2 := Lib.hid (HNB.out.below hb2)
  have HCH2 := Lib.hid (Chg.of_below (fun b => -1 ≤ lab b) (bt HB.out hb2))
  clear hb2 HF H HNB HB
  obtain ⟨F, hF⟩ : ∃ F : Nat → Prop, F = fun b => lb b = 0 := ⟨_, rfl⟩
  have q1 : ¬ F p := by rw [hF]; have := H2.out.l0.1; intro e; have e : lb p = 0 := e; omega
  have q2 : ¬ F nb := by rw [hF]; have := HL1.out; intro e; have e : lb nb = 0 := e; omega
  have HFQ := Lib.hid hF
  clear hF
  obtain ⟨x0, x1, x2, x3, x4, x5, x6⟩ := H2.out.b.cells
  have xl := H2.out.b.lt
  obtain ⟨n0, n1', n2, n3⟩ := HN2.out.cells
  have nl := HN2.out.lt
  go_wp2_with fail
  refine Mix.regionC F (by kernel_rfl) ?_
  intro w3 hb3
  refine Mix.take_exC _ _ 0 rfl (by kernel_rfl) (by kernel_rfl) (by kernel_rfl) (by kernel_rfl) (fun K hK => ?_)
  go_simp
  first | (refine hK _ ?_; clear hK K) | (apply Exists.intro; refine ⟨fun x => ?_, hK _ ?_⟩; (fail); clear hK K)
  refine Mix.take_exC _ _ 1 rfl (by kernel_rfl) (by kernel_rfl) (by kernel_rfl) (by kernel_rfl) (fun K hK => ?_)
  go_simp
  first | (refine hK _ ?_; clear hK K) | (apply Exists.intro; refine ⟨fun x => ?_, hK _ ?_⟩; (fail); clear hK K)
  refine Mix.take_exC _ _ 2 rfl (by kernel_rfl) (by kernel_rfl) (by kernel_rfl) (by kernel_rfl) (fun K hK => ?_)
  go_simp
  first | (refine hK _ ?_; clear hK K) | (apply Exists.intro; refine ⟨fun x => ?_, hK _ ?_⟩; (fail); clear hK K)
  refine Mix.take_exC _ _ 3 rfl (by kernel_rfl) (by kernel_rfl) (by kernel_rfl) (by kernel_rfl) (fun K hK => ?_)
  go_simp
  first | (refine hK _ ?_; clear hK K) | (apply Exists.intro; refine ⟨fun x => ?_, hK _ ?_⟩; (fail); clear hK K)
  refine Mix.take_exC _ _ 4 rfl (by kernel_rfl) (by kernel_rfl) (by kernel_rfl) (by kernel_rfl) (fun K hK => ?_)
  go_simp
  first | (refine hK _ ?_; clear hK K) | (apply Exists.intro; refine ⟨fun x => ?_, hK _ ?_⟩; (fail); clear hK K)
  refine Mix.take_exC _ _ 5 rfl (by kernel_rfl) (by kernel_rfl) (by kernel_rfl) (by kernel_rfl) (fun K hK => ?_)
  go_simp
  first | (refine hK _ ?_; clear hK K) | (apply Exists.intro; refine ⟨fun x => ?_, hK _ ?_⟩; (fail); clear hK K)
  refine Mix.all (rs := [6]) (by kernel_rfl) (by simp) (.of_below _ hb3) ?_
  intro i4 hi4 w4 hb4 hC4
  simp only [List.mem_cons, List.not_mem_nil, or_false] at hi4
  subst hi4
  have HB4 := Lib.hid (bt hb3 hb4)
  have H4 := Lib.hid (H2.out.below HB4.out)
  have HN4 := Lib.hid (HN2.out.below HB4.out)
  clear hC4 hb3 hb4
  refine Mix.op rfl (by kernel_rfl) ?_
  go_simp
  refine (HC.out w4 lb H4.out).mono ?_
  rintro e w5 hr5
  obtain ⟨rfl, t', lab5, hT5, hg5, hTN5, hlab5, hchg5⟩ := H4.out.tier hr5
  refine ⟨_, rfl, ?_⟩
  have hchF : Chg F w4 w5 := by rw [HFQ.out]; exact hchg5
  have HCF := Lib.hid hchF
  have HN5 := Lib.hid (HN4.out.chg hchF q2)
  have HT5 := Lib.hid hT5; have HG5 := Lib.hid hg5; have HTN5 := Lib.hid hTN5; have HLB5 := Lib.hid hlab5; have HCH5 := Lib.hid hchg5
  clear hr5 hchF hT5 hg5 hTN5 hlab5 hchg5
  refine Mix.take_exC _ _ 7 rfl (by kernel_rfl) (by kernel_rfl) (by kernel_rfl) (by kernel_rfl) (fun K hK => ?_)
  go_simp
  first | (refine hK _ ?_; clear hK K) | (apply Exists.intro; refine ⟨fun x => ?_, hK _ ?_⟩; (fail); clear hK K)
  refine Mix.done (by kernel_rfl) ((Chg.of_below _ HB4.out).same HCF.out) ?_
  intro w6 hb6
  have H6 := Lib.hid (HTN5.out.below hb6)
  have HN6 := Lib.hid (HN5.out.below hb6)
  have HL6 := Lib.hid (show ∀ b, b < w.heap.size → lab5 b = lab b from fun b hb => (HLB5.out b (by have := HCH2.out.size; have := HB4.out.size; omega)).trans (HL0.out b hb))
  have HCH6 := Lib.hid (((HCH2.out.same (Chg.of_below _ HB4.out)).lab HL0.out (fun b e => by have e : lb b = 0 := e; omega) HCH5.out).same (Chg.of_below _ hb6))
  clear hb6 x0 x1 x2 x3 x4 x5 x6 xl n0 n1' n2 n3 nl q1 q2 HCF HFQ HB4 H4 HN4 HN5 HTN5 HCH5
  rw [HZ1.out]
  obtain ⟨n0, n1', n2, n3⟩ := HN6.out.cells
  have nl := HN6.out.lt
  go_wp2_with fail
  refine (HC2.out w6 lab5 t' H6.out).mono ?_
  rintro e w7 hr7
  obtain ⟨rfl, d', lab7, hT7, hg7, hTN7, hlab7, hchg7⟩ := H6.out.role HQ.out hr7
  have HE := Lib.hid (show RT W p MR MF lab (0, T, A ++ { x with s := fun k => x.s k + n k } :: B) w (.returned (.int .i64 0)) w7 from by
    have hg5 : t'.g = upd (GT (A ++ x :: B)) x.role (some ⟨x.wt, fun k => SU (inR (A ++ x :: B) x.role) k + ((x.s k + n k) - x.s k), true⟩) := by
      rw [HG5.out, HE1.out]
      have hfn : (fun k => SU (inR (A ++ x :: B) x.role) k + n k) = fun k => SU (inR (A ++ x :: B) x.role) k + ((x.s k + n k) - x.s k) := by funext k; omega
      show upd (GT (A ++ x :: B)) x.role (some (⟨x.wt, fun k => SU (inR (A ++ x :: B) x.role) k + n k, true⟩ : Cl)) = _
      rw [hfn]
    refine ⟨rfl, lab7, t', _, fr, hTN7, HTD.out.more (v := fun k => x.s k + n k) (fun k hk => HGX.out.2 k hk) HQ.out (fun k hk => ?_) (by rw [HT5.out, HE1.out]) hg5 (by rw [hT7, HE2.out]) (by rw [hg7, HE2.out]), fun b hb => ?_, HCH6.out.lab HL6.out (fun b e => by have e : lab5 b = x.role := e; have := HR1.out; omega) hchg7⟩
    · have := HGG.out.2 k hk
      show 0 ≤ _ + (x.s k + n k - x.s k) ∧ _ + (x.s k + n k - x.s k) ≤ _
      have e : SU (inR (A ++ x :: B) x.role) k + (x.s k + n k - x.s k) = SU (inR (A ++ x :: B) x.role) k + n k := by omega
      rw [e]; exact this
    · exact (hlab7 b (by have := HCH6.out.size; omega)).trans (HL6.out b hb))
  rw [HZ2.out]
  clear hr7 hT7 hg7 hTN7 hlab7 hchg7 n0 n1' n2 n3 nl
  go_wp2
  go_ret
  exact HE.out
set_option maxRecDepth 100000 in
set_option maxHeartbeats 1000000 in
theorem tigive_no (h : TN W w p MR MF lab T t Q fr) (hd : TD T (A ++ x :: B) t Q fr) (hl : (A ++ x :: B).length < 900000) (hG : ¬ Gv (SU (inR (A ++ x :: B) x.role)) n) : Calls Tryz.prog 31 #[ptr p, .int .i64 x.id, S4 n] w (RT W p MR MF lab (41, T, A ++ x :: B) w) := by
  obtain ⟨hf, hi, hr, hr1, d, hq, dT, dg, dgx, htg⟩ := hd.here
  have hle := hd.le
  have hb := ba (Below.refl w.heap.size w) (.cells (C4 n) 67)
  obtain ⟨lb, hlb⟩ : ∃ lb : Nat → Int, lb = fun b => if b < w.heap.size then lab b else -5 := ⟨_, rfl⟩
  have HL0 := Lib.hid (show ∀ b, b < w.heap.size → lb b = lab b from fun b hb => by rw [hlb]; exact if_pos hb)
  have HL1 := Lib.hid (show lb w.heap.size = -5 from by rw [hlb]; exact if_neg (Nat.lt_irrefl _))
  have hrl : TN W (w.alloc (.cells (C4 n) 67)) p MR MF lb T t Q fr := (h.relab HL0.out).below hb
  have H := Lib.hid hrl
  have HB := Lib.hid hb
  have HNB := Lib.hid (NB.made w n)
  have HF := Lib.hid (tifind_some hrl hi hf hq hr)
  have HQ := Lib.hid hq; have HR1 := Lib.hid hr1; have HTD := Lib.hid hd
  have hlt := fun (w' : World) (lab' : Nat → Int) (Q' : Int → Option Hd) (h' : TN W w' p MR MF lab' T t Q' fr) => Nat.lt_of_le_of_lt (h'.t.s9.few (hd.tg ▸ few_GT hd.ok)) (Nat.lt_trans hl (show 900000 < 1000000 by decide))
  have hlr := fun (w' : World) (lab' : Nat → Int) (t' : Hd) (h' : TN W w' p MR MF lab' T t' Q fr) => Nat.lt_of_le_of_lt ((h'.each x.role d hq).1.s9.few ((hd.each x.role d hq).2 ▸ few_GO hd.ok)) (Nat.lt_trans hl (show 900000 < 1000000 by decide))
  obtain ⟨s1, hs1⟩ : ∃ s : St, s = stG t.T t.g x.role n := ⟨_, rfl⟩
  have hc := fun (w' : World) (lab' : Nat → Int) (h' : TN W w' p MR MF lab' T t Q fr) => rG (n := n) h'.t.sm h'.t.s9 hr (hlt w' lab' Q h')
  rw [← hs1] at hc
  have e1 : s1 = (41, t.T, t.g) := by
    rw [hs1]; unfold stG; rw [htg]; simp only [if_neg hG]
  have z1 : s1.1 = 41 := by rw [e1]
  have HE1 := Lib.hid e1; have HZ1 := Lib.hid z1; have HTT := Lib.hid hd.tT
  have HC := Lib.hid hc
  clear h hd hf hi hr hr1 hq hb hrl hlb hlt hlr hc hs1 e1 z1 dT dg dgx htg hle hG
  go_enter Tryz.func31, Tryz.ntmps31
  go_upto_region 1 with (fail)
  generalize w.alloc (.cells (C4 n) 67) = w0 at *
  obtain ⟨nb, hnb⟩ : ∃ b, b = w.heap.size := ⟨_, rfl⟩
  rw [← hnb] at HNB HL1 ⊢
  have HNQ := Lib.hid hnb
  clear hnb
  go_wp2_with fail
  refine HF.out.mono ?_
  rintro e w2 ⟨rfl, hb2⟩
  have H2 := Lib.hid (H.out.below hb2)
  have HN2 := Lib.hid (HNB.out.below hb2)
  have HCH2 := Lib.hid (Chg.of_below (fun b => -1 ≤ lab b) (bt HB.out hb2))
  clear hb2 HF H HNB HB
  obtain ⟨F, hF⟩ : ∃ F : Nat → Prop, F = fun b => lb b = 0 := ⟨_, rfl⟩
  have q1 : ¬ F p := by rw [hF]; have := H2.out.l0.1; intro e; have e : lb p = 0 := e; omega
  have q2 : ¬ F nb := by rw [hF]; have := HL1.out; intro e; have e : lb nb = 0 := e; omega
  have HFQ := Lib.hid hF
  clear hF
  obtain ⟨x0, x1, x2, x3, x4, x5, x6⟩ := H2.out.b.cells
  have xl := H2.out.b.lt
  obtain ⟨n0, n1', n2, n3⟩ := HN2.out.cells
  have nl := HN2.out.lt
  go_wp2_with fail
  refine Mix.regionC F (by kernel_rfl) ?_
  intro w3 hb3
  refine Mix.take_exC _ _ 0 rfl (by kernel_rfl) (by kernel_rfl) (by kernel_rfl) (by kernel_rfl) (fun K hK => ?_)
  go_simp
  first | (refine hK _ ?_; clear hK K) | (apply Exists.intro; refine ⟨fun x => ?_, hK _ ?_⟩; (fail); clear hK K)
  refine Mix.take_exC _ _ 1 rfl (by kernel_rfl) (by kernel_rfl) (by kernel_rfl) (by kernel_rfl) (fun K hK => ?_)
  go_simp
  first | (refine hK _ ?_; clear hK K) | (apply Exists.intro; refine ⟨fun x => ?_, hK _ ?_⟩; (fail); clear hK K)
  refine Mix.take_exC _ _ 2 rfl (by kernel_rfl) (by kernel_rfl) (by kernel_rfl) (by kernel_rfl) (fun K hK => ?_)
  go_simp
  first | (refine hK _ ?_; clear hK K) | (apply Exists.intro; refine ⟨fun x => ?_, hK _ ?_⟩; (fail); clear hK K)
  refine Mix.take_exC _ _ 3 rfl (by kernel_rfl) (by kernel_rfl) (by kernel_rfl) (by kernel_rfl) (fun K hK => ?_)
  go_simp
  first | (refine hK _ ?_; clear hK K) | (apply Exists.intro; refine ⟨fun x => ?_, hK _ ?_⟩; (fail); clear hK K)
  refine Mix.take_exC _ _ 4 rfl (by kernel_rfl) (by kernel_rfl) (by kernel_rfl) (by kernel_rfl) (fun K hK => ?_)
  go_simp
  first | (refine hK _ ?_; clear hK K) | (apply Exists.intro; refine ⟨fun x => ?_, hK _ ?_⟩; (fail); clear hK K)
  refine Mix.take_exC _ _ 5 rfl (by kernel_rfl) (by kernel_rfl) (by kernel_rfl) (by kernel_rfl) (fun K hK => ?_)
  go_simp
  first | (refine hK _ ?_; clear hK K) | (apply Exists.intro; refine ⟨fun x => ?_, hK _ ?_⟩; (fail); clear hK K)
  refine Mix.all (rs := [6]) (by kernel_rfl) (by simp) (.of_below _ hb3) ?_
  intro i4 hi4 w4 hb4 hC4
  simp only [List.mem_cons, List.not_mem_nil, or_false] at hi4
  subst hi4
  have HB4 := Lib.hid (bt hb3 hb4)
  have H4 := Lib.hid (H2.out.below HB4.out)
  have HN4 := Lib.hid (HN2.out.below HB4.out)
  clear hC4 hb3 hb4
  refine Mix.op rfl (by kernel_rfl) ?_
  go_simp
  refine (HC.out w4 lb H4.out).mono ?_
  rintro e w5 hr5
  obtain ⟨rfl, t', lab5, hT5, hg5, hTN5, hlab5, hchg5⟩ := H4.out.tier hr5
  refine ⟨_, rfl, ?_⟩
  have hchF : Chg F w4 w5 := by rw [HFQ.out]; exact hchg5
  have HCF := Lib.hid hchF
  have HN5 := Lib.hid (HN4.out.chg hchF q2)
  have HT5 := Lib.hid hT5; have HG5 := Lib.hid hg5; have HTN5 := Lib.hid hTN5; have HLB5 := Lib.hid hlab5; have HCH5 := Lib.hid hchg5
  clear hr5 hchF hT5 hg5 hTN5 hlab5 hchg5
  refine Mix.take_exC _ _ 7 rfl (by kernel_rfl) (by kernel_rfl) (by kernel_rfl) (by kernel_rfl) (fun K hK => ?_)
  go_simp
  first | (refine hK _ ?_; clear hK K) | (apply Exists.intro; refine ⟨fun x => ?_, hK _ ?_⟩; (fail); clear hK K)
  refine Mix.done (by kernel_rfl) ((Chg.of_below _ HB4.out).same HCF.out) ?_
  intro w6 hb6
  have H6 := Lib.hid (HTN5.out.below hb6)
  have HN6 := Lib.hid (HN5.out.below hb6)
  have HL6 := Lib.hid (show ∀ b, b < w.heap.size → lab5 b = lab b from fun b hb => (HLB5.out b (by have := HCH2.out.size; have := HB4.out.size; omega)).trans (HL0.out b hb))
  have HCH6 := Lib.hid (((HCH2.out.same (Chg.of_below _ HB4.out)).lab HL0.out (fun b e => by have e : lb b = 0 := e; omega) HCH5.out).same (Chg.of_below _ hb6))
  clear hb6 x0 x1 x2 x3 x4 x5 x6 xl n0 n1' n2 n3 nl q1 q2 HCF HFQ HB4 H4 HN4 HN5 HTN5 HCH5
  rw [HZ1.out]
  go_wp2
  go_ret
  exact ⟨rfl, lab5, t', Q, fr, H6.out, HTD.out.tier (by rw [HT5.out, HE1.out]; exact HTT.out) (by rw [HG5.out, HE1.out]), HL6.out, HCH6.out⟩
set_option maxRecDepth 100000 in
set_option maxHeartbeats 1000000 in
theorem titake_no (h : TN W w p MR MF lab T t Q fr) (hd : TD T (A ++ x :: B) t Q fr) (hl : (A ++ x :: B).length < 900000) (hG : ¬ HOk x.s n) : Calls Tryz.prog 32 #[ptr p, .int .i64 x.id, S4 n] w (RT W p MR MF lab (30, T, A ++ x :: B) w) := by
  obtain ⟨hf, hi, hr, hr1, d, hq, dT, dg, dgx, htg⟩ := hd.here
  have hle := hd.le
  have hb := ba (Below.refl w.heap.size w) (.cells (C4 n) 67)
  obtain ⟨lb, hlb⟩ : ∃ lb : Nat → Int, lb = fun b => if b < w.heap.size then lab b else -5 := ⟨_, rfl⟩
  have HL0 := Lib.hid (show ∀ b, b < w.heap.size → lb b = lab b from fun b hb => by rw [hlb]; exact if_pos hb)
  have HL1 := Lib.hid (show lb w.heap.size = -5 from by rw [hlb]; exact if_neg (Nat.lt_irrefl _))
  have hrl : TN W (w.alloc (.cells (C4 n) 67)) p MR MF lb T t Q fr := (h.relab HL0.out).below hb
  have H := Lib.hid hrl
  have HB := Lib.hid hb
  have HNB := Lib.hid (NB.made w n)
  have HF := Lib.hid (tifind_some hrl hi hf hq hr)
  have HQ := Lib.hid hq; have HR1 := Lib.hid hr1; have HTD := Lib.hid hd
  have hlt := fun (w' : World) (lab' : Nat → Int) (Q' : Int → Option Hd) (h' : TN W w' p MR MF lab' T t Q' fr) => Nat.lt_of_le_of_lt (h'.t.s9.few (hd.tg ▸ few_GT hd.ok)) (Nat.lt_trans hl (show 900000 < 1000000 by decide))
  have hlr := fun (w' : World) (lab' : Nat → Int) (t' : Hd) (h' : TN W w' p MR MF lab' T t' Q fr) => Nat.lt_of_le_of_lt ((h'.each x.role d hq).1.s9.few ((hd.each x.role d hq).2 ▸ few_GO hd.ok)) (Nat.lt_trans hl (show 900000 < 1000000 by decide))
  obtain ⟨s2, hs2⟩ : ∃ s : St, s = stK d.T d.g x.id n := ⟨_, rfl⟩
  have hc2 := fun (w' : World) (lab' : Nat → Int) (t' : Hd) (h' : TN W w' p MR MF lab' T t' Q fr) => rK (n := n) (h'.each x.role d hq).1.sm (h'.each x.role d hq).1.s9 hi (hlr w' lab' t' h')
  rw [← hs2] at hc2
  have e2 : s2 = (30, d.T, d.g) := by
    rw [hs2]; unfold stK; rw [dgx]; exact if_neg hG
  have z2 : s2.1 = 30 := by rw [e2]
  have HE2 := Lib.hid e2; have HZ2 := Lib.hid z2; have HDT := Lib.hid dT
  have HC2 := Lib.hid hc2
  clear h hd hf hi hr hr1 hq hb hrl hlb hlt hlr hc2 hs2 e2 z2 dT dg dgx htg hle hG
  go_enter Tryz.func32, Tryz.ntmps32
  go_upto_region 1 with (fail)
  generalize w.alloc (.cells (C4 n) 67) = w0 at *
  obtain ⟨nb, hnb⟩ : ∃ b, b = w.heap.size := ⟨_, rfl⟩
  rw [← hnb] at HNB HL1 ⊢
  have HNQ := Lib.hid hnb
  clear hnb
  go_wp2_with fail
  refine HF.out.mono ?_
  rintro e w2 ⟨rfl, hb2⟩
  have H2 := Lib.hid (H.out.below hb2)
  have HN2 := Lib.hid (HNB.out.below hb2)
  have HCH2 := Lib.hid (Chg.of_below (fun b => -1 ≤ lab b) (bt HB.out hb2))
  clear hb2 HF H HNB HB
  obtain ⟨n0, n1', n2, n3⟩ := HN2.out.cells
  have nl := HN2.out.lt
  go_wp2_with fail
  refine (HC2.out w2 lb t H2.out).mono ?_
  rintro e w7 hr7
  obtain ⟨rfl, d', lab7, hT7, hg7, hTN7, hlab7, hchg7⟩ := H2.out.role HQ.out hr7
  have HE := Lib.hid (show RT W p MR MF lab (30, T, A ++ x :: B) w (.returned (.int .i64 30)) w7 from
    ⟨rfl, lab7, t, _, fr, hTN7, HTD.out.roleSame HQ.out (by rw [hT7, HE2.out]; exact HDT.out) (by rw [hg7, HE2.out]), fun b hb => (hlab7 b (by have := HCH2.out.size; omega)).trans (HL0.out b hb),
     HCH2.out.lab HL0.out (fun b e => by have e : lb b = x.role := e; have := HR1.out; omega) hchg7⟩)
  rw [HZ2.out]
  clear hr7 hT7 hg7 hTN7 hlab7 hchg7 n0 n1' n2 n3 nl
  go_wp2
  go_ret
  exact HE.out
theorem hok_up {a b n : Nat → Int} (hb : Sm4 b) (ha : ∀ k, k < 4 → 0 ≤ a k ∧ a k ≤ b k) (h : HOk a n) : HOk b n :=
  ⟨hb.ok, h.2.1, by have := hok_at h 0 (by decide); have := ha 0 (by decide); omega, by have := hok_at h 1 (by decide); have := ha 1 (by decide); omega, by have := hok_at h 2 (by decide); have := ha 2 (by decide); omega, by have := hok_at h 3 (by decide); have := ha 3 (by decide); omega⟩
set_option maxRecDepth 100000 in
set_option maxHeartbeats 1000000 in
theorem titake_ok (h : TN W w p MR MF lab T t Q fr) (hd : TD T (A ++ x :: B) t Q fr) (hl : (A ++ x :: B).length < 900000) (hG : HOk x.s n) : Calls Tryz.prog 32 #[ptr p, .int .i64 x.id, S4 n] w (RT W p MR MF lab (0, T, A ++ { x with s := fun k => x.s k - n k } :: B) w) := by
  obtain ⟨hf, hi, hr, hr1, d, hq, dT, dg, dgx, htg⟩ := hd.here
  have hle := hd.le
  have hb := ba (Below.refl w.heap.size w) (.cells (C4 n) 67)
  obtain ⟨lb, hlb⟩ : ∃ lb : Nat → Int, lb = fun b => if b < w.heap.size then lab b else -5 := ⟨_, rfl⟩
  have HL0 := Lib.hid (show ∀ b, b < w.heap.size → lb b = lab b from fun b hb => by rw [hlb]; exact if_pos hb)
  have HL1 := Lib.hid (show lb w.heap.size = -5 from by rw [hlb]; exact if_neg (Nat.lt_irrefl _))
  have hrl : TN W (w.alloc (.cells (C4 n) 67)) p MR MF lb T t Q fr := (h.relab HL0.out).below hb
  have H := Lib.hid hrl
  have HB := Lib.hid hb
  have HNB := Lib.hid (NB.made w n)
  have HF := Lib.hid (tifind_some hrl hi hf hq hr)
  have HQ := Lib.hid hq; have HR1 := Lib.hid hr1; have HTD := Lib.hid hd
  have hlt := fun (w' : World) (lab' : Nat → Int) (Q' : Int → Option Hd) (h' : TN W w' p MR MF lab' T t Q' fr) => Nat.lt_of_le_of_lt (h'.t.s9.few (hd.tg ▸ few_GT hd.ok)) (Nat.lt_trans hl (show 900000 < 1000000 by decide))
  have hlr := fun (w' : World) (lab' : Nat → Int) (t' : Hd) (h' : TN W w' p MR MF lab' T t' Q fr) => Nat.lt_of_le_of_lt ((h'.each x.role d hq).1.s9.few ((hd.each x.role d hq).2 ▸ few_GO hd.ok)) (Nat.lt_trans hl (show 900000 < 1000000 by decide))
  have hsx := hd.ok.sm x (by simp)
  have hsu := hd.ok.su x.role
  have hGS := hok_up hsu hle hG
  obtain ⟨s1, hs1⟩ : ∃ s : St, s = stK t.T t.g x.role n := ⟨_, rfl⟩
  obtain ⟨s2, hs2⟩ : ∃ s : St, s = stK d.T d.g x.id n := ⟨_, rfl⟩
  have hc := fun (w' : World) (lab' : Nat → Int) (Q' : Int → Option Hd) (h' : TN W w' p MR MF lab' T t Q' fr) => rK (n := n) h'.t.sm h'.t.s9 hr (hlt w' lab' Q' h')
  have hc2 := fun (w' : World) (lab' : Nat → Int) (t' : Hd) (h' : TN W w' p MR MF lab' T t' Q fr) => rK (n := n) (h'.each x.role d hq).1.sm (h'.each x.role d hq).1.s9 hi (hlr w' lab' t' h')
  rw [← hs1] at hc
  rw [← hs2] at hc2
  have e1 : s1 = (0, T, upd (GT (A ++ x :: B)) x.role (some ⟨x.wt, fun k => SU (inR (A ++ x :: B) x.role) k - n k, true⟩)) := by
    rw [hs1]; unfold stK; rw [htg]; simp only [if_pos hGS]; rw [hd.tT, hd.tg]
  have e2 : s2 = (0, T, upd (GO (A ++ x :: B) x.role) x.id (some { clF x with s := fun k => x.s k - n k })) := by
    rw [hs2]; unfold stK; rw [dgx]; refine (if_pos hG).trans ?_; rw [dT, dg]; rfl
  have z1 : s1.1 = 0 := by rw [e1]
  have z2 : s2.1 = 0 := by rw [e2]
  have HE1 := Lib.hid e1; have HE2 := Lib.hid e2; have HZ1 := Lib.hid z1; have HZ2 := Lib.hid z2
  have HCt := Lib.hid hc; have HC2 := Lib.hid hc2
  have HSV := Lib.hid (sm4_sub hsx hG); have HSS := Lib.hid (sm4_sub hsu hGS)
  clear h hd hf hi hr hr1 hq hb hrl hlb hlt hlr hc hc2 hs1 hs2 e1 e2 z1 z2 dT dg dgx htg hle hG hGS hsx hsu
  go_enter Tryz.func32, Tryz.ntmps32
  go_upto_region 1 with (fail)
  generalize w.alloc (.cells (C4 n) 67) = w0 at *
  obtain ⟨nb, hnb⟩ : ∃ b, b = w.heap.size := ⟨_, rfl⟩
  rw [← hnb] at HNB HL1 ⊢
  have HNQ := Lib.hid hnb
  clear hnb
  go_wp2_with fail
  refine HF.out.mono ?_
  rintro e w2 ⟨rfl, hb2⟩
  have H2 := Lib.hid (H.out.below hb2)
  have HN2 := Lib.hid (HNB.out.below hb2)
  have HCH2 := Lib.hid (Chg.of_below (fun b => -1 ≤ lab b) (bt HB.out hb2))
  clear hb2 HF H HNB HB
  obtain ⟨n0, n1', n2, n3⟩ := HN2.out.cells
  have nl := HN2.out.lt
  go_wp2_with fail
  refine (HC2.out w2 lb t H2.out).mono ?_
  rintro e w7 hr7
  obtain ⟨rfl, d', lab7, hT7, hg7, hTN7, hlab7, hchg7⟩ := H2.out.role HQ.out hr7
  have HT7 := Lib.hid hT7; have HG7 := Lib.hid hg7; have HL7 := Lib.hid hlab7
  have HN7 := Lib.hid (HN2.out.chg hchg7 (by have := HL1.out; have := HR1.out; intro e; have e : lb nb = x.role := e; omega))
  have HCH7 := Lib.hid (HCH2.out.lab HL0.out (fun b e => by have e : lb b = x.role := e; have := HR1.out; omega) hchg7)
  have HNBL := Lib.hid HN2.out.lt
  have HL07 := Lib.hid (show ∀ b, b < w.heap.size → lab7 b = lab b from fun b hb => (hlab7 b (by have := HCH2.out.size; omega)).trans (HL0.out b hb))
  have HL17 := Lib.hid (show lab7 nb = -5 from (hlab7 nb HNBL.out).trans HL1.out)
  have H7 := Lib.hid hTN7
  rw [HZ2.out]
  clear hr7 hT7 hg7 hTN7 hlab7 hchg7 n0 n1' n2 n3 nl H2 HN2 HCH2 HL0 HL1
  have H2 := H7; have HN2 := HN7; have HCH2 := HCH7; have HL0 := HL07; have HL1 := HL17
  clear H7 HN7 HCH7 HL07 HL17
  have HC := Lib.hid fun (w' : World) (lab' : Nat → Int) (h' : TN W w' p MR MF lab' T t (upd Q x.role (some d')) fr) => HCt.out w' lab' _ h'
  generalize w7 = w2 at *
  generalize lab7 = lb at *
  obtain ⟨F, hF⟩ : ∃ F : Nat → Prop, F = fun b => lb b = 0 := ⟨_, rfl⟩
  have q1 : ¬ F p := by rw [hF]; have := H2.out.l0.1; intro e; have e : lb p = 0 := e; omega
  have q2 : ¬ F nb := by rw [hF]; have := HL1.out; intro e; have e : lb nb = 0 := e; omega
  have HFQ := Lib.hid hF
  clear hF
  obtain ⟨x0, x1, x2, x3, x4, x5, x6⟩ := H2.out.b.cells
  have xl := H2.out.b.lt
  obtain ⟨n0, n1', n2, n3⟩ := HN2.out.cells
  have nl := HN2.out.lt
  go_wp2_with fail
  refine Mix.regionC F (by kernel_rfl) ?_
  intro w3 hb3
  refine Mix.take_exC _ _ 0 rfl (by kernel_rfl) (by kernel_rfl) (by kernel_rfl) (by kernel_rfl) (fun K hK => ?_)
  go_simp
  first | (refine hK _ ?_; clear hK K) | (apply Exists.intro; refine ⟨fun x => ?_, hK _ ?_⟩; (fail); clear hK K)
  refine Mix.take_exC _ _ 1 rfl (by kernel_rfl) (by kernel_rfl) (by kernel_rfl) (by kernel_rfl) (fun K hK => ?_)
  go_simp
  first | (refine hK _ ?_; clear hK K) | (apply Exists.intro; refine ⟨fun x => ?_, hK _ ?_⟩; (fail); clear hK K)
  refine Mix.take_exC _ _ 2 rfl (by kernel_rfl) (by kernel_rfl) (by kernel_rfl) (by kernel_rfl) (fun K hK => ?_)
  go_simp
  first | (refine hK _ ?_; clear hK K) | (apply Exists.intro; refine ⟨fun x => ?_, hK _ ?_⟩; (fail); clear hK K)
  refine Mix.take_exC _ _ 3 rfl (by kernel_rfl) (by kernel_rfl) (by kernel_rfl) (by kernel_rfl) (fun K hK => ?_)
  go_simp
  first | (refine hK _ ?_; clear hK K) | (apply Exists.intro; refine ⟨fun x => ?_, hK _ ?_⟩; (fail); clear hK K)
  refine Mix.take_exC _ _ 4 rfl (by kernel_rfl) (by kernel_rfl) (by kernel_rfl) (by kernel_rfl) (fun K hK => ?_)
  go_simp
  first | (refine hK _ ?_; clear hK K) | (apply Exists.intro; refine ⟨fun x => ?_, hK _ ?_⟩; (fail); clear hK K)
  refine Mix.take_exC _ _ 5 rfl (by kernel_rfl) (by kernel_rfl) (by kernel_rfl) (by kernel_rfl) (fun K hK => ?_)
  go_simp
  first | (refine hK _ ?_; clear hK K) | (apply Exists.intro; refine ⟨fun x => ?_, hK _ ?_⟩; (fail); clear hK K)
  refine Mix.all (rs := [6]) (by kernel_rfl) (by simp) (.of_below _ hb3) ?_
  intro i4 hi4 w4 hb4 hC4
  simp only [List.mem_cons, List.not_mem_nil, or_false] at hi4
  subst hi4
  have HB4 := Lib.hid (bt hb3 hb4)
  have H4 := Lib.hid (H2.out.below HB4.out)
  have HN4 := Lib.hid (HN2.out.below HB4.out)
  clear hC4 hb3 hb4
  refine Mix.op rfl (by kernel_rfl) ?_
  go_simp
  refine (HC.out w4 lb H4.out).mono ?_
  rintro e w5 hr5
  obtain ⟨rfl, t', lab5, hT5, hg5, hTN5, hlab5, hchg5⟩ := H4.out.tier hr5
  refine ⟨_, rfl, ?_⟩
  have hchF : Chg F w4 w5 := by rw [HFQ.out]; exact hchg5
  have HCF := Lib.hid hchF
  have HN5 := Lib.hid (HN4.out.chg hchF q2)
  have HT5 := Lib.hid hT5; have HG5 := Lib.hid hg5; have HTN5 := Lib.hid hTN5; have HLB5 := Lib.hid hlab5; have HCH5 := Lib.hid hchg5
  clear hr5 hchF hT5 hg5 hTN5 hlab5 hchg5
  refine Mix.take_exC _ _ 7 rfl (by kernel_rfl) (by kernel_rfl) (by kernel_rfl) (by kernel_rfl) (fun K hK => ?_)
  go_simp
  first | (refine hK _ ?_; clear hK K) | (apply Exists.intro; refine ⟨fun x => ?_, hK _ ?_⟩; (fail); clear hK K)
  refine Mix.done (by kernel_rfl) ((Chg.of_below _ HB4.out).same HCF.out) ?_
  intro w6 hb6
  have H6 := Lib.hid (HTN5.out.below hb6)
  have HN6 := Lib.hid (HN5.out.below hb6)
  have HL6 := Lib.hid (show ∀ b, b < w.heap.size → lab5 b = lab b from fun b hb => (HLB5.out b (by have := HCH2.out.size; have := HB4.out.size; omega)).trans (HL0.out b hb))
  have HCH6 := Lib.hid (((HCH2.out.same (Chg.of_below _ HB4.out)).lab HL0.out (fun b e => by have e : lb b = 0 := e; omega) HCH5.out).same (Chg.of_below _ hb6))
  clear hb6 x0 x1 x2 x3 x4 x5 x6 xl n0 n1' n2 n3 nl q1 q2 HCF HFQ HB4 H4 HN4 HN5 HTN5 HCH5
  rw [HZ1.out]
  have HE := Lib.hid (show RT W p MR MF lab (0, T, A ++ { x with s := fun k => x.s k - n k } :: B) w (.returned (.int .i64 0)) w6 from by
    have hg5 : t'.g = upd (GT (A ++ x :: B)) x.role (some (⟨x.wt, fun k => SU (inR (A ++ x :: B) x.role) k + ((x.s k - n k) - x.s k), true⟩ : Cl)) := by
      rw [HG5.out, HE1.out]
      have hfn : (fun k => SU (inR (A ++ x :: B) x.role) k - n k) = fun k => SU (inR (A ++ x :: B) x.role) k + ((x.s k - n k) - x.s k) := by funext k; omega
      show upd (GT (A ++ x :: B)) x.role (some (⟨x.wt, fun k => SU (inR (A ++ x :: B) x.role) k - n k, true⟩ : Cl)) = _
      rw [hfn]
    refine ⟨rfl, lab5, t', _, fr, H6.out, HTD.out.more (v := fun k => x.s k - n k) HSV.out HQ.out (fun k hk => ?_) (by rw [HT5.out, HE1.out]) hg5 (by rw [HT7.out, HE2.out]) (by rw [HG7.out, HE2.out]), HL6.out, HCH6.out⟩
    have := HSS.out k hk
    show 0 ≤ _ + (x.s k - n k - x.s k) ∧ _ + (x.s k - n k - x.s k) ≤ _
    have e : SU (inR (A ++ x :: B) x.role) k + (x.s k - n k - x.s k) = SU (inR (A ++ x :: B) x.role) k - n k := by omega
    rw [e]; exact this)
  go_wp2
  go_ret
  exact HE.out
end
end
section
open Go.RowKit Go.Maps
attribute [local go_sem] ext_cell ext_frozen extC_cell extC_frozen Mix.calmUpon Mix.mUpon
section
variable {W w w' : World} {p MR MF : Nat} {lab lab' : Nat → Int} {T n : Nat → Int} {t t' d d' : Hd} {Q : Int → Option Hd} {fr : Int → Option Int} {D D' A B : List Fd} {i r : Int} {c : Cl} {x x' : Fd} {F : Nat → Prop}
theorem TN.parts (h : TN W w p MR MF lab T t Q fr) (hc : Chg F w w') (hn : NoNode F w) (hF : ∀ b, F b → b < w.heap.size → lab b = -1 ∧ b ≠ p) (hW : ∀ b, F b → W.heap.size ≤ b) : Below W.heap.size W w' ∧ TB w' p T t.sp MR MF ∧ HM W w' lab 0 t ∧ ∀ r h, Q r = some h → HM W w' lab r h ∧ 1 ≤ r :=
  ⟨h.bel.trans (hc.below h.bel.size hW), h.b.chg hc fun e => (hF _ e h.b.lt).2 rfl, h.t.chg hc (fun b e hb e' => by have := (hF b e' hb).1; omega) hn,
   fun r d hq => ⟨(h.each r d hq).1.chg hc (fun b e hb e' => by have := (hF b e' hb).1; have := (h.each r d hq).2; omega) hn, (h.each r d hq).2⟩⟩
theorem MapF.nonode {κ α : Type} [DecidableEq κ] {k : TypeId} {E : KEnc Tryz.prog k κ} {b : Nat} {f : κ → Option α} {enc : α → Value} (h : MapF E w b f enc) : NoNode (fun k => k = b) w := fun q hq cs e => by
  have hq : q = b := hq
  subst hq
  obtain ⟨L, ⟨es, m, hb, _⟩, _⟩ := h
  rw [hb] at e; cases e
/-- The role of a framework is set. -/
theorem TN.fput (h : TN W w p MR MF lab T t Q fr) (hi : I64 i) (r : Int) : ∃ w', (Instr.mapUpdate 66 (.map (some MF)) (.int .i64 i) (.int .i64 r)).run Tryz.prog w = .ok () w' ∧ TN W w' p MR MF lab T t Q (upd fr i (some r)) ∧ Chg (fun k => k = MF) w w' := by
  obtain ⟨w', h1, h2, h3⟩ := h.f.store key64 Tryz.underlying66 (x := i) hi r
  have hp := h.parts h3 h.f.nonode (fun b e _ => by have e : b = MF := e; subst e; exact ⟨h.l0.2.2.1, fun e => by
    subst e
    have hb := h.b
    obtain ⟨L, ⟨es, m, hb', _⟩, _⟩ := h.f
    unfold TB at hb; rw [hb'] at hb; cases hb⟩) (fun b e => by have e : b = MF := e; rw [e]; exact h.b0.2.2)
  exact ⟨w', h1, ⟨hp.1, hp.2.1, hp.2.2.1, h.q.chg h3 (fun e => h.l0.2.2.2 e), h2, hp.2.2.2, h.l0, h.b0⟩, h3⟩
theorem TN.fdel (h : TN W w p MR MF lab T t Q fr) (hi : I64 i) (ty : TypeId) : ∃ w', (Builtin.delete_ #[66, 2] ty #[.map (some MF), .int .i64 i]).run Tryz.prog w = .ok (.tuple #[]) w' ∧ TN W w' p MR MF lab T t Q (upd fr i none) ∧ Chg (fun k => k = MF) w w' := by
  obtain ⟨w', h1, h2, h3⟩ := h.f.drop key64 Tryz.underlying66 ty (x := i) hi
  have hp := h.parts h3 h.f.nonode (fun b e _ => by have e : b = MF := e; subst e; exact ⟨h.l0.2.2.1, fun e => by
    subst e
    have hb := h.b
    obtain ⟨L, ⟨es, m, hb', _⟩, _⟩ := h.f
    unfold TB at hb; rw [hb'] at hb; cases hb⟩) (fun b e => by have e : b = MF := e; rw [e]; exact h.b0.2.2)
  exact ⟨w', h1, ⟨hp.1, hp.2.1, hp.2.2.1, h.q.chg h3 (fun e => h.l0.2.2.2 e), h2, hp.2.2.2, h.l0, h.b0⟩, h3⟩
/-- A sorter of a role that had none takes its place. -/
theorem TN.qput (h : TN W w p MR MF lab T t Q fr) (hr : I64 r) (hr1 : 1 ≤ r) (hd : HM W w lab r d) : ∃ w', (Instr.mapUpdate 65 (.map (some MR)) (.int .i64 r) (ptr d.sp)).run Tryz.prog w = .ok () w' ∧ TN W w' p MR MF lab T t (upd Q r (some d)) fr ∧ Chg (fun k => k = MR) w w' := by
  obtain ⟨w', h1, h2, h3⟩ := h.q.store keyI Tryz.underlying65 (x := r) hr d
  have hF : ∀ b, (fun k => k = MR) b → b < w.heap.size → lab b = -1 ∧ b ≠ p := fun b e _ => by
    have e : b = MR := e
    subst e
    exact ⟨h.l0.2.1, fun e => by
      subst e
      have hb := h.b
      obtain ⟨L, ⟨es, m, hb', _⟩, _⟩ := h.q
      unfold TB at hb; rw [hb'] at hb; cases hb⟩
  have hp := h.parts h3 h.q.nonode hF (fun b e => by have e : b = MR := e; rw [e]; exact h.b0.2.1)
  refine ⟨w', h1, ⟨hp.1, hp.2.1, hp.2.2.1, h2, h.f.chg h3 (fun e => h.l0.2.2.2 e.symm), fun q a ha => ?_, h.l0, h.b0⟩, h3⟩
  unfold upd at ha
  split at ha
  · rename_i e
    cases ha
    subst e
    exact ⟨hd.chg h3 (fun b e hb e' => by have := (hF b e' hb).1; omega) h.q.nonode, hr1⟩
  · exact hp.2.2.2 q a ha
theorem TN.qdel (h : TN W w p MR MF lab T t Q fr) (hr : I64 r) (ty : TypeId) : ∃ w', (Builtin.delete_ #[65, 3] ty #[.map (some MR), .int .i64 r]).run Tryz.prog w = .ok (.tuple #[]) w' ∧ TN W w' p MR MF lab T t (upd Q r none) fr ∧ Chg (fun k => k = MR) w w' := by
  obtain ⟨w', h1, h2, h3⟩ := h.q.drop keyI Tryz.underlying65 ty (x := r) hr
  have hF : ∀ b, (fun k => k = MR) b → b < w.heap.size → lab b = -1 ∧ b ≠ p := fun b e _ => by
    have e : b = MR := e
    subst e
    exact ⟨h.l0.2.1, fun e => by
      subst e
      have hb := h.b
      obtain ⟨L, ⟨es, m, hb', _⟩, _⟩ := h.q
      unfold TB at hb; rw [hb'] at hb; cases hb⟩
  have hp := h.parts h3 h.q.nonode hF (fun b e => by have e : b = MR := e; rw [e]; exact h.b0.2.1)
  refine ⟨w', h1, ⟨hp.1, hp.2.1, hp.2.2.1, h2, h.f.chg h3 (fun e => h.l0.2.2.2 e.symm), fun q a ha => ?_, h.l0, h.b0⟩, h3⟩
  unfold upd at ha
  split at ha
  · cases ha
  · exact hp.2.2.2 q a ha
set_option maxRecDepth 100000 in
set_option maxHeartbeats 1000000 in
theorem tiweight_none (h : TN W w p MR MF lab T t Q fr) (hr : I64 r) (hg : t.g r = none) : Calls Tryz.prog 16 #[ptr p, .int .i64 r] w fun e w' => e = .returned (.tuple #[.int .i64 0, .bool false]) ∧ Below w.heap.size w w' := by
  have HS := Lib.hid (tishare_none h hr hg)
  clear h hr hg
  go_enter Tryz.func16, Tryz.ntmps16
  go_wp2_with fail
  refine HS.out.mono ?_
  rintro e w1 ⟨rfl, hb1⟩
  have HB1 := Lib.hid hb1
  clear hb1
  go_wp2
  go_ret2
  exact ⟨rfl, ba HB1.out _⟩
set_option maxRecDepth 100000 in
set_option maxHeartbeats 1000000 in
theorem tiweight_some (h : TN W w p MR MF lab T t Q fr) (hr : I64 r) (hg : t.g r = some c) : Calls Tryz.prog 16 #[ptr p, .int .i64 r] w fun e w' => e = .returned (.tuple #[.int .i64 c.wt, .bool true]) ∧ Below w.heap.size w w' := by
  have HS := Lib.hid (tishare_some h hr hg)
  clear h hr hg
  go_enter Tryz.func16, Tryz.ntmps16
  go_wp2_with fail
  refine HS.out.mono ?_
  rintro e w1 ⟨rfl, hb1⟩
  have HB1 := Lib.hid hb1
  clear hb1
  go_wp2
  go_ret2
  exact ⟨rfl, ba HB1.out _⟩
theorem TD.nil {t : Hd} (tT : t.T = T) (tg : t.g = fun _ => none) : TD T [] t (fun _ => none) (fun _ => none) where
  ok := TOk.nil
  tT := tT
  tg := tg.trans (by funext r; rfl)
  dom := fun _ => rfl
  each := fun r h e => by cases e
  fr := by funext r; rfl
set_option maxRecDepth 100000 in
set_option maxHeartbeats 1000000 in
theorem tinew (w : World) : Calls Tryz.prog 6 #[] w fun e w' => ∃ p MR MF lab t, e = .returned (ptr p) ∧ TN w w' p MR MF lab (fun _ => 0) t (fun _ => none) (fun _ => none) ∧ TD (fun _ => 0) [] t (fun _ => none) (fun _ => none) := by
  go_enter Tryz.func6, Tryz.ntmps6
  go_wp2_with fail
  refine (snew w).mono ?_
  rintro e w1 ⟨sp, M, tp, rfl, h, hb, h1, h2, h3⟩
  have HS := Lib.hid h; have HB := Lib.hid hb; have HG := Lib.hid (And.intro h1 (And.intro h2 h3))
  clear h hb h1 h2 h3
  have hmm := @run_makeMap Tryz.prog
  go_wp2
  go_ret
  have s1 : (w1.alloc (.map #[] 0)).heap.size = w1.heap.size + 1 := by simp
  have s2 : ((w1.alloc (.map #[] 0)).alloc (.map #[] 0)).heap.size = w1.heap.size + 1 + 1 := by simp
  have hx1 := ba (Below.refl w1.heap.size w1) (.map #[] 0)
  have hx2 := ba hx1 (.map #[] 0)
  have hx3 := ba hx2 (.cells #[.int .i64 0, .int .i64 0, .int .i64 0, .int .i64 0, ptr sp, .map (some w1.heap.size), .map (some (w1.heap.size + 1))] 69)
  have hsz := HB.out.size
  have hg := HG.out
  have q1 := HS.out.o.lt; have q2 := HS.out.m.lt; have q3 := HS.out.t.lt
  refine ⟨w1.heap.size + 1 + 1, w1.heap.size, w1.heap.size + 1, fun b => if b < w1.heap.size then 0 else -1, ⟨sp, M, tp, fun _ => 0, fun _ => none, []⟩, rfl, ⟨bt HB.out hx3, ?_, ⟨HS.out.below hx3, s9_nil, if_pos q1, if_pos q2, if_pos q3, hg.1, hg.2.1, hg.2.2⟩, ?_, ?_, fun r h e => (by cases e), ⟨if_neg (by omega), if_neg (by omega), if_neg (by omega), by omega⟩, by omega, by omega, by omega⟩, TD.nil rfl rfl⟩
  · have := heap_alloc_new ((w1.alloc (.map #[] 0)).alloc (.map #[] 0)) (.cells #[.int .i64 0, .int .i64 0, .int .i64 0, .int .i64 0, ptr sp, .map (some w1.heap.size), .map (some (w1.heap.size + 1))] 69)
    rw [s2] at this
    exact this
  · exact (MapF.made w1).chg (.of_below (fun _ => False) (ba (ba (Below.refl _ _) _) _)) id
  · have := MapF.made (E := K64) (enc := fun r : Int => .int .i64 r) (w1.alloc (.map #[] 0))
    rw [s1] at this
    exact this.chg (.of_below (fun _ => False) (ba (Below.refl _ _) _)) id
end
end
section
open Go.RowKit Go.Maps
attribute [local go_sem] ext_cell ext_frozen extC_cell extC_frozen Mix.calmUpon Mix.mUpon
section
variable {W w w' : World} {p MR MF : Nat} {lab lab' : Nat → Int} {T n : Nat → Int} {t t' d d' : Hd} {Q : Int → Option Hd} {fr : Int → Option Int} {D D' A B : List Fd} {i r x q : Int} {c : Cl} {F : Nat → Prop}
def PArg (r x : Int) : Prop := 1 ≤ r ∧ r ≤ 32 ∧ 1 ≤ x ∧ x ≤ 1000
set_option maxRecDepth 100000 in
set_option maxHeartbeats 1000000 in
theorem tiput_arg (h : TN W w p MR MF lab T t Q fr) (hd : TD T D t Q fr) (hp : ¬ PArg r x) : Calls Tryz.prog 21 #[ptr p, .int .i64 i, .int .i64 r, .int .i64 x] w (RT W p MR MF lab (41, T, D) w) := by
  have H := Lib.hid h; have HD := Lib.hid hd
  have hp' : r < 1 ∨ (¬ r < 1 ∧ 32 < r) ∨ (¬ r < 1 ∧ ¬ 32 < r ∧ x < 1) ∨ (¬ r < 1 ∧ ¬ 32 < r ∧ ¬ x < 1 ∧ 1000 < x) := by unfold PArg at hp; omega
  clear h hd hp
  rcases hp' with g1 | ⟨g1, g2⟩ | ⟨g1, g2, g3⟩ | ⟨g1, g2, g3, g4⟩
  · skip
    go_enter Tryz.func21, Tryz.ntmps21
    go_wp2_with fail
    refine (timade H.out.b).mono ?_
    rintro e w1 ⟨rfl, hw1⟩
    rw [hw1]
    clear hw1 w1
    go_wp2
    go_ret
    exact ⟨rfl, lab, t, Q, fr, H.out, HD.out, fun _ _ => rfl, Chg.refl _ _⟩
  · skip
    go_enter Tryz.func21, Tryz.ntmps21
    go_wp2_with fail
    refine (timade H.out.b).mono ?_
    rintro e w1 ⟨rfl, hw1⟩
    rw [hw1]
    clear hw1 w1
    go_wp2
    go_ret
    exact ⟨rfl, lab, t, Q, fr, H.out, HD.out, fun _ _ => rfl, Chg.refl _ _⟩
  · skip
    go_enter Tryz.func21, Tryz.ntmps21
    go_wp2_with fail
    refine (timade H.out.b).mono ?_
    rintro e w1 ⟨rfl, hw1⟩
    rw [hw1]
    clear hw1 w1
    go_wp2
    go_ret
    exact ⟨rfl, lab, t, Q, fr, H.out, HD.out, fun _ _ => rfl, Chg.refl _ _⟩
  · skip
    go_enter Tryz.func21, Tryz.ntmps21
    go_wp2_with fail
    refine (timade H.out.b).mono ?_
    rintro e w1 ⟨rfl, hw1⟩
    rw [hw1]
    clear hw1 w1
    go_wp2
    go_ret
    exact ⟨rfl, lab, t, Q, fr, H.out, HD.out, fun _ _ => rfl, Chg.refl _ _⟩
set_option maxRecDepth 100000 in
set_option maxHeartbeats 1000000 in
theorem tiput_there (h : TN W w p MR MF lab T t Q fr) (hd : TD T D t Q fr) (hi : I64 i) (hp : PArg r x) (hf : fr i = some q) : Calls Tryz.prog 21 #[ptr p, .int .i64 i, .int .i64 r, .int .i64 x] w (RT W p MR MF lab (42, T, D) w) := by
  have hlook := look_f h hi true
  rw [hf] at hlook
  replace hlook := hlook.trans (show _ = .ok (.tuple #[.int .i64 q, .bool true]) w from rfl)
  have H := Lib.hid h; have HD := Lib.hid hd; have HP := Lib.hid hp
  obtain ⟨x0, x1, x2, x3, x4, x5, x6⟩ := h.b.cells
  have xl := h.b.lt
  clear h hd hi hf hp
  go_enter Tryz.func21, Tryz.ntmps21
  go_wp2_with fail
  refine (timade H.out.b).mono ?_
  rintro e w1 ⟨rfl, hw1⟩
  rw [hw1]
  clear hw1 w1
  obtain ⟨p1, p2, p3, p4⟩ := HP.out
  have g1 : ¬ r < 1 := by omega
  have g2 : ¬ 32 < r := by omega
  have g3 : ¬ x < 1 := by omega
  have g4 : ¬ 1000 < x := by omega
  clear p1 p2 p3 p4
  go_wp2
  go_ret
  exact ⟨rfl, lab, t, Q, fr, H.out, HD.out, fun _ _ => rfl, Chg.refl _ _⟩
set_option maxRecDepth 100000 in
set_option maxHeartbeats 1000000 in
theorem tiput_weight (h : TN W w p MR MF lab T t Q fr) (hd : TD T D t Q fr) (hi : I64 i) (hp : PArg r x) (hf : fr i = none) (hg : t.g r = some c) (hx : c.wt ≠ x) : Calls Tryz.prog 21 #[ptr p, .int .i64 i, .int .i64 r, .int .i64 x] w (RT W p MR MF lab (22, T, D) w) := by
  have hlook := look_f h hi true
  rw [hf] at hlook
  replace hlook := hlook.trans (show _ = .ok (.tuple #[.int .i64 0, .bool false]) w from rfl)
  have H := Lib.hid h; have HD := Lib.hid hd; have HP := Lib.hid hp; have HI := Lib.hid hi
  have hr64 : I64 r := i64_role ⟨hp.1, hp.2.1⟩
  have HR := Lib.hid hr64
  obtain ⟨x0, x1, x2, x3, x4, x5, x6⟩ := h.b.cells
  have xl := h.b.lt
  have HW := Lib.hid (tiweight_some h hr64 hg)
  have hxb : (c.wt != x) = true := by simpa using hx
  clear h hd hi hf hp hg hx hr64
  go_enter Tryz.func21, Tryz.ntmps21
  go_wp2_with fail
  refine (timade H.out.b).mono ?_
  rintro e w1 ⟨rfl, hw1⟩
  rw [hw1]
  clear hw1 w1
  obtain ⟨p1, p2, p3, p4⟩ := HP.out
  have g1 : ¬ r < 1 := by omega
  have g2 : ¬ 32 < r := by omega
  have g3 : ¬ x < 1 := by omega
  have g4 : ¬ 1000 < x := by omega
  clear p1 p2 p3 p4
  go_wp2_with fail
  refine HW.out.mono ?_
  rintro e w2 ⟨rfl, hb2⟩
  have HB2 := Lib.hid hb2
  clear hb2 hlook x0 x1 x2 x3 x4 x5 x6 xl
  go_wp2
  go_ret
  exact ⟨rfl, lab, t, Q, fr, H.out.below HB2.out, HD.out, fun _ _ => rfl, .of_below _ HB2.out⟩
/-- A framework has come. -/
theorem TD.put {Q' : Int → Option Hd} {fr' : Int → Option Int} {y : Fd} (h : TD T D t Q fr) (hy : New D y) (tT : t'.T = T) (tg : t'.g = GT (D ++ [y])) (hQ : ∀ q, q ≠ y.role → Q' q = Q q) (hq : Q' y.role = some d') (dT : d'.T = T) (dg : d'.g = upd (GO D y.role) y.id (some (clF y))) (hfr : fr' = upd fr y.id (some y.role)) : TD T (D ++ [y]) t' Q' fr' where
  ok := h.ok.put hy
  tT := tT
  tg := tg
  dom := fun q => by
    rw [GT_put h.ok hy]
    unfold upd
    split
    · rename_i e; rw [e, hq]; rfl
    · rename_i e; rw [hQ q e]; exact h.dom q
  each := fun q a ha => by
    by_cases e : q = y.role
    · subst e
      rw [hq] at ha; cases ha
      exact ⟨dT, by rw [dg, GO_put h.ok hy.id, if_pos rfl]⟩
    · rw [hQ q e] at ha
      have := h.each q a ha
      exact ⟨this.1, by rw [this.2, GO_put h.ok hy.id, if_neg e]⟩
  fr := by rw [hfr, h.fr, FR_put hy.id]
-- the framework i is laid into the role r: H6 : TN at w6 (lab6, t6, Q6); HQ6 : Q6 r = some d6; D9: that all of it stands then
set_option maxRecDepth 100000 in
set_option maxHeartbeats 1000000 in
theorem tiput_more (h : TN W w p MR MF lab T t Q fr) (hd : TD T D t Q fr) (hl : D.length < 900000) (hi : I64 i) (hp : PArg r x) (hf : fr i = none) (hg : t.g r = some c) (hx : c.wt = x) : Calls Tryz.prog 21 #[ptr p, .int .i64 i, .int .i64 r, .int .i64 x] w (RT W p MR MF lab (0, T, D ++ [⟨i, x, r, fun _ => 0, true⟩]) w) := by
  have hlook := look_f h hi true
  rw [hf] at hlook
  replace hlook := hlook.trans (show _ = .ok (.tuple #[.int .i64 0, .bool false]) w from rfl)
  have H := Lib.hid h; have HD := Lib.hid hd; have HP := Lib.hid hp; have HI := Lib.hid hi
  have hr64 : I64 r := i64_role ⟨hp.1, hp.2.1⟩
  have HR := Lib.hid hr64
  obtain ⟨x0, x1, x2, x3, x4, x5, x6⟩ := h.b.cells
  have xl := h.b.lt
  have HW := Lib.hid (tiweight_some h hr64 hg)
  have hxb : (c.wt != x) = false := by simpa using hx
  obtain ⟨d6, hq⟩ := Option.isSome_iff_exists.1 (show (Q r).isSome = true by rw [hd.dom, ← hd.tg, hg]; rfl)
  have HQ6 := Lib.hid hq
  have hfn : ∀ d ∈ D, d.id ≠ i := (FR_none hd.ok).1 (hd.fr ▸ hf)
  obtain ⟨z, hz, hzr, hzc⟩ := (GT_some hd.ok).1 (hd.tg ▸ hg)
  have hnew : New D ⟨i, x, r, fun _ => 0, true⟩ := ⟨hfn, ⟨hp.1, hp.2.1⟩, ⟨hp.2.2.1, hp.2.2.2⟩, fun d hdd hdr => by
    rw [hd.ok.ww d hdd z hz (hdr.trans hzr.symm), ← hx, hzc], hi, rfl⟩
  obtain ⟨s2, hs2⟩ : ∃ s : St, s = stP d6.T d6.g i 1 := ⟨_, rfl⟩
  have hgn : d6.g i = none := by rw [(hd.each r d6 hq).2]; exact (GO_none hd.ok).2 fun d hdd _ => hfn d hdd
  have e2 : s2 = (0, T, upd (GO D r) i (some (clF ⟨i, x, r, fun _ => 0, true⟩))) := by
    rw [hs2]; unfold stP; rw [if_pos ⟨by decide, by decide⟩, hgn, (hd.each r d6 hq).1, (hd.each r d6 hq).2]; rfl
  have hp7 := fun (w' : World) (lab' : Nat → Int) (t' : Hd) (fr' : Int → Option Int) (h' : TN W w' p MR MF lab' T t' Q fr') => rP (x := 1) (h'.each r d6 hq).1.sm (h'.each r d6 hq).1.s9 hi (Nat.lt_of_le_of_lt ((h'.each r d6 hq).1.s9.few ((hd.each r d6 hq).2 ▸ few_GO hd.ok)) (Nat.lt_trans hl (show 900000 < 1000000 by decide)))
  rw [← hs2] at hp7
  have HP7 := Lib.hid hp7
  have HE2 := Lib.hid e2
  have HZ2 := Lib.hid (show s2.1 = 0 by rw [e2])
  have HD9 := Lib.hid fun (d' : Hd) (dT : d'.T = T) (dg : d'.g = upd (GO D r) i (some (clF ⟨i, x, r, fun _ => 0, true⟩))) => hd.put (t' := t) (Q' := upd Q r (some d')) (fr' := upd fr i (some r)) hnew hd.tT (by
      rw [hd.tg, GT_put hd.ok hnew]
      funext j; unfold upd
      split
      · rename_i e; rw [e, ← hd.tg, hg, hzc, hx.symm, hzc]
      · rfl) (fun q e => by unfold upd; rw [if_neg e]) (by unfold upd; rw [if_pos rfl]) dT dg rfl
  have hlk := look_q h hr64 true
  rw [hq] at hlk
  have HLQ := Lib.hid fun (w' : World) (hb : Below w.heap.size w w') => (show (Instr.lookup 65 (.map (some MR)) (.int .i64 r) true).run Tryz.prog w' = .ok (.tuple #[ptr d6.sp, .bool true]) w' from by
    have := look_q (h.below hb) hr64 true
    rw [hq] at this; exact this)
  clear h hd hl hi hf hp hg hx hr64 hq hfn hnew hz hzr hzc hgn hs2 e2 hp7 hlk
  go_enter Tryz.func21, Tryz.ntmps21
  go_wp2_with fail
  refine (timade H.out.b).mono ?_
  rintro e w1 ⟨rfl, hw1⟩
  rw [hw1]
  clear hw1 w1
  obtain ⟨p1, p2, p3, p4⟩ := HP.out
  have g1 : ¬ r < 1 := by omega
  have g2 : ¬ 32 < r := by omega
  have g3 : ¬ x < 1 := by omega
  have g4 : ¬ 1000 < x := by omega
  clear p1 p2 p3 p4
  go_wp2_with fail
  refine HW.out.mono ?_
  rintro e w2 ⟨rfl, hb2⟩
  have H6 := Lib.hid (H.out.below hb2)
  have HCH6 := Lib.hid (Chg.of_below (fun b => -1 ≤ lab b) hb2)
  have hlk := HLQ.out w2 hb2
  have HL6 := Lib.hid (show ∀ b, b < w.heap.size → lab b = lab b from fun _ _ => rfl)
  clear hb2 hlook x0 x1 x2 x3 x4 x5 x6 xl
  obtain ⟨x0, x1, x2, x3, x4, x5, x6⟩ := H6.out.b.cells
  have xl := H6.out.b.lt
  go_upto_region 16 with (fail)
  clear hlk x0 x1 x2 x3 x4 x5 x6 xl
  obtain ⟨lab6, hl6⟩ : ∃ l, l = lab := ⟨_, rfl⟩
  obtain ⟨t6, ht6⟩ : ∃ l, l = t := ⟨_, rfl⟩
  rw [← ht6] at H6 HD9
  rw [← hl6] at H6
  have HL6 := Lib.hid (show ∀ b, b < w.heap.size → lab6 b = lab b from fun b _ => by rw [hl6])
  clear hl6 ht6
  obtain ⟨w7, hrun7, htn7, hch7⟩ := H6.out.fput HI.out r
  have hlk7 := look_q htn7 HR.out false
  rw [HQ6.out] at hlk7
  replace hlk7 := hlk7.trans (show _ = .ok (ptr d6.sp) w7 from rfl)
  have H7 := Lib.hid htn7; have HC7 := Lib.hid hch7
  have hp7 := HP7.out w7 lab6 t6 _ htn7
  obtain ⟨x0, x1, x2, x3, x4, x5, x6⟩ := H6.out.b.cells
  have xl := H6.out.b.lt
  obtain ⟨y0, y1, y2, y3, y4, y5, y6⟩ := htn7.b.cells
  have yl := htn7.b.lt
  have HPC := Lib.hid hp7
  clear htn7 hch7 hp7
  go_wp2_with fail
  refine HPC.out.mono ?_
  rintro e w8 hr8
  obtain ⟨rfl, d', lab8, hT8, hg8, hTN8, hlab8, hchg8⟩ := H7.out.role HQ6.out hr8
  have HE := Lib.hid (show RT W p MR MF lab (0, T, D ++ [⟨i, x, r, fun _ => 0, true⟩]) w (.returned (.int .i64 0)) w8 from
    ⟨rfl, lab8, t6, _, _, hTN8, HD9.out d' (by rw [hT8, HE2.out]) (by rw [hg8, HE2.out]), fun b hb => (hlab8 b (by have := HCH6.out.size; have := HC7.out.size; omega)).trans (HL6.out b hb),
     ((HCH6.out.lab HL6.out (fun b e => by have e : b = MF := e; rw [e]; have := H6.out.l0.2.2.1; omega) HC7.out).lab HL6.out (fun b e => by have e : lab6 b = r := e; have := HP.out.1; omega) hchg8)⟩)
  rw [HZ2.out]
  clear hr8 hT8 hg8 hTN8 hlab8 hchg8 hrun7 hlk7 x0 x1 x2 x3 x4 x5 x6 xl y0 y1 y2 y3 y4 y5 y6 yl
  go_wp2
  go_ret
  exact HE.out
end
end
end Go.Proofs.YtgfjmafdfbghnaaGreat

/- The document's queues by a list: Put. -/
import Derived.Test.YtnckjacbkhoppaaQM6
import Derived.Test.YtnckjacbkhoppaaQCut0
namespace Go.Proofs.Ytnckjacbkhoppaa
open Go.RowKit Go.Maps
attribute [local go_sem] ext_cell ext_frozen extC_cell extC_frozen Mix.calmUpon Mix.mUpon
/-- Queues by a list, that can be read. -/
structure ML (w : World) (v : Value) (S : List On) : Prop where
  rs : OV1 w v S
  ev : ∀ o ∈ S, EL w (ov o) o.l
  vb : ∀ b, v.ownBlock = some b → b < w.heap.size
  eb : ∀ o ∈ S, ∀ b, (ov o).ownBlock = some b → b < w.heap.size
  srt : SO S
/-- Their blocks are none of F. -/
structure MK (F : Nat → Prop) (v : Value) (S : List On) : Prop where
  own : ∀ b, v.ownBlock = some b → ¬ F b
  rec_ : ∀ o ∈ S, ED F (ov o) o.l
theorem ML.keep {F : Nat → Prop} {w w' : World} {v : Value} {S : List On} (h : ML w v S) (hc : Chg F w w') (hk : MK F v S) : ML w' v S :=
  ⟨h.rs.chg hc hk.own, fun o ho => (h.ev o ho).keep hc (hk.rec_ o ho), fun b hb => Nat.lt_of_lt_of_le (h.vb b hb) hc.size, fun o ho b hb => Nat.lt_of_lt_of_le (h.eb o ho b hb) hc.size, h.srt⟩
theorem ML.below {w w' : World} {v : Value} {S : List On} (h : ML w v S) (hb : Below w.heap.size w w') : ML w' v S := h.keep (F := fun _ => False) (.of_below _ hb) ⟨fun _ _ => id, fun o ho => ⟨fun _ _ => id, fun x hx => .inr fun _ _ => id⟩⟩
theorem MK.more {F G : Nat → Prop} {w : World} {v : Value} {S : List On} (h : MK F v S) (hm : ML w v S) (hg : ∀ k, G k → F k ∨ w.heap.size ≤ k) : MK G v S :=
  ⟨fun b hb hf => by
    rcases hg b hf with h' | h'
    · exact h.own b hb h'
    · have := hm.vb b hb; omega, fun o ho => (h.rec_ o ho).more (hm.ev o ho) (hm.eb o ho) hg⟩
theorem EB.rs1 {w : World} {b : Nat} {x : Ev} (h : EB w b x) : RS 5 evenc w (.slice (some ⟨b, 0, none⟩) 1 1) [x] := rs_made (l := [x]) (cap := 1) (e := 28) (fz := (0, 0)) evenc_len h (Nat.le_refl _) (by decide)
theorem OB1.set1 {w : World} {b : Nat} {f : On} (h : OB1 w b f) (a : Option Addr) (n c : Nat) (l : List Ev) : OB1 (w.setCell ⟨b, 1, none⟩ (.slice a n c)) b ⟨f.frame, a, n, c, l, f.lost⟩ := by
  have := heap_setCell_at (o := 1) (.slice a n c) h
  unfold OB1; rw [this]; simp
theorem OB1.set2 {w : World} {b : Nat} {f : On} (h : OB1 w b f) (k : Int) : OB1 (w.setCell ⟨b, 2, none⟩ (.int .i64 k)) b { f with lost := k } := by
  have := heap_setCell_at (o := 2) (.int .i64 k) h
  unfold OB1; rw [this]; simp
/-- Where putting by the document stands. -/
structure PW (w wr : World) (b b2 : Nat) (cap : Int) (v : Value) (S : List On) (l : List Ev) (N t : Nat) (vt : Value) (St : List On) : Prop where
  ml : ML wr vt St
  mb : MB wr b cap vt
  m4 : MB wr b2 0 (.slice none 0 0)
  bel : Below b w wr
  ds : b < b2 ∧ b2 < wr.heap.size
  pl : St.map On.pl = putM cap (S.map On.pl) ((l.take t).map Ev.pl)
  len : St.length = S.length
  evl : ∀ o ∈ St, o.l.length ≤ N + t ∧ 0 ≤ o.lost ∧ o.lost ≤ N + t ∧ (o.l.length : Int) ≤ cap
  nb : MK (fun k => k = b ∨ k = b2) vt St
  mkk : ∀ F : Nat → Prop, (∀ k, F k → k < w.heap.size) → MK F v S → (∀ x ∈ l, VK F x.vv x.ps) → MK F vt St
theorem PW.on {w wr w' : World} {b b2 : Nat} {cap : Int} {v : Value} {S : List On} {l : List Ev} {N t : Nat} {vt : Value} {St : List On} (h : PW w wr b b2 cap v S l N t vt St) (hb : Below wr.heap.size wr w') : PW w w' b b2 cap v S l N t vt St :=
  ⟨h.ml.below hb, h.mb.below hb, h.m4.below hb, h.bel.trans (hb.mono (by have := h.ds; omega)), by have := h.ds; have := hb.size; omega, h.pl, h.len, h.evl, h.nb, h.mkk⟩
section
variable {w : World} {v : Value} {S : List On} {cap : Int}
/-- What Put answers by the document. -/
def RetP (w : World) (v : Value) (cap : Int) (S : List On) (l : List Ev) (N : Nat) (e : Ending) (w' : World) : Prop :=
  ∃ v' S', e = .returned (.tuple #[mval cap v', .int .i64 (cntM cap (S.map On.pl) (l.map Ev.pl) : Nat)]) ∧ ML w' v' S' ∧ S'.map On.pl = putM cap (S.map On.pl) (l.map Ev.pl) ∧ S'.length = S.length ∧ (∀ o ∈ S', o.l.length ≤ N + l.length ∧ 0 ≤ o.lost ∧ o.lost ≤ N + l.length ∧ (o.l.length : Int) ≤ cap) ∧
    (∀ F : Nat → Prop, (∀ k, F k → k < w.heap.size) → MK F v S → (∀ x ∈ l, VK F x.vv x.ps) → MK F v' S') ∧ Below w.heap.size w w'
set_option maxRecDepth 100000 in
set_option maxHeartbeats 8000000 in
theorem mdput (h : ML w v S) (hln : S.length < 900000) {va : Value} {l : List Ev} (hA : EL w va l) {N : Nat} (hN : N + l.length < 100000) (hev : ∀ o ∈ S, o.l.length ≤ N ∧ 0 ≤ o.lost ∧ o.lost ≤ N ∧ (o.l.length : Int) ≤ cap) (hcap : 1 ≤ cap) :
    Calls Try.prog 105 #[mval cap v, va] w (RetP w v cap S l N) := by
  have HML := Lib.hid h
  obtain ⟨a0, n0, c0, rfl, -, -, -, -⟩ := h.rs.at_
  obtain ⟨a, n, ca, rfl, hn, hc, hm, hat⟩ := hA.rs.at_
  have HA := Lib.hid hA; have HAT := Lib.hid hat; have HN := Lib.hid hn; have HNN := Lib.hid hN; have HCP := Lib.hid hcap; have HLS := Lib.hid hln
  have hnb : n < 100000 := by omega
  obtain ⟨b, hbq⟩ : ∃ b, b = w.heap.size := ⟨_, rfl⟩
  obtain ⟨b2, hb2q⟩ : ∃ b2, b2 = b + 1 := ⟨_, rfl⟩
  have HBQ := Lib.hid hbq
  have HI := SB.start w cap (.slice a0 n0 c0)
  rw [← hbq, ← hb2q] at HI
  have HP0 := Lib.hid (show PW w ((w.alloc (.cells #[.int .i64 cap, .slice a0 n0 c0] 123)).alloc (.cells #[.int .i64 0, .slice none 0 0] 123)) b b2 cap (.slice a0 n0 c0) S l N 0 (.slice a0 n0 c0) S from
    ⟨h.below (by rw [← hbq]; exact HI.bel), HI.m2, HI.m4, HI.bel, HI.ds, by simp [putM], rfl, hev, ⟨fun k hk e => by have := h.vb k hk; omega, fun o ho' => (h.ev o ho').old (h.eb o ho') fun k hk => by omega⟩, fun F _ hk _ => hk⟩)
  clear h hA hat hn hN hcap hln HI hm hev
  go_enter Try.func105, Try.ntmps105
  go_wp2
  rw [← hbq, ← hb2q]
  clear hbq hb2q
  generalize (w.alloc (.cells #[.int .i64 cap, .slice a0 n0 c0] 123)).alloc (.cells #[.int .i64 0, .slice none 0 0] 123) = w1 at *
  go_loopw [6, 7] (fun cv iv wr => ∃ (t c : Nat) (vt : Value) (St : List On), t ≤ n ∧ c ≤ t ∧ cv = .int .i64 c ∧ iv = .int .i64 t ∧ Hid (c = cntM cap (S.map On.pl) ((l.take t).map Ev.pl)) ∧ Hid (PW w wr b b2 cap (.slice a0 n0 c0) S l N t vt St)) (fun _ iv _ => n - (intOf iv).toNat)
  case atStart => exact ⟨0, 0, _, S, Nat.zero_le _, Nat.le_refl _, rfl, rfl, Lib.hid (by simp [cntM]), HP0⟩
  case round =>
    clear HP0
    obtain ⟨t, c, vt, St, ht, hct, rfl, rfl, HC, HQ⟩ := hrel
    obtain ⟨w2, rfl⟩ : ∃ w2, w2 = wr := ⟨_, rfl⟩
    obtain ⟨a1, n1, c1, rfl, hn1, -, -, hst1⟩ := HQ.out.ml.rs.at_
    have HN1 := Lib.hid hn1
    clear hn1
    by_cases hlt : t < n
    · have hts : (t : Int) < (n : Int) := by omega
      obtain ⟨x, hx⟩ := at_lt (l := l) (i := t) (by rw [← HN.out]; exact hlt)
      obtain ⟨bx, off, rfl, hba, hcell⟩ := HAT.out t x hx
      have HCX := Lib.hid hcell
      have HBA := Lib.hid (show bx < b by rw [HBQ.out]; exact hba)
      have HX := Lib.hid hx
      have HST := Lib.hid hst1
      have e1 := (HQ.out.bel.cell (p := ⟨bx, off + t * 5 + 1, none⟩) HBA.out).trans (HCX.out 1 _ rfl)
      have qa : bx < w2.heap.size := by have := HBA.out; have := HQ.out.ds; omega
      obtain ⟨z0, z1⟩ := HQ.out.mb.cells
      have q0 := HQ.out.mb.lt
      have HV2 := Lib.hid HQ.out.ml.rs
      have HAT2 := Lib.hid (fun z : Ext w2 => (mat (cap := cap) (HV2.out.below (ext_below w2 z)) x.frame).mono fun e w'' (h : _ ∧ _) => (⟨h.1, ext_of (bt (ext_below w2 z) h.2)⟩ : _ ∧ ∃ y, w'' = ext w2 y))
      have HE1 := Lib.hid (show (l.take (t + 1)).map Ev.pl = (l.take t).map Ev.pl ++ [x.pl] by rw [take_at hx, List.map_append]; rfl)
      clear hcell hx hba hst1
      cases hf : fndO St x.frame with
      | none =>
        have HPL := Lib.hid (pl_noneO hf)
        have HF := Lib.hid (show fndP (putM cap (S.map On.pl) ((l.take t).map Ev.pl)) x.frame = none from by rw [← HQ.out.pl, plo_fnd, hf]; rfl)
        rw [HPL.out] at HAT2
        have HW := Lib.hid (show put1 cap (putM cap (S.map On.pl) ((l.take t).map Ev.pl)) x.pl = putM cap (S.map On.pl) ((l.take t).map Ev.pl) ∧ cnt1 (putM cap (S.map On.pl) ((l.take t).map Ev.pl)) x.pl = 0 from by
          have h1 : fndP (putM cap (S.map On.pl) ((l.take t).map Ev.pl)) x.pl.2.1 = none := HF.out
          unfold put1 cnt1; rw [h1]; exact ⟨rfl, rfl⟩)
        clear hf
        go_wp2_with fail
        refine wp_region_pure (by kernel_rfl) (by kernel_rfl) ?_
        repeat (first | go_big_quiet_step (((go_at_call 127; with_reducible exact HAT2.out _))) | (quiet_step (((go_at_call 127; with_reducible exact HAT2.out _)))))
        refine wpQuiet_nil ?_
        rintro w3 ⟨x3, hx3⟩
        have hb3 := ext_below _ x3
        rw [← hx3] at hb3
        clear hx3 x3
        have hs3 : w2.heap.size + 0 ≤ w3.heap.size := (by have h := hb3.size; first | omega | (simp at h; omega))
        obtain ⟨hc3, hf3, hl3⟩ := bcell hb3
        clear hl3
        have H3 := Lib.hid (HQ.out.on hb3)
        clear hb3 hc3 hf3 e1 qa z0 z1 q0
        go_wp2
        go_roundw
        case rel => exact ⟨t + 1, c, _, St, by omega, by omega, rfl, by go_num, Lib.hid (by rw [HE1.out, cntM_snoc, ← HC.out, HW.out.2]; rfl), Lib.hid ⟨H3.out.ml, H3.out.mb, H3.out.m4, H3.out.bel, H3.out.ds, by rw [HE1.out, putM_snoc, HW.out.1]; exact H3.out.pl, H3.out.len, fun o ho => by have := H3.out.evl o ho; omega, H3.out.nb, H3.out.mkk⟩⟩
        case measure => simp [intOf]; omega
      | some y =>
        obtain ⟨i, hpl, hi⟩ := Srt.pl_at hf
        rw [hpl] at HAT2
        have hym := mem_at hi
        obtain ⟨bs, offs, rfl, hbs, hcy⟩ := HST.out i y hi
        have HCY := Lib.hid hcy
        have HBS := Lib.hid hbs
        have hin : (i : Int) < (n1 : Int) := by have := (List.getElem?_eq_some_iff.1 hi).1; have := HN1.out; omega
        have hinN : i < n1 := by omega
        have hig : ¬ (i : Int) < 0 := by omega
        have HYE := Lib.hid (HQ.out.ml.ev y hym)
        have HYB := Lib.hid (HQ.out.evl y hym)
        have HYM := Lib.hid hym
        have HFY := Lib.hid hf
        have HXV := Lib.hid (HA.out.vec x (mem_at HX.out))
        have HXP := Lib.hid (show x.pl = (x.kind, x.frame, x.id, x.agent, x.ps) from rfl)
        obtain ⟨xva, xvc, hxv, -, -⟩ := HXV.out.form
        obtain ⟨x0, x1, x2, x3, xv, xs⟩ := x
        obtain ⟨xn, hxn⟩ : ∃ n, n = xs.length := ⟨_, rfl⟩
        simp only at hxv e1 HAT2
        rw [← hxn] at hxv
        subst hxv
        have HXN := Lib.hid hxn
        have hcw : IntKind.i64.wrap ((c : Int) + 1) = (c : Int) + 1 := IntWalk.i64_in _ (by omega)
        clear hpl hi hym hcy hbs hf hxn
        go_wp2_with fail
        refine wp_region_pure (by kernel_rfl) (by kernel_rfl) ?_
        repeat (first | go_big_quiet_step (((go_at_call 127; with_reducible exact HAT2.out _))) | (quiet_step (((go_at_call 127; with_reducible exact HAT2.out _)))))
        refine wpQuiet_nil ?_
        rintro w3 ⟨x3, hx3⟩
        have hb3 := ext_below _ x3
        rw [← hx3] at hb3
        clear hx3 x3
        have hs3 : w2.heap.size + 0 ≤ w3.heap.size := (by have h := hb3.size; first | omega | (simp at h; omega))
        obtain ⟨hc3, hf3, hl3⟩ := bcell hb3
        clear hl3
        have H3 := Lib.hid (HQ.out.on hb3)
        have d2 := (hb3.cell (p := ⟨bs, offs + i * 3 + 2, none⟩) HBS.out).trans (HCY.out 2 _ rfl)
        have e1 := (H3.out.bel.cell (p := ⟨bx, off + t * 5 + 1, none⟩) HBA.out).trans (HCX.out 1 _ rfl)
        have qa : bx < w3.heap.size := by have := HBA.out; have := H3.out.ds; omega
        have qs : bs < w3.heap.size := Nat.lt_of_lt_of_le HBS.out hb3.size
        have HB3 := Lib.hid hb3
        clear hc3 hf3 z0 z1 q0 hb3
        obtain ⟨z0, z1⟩ := H3.out.mb.cells
        have q0 := H3.out.mb.lt
        go_wp2
        go_region
        obtain ⟨b9, hb9⟩ : ∃ b9, b9 = w3.heap.size := ⟨_, rfl⟩
        have HB9 := Lib.hid hb9
        have hbd := bd (ba (Below.refl w3.heap.size w3) (.cells #[.int .i64 x1, .slice none 0 0, .int .i64 y.lost] 130))
        have HR4 := Lib.hid (show OB1 (w3.alloc (.cells #[.int .i64 x1, .slice none 0 0, .int .i64 y.lost] 130)).drew b9 ⟨x1, none, 0, 0, [], y.lost⟩ from by rw [hb9]; exact OB1.made w3 ⟨x1, none, 0, 0, [], y.lost⟩)
        have HB4 := Lib.hid (bt HB3.out hbd)
        rw [← hb9]
        clear hb9 hbd e1 qa qs z0 z1 q0 d2
        generalize (w3.alloc (.cells #[.int .i64 x1, .slice none 0 0, .int .i64 y.lost] 130)).drew = w4 at *
        have hs9 : w2.heap.size ≤ b9 := by rw [HB9.out]; exact HB3.out.size
        have HS9 := Lib.hid hs9
        have hd := HQ.out.ds
        have HD := Lib.hid hd
        obtain ⟨g0, g1, g2⟩ := HR4.out.cells
        have gl := HR4.out.lt
        have d1 := (HB4.out.cell (p := ⟨bs, offs + i * 3 + 1, none⟩) HBS.out).trans (HCY.out 1 _ rfl)
        have qs : bs < w4.heap.size := Nat.lt_of_lt_of_le HBS.out HB4.out.size
        obtain ⟨z0, z1⟩ := (HQ.out.mb.below HB4.out).cells
        have q0 := (HQ.out.mb.below HB4.out).lt
        clear hs9 hd
        go_wp2
        refine Mix.regionL (fun _ => False) (by kernel_rfl) ?_
        intro w5 hb5
        refine Mix.take_exL _ _ 0 rfl (by kernel_rfl) (by kernel_rfl) (by kernel_rfl) (by kernel_rfl) (by kernel_rfl) (by kernel_rfl) (fun K hK => ?_)
        go_simp
        first | (refine hK _ ?_; clear hK K) | (apply Exists.intro; refine ⟨fun x => ?_, hK _ ?_⟩; (fail); clear hK K)
        refine Mix.take_exL _ _ 1 rfl (by kernel_rfl) (by kernel_rfl) (by kernel_rfl) (by kernel_rfl) (by kernel_rfl) (by kernel_rfl) (fun K hK => ?_)
        go_simp
        first | (refine hK _ ?_; clear hK K) | (apply Exists.intro; refine ⟨fun x => ?_, hK _ ?_⟩; (fail); clear hK K)
        refine Mix.take_exL _ _ 2 rfl (by kernel_rfl) (by kernel_rfl) (by kernel_rfl) (by kernel_rfl) (by kernel_rfl) (by kernel_rfl) (fun K hK => ?_)
        go_simp
        first | (refine hK _ ?_; clear hK K) | (apply Exists.intro; refine ⟨fun x => ?_, hK _ ?_⟩; (fail); clear hK K)
        refine Mix.take_exL _ _ 3 rfl (by kernel_rfl) (by kernel_rfl) (by kernel_rfl) (by kernel_rfl) (by kernel_rfl) (by kernel_rfl) (fun K hK => ?_)
        go_simp
        first | (refine hK _ ?_; clear hK K) | (apply Exists.intro; refine ⟨fun x => ?_, hK _ ?_⟩; (fail); clear hK K)
        refine Mix.take_exL _ _ 4 rfl (by kernel_rfl) (by kernel_rfl) (by kernel_rfl) (by kernel_rfl) (by kernel_rfl) (by kernel_rfl) (fun K hK => ?_)
        go_simp
        first | (refine hK _ ?_; clear hK K) | (apply Exists.intro; refine ⟨fun x => ?_, hK _ ?_⟩; (fail); clear hK K)
        refine Mix.take_exL _ _ 5 rfl (by kernel_rfl) (by kernel_rfl) (by kernel_rfl) (by kernel_rfl) (by kernel_rfl) (by kernel_rfl) (fun K hK => ?_)
        go_simp
        first | (refine hK _ ?_; clear hK K) | (apply Exists.intro; refine ⟨fun x => ?_, hK _ ?_⟩; (fail); clear hK K)
        refine Mix.take_exL _ _ 6 rfl (by kernel_rfl) (by kernel_rfl) (by kernel_rfl) (by kernel_rfl) (by kernel_rfl) (by kernel_rfl) (fun K hK => ?_)
        go_simp
        first | (refine hK _ ?_; clear hK K) | (apply Exists.intro; refine ⟨fun x => ?_, hK _ ?_⟩; (fail); clear hK K)
        refine Mix.take_exL _ _ 7 rfl (by kernel_rfl) (by kernel_rfl) (by kernel_rfl) (by kernel_rfl) (by kernel_rfl) (by kernel_rfl) (fun K hK => ?_)
        go_simp
        first | (refine hK _ ?_; clear hK K) | (apply Exists.intro; refine ⟨fun x => ?_, hK _ ?_⟩; (fail); clear hK K)
        refine Mix.allL (rs := [8]) (by kernel_rfl) (by simp) (.of_below _ hb5) (by kernel_rfl) ?_
        intro i6 hi6 w6 hb6 hC6
        simp only [List.mem_cons, List.not_mem_nil, or_false] at hi6
        subst hi6
        have HB6 := Lib.hid (bt HB4.out (bt hb5 hb6))
        have HB46 := Lib.hid (bt hb5 hb6)
        clear hC6 hb5 hb6
        obtain ⟨v1, w7, hra, ho1, hg1, hv1⟩ := evapps (w := w6) (base := b9 + 1) (OwnL.nil _ 5 evenc _ _) (HYE.out.below HB6.out).rs (fun z hz => vc_one (HYE.out.vec z hz)) (by have := HYB.out.1; have := HNN.out; simp; omega) (by have := HB46.out.size; omega) 24
        obtain ⟨r1, m1, k1, hvv1, -, -⟩ := (ho1.o fun _ => rfl).form
        subst hvv1
        rw [List.nil_append] at ho1
        have HRA := Lib.hid hra
        have hch1 : Chg (fun _ => False) w4 w7 := (Chg.of_below _ HB46.out).same (.of_grown hg1 fun k e => by cases e)
        have HCH1 := Lib.hid hch1
        have HO1 := Lib.hid ho1
        clear hra ho1 hg1 hv1 hch1
        refine Mix.opApp rfl (by kernel_rfl) _ _ _ rfl rfl rfl HRA.out ?_
        go_simp
        refine Mix.take_exL _ _ 9 rfl (by kernel_rfl) (by kernel_rfl) (by kernel_rfl) (by kernel_rfl) (by kernel_rfl) (by kernel_rfl) (fun K hK => ?_)
        go_simp
        first | (refine hK _ ?_; clear hK K) | (apply Exists.intro; refine ⟨fun x => ?_, hK _ ?_⟩; (fail); clear hK K)
        refine Mix.allL (rs := [10]) (by kernel_rfl) (by simp) (HCH1.out) (by kernel_rfl) ?_
        intro i8 hi8 w8 hb8 hC8
        simp only [List.mem_cons, List.not_mem_nil, or_false] at hi8
        subst hi8
        have hr8 := (HR4.out.chg HCH1.out id).below hb8
        have y9 := hr8.cells.2.1
        have y8 := hr8.fz 1
        have q9 := hr8.lt
        have HR8 := Lib.hid hr8
        have HO8 := Lib.hid (HO1.out.below hb8)
        have HB8 := Lib.hid (show Below w4.heap.size w4 w8 from (HCH1.out.below (Nat.le_refl _) fun k hk => hk.elim).trans (hb8.mono HCH1.out.size))
        clear hC8 hr8 hb8 g0 g1 g2 gl d1 qs z0 z1 q0
        refine Mix.op rfl (by kernel_rfl) ?_
        go_simp
        refine Mix.doneL (by kernel_rfl) (by kernel_rfl) ?_
        intro w10 hb10
        have ch8 : Chg (fun k => k = b9) w8 (w8.setCell ⟨b9, 1, none⟩ (.slice r1 m1 k1)) := (Chg.refl (fun k => k = b9) _).setCell (p := ⟨b9, 1, none⟩) (.inl rfl) _
        have HR10 := Lib.hid ((HR8.out.set1 r1 m1 k1 y.l).below hb10)
        have HO10 := Lib.hid ((HO8.out.chg ch8 (fun k hk e => by have := (HO8.out.lt k hk).1; omega)).below hb10)
        have HB10 := Lib.hid (show Below w2.heap.size w2 w10 from (HB4.out.trans (HB8.out.mono HB4.out.size)).trans ((ch8.below (by have := HB4.out.size; have := HB8.out.size; omega) fun k e => by rw [e]; exact HS9.out).trans (hb10.mono (by have := ch8.size; have := HB4.out.size; have := HB8.out.size; omega))))
        clear ch8 hb10 y9 y8 q9
        obtain ⟨g0, g1, g2⟩ := HR10.out.cells
        have gl := HR10.out.lt
        have hbw10 := HQ.out.bel.trans (HB10.out.mono (by have := HD.out; omega))
        have e0 := (hbw10.cell (p := ⟨bx, off + t * 5 + 0, none⟩) HBA.out).trans (HCX.out 0 _ rfl)
        have e1 := (hbw10.cell (p := ⟨bx, off + t * 5 + 1, none⟩) HBA.out).trans (HCX.out 1 _ rfl)
        have e2 := (hbw10.cell (p := ⟨bx, off + t * 5 + 2, none⟩) HBA.out).trans (HCX.out 2 _ rfl)
        have e3 := (hbw10.cell (p := ⟨bx, off + t * 5 + 3, none⟩) HBA.out).trans (HCX.out 3 _ rfl)
        have e4 := (hbw10.cell (p := ⟨bx, off + t * 5 + 4, none⟩) HBA.out).trans (HCX.out 4 _ rfl)
        simp only [Nat.add_zero] at e0
        have qa : bx < w10.heap.size := by have := HBA.out; have := HD.out; have := HB10.out.size; omega
        have n9 : ¬ OB (.slice r1 m1 k1) b9 := fun e => by have := (HO10.out.lt _ e).1; omega
        have nx : ¬ OB (.slice r1 m1 k1) bx := fun e => by have := (HO10.out.lt _ e).1; have := HBA.out; have := HD.out; have := HS9.out; omega
        clear hbw10
        go_wp2
        refine Mix.regionL (OB (.slice r1 m1 k1)) (by kernel_rfl) ?_
        intro w11 hb11
        refine Mix.take_exL _ _ 0 rfl (by kernel_rfl) (by kernel_rfl) (by kernel_rfl) (by kernel_rfl) (by kernel_rfl) (by kernel_rfl) (fun K hK => ?_)
        go_simp
        first | (refine hK _ ?_; clear hK K) | (apply Exists.intro; refine ⟨fun x => ?_, hK _ ?_⟩; (fail); clear hK K)
        refine Mix.take_exL _ _ 1 rfl (by kernel_rfl) (by kernel_rfl) (by kernel_rfl) (by kernel_rfl) (by kernel_rfl) (by kernel_rfl) (fun K hK => ?_)
        go_simp
        first | (refine hK _ ?_; clear hK K) | (apply Exists.intro; refine ⟨fun x => ?_, hK _ ?_⟩; (fail); clear hK K)
        refine Mix.take_exL _ _ 2 rfl (by kernel_rfl) (by kernel_rfl) (by kernel_rfl) (by kernel_rfl) (by kernel_rfl) (by kernel_rfl) (fun K hK => ?_)
        go_simp
        first | (refine hK _ ?_; clear hK K) | (apply Exists.intro; refine ⟨fun x => ?_, hK _ ?_⟩; (fail); clear hK K)
        refine Mix.take_exL _ _ 3 rfl (by kernel_rfl) (by kernel_rfl) (by kernel_rfl) (by kernel_rfl) (by kernel_rfl) (by kernel_rfl) (fun K hK => ?_)
        go_simp
        first | (refine hK _ ?_; clear hK K) | (apply Exists.intro; refine ⟨fun x => ?_, hK _ ?_⟩; (fail); clear hK K)
        refine Mix.take_exL _ _ 4 rfl (by kernel_rfl) (by kernel_rfl) (by kernel_rfl) (by kernel_rfl) (by kernel_rfl) (by kernel_rfl) (fun K hK => ?_)
        go_simp
        first | (refine hK _ ?_; clear hK K) | (apply Exists.intro; refine ⟨fun x => ?_, hK _ ?_⟩; (fail); clear hK K)
        refine Mix.take_exL _ _ 5 rfl (by kernel_rfl) (by kernel_rfl) (by kernel_rfl) (by kernel_rfl) (by kernel_rfl) (by kernel_rfl) (fun K hK => ?_)
        go_simp
        first | (refine hK _ ?_; clear hK K) | (apply Exists.intro; refine ⟨fun x => ?_, hK _ ?_⟩; (fail); clear hK K)
        refine Mix.allL (rs := [6]) (by kernel_rfl) (by simp) (.of_below _ hb11) (by kernel_rfl) ?_
        intro i12 hi12 w12 hb12 hC12
        simp only [List.mem_cons, List.not_mem_nil, or_false] at hi12
        subst hi12
        have HB12 := Lib.hid (bt hb11 hb12)
        clear hC12 hb11 hb12
        refine Mix.op rfl (by kernel_rfl) ?_
        go_simp
        refine Mix.allL (rs := [7]) (by kernel_rfl) (by simp) (.of_below _ (ba HB12.out _)) (by kernel_rfl) ?_
        intro i13 hi13 w13 hb13 hC13
        simp only [List.mem_cons, List.not_mem_nil, or_false] at hi13
        subst hi13
        have hev := (EB.made w12 ⟨x0, x1, x2, x3, .slice xva xn xvc, xs⟩).below hb13
        have HB13 := Lib.hid (bt (ba HB12.out (.cells #[.int .i64 x0, .int .i64 x1, .int .i64 x2, .int .i64 x3, .slice xva xn xvc] 28)) hb13)
        clear hC13 hb13
        obtain ⟨v2, w14, hra, ho2, hg2, hv2⟩ := evapps (HO10.out.below HB13.out) hev.rs1 (fun z hz => by obtain rfl := List.mem_singleton.1 hz; rfl) (by have := HYB.out.1; have := HNN.out; simp only [List.length_singleton]; omega) (by have := HB13.out.size; omega) 24
        obtain ⟨r2, m2, k2, hvv2, hm2, -⟩ := (ho2.o fun _ => rfl).form
        subst hvv2
        have HRA2 := Lib.hid hra
        have HCH2 := Lib.hid (show Chg (OB (.slice r1 m1 k1)) w10 w14 from (Chg.of_below _ HB13.out).same (.of_grown hg2 fun k e => e))
        have HO2 := Lib.hid ho2
        have HM2 := Lib.hid (show m2 = y.l.length + 1 from by rw [hm2]; simp)
        clear hra ho2 hg2 hv2 hev hm2
        refine Mix.opApp rfl (by kernel_rfl) _ _ _ rfl rfl rfl HRA2.out ?_
        go_simp
        refine Mix.take_exL _ _ 8 rfl (by kernel_rfl) (by kernel_rfl) (by kernel_rfl) (by kernel_rfl) (by kernel_rfl) (by kernel_rfl) (fun K hK => ?_)
        go_simp
        first | (refine hK _ ?_; clear hK K) | (apply Exists.intro; refine ⟨fun x => ?_, hK _ ?_⟩; (fail); clear hK K)
        refine Mix.allL (rs := [9]) (by kernel_rfl) (by simp) (HCH2.out) (by kernel_rfl) ?_
        intro i15 hi15 w15 hb15 hC15
        simp only [List.mem_cons, List.not_mem_nil, or_false] at hi15
        subst hi15
        have hr15 := (HR10.out.chg HCH2.out n9).below hb15
        have y9 := hr15.cells.2.1
        have y8 := hr15.fz 1
        have q9 := hr15.lt
        have HR15 := Lib.hid hr15
        have HO15 := Lib.hid (HO2.out.below hb15)
        have HB15 := Lib.hid (show Below w2.heap.size w2 w15 from HB10.out.trans ((HCH2.out.below HB10.out.size fun k hk => by have := (HO10.out.lt k hk).1; have := HS9.out; omega).trans (hb15.mono (by have := HCH2.out.size; have := HB10.out.size; omega))))
        clear hC15 hr15 hb15 g0 g1 g2 gl e0 e1 e2 e3 e4 qa n9 nx
        refine Mix.op rfl (by kernel_rfl) ?_
        go_simp
        refine Mix.doneL (by kernel_rfl) (by kernel_rfl) ?_
        intro w16 hb16
        have ch15 : Chg (fun k => k = b9) w15 (w15.setCell ⟨b9, 1, none⟩ (.slice r2 m2 k2)) := (Chg.refl (fun k => k = b9) _).setCell (p := ⟨b9, 1, none⟩) (.inl rfl) _
        have HR16 := Lib.hid ((HR15.out.set1 r2 m2 k2 (y.l ++ [(⟨x0, x1, x2, x3, .slice xva xn xvc, xs⟩ : Ev)])).below hb16)
        have HO16 := Lib.hid ((HO15.out.chg ch15 (fun k hk e => by have := (HO15.out.lt k hk).1; omega)).below hb16)
        have HB16 := Lib.hid (show Below w2.heap.size w2 w16 from HB15.out.trans ((ch15.below HB15.out.size fun k e => by rw [e]; exact HS9.out).trans (hb16.mono (by have := ch15.size; have := HB15.out.size; omega))))
        clear ch15 hb16 y9 y8 q9
        obtain ⟨g0, g1, g2⟩ := HR16.out.cells
        have gz1 := HR16.out.fz 1; have gz2 := HR16.out.fz 2
        have gl := HR16.out.lt
        have hq16 := HQ.out.on (wr := w2) (w' := w16) HB16.out
        have HQ16 := Lib.hid hq16
        obtain ⟨z0, z1⟩ := hq16.mb.cells
        have q0 := hq16.mb.lt
        have hnb9 : ¬ b9 = b := by have := HD.out; have := HS9.out; omega
        clear hq16
        have HFN := Lib.hid (show fndP (putM cap (S.map On.pl) ((l.take t).map Ev.pl)) x1 = some y.pl from by rw [← HQ.out.pl, plo_fnd, HFY.out]; rfl)
        have HCN := Lib.hid (show cnt1 (putM cap (S.map On.pl) ((l.take t).map Ev.pl)) (⟨x0, x1, x2, x3, .slice xva xn xvc, xs⟩ : Ev).pl = 1 from by
          rw [HXP.out]; unfold cnt1; simp only; rw [HFN.out]; rfl)
        have HZV0 := Lib.hid (show ∀ z ∈ y.l ++ [(⟨x0, x1, x2, x3, .slice xva xn xvc, xs⟩ : Ev)], Vc w2 z.vv z.ps from fun z hz => by
          rcases List.mem_append.1 hz with h' | h'
          · exact HYE.out.vec z h'
          · obtain rfl := List.mem_singleton.1 h'
            exact HXV.out.on (HQ.out.bel.mono (by rw [HBQ.out]; exact Nat.le_refl _)))
        have HZB0 := Lib.hid (show ∀ z ∈ y.l ++ [(⟨x0, x1, x2, x3, .slice xva xn xvc, xs⟩ : Ev)], VK (fun k => k = b ∨ k = b2) z.vv z.ps from fun z hz => by
          rcases List.mem_append.1 hz with h' | h'
          · exact (HQ.out.nb.rec_ y HYM.out).vec z h'
          · obtain rfl := List.mem_singleton.1 h'
            exact HXV.out.old fun k hk => by have := HBQ.out; have := HD.out; omega)
        have HZK0 := Lib.hid (show ∀ F : Nat → Prop, (∀ k, F k → k < w.heap.size) → MK F (.slice a0 n0 c0) S → (∀ x ∈ l, VK F x.vv x.ps) → ∀ z ∈ y.l ++ [(⟨x0, x1, x2, x3, .slice xva xn xvc, xs⟩ : Ev)], VK F z.vv z.ps from fun F hF hk hl z hz => by
          rcases List.mem_append.1 hz with h' | h'
          · exact ((HQ.out.mkk F hF hk hl).rec_ y HYM.out).vec z h'
          · obtain rfl := List.mem_singleton.1 h'
            exact hl _ (mem_at HX.out))
        by_cases hfull : cap < (m2 : Int)
        · have hLc : (y.l.length : Int) = cap := by have := HYB.out.2.2.2; have := HM2.out; omega
          have HLC := Lib.hid hLc
          obtain ⟨v3, hsl, ho3, hob3⟩ := (HO16.out.o fun _ => rfl).from_ (P := Try.prog) (T := 24) (e := 28) (i := 1) (fun _ => rfl) (by simp) Try.underlying24 infoEvI.choose_spec.1 infoEvI.choose_spec.2
          obtain ⟨r3, m3, k3, hvv3, -, -⟩ := ho3.form
          subst hvv3
          have hsl' : ∀ w0, (Instr.slice 24 (.slice r2 m2 k2) (some (.int .i64 1)) none none).run Try.prog w0 = .ok (.slice r3 m3 k3) w0 := by simpa using hsl
          have hwl : IntKind.i64.wrap (y.lost + 1) = y.lost + 1 := IntWalk.i64_in _ (by have := HYB.out; have := HNN.out; omega)
          have HPX := Lib.hid (show put1 cap (putM cap (S.map On.pl) ((l.take t).map Ev.pl)) (⟨x0, x1, x2, x3, .slice xva xn xvc, xs⟩ : Ev).pl = putP (putM cap (S.map On.pl) ((l.take t).map Ev.pl)) (⟨x1, r3, m3, k3, (y.l ++ [(⟨x0, x1, x2, x3, .slice xva xn xvc, xs⟩ : Ev)]).drop 1, y.lost + 1⟩ : On).pl from by
            rw [HXP.out]; unfold put1; simp only; rw [HFN.out]
            show putP _ (if (((y.l.map Ev.pl).length : Nat) : Int) = cap then ⟨x1, (y.l.map Ev.pl).drop 1 ++ _, y.lost + 1⟩ else _) = _
            rw [if_pos (by rw [List.length_map]; exact HLC.out)]
            unfold On.pl
            rw [List.drop_append_of_le_length (l₁ := y.l) (by have := HLC.out; have := HCP.out; omega), List.map_append, ← List.map_drop]; rfl)
          have chX : Chg (fun k => k = b9) w16 ((w16.setCell ⟨b9, 1, none⟩ (.slice r3 m3 k3)).setCell ⟨b9, 2, none⟩ (.int .i64 (y.lost + 1))) := ((Chg.refl (fun k => k = b9) _).setCell (p := ⟨b9, 1, none⟩) (.inl rfl) _).setCell (p := ⟨b9, 2, none⟩) (.inl rfl) _
          have HBX := Lib.hid (show Below w2.heap.size w2 ((w16.setCell ⟨b9, 1, none⟩ (.slice r3 m3 k3)).setCell ⟨b9, 2, none⟩ (.int .i64 (y.lost + 1))) from HB16.out.trans (chX.below HB16.out.size fun k e => by rw [e]; exact HS9.out))
          have HRX := Lib.hid ((HR16.out.set1 r3 m3 k3 ((y.l ++ [(⟨x0, x1, x2, x3, .slice xva xn xvc, xs⟩ : Ev)]).drop 1)).set2 (y.lost + 1))
          have HOX := Lib.hid (show ∀ j, (Value.slice r3 m3 k3).ownBlock = some j → b9 + 1 ≤ j ∧ j < ((w16.setCell ⟨b9, 1, none⟩ (.slice r3 m3 k3)).setCell ⟨b9, 2, none⟩ (.int .i64 (y.lost + 1))).heap.size from fun j hj => by
            rw [hob3] at hj
            have h1 := HO16.out.lt j hj; have h2 := chX.size; omega)
          have HEX := Lib.hid (show EL ((w16.setCell ⟨b9, 1, none⟩ (.slice r3 m3 k3)).setCell ⟨b9, 2, none⟩ (.int .i64 (y.lost + 1))) (.slice r3 m3 k3) ((y.l ++ [(⟨x0, x1, x2, x3, .slice xva xn xvc, xs⟩ : Ev)]).drop 1) from ⟨(ho3.chg chX (fun k hk e => by rw [hob3] at hk; have := (HO16.out.lt k hk).1; omega)).rs fun _ => rfl, fun z hz => (HZV0.out z (List.mem_of_mem_drop hz)).on HBX.out⟩)
          have HZB := Lib.hid (fun z (hz : z ∈ (y.l ++ [(⟨x0, x1, x2, x3, .slice xva xn xvc, xs⟩ : Ev)]).drop 1) => HZB0.out z (List.mem_of_mem_drop hz))
          have HZK := Lib.hid (fun (F : Nat → Prop) hF hk hl z (hz : z ∈ (y.l ++ [(⟨x0, x1, x2, x3, .slice xva xn xvc, xs⟩ : Ev)]).drop 1) => HZK0.out F hF hk hl z (List.mem_of_mem_drop hz))
          have HQX := Lib.hid (HQ.out.on HBX.out)
          have HLX := Lib.hid (show ((y.l ++ [(⟨x0, x1, x2, x3, .slice xva xn xvc, xs⟩ : Ev)]).drop 1).length ≤ N + (t + 1) ∧ 0 ≤ y.lost + 1 ∧ y.lost + 1 ≤ (N : Int) + ((t + 1 : Nat) : Int) ∧ (((y.l ++ [(⟨x0, x1, x2, x3, .slice xva xn xvc, xs⟩ : Ev)]).drop 1).length : Int) ≤ cap from by
            have := HYB.out; have := HM2.out; have := HLC.out; rw [List.length_drop, List.length_append, List.length_singleton]; omega)
          clear ho3 hob3 chX hsl hLc
          go_wp2_with fail
          clear g0 g1 g2 gz1 gz2 gl z0 z1 q0
          obtain ⟨g0, g1, g2⟩ := HRX.out.cells
          obtain ⟨z0, z1⟩ := HQX.out.mb.cells
          have q0 := HQX.out.mb.lt
          generalize (w16.setCell ⟨b9, 1, none⟩ (.slice r3 m3 k3)).setCell ⟨b9, 2, none⟩ (.int .i64 (y.lost + 1)) = wX at *
          refine (mwith (cap := cap) (f := ⟨x1, r3, m3, k3, ((y.l ++ [(⟨x0, x1, x2, x3, .slice xva xn xvc, xs⟩ : Ev)]).drop 1), (y.lost + 1)⟩) HQX.out.ml.rs HQX.out.ml.srt (by have := HQX.out.len; have := HLS.out; omega)).mono ?_
          rintro e w17 ⟨v5, rfl, hv5, ho5, hb5⟩
          have hv6 := hv5
          obtain ⟨a5, n5, c5, rfl, -, -, -, -⟩ := hv6.at_
          have HQ17 := Lib.hid (HQX.out.on hb5)
          have HV5 := Lib.hid hv5; have HO5 := Lib.hid ho5; have HB17 := Lib.hid hb5
          clear hv5 hv6 ho5 hb5 z0 z1 q0
          obtain ⟨z0, z1⟩ := HQ17.out.mb.cells
          have z2 := HQ17.out.mb.fz 0; have z3 := HQ17.out.mb.fz 1
          have q0 := HQ17.out.mb.lt
          have HPN := Lib.hid (show PW w ((w17.setCell ⟨b, 0, none⟩ (.int .i64 cap)).setCell ⟨b, 1, none⟩ (.slice a5 n5 c5)) b b2 cap (.slice a0 n0 c0) S l N (t + 1) (.slice a5 n5 c5) (putO St ⟨x1, r3, m3, k3, ((y.l ++ [(⟨x0, x1, x2, x3, .slice xva xn xvc, xs⟩ : Ev)]).drop 1), (y.lost + 1)⟩) from by
            have hst : Chg (fun j => j = b) w17 ((w17.setCell ⟨b, 0, none⟩ (.int .i64 cap)).setCell ⟨b, 1, none⟩ (.slice a5 n5 c5)) := ((Chg.refl (fun j => j = b) w17).setCell (p := ⟨b, 0, none⟩) (.inl rfl) _).setCell (p := ⟨b, 1, none⟩) (.inl rfl) _
            have hd := HD.out
            have hs9 := HS9.out
            have hsX := HBX.out.size
            have hs17 := HB17.out.size
            have hwq : w.heap.size ≤ b := by rw [HBQ.out]; exact Nat.le_refl _
            have hmemF : ∀ o ∈ putO St ⟨x1, r3, m3, k3, ((y.l ++ [(⟨x0, x1, x2, x3, .slice xva xn xvc, xs⟩ : Ev)]).drop 1), (y.lost + 1)⟩, o = ⟨x1, r3, m3, k3, ((y.l ++ [(⟨x0, x1, x2, x3, .slice xva xn xvc, xs⟩ : Ev)]).drop 1), (y.lost + 1)⟩ ∨ o ∈ St := fun o ho => (Srt.mem_put.1 ho).imp id fun h => h.1
            have nbo : ∀ o ∈ St, ED (fun j => j = b) (ov o) o.l := fun o ho => (HQ.out.nb.rec_ o ho).mono fun j hj => .inl hj
            refine ⟨⟨HV5.out.chg hst fun j hj e => by have := (HO5.out j hj).1; omega, fun o ho => ?_, fun j hj => Nat.lt_of_lt_of_le (HO5.out j hj).2 hst.size, fun o ho j hj => ?_, HQ.out.ml.srt.put ordO _⟩,
              HQ17.out.mb.set2 cap (.slice a5 n5 c5), HQ17.out.m4.chg hst (by show ¬ b2 = b; omega), HQ17.out.bel.trans (hst.below (by omega) fun j e => by omega), by have := hst.size; omega, ?_, ?_, fun o ho => ?_, ⟨fun j hj e => by have := (HO5.out j hj).1; omega, fun o ho => ?_⟩, fun F hF hk hl => ⟨fun j hj e => by have := (HO5.out j hj).1; have := hF j e; omega, fun o ho => ?_⟩⟩
            · rcases hmemF o ho with rfl | ho
              · exact (HEX.out.below HB17.out).keep hst ⟨fun j hj e => by have := (HOX.out j hj).1; omega, fun z hz => (HZB.out z hz).mono fun j e => .inl e⟩
              · exact (HQ17.out.ml.ev o ho).keep hst (nbo o ho)
            · rcases hmemF o ho with rfl | ho
              · have := (HOX.out j hj).2; have := hst.size; omega
              · exact Nat.lt_of_lt_of_le (HQ17.out.ml.eb o ho j hj) hst.size
            · rw [HE1.out, putM_snoc, HPX.out, plo_put, HQ.out.pl]
            · rw [← HQ.out.len]; exact Srt.put_len_old HQ.out.ml.srt HFY.out
            · rcases hmemF o ho with rfl | ho
              · exact HLX.out
              · have := HQ.out.evl o ho; omega
            · rcases hmemF o ho with rfl | ho
              · exact ⟨fun j hj e => by have := (HOX.out j hj).1; omega, fun z hz => HZB.out z hz⟩
              · exact HQ.out.nb.rec_ o ho
            · rcases hmemF o ho with rfl | ho
              · exact ⟨fun j hj e => by have := (HOX.out j hj).1; have := hF j e; omega, fun z hz => HZK.out F hF hk hl z hz⟩
              · exact (HQ.out.mkk F hF hk hl).rec_ o ho)
          go_wp2
          go_roundw
          case rel => exact ⟨t + 1, c + 1, _, _, by omega, by omega, by go_num, by go_num, Lib.hid (by rw [HE1.out, cntM_snoc, ← HC.out, HCN.out]), HPN⟩
          case measure => simp [intOf]; omega
        · have HPX := Lib.hid (show put1 cap (putM cap (S.map On.pl) ((l.take t).map Ev.pl)) (⟨x0, x1, x2, x3, .slice xva xn xvc, xs⟩ : Ev).pl = putP (putM cap (S.map On.pl) ((l.take t).map Ev.pl)) (⟨x1, r2, m2, k2, y.l ++ [⟨x0, x1, x2, x3, .slice xva xn xvc, xs⟩], y.lost⟩ : On).pl from by
            rw [HXP.out]; unfold put1; simp only; rw [HFN.out]
            show putP _ (if (((y.l.map Ev.pl).length : Nat) : Int) = cap then _ else _) = _
            rw [if_neg (by rw [List.length_map]; have := HM2.out; omega)]
            unfold On.pl; rw [List.map_append]; rfl)
          have HBX := HB16
          have HQX := HQ16
          have HOX := Lib.hid (show ∀ j, (Value.slice r2 m2 k2).ownBlock = some j → b9 + 1 ≤ j ∧ j < w16.heap.size from fun j hj => HO16.out.lt j hj)
          have HEX := Lib.hid (show EL w16 (.slice r2 m2 k2) (y.l ++ [(⟨x0, x1, x2, x3, .slice xva xn xvc, xs⟩ : Ev)]) from ⟨HO16.out.rs fun _ => rfl, fun z hz => (HZV0.out z hz).on HB16.out⟩)
          have HZB := HZB0; have HZK := HZK0
          have HLX := Lib.hid (show (y.l ++ [(⟨x0, x1, x2, x3, .slice xva xn xvc, xs⟩ : Ev)]).length ≤ N + (t + 1) ∧ 0 ≤ y.lost ∧ y.lost ≤ (N : Int) + ((t + 1 : Nat) : Int) ∧ ((y.l ++ [(⟨x0, x1, x2, x3, .slice xva xn xvc, xs⟩ : Ev)]).length : Int) ≤ cap from by
            have := HYB.out; have := HM2.out; rw [List.length_append, List.length_singleton]; omega)
          go_wp2_with fail
          refine (mwith (cap := cap) (f := ⟨x1, r2, m2, k2, (y.l ++ [(⟨x0, x1, x2, x3, .slice xva xn xvc, xs⟩ : Ev)]), y.lost⟩) HQX.out.ml.rs HQX.out.ml.srt (by have := HQX.out.len; have := HLS.out; omega)).mono ?_
          rintro e w17 ⟨v5, rfl, hv5, ho5, hb5⟩
          have hv6 := hv5
          obtain ⟨a5, n5, c5, rfl, -, -, -, -⟩ := hv6.at_
          have HQ17 := Lib.hid (HQX.out.on hb5)
          have HV5 := Lib.hid hv5; have HO5 := Lib.hid ho5; have HB17 := Lib.hid hb5
          clear hv5 hv6 ho5 hb5 z0 z1 q0
          obtain ⟨z0, z1⟩ := HQ17.out.mb.cells
          have z2 := HQ17.out.mb.fz 0; have z3 := HQ17.out.mb.fz 1
          have q0 := HQ17.out.mb.lt
          have HPN := Lib.hid (show PW w ((w17.setCell ⟨b, 0, none⟩ (.int .i64 cap)).setCell ⟨b, 1, none⟩ (.slice a5 n5 c5)) b b2 cap (.slice a0 n0 c0) S l N (t + 1) (.slice a5 n5 c5) (putO St ⟨x1, r2, m2, k2, (y.l ++ [(⟨x0, x1, x2, x3, .slice xva xn xvc, xs⟩ : Ev)]), y.lost⟩) from by
            have hst : Chg (fun j => j = b) w17 ((w17.setCell ⟨b, 0, none⟩ (.int .i64 cap)).setCell ⟨b, 1, none⟩ (.slice a5 n5 c5)) := ((Chg.refl (fun j => j = b) w17).setCell (p := ⟨b, 0, none⟩) (.inl rfl) _).setCell (p := ⟨b, 1, none⟩) (.inl rfl) _
            have hd := HD.out
            have hs9 := HS9.out
            have hsX := HBX.out.size
            have hs17 := HB17.out.size
            have hwq : w.heap.size ≤ b := by rw [HBQ.out]; exact Nat.le_refl _
            have hmemF : ∀ o ∈ putO St ⟨x1, r2, m2, k2, (y.l ++ [(⟨x0, x1, x2, x3, .slice xva xn xvc, xs⟩ : Ev)]), y.lost⟩, o = ⟨x1, r2, m2, k2, (y.l ++ [(⟨x0, x1, x2, x3, .slice xva xn xvc, xs⟩ : Ev)]), y.lost⟩ ∨ o ∈ St := fun o ho => (Srt.mem_put.1 ho).imp id fun h => h.1
            have nbo : ∀ o ∈ St, ED (fun j => j = b) (ov o) o.l := fun o ho => (HQ.out.nb.rec_ o ho).mono fun j hj => .inl hj
            refine ⟨⟨HV5.out.chg hst fun j hj e => by have := (HO5.out j hj).1; omega, fun o ho => ?_, fun j hj => Nat.lt_of_lt_of_le (HO5.out j hj).2 hst.size, fun o ho j hj => ?_, HQ.out.ml.srt.put ordO _⟩,
              HQ17.out.mb.set2 cap (.slice a5 n5 c5), HQ17.out.m4.chg hst (by show ¬ b2 = b; omega), HQ17.out.bel.trans (hst.below (by omega) fun j e => by omega), by have := hst.size; omega, ?_, ?_, fun o ho => ?_, ⟨fun j hj e => by have := (HO5.out j hj).1; omega, fun o ho => ?_⟩, fun F hF hk hl => ⟨fun j hj e => by have := (HO5.out j hj).1; have := hF j e; omega, fun o ho => ?_⟩⟩
            · rcases hmemF o ho with rfl | ho
              · exact (HEX.out.below HB17.out).keep hst ⟨fun j hj e => by have := (HOX.out j hj).1; omega, fun z hz => (HZB.out z hz).mono fun j e => .inl e⟩
              · exact (HQ17.out.ml.ev o ho).keep hst (nbo o ho)
            · rcases hmemF o ho with rfl | ho
              · have := (HOX.out j hj).2; have := hst.size; omega
              · exact Nat.lt_of_lt_of_le (HQ17.out.ml.eb o ho j hj) hst.size
            · rw [HE1.out, putM_snoc, HPX.out, plo_put, HQ.out.pl]
            · rw [← HQ.out.len]; exact Srt.put_len_old HQ.out.ml.srt HFY.out
            · rcases hmemF o ho with rfl | ho
              · exact HLX.out
              · have := HQ.out.evl o ho; omega
            · rcases hmemF o ho with rfl | ho
              · exact ⟨fun j hj e => by have := (HOX.out j hj).1; omega, fun z hz => HZB.out z hz⟩
              · exact HQ.out.nb.rec_ o ho
            · rcases hmemF o ho with rfl | ho
              · exact ⟨fun j hj e => by have := (HOX.out j hj).1; have := hF j e; omega, fun z hz => HZK.out F hF hk hl z hz⟩
              · exact (HQ.out.mkk F hF hk hl).rec_ o ho)
          go_wp2
          go_roundw
          case rel => exact ⟨t + 1, c + 1, _, _, by omega, by omega, by go_num, by go_num, Lib.hid (by rw [HE1.out, cntM_snoc, ← HC.out, HCN.out]), HPN⟩
          case measure => simp [intOf]; omega
    · obtain rfl : n = t := by omega
      have E1 := Lib.hid (show l.take n = l by rw [HN.out, List.take_length])
      obtain ⟨z0, z1⟩ := HQ.out.mb.cells
      obtain ⟨s0, s1⟩ := HQ.out.m4.cells
      have s2 := HQ.out.m4.fz 0; have s3 := HQ.out.m4.fz 1
      have q0 := HQ.out.mb.lt
      have q2 := HQ.out.m4.lt
      clear hst1
      go_wp2
      refine bodyPost_ret (res_mt Try.results105 rfl (HQ.out.m4.set2 cap (.slice a1 n1 c1))) rfl ?_
      have hst : Chg (fun k => k = b2) w2 ((w2.setCell ⟨b2, 0, none⟩ (.int .i64 cap)).setCell ⟨b2, 1, none⟩ (.slice a1 n1 c1)) := ((Chg.refl (fun k => k = b2) w2).setCell (p := ⟨b2, 0, none⟩) (.inl rfl) _).setCell (p := ⟨b2, 1, none⟩) (.inl rfl) _
      have hd := HQ.out.ds
      have hbx := HQ.out.bel.trans (hst.below (by omega) fun k e => by rw [e]; omega)
      rw [HBQ.out] at hbx
      have hpl := HQ.out.pl
      have hcc := HC.out
      rw [E1.out] at hpl hcc
      exact ⟨_, St, by rw [← hcc]; rfl, HQ.out.ml.keep hst ⟨fun k hk e => HQ.out.nb.own k hk (.inr e), fun o ho => (HQ.out.nb.rec_ o ho).mono fun k e => .inr e⟩, hpl, HQ.out.len, fun o ho => by have := HQ.out.evl o ho; have := HN.out; omega, HQ.out.mkk, hbx⟩
end
end Go.Proofs.Ytnckjacbkhoppaa

/- The document's agents by a list: Do; table and list side by side. Laid together by mrg.py out of XAgM5, XAgM6, XRSo, XAgM7. -/
import Derived.Test.YtennhfkhdfalfaaAgMa
namespace Go.Proofs.Ytennhfkhdfalfaa
section
open Go.RowKit Go.Maps
attribute [local go_sem] ext_cell ext_frozen extC_cell extC_frozen Mix.calmUpon Mix.mUpon
/-- A list made within a call, and handed on. -/
theorem RetD.fin {w w0 w1 w2 : World} {cap : Int × Int} {v : Value} {L : List Oa} {av : Value} {avs : List Pt} {au : Value} {aus : List Pt} {P' : List Pa} {B : Bool} {E : Int} {e : Ending} {b2 : Nat} {v' : Value} {L' : List Oa}
    (hb0 : Below w.heap.size w w0) (hl : OL w v L) (hva : Vc w av avs) (hua : Vc w au aus) (hb2 : w.heap.size ≤ b2 ∧ b2 < w0.heap.size) (hol : OL w1 v' L') (hpl : L'.map Oa.pl = P') (hso : SO L')
    (hod : ∀ G : Nat → Prop, (∀ k, G k → k < w0.heap.size) → OD G v L → VK G av avs → VK G au aus → OD G v' L') (hb : Below w0.heap.size w0 w1) (hc : Chg (fun k => k = b2) w1 w2)
    (he : e = .returned (.tuple #[mval cap v', .bool B, .int .i64 E])) : RetD w cap v L av avs au aus P' B E e w2 := by
  have hn : ∀ k, k = b2 → w.heap.size ≤ k := fun k e => by rw [e]; exact hb2.1
  have hd := hod (fun k => k = b2) (fun k e => by rw [e]; exact hb2.2) (hl.old hn) (hva.old hn) (hua.old hn)
  exact ⟨v', L', he, hol.keep hc hd, hpl, hso, fun G hG h1 h2 h3 => hod G (fun k hk => Nat.lt_of_lt_of_le (hG k hk) hb0.size) h1 h2 h3, hb0.trans ((hb.mono hb0.size).trans (hc.below (by have := hb0.size; have := hb.size; omega) hn))⟩
/-- Where an agent stands: at its number, and nowhere else. -/
theorem pl_here {S : List Oa} (hS : SO S) {t : Nat} {x : Oa} (hx : S[t]? = some x) (k : Int) : (t : Int) = Srt.pl Oa.id S k ↔ x.id = k := by
  constructor
  · intro e
    have h1 : (Srt.fnd Oa.id S k).isSome = true := by rw [← Srt.pl_fnd]; exact decide_eq_true (by omega)
    obtain ⟨y, hy⟩ := Option.isSome_iff_exists.1 h1
    obtain ⟨i, hi, hiy⟩ := Srt.pl_at hy
    have hit : i = t := by omega
    rw [hit, hx] at hiy
    rw [Option.some.inj hiy]
    exact (Srt.fnd_mem hy).2
  · intro e
    have h1 := hS.fnd (mem_at hx)
    rw [e] at h1
    obtain ⟨i, hi, hix⟩ := Srt.pl_at h1
    have hn : (S.map Oa.id).Nodup := List.pairwise_map.2 (hS.imp fun e => e.2)
    have a1 : (S.map Oa.id)[i]? = some x.id := by rw [List.getElem?_map, hix]; rfl
    have a2 : (S.map Oa.id)[t]? = some x.id := by rw [List.getElem?_map, hx]; rfl
    have := (List.getElem?_inj (List.getElem?_eq_some_iff.1 a1).1 hn).1 (a1.trans a2.symm)
    rw [hi, this]
/-- A list that a call builds, in the block b3; nothing below it is changed. -/
structure WN (w0 wr : World) (b3 : Nat) (cap : Int × Int) (vo : Value) (C : List Oa) : Prop where
  bel : Below b3 w0 wr
  m5 : MB wr b3 cap vo
  own : OwnL 38 3 oaenc wr (b3 + 1) vo C
section
variable {w0 wr wr' : World} {b3 : Nat} {cap : Int × Int} {vo : Value} {x : Oa} {C : List Oa}
theorem WN.no (h : WN w0 wr b3 cap vo C) {k : Nat} (hk : k ≤ b3) : ¬ OB vo k := fun e => by have := (h.own.lt k e).1; omega
theorem WN.on (h : WN w0 wr b3 cap vo C) (hb : Below wr.heap.size wr wr') : WN w0 wr' b3 cap vo C := ⟨h.bel.trans (hb.mono (Nat.le_of_lt h.m5.lt)), h.m5.below hb, h.own.below hb⟩
theorem WN.form (h : WN w0 wr b3 cap vo C) : ∃ a n c, vo = .slice a n c := by
  rcases h.own.2 with ⟨hv, h0⟩ | ⟨g', cap', cur', hv, _⟩
  · exact ⟨_, _, _, hv⟩
  · exact ⟨_, _, _, hv⟩
theorem WN.app (h : WN w0 wr b3 cap vo C) (hl : C.length < 1000000) {w1 : World} (hb : Below wr.heap.size wr w1) {q : Nat} (hx : OB1 w1 q x) :
    ∃ a' m' c' w2, (Builtin.append_ #[27, 27] 27 #[vo, .slice (some ⟨q, 0, none⟩) 1 1]).run Try.prog w1 = .ok (.slice a' m' c') w2 ∧ Chg (OB vo) w1 w2 ∧ (∀ w3, Chg (OB vo) w1 w3 → Below w2.heap.size w2 w3 → WN w0 (w3.setCell ⟨b3, 2, none⟩ (.slice a' m' c')) b3 cap (.slice a' m' c') (C ++ [x])) := by
  have h2 := h.on hb
  obtain ⟨v', w2, hrun, o2, g2, hv2⟩ := own_appO h2.own x hx hl (by have := h2.m5.lt; omega)
  obtain ⟨a', m', c', rfl⟩ : ∃ a' m' c', v' = .slice a' m' c' := by
    rcases o2.2 with ⟨_, h0⟩ | ⟨g', cap', cur', rfl, _⟩
    · simp at h0
    · exact ⟨_, _, _, rfl⟩
  have hc : Chg (OB vo) w1 w2 := .of_grown g2 fun k e => e
  refine ⟨a', m', c', w2, hrun, hc, fun w3 hc3 hb3 => ?_⟩
  have hst : Chg (fun k => k = b3) w3 (w3.setCell ⟨b3, 2, none⟩ (.slice a' m' c')) := (Chg.refl (fun k => k = b3) w3).setCell (p := ⟨b3, 2, none⟩) (.inl rfl) _
  have own3 := o2.below hb3
  have hs3 := hc3.size
  have hlt := h2.m5.lt
  have nb : ∀ k, Value.ownBlock (.slice a' m' c') = some k → k ≠ b3 := fun k hk e => by have := (o2.lt k hk).1; omega
  exact ⟨h2.bel.trans ((hc3.below (by omega) (fun k hk => by have := (h2.own.lt k hk).1; omega)).trans (hst.below (by omega) (fun k e => by rw [e]; exact Nat.le_refl _))), (h2.m5.chg hc3 (h2.no (Nat.le_refl _))).set1 _, own3.chg hst nb⟩
end
section
variable {w : World} {a : Option Addr} {n cp : Nat} {S : List Oa} {cap : Int × Int} {ak ai : Int} {va ua : Option Addr} {vn vc un uc : Nat} {avs aus : List Pt}
theorem mreg (h : OL w (.slice a n cp) S) (hS : SO S) (hin : AIn cap.1 cap.2 (S.map Oa.pl)) (hln : S.length < 900000) (hv : Vc w (.slice va vn vc) avs) (hvn : vn = avs.length) (hvl : avs.length < 1000000000) (hu : Vc w (.slice ua un uc) aus) :
    Calls Try.prog 56 #[mval cap (.slice a n cp), .agg #[.int .i64 ak, .int .i64 ai, .slice va vn vc, .slice ua un uc]] w (RetD w cap (.slice a n cp) S (.slice va vn vc) avs (.slice ua un uc) aus (regP cap.1 cap.2 (S.map Oa.pl) ai avs) (regB cap.1 cap.2 (S.map Oa.pl) ai avs) (regE cap.1 cap.2 (S.map Oa.pl) ai avs)) := by
  by_cases hok : regOk ai avs
  · cases hx : fndO S ai with
    | none => exact mreg_new h hS hin hln hv hvn hvl hu hok hx
    | some x =>
      have hf : fndA (S.map Oa.pl) ai = some x.pl := by rw [plo_fnd, hx]; rfl
      rw [show regP cap.1 cap.2 (S.map Oa.pl) ai avs = S.map Oa.pl from by unfold regP; rw [if_pos hok, hf],
        show regB cap.1 cap.2 (S.map Oa.pl) ai avs = false from by unfold regB; rw [if_pos hok, hf]]
      by_cases hxs : x.tps = avs
      · rw [show regE cap.1 cap.2 (S.map Oa.pl) ai avs = 0 from by unfold regE; rw [if_pos hok, hf]; simp only; rw [if_pos (show x.pl.2.1 = avs from hxs)]]
        exact mreg_yes h hS hv hvn hvl hu hok hx hxs
      · rw [show regE cap.1 cap.2 (S.map Oa.pl) ai avs = 20 from by unfold regE; rw [if_pos hok, hf]; simp only; rw [if_neg (show ¬ x.pl.2.1 = avs from hxs)]]
        exact mreg_no h hS hv hvn hvl hu hok hx (Nat.lt_of_le_of_lt (vr_len (hin.ok _ (Srt.fnd_mem hf).1).vt) (by decide)) hxs
  · rw [show regP cap.1 cap.2 (S.map Oa.pl) ai avs = S.map Oa.pl from by unfold regP; rw [if_neg hok],
      show regB cap.1 cap.2 (S.map Oa.pl) ai avs = false from by unfold regB; rw [if_neg hok],
      show regE cap.1 cap.2 (S.map Oa.pl) ai avs = 41 from by unfold regE; rw [if_neg hok]]
    exact mreg_arg h hS hv hvn hvl hu hok
set_option maxRecDepth 100000 in
set_option maxHeartbeats 4000000 in
theorem mdo0 (h : OL w (.slice a n cp) S) (hS : SO S) (hin : AIn cap.1 cap.2 (S.map Oa.pl)) (hln : S.length < 900000) (hv : Vc w (.slice va vn vc) avs) (hvn : vn = avs.length) (hvl : avs.length < 1000000000) (hu : Vc w (.slice ua un uc) aus) (hk : ak = 0) :
    Calls Try.prog 14 #[mval cap (.slice a n cp), .agg #[.int .i64 ak, .int .i64 ai, .slice va vn vc, .slice ua un uc]] w (RetD w cap (.slice a n cp) S (.slice va vn vc) avs (.slice ua un uc) aus (regP cap.1 cap.2 (S.map Oa.pl) ai avs) (regB cap.1 cap.2 (S.map Oa.pl) ai avs) (regE cap.1 cap.2 (S.map Oa.pl) ai avs)) := by
  have HVN := Lib.hid hvn; have HVL := Lib.hid hvl; have HIN := Lib.hid hin; have HLN := Lib.hid hln
  have hk0 : (ak == 0) = true := by simpa using hk
  clear hvn hvl hin hln hk
  have e1 : (w.alloc (.cells #[.int .i64 cap.1, .int .i64 cap.2, .slice a n cp] 29)).heap.size = w.heap.size + 1 := by simp
  have e2 : ((w.alloc (.cells #[.int .i64 cap.1, .int .i64 cap.2, .slice a n cp] 29)).alloc (.cells #[.int .i64 ak, .int .i64 ai, .slice va vn vc, .slice ua un uc] 34)).heap.size = w.heap.size + 2 := by simp
  have hb1 := ba (Below.refl w.heap.size w) (.cells #[.int .i64 cap.1, .int .i64 cap.2, .slice a n cp] 29)
  have hb2 := ba hb1 (.cells #[.int .i64 ak, .int .i64 ai, .slice va vn vc, .slice ua un uc] 34)
  have hb3 := ba hb2 (.cells #[.int .i64 0, .int .i64 0, .slice none 0 0] 29)
  have hm1 := ((MB.made w cap (.slice a n cp)).below (ba (Below.refl _ _) (.cells #[.int .i64 ak, .int .i64 ai, .slice va vn vc, .slice ua un uc] 34))).below (ba (Below.refl _ _) (.cells #[.int .i64 0, .int .i64 0, .slice none 0 0] 29))
  have hba : BA (w.alloc (.cells #[.int .i64 cap.1, .int .i64 cap.2, .slice a n cp] 29) |>.alloc (.cells #[.int .i64 ak, .int .i64 ai, .slice va vn vc, .slice ua un uc] 34)) (w.alloc (.cells #[.int .i64 cap.1, .int .i64 cap.2, .slice a n cp] 29)).heap.size ⟨ak, ai, .slice va vn vc, avs, .slice ua un uc, aus⟩ := heap_alloc_new _ _
  have hm2 : BA _ _ _ := ((ba (Below.refl _ _) (.cells #[.int .i64 0, .int .i64 0, .slice none 0 0] 29)).block _ hba.lt).trans hba
  have hm3 := MB.made ((w.alloc (.cells #[.int .i64 cap.1, .int .i64 cap.2, .slice a n cp] 29)).alloc (.cells #[.int .i64 ak, .int .i64 ai, .slice va vn vc, .slice ua un uc] 34)) (0, 0) (.slice none 0 0)
  rw [e1] at hm2
  rw [e2] at hm3
  have HM1 := Lib.hid hm1; have HM2 := Lib.hid hm2; have HM3 := Lib.hid hm3; have HB3 := Lib.hid hb3
  have HL := Lib.hid h; have HSO := Lib.hid hS; have HVV := Lib.hid hv; have HUU := Lib.hid hu
  clear h hS hv hu e1 e2 hb1 hb2 hb3 hm1 hba hm2 hm3
  go_enter Try.func14, Try.ntmps14
  obtain ⟨x0, x1, x2, x3⟩ := HM2.out.cells
  simp only at x0 x1 x2 x3
  have x4 := HM2.out.lt
  obtain ⟨z0, zM, z1⟩ := HM1.out.cells
  have q0 := HM1.out.lt
  go_wp2_with fail
  clear x0 x1 x2 x3 x4 z0 zM z1 q0
  generalize ((w.alloc (.cells #[.int .i64 cap.1, .int .i64 cap.2, .slice a n cp] 29)).alloc (.cells #[.int .i64 ak, .int .i64 ai, .slice va vn vc, .slice ua un uc] 34)).alloc (.cells #[.int .i64 0, .int .i64 0, .slice none 0 0] 29) = w0 at *
  obtain ⟨b, hbq⟩ : ∃ b, b = w.heap.size := ⟨_, rfl⟩
  rw [← hbq] at HM1 HM2 HM3 HB3 ⊢
  obtain ⟨b1, hb1q⟩ : ∃ b1, b1 = b + 1 := ⟨_, rfl⟩
  rw [← hb1q] at HM2 ⊢
  obtain ⟨b2, hb2q⟩ : ∃ b2, b2 = b + 2 := ⟨_, rfl⟩
  rw [← hb2q] at HM3
  rw [show b1 + 1 = b2 by omega]
  have HBQ := Lib.hid hbq
  have HDS := Lib.hid (show b1 = b + 1 ∧ b2 = b + 2 by omega)
  clear hbq hb1q hb2q
  have HBZ := Lib.hid (show Below w.heap.size w w0 from by rw [← HBQ.out]; exact HB3.out)
  refine (mreg (cap := cap) (HL.out.below HBZ.out) HSO.out HIN.out HLN.out (HVV.out.on HBZ.out) HVN.out HVL.out (HUU.out.on HBZ.out)).mono ?_
  rintro e w1 ⟨v', L', rfl, hol, hpl, hso, hod, hb⟩
  obtain ⟨a', n', c', rfl, -, -, -, -⟩ := hol.rs.at_
  have HOL := Lib.hid hol; have HPL := Lib.hid hpl; have HSO' := Lib.hid hso; have HOD := Lib.hid hod; have HB := Lib.hid hb
  clear hol hpl hso hod hb
  have hs3 := HM3.out.below HB.out
  obtain ⟨s0, sM, s1⟩ := hs3.cells
  have s2 := hs3.fz 0; have s3 := hs3.fz 1; have s4 := hs3.fz 2
  have q2 := hs3.lt
  have HR2 := Lib.hid (hs3.set2 cap (.slice a' n' c'))
  clear hs3
  go_wp2
  refine bodyPost_ret (res_mbe Try.results14 rfl HR2.out) rfl ?_
  exact RetD.fin HBZ.out HL.out HVV.out HUU.out (b2 := b2) ⟨by have := HBQ.out; have := HDS.out; omega, HM3.out.lt⟩ HOL.out HPL.out HSO'.out HOD.out HB.out (mb_chg w1 b2 _ _ _) rfl
set_option maxRecDepth 100000 in
set_option maxHeartbeats 8000000 in
theorem mdo1 (h : OL w (.slice a n cp) S) (hS : SO S) (hln : S.length < 900000) (hv : Vc w (.slice va vn vc) avs) (hu : Vc w (.slice ua un uc) aus) (hk : ak = 1) :
    Calls Try.prog 14 #[mval cap (.slice a n cp), .agg #[.int .i64 ak, .int .i64 ai, .slice va vn vc, .slice ua un uc]] w (RetD w cap (.slice a n cp) S (.slice va vn vc) avs (.slice ua un uc) aus (delA (S.map Oa.pl) ai) (fndA (S.map Oa.pl) ai).isSome 0) := by
  have HLN := Lib.hid hln
  have hk0 : (ak == 0) = false := by rw [hk]; rfl
  have hk1 : (ak == 1) = true := by simpa using hk
  have hat : n = S.length ∧ n ≤ 9223372036854775807 ∧ ∀ i x, S[i]? = some x → ∃ b off, a = some ⟨b, off, none⟩ ∧ b < w.heap.size ∧ ∀ j u, (oaenc x)[j]? = some u → w.cell? ⟨b, off + i * 3 + j, none⟩ = some u := by
    obtain ⟨_, _, _, he, hn, hc, hm, hat⟩ := h.rs.at_
    cases he
    exact ⟨hn, by unfold maxLen at hm; omega, hat⟩
  obtain ⟨hn, hnm, hat⟩ := hat
  have HAT := Lib.hid hat; have HN := Lib.hid hn
  clear hln hk hat hn
  have e1 : (w.alloc (.cells #[.int .i64 cap.1, .int .i64 cap.2, .slice a n cp] 29)).heap.size = w.heap.size + 1 := by simp
  have e2 : ((w.alloc (.cells #[.int .i64 cap.1, .int .i64 cap.2, .slice a n cp] 29)).alloc (.cells #[.int .i64 ak, .int .i64 ai, .slice va vn vc, .slice ua un uc] 34)).heap.size = w.heap.size + 2 := by simp
  have hb1 := ba (Below.refl w.heap.size w) (.cells #[.int .i64 cap.1, .int .i64 cap.2, .slice a n cp] 29)
  have hb2 := ba hb1 (.cells #[.int .i64 ak, .int .i64 ai, .slice va vn vc, .slice ua un uc] 34)
  have hb3 := ba hb2 (.cells #[.int .i64 0, .int .i64 0, .slice none 0 0] 29)
  have hm1 := ((MB.made w cap (.slice a n cp)).below (ba (Below.refl _ _) (.cells #[.int .i64 ak, .int .i64 ai, .slice va vn vc, .slice ua un uc] 34))).below (ba (Below.refl _ _) (.cells #[.int .i64 0, .int .i64 0, .slice none 0 0] 29))
  have hba : BA (w.alloc (.cells #[.int .i64 cap.1, .int .i64 cap.2, .slice a n cp] 29) |>.alloc (.cells #[.int .i64 ak, .int .i64 ai, .slice va vn vc, .slice ua un uc] 34)) (w.alloc (.cells #[.int .i64 cap.1, .int .i64 cap.2, .slice a n cp] 29)).heap.size ⟨ak, ai, .slice va vn vc, avs, .slice ua un uc, aus⟩ := heap_alloc_new _ _
  have hm2 : BA _ _ _ := ((ba (Below.refl _ _) (.cells #[.int .i64 0, .int .i64 0, .slice none 0 0] 29)).block _ hba.lt).trans hba
  have hm3 := MB.made ((w.alloc (.cells #[.int .i64 cap.1, .int .i64 cap.2, .slice a n cp] 29)).alloc (.cells #[.int .i64 ak, .int .i64 ai, .slice va vn vc, .slice ua un uc] 34)) (0, 0) (.slice none 0 0)
  rw [e1] at hm2
  rw [e2] at hm3
  have HM1 := Lib.hid hm1; have HM2 := Lib.hid hm2; have HM3 := Lib.hid hm3; have HB3 := Lib.hid hb3
  have HL := Lib.hid h; have HSO := Lib.hid hS; have HVV := Lib.hid hv; have HUU := Lib.hid hu
  clear h hS hv hu e1 e2 hb1 hb2 hb3 hm1 hba hm2 hm3
  go_enter Try.func14, Try.ntmps14
  obtain ⟨x0, x1, x2, x3⟩ := HM2.out.cells
  simp only at x0 x1 x2 x3
  have x4 := HM2.out.lt
  obtain ⟨z0, zM, z1⟩ := HM1.out.cells
  have q0 := HM1.out.lt
  go_wp2_with fail
  clear x0 x1 x2 x3 x4 z0 zM z1 q0
  generalize ((w.alloc (.cells #[.int .i64 cap.1, .int .i64 cap.2, .slice a n cp] 29)).alloc (.cells #[.int .i64 ak, .int .i64 ai, .slice va vn vc, .slice ua un uc] 34)).alloc (.cells #[.int .i64 0, .int .i64 0, .slice none 0 0] 29) = w0 at *
  obtain ⟨b, hbq⟩ : ∃ b, b = w.heap.size := ⟨_, rfl⟩
  rw [← hbq] at HM1 HM2 HM3 HB3 ⊢
  obtain ⟨b1, hb1q⟩ : ∃ b1, b1 = b + 1 := ⟨_, rfl⟩
  rw [← hb1q] at HM2 ⊢
  obtain ⟨b2, hb2q⟩ : ∃ b2, b2 = b + 2 := ⟨_, rfl⟩
  rw [← hb2q] at HM3
  rw [show b1 + 1 = b2 by omega]
  have HBQ := Lib.hid hbq
  have HDS := Lib.hid (show b1 = b + 1 ∧ b2 = b + 2 by omega)
  clear hbq hb1q hb2q
  have HBZ := Lib.hid (show Below w.heap.size w w0 from by rw [← HBQ.out]; exact HB3.out)
  refine (mat (cap := cap) (HL.out.rs.below HBZ.out) ai).mono ?_
  rintro e w1 ⟨rfl, hb4⟩
  have HBW := Lib.hid hb4
  clear hb4
  -- the cells of the list's block, of the act's and of the answer's at the world wz
  obtain ⟨z0, zM, z1⟩ := (HM1.out.below HBW.out).cells
  have q0 := (HM1.out.below HBW.out).lt
  have hm2 : BA w1 b1 _ := (HBW.out.block _ HM2.out.lt).trans HM2.out
  obtain ⟨x0, x1, x2, x3⟩ := hm2.cells
  simp only at x0 x1 x2 x3
  have x4 := hm2.lt
  clear hm2
  obtain ⟨r, hr⟩ : ∃ r, r = Srt.pl Oa.id S ai := ⟨_, rfl⟩
  rw [← hr]
  have HRQ := Lib.hid hr
  have hb12 := ba (Below.refl w1.heap.size w1) (.cells #[.int .i64 cap.1, .int .i64 cap.2, .slice none 0 0] 29)
  have HM5 := Lib.hid (MB.made w1 cap (.slice none 0 0))
  have HBV := Lib.hid (bt HBW.out hb12)
  clear hr
  go_wp2
  clear z0 zM z1 q0 x0 x1 x2 x3 x4
  generalize w1.alloc (.cells #[.int .i64 cap.1, .int .i64 cap.2, .slice none 0 0] 29) = w2 at *
  obtain ⟨b3, hb3q⟩ : ∃ k, k = w1.heap.size := ⟨_, rfl⟩
  rw [← hb3q] at HM5 ⊢
  have HD3 := Lib.hid (show b2 < b3 ∧ b3 < w2.heap.size from ⟨by have := HM3.out.lt; have := HBW.out.size; omega, HM5.out.lt⟩)
  clear hb3q hb12
  have HI := Lib.hid (show WN w2 w2 b3 cap (.slice none 0 0) [] ∧ ([] : List Oa) = delO (S.take 0) ai from ⟨⟨Below.refl _ _, HM5.out, OwnL.nil _ _ _ _ _⟩, rfl⟩)
  go_loopw [9] (fun iv wr => ∃ (t : Nat) (vo : Value) (C : List Oa), t ≤ n ∧ iv = .int .i64 t ∧ Hid (WN w2 wr b3 cap vo C ∧ C = delO (S.take t) ai)) (fun iv _ => n - (intOf iv).toNat)
  case atStart => exact ⟨0, _, [], Nat.zero_le _, rfl, HI⟩
  case round =>
    clear HI
    obtain ⟨t, vo, C, ht, rfl, HQ⟩ := hrel
    obtain ⟨w3, rfl⟩ : ∃ w3, w3 = wr := ⟨_, rfl⟩
    have hMB : MB w3 b cap (.slice a n cp) := (HQ.out.1.bel.block b (by have := HD3.out; have := HDS.out; omega)).trans (HM1.out.below HBV.out)
    obtain ⟨z0, zM, z1⟩ := hMB.cells
    have q0 := hMB.lt
    clear hMB
    obtain ⟨y0, yM, y1⟩ := HQ.out.1.m5.cells
    have q3 := HQ.out.1.m5.lt
    by_cases hlt : t < n
    · have hts : (t : Int) < (n : Int) := by omega
      obtain ⟨x, hx⟩ := at_lt (l := S) (i := t) (by rw [← HN.out]; exact hlt)
      obtain ⟨bs, off, rfl, hbs, hcell⟩ := HAT.out t x hx
      have HBX := Lib.hid (show Below b w w3 from HB3.out.trans ((HBV.out.mono (by have := HM3.out.lt; have := HDS.out; omega)).trans (HQ.out.1.bel.mono (by have := HD3.out; have := HDS.out; omega))))
      have hbsb : bs < b := by have := HBQ.out; omega
      have d0 := (HBX.out.cell (p := ⟨bs, _, none⟩) hbsb).trans (hcell 0 _ rfl)
      have d1 := (HBX.out.cell (p := ⟨bs, _, none⟩) hbsb).trans (hcell 1 _ rfl)
      have d2 := (HBX.out.cell (p := ⟨bs, _, none⟩) hbsb).trans (hcell 2 _ rfl)
      simp only [Nat.add_zero] at d0
      have qs : bs < w3.heap.size := by have := HD3.out; have := HDS.out; omega
      have hpl := pl_here HSO.out hx ai
      rw [← HRQ.out] at hpl
      have HW := Lib.hid (show delO (S.take (t + 1)) ai = C ++ (if x.id ≠ ai then [x] else []) from by
        rw [take_at hx, HQ.out.2]
        show Srt.del Oa.id (S.take t ++ [x]) ai = _
        rw [Srt.del_snoc]
        by_cases e : x.id = ai
        · rw [if_pos e, if_neg fun h => h e]
        · rw [if_neg e, if_pos e])
      have HCL := Lib.hid (show C.length < 900000 from by
        rw [HQ.out.2]
        have h1 : (delO (S.take t) ai).length ≤ (S.take t).length := List.length_filter_le _ _
        have h2 := List.length_take_le t S
        have h3 := HLN.out
        have h4 := HN.out
        omega)
      obtain ⟨xi, ta, tn, tc, tps, fa, fn, fc, fps⟩ := x
      simp only at d0 d1 d2 hpl
      have HBSB := Lib.hid hbsb
      clear hcell hx hbs hbsb
      by_cases he : xi = ai
      · have her : ((t : Int) != r) = false := by simpa using hpl.2 he
        have HE := Lib.hid (show C = delO (S.take (t + 1)) ai from by have := HW.out; rw [if_neg fun h => h he, List.append_nil] at this; exact this.symm)
        have HW3 := Lib.hid HQ.out.1
        clear he hpl
        go_wp2
        go_roundw
        case rel => exact ⟨t + 1, vo, C, by omega, by go_num, Lib.hid ⟨HW3.out, HE.out⟩⟩
        case measure => simp [intOf]; omega
      · have her : ((t : Int) != r) = true := by simpa using fun e => he (hpl.1 e)
        have HE := Lib.hid (show C ++ [(⟨xi, ta, tn, tc, tps, fa, fn, fc, fps⟩ : Oa)] = delO (S.take (t + 1)) ai from by have := HW.out; rw [if_pos he] at this; exact this.symm)
        have H3 := Lib.hid HQ.out.1
        have n3 : ¬ OB vo b3 := H3.out.no (Nat.le_refl _)
        have n2 : ¬ OB vo b := H3.out.no (by have := HD3.out; have := HDS.out; omega)
        have ns : ¬ OB vo bs := H3.out.no (by have := HD3.out; have := HDS.out; have := HBSB.out; omega)
        clear he hpl
        go_wp2
        refine Mix.regionL (OB vo) (by kernel_rfl) ?_
        intro w5 hb5
        refine Mix.take_exL _ _ 0 rfl (by kernel_rfl) (by kernel_rfl) (by kernel_rfl) (by kernel_rfl) (by kernel_rfl) (by kernel_rfl) (fun K hK => ?_)
        go_simp
        first | (refine hK _ ?_; clear hK K) | (apply Exists.intro; refine ⟨fun x => ?_, hK _ ?_⟩; (fail); clear hK K)
        refine Mix.take_exL _ _ 1 rfl (by kernel_rfl) (by kernel_rfl) (by kernel_rfl) (by kernel_rfl) (by kernel_rfl) (by kernel_rfl) (fun K hK => ?_)
        go_simp
        first | (refine hK _ ?_; clear hK K) | (apply Exists.intro; refine ⟨fun x => ?_, hK _ ?_⟩; (fail); clear hK K)
        refine Mix.take_exL _ _ 2 rfl (by kernel_rfl) (by kernel_rfl) (by kernel_rfl) (by kernel_rfl) (by kernel_rfl) (by kernel_rfl) (fun K hK => ?_)
        go_simp
        first | (refine hK _ ?_; clear hK K) | (apply Exists.intro; refine ⟨fun x => ?_, hK _ ?_⟩; (fail); clear hK K)
        refine Mix.take_exL _ _ 3 rfl (by kernel_rfl) (by kernel_rfl) (by kernel_rfl) (by kernel_rfl) (by kernel_rfl) (by kernel_rfl) (fun K hK => ?_)
        go_simp
        first | (refine hK _ ?_; clear hK K) | (apply Exists.intro; refine ⟨fun x => ?_, hK _ ?_⟩; (fail); clear hK K)
        refine Mix.take_exL _ _ 4 rfl (by kernel_rfl) (by kernel_rfl) (by kernel_rfl) (by kernel_rfl) (by kernel_rfl) (by kernel_rfl) (fun K hK => ?_)
        go_simp
        first | (refine hK _ ?_; clear hK K) | (apply Exists.intro; refine ⟨fun x => ?_, hK _ ?_⟩; (fail); clear hK K)
        refine Mix.take_exL _ _ 5 rfl (by kernel_rfl) (by kernel_rfl) (by kernel_rfl) (by kernel_rfl) (by kernel_rfl) (by kernel_rfl) (fun K hK => ?_)
        go_simp
        first | (refine hK _ ?_; clear hK K) | (apply Exists.intro; refine ⟨fun x => ?_, hK _ ?_⟩; (fail); clear hK K)
        refine Mix.take_exL _ _ 6 rfl (by kernel_rfl) (by kernel_rfl) (by kernel_rfl) (by kernel_rfl) (by kernel_rfl) (by kernel_rfl) (fun K hK => ?_)
        go_simp
        first | (refine hK _ ?_; clear hK K) | (apply Exists.intro; refine ⟨fun x => ?_, hK _ ?_⟩; (fail); clear hK K)
        refine Mix.allL (rs := [7]) (by kernel_rfl) (by simp) (.of_below _ hb5) (by kernel_rfl) ?_
        intro i6 hi6 w6 hb6 hC6
        simp only [List.mem_cons, List.not_mem_nil, or_false] at hi6
        subst hi6
        have HB6 := Lib.hid (bt hb5 hb6)
        clear hC6 hb5 hb6
        refine Mix.op rfl (by kernel_rfl) ?_
        go_simp
        refine Mix.allL (rs := [8]) (by kernel_rfl) (by simp) (.of_below _ (ba HB6.out _)) (by kernel_rfl) ?_
        intro i7 hi7 w7 hb7 hC7
        simp only [List.mem_cons, List.not_mem_nil, or_false] at hi7
        subst hi7
        have HB7 := Lib.hid (bt (ba HB6.out (.cells #[.int .i64 xi, .slice ta tn tc, .slice fa fn fc] 38)) hb7)
        have hFX := (OB1.made w6 ⟨xi, ta, tn, tc, tps, fa, fn, fc, fps⟩).below hb7
        clear hC7 hb7
        obtain ⟨a', m', c', w8, hrun, hch, hnx⟩ := H3.out.app (x := ⟨xi, ta, tn, tc, tps, fa, fn, fc, fps⟩) (by have := HCL.out; omega) HB7.out hFX
        have HCH := Lib.hid hch; have HNX := Lib.hid hnx; have HRA := Lib.hid hrun
        clear hch hnx hrun hFX
        refine Mix.opApp rfl (by kernel_rfl) _ _ _ rfl rfl rfl HRA.out ?_
        go_simp
        refine Mix.take_exL _ _ 9 rfl (by kernel_rfl) (by kernel_rfl) (by kernel_rfl) (by kernel_rfl) (by kernel_rfl) (by kernel_rfl) (fun K hK => ?_)
        go_simp
        first | (refine hK _ ?_; clear hK K) | (apply Exists.intro; refine ⟨fun x => ?_, hK _ ?_⟩; (fail); clear hK K)
        refine Mix.allL (rs := [10]) (by kernel_rfl) (by simp) ((Chg.of_below _ HB7.out).same HCH.out) (by kernel_rfl) ?_
        intro i9 hi9 w9 hb9 hC9
        simp only [List.mem_cons, List.not_mem_nil, or_false] at hi9
        subst hi9
        have hp9 := HNX.out w9 (HCH.out.then_below hb9) hb9
        have y9 : w9.cell? ⟨b3, 2, none⟩ = some vo := ((HCH.out.then_below hb9).cell (b := b3) (by have := HB7.out.size; omega) n3 2).trans ((HB7.out.cell (p := ⟨b3, 2, none⟩) q3).trans y1)
        have y8 : w9.frozen? ⟨b3, 2, none⟩ = false := ((HCH.out.then_below hb9).frozen (b := b3) (by have := HB7.out.size; omega) n3 2).trans ((World.frozen?_of_block (a := ⟨b3, 2, none⟩) (HB7.out.block b3 q3)).trans (H3.out.m5.fz 2))
        have q9 : b3 < w9.heap.size := by have := HB7.out.size; have := HCH.out.size; have := hb9.size; omega
        have HP9 := Lib.hid hp9
        clear hC9 hp9 hb9 n3 n2 ns d0 d1 d2 z0 zM z1 q0 y0 yM y1 q3 qs
        refine Mix.op rfl (by kernel_rfl) ?_
        go_simp
        refine Mix.doneL (by kernel_rfl) (by kernel_rfl) ?_
        intro w10 hb10
        have HP10 := Lib.hid (HP9.out.on hb10)
        clear hb10 y9 y8 q9
        go_wp2
        go_roundw
        case rel => exact ⟨t + 1, _, _, by omega, by go_num, Lib.hid ⟨HP10.out, HE.out⟩⟩
        case measure => simp [intOf]; omega
    · obtain rfl : n = t := by omega
      obtain ⟨ao, mo, co, rfl⟩ := HQ.out.1.form
      have hge : decide (0 ≤ r) = (fndA (S.map Oa.pl) ai).isSome := by rw [HRQ.out, Srt.pl_fnd, plo_fnd, Option.isSome_map]
      generalize (fndA (S.map Oa.pl) ai).isSome = isq at *
      have hs3 : MB w3 b2 (0, 0) (.slice none 0 0) := (HQ.out.1.bel.block b2 (by have := HD3.out; omega)).trans (HM3.out.below HBV.out)
      obtain ⟨s0, sM, s1⟩ := hs3.cells
      have s2 := hs3.fz 0; have s3 := hs3.fz 1; have s4 := hs3.fz 2
      have q2 := hs3.lt
      have HR2 := Lib.hid (hs3.set2 cap (.slice ao mo co))
      have HMC := Lib.hid (mb_chg w3 b2 (.int .i64 cap.1) (.int .i64 cap.2) (.slice ao mo co))
      clear hs3
      go_wp2
      refine bodyPost_ret (res_mbe Try.results14 rfl HR2.out) rfl ?_
      have hol := HQ.out.1.own.lt
      have hds := HDS.out; have hd3 := HD3.out; have hbq := HBQ.out; have hsz := HMC.out.size; have hl3 := HQ.out.1.m5.lt
      have hbl : Below w.heap.size w (((w3.setCell ⟨b2, 0, none⟩ (.int .i64 cap.1)).setCell ⟨b2, 1, none⟩ (.int .i64 cap.2)).setCell ⟨b2, 2, none⟩ (.slice ao mo co)) := by
        rw [← hbq]
        exact HB3.out.trans ((HBV.out.mono (by have := HM3.out.lt; omega)).trans ((HQ.out.1.bel.mono (by omega)).trans (HMC.out.below (by omega) fun k e => by have e : k = b2 := e; omega)))
      refine ⟨_, delO S ai, rfl, ⟨?_, fun y hy => ?_⟩, ?_, HSO.out.del ai, fun G hG hd hva hua => ⟨.inr fun k hk hg => by have := hol k hk; have := hG k hg; omega, fun y hy => hd.vec y (Srt.mem_del.1 hy).1⟩, hbl⟩
      · have h1 := (HQ.out.1.own.chg HMC.out (fun k hk e => by have := (hol k hk).1; have e : k = b2 := e; omega)).rs (fun _ => rfl)
        rw [HQ.out.2, HN.out, List.take_length] at h1
        exact h1
      · have := (Srt.mem_del.1 hy).1
        exact ⟨(HL.out.vec y this).1.on hbl, (HL.out.vec y this).2.on hbl⟩
      · exact plo_del S ai
end
end
section
open Go.RowKit Go.Maps
attribute [local go_sem] ext_cell ext_frozen extC_cell extC_frozen Mix.calmUpon Mix.mUpon
theorem OB1.setf {w : World} {b : Nat} {f : Oa} (h : OB1 w b f) (fa : Option Addr) (fn fc : Nat) (fps : List Pt) : OB1 (w.setCell ⟨b, 2, none⟩ (.slice fa fn fc)) b ⟨f.id, f.ta, f.tn, f.tc, f.tps, fa, fn, fc, fps⟩ := heap_setCell_at _ h
theorem OB1.sett {w : World} {b : Nat} {f : Oa} (h : OB1 w b f) (ta : Option Addr) (tn tc : Nat) (tps : List Pt) : OB1 (w.setCell ⟨b, 1, none⟩ (.slice ta tn tc)) b ⟨f.id, ta, tn, tc, tps, f.fa, f.fn, f.fc, f.fps⟩ := heap_setCell_at _ h
section
variable {w : World} {a : Option Addr} {n cp : Nat} {S : List Oa} {cap : Int × Int} {ak ai : Int} {va ua : Option Addr} {vn vc un uc : Nat} {avs aus : List Pt}
set_option maxRecDepth 100000 in
set_option maxHeartbeats 4000000 in
theorem mdo_none (h : OL w (.slice a n cp) S) (hS : SO S) (hv : Vc w (.slice va vn vc) avs) (hu : Vc w (.slice ua un uc) aus) (h0 : ak ≠ 0) (h1 : ak ≠ 1) (hf : fndO S ai = none) :
    Calls Try.prog 14 #[mval cap (.slice a n cp), .agg #[.int .i64 ak, .int .i64 ai, .slice va vn vc, .slice ua un uc]] w (RetD w cap (.slice a n cp) S (.slice va vn vc) avs (.slice ua un uc) aus (S.map Oa.pl) false 43) := by
  have hk0 : (ak == 0) = false := by simpa using h0
  have hk1 : (ak == 1) = false := by simpa using h1
  have hpl : decide (0 ≤ Srt.pl Oa.id S ai) = false := by
    rw [Srt.pl_fnd]
    have h9 : Srt.fnd Oa.id S ai = none := hf
    rw [h9]; rfl
  have HPL := Lib.hid (of_decide_eq_false hpl)
  clear h0 h1 hpl hf
  have e1 : (w.alloc (.cells #[.int .i64 cap.1, .int .i64 cap.2, .slice a n cp] 29)).heap.size = w.heap.size + 1 := by simp
  have e2 : ((w.alloc (.cells #[.int .i64 cap.1, .int .i64 cap.2, .slice a n cp] 29)).alloc (.cells #[.int .i64 ak, .int .i64 ai, .slice va vn vc, .slice ua un uc] 34)).heap.size = w.heap.size + 2 := by simp
  have hb1 := ba (Below.refl w.heap.size w) (.cells #[.int .i64 cap.1, .int .i64 cap.2, .slice a n cp] 29)
  have hb2 := ba hb1 (.cells #[.int .i64 ak, .int .i64 ai, .slice va vn vc, .slice ua un uc] 34)
  have hb3 := ba hb2 (.cells #[.int .i64 0, .int .i64 0, .slice none 0 0] 29)
  have hm1 := ((MB.made w cap (.slice a n cp)).below (ba (Below.refl _ _) (.cells #[.int .i64 ak, .int .i64 ai, .slice va vn vc, .slice ua un uc] 34))).below (ba (Below.refl _ _) (.cells #[.int .i64 0, .int .i64 0, .slice none 0 0] 29))
  have hba : BA (w.alloc (.cells #[.int .i64 cap.1, .int .i64 cap.2, .slice a n cp] 29) |>.alloc (.cells #[.int .i64 ak, .int .i64 ai, .slice va vn vc, .slice ua un uc] 34)) (w.alloc (.cells #[.int .i64 cap.1, .int .i64 cap.2, .slice a n cp] 29)).heap.size ⟨ak, ai, .slice va vn vc, avs, .slice ua un uc, aus⟩ := heap_alloc_new _ _
  have hm2 : BA _ _ _ := ((ba (Below.refl _ _) (.cells #[.int .i64 0, .int .i64 0, .slice none 0 0] 29)).block _ hba.lt).trans hba
  have hm3 := MB.made ((w.alloc (.cells #[.int .i64 cap.1, .int .i64 cap.2, .slice a n cp] 29)).alloc (.cells #[.int .i64 ak, .int .i64 ai, .slice va vn vc, .slice ua un uc] 34)) (0, 0) (.slice none 0 0)
  rw [e1] at hm2
  rw [e2] at hm3
  have HM1 := Lib.hid hm1; have HM2 := Lib.hid hm2; have HM3 := Lib.hid hm3; have HB3 := Lib.hid hb3
  have HL := Lib.hid h; have HSO := Lib.hid hS; have HVV := Lib.hid hv; have HUU := Lib.hid hu
  clear h hS hv hu e1 e2 hb1 hb2 hb3 hm1 hba hm2 hm3
  go_enter Try.func14, Try.ntmps14
  obtain ⟨x0, x1, x2, x3⟩ := HM2.out.cells
  simp only at x0 x1 x2 x3
  have x4 := HM2.out.lt
  obtain ⟨z0, zM, z1⟩ := HM1.out.cells
  have q0 := HM1.out.lt
  go_wp2_with fail
  clear x0 x1 x2 x3 x4 z0 zM z1 q0
  generalize ((w.alloc (.cells #[.int .i64 cap.1, .int .i64 cap.2, .slice a n cp] 29)).alloc (.cells #[.int .i64 ak, .int .i64 ai, .slice va vn vc, .slice ua un uc] 34)).alloc (.cells #[.int .i64 0, .int .i64 0, .slice none 0 0] 29) = w0 at *
  obtain ⟨b, hbq⟩ : ∃ b, b = w.heap.size := ⟨_, rfl⟩
  rw [← hbq] at HM1 HM2 HM3 HB3 ⊢
  obtain ⟨b1, hb1q⟩ : ∃ b1, b1 = b + 1 := ⟨_, rfl⟩
  rw [← hb1q] at HM2 ⊢
  obtain ⟨b2, hb2q⟩ : ∃ b2, b2 = b + 2 := ⟨_, rfl⟩
  rw [← hb2q] at HM3
  rw [show b1 + 1 = b2 by omega]
  have HBQ := Lib.hid hbq
  have HDS := Lib.hid (show b1 = b + 1 ∧ b2 = b + 2 by omega)
  clear hbq hb1q hb2q
  have HBZ := Lib.hid (show Below w.heap.size w w0 from by rw [← HBQ.out]; exact HB3.out)
  refine (mat (cap := cap) (HL.out.rs.below HBZ.out) ai).mono ?_
  rintro e w1 ⟨rfl, hb4⟩
  have HBW := Lib.hid hb4
  clear hb4
  have hpl := HPL.out
  generalize Srt.pl Oa.id S ai = r at *
  have hp2 : (r < 0) = True := eq_true (by omega)
  have hp3 : decide (r < 0) = true := decide_eq_true (by omega)
  -- the cells of the list's block, of the act's and of the answer's at the world wz
  obtain ⟨z0, zM, z1⟩ := (HM1.out.below HBW.out).cells
  have q0 := (HM1.out.below HBW.out).lt
  have hm2 : BA w1 b1 _ := (HBW.out.block _ HM2.out.lt).trans HM2.out
  obtain ⟨x0, x1, x2, x3⟩ := hm2.cells
  simp only at x0 x1 x2 x3
  have x4 := hm2.lt
  clear hm2
  clear hpl z0 zM z1 q0
  obtain ⟨z0, zM, z1⟩ := (HM1.out.below HBW.out).cells
  have q0 := (HM1.out.below HBW.out).lt
  have hs3 := HM3.out.below HBW.out
  obtain ⟨s0, sM, s1⟩ := hs3.cells
  have s2 := hs3.fz 0; have s3 := hs3.fz 1; have s4 := hs3.fz 2
  have q2 := hs3.lt
  have HR2 := Lib.hid (hs3.set2 cap (.slice a n cp))
  clear hs3
  go_wp2
  refine bodyPost_ret (res_mbe Try.results14 rfl HR2.out) rfl ?_
  have hs0 := HM3.out.lt; have hs1 := HBW.out.size; have hds := HDS.out
  refine RetD.same HL.out HSO.out ?_ rfl rfl
  rw [← HBQ.out]
  exact HB3.out.trans ((HBW.out.mono (by omega)).trans ((mb_chg w1 b2 (.int .i64 cap.1) (.int .i64 cap.2) (.slice a n cp)).below (by omega) fun k e => by have e : k = b2 := e; omega))
-- the turned agent put into the list: OBX: it stands in block b3 of the world wz; HBY: what w0 became there; FX: the agent
set_option maxRecDepth 100000 in
set_option maxHeartbeats 8000000 in
theorem mdo2 (h : OL w (.slice a n cp) S) (hS : SO S) (hin : AIn cap.1 cap.2 (S.map Oa.pl)) (hln : S.length < 900000) (hv : Vc w (.slice va vn vc) avs) (hvl : avs.length < 1000000000) (hu : Vc w (.slice ua un uc) aus) (hk : ak = 2) {x : Oa} (hf : fndO S ai = some x) :
    Calls Try.prog 14 #[mval cap (.slice a n cp), .agg #[.int .i64 ak, .int .i64 ai, .slice va vn vc, .slice ua un uc]] w (RetD w cap (.slice a n cp) S (.slice va vn vc) avs (.slice ua un uc) aus (takeP (S.map Oa.pl) ai avs) false (takeE (S.map Oa.pl) ai avs)) := by
  have hk0 : (ak == 0) = false := by rw [hk]; rfl
  have hk1 : (ak == 1) = false := by rw [hk]; rfl
  have hk2 : (ak == 2) = true := by rw [hk]; rfl
  have HF := Lib.hid hf; have HIN := Lib.hid hin; have HLN := Lib.hid hln; have HVL := Lib.hid hvl
  clear hk hf hin hln hvl
  have e1 : (w.alloc (.cells #[.int .i64 cap.1, .int .i64 cap.2, .slice a n cp] 29)).heap.size = w.heap.size + 1 := by simp
  have e2 : ((w.alloc (.cells #[.int .i64 cap.1, .int .i64 cap.2, .slice a n cp] 29)).alloc (.cells #[.int .i64 ak, .int .i64 ai, .slice va vn vc, .slice ua un uc] 34)).heap.size = w.heap.size + 2 := by simp
  have hb1 := ba (Below.refl w.heap.size w) (.cells #[.int .i64 cap.1, .int .i64 cap.2, .slice a n cp] 29)
  have hb2 := ba hb1 (.cells #[.int .i64 ak, .int .i64 ai, .slice va vn vc, .slice ua un uc] 34)
  have hb3 := ba hb2 (.cells #[.int .i64 0, .int .i64 0, .slice none 0 0] 29)
  have hm1 := ((MB.made w cap (.slice a n cp)).below (ba (Below.refl _ _) (.cells #[.int .i64 ak, .int .i64 ai, .slice va vn vc, .slice ua un uc] 34))).below (ba (Below.refl _ _) (.cells #[.int .i64 0, .int .i64 0, .slice none 0 0] 29))
  have hba : BA (w.alloc (.cells #[.int .i64 cap.1, .int .i64 cap.2, .slice a n cp] 29) |>.alloc (.cells #[.int .i64 ak, .int .i64 ai, .slice va vn vc, .slice ua un uc] 34)) (w.alloc (.cells #[.int .i64 cap.1, .int .i64 cap.2, .slice a n cp] 29)).heap.size ⟨ak, ai, .slice va vn vc, avs, .slice ua un uc, aus⟩ := heap_alloc_new _ _
  have hm2 : BA _ _ _ := ((ba (Below.refl _ _) (.cells #[.int .i64 0, .int .i64 0, .slice none 0 0] 29)).block _ hba.lt).trans hba
  have hm3 := MB.made ((w.alloc (.cells #[.int .i64 cap.1, .int .i64 cap.2, .slice a n cp] 29)).alloc (.cells #[.int .i64 ak, .int .i64 ai, .slice va vn vc, .slice ua un uc] 34)) (0, 0) (.slice none 0 0)
  rw [e1] at hm2
  rw [e2] at hm3
  have HM1 := Lib.hid hm1; have HM2 := Lib.hid hm2; have HM3 := Lib.hid hm3; have HB3 := Lib.hid hb3
  have HL := Lib.hid h; have HSO := Lib.hid hS; have HVV := Lib.hid hv; have HUU := Lib.hid hu
  clear h hS hv hu e1 e2 hb1 hb2 hb3 hm1 hba hm2 hm3
  go_enter Try.func14, Try.ntmps14
  obtain ⟨x0, x1, x2, x3⟩ := HM2.out.cells
  simp only at x0 x1 x2 x3
  have x4 := HM2.out.lt
  obtain ⟨z0, zM, z1⟩ := HM1.out.cells
  have q0 := HM1.out.lt
  go_wp2_with fail
  clear x0 x1 x2 x3 x4 z0 zM z1 q0
  generalize ((w.alloc (.cells #[.int .i64 cap.1, .int .i64 cap.2, .slice a n cp] 29)).alloc (.cells #[.int .i64 ak, .int .i64 ai, .slice va vn vc, .slice ua un uc] 34)).alloc (.cells #[.int .i64 0, .int .i64 0, .slice none 0 0] 29) = w0 at *
  obtain ⟨b, hbq⟩ : ∃ b, b = w.heap.size := ⟨_, rfl⟩
  rw [← hbq] at HM1 HM2 HM3 HB3 ⊢
  obtain ⟨b1, hb1q⟩ : ∃ b1, b1 = b + 1 := ⟨_, rfl⟩
  rw [← hb1q] at HM2 ⊢
  obtain ⟨b2, hb2q⟩ : ∃ b2, b2 = b + 2 := ⟨_, rfl⟩
  rw [← hb2q] at HM3
  rw [show b1 + 1 = b2 by omega]
  have HBQ := Lib.hid hbq
  have HDS := Lib.hid (show b1 = b + 1 ∧ b2 = b + 2 by omega)
  clear hbq hb1q hb2q
  have HBZ := Lib.hid (show Below w.heap.size w w0 from by rw [← HBQ.out]; exact HB3.out)
  refine (mat (cap := cap) (HL.out.rs.below HBZ.out) ai).mono ?_
  rintro e w1 ⟨rfl, hb4⟩
  have HBW := Lib.hid hb4
  clear hb4
  obtain ⟨ix, hix, hxa⟩ := Srt.pl_at HF.out
  have hpl : (Srt.pl Oa.id S ai < 0) = False := eq_false (by omega)
  have hpd : decide (Srt.pl Oa.id S ai < 0) = false := decide_eq_false (by omega)
  rw [hix] at hpl hpd ⊢
  have HBZ1 := Lib.hid (show Below b w w1 from HB3.out.trans (HBW.out.mono (by have := HM3.out.lt; have := HDS.out; omega)))
  obtain ⟨_, _, _, he, hnl, _, _, hat⟩ := HL.out.rs.at_
  cases he
  obtain ⟨bs, off, rfl, hbs, hcell⟩ := hat ix x hxa
  have hixn : ix < n := by rw [hnl]; exact (List.getElem?_eq_some_iff.1 hxa).1
  have hbsb : bs < b := by have := HBQ.out; omega
  have d0 := (HBZ1.out.cell (p := ⟨bs, _, none⟩) hbsb).trans (hcell 0 _ rfl)
  have d1 := (HBZ1.out.cell (p := ⟨bs, _, none⟩) hbsb).trans (hcell 1 _ rfl)
  have d2 := (HBZ1.out.cell (p := ⟨bs, _, none⟩) hbsb).trans (hcell 2 _ rfl)
  simp only [Nat.add_zero] at d0
  have qs : bs < w1.heap.size := by have := HBZ1.out.size; have := HM3.out.lt; have := HBW.out.size; have := HDS.out; omega
  have HXM := Lib.hid (mem_at hxa)
  have HXV := Lib.hid (HL.out.vec x (mem_at hxa))
  have HXO := Lib.hid (HIN.out.ok x.pl (List.mem_map.2 ⟨x, mem_at hxa, rfl⟩))
  have HFP := Lib.hid (show fndA (S.map Oa.pl) ai = some x.pl from by rw [plo_fnd]; rw [show fndO S ai = some x from HF.out]; rfl)
  have HXI := Lib.hid (show x.id = ai from (Srt.fnd_mem HF.out).2)
  have HLS := Lib.hid (show S.length < 900000 from HLN.out)
  -- the cells of the list's block, of the act's and of the answer's at the world wz
  obtain ⟨z0, zM, z1⟩ := (HM1.out.below HBW.out).cells
  have q0 := (HM1.out.below HBW.out).lt
  have hm2 : BA w1 b1 _ := (HBW.out.block _ HM2.out.lt).trans HM2.out
  obtain ⟨x0, x1, x2, x3⟩ := hm2.cells
  simp only at x0 x1 x2 x3
  have x4 := hm2.lt
  clear hm2
  obtain ⟨xi, ta, tn, tc, tps, fa, fn, fc, fps⟩ := x
  simp only at d0 d1 d2
  have hb12 := ba (Below.refl w1.heap.size w1) (.cells #[.int .i64 xi, .slice ta tn tc, .slice fa fn fc] 38)
  have HOB2 := Lib.hid (show OB1 (w1.alloc (.cells #[.int .i64 xi, .slice ta tn tc, .slice fa fn fc] 38)) w1.heap.size ⟨xi, ta, tn, tc, tps, fa, fn, fc, fps⟩ from OB1.made w1 ⟨xi, ta, tn, tc, tps, fa, fn, fc, fps⟩)
  have HBV := Lib.hid (bt HBW.out hb12)
  have HQ3 := Lib.hid (show b2 < w1.heap.size from by have := HM3.out.lt; have := HBW.out.size; omega)
  have hmx1 := HM2.out
  clear hat hcell hxa hbs hbsb hnl hb12
  have hx2 : (w1.alloc (.cells #[.int .i64 xi, .slice ta tn tc, .slice fa fn fc] 38)).cell? ⟨b1, 2, none⟩ = some (.slice va vn vc) := by rw [(ba (Below.refl w1.heap.size w1) _).cell (p := ⟨b1, 2, none⟩) x4]; exact x2
  have hx3 : (w1.alloc (.cells #[.int .i64 xi, .slice ta tn tc, .slice fa fn fc] 38)).cell? ⟨b1, 3, none⟩ = some (.slice ua un uc) := by rw [(ba (Below.refl w1.heap.size w1) _).cell (p := ⟨b1, 3, none⟩) x4]; exact x3
  obtain ⟨o0, o1, o2⟩ := HOB2.out.cells
  simp only at o0 o1 o2
  have o4 := HOB2.out.lt
  clear hmx1
  go_wp2_with fail
  generalize w1.alloc (.cells #[.int .i64 xi, .slice ta tn tc, .slice fa fn fc] 38) = w2 at *
  obtain ⟨b3, hb3q⟩ : ∃ k, k = w1.heap.size := ⟨_, rfl⟩
  rw [← hb3q] at HOB2 HQ3 ⊢
  have HQW := Lib.hid hb3q
  clear hb3q hx2 hx3 o0 o1 o2 o4 d0 d1 d2 qs hpl hpd
  clear z0 zM z1 q0 x0 x1 x2 x3 x4
  have HBZ2 := Lib.hid (show Below w.heap.size w w2 from by rw [← HBQ.out]; exact HB3.out.trans (HBV.out.mono (by have := HM3.out.lt; have := HDS.out; omega)))
  have HV2 := Lib.hid (HVV.out.on HBZ2.out); have HU2 := Lib.hid (HUU.out.on HBZ2.out)
  have HVX1 := Lib.hid (show Vc w (.slice ta tn tc) tps from HXV.out.1)
  have HXV2 := Lib.hid (show Vc w2 (.slice ta tn tc) tps ∧ Vc w2 (.slice fa fn fc) fps from ⟨(show Vc w (.slice ta tn tc) tps from HXV.out.1).on HBZ2.out, (show Vc w (.slice fa fn fc) fps from HXV.out.2).on HBZ2.out⟩)
  have hS1 := refsub_any (.slice fa fn fc) (.slice va vn vc) fps avs (Nat.lt_of_le_of_lt (vr_len HXO.out.vf) (by decide)) HVL.out w2 HXV2.out.2 HV2.out
  have HS1 := Lib.hid hS1
  clear hS1
  refine HS1.out.mono ?_
  rintro e w3 ⟨u, rfl, hu, hb3⟩
  cases ho : mrg gSub fps avs with
  | none =>
    have HPP := Lib.hid (show takeP (S.map Oa.pl) ai avs = S.map Oa.pl from by unfold takeP; rw [HFP.out]; simp only; rw [ho])
    have HEE := Lib.hid (show takeE (S.map Oa.pl) ai avs = 30 from by unfold takeE; rw [HFP.out]; simp only; rw [ho]; rfl)
    have HBX := Lib.hid (bt HBV.out hb3)
    clear ho hu hb3
    obtain ⟨z0, zM, z1⟩ := (HM1.out.below HBX.out).cells
    have q0 := (HM1.out.below HBX.out).lt
    have hs3 := HM3.out.below HBX.out
    obtain ⟨s0, sM, s1⟩ := hs3.cells
    have s2 := hs3.fz 0; have s3 := hs3.fz 1; have s4 := hs3.fz 2
    have q2 := hs3.lt
    have HR2 := Lib.hid (hs3.set2 cap (.slice (some ⟨bs, off, none⟩) n cp))
    clear hs3
    go_wp2
    rw [HPP.out, HEE.out]
    refine bodyPost_ret (res_mbe Try.results14 rfl HR2.out) rfl ?_
    have hs0 := HM3.out.lt; have hs1 := HBX.out.size; have hds := HDS.out
    refine RetD.same HL.out HSO.out ?_ rfl rfl
    rw [← HBQ.out]
    exact HB3.out.trans ((HBX.out.mono (by omega)).trans ((mb_chg w3 b2 (.int .i64 cap.1) (.int .i64 cap.2) (.slice (some ⟨bs, off, none⟩) n cp)).below (by omega) fun k e => by have e : k = b2 := e; omega))
  | some r =>
    rw [ho] at hu
    replace hu : OwnP w3 w2.heap.size u r := hu
    obtain ⟨u1, u3, hue, -, -⟩ := hu.vc.form
    subst hue
    obtain ⟨u2, hu2⟩ : ∃ m, m = r.length := ⟨_, rfl⟩
    rw [← hu2] at hu ⊢
    have HPP := Lib.hid (show takeP (S.map Oa.pl) ai avs = putA (S.map Oa.pl) (⟨xi, ta, tn, tc, tps, u1, u2, u3, r⟩ : Oa).pl from by unfold takeP; rw [HFP.out]; simp only; rw [ho]; simp only [show ai = xi from HXI.out.symm])
    have HEE := Lib.hid (show takeE (S.map Oa.pl) ai avs = 0 from by unfold takeE; rw [HFP.out]; simp only; rw [ho]; rfl)
    have HUR := Lib.hid hu
    have hob := HOB2.out.below hb3
    have HBX3 := Lib.hid (bt HBV.out hb3)
    -- the cells of the list's block, of the act's and of the answer's at the world wz
    obtain ⟨z0, zM, z1⟩ := (HM1.out.below HBX3.out).cells
    have q0 := (HM1.out.below HBX3.out).lt
    have hm2 : BA w3 b1 _ := (HBX3.out.block _ HM2.out.lt).trans HM2.out
    obtain ⟨x0, x1, x2, x3⟩ := hm2.cells
    simp only at x0 x1 x2 x3
    have x4 := hm2.lt
    clear hm2
    clear x0 x1 x2 x3 x4
    obtain ⟨o0, o1, o2⟩ := hob.cells
    simp only at o0 o1 o2
    have o3 := hob.fz 2
    have o4 := hob.lt
    have hne : b ≠ b3 := by have := HDS.out; have := HM3.out.lt; have := HQW.out; have := HBW.out.size; omega
    have hne' : b3 ≠ b := fun e => hne e.symm
    have HOB3 := Lib.hid (hob.setf u1 u2 u3 r)
    have hcb := (Chg.refl (fun k => k = b3) w3).setCell (p := ⟨b3, 2, none⟩) (.inl rfl) (.slice u1 u2 u3)
    have HBY := Lib.hid (show Below w0.heap.size w0 (w3.setCell ⟨b3, 2, none⟩ (.slice u1 u2 u3)) from HBX3.out.trans (hcb.below HBX3.out.size fun k e => by have e : k = b3 := e; have := HQ3.out; have := HBW.out.size; have := HQW.out; omega))
    have HUW := Lib.hid (show Vc (w3.setCell ⟨b3, 2, none⟩ (.slice u1 u2 u3)) (.slice u1 u2 u3) r from hu.vc.chg hcb fun k hk e => by have := (hu.lt k hk).1; have := HOB2.out.lt; have e : k = b3 := e; omega)
    clear ho hu hu2 hb3 hob hcb
    go_wp2_with fail
    clear o0 o1 o2 o3 o4 z0 zM z1 q0 hne hne'
    generalize w3.setCell ⟨b3, 2, none⟩ (.slice u1 u2 u3) = w4 at *
    have HBZ9 := Lib.hid (show Below w.heap.size w w4 from by rw [← HBQ.out]; exact HB3.out.trans (HBY.out.mono (by have := HM3.out.lt; have := HDS.out; omega)))
    refine (mwith (f := (⟨xi, ta, tn, tc, tps, u1, u2, u3, r⟩ : Oa)) (HL.out.rs.below HBZ9.out) HSO.out HLS.out).mono ?_
    rintro e w16 ⟨v', rfl, hv1, hv2, hb16⟩
    obtain ⟨a', n', c', rfl, -, -, -, -⟩ := RS.at_ hv1
    have HV1 := Lib.hid hv1; have HV2' := Lib.hid hv2
    have HBX := Lib.hid (bt HBY.out hb16)
    have HB16 := Lib.hid hb16
    clear hv1 hv2 hb16
    have hs3 := HM3.out.below HBX.out
    obtain ⟨s0, sM, s1⟩ := hs3.cells
    have s2 := hs3.fz 0; have s3 := hs3.fz 1; have s4 := hs3.fz 2
    have q2 := hs3.lt
    have HR2 := Lib.hid (hs3.set2 cap (.slice a' n' c'))
    clear hs3
    go_wp2
    rw [HPP.out, HEE.out]
    refine bodyPost_ret (res_mbe Try.results14 rfl HR2.out) rfl ?_
    refine RetD.fin (w0 := w0) (w1 := w16) (b2 := b2) HBZ.out HL.out HVV.out HUU.out ⟨by have := HBQ.out; have := HDS.out; omega, HM3.out.lt⟩ (L' := putO S (⟨xi, ta, tn, tc, tps, u1, u2, u3, r⟩ : Oa)) ⟨HV1.out, fun y hy => ?_⟩ (plo_put S _) (HSO.out.put ordO _) (fun G hG hd hva hua => ⟨.inr fun k hk hg => by have := HV2'.out k hk; have := hG k hg; have := HBY.out.size; omega, fun y hy => ?_⟩) HBX.out (mb_chg w16 b2 _ _ _) rfl
    · rcases Srt.mem_put.1 hy with rfl | ⟨hy, _⟩
      · exact ⟨(HVX1.out.on HBZ9.out).on HB16.out, HUW.out.on HB16.out⟩
      · exact ⟨((HL.out.vec y hy).1.on HBZ9.out).on HB16.out, ((HL.out.vec y hy).2.on HBZ9.out).on HB16.out⟩
    · rcases Srt.mem_put.1 hy with rfl | ⟨hy, _⟩
      · exact ⟨(hd.vec _ HXM.out).1, .inr fun k hk hg => by have := (HUR.out.lt k hk).1; have := hG k hg; have := HBV.out.size; omega⟩
      · exact hd.vec y hy
set_option maxRecDepth 100000 in
set_option maxHeartbeats 8000000 in
theorem mdo3 (h : OL w (.slice a n cp) S) (hS : SO S) (hin : AIn cap.1 cap.2 (S.map Oa.pl)) (hln : S.length < 900000) (hv : Vc w (.slice va vn vc) avs) (hvl : avs.length < 1000000000) (hu : Vc w (.slice ua un uc) aus) (hk : ak = 3) {x : Oa} (hf : fndO S ai = some x) :
    Calls Try.prog 14 #[mval cap (.slice a n cp), .agg #[.int .i64 ak, .int .i64 ai, .slice va vn vc, .slice ua un uc]] w (RetD w cap (.slice a n cp) S (.slice va vn vc) avs (.slice ua un uc) aus (giveP (S.map Oa.pl) ai avs) false (giveE (S.map Oa.pl) ai avs)) := by
  have hk0 : (ak == 0) = false := by rw [hk]; rfl
  have hk1 : (ak == 1) = false := by rw [hk]; rfl
  have hk2 : (ak == 2) = false := by rw [hk]; rfl
  have hk3 : (ak == 3) = true := by rw [hk]; rfl
  have HF := Lib.hid hf; have HIN := Lib.hid hin; have HLN := Lib.hid hln; have HVL := Lib.hid hvl
  clear hk hf hin hln hvl
  have e1 : (w.alloc (.cells #[.int .i64 cap.1, .int .i64 cap.2, .slice a n cp] 29)).heap.size = w.heap.size + 1 := by simp
  have e2 : ((w.alloc (.cells #[.int .i64 cap.1, .int .i64 cap.2, .slice a n cp] 29)).alloc (.cells #[.int .i64 ak, .int .i64 ai, .slice va vn vc, .slice ua un uc] 34)).heap.size = w.heap.size + 2 := by simp
  have hb1 := ba (Below.refl w.heap.size w) (.cells #[.int .i64 cap.1, .int .i64 cap.2, .slice a n cp] 29)
  have hb2 := ba hb1 (.cells #[.int .i64 ak, .int .i64 ai, .slice va vn vc, .slice ua un uc] 34)
  have hb3 := ba hb2 (.cells #[.int .i64 0, .int .i64 0, .slice none 0 0] 29)
  have hm1 := ((MB.made w cap (.slice a n cp)).below (ba (Below.refl _ _) (.cells #[.int .i64 ak, .int .i64 ai, .slice va vn vc, .slice ua un uc] 34))).below (ba (Below.refl _ _) (.cells #[.int .i64 0, .int .i64 0, .slice none 0 0] 29))
  have hba : BA (w.alloc (.cells #[.int .i64 cap.1, .int .i64 cap.2, .slice a n cp] 29) |>.alloc (.cells #[.int .i64 ak, .int .i64 ai, .slice va vn vc, .slice ua un uc] 34)) (w.alloc (.cells #[.int .i64 cap.1, .int .i64 cap.2, .slice a n cp] 29)).heap.size ⟨ak, ai, .slice va vn vc, avs, .slice ua un uc, aus⟩ := heap_alloc_new _ _
  have hm2 : BA _ _ _ := ((ba (Below.refl _ _) (.cells #[.int .i64 0, .int .i64 0, .slice none 0 0] 29)).block _ hba.lt).trans hba
  have hm3 := MB.made ((w.alloc (.cells #[.int .i64 cap.1, .int .i64 cap.2, .slice a n cp] 29)).alloc (.cells #[.int .i64 ak, .int .i64 ai, .slice va vn vc, .slice ua un uc] 34)) (0, 0) (.slice none 0 0)
  rw [e1] at hm2
  rw [e2] at hm3
  have HM1 := Lib.hid hm1; have HM2 := Lib.hid hm2; have HM3 := Lib.hid hm3; have HB3 := Lib.hid hb3
  have HL := Lib.hid h; have HSO := Lib.hid hS; have HVV := Lib.hid hv; have HUU := Lib.hid hu
  clear h hS hv hu e1 e2 hb1 hb2 hb3 hm1 hba hm2 hm3
  go_enter Try.func14, Try.ntmps14
  obtain ⟨x0, x1, x2, x3⟩ := HM2.out.cells
  simp only at x0 x1 x2 x3
  have x4 := HM2.out.lt
  obtain ⟨z0, zM, z1⟩ := HM1.out.cells
  have q0 := HM1.out.lt
  go_wp2_with fail
  clear x0 x1 x2 x3 x4 z0 zM z1 q0
  generalize ((w.alloc (.cells #[.int .i64 cap.1, .int .i64 cap.2, .slice a n cp] 29)).alloc (.cells #[.int .i64 ak, .int .i64 ai, .slice va vn vc, .slice ua un uc] 34)).alloc (.cells #[.int .i64 0, .int .i64 0, .slice none 0 0] 29) = w0 at *
  obtain ⟨b, hbq⟩ : ∃ b, b = w.heap.size := ⟨_, rfl⟩
  rw [← hbq] at HM1 HM2 HM3 HB3 ⊢
  obtain ⟨b1, hb1q⟩ : ∃ b1, b1 = b + 1 := ⟨_, rfl⟩
  rw [← hb1q] at HM2 ⊢
  obtain ⟨b2, hb2q⟩ : ∃ b2, b2 = b + 2 := ⟨_, rfl⟩
  rw [← hb2q] at HM3
  rw [show b1 + 1 = b2 by omega]
  have HBQ := Lib.hid hbq
  have HDS := Lib.hid (show b1 = b + 1 ∧ b2 = b + 2 by omega)
  clear hbq hb1q hb2q
  have HBZ := Lib.hid (show Below w.heap.size w w0 from by rw [← HBQ.out]; exact HB3.out)
  refine (mat (cap := cap) (HL.out.rs.below HBZ.out) ai).mono ?_
  rintro e w1 ⟨rfl, hb4⟩
  have HBW := Lib.hid hb4
  clear hb4
  obtain ⟨ix, hix, hxa⟩ := Srt.pl_at HF.out
  have hpl : (Srt.pl Oa.id S ai < 0) = False := eq_false (by omega)
  have hpd : decide (Srt.pl Oa.id S ai < 0) = false := decide_eq_false (by omega)
  rw [hix] at hpl hpd ⊢
  have HBZ1 := Lib.hid (show Below b w w1 from HB3.out.trans (HBW.out.mono (by have := HM3.out.lt; have := HDS.out; omega)))
  obtain ⟨_, _, _, he, hnl, _, _, hat⟩ := HL.out.rs.at_
  cases he
  obtain ⟨bs, off, rfl, hbs, hcell⟩ := hat ix x hxa
  have hixn : ix < n := by rw [hnl]; exact (List.getElem?_eq_some_iff.1 hxa).1
  have hbsb : bs < b := by have := HBQ.out; omega
  have d0 := (HBZ1.out.cell (p := ⟨bs, _, none⟩) hbsb).trans (hcell 0 _ rfl)
  have d1 := (HBZ1.out.cell (p := ⟨bs, _, none⟩) hbsb).trans (hcell 1 _ rfl)
  have d2 := (HBZ1.out.cell (p := ⟨bs, _, none⟩) hbsb).trans (hcell 2 _ rfl)
  simp only [Nat.add_zero] at d0
  have qs : bs < w1.heap.size := by have := HBZ1.out.size; have := HM3.out.lt; have := HBW.out.size; have := HDS.out; omega
  have HXM := Lib.hid (mem_at hxa)
  have HXV := Lib.hid (HL.out.vec x (mem_at hxa))
  have HXO := Lib.hid (HIN.out.ok x.pl (List.mem_map.2 ⟨x, mem_at hxa, rfl⟩))
  have HFP := Lib.hid (show fndA (S.map Oa.pl) ai = some x.pl from by rw [plo_fnd]; rw [show fndO S ai = some x from HF.out]; rfl)
  have HXI := Lib.hid (show x.id = ai from (Srt.fnd_mem HF.out).2)
  have HLS := Lib.hid (show S.length < 900000 from HLN.out)
  -- the cells of the list's block, of the act's and of the answer's at the world wz
  obtain ⟨z0, zM, z1⟩ := (HM1.out.below HBW.out).cells
  have q0 := (HM1.out.below HBW.out).lt
  have hm2 : BA w1 b1 _ := (HBW.out.block _ HM2.out.lt).trans HM2.out
  obtain ⟨x0, x1, x2, x3⟩ := hm2.cells
  simp only at x0 x1 x2 x3
  have x4 := hm2.lt
  clear hm2
  obtain ⟨xi, ta, tn, tc, tps, fa, fn, fc, fps⟩ := x
  simp only at d0 d1 d2
  have hb12 := ba (Below.refl w1.heap.size w1) (.cells #[.int .i64 xi, .slice ta tn tc, .slice fa fn fc] 38)
  have HOB2 := Lib.hid (show OB1 (w1.alloc (.cells #[.int .i64 xi, .slice ta tn tc, .slice fa fn fc] 38)) w1.heap.size ⟨xi, ta, tn, tc, tps, fa, fn, fc, fps⟩ from OB1.made w1 ⟨xi, ta, tn, tc, tps, fa, fn, fc, fps⟩)
  have HBV := Lib.hid (bt HBW.out hb12)
  have HQ3 := Lib.hid (show b2 < w1.heap.size from by have := HM3.out.lt; have := HBW.out.size; omega)
  have hmx1 := HM2.out
  clear hat hcell hxa hbs hbsb hnl hb12
  have hx2 : (w1.alloc (.cells #[.int .i64 xi, .slice ta tn tc, .slice fa fn fc] 38)).cell? ⟨b1, 2, none⟩ = some (.slice va vn vc) := by rw [(ba (Below.refl w1.heap.size w1) _).cell (p := ⟨b1, 2, none⟩) x4]; exact x2
  have hx3 : (w1.alloc (.cells #[.int .i64 xi, .slice ta tn tc, .slice fa fn fc] 38)).cell? ⟨b1, 3, none⟩ = some (.slice ua un uc) := by rw [(ba (Below.refl w1.heap.size w1) _).cell (p := ⟨b1, 3, none⟩) x4]; exact x3
  obtain ⟨o0, o1, o2⟩ := HOB2.out.cells
  simp only at o0 o1 o2
  have o4 := HOB2.out.lt
  clear hmx1
  go_wp2_with fail
  generalize w1.alloc (.cells #[.int .i64 xi, .slice ta tn tc, .slice fa fn fc] 38) = w2 at *
  obtain ⟨b3, hb3q⟩ : ∃ k, k = w1.heap.size := ⟨_, rfl⟩
  rw [← hb3q] at HOB2 HQ3 ⊢
  have HQW := Lib.hid hb3q
  clear hb3q hx2 hx3 o0 o1 o2 o4 d0 d1 d2 qs hpl hpd
  clear z0 zM z1 q0 x0 x1 x2 x3 x4
  have HBZ2 := Lib.hid (show Below w.heap.size w w2 from by rw [← HBQ.out]; exact HB3.out.trans (HBV.out.mono (by have := HM3.out.lt; have := HDS.out; omega)))
  have HV2 := Lib.hid (HVV.out.on HBZ2.out); have HU2 := Lib.hid (HUU.out.on HBZ2.out)
  have HVX1 := Lib.hid (show Vc w (.slice ta tn tc) tps from HXV.out.1)
  have HXV2 := Lib.hid (show Vc w2 (.slice ta tn tc) tps ∧ Vc w2 (.slice fa fn fc) fps from ⟨(show Vc w (.slice ta tn tc) tps from HXV.out.1).on HBZ2.out, (show Vc w (.slice fa fn fc) fps from HXV.out.2).on HBZ2.out⟩)
  have hS1 := refadd_any (.slice fa fn fc) (.slice va vn vc) fps avs (Nat.lt_of_le_of_lt (vr_len HXO.out.vf) (by decide)) HVL.out w2 HXV2.out.2 HV2.out
  have HS1 := Lib.hid hS1
  clear hS1
  refine HS1.out.mono ?_
  rintro e w3 ⟨u, rfl, hu, hb3⟩
  cases ho : mrg gAdd fps avs with
  | none =>
    have HPP := Lib.hid (show giveP (S.map Oa.pl) ai avs = S.map Oa.pl from by unfold giveP; rw [HFP.out]; simp only; rw [ho])
    have HEE := Lib.hid (show giveE (S.map Oa.pl) ai avs = 31 from by unfold giveE; rw [HFP.out]; simp only; rw [ho])
    have HBX := Lib.hid (bt HBV.out hb3)
    clear ho hu hb3
    obtain ⟨z0, zM, z1⟩ := (HM1.out.below HBX.out).cells
    have q0 := (HM1.out.below HBX.out).lt
    have hs3 := HM3.out.below HBX.out
    obtain ⟨s0, sM, s1⟩ := hs3.cells
    have s2 := hs3.fz 0; have s3 := hs3.fz 1; have s4 := hs3.fz 2
    have q2 := hs3.lt
    have HR2 := Lib.hid (hs3.set2 cap (.slice (some ⟨bs, off, none⟩) n cp))
    clear hs3
    go_wp2
    rw [HPP.out, HEE.out]
    refine bodyPost_ret (res_mbe Try.results14 rfl HR2.out) rfl ?_
    have hs0 := HM3.out.lt; have hs1 := HBX.out.size; have hds := HDS.out
    refine RetD.same HL.out HSO.out ?_ rfl rfl
    rw [← HBQ.out]
    exact HB3.out.trans ((HBX.out.mono (by omega)).trans ((mb_chg w3 b2 (.int .i64 cap.1) (.int .i64 cap.2) (.slice (some ⟨bs, off, none⟩) n cp)).below (by omega) fun k e => by have e : k = b2 := e; omega))
  | some r =>
    rw [ho] at hu
    replace hu : OwnP w3 w2.heap.size u r := hu
    obtain ⟨u1, u3, hue, -, -⟩ := hu.vc.form
    subst hue
    obtain ⟨u2, hu2⟩ : ∃ m, m = r.length := ⟨_, rfl⟩
    rw [← hu2] at hu ⊢
    have HRV := Lib.hid (mrg_some gAdd0 gAddB ho).2.2.1
    have HHS := Lib.hid fun (X : World) hX => rholds_any (.slice ta tn tc) (.slice u1 u2 u3) tps r (Nat.lt_of_le_of_lt (vr_len HXO.out.vt) (by decide)) (Nat.lt_of_le_of_lt (vr_len HRV.out) (by decide)) X hX
    have HBX3 := Lib.hid (bt HBV.out hb3)
    have hob := HOB2.out.below hb3
    obtain ⟨o0, o1, o2⟩ := hob.cells
    simp only at o0 o1 o2
    have o4 := hob.lt
    have HO := Lib.hid ho
    have HU3 := Lib.hid hu; have HUL := Lib.hid hu2
    have HVW3 := Lib.hid (show Vc w3 (.slice ta tn tc) tps ∧ Vc w3 (.slice u1 u2 u3) r from ⟨HXV2.out.1.on hb3, hu.vc⟩)
    have HOB3 := Lib.hid hob
    have HS23 := Lib.hid hb3.size
    clear ho hu hu2 hb3 hob
    cases hq : hB tps r with
    | false =>
      have HPP := Lib.hid (show giveP (S.map Oa.pl) ai avs = S.map Oa.pl from by unfold giveP; rw [HFP.out]; simp only; rw [HO.out]; simp only; rw [show (mrg gSub tps r).isSome = false from hq]; rfl)
      have HEE := Lib.hid (show giveE (S.map Oa.pl) ai avs = 31 from by unfold giveE; rw [HFP.out]; simp only; rw [HO.out]; simp only; rw [show (mrg gSub tps r).isSome = false from hq]; rfl)
      have HQ := Lib.hid hq
      clear hq
      go_wp2_with fail
      refine (HHS.out _ HVW3.out).mono ?_
      rintro e w5 ⟨rfl, hb5⟩
      rw [HQ.out]
      have HBX := Lib.hid (bt HBX3.out hb5)
      clear hb5 o0 o1 o2 o4
      obtain ⟨z0, zM, z1⟩ := (HM1.out.below HBX.out).cells
      have q0 := (HM1.out.below HBX.out).lt
      have hs3 := HM3.out.below HBX.out
      obtain ⟨s0, sM, s1⟩ := hs3.cells
      have s2 := hs3.fz 0; have s3 := hs3.fz 1; have s4 := hs3.fz 2
      have q2 := hs3.lt
      have HR2 := Lib.hid (hs3.set2 cap (.slice (some ⟨bs, off, none⟩) n cp))
      clear hs3
      go_wp2
      rw [HPP.out, HEE.out]
      refine bodyPost_ret (res_mbe Try.results14 rfl HR2.out) rfl ?_
      have hs0 := HM3.out.lt; have hs1 := HBX.out.size; have hds := HDS.out
      refine RetD.same HL.out HSO.out ?_ rfl rfl
      rw [← HBQ.out]
      exact HB3.out.trans ((HBX.out.mono (by omega)).trans ((mb_chg w5 b2 (.int .i64 cap.1) (.int .i64 cap.2) (.slice (some ⟨bs, off, none⟩) n cp)).below (by omega) fun k e => by have e : k = b2 := e; omega))
    | true =>
      have HPP := Lib.hid (show giveP (S.map Oa.pl) ai avs = putA (S.map Oa.pl) (⟨xi, ta, tn, tc, tps, u1, u2, u3, r⟩ : Oa).pl from by unfold giveP; rw [HFP.out]; simp only; rw [HO.out]; simp only; rw [show (mrg gSub tps r).isSome = true from hq]; simp only [if_true, show ai = xi from HXI.out.symm])
      have HEE := Lib.hid (show giveE (S.map Oa.pl) ai avs = 0 from by unfold giveE; rw [HFP.out]; simp only; rw [HO.out]; simp only; rw [show (mrg gSub tps r).isSome = true from hq]; rfl)
      have HQ := Lib.hid hq
      clear hq
      go_wp2_with fail
      refine (HHS.out _ HVW3.out).mono ?_
      rintro e w5 ⟨rfl, hb5⟩
      rw [HQ.out]
      have HBX5 := Lib.hid (bt HBX3.out hb5)
      have hob := HOB3.out.below hb5
      have hu : OwnP w5 w2.heap.size (.slice u1 u2 u3) r := rowP_grow HU3.out hb5
      clear hb5 o0 o1 o2 o4
      -- the cells of the list's block, of the act's and of the answer's at the world wz
      obtain ⟨z0, zM, z1⟩ := (HM1.out.below HBX5.out).cells
      have q0 := (HM1.out.below HBX5.out).lt
      have hm2 : BA w5 b1 _ := (HBX5.out.block _ HM2.out.lt).trans HM2.out
      obtain ⟨x0, x1, x2, x3⟩ := hm2.cells
      simp only at x0 x1 x2 x3
      have x4 := hm2.lt
      clear hm2
      clear x0 x1 x2 x3 x4
      obtain ⟨o0, o1, o2⟩ := hob.cells
      simp only at o0 o1 o2
      have o3 := hob.fz 2
      have o4 := hob.lt
      have hne : b ≠ b3 := by have := HDS.out; have := HM3.out.lt; have := HQW.out; have := HBW.out.size; omega
      have hne' : b3 ≠ b := fun e => hne e.symm
      have HOB3 := Lib.hid (hob.setf u1 u2 u3 r)
      have hcb := (Chg.refl (fun k => k = b3) w5).setCell (p := ⟨b3, 2, none⟩) (.inl rfl) (.slice u1 u2 u3)
      have HBY := Lib.hid (show Below w0.heap.size w0 (w5.setCell ⟨b3, 2, none⟩ (.slice u1 u2 u3)) from HBX5.out.trans (hcb.below HBX5.out.size fun k e => by have e : k = b3 := e; have := HQ3.out; have := HBW.out.size; have := HQW.out; omega))
      have HUR := Lib.hid hu
      have HUW := Lib.hid (show Vc (w5.setCell ⟨b3, 2, none⟩ (.slice u1 u2 u3)) (.slice u1 u2 u3) r from hu.vc.chg hcb fun k hk e => by have := (hu.lt k hk).1; have := HOB2.out.lt; have e : k = b3 := e; omega)
      clear hu hob hcb
      go_wp2_with fail
      clear o0 o1 o2 o3 o4 z0 zM z1 q0 hne hne'
      generalize w5.setCell ⟨b3, 2, none⟩ (.slice u1 u2 u3) = w4 at *
      have HBZ9 := Lib.hid (show Below w.heap.size w w4 from by rw [← HBQ.out]; exact HB3.out.trans (HBY.out.mono (by have := HM3.out.lt; have := HDS.out; omega)))
      refine (mwith (f := (⟨xi, ta, tn, tc, tps, u1, u2, u3, r⟩ : Oa)) (HL.out.rs.below HBZ9.out) HSO.out HLS.out).mono ?_
      rintro e w16 ⟨v', rfl, hv1, hv2, hb16⟩
      obtain ⟨a', n', c', rfl, -, -, -, -⟩ := RS.at_ hv1
      have HV1 := Lib.hid hv1; have HV2' := Lib.hid hv2
      have HBX := Lib.hid (bt HBY.out hb16)
      have HB16 := Lib.hid hb16
      clear hv1 hv2 hb16
      have hs3 := HM3.out.below HBX.out
      obtain ⟨s0, sM, s1⟩ := hs3.cells
      have s2 := hs3.fz 0; have s3 := hs3.fz 1; have s4 := hs3.fz 2
      have q2 := hs3.lt
      have HR2 := Lib.hid (hs3.set2 cap (.slice a' n' c'))
      clear hs3
      go_wp2
      rw [HPP.out, HEE.out]
      refine bodyPost_ret (res_mbe Try.results14 rfl HR2.out) rfl ?_
      refine RetD.fin (w0 := w0) (w1 := w16) (b2 := b2) HBZ.out HL.out HVV.out HUU.out ⟨by have := HBQ.out; have := HDS.out; omega, HM3.out.lt⟩ (L' := putO S (⟨xi, ta, tn, tc, tps, u1, u2, u3, r⟩ : Oa)) ⟨HV1.out, fun y hy => ?_⟩ (plo_put S _) (HSO.out.put ordO _) (fun G hG hd hva hua => ⟨.inr fun k hk hg => by have := HV2'.out k hk; have := hG k hg; have := HBY.out.size; omega, fun y hy => ?_⟩) HBX.out (mb_chg w16 b2 _ _ _) rfl
      · rcases Srt.mem_put.1 hy with rfl | ⟨hy, _⟩
        · exact ⟨(HVX1.out.on HBZ9.out).on HB16.out, HUW.out.on HB16.out⟩
        · exact ⟨((HL.out.vec y hy).1.on HBZ9.out).on HB16.out, ((HL.out.vec y hy).2.on HBZ9.out).on HB16.out⟩
      · rcases Srt.mem_put.1 hy with rfl | ⟨hy, _⟩
        · exact ⟨(hd.vec _ HXM.out).1, .inr fun k hk hg => by have := (HUR.out.lt k hk).1; have := hG k hg; have := HBV.out.size; omega⟩
        · exact hd.vec y hy
theorem turn_bad {P : List Pa} {k : Int} {v u r : List Pt} {x : Pa} (hf : fndA P k = some x) (ho : mrg gAdd x.2.2 u = some r) (hb : ¬ ((mrg gSub v r).isSome = true ∧ sameK v x.2.1 = true)) : turnE P k v u = 41 ∧ turnP P k v u = P := by
  unfold turnE turnP
  rw [hf]
  simp only
  rw [ho]
  simp only
  by_cases h1 : (mrg gSub v r).isSome = true
  · rw [if_pos h1, if_pos h1, if_neg fun h2 => hb ⟨h1, h2⟩, if_neg fun h2 => hb ⟨h1, h2⟩]; exact ⟨rfl, rfl⟩
  · rw [if_neg h1, if_neg h1]; exact ⟨rfl, rfl⟩
theorem turn_good {P : List Pa} {k : Int} {v u r : List Pt} {x : Pa} (hf : fndA P k = some x) (ho : mrg gAdd x.2.2 u = some r) (h1 : (mrg gSub v r).isSome = true) (h2 : sameK v x.2.1 = true) : turnE P k v u = 0 ∧ turnP P k v u = putA P (k, v, r) := by
  unfold turnE turnP
  rw [hf]
  simp only
  rw [ho]
  simp only
  rw [if_pos h1, if_pos h1, if_pos h2, if_pos h2]; exact ⟨rfl, rfl⟩
set_option maxRecDepth 100000 in
theorem eq4a (a0 a1 a2 a3 b0 b1 b2 b3 : Int) (w : World) : (Op.equalIn 10000 44 (.agg #[.int .i64 a0, .int .i64 a1, .int .i64 a2, .int .i64 a3]) (.agg #[.int .i64 b0, .int .i64 b1, .int .i64 b2, .int .i64 b3])).run Try.prog w = .ok (a0 == b0 && (a1 == b1 && (a2 == b2 && a3 == b3))) w := by
  have u3 := Try.underlying2
  have a3' := Try.isAgg2
  have z3 := Try.sizeOf2
  rw [show (10000 : Nat) = 9999 + 1 from rfl, Op.equalIn]
  simp only [Sem.run_bind, run_underlying Try.underlying44, Result.andThen_ok]
  simp only [Std.Legacy.Range.forIn_eq_forIn_range', Std.Legacy.Range.size, Nat.sub_zero, Nat.add_sub_cancel, Nat.div_one, List.range'_succ, List.range'_zero, List.forIn_cons, List.forIn_nil]
  go_simp
  by_cases h1 : a0 = b0 <;> by_cases h2 : a1 = b1 <;> by_cases h3 : a2 = b2 <;> by_cases h4 : a3 = b3 <;> simp [h1, h2, h3, h4]
attribute [local go_sem] eq4a
set_option maxRecDepth 100000 in
set_option maxHeartbeats 16000000 in
theorem mdo4 (h : OL w (.slice a n cp) S) (hS : SO S) (hin : AIn cap.1 cap.2 (S.map Oa.pl)) (hln : S.length < 900000) (hv : Vc w (.slice va vn vc) avs) (hvl : avs.length < 1000000000) (hu : Vc w (.slice ua un uc) aus) (hul : aus.length < 1000000000) (h0 : ak ≠ 0) (h1 : ak ≠ 1) (h2 : ak ≠ 2) (h3 : ak ≠ 3) {x : Oa} (hf : fndO S ai = some x) :
    Calls Try.prog 14 #[mval cap (.slice a n cp), .agg #[.int .i64 ak, .int .i64 ai, .slice va vn vc, .slice ua un uc]] w (RetD w cap (.slice a n cp) S (.slice va vn vc) avs (.slice ua un uc) aus (turnP (S.map Oa.pl) ai avs aus) false (turnE (S.map Oa.pl) ai avs aus)) := by
  have hk0 : (ak == 0) = false := by simpa using h0
  have hk1 : (ak == 1) = false := by simpa using h1
  have hk2 : (ak == 2) = false := by simpa using h2
  have hk3 : (ak == 3) = false := by simpa using h3
  have HF := Lib.hid hf; have HIN := Lib.hid hin; have HLN := Lib.hid hln; have HVL := Lib.hid hvl; have HUL := Lib.hid hul
  clear h0 h1 h2 h3 hf hin hln hvl hul
  have e1 : (w.alloc (.cells #[.int .i64 cap.1, .int .i64 cap.2, .slice a n cp] 29)).heap.size = w.heap.size + 1 := by simp
  have e2 : ((w.alloc (.cells #[.int .i64 cap.1, .int .i64 cap.2, .slice a n cp] 29)).alloc (.cells #[.int .i64 ak, .int .i64 ai, .slice va vn vc, .slice ua un uc] 34)).heap.size = w.heap.size + 2 := by simp
  have hb1 := ba (Below.refl w.heap.size w) (.cells #[.int .i64 cap.1, .int .i64 cap.2, .slice a n cp] 29)
  have hb2 := ba hb1 (.cells #[.int .i64 ak, .int .i64 ai, .slice va vn vc, .slice ua un uc] 34)
  have hb3 := ba hb2 (.cells #[.int .i64 0, .int .i64 0, .slice none 0 0] 29)
  have hm1 := ((MB.made w cap (.slice a n cp)).below (ba (Below.refl _ _) (.cells #[.int .i64 ak, .int .i64 ai, .slice va vn vc, .slice ua un uc] 34))).below (ba (Below.refl _ _) (.cells #[.int .i64 0, .int .i64 0, .slice none 0 0] 29))
  have hba : BA (w.alloc (.cells #[.int .i64 cap.1, .int .i64 cap.2, .slice a n cp] 29) |>.alloc (.cells #[.int .i64 ak, .int .i64 ai, .slice va vn vc, .slice ua un uc] 34)) (w.alloc (.cells #[.int .i64 cap.1, .int .i64 cap.2, .slice a n cp] 29)).heap.size ⟨ak, ai, .slice va vn vc, avs, .slice ua un uc, aus⟩ := heap_alloc_new _ _
  have hm2 : BA _ _ _ := ((ba (Below.refl _ _) (.cells #[.int .i64 0, .int .i64 0, .slice none 0 0] 29)).block _ hba.lt).trans hba
  have hm3 := MB.made ((w.alloc (.cells #[.int .i64 cap.1, .int .i64 cap.2, .slice a n cp] 29)).alloc (.cells #[.int .i64 ak, .int .i64 ai, .slice va vn vc, .slice ua un uc] 34)) (0, 0) (.slice none 0 0)
  rw [e1] at hm2
  rw [e2] at hm3
  have HM1 := Lib.hid hm1; have HM2 := Lib.hid hm2; have HM3 := Lib.hid hm3; have HB3 := Lib.hid hb3
  have HL := Lib.hid h; have HSO := Lib.hid hS; have HVV := Lib.hid hv; have HUU := Lib.hid hu
  clear h hS hv hu e1 e2 hb1 hb2 hb3 hm1 hba hm2 hm3
  go_enter Try.func14, Try.ntmps14
  obtain ⟨x0, x1, x2, x3⟩ := HM2.out.cells
  simp only at x0 x1 x2 x3
  have x4 := HM2.out.lt
  obtain ⟨z0, zM, z1⟩ := HM1.out.cells
  have q0 := HM1.out.lt
  go_wp2_with fail
  clear x0 x1 x2 x3 x4 z0 zM z1 q0
  generalize ((w.alloc (.cells #[.int .i64 cap.1, .int .i64 cap.2, .slice a n cp] 29)).alloc (.cells #[.int .i64 ak, .int .i64 ai, .slice va vn vc, .slice ua un uc] 34)).alloc (.cells #[.int .i64 0, .int .i64 0, .slice none 0 0] 29) = w0 at *
  obtain ⟨b, hbq⟩ : ∃ b, b = w.heap.size := ⟨_, rfl⟩
  rw [← hbq] at HM1 HM2 HM3 HB3 ⊢
  obtain ⟨b1, hb1q⟩ : ∃ b1, b1 = b + 1 := ⟨_, rfl⟩
  rw [← hb1q] at HM2 ⊢
  obtain ⟨b2, hb2q⟩ : ∃ b2, b2 = b + 2 := ⟨_, rfl⟩
  rw [← hb2q] at HM3
  rw [show b1 + 1 = b2 by omega]
  have HBQ := Lib.hid hbq
  have HDS := Lib.hid (show b1 = b + 1 ∧ b2 = b + 2 by omega)
  clear hbq hb1q hb2q
  have HBZ := Lib.hid (show Below w.heap.size w w0 from by rw [← HBQ.out]; exact HB3.out)
  refine (mat (cap := cap) (HL.out.rs.below HBZ.out) ai).mono ?_
  rintro e w1 ⟨rfl, hb4⟩
  have HBW := Lib.hid hb4
  clear hb4
  obtain ⟨ix, hix, hxa⟩ := Srt.pl_at HF.out
  have hpl : (Srt.pl Oa.id S ai < 0) = False := eq_false (by omega)
  have hpd : decide (Srt.pl Oa.id S ai < 0) = false := decide_eq_false (by omega)
  rw [hix] at hpl hpd ⊢
  have HBZ1 := Lib.hid (show Below b w w1 from HB3.out.trans (HBW.out.mono (by have := HM3.out.lt; have := HDS.out; omega)))
  obtain ⟨_, _, _, he, hnl, _, _, hat⟩ := HL.out.rs.at_
  cases he
  obtain ⟨bs, off, rfl, hbs, hcell⟩ := hat ix x hxa
  have hixn : ix < n := by rw [hnl]; exact (List.getElem?_eq_some_iff.1 hxa).1
  have hbsb : bs < b := by have := HBQ.out; omega
  have d0 := (HBZ1.out.cell (p := ⟨bs, _, none⟩) hbsb).trans (hcell 0 _ rfl)
  have d1 := (HBZ1.out.cell (p := ⟨bs, _, none⟩) hbsb).trans (hcell 1 _ rfl)
  have d2 := (HBZ1.out.cell (p := ⟨bs, _, none⟩) hbsb).trans (hcell 2 _ rfl)
  simp only [Nat.add_zero] at d0
  have qs : bs < w1.heap.size := by have := HBZ1.out.size; have := HM3.out.lt; have := HBW.out.size; have := HDS.out; omega
  have HXM := Lib.hid (mem_at hxa)
  have HXV := Lib.hid (HL.out.vec x (mem_at hxa))
  have HXO := Lib.hid (HIN.out.ok x.pl (List.mem_map.2 ⟨x, mem_at hxa, rfl⟩))
  have HFP := Lib.hid (show fndA (S.map Oa.pl) ai = some x.pl from by rw [plo_fnd]; rw [show fndO S ai = some x from HF.out]; rfl)
  have HXI := Lib.hid (show x.id = ai from (Srt.fnd_mem HF.out).2)
  have HLS := Lib.hid (show S.length < 900000 from HLN.out)
  -- the cells of the list's block, of the act's and of the answer's at the world wz
  obtain ⟨z0, zM, z1⟩ := (HM1.out.below HBW.out).cells
  have q0 := (HM1.out.below HBW.out).lt
  have hm2 : BA w1 b1 _ := (HBW.out.block _ HM2.out.lt).trans HM2.out
  obtain ⟨x0, x1, x2, x3⟩ := hm2.cells
  simp only at x0 x1 x2 x3
  have x4 := hm2.lt
  clear hm2
  obtain ⟨xi, ta, tn, tc, tps, fa, fn, fc, fps⟩ := x
  simp only at d0 d1 d2
  have hb12 := ba (Below.refl w1.heap.size w1) (.cells #[.int .i64 xi, .slice ta tn tc, .slice fa fn fc] 38)
  have HOB2 := Lib.hid (show OB1 (w1.alloc (.cells #[.int .i64 xi, .slice ta tn tc, .slice fa fn fc] 38)) w1.heap.size ⟨xi, ta, tn, tc, tps, fa, fn, fc, fps⟩ from OB1.made w1 ⟨xi, ta, tn, tc, tps, fa, fn, fc, fps⟩)
  have HBV := Lib.hid (bt HBW.out hb12)
  have HQ3 := Lib.hid (show b2 < w1.heap.size from by have := HM3.out.lt; have := HBW.out.size; omega)
  have hmx1 := HM2.out
  clear hat hcell hxa hbs hbsb hnl hb12
  have hx2 : (w1.alloc (.cells #[.int .i64 xi, .slice ta tn tc, .slice fa fn fc] 38)).cell? ⟨b1, 2, none⟩ = some (.slice va vn vc) := by rw [(ba (Below.refl w1.heap.size w1) _).cell (p := ⟨b1, 2, none⟩) x4]; exact x2
  have hx3 : (w1.alloc (.cells #[.int .i64 xi, .slice ta tn tc, .slice fa fn fc] 38)).cell? ⟨b1, 3, none⟩ = some (.slice ua un uc) := by rw [(ba (Below.refl w1.heap.size w1) _).cell (p := ⟨b1, 3, none⟩) x4]; exact x3
  obtain ⟨o0, o1, o2⟩ := HOB2.out.cells
  simp only at o0 o1 o2
  have o4 := HOB2.out.lt
  clear hmx1
  go_wp2_with fail
  generalize w1.alloc (.cells #[.int .i64 xi, .slice ta tn tc, .slice fa fn fc] 38) = w2 at *
  obtain ⟨b3, hb3q⟩ : ∃ k, k = w1.heap.size := ⟨_, rfl⟩
  rw [← hb3q] at HOB2 HQ3 ⊢
  have HQW := Lib.hid hb3q
  clear hb3q hx2 hx3 o0 o1 o2 o4 d0 d1 d2 qs hpl hpd
  clear z0 zM z1 q0 x0 x1 x2 x3 x4
  have HBZ2 := Lib.hid (show Below w.heap.size w w2 from by rw [← HBQ.out]; exact HB3.out.trans (HBV.out.mono (by have := HM3.out.lt; have := HDS.out; omega)))
  have HV2 := Lib.hid (HVV.out.on HBZ2.out); have HU2 := Lib.hid (HUU.out.on HBZ2.out)
  have HVX1 := Lib.hid (show Vc w (.slice ta tn tc) tps from HXV.out.1)
  have HXV2 := Lib.hid (show Vc w2 (.slice ta tn tc) tps ∧ Vc w2 (.slice fa fn fc) fps from ⟨(show Vc w (.slice ta tn tc) tps from HXV.out.1).on HBZ2.out, (show Vc w (.slice fa fn fc) fps from HXV.out.2).on HBZ2.out⟩)
  have hS1 := refadd_any (.slice fa fn fc) (.slice ua un uc) fps aus (Nat.lt_of_le_of_lt (vr_len HXO.out.vf) (by decide)) HUL.out w2 HXV2.out.2 HU2.out
  have HS1 := Lib.hid hS1
  clear hS1
  refine HS1.out.mono ?_
  rintro e w3 ⟨u, rfl, hu, hb3⟩
  cases ho : mrg gAdd fps aus with
  | none =>
    have hE : turnE (S.map Oa.pl) ai avs aus = 41 := by unfold turnE; rw [HFP.out]; simp only; rw [ho]
    have hP : turnP (S.map Oa.pl) ai avs aus = S.map Oa.pl := by unfold turnP; rw [HFP.out]; simp only; rw [ho]
    have HBX3 := Lib.hid (bt HBV.out hb3)
    have HEE := Lib.hid (show turnE (S.map Oa.pl) ai avs aus = 41 from hE)
    have HPP := Lib.hid (show turnP (S.map Oa.pl) ai avs aus = S.map Oa.pl from hP)
    clear hE hP
    clear ho hu hb3
    go_wp2_with fail
    refine wp_region_pure (by kernel_rfl) (by kernel_rfl) ?_
    repeat (first | go_big_quiet_step (fail) | (quiet_step (fail)))
    refine wpQuiet_nil ?_
    rintro w5 ⟨x7, hx7⟩
    have hb7 := ext_below _ x7
    rw [← hx7] at hb7
    have HB7 := Lib.hid hb7
    have HBX := Lib.hid (bt HBX3.out hb7)
    clear hx7 x7 hb7
    obtain ⟨z0, zM, z1⟩ := (HM1.out.below HBX.out).cells
    have q0 := (HM1.out.below HBX.out).lt
    have hs3 := HM3.out.below HBX.out
    obtain ⟨s0, sM, s1⟩ := hs3.cells
    have s2 := hs3.fz 0; have s3 := hs3.fz 1; have s4 := hs3.fz 2
    have q2 := hs3.lt
    have HR2 := Lib.hid (hs3.set2 cap (.slice (some ⟨bs, off, none⟩) n cp))
    clear hs3
    go_wp2
    rw [HPP.out, HEE.out]
    refine bodyPost_ret (res_mbe Try.results14 rfl HR2.out) rfl ?_
    have hs0 := HM3.out.lt; have hs1 := HBX.out.size; have hds := HDS.out
    refine RetD.same HL.out HSO.out ?_ rfl rfl
    rw [← HBQ.out]
    exact HB3.out.trans ((HBX.out.mono (by omega)).trans ((mb_chg w5 b2 (.int .i64 cap.1) (.int .i64 cap.2) (.slice (some ⟨bs, off, none⟩) n cp)).below (by omega) fun k e => by have e : k = b2 := e; omega))
  | some r =>
    rw [ho] at hu
    replace hu : OwnP w3 w2.heap.size u r := hu
    obtain ⟨u1, u3, hue, -, -⟩ := hu.vc.form
    subst hue
    have hrv := (mrg_some gAdd0 gAddB ho).2.2.1
    have HRL := Lib.hid (show r.length < 1000000000 from Nat.lt_of_le_of_lt (vr_len hrv) (by decide))
    obtain ⟨u2, hu2⟩ : ∃ m, m = r.length := ⟨_, rfl⟩
    rw [← hu2] at hu ⊢
    have HBX3 := Lib.hid (bt HBV.out hb3)
    have hob := HOB2.out.below hb3
    obtain ⟨o0, o1, o2⟩ := hob.cells
    simp only at o0 o1 o2
    have o4 := hob.lt
    have HO := Lib.hid ho
    have HU3 := Lib.hid hu; have HUL2 := Lib.hid hu2
    have HVV3 := Lib.hid (HV2.out.on hb3); have HVU3 := Lib.hid hu.vc
    have HVT3 := Lib.hid (HXV2.out.1.on hb3)
    have HOB3 := Lib.hid hob
    have HS23 := Lib.hid hb3.size
    clear ho hu hu2 hb3 hob hrv
    -- the cells of the list's block, of the act's and of the answer's at the world wz
    obtain ⟨z0, zM, z1⟩ := (HM1.out.below HBX3.out).cells
    have q0 := (HM1.out.below HBX3.out).lt
    have hm2 : BA w3 b1 _ := (HBX3.out.block _ HM2.out.lt).trans HM2.out
    obtain ⟨x0, x1, x2, x3⟩ := hm2.cells
    simp only at x0 x1 x2 x3
    have x4 := hm2.lt
    clear hm2
    by_cases hvr : VR avs
    · have hR := (rright_v (.slice va vn vc) avs HVL.out)
      rw [decide_eq_true hvr] at hR
      have HR := Lib.hid fun z : Ext w3 => hR.quiet (clo_Vc _ _) (W := w3) HVV3.out (x := z)
      have HO1 := Lib.hid fun z : Ext w3 => (rsumsW (.slice va vn vc) avs hvr).quiet (clo_Vc _ _) (W := w3) HVV3.out (x := z)
      by_cases hsk : sameK avs tps = true
      · have hsk4 : S4 (kS tps) = S4 (kS avs) := s4_congr fun j hj => ((sameK_iff.1 hsk) j hj).symm
        have hO2 := fun z : Ext w3 => (rsumsW (.slice ta tn tc) tps HXO.out.vt).quiet (clo_Vc _ _) (W := w3) HVT3.out (x := z)
        rw [hsk4] at hO2
        have HO2 := Lib.hid hO2
        generalize kS avs = mo at *
        cases hq : hB avs r with
        | false =>
          have hH := rholds_any (.slice va vn vc) (.slice u1 u2 u3) avs r HVL.out HRL.out
          rw [hq] at hH
          have HH := Lib.hid fun z : Ext w3 => hH.quiet (clo_two _ _ _ _) (W := w3) ⟨HVV3.out, HVU3.out⟩ (x := z)
          obtain ⟨hE, hP⟩ := turn_bad (v := avs) HFP.out HO.out fun h => by rw [show (mrg gSub avs r).isSome = false from hq] at h; exact absurd h.1 (by decide)
          have HEE := Lib.hid (show turnE (S.map Oa.pl) ai avs aus = 41 from hE)
          have HPP := Lib.hid (show turnP (S.map Oa.pl) ai avs aus = S.map Oa.pl from hP)
          clear hE hP
          clear hR hsk hsk4 hO2 hq hH hvr
          go_wp2_with fail
          refine wp_region_pure (by kernel_rfl) (by kernel_rfl) ?_
          repeat (first | go_big_quiet_step (first | (go_at_call 60; with_reducible exact HR.out _) | (go_at_call 61; with_reducible (first | exact HO1.out _ | exact HO2.out _)) | (go_at_call 59; with_reducible exact HH.out _)) | (quiet_step (first | (go_at_call 60; with_reducible exact HR.out _) | (go_at_call 61; with_reducible (first | exact HO1.out _ | exact HO2.out _)) | (go_at_call 59; with_reducible exact HH.out _))))
          refine wpQuiet_nil ?_
          rintro w5 ⟨x7, hx7⟩
          have hb7 := ext_below _ x7
          rw [← hx7] at hb7
          have HB7 := Lib.hid hb7
          have HBX := Lib.hid (bt HBX3.out hb7)
          clear hx7 x7 hb7
          clear x0 x1 x2 x3 x4 o0 o1 o2 o4
          clear z0 zM z1 q0
          obtain ⟨z0, zM, z1⟩ := (HM1.out.below HBX.out).cells
          have q0 := (HM1.out.below HBX.out).lt
          have hs3 := HM3.out.below HBX.out
          obtain ⟨s0, sM, s1⟩ := hs3.cells
          have s2 := hs3.fz 0; have s3 := hs3.fz 1; have s4 := hs3.fz 2
          have q2 := hs3.lt
          have HR2 := Lib.hid (hs3.set2 cap (.slice (some ⟨bs, off, none⟩) n cp))
          clear hs3
          go_wp2
          rw [HPP.out, HEE.out]
          refine bodyPost_ret (res_mbe Try.results14 rfl HR2.out) rfl ?_
          have hs0 := HM3.out.lt; have hs1 := HBX.out.size; have hds := HDS.out
          refine RetD.same HL.out HSO.out ?_ rfl rfl
          rw [← HBQ.out]
          exact HB3.out.trans ((HBX.out.mono (by omega)).trans ((mb_chg w5 b2 (.int .i64 cap.1) (.int .i64 cap.2) (.slice (some ⟨bs, off, none⟩) n cp)).below (by omega) fun k e => by have e : k = b2 := e; omega))
        | true =>
          have hH := rholds_any (.slice va vn vc) (.slice u1 u2 u3) avs r HVL.out HRL.out
          rw [hq] at hH
          have HH := Lib.hid fun z : Ext w3 => hH.quiet (clo_two _ _ _ _) (W := w3) ⟨HVV3.out, HVU3.out⟩ (x := z)
          obtain ⟨hE, hP⟩ := turn_good (v := avs) HFP.out HO.out hq hsk
          have HEE := Lib.hid hE
          have HPP := Lib.hid (show turnP (S.map Oa.pl) ai avs aus = putA (S.map Oa.pl) (⟨xi, va, vn, vc, avs, u1, u2, u3, r⟩ : Oa).pl from by rw [hP]; simp only [show ai = xi from HXI.out.symm])
          clear hE hP hR hsk hsk4 hO2 hq hH hvr
          go_wp2_with fail
          refine wp_region_pure (by kernel_rfl) (by kernel_rfl) ?_
          repeat (first | go_big_quiet_step (first | (go_at_call 60; with_reducible exact HR.out _) | (go_at_call 61; with_reducible (first | exact HO1.out _ | exact HO2.out _)) | (go_at_call 59; with_reducible exact HH.out _)) | (quiet_step (first | (go_at_call 60; with_reducible exact HR.out _) | (go_at_call 61; with_reducible (first | exact HO1.out _ | exact HO2.out _)) | (go_at_call 59; with_reducible exact HH.out _))))
          refine wpQuiet_nil ?_
          rintro w5 ⟨x7, hx7⟩
          have hb7 := ext_below _ x7
          rw [← hx7] at hb7
          have HB7 := Lib.hid hb7
          have HBX := Lib.hid (bt HBX3.out hb7)
          clear hx7 x7 hb7
          clear x0 x1 x2 x3 x4 o0 o1 o2 o4 z0 zM z1 q0
          have HBX5 := HBX
          have hob := HOB3.out.below HB7.out
          have hu : OwnP w5 w2.heap.size (.slice u1 u2 u3) r := rowP_grow HU3.out HB7.out
          -- the cells of the list's block, of the act's and of the answer's at the world wz
          obtain ⟨z0, zM, z1⟩ := (HM1.out.below HBX5.out).cells
          have q0 := (HM1.out.below HBX5.out).lt
          have hm2 : BA w5 b1 _ := (HBX5.out.block _ HM2.out.lt).trans HM2.out
          obtain ⟨x0, x1, x2, x3⟩ := hm2.cells
          simp only at x0 x1 x2 x3
          have x4 := hm2.lt
          clear hm2
          obtain ⟨o0, o1, o2⟩ := hob.cells
          simp only at o0 o1 o2
          have o3 := hob.fz 2
          have o5 := hob.fz 1
          have o4 := hob.lt
          have hne : b ≠ b3 := by have := HDS.out; have := HM3.out.lt; have := HQW.out; have := HBW.out.size; omega
          have hne' : b3 ≠ b := fun e => hne e.symm
          have hn1 : b1 ≠ b3 := by have := HDS.out; have := HM3.out.lt; have := HQW.out; have := HBW.out.size; omega
          have hn1' : b3 ≠ b1 := fun e => hn1 e.symm
          have HOB3 := Lib.hid ((hob.sett va vn vc avs).setf u1 u2 u3 r)
          have hcb : Chg (fun k => k = b3) w5 ((w5.setCell ⟨b3, 1, none⟩ (.slice va vn vc)).setCell ⟨b3, 2, none⟩ (.slice u1 u2 u3)) := ((Chg.refl (fun k => k = b3) w5).setCell (p := ⟨b3, 1, none⟩) (.inl rfl) (.slice va vn vc)).setCell (p := ⟨b3, 2, none⟩) (.inl rfl) (.slice u1 u2 u3)
          have HBY := Lib.hid (show Below w0.heap.size w0 ((w5.setCell ⟨b3, 1, none⟩ (.slice va vn vc)).setCell ⟨b3, 2, none⟩ (.slice u1 u2 u3)) from HBX5.out.trans (hcb.below HBX5.out.size fun k e => by have e : k = b3 := e; have := HQ3.out; have := HBW.out.size; have := HQW.out; omega))
          have HUR := Lib.hid hu
          have HUW := Lib.hid (show Vc ((w5.setCell ⟨b3, 1, none⟩ (.slice va vn vc)).setCell ⟨b3, 2, none⟩ (.slice u1 u2 u3)) (.slice u1 u2 u3) r from hu.vc.chg hcb fun k hk e => by have := (hu.lt k hk).1; have := HOB2.out.lt; have e : k = b3 := e; omega)
          clear hu hob hcb
          go_wp2_with fail
          clear x0 x1 x2 x3 x4 o0 o1 o2 o3 o4 o5 z0 zM z1 q0 hne hne' hn1 hn1'
          generalize (w5.setCell ⟨b3, 1, none⟩ (.slice va vn vc)).setCell ⟨b3, 2, none⟩ (.slice u1 u2 u3) = w4 at *
          have HBZ9 := Lib.hid (show Below w.heap.size w w4 from by rw [← HBQ.out]; exact HB3.out.trans (HBY.out.mono (by have := HM3.out.lt; have := HDS.out; omega)))
          refine (mwith (f := (⟨xi, va, vn, vc, avs, u1, u2, u3, r⟩ : Oa)) (HL.out.rs.below HBZ9.out) HSO.out HLS.out).mono ?_
          rintro e w16 ⟨v', rfl, hv1, hv2, hb16⟩
          obtain ⟨a', n', c', rfl, -, -, -, -⟩ := RS.at_ hv1
          have HV1 := Lib.hid hv1; have HV2' := Lib.hid hv2
          have HBX := Lib.hid (bt HBY.out hb16)
          have HB16 := Lib.hid hb16
          clear hv1 hv2 hb16
          have hs3 := HM3.out.below HBX.out
          obtain ⟨s0, sM, s1⟩ := hs3.cells
          have s2 := hs3.fz 0; have s3 := hs3.fz 1; have s4 := hs3.fz 2
          have q2 := hs3.lt
          have HR2 := Lib.hid (hs3.set2 cap (.slice a' n' c'))
          clear hs3
          go_wp2
          rw [HPP.out, HEE.out]
          refine bodyPost_ret (res_mbe Try.results14 rfl HR2.out) rfl ?_
          refine RetD.fin (w0 := w0) (w1 := w16) (b2 := b2) HBZ.out HL.out HVV.out HUU.out ⟨by have := HBQ.out; have := HDS.out; omega, HM3.out.lt⟩ (L' := putO S (⟨xi, va, vn, vc, avs, u1, u2, u3, r⟩ : Oa)) ⟨HV1.out, fun y hy => ?_⟩ (plo_put S _) (HSO.out.put ordO _) (fun G hG hd hva hua => ⟨.inr fun k hk hg => by have := HV2'.out k hk; have := hG k hg; have := HBY.out.size; omega, fun y hy => ?_⟩) HBX.out (mb_chg w16 b2 _ _ _) rfl
          · rcases Srt.mem_put.1 hy with rfl | ⟨hy, _⟩
            · exact ⟨(HVV.out.on HBZ9.out).on HB16.out, HUW.out.on HB16.out⟩
            · exact ⟨((HL.out.vec y hy).1.on HBZ9.out).on HB16.out, ((HL.out.vec y hy).2.on HBZ9.out).on HB16.out⟩
          · rcases Srt.mem_put.1 hy with rfl | ⟨hy, _⟩
            · exact ⟨hva, .inr fun k hk hg => by have := (HUR.out.lt k hk).1; have := hG k hg; have := HBV.out.size; omega⟩
            · exact hd.vec y hy
      · have hneq : (kS avs 0 == kS tps 0 && (kS avs 1 == kS tps 1 && (kS avs 2 == kS tps 2 && kS avs 3 == kS tps 3))) = false := by simpa [sameK] using hsk
        have HO2 := Lib.hid fun z : Ext w3 => (rsumsW (.slice ta tn tc) tps HXO.out.vt).quiet (clo_Vc _ _) (W := w3) HVT3.out (x := z)
        obtain ⟨hE, hP⟩ := turn_bad (v := avs) HFP.out HO.out fun h => hsk h.2
        have HEE := Lib.hid (show turnE (S.map Oa.pl) ai avs aus = 41 from hE)
        have HPP := Lib.hid (show turnP (S.map Oa.pl) ai avs aus = S.map Oa.pl from hP)
        clear hE hP
        generalize kS avs = mo at *
        generalize kS tps = mt at *
        clear hR hsk hvr
        go_wp2_with fail
        refine wp_region_pure (by kernel_rfl) (by kernel_rfl) ?_
        repeat (first | go_big_quiet_step (first | (go_at_call 60; with_reducible exact HR.out _) | (go_at_call 61; with_reducible (first | exact HO1.out _ | exact HO2.out _)) | (go_at_call 59; with_reducible exact HH.out _)) | (quiet_step (first | (go_at_call 60; with_reducible exact HR.out _) | (go_at_call 61; with_reducible (first | exact HO1.out _ | exact HO2.out _)) | (go_at_call 59; with_reducible exact HH.out _))))
        refine wpQuiet_nil ?_
        rintro w5 ⟨x7, hx7⟩
        have hb7 := ext_below _ x7
        rw [← hx7] at hb7
        have HB7 := Lib.hid hb7
        have HBX := Lib.hid (bt HBX3.out hb7)
        clear hx7 x7 hb7
        clear x0 x1 x2 x3 x4 o0 o1 o2 o4 hneq
        clear z0 zM z1 q0
        obtain ⟨z0, zM, z1⟩ := (HM1.out.below HBX.out).cells
        have q0 := (HM1.out.below HBX.out).lt
        have hs3 := HM3.out.below HBX.out
        obtain ⟨s0, sM, s1⟩ := hs3.cells
        have s2 := hs3.fz 0; have s3 := hs3.fz 1; have s4 := hs3.fz 2
        have q2 := hs3.lt
        have HR2 := Lib.hid (hs3.set2 cap (.slice (some ⟨bs, off, none⟩) n cp))
        clear hs3
        go_wp2
        rw [HPP.out, HEE.out]
        refine bodyPost_ret (res_mbe Try.results14 rfl HR2.out) rfl ?_
        have hs0 := HM3.out.lt; have hs1 := HBX.out.size; have hds := HDS.out
        refine RetD.same HL.out HSO.out ?_ rfl rfl
        rw [← HBQ.out]
        exact HB3.out.trans ((HBX.out.mono (by omega)).trans ((mb_chg w5 b2 (.int .i64 cap.1) (.int .i64 cap.2) (.slice (some ⟨bs, off, none⟩) n cp)).below (by omega) fun k e => by have e : k = b2 := e; omega))
    · have hR := (rright_v (.slice va vn vc) avs HVL.out)
      rw [decide_eq_false hvr] at hR
      have HR := Lib.hid fun z : Ext w3 => hR.quiet (clo_Vc _ _) (W := w3) HVV3.out (x := z)
      obtain ⟨hE, hP⟩ := turn_bad (v := avs) HFP.out HO.out fun h => hvr ((sub_iff avs r).1 h.1).1
      have HEE := Lib.hid (show turnE (S.map Oa.pl) ai avs aus = 41 from hE)
      have HPP := Lib.hid (show turnP (S.map Oa.pl) ai avs aus = S.map Oa.pl from hP)
      clear hE hP
      clear hR hvr
      go_wp2_with fail
      refine wp_region_pure (by kernel_rfl) (by kernel_rfl) ?_
      repeat (first | go_big_quiet_step (first | (go_at_call 60; with_reducible exact HR.out _) | (go_at_call 61; with_reducible (first | exact HO1.out _ | exact HO2.out _)) | (go_at_call 59; with_reducible exact HH.out _)) | (quiet_step (first | (go_at_call 60; with_reducible exact HR.out _) | (go_at_call 61; with_reducible (first | exact HO1.out _ | exact HO2.out _)) | (go_at_call 59; with_reducible exact HH.out _))))
      refine wpQuiet_nil ?_
      rintro w5 ⟨x7, hx7⟩
      have hb7 := ext_below _ x7
      rw [← hx7] at hb7
      have HB7 := Lib.hid hb7
      have HBX := Lib.hid (bt HBX3.out hb7)
      clear hx7 x7 hb7
      clear x0 x1 x2 x3 x4 o0 o1 o2 o4
      clear z0 zM z1 q0
      obtain ⟨z0, zM, z1⟩ := (HM1.out.below HBX.out).cells
      have q0 := (HM1.out.below HBX.out).lt
      have hs3 := HM3.out.below HBX.out
      obtain ⟨s0, sM, s1⟩ := hs3.cells
      have s2 := hs3.fz 0; have s3 := hs3.fz 1; have s4 := hs3.fz 2
      have q2 := hs3.lt
      have HR2 := Lib.hid (hs3.set2 cap (.slice (some ⟨bs, off, none⟩) n cp))
      clear hs3
      go_wp2
      rw [HPP.out, HEE.out]
      refine bodyPost_ret (res_mbe Try.results14 rfl HR2.out) rfl ?_
      have hs0 := HM3.out.lt; have hs1 := HBX.out.size; have hds := HDS.out
      refine RetD.same HL.out HSO.out ?_ rfl rfl
      rw [← HBQ.out]
      exact HB3.out.trans ((HBX.out.mono (by omega)).trans ((mb_chg w5 b2 (.int .i64 cap.1) (.int .i64 cap.2) (.slice (some ⟨bs, off, none⟩) n cp)).below (by omega) fun k e => by have e : k = b2 := e; omega))
end
end
section
open Go.RowKit
section
variable {α : Type} {enc : α → List Value} {k : Nat} {w : World} {v : Value} {l : List α}
/-- v[i:i+1]. -/
theorem RS.one {P : Program} {T e : Nat} (h : RS k enc w v l) {i : Nat} {x : α} (hx : l[i]? = some x) {q : Int} (hq : q = ((i + 1 : Nat) : Int)) (ht : P.underlying T = some (.slice e)) {inf : TypeInfo} (hinf : P.info? e = some inf) (hsz : inf.size = k) :
    ∃ v', (∀ w0, (Instr.slice T v (some (.int .i64 (i : Int))) (some (.int .i64 q)) none).run P w0 = .ok v' w0) ∧ (∀ w0, RS k enc w0 v l → RS k enc w0 v' [x]) := by
  subst hq
  obtain ⟨a, cap, rfl, h1, h2, _⟩ := h
  have hil : i < l.length := (List.getElem?_eq_some_iff.1 hx).1
  have hi' : i + 1 ≤ cap := by omega
  have hi2 : i ≤ i + 1 := by omega
  refine ⟨.slice (if cap = i then a else a.map (·.add (i * k))) (i + 1 - i) (cap - i), fun w0 => ?_, fun w0 h0 => ?_⟩
  · simp [Instr.slice, Instr.sliceBounds, Instr.sliceBound, asIntOf, run_underlying ht, sizeOf, typeInfo, hinf, hsz, Result.andThen, hi', -Int.natCast_add]
  · obtain ⟨a', cap', e', _, _, h3⟩ := h0
    cases e'
    refine ⟨if cap = i then a else a.map (·.add (i * k)), cap - i, by simp, by simp; omega, by omega, fun hn => ?_⟩
    obtain ⟨b, off, rfl, hb, hc⟩ := h3 (by intro e; rw [e] at hil; simp at hil)
    refine ⟨b, off + i * k, ?_, hb, fun j hj j2 u hu => ?_⟩
    · rw [if_neg (by omega)]
      show some (Addr.add ⟨b, off, none⟩ (i * k)) = _
      by_cases h0 : i * k = 0
      · rw [h0]; simp [Addr.add]
      · simp [Addr.add, h0]
    · obtain rfl : j = 0 := by simpa using hj
      have hx2 : l[i] = x := (List.getElem?_eq_some_iff.1 hx).2
      have := hc i hil j2 u (by rw [hx2]; simpa using hu)
      rw [Nat.zero_mul, Nat.add_zero]
      exact this
end
end
section
open Go.RowKit Go.Maps
attribute [local go_sem] ext_cell ext_frozen extC_cell extC_frozen Mix.calmUpon Mix.mUpon
attribute [local go_sem] eq4
set_option maxHeartbeats 1000000 in
theorem mdo {w : World} {v : Value} {S : List Oa} {cap : Int × Int} (h : OL w v S) (hS : SO S) (hin : AIn cap.1 cap.2 (S.map Oa.pl)) (hln : S.length < 900000) (x : Aa) (hv : Vc w x.v x.vs) (hu : Vc w x.u x.us) (hl : x.vs.length < 1000000 ∧ x.us.length < 1000000) :
    Calls Try.prog 14 #[mval cap v, .agg #[.int .i64 x.kind, .int .i64 x.id, x.v, x.u]] w (RetD w cap v S x.v x.vs x.u x.us (doP cap.1 cap.2 (S.map Oa.pl) x) (doB cap.1 cap.2 (S.map Oa.pl) x) (doE cap.1 cap.2 (S.map Oa.pl) x)) := by
  obtain ⟨ak, ai, av, avs, au, aus⟩ := x
  obtain ⟨va, vc, hvv, -, -⟩ := hv.form
  obtain ⟨ua, uc, huv, -, -⟩ := hu.form
  simp only at hvv huv
  subst hvv huv
  obtain ⟨a, n, cp, rfl, -, -, -, -⟩ := h.rs.at_
  unfold doP doB doE
  simp only
  by_cases k0 : ak = 0
  · rw [if_pos k0, if_pos k0, if_pos k0]
    exact mdo0 h hS hin hln hv rfl (by have := hl.1; simp only at this; omega) hu k0
  rw [if_neg k0, if_neg k0, if_neg k0]
  by_cases k1 : ak = 1
  · rw [if_pos k1, if_pos k1, if_pos k1]
    exact mdo1 h hS hln hv hu k1
  rw [if_neg k1, if_neg k1, if_neg k1]
  cases hf : fndO S ai with
  | none =>
    have hfa : fndA (S.map Oa.pl) ai = none := by rw [plo_fnd, hf]; rfl
    have e1 : (if ak = 2 then takeP (S.map Oa.pl) ai avs else if ak = 3 then giveP (S.map Oa.pl) ai avs else turnP (S.map Oa.pl) ai avs aus) = S.map Oa.pl := by
      unfold takeP giveP turnP; rw [hfa]; split
      · rfl
      · split <;> rfl
    have e2 : (if ak = 2 then takeE (S.map Oa.pl) ai avs else if ak = 3 then giveE (S.map Oa.pl) ai avs else turnE (S.map Oa.pl) ai avs aus) = 43 := by
      unfold takeE giveE turnE; rw [hfa]; split
      · rfl
      · split <;> rfl
    rw [e1, e2]
    exact mdo_none h hS hv hu k0 k1 hf
  | some y =>
    by_cases k2 : ak = 2
    · rw [if_pos k2, if_pos k2]
      exact mdo2 h hS hin hln hv (by have := hl.1; simp only at this; omega) hu k2 hf
    rw [if_neg k2, if_neg k2]
    by_cases k3 : ak = 3
    · rw [if_pos k3, if_pos k3]
      exact mdo3 h hS hin hln hv (by have := hl.1; simp only at this; omega) hu k3 hf
    rw [if_neg k3, if_neg k3]
    exact mdo4 h hS hin hln hv (by have := hl.1; simp only at this; omega) hu (by have := hl.2; simp only at this; omega) k0 k1 k2 k3 hf
/-- Table and list side by side. -/
structure PW (w1 wr : World) (tp M mb : Nat) (cap : Int × Int) (S : List Pa) (v : Value) (L : List Oa) (t : Nat) : Prop where
  ap : AP w1 wr tp M cap.1 cap.2 S
  mq : MB wr mb cap v
  ol : OL wr v L
  pl : L.map Oa.pl = S
  so : SO L
  od : OD (fun k => k = tp ∨ k = M ∨ k = mb) v L
  len : S.length ≤ t
  ne : tp ≠ mb ∧ M ≠ mb ∧ w1.heap.size ≤ mb
theorem PW.on {w1 wr w' : World} {tp M mb : Nat} {cap : Int × Int} {S : List Pa} {v : Value} {L : List Oa} {t : Nat} (h : PW w1 wr tp M mb cap S v L t) (hb : Below wr.heap.size wr w') : PW w1 w' tp M mb cap S v L t :=
  ⟨h.ap.below hb, h.mq.below hb, h.ol.below hb, h.pl, h.so, h.od, h.len, h.ne⟩
section
variable {W w : World} {tp M : Nat} {cap most : Int} {S : List Pa}
theorem pget_some (h : AP W w tp M cap most S) {k : Int} (hk : I64 k) {y : Pa} (hf : fndA S k = some y) :
    Calls Try.prog 16 #[ptr tp, .int .i64 k] w fun e w' => ∃ u v, e = .returned (.tuple #[.agg #[.int .i64 k, u, v], .bool true]) ∧ Vc w' u y.2.1 ∧ Vc w' v y.2.2 ∧ Below w.heap.size w w' := by
  obtain ⟨F, h⟩ := h
  have h1 := h.pl k
  rw [hf] at h1
  cases hx : F k with
  | none => rw [hx] at h1; cases h1
  | some x =>
    rw [hx] at h1
    have h2 := Option.some.inj h1
    refine (aget_some h hk hx).mono ?_
    rintro e w' ⟨u, v, rfl, hu, hv, hb⟩
    rw [h2]
    exact ⟨u, v, rfl, hu.vc, hv.vc, hb⟩
theorem pget_none (h : AP W w tp M cap most S) {k : Int} (hk : I64 k) (hf : fndA S k = none) :
    Calls Try.prog 16 #[ptr tp, .int .i64 k] w fun e w' => e = .returned (.tuple #[.agg #[.int .i64 0, .slice none 0 0, .slice none 0 0], .bool false]) ∧ Below w.heap.size w w' := by
  obtain ⟨F, h⟩ := h
  have h1 := h.pl k
  rw [hf] at h1
  cases hx : F k with
  | none => exact aget_none h hk hx
  | some x => rw [hx] at h1; cases h1
end
theorem part_not {w : World} {b B k : Nat} {c : Int × Int} {u v : Value} {l : List Pt} (h : OwnP w B v l) (hm : MB w b c u) (hb : v.ownBlock = some k) : ¬ k = b := by
  rintro rfl
  obtain ⟨_, ⟨rfl, _⟩ | ⟨g, cap, cur, rfl, _, hg, _⟩⟩ := h
  · cases hb
  · cases hb
    unfold MB at hm
    rw [hg] at hm
    have := (Obj.cells.inj (Option.some.inj hm)).2.1
    exact absurd this (by decide)
/-- The list's block is none of the table's. -/
theorem AP.apart {W w w' : World} {tp M mb : Nat} {cap most : Int} {S : List Pa} {c : Int × Int} {u : Value} (h : AP W w tp M cap most S) (hm : MB w mb c u) (hc : Chg (fun k => k = mb) w w') (h1 : W.heap.size ≤ mb) (h2 : tp ≠ mb) (h3 : M ≠ mb) : AP W w' tp M cap most S := by
  obtain ⟨F, h⟩ := h
  exact ⟨F, h.chg hc (fun k e => by rw [e]; exact h1) h2 h3 fun k x hx => ⟨fun b hb => part_not (h.vec k x hx).1 hm hb, fun b hb => part_not (h.vec k x hx).2 hm hb⟩⟩
/-- A slice of one agent, made of a block that holds it. -/
theorem AL.made {w : World} {q : Nat} {i : Int} {u v : Value} {us vs : List Pt} (hk : QB w q i u v) (hu : Vc w u us) (hv : Vc w v vs) : AL w (.slice (some ⟨q, 0, none⟩) 1 1) [⟨i, u, us, v, vs⟩] := by
  refine ⟨⟨some ⟨q, 0, none⟩, 1, rfl, Nat.le_refl _, by decide, fun _ => ⟨q, 0, rfl, hk.lt, fun i hi j z hz => ?_⟩⟩, fun y hy => by rw [List.mem_singleton.1 hy]; exact ⟨hu, hv⟩⟩
  obtain rfl : i = 0 := by simpa using hi
  obtain ⟨h0, h1, h2⟩ := hk.cells
  rcases j with _ | _ | _ | j <;> simp [qenc] at hz
  · subst hz; exact h0
  · subst hz; exact h1
  · subst hz; exact h2
theorem OL.one {w : World} {v : Value} {l : List Oa} (h : OL w v l) {i : Nat} {x : Oa} (hx : l[i]? = some x) {q : Int} (hq : q = ((i + 1 : Nat) : Int)) :
    ∃ v', (∀ w0, (Instr.slice 27 v (some (.int .i64 (i : Int))) (some (.int .i64 q)) none).run Try.prog w0 = .ok v' w0) ∧ OL w v' [x] := by
  obtain ⟨i0, hi, _, hz1, _⟩ := info_parts infoOn
  obtain ⟨v', h1, h2⟩ := h.rs.one hx hq Try.underlying27 hi hz1
  exact ⟨v', h1, h2 w h.rs, fun y hy => by rw [List.mem_singleton.1 hy]; exact h.vec x (mem_at hx)⟩
end
end Go.Proofs.Ytennhfkhdfalfaa

/- tasks: End. -/
import Derived.Test.YtnckjacbkhoppaaTa2
namespace Go.Proofs.Ytnckjacbkhoppaa
open Go.RowKit Go.Maps
open Go.ChangeMaps (setBlock)
attribute [local go_sem] ext_cell ext_frozen extC_cell extC_frozen Mix.calmUpon Mix.mUpon
theorem mdel_lenK {κ : Type} [DecidableEq κ] {L : List (κ × Value)} (hnd : (L.map (·.1)).Nodup) {k : κ} {v : Value} (h : L.lookup k = some v) : (mdel L k).length + 1 = L.length := by
  have hlm := look_mem h
  clear h
  unfold mdel
  induction L with
  | nil => cases hlm
  | cons p t ih =>
    rw [List.map_cons, List.nodup_cons] at hnd
    by_cases e : p.1 = k
    · rw [List.filter_cons, if_neg (by simpa using e), List.filter_eq_self.2 fun q hq => by simpa using fun e2 => hnd.1 (by rw [e]; exact List.mem_map.2 ⟨q, hq, e2⟩)]; rfl
    · rw [List.filter_cons, if_pos (by simpa using e)]
      have := ih hnd.2 (by rcases List.mem_cons.1 hlm with h | h; exact absurd (by rw [← h]) e; exact h)
      simp only [List.length_cons]; omega
section
variable {w : World} {B tp M : Nat} {cap : Int} {S : List Tk} {L : List (K2 × Value)}
set_option maxRecDepth 100000 in
set_option maxHeartbeats 4000000 in
theorem tend_none (h : TT w B tp M cap S L) {f i : Int} (hf : I64 f) (hi : I64 i) (hn : fndT S ⟨f, i⟩ = none) : Calls Try.prog 53 #[ptr tp, .int .i64 f, .int .i64 i] w fun e w' => e = .returned (.tuple #[tkzero, .bool false]) ∧ Below w.heap.size w w' := by
  have hz := KB.made w 0 0 0 (.slice none 0 0)
  have hb := ba (Below.refl w.heap.size w) (.cells #[.int .i64 0, .int .i64 0, .int .i64 0, .slice none 0 0] 95)
  have hs : w.heap.size < (w.alloc (.cells #[.int .i64 0, .int .i64 0, .int .i64 0, .slice none 0 0] 95)).heap.size := by simp
  have H := Lib.hid (h.below hb); have HZ := Lib.hid hz; have HB := Lib.hid hb
  have HI := Lib.hid (And.intro hf hi); have HN := Lib.hid hn
  clear h hz hb hf hi hn
  go_enter Try.func53, Try.ntmps53
  go_wp2_with fail
  generalize w.alloc (.cells #[.int .i64 0, .int .i64 0, .int .i64 0, .slice none 0 0] 95) = w1 at *
  generalize hbq : w.heap.size = b at *
  refine (tget_none H.out HI.out.1 HI.out.2 HN.out).mono ?_
  rintro e w2 ⟨rfl, hb2⟩
  have hK := HZ.out.below hb2
  obtain ⟨x0, x1, x2, x3⟩ := hK.cells
  have z0 := hK.fz 0; have z1 := hK.fz 1; have z2 := hK.fz 2; have z3 := hK.fz 3
  have z4 := hK.lt
  have HK4 := Lib.hid (hK.set4 0 0 0 (.slice none 0 0))
  have HC4 := Lib.hid (show Chg (fun k => k = b) w2 ((((w2.setCell ⟨b, 0, none⟩ (.int .i64 0)).setCell ⟨b, 1, none⟩ (.int .i64 0)).setCell ⟨b, 2, none⟩ (.int .i64 0)).setCell ⟨b, 3, none⟩ (.slice none 0 0)) from ((((Chg.refl (fun k => k = b) w2).setCell (p := ⟨b, 0, none⟩) (.inl rfl) _).setCell (p := ⟨b, 1, none⟩) (.inl rfl) _).setCell (p := ⟨b, 2, none⟩) (.inl rfl) _).setCell (p := ⟨b, 3, none⟩) (.inl rfl) _)
  have HS := Lib.hid hs; have HB2 := Lib.hid hb2; have HZ4 := Lib.hid z4
  have HBQ := Lib.hid hbq
  clear hb2 hK hbq
  go_wp2
  refine bodyPost_ret (res_tt Try.results53 rfl (HK4.out.below (ba (Below.refl _ _) _))) rfl ?_
  refine ⟨rfl, ?_⟩
  rw [HBQ.out]
  have hs1 := HS.out; have hs2 := HB2.out.size; have hs3 := HC4.out.size
  exact HB.out.trans ((HB2.out.mono (by omega)).trans ((HC4.out.below (B := b) (by omega) fun k e => by have e : k = b := e; omega).trans ((ba (Below.refl _ _) _).mono (by omega))))
set_option maxRecDepth 100000 in
set_option maxHeartbeats 4000000 in
theorem tend_some (h : TT w B tp M cap S L) {f i : Int} (hf : I64 f) (hi : I64 i) {y : Tk} (hn : fndT S ⟨f, i⟩ = some y) : Calls Try.prog 53 #[ptr tp, .int .i64 f, .int .i64 i] w fun e w' => ∃ u, e = .returned (.tuple #[.agg #[.int .i64 y.frame, .int .i64 y.id, .int .i64 y.agent, u], .bool true]) ∧ OwnP w' w.heap.size u y.ps ∧ TT w' B tp M cap (delT S ⟨f, i⟩) (mdel L ⟨f, i⟩) ∧ Chg (fun k => k = M) w w' := by
  have hz := KB.made w 0 0 0 (.slice none 0 0)
  have hb := ba (Below.refl w.heap.size w) (.cells #[.int .i64 0, .int .i64 0, .int .i64 0, .slice none 0 0] 95)
  have hs : w.heap.size < (w.alloc (.cells #[.int .i64 0, .int .i64 0, .int .i64 0, .slice none 0 0] 95)).heap.size := by simp
  have H := Lib.hid (h.below hb); have HZ := Lib.hid hz; have HB := Lib.hid hb
  have HI := Lib.hid (And.intro hf hi); have HN := Lib.hid hn
  have HLT := Lib.hid h.lt
  have HHM := Lib.hid h.hM
  have HVS := Lib.hid h.vs
  have HVL := Lib.hid (fun x hx b hb => ((h.vec x hx).lt b hb).2)
  obtain ⟨yf, yi, ya, yv, ys⟩ := y
  clear h hz hb hf hi hn
  go_enter Try.func53, Try.ntmps53
  go_wp2_with fail
  generalize w.alloc (.cells #[.int .i64 0, .int .i64 0, .int .i64 0, .slice none 0 0] 95) = w1 at *
  generalize hbq : w.heap.size = b at *
  refine (tget_some H.out HI.out.1 HI.out.2 HN.out).mono ?_
  rintro e w2 ⟨u, rfl, hu, hb2⟩
  obtain ⟨ua, uc, rfl, -, -⟩ := hu.vc.form
  simp only at hu
  generalize hm : ys.length = m at *
  have hb23 := ba (Below.refl w2.heap.size w2) (.cells #[.int .i64 yf, .int .i64 yi, .int .i64 ya, .slice ua m uc] 95)
  have h3 := H.out.below (bt hb2 hb23)
  have hx8 := KB.made w2 yf yi ya (.slice ua m uc)
  have c1 := h3.c1
  have hl := h3.lt
  obtain ⟨o, hdel, hmd⟩ := h3.map.drop keyP Try.underlying112 0 (x := ⟨f, i⟩) HI.out
  have hdel' : (Builtin.delete_ #[112, 50] 0 #[.map (some M), .agg #[.int .i64 f, .int .i64 i]]).run Try.prog (w2.alloc (.cells #[.int .i64 yf, .int .i64 yi, .int .i64 ya, .slice ua m uc] 95)) = .ok (.tuple #[]) (setBlock (w2.alloc (.cells #[.int .i64 yf, .int .i64 yi, .int .i64 ya, .slice ua m uc] 95)) M o) := hdel
  have hgr := Chg.of_grown (F := fun b => b = M) (grown_setBlock (w2.alloc (.cells #[.int .i64 yf, .int .i64 yi, .int .i64 ya, .slice ua m uc] 95)) M o) fun b e => by cases e; rfl
  have hmlen := mdel_lenK h3.map.nodup (k := ⟨f, i⟩) (by rw [h3.look, HN.out]; rfl)
  have HT4 := Lib.hid (h3.drop HN.out hgr hmd hmlen)
  have HLTb := Lib.hid (show tp < b ∧ M < b from HLT.out)
  have hs1 := hs
  have hs2 := hb2.size
  have hKb := (HZ.out.below (bt hb2 hb23)).chg hgr (by have := HLTb.out; omega)
  have hK8 := hx8.chg hgr (by have := HLTb.out; omega)
  have HU := Lib.hid hu; have HM := Lib.hid hm; have HB2 := Lib.hid hb2; have HB23 := Lib.hid hb23; have HGR := Lib.hid hgr; have HDEL := Lib.hid hdel'
  have HKB := Lib.hid hKb; have HK8 := Lib.hid hK8; have HBQ := Lib.hid hbq; have HS := Lib.hid hs
  clear hu hm hb2 hb23 hdel hmd hmlen hKb hK8 hbq hgr h3 hs1 hx8
  generalize hw3 : w2.alloc (.cells #[.int .i64 yf, .int .i64 yi, .int .i64 ya, .slice ua m uc] 95) = w3 at *
  obtain ⟨w4, hw4⟩ : ∃ w4, w4 = setBlock w3 M o := ⟨_, rfl⟩
  rw [← hw4] at hdel' HKB HK8 HT4 HGR
  clear hw4 HDEL
  obtain ⟨g0, g1, g2, g3⟩ := HK8.out.cells
  obtain ⟨x0, x1, x2, x3⟩ := HKB.out.cells
  have z0 := HKB.out.fz 0; have z1 := HKB.out.fz 1; have z2 := HKB.out.fz 2; have z3 := HKB.out.fz 3
  have z4 := HKB.out.lt
  have HK4 := Lib.hid (HKB.out.set4 yf yi ya (.slice ua m uc))
  have HC4 := Lib.hid (show Chg (fun k => k = b) w4 ((((w4.setCell ⟨b, 0, none⟩ (.int .i64 yf)).setCell ⟨b, 1, none⟩ (.int .i64 yi)).setCell ⟨b, 2, none⟩ (.int .i64 ya)).setCell ⟨b, 3, none⟩ (.slice ua m uc)) from ((((Chg.refl (fun k => k = b) w4).setCell (p := ⟨b, 0, none⟩) (.inl rfl) _).setCell (p := ⟨b, 1, none⟩) (.inl rfl) _).setCell (p := ⟨b, 2, none⟩) (.inl rfl) _).setCell (p := ⟨b, 3, none⟩) (.inl rfl) _)
  go_wp2
  refine bodyPost_ret (res_tt Try.results53 rfl HK4.out) rfl ?_
  have hs1 := HS.out; have hs3 := HB23.out.size
  have hlt := HLTb.out
  refine ⟨_, rfl, ?_, ?_, ?_⟩
  · rw [HBQ.out]
    exact ownsRow_base (ownsRow_chg (ownsRow_chg (ownsRow_chg HU.out (.of_below (fun _ => False) HB23.out) fun _ _ => id) HGR.out fun k hk e => by have h1 := (HU.out.lt k hk).1; have e : k = M := e; omega) HC4.out fun k hk e => by have h1 := (HU.out.lt k hk).1; have e : k = b := e; omega) (by omega)
  · refine HT4.out.chg HC4.out (by show ¬ tp = b; omega) (by show ¬ M = b; omega) fun x hx k hk e => ?_
    have e : k = b := e
    have := HVL.out x (Srt.mem_del.1 hx).1 k hk; omega
  · have h1 : Chg (fun k => k = M) w w3 := .of_below _ (by rw [HBQ.out]; exact HB.out.trans ((HB2.out.mono (by omega)).trans (HB23.out.mono (by omega))))
    exact (h1.same HGR.out).trans HC4.out fun k e => .inr (by have e : k = b := e; have := HBQ.out; omega)
end
end Go.Proofs.Ytnckjacbkhoppaa

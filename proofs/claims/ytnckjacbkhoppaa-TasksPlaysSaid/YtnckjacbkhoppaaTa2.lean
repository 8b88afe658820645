/- tasks: Get, End, Launch. -/
import Derived.Test.YtnckjacbkhoppaaTa1
namespace Go.Proofs.Ytnckjacbkhoppaa
open Go.RowKit Go.Maps
attribute [local go_sem] ext_cell ext_frozen extC_cell extC_frozen Mix.calmUpon Mix.mUpon
section
variable {w : World} {B tp M : Nat} {cap : Int} {S : List Tk} {L : List (K2 × Value)}
set_option maxRecDepth 100000 in
set_option maxHeartbeats 4000000 in
theorem tget_none (h : TT w B tp M cap S L) {f i : Int} (hf : I64 f) (hi : I64 i) (hn : fndT S ⟨f, i⟩ = none) : Calls Try.prog 51 #[ptr tp, .int .i64 f, .int .i64 i] w fun e w' => e = .returned (.tuple #[tkzero, .bool false]) ∧ Below w.heap.size w w' := by
  have hz := KB.made w 0 0 0 (.slice none 0 0)
  have hb := ba (Below.refl w.heap.size w) (.cells #[.int .i64 0, .int .i64 0, .int .i64 0, .slice none 0 0] 95)
  have hs : w.heap.size < (w.alloc (.cells #[.int .i64 0, .int .i64 0, .int .i64 0, .slice none 0 0] 95)).heap.size := by simp
  have H := Lib.hid (h.below hb); have HZ := Lib.hid hz; have HB := Lib.hid hb
  have HI := Lib.hid (And.intro hf hi); have HN := Lib.hid hn
  clear h hz hb hf hi hn
  go_enter Try.func51, Try.ntmps51
  go_wp2_with fail
  generalize w.alloc (.cells #[.int .i64 0, .int .i64 0, .int .i64 0, .slice none 0 0] 95) = w1 at *
  generalize hbq : w.heap.size = b at *
  refine (tmade H.out).mono ?_
  rintro e w2 ⟨rfl, rfl⟩
  have hlook := H.out.find (k := ⟨f, i⟩) HI.out true
  rw [HN.out] at hlook
  replace hlook := hlook.trans (show _ = .ok (.tuple #[tkzero, .bool false]) w2 from rfl)
  have c1 := H.out.c1
  have hl := H.out.lt.1
  obtain ⟨x0, x1, x2, x3⟩ := HZ.out.cells
  have z0 := HZ.out.fz 0; have z1 := HZ.out.fz 1; have z2 := HZ.out.fz 2; have z3 := HZ.out.fz 3
  have HK4 := Lib.hid (HZ.out.set4 0 0 0 (.slice none 0 0))
  have HC4 := Lib.hid (show Chg (fun k => k = b) w2 ((((w2.setCell ⟨b, 0, none⟩ (.int .i64 0)).setCell ⟨b, 1, none⟩ (.int .i64 0)).setCell ⟨b, 2, none⟩ (.int .i64 0)).setCell ⟨b, 3, none⟩ (.slice none 0 0)) from ((((Chg.refl (fun k => k = b) w2).setCell (p := ⟨b, 0, none⟩) (.inl rfl) _).setCell (p := ⟨b, 1, none⟩) (.inl rfl) _).setCell (p := ⟨b, 2, none⟩) (.inl rfl) _).setCell (p := ⟨b, 3, none⟩) (.inl rfl) _)
  have HS := Lib.hid hs
  go_wp2
  refine bodyPost_ret (res_tt Try.results51 rfl (HK4.out.below (ba (Below.refl _ _) _))) rfl ?_
  refine ⟨rfl, ?_⟩
  rw [hbq]
  exact HB.out.trans ((HC4.out.below (B := b) (Nat.le_of_lt HS.out) fun k e => by have e : k = b := e; omega).trans ((ba (Below.refl _ _) _).mono (Nat.le_trans (Nat.le_of_lt HS.out) HC4.out.size)))
set_option maxRecDepth 100000 in
set_option maxHeartbeats 4000000 in
theorem tget_some (h : TT w B tp M cap S L) {f i : Int} (hf : I64 f) (hi : I64 i) {y : Tk} (hn : fndT S ⟨f, i⟩ = some y) : Calls Try.prog 51 #[ptr tp, .int .i64 f, .int .i64 i] w fun e w' => ∃ u, e = .returned (.tuple #[.agg #[.int .i64 y.frame, .int .i64 y.id, .int .i64 y.agent, u], .bool true]) ∧ OwnP w' w.heap.size u y.ps ∧ Below w.heap.size w w' := by
  have hz := KB.made w 0 0 0 (.slice none 0 0)
  have hb := ba (Below.refl w.heap.size w) (.cells #[.int .i64 0, .int .i64 0, .int .i64 0, .slice none 0 0] 95)
  have hs : w.heap.size < (w.alloc (.cells #[.int .i64 0, .int .i64 0, .int .i64 0, .slice none 0 0] 95)).heap.size := by simp
  have hym := (Srt.fnd_mem hn).1
  have hyv := (h.vec y hym).vc
  have hyl := (h.num y hym).2.2.2.2
  have H := Lib.hid (h.below hb); have HZ := Lib.hid hz; have HB := Lib.hid hb
  have HI := Lib.hid (And.intro hf hi); have HN := Lib.hid hn
  have HYV := Lib.hid (hyv.on hb); have HYL := Lib.hid hyl
  obtain ⟨va, vc, hvv, -, -⟩ := hyv.form
  obtain ⟨yf, yi, ya, yv, ys⟩ := y
  simp only at hvv
  subst hvv
  generalize hm : ys.length = m at *
  clear h hz hb hf hi hn hyv hyl hym
  go_enter Try.func51, Try.ntmps51
  go_wp2_with fail
  generalize w.alloc (.cells #[.int .i64 0, .int .i64 0, .int .i64 0, .slice none 0 0] 95) = w1 at *
  generalize hbq : w.heap.size = b at *
  refine (tmade H.out).mono ?_
  rintro e w2 ⟨rfl, rfl⟩
  have hlook := H.out.find (k := ⟨f, i⟩) HI.out true
  rw [HN.out] at hlook
  replace hlook := hlook.trans (show _ = .ok (.tuple #[.agg #[.int .i64 yf, .int .i64 yi, .int .i64 ya, .slice va m vc], .bool true]) w2 from rfl)
  have c1 := H.out.c1
  have hl := H.out.lt.1
  have HS := Lib.hid hs
  have HB3 := Lib.hid (ba (Below.refl w2.heap.size w2) (.cells #[.int .i64 yf, .int .i64 yi, .int .i64 ya, .slice va m vc] 95))
  have HC := Lib.hid (tcopied (w := w2.alloc (.cells #[.int .i64 yf, .int .i64 yi, .int .i64 ya, .slice va m vc] 95)) yf yi ya (HYV.out.on HB3.out) (by rw [hm]; exact HYL.out))
  have HBQ := Lib.hid hbq; have HM := Lib.hid hm
  clear hbq hm
  go_wp2_with fail
  generalize w2.alloc (.cells #[.int .i64 yf, .int .i64 yi, .int .i64 ya, .slice va m vc] 95) = w3 at *
  refine HC.out.mono ?_
  rintro e w4 ⟨u, rfl, hu, hb4⟩
  obtain ⟨ua, uc, rfl, -, -⟩ := hu.vc.form
  rw [HM.out] at *
  have hK := HZ.out.below (bt HB3.out hb4)
  obtain ⟨x0, x1, x2, x3⟩ := hK.cells
  have z0 := hK.fz 0; have z1 := hK.fz 1; have z2 := hK.fz 2; have z3 := hK.fz 3
  have z4 := hK.lt
  have HK4 := Lib.hid (hK.set4 yf yi ya (.slice ua m uc))
  have HC4 := Lib.hid (show Chg (fun k => k = b) w4 ((((w4.setCell ⟨b, 0, none⟩ (.int .i64 yf)).setCell ⟨b, 1, none⟩ (.int .i64 yi)).setCell ⟨b, 2, none⟩ (.int .i64 ya)).setCell ⟨b, 3, none⟩ (.slice ua m uc)) from ((((Chg.refl (fun k => k = b) w4).setCell (p := ⟨b, 0, none⟩) (.inl rfl) _).setCell (p := ⟨b, 1, none⟩) (.inl rfl) _).setCell (p := ⟨b, 2, none⟩) (.inl rfl) _).setCell (p := ⟨b, 3, none⟩) (.inl rfl) _)
  have HU := Lib.hid hu; have HB4 := Lib.hid (bt HB3.out hb4); have HS3 := Lib.hid HB3.out.size
  clear hu hb4 hK c1 hlook hl
  go_wp2
  refine bodyPost_ret (res_tt Try.results51 rfl HK4.out) rfl ?_
  have hs2 := HS.out; have hs3 := HS3.out; have hs4 := HB4.out.size
  refine ⟨_, rfl, ?_, ?_⟩
  · rw [HBQ.out]
    exact ownsRow_base (ownsRow_chg HU.out HC4.out fun k hk e => by have h1 := (HU.out.lt k hk).1; have e : k = b := e; omega) (by omega)
  · rw [HBQ.out]
    exact HB.out.trans ((HB4.out.mono (by omega)).trans (HC4.out.below (B := b) (by omega) fun k e => by have e : k = b := e; omega))
end
end Go.Proofs.Ytnckjacbkhoppaa

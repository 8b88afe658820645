/- offers: Close. -/
import Derived.Test.YtnckjacbkhoppaaOf5
namespace Go.Proofs.Ytnckjacbkhoppaa
open Go.RowKit Go.Maps Go.MapKept
open Go.ChangeMaps (setBlock)
attribute [local go_sem] ext_cell ext_frozen extC_cell extC_frozen Mix.calmUpon Mix.mUpon
section
variable {w : World} {B tp Mo Mf Ma : Nat} {great last : Int} {S : List Ofr} {L : List (Int × Value)} {F A : Nat → Prop}
set_option maxRecDepth 100000 in
set_option maxHeartbeats 4000000 in
theorem oclose_none (h : OT w B tp Mo Mf Ma great last S L F A) {k : Int} (hk : I64 k) (hn : fndO S k = none) : Calls Try.prog 35 #[ptr tp, .int .i64 k] w fun e w' => e = .returned (.tuple #[ofzero, .bool false]) ∧ Below w.heap.size w w' := by
  have hz := OfB.made w 0 0 0 (.slice none 0 0) 0
  have hb := ba (Below.refl w.heap.size w) (.cells #[.int .i64 0, .int .i64 0, .int .i64 0, .slice none 0 0, .int .i64 0] 61)
  have hs : w.heap.size < (w.alloc (.cells #[.int .i64 0, .int .i64 0, .int .i64 0, .slice none 0 0, .int .i64 0] 61)).heap.size := by simp
  have H := Lib.hid (h.below hb); have HZ := Lib.hid hz; have HB := Lib.hid hb
  have HI := Lib.hid hk; have HN := Lib.hid hn
  clear h hz hb hk hn
  go_enter Try.func35, Try.ntmps35
  go_wp2_with fail
  generalize w.alloc (.cells #[.int .i64 0, .int .i64 0, .int .i64 0, .slice none 0 0, .int .i64 0] 61) = w1 at *
  generalize hbq : w.heap.size = b at *
  refine (oget_none H.out HI.out HN.out).mono ?_
  rintro e w2 ⟨rfl, hb2⟩
  have hb23 := ba (Below.refl w2.heap.size w2) (.cells #[.int .i64 0, .int .i64 0, .int .i64 0, .slice none 0 0, .int .i64 0] 61)
  have HK := Lib.hid (OfB.made w2 0 0 0 (.slice none 0 0) 0)
  have HB3 := Lib.hid (bt hb2 hb23)
  have hK := HZ.out.below (bt hb2 hb23)
  obtain ⟨x0, x1, x2, x3, x4⟩ := hK.cells
  have z0 := hK.fz 0; have z1 := hK.fz 1; have z2 := hK.fz 2; have z3 := hK.fz 3; have z4 := hK.fz 4
  have z5 := hK.lt
  obtain ⟨y0, y1, y2, y3, y4⟩ := HK.out.cells
  have y5 := HK.out.lt
  have HK4 := Lib.hid (hK.set5 0 0 0 (.slice none 0 0) 0)
  have HC4 := Lib.hid (w5_chg (w2.alloc (.cells #[.int .i64 0, .int .i64 0, .int .i64 0, .slice none 0 0, .int .i64 0] 61)) b 0 0 0 (.slice none 0 0) 0)
  have HS := Lib.hid hs; have HBQ := Lib.hid hbq
  clear hb2 hb23 hK hbq
  go_wp2
  refine bodyPost_ret (res_of Try.results35 rfl HK4.out) rfl ?_
  refine ⟨rfl, ?_⟩
  rw [HBQ.out]
  have hs1 := HS.out; have hs3 := HB3.out.size
  exact HB.out.trans ((HB3.out.mono (by omega)).trans (HC4.out.below (B := b) (by omega) fun k e => by have e : k = b := e; omega))
set_option maxRecDepth 100000 in
set_option maxHeartbeats 8000000 in
theorem oclose_some (h : OT w B tp Mo Mf Ma great last S L F A) (hln : S.length < 1000000) {k : Int} (hk : I64 k) {y : Ofr} (hn : fndO S k = some y) : Calls Try.prog 35 #[ptr tp, .int .i64 k] w fun e w' => ∃ u, e = .returned (.tuple #[ofval { y with vv := u }, .bool true]) ∧ OwnP w' w.heap.size u y.ps ∧ OT w' B tp Mo Mf Ma great last (delO S k) (mdel L k) F A ∧ Chg (OB tp Mo F A S) w w' := by
  have hz := OfB.made w 0 0 0 (.slice none 0 0) 0
  have hb := ba (Below.refl w.heap.size w) (.cells #[.int .i64 0, .int .i64 0, .int .i64 0, .slice none 0 0, .int .i64 0] 61)
  have hs : w.heap.size < (w.alloc (.cells #[.int .i64 0, .int .i64 0, .int .i64 0, .slice none 0 0, .int .i64 0] 61)).heap.size := by simp
  have HO := Lib.hid (fun b hb => h.olt (b := b) hb)
  have H := Lib.hid (h.below hb); have H0 := Lib.hid h; have HZ := Lib.hid hz; have HB := Lib.hid hb
  have HI := Lib.hid hk; have HN := Lib.hid hn
  have hyk : y.id = k := (Srt.fnd_mem hn).2
  have hym : y ∈ S := (Srt.fnd_mem hn).1
  have hnum := h.num y hym
  have HNU := Lib.hid (show I64 y.frame ∧ I64 y.agent from ⟨hnum.2.1.2, hnum.2.2.1.2⟩)
  have hgf := g_in h.srt (fun z => decide (z.frame = y.frame)) hym (by simp)
  have hga := g_in h.srt (fun z => decide (z.agent = y.agent)) hym (by simp)
  rw [hyk] at hgf hga
  have HGF := Lib.hid (show gF S y.frame = [k] ∨ (k ∈ gF S y.frame ∧ 1 < (gF S y.frame).length ∧ (gF S y.frame).Nodup) from hgf)
  have HGA := Lib.hid (show gA S y.agent = [k] ∨ (k ∈ gA S y.agent ∧ 1 < (gA S y.agent).length ∧ (gA S y.agent).Nodup) from hga)
  have HLF := Lib.hid (show (gF S y.frame).length < 1000000 from by unfold gF; rw [List.length_map]; exact Nat.lt_of_le_of_lt (List.length_filter_le _ _) hln)
  have HLA := Lib.hid (show (gA S y.agent).length < 1000000 from by unfold gA; rw [List.length_map]; exact Nat.lt_of_le_of_lt (List.length_filter_le _ _) hln)
  have HYK := Lib.hid hyk
  obtain ⟨yi, yf, ya, yv, ys, yu⟩ := y
  simp only at HNU HGF HGA HLF HLA HYK
  clear h hz hb hk hn hyk hym hnum hgf hga hln
  go_enter Try.func35, Try.ntmps35
  go_wp2_with fail
  generalize w.alloc (.cells #[.int .i64 0, .int .i64 0, .int .i64 0, .slice none 0 0, .int .i64 0] 61) = w1 at *
  generalize hbq : w.heap.size = b at *
  refine (oget_some H.out HI.out HN.out).mono ?_
  rintro e w2 ⟨u, rfl, hu, hb2⟩
  obtain ⟨ua, uc, rfl, -, -⟩ := hu.vc.form
  simp only at hu
  generalize hm : ys.length = m at *
  have hb23 := ba (Below.refl w2.heap.size w2) (.cells #[.int .i64 yi, .int .i64 yf, .int .i64 ya, .slice ua m uc, .int .i64 yu] 61)
  have h3 := H.out.below (bt hb2 hb23)
  have hx8 := OfB.made w2 yi yf ya (.slice ua m uc) yu
  obtain ⟨c0, c1, c2, c3, c4⟩ := h3.cells
  have hl := h3.lt
  obtain ⟨w4, hdel, hmd, hc4⟩ := h3.map.drop' Try.underlying80 HI.out 0
  have HD := Lib.hid h3.od
  have HP4 := Lib.hid (h3.op.setMap HD.out hmd hc4)
  have HQL := Lib.hid (show b < w2.heap.size from Nat.lt_of_lt_of_le hs hb2.size)
  have HOL := Lib.hid (show ∀ k, OB tp Mo F A S k → B ≤ k ∧ k < b from HO.out)
  have hMb : Mo < b := (HOL.out Mo (.inr (.inl rfl))).2
  have HZ4 := Lib.hid ((HZ.out.below (bt hb2 hb23)).chg hc4 (by show ¬ b = Mo; omega))
  have HX4 := Lib.hid (hx8.chg hc4 (by have := HQL.out; show ¬ w2.heap.size = Mo; omega))
  have HU4 := Lib.hid (ownsRow_chg (ownsRow_chg hu (.of_below (fun _ => False) hb23) fun _ _ => id) hc4 fun k hk e => by have h1 := (hu.lt k hk).1; have e : k = Mo := e; omega)
  have HC4 := Lib.hid (show Chg (OB tp Mo F A S) w w4 from (Chg.of_below (OB tp Mo F A S) (show Below w.heap.size w _ from by rw [hbq]; exact HB.out.trans ((bt hb2 hb23).mono (Nat.le_of_lt hs)))).same (hc4.mono fun k e => .inr (.inl e)))
  have HM := Lib.hid hm; have HBQ := Lib.hid hbq; have HS := Lib.hid hs
  clear hu hb2 hb23 h3 hx8 hmd hc4 hm hbq hs HZ
  generalize hw3 : w2.alloc (.cells #[.int .i64 yi, .int .i64 yf, .int .i64 ya, .slice ua m uc, .int .i64 yu] 61) = w3 at *
  go_wp2
  clear c0 c1 c2 c3 c4 hdel hw3
  obtain ⟨q, hq⟩ : ∃ q, w2.heap.size = q := ⟨_, rfl⟩
  rw [hq] at HQL HX4 ⊢
  have HQ := Lib.hid hq
  clear hq
  obtain ⟨c0, c1, c2, c3, c4⟩ := HP4.out.cells
  have hl := HP4.out.lt
  obtain ⟨y0, y1, y2, y3, y4⟩ := HX4.out.cells
  have yl := HX4.out.lt
  have nF : ¬ F tp := fun e => (HD.out.F _ e).1 rfl
  have nFq : ¬ F q := fun e => by have := (HOL.out q (.inr (.inr (.inl e)))).2; have := HQL.out; omega
  refine Mix.regionC F (by kernel_rfl) ?_
  intro w5 hb5
  refine Mix.take_exC _ _ 0 rfl (by kernel_rfl) (by kernel_rfl) (by kernel_rfl) (by kernel_rfl) (fun K hK => ?_)
  go_simp
  first | (refine hK _ ?_; clear hK K) | (apply Exists.intro; refine ⟨fun x => ?_, hK _ ?_⟩; (fail); clear hK K)
  refine Mix.take_exC _ _ 1 rfl (by kernel_rfl) (by kernel_rfl) (by kernel_rfl) (by kernel_rfl) (fun K hK => ?_)
  go_simp
  first | (refine hK _ ?_; clear hK K) | (apply Exists.intro; refine ⟨fun x => ?_, hK _ ?_⟩; (fail); clear hK K)
  refine Mix.take_exC _ _ 2 rfl (by kernel_rfl) (by kernel_rfl) (by kernel_rfl) (by kernel_rfl) (fun K hK => ?_)
  go_simp
  first | (refine hK _ ?_; clear hK K) | (apply Exists.intro; refine ⟨fun x => ?_, hK _ ?_⟩; (fail); clear hK K)
  refine Mix.take_exC _ _ 3 rfl (by kernel_rfl) (by kernel_rfl) (by kernel_rfl) (by kernel_rfl) (fun K hK => ?_)
  go_simp
  first | (refine hK _ ?_; clear hK K) | (apply Exists.intro; refine ⟨fun x => ?_, hK _ ?_⟩; (fail); clear hK K)
  refine Mix.take_exC _ _ 4 rfl (by kernel_rfl) (by kernel_rfl) (by kernel_rfl) (by kernel_rfl) (fun K hK => ?_)
  go_simp
  first | (refine hK _ ?_; clear hK K) | (apply Exists.intro; refine ⟨fun x => ?_, hK _ ?_⟩; (fail); clear hK K)
  refine Mix.take_exC _ _ 5 rfl (by kernel_rfl) (by kernel_rfl) (by kernel_rfl) (by kernel_rfl) (fun K hK => ?_)
  go_simp
  first | (refine hK _ ?_; clear hK K) | (apply Exists.intro; refine ⟨fun x => ?_, hK _ ?_⟩; (fail); clear hK K)
  refine Mix.take_exC _ _ 6 rfl (by kernel_rfl) (by kernel_rfl) (by kernel_rfl) (by kernel_rfl) (fun K hK => ?_)
  go_simp
  first | (refine hK _ ?_; clear hK K) | (apply Exists.intro; refine ⟨fun x => ?_, hK _ ?_⟩; (fail); clear hK K)
  refine Mix.all (rs := [7]) (by kernel_rfl) (by simp) (.of_below _ hb5) ?_
  intro i6 hi6 w6 hb6 hC6
  simp only [List.mem_cons, List.not_mem_nil, or_false] at hi6
  subst hi6
  have HB6 := Lib.hid (bt hb5 hb6)
  clear hC6 hb5 hb6
  refine Mix.op rfl (by kernel_rfl) ?_
  go_simp
  have HP6 := Lib.hid (HP4.out.below HB6.out)
  refine (sdrop HP6.out.fr HNU.out.1 HI.out HGF.out HLF.out).mono ?_
  rintro e w7 ⟨rfl, hg, hc⟩
  refine ⟨_, rfl, ?_⟩
  refine Mix.done (by kernel_rfl) ((Chg.of_below _ HB6.out).same hc) ?_
  intro w8 hb8
  have hc48 := ((Chg.of_below F HB6.out).same hc).then_below hb8
  have HP8 := Lib.hid ((HP6.out.setF HD.out hg hc).below hb8)
  have HX8 := Lib.hid (HX4.out.chg hc48 nFq)
  have HZ8 := Lib.hid (HZ4.out.chg hc48 fun e => by have := (HOL.out b (.inr (.inr (.inl e)))).2; omega)
  have HU8 := Lib.hid (ownsRow_chg HU4.out hc48 fun k hk e => by have h1 := (HU4.out.lt k hk).1; have := (HOL.out k (.inr (.inr (.inl e)))).2; have := HS.out; omega)
  have HC8 := Lib.hid (HC4.out.same (hc48.mono fun k e => .inr (.inr (.inl e))))
  clear hg hc hb8 hc48 c0 c1 c2 c3 c4 hl y0 y1 y2 y3 y4 yl nF nFq
  obtain ⟨c0, c1, c2, c3, c4⟩ := HP8.out.cells
  have hl := HP8.out.lt
  obtain ⟨y0, y1, y2, y3, y4⟩ := HX8.out.cells
  have yl := HX8.out.lt
  have nA : ¬ A tp := fun e => (HD.out.A _ e).1 rfl
  have nAq : ¬ A q := fun e => by have := (HOL.out q (.inr (.inr (.inr (.inl e))))).2; have := HQL.out; omega
  go_wp2
  refine Mix.regionC A (by kernel_rfl) ?_
  intro w9 hb9
  refine Mix.take_exC _ _ 0 rfl (by kernel_rfl) (by kernel_rfl) (by kernel_rfl) (by kernel_rfl) (fun K hK => ?_)
  go_simp
  first | (refine hK _ ?_; clear hK K) | (apply Exists.intro; refine ⟨fun x => ?_, hK _ ?_⟩; (fail); clear hK K)
  refine Mix.take_exC _ _ 1 rfl (by kernel_rfl) (by kernel_rfl) (by kernel_rfl) (by kernel_rfl) (fun K hK => ?_)
  go_simp
  first | (refine hK _ ?_; clear hK K) | (apply Exists.intro; refine ⟨fun x => ?_, hK _ ?_⟩; (fail); clear hK K)
  refine Mix.take_exC _ _ 2 rfl (by kernel_rfl) (by kernel_rfl) (by kernel_rfl) (by kernel_rfl) (fun K hK => ?_)
  go_simp
  first | (refine hK _ ?_; clear hK K) | (apply Exists.intro; refine ⟨fun x => ?_, hK _ ?_⟩; (fail); clear hK K)
  refine Mix.take_exC _ _ 3 rfl (by kernel_rfl) (by kernel_rfl) (by kernel_rfl) (by kernel_rfl) (fun K hK => ?_)
  go_simp
  first | (refine hK _ ?_; clear hK K) | (apply Exists.intro; refine ⟨fun x => ?_, hK _ ?_⟩; (fail); clear hK K)
  refine Mix.take_exC _ _ 4 rfl (by kernel_rfl) (by kernel_rfl) (by kernel_rfl) (by kernel_rfl) (fun K hK => ?_)
  go_simp
  first | (refine hK _ ?_; clear hK K) | (apply Exists.intro; refine ⟨fun x => ?_, hK _ ?_⟩; (fail); clear hK K)
  refine Mix.take_exC _ _ 5 rfl (by kernel_rfl) (by kernel_rfl) (by kernel_rfl) (by kernel_rfl) (fun K hK => ?_)
  go_simp
  first | (refine hK _ ?_; clear hK K) | (apply Exists.intro; refine ⟨fun x => ?_, hK _ ?_⟩; (fail); clear hK K)
  refine Mix.take_exC _ _ 6 rfl (by kernel_rfl) (by kernel_rfl) (by kernel_rfl) (by kernel_rfl) (fun K hK => ?_)
  go_simp
  first | (refine hK _ ?_; clear hK K) | (apply Exists.intro; refine ⟨fun x => ?_, hK _ ?_⟩; (fail); clear hK K)
  refine Mix.all (rs := [7]) (by kernel_rfl) (by simp) (.of_below _ hb9) ?_
  intro i10 hi10 w10 hb10 hC10
  simp only [List.mem_cons, List.not_mem_nil, or_false] at hi10
  subst hi10
  have HB10 := Lib.hid (bt hb9 hb10)
  clear hC10 hb9 hb10
  refine Mix.op rfl (by kernel_rfl) ?_
  go_simp
  have HP10 := Lib.hid (HP8.out.below HB10.out)
  refine (sdrop HP10.out.ag HNU.out.2 HI.out HGA.out HLA.out).mono ?_
  rintro e w11 ⟨rfl, hg, hc⟩
  refine ⟨_, rfl, ?_⟩
  refine Mix.done (by kernel_rfl) ((Chg.of_below _ HB10.out).same hc) ?_
  intro w12 hb12
  have hc812 := ((Chg.of_below A HB10.out).same hc).then_below hb12
  have HP12 := Lib.hid ((HP10.out.setA HD.out hg hc).below hb12)
  have HX12 := Lib.hid (HX8.out.chg hc812 nAq)
  have HZ12 := Lib.hid (HZ8.out.chg hc812 fun e => by have := (HOL.out b (.inr (.inr (.inr (.inl e))))).2; omega)
  have HU12 := Lib.hid (ownsRow_chg HU8.out hc812 fun k hk e => by have h1 := (HU8.out.lt k hk).1; have := (HOL.out k (.inr (.inr (.inr (.inl e))))).2; have := HS.out; omega)
  have HC12 := Lib.hid (HC8.out.same (hc812.mono fun k e => .inr (.inr (.inr (.inl e)))))
  clear hg hc hb12 hc812 c0 c1 c2 c3 c4 hl y0 y1 y2 y3 y4 yl nA nAq
  obtain ⟨x0, x1, x2, x3, x4⟩ := HZ12.out.cells
  have z0 := HZ12.out.fz 0; have z1 := HZ12.out.fz 1; have z2 := HZ12.out.fz 2; have z3 := HZ12.out.fz 3; have z4 := HZ12.out.fz 4
  have z5 := HZ12.out.lt
  obtain ⟨y0, y1, y2, y3, y4⟩ := HX12.out.cells
  have yl := HX12.out.lt
  have HK13 := Lib.hid (HZ12.out.set5 yi yf ya (.slice ua m uc) yu)
  have HC13 := Lib.hid (w5_chg w12 b yi yf ya (.slice ua m uc) yu)
  go_wp2
  refine bodyPost_ret (res_of Try.results35 rfl HK13.out) rfl ?_
  have hbq := HBQ.out; have hs := HS.out
  have hT := H0.out.close (w' := w12) HN.out (by rw [HP12.out.obj, H0.out.obj]) HC12.out.size HP12.out.map (by have := HP12.out.fr; rw [← HYK.out] at this; exact this) (by have := HP12.out.ag; rw [← HYK.out] at this; exact this) HP12.out.vec
  refine ⟨_, rfl, ?_, ?_, ?_⟩
  · rw [HBQ.out]
    exact ownsRow_base (ownsRow_chg HU12.out HC13.out fun k hk e => by have h1 := (HU12.out.lt k hk).1; have e : k = b := e; omega) (by omega)
  · exact hT.chg HC13.out fun k hk e => by have h1 := (HOL.out k (by
      rcases hk with e | e | e | e | ⟨x, hx, e⟩
      · exact .inl e
      · exact .inr (.inl e)
      · exact .inr (.inr (.inl e))
      · exact .inr (.inr (.inr (.inl e)))
      · exact .inr (.inr (.inr (.inr ⟨x, (Srt.mem_del.1 hx).1, e⟩))))).2; have e : k = b := e; omega
  · exact HC12.out.trans HC13.out fun k e => .inr (by have e : k = b := e; omega)
end
end Go.Proofs.Ytnckjacbkhoppaa

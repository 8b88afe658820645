/- filters: copied, and whether an equal filter is there. -/
import Derived.Test.YtennhfkhdfalfaaFi4
import Derived.Deep.DeepCutAuto
namespace Go.Proofs.Ytennhfkhdfalfaa
open Go.RowKit Go.Maps
attribute [local go_sem] ext_cell ext_frozen extC_cell extC_frozen Mix.calmUpon Mix.mUpon
section
variable {w w' : World} {b : Nat} {i f a : Int} {v : Value}
theorem FB.fz (h : FB w b i f a v) (o : Nat) : w.frozen? ⟨b, o, none⟩ = false := by unfold FB at h; simp [World.frozen?, h]
theorem FB.setv (h : FB w b i f a v) (v' : Value) : FB (w.setCell ⟨b, 3, none⟩ v') b i f a v' := heap_setCell_at v' h
theorem FB.set4 (h : FB w b i f a v) (i' f' a' : Int) (v' : Value) : FB ((((w.setCell ⟨b, 0, none⟩ (.int .i64 i')).setCell ⟨b, 1, none⟩ (.int .i64 f')).setCell ⟨b, 2, none⟩ (.int .i64 a')).setCell ⟨b, 3, none⟩ v') b i' f' a' v' := heap_setCell_at _ (heap_setCell_at _ (heap_setCell_at _ (heap_setCell_at _ h)))
theorem FB.load (h : FB w b i f a v) : (loadVar 72 ⟨b, 0, none⟩).run Try.prog w = .ok (.agg #[.int .i64 i, .int .i64 f, .int .i64 a, v]) w := by
  obtain ⟨h0, h1, h2, h3⟩ := h.cells
  have hs := h.lt
  simp [go_sem, h0, h1, h2, h3, hs]
theorem res_fb {fn : Func} {tmps : Array Value} {p : Nat} (h : fn.results = #[.cell p 72]) (hp : tmps.getD p undef = .pointer (some ⟨b, 0, none⟩)) (hb : FB w b i f a v) :
    (results fn tmps).run Try.prog w = .ok (.agg #[.int .i64 i, .int .i64 f, .int .i64 a, v]) w := by
  simp only [results, h]
  have hp' : tmps[p]?.getD undef = .pointer (some ⟨b, 0, none⟩) := by simpa [Array.getD_eq_getD_getElem?] using hp
  simp [Sem.run_bind, Result.andThen, asAddr, hp', hb.load]
end
set_option maxRecDepth 100000 in
set_option maxHeartbeats 1000000 in
theorem fcopied (x : Fl) (w : World) (hx : Vc w x.vv x.ps) (hl : x.ps.length < 1000000) : Calls Try.prog 84 #[flval x] w fun e w' => ∃ u, e = .returned (flval { x with vv := u }) ∧ OwnP w' w.heap.size u x.ps ∧ Below w.heap.size w w' := by
  obtain ⟨i, g, t, v, ps⟩ := x
  obtain ⟨va, vc, hvv, -, -⟩ := hx.form
  simp only at hvv hx hl
  subst hvv
  have hb1 := ba (Below.refl w.heap.size w) (.cells #[.int .i64 i, .int .i64 g, .int .i64 t, .slice va ps.length vc] 72)
  have hb2 := ba hb1 (.cells #[.int .i64 0, .int .i64 0, .int .i64 0, .slice none 0 0] 72)
  have HX := Lib.hid ((FB.made w i g t (.slice va ps.length vc)).below (ba (Below.refl _ _) (.cells #[.int .i64 0, .int .i64 0, .int .i64 0, .slice none 0 0] 72)))
  have hy := FB.made (w.alloc (.cells #[.int .i64 i, .int .i64 g, .int .i64 t, .slice va ps.length vc] 72)) 0 0 0 (.slice none 0 0)
  rw [show (w.alloc (.cells #[.int .i64 i, .int .i64 g, .int .i64 t, .slice va ps.length vc] 72)).heap.size = w.heap.size + 1 by simp] at hy
  have HY := Lib.hid hy
  have HB := Lib.hid hb2
  have HV := Lib.hid (hx.on hb2)
  have HL := Lib.hid hl
  clear hb1 hb2 hx hy hl
  go_enter Try.func84, Try.ntmps84
  go_wp2_with fail
  generalize (w.alloc (.cells #[.int .i64 i, .int .i64 g, .int .i64 t, .slice va ps.length vc] 72)).alloc (.cells #[.int .i64 0, .int .i64 0, .int .i64 0, .slice none 0 0] 72) = w1 at *
  obtain ⟨b, hbq⟩ : ∃ b, b = w.heap.size := ⟨_, rfl⟩
  rw [← hbq] at HX HY HB ⊢
  have HBQ := Lib.hid hbq
  clear hbq
  refine (vcopy_any (.slice va ps.length vc) ps HL.out w1 HV.out).mono ?_
  rintro e w2 ⟨u, rfl, hu, hb⟩
  obtain ⟨ua, uc, huv, -, -⟩ := hu.vc.form
  subst huv
  have HU := Lib.hid hu
  have hx2 := HX.out.below hb
  have hy2 := HY.out.below hb
  have HX2 := Lib.hid (hx2.setv (.slice ua ps.length uc))
  obtain ⟨x0, x1, x2, x3⟩ := hx2.cells
  have x4 := hx2.lt
  have x5 := hx2.fz 3
  have HW := Lib.hid (show Below b w w2 from HB.out.trans (hb.mono (by have := HX.out.lt; omega)))
  have HS := Lib.hid (show b + 1 < w1.heap.size from HY.out.lt)
  have hne : b ≠ b + 1 := by omega
  have HY2 := Lib.hid ((show FB (w2.setCell ⟨b, 3, none⟩ (.slice ua ps.length uc)) (b + 1) 0 0 0 (.slice none 0 0) from by
    have := hy2
    unfold FB at this ⊢
    rw [← this]
    exact ((Chg.refl (fun k => k = b) w2).setCell (p := ⟨b, 3, none⟩) (.inl rfl) _).block (b + 1) hy2.lt (by omega)))
  clear hx2 hy2 hu hb
  go_upto_region 2 with (fail)
  clear x0 x1 x2 x3 x4 x5
  have HC3 := Lib.hid ((Chg.refl (fun k => k = b) w2).setCell (p := ⟨b, 3, none⟩) (.inl rfl) (.slice ua ps.length uc))
  generalize w2.setCell ⟨b, 3, none⟩ (.slice ua ps.length uc) = w3 at *
  obtain ⟨x0, x1, x2, x3⟩ := HX2.out.cells
  have x4 := HX2.out.lt
  obtain ⟨y0, y1, y2, y3⟩ := HY2.out.cells
  have y4 := HY2.out.lt
  have z0 := HY2.out.fz 0; have z1 := HY2.out.fz 1; have z2 := HY2.out.fz 2; have z3 := HY2.out.fz 3
  have HR := Lib.hid (HY2.out.set4 i g t (.slice ua ps.length uc))
  have HC4 := Lib.hid (show Chg (fun k => k = b + 1) w3 ((((w3.setCell ⟨b + 1, 0, none⟩ (.int .i64 i)).setCell ⟨b + 1, 1, none⟩ (.int .i64 g)).setCell ⟨b + 1, 2, none⟩ (.int .i64 t)).setCell ⟨b + 1, 3, none⟩ (.slice ua ps.length uc)) from
    ((((Chg.refl (fun k => k = b + 1) w3).setCell (p := ⟨b + 1, 0, none⟩) (.inl rfl) _).setCell (p := ⟨b + 1, 1, none⟩) (.inl rfl) _).setCell (p := ⟨b + 1, 2, none⟩) (.inl rfl) _).setCell (p := ⟨b + 1, 3, none⟩) (.inl rfl) _)
  go_wp2
  refine bodyPost_ret (res_fb Try.results84 rfl HR.out) rfl ?_
  have h2 : ∀ q, (Value.slice ua ps.length uc).ownBlock = some q → w1.heap.size ≤ q := fun q hq => (HU.out.lt q hq).1
  have hs := HS.out
  refine ⟨_, rfl, ?_, ?_⟩
  · have h3 := ownsRow_chg HU.out HC3.out fun q hq => by have := h2 q hq; show ¬ q = b; omega
    have h4 := ownsRow_chg h3 HC4.out fun q hq => by have := h2 q hq; show ¬ q = b + 1; omega
    exact ownsRow_base h4 (by have := HBQ.out; omega)
  · rw [← HBQ.out]
    have h3 := HC3.out.below (B := b) (by have := HW.out.size; have := HBQ.out; omega) fun k e => by rw [e]; exact Nat.le_refl _
    have h4 := HC4.out.below (B := b) (by have := h3.size; have := HW.out.size; have := HBQ.out; omega) fun k e => by rw [e]; omega
    exact HW.out.trans (h3.trans h4)
set_option maxRecDepth 100000 in
theorem fput1 {W : World} {b : Nat} (x : Fl) (hb : FB W b x.fr x.ag x.ti x.vv) (hx : Vc W x.vv x.ps) (y : Fl) (hy : Vc W y.vv y.ps) :
    Calls Try.prog 92 #[flval y, fptr b] W fun e w' => e = .returned (.bool (decide (x.pl = y.pl))) ∧ Below W.heap.size W w' := by
  have hd : decide (x.pl = y.pl) = (ford x.pl y.pl == 0) := by
    rw [Bool.eq_iff_iff, decide_eq_true_eq, beq_iff_eq]; exact (ford_zero _ _).symm
  rw [hd]
  obtain ⟨i, g, t, v, ps⟩ := x
  obtain ⟨i', g', t', u, us⟩ := y
  obtain ⟨va, vc, hvv, -, -⟩ := hx.form
  obtain ⟨ua, uc, huv, -, -⟩ := hy.form
  simp only at huv hvv hy hx hb
  subst huv hvv
  have hb1 := ba (Below.refl W.heap.size W) (.cells #[.int .i64 i', .int .i64 g', .int .i64 t', .slice ua us.length uc] 72)
  have HF := Lib.hid (FB.made W i' g' t' (.slice ua us.length uc))
  have HB := Lib.hid hb1
  have HH := Lib.hid (forder ⟨i, g, t, .slice va ps.length vc, ps⟩ ⟨i', g', t', .slice ua us.length uc, us⟩ _ (hx.on hb1) (hy.on hb1))
  obtain ⟨z0, z1, z2, z3⟩ := (hb.below hb1).cells
  have z4 := (hb.below hb1).lt
  obtain ⟨x0, x1, x2, x3⟩ := HF.out.cells
  have x4 := HF.out.lt
  generalize ford (i, g, t, ps) (i', g', t', us) = r at *
  clear hx hy hb hb1 hd
  go_enter Try.func92, Try.ntmps92
  go_wp2_with fail
  refine HH.out.mono ?_
  rintro e w1 ⟨rfl, hb⟩
  have HB1 := Lib.hid (bt HB.out hb.1)
  clear hb
  go_wp2
  go_ret
  exact ⟨rfl, HB1.out⟩
end Go.Proofs.Ytennhfkhdfalfaa

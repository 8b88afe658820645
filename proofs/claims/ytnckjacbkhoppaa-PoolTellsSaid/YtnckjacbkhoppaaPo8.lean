/- pool: the walks of Events, and of PoolTells. -/
import Derived.Test.YtnckjacbkhoppaaPo7
namespace Go.Proofs.Ytnckjacbkhoppaa
open Go.RowKit Go.Maps
attribute [local go_sem] ext_cell ext_frozen extC_cell extC_frozen Mix.calmUpon Mix.mUpon
/-- A list of events that a call answers. -/
def RetV (w : World) (P : List Pe) (e : Ending) (w' : World) : Prop := ∃ v l, e = .returned v ∧ EL w' v l ∧ l.map Ev.pl = P ∧ Below w.heap.size w w'
set_option maxRecDepth 100000 in
set_option maxHeartbeats 4000000 in
theorem rEvents_any {W : World} {ov : Value} {l : List Po} (f g : Int) (hO : OL W ov l) (hl : l.length < 900000) (hG : ∀ x ∈ l, x.ps.length < 1000000) : Calls Try.prog 16 #[.int .i64 f, .int .i64 g, ov] W (RetV W (evsOf f g (l.map Po.pl))) := by
  have HVV := Lib.hid hO.vec; have HOG := Lib.hid hG
  obtain ⟨a, n, c, rfl, hn, hc, hm, hat⟩ := hO.rs.at_
  have hn9 : n ≤ 9223372036854775807 := by unfold maxLen at hm; omega
  have HN := Lib.hid hn; have HAT := Lib.hid hat; have HLL := Lib.hid hl
  clear hO hn hat hm hc hl hG
  go_enter Try.func16, Try.ntmps16
  go_wp2
  go_loopw [7, 8] (fun lv iv wr => ∃ (t : Nat) (C : List Ev), t ≤ n ∧ iv = .int .i64 t ∧ Hid (EG W wr lv C ∧ C.map Ev.pl = evsOf f g ((l.take t).map Po.pl))) (fun _ iv _ => n - (intOf iv).toNat)
  case atStart => exact ⟨0, [], Nat.zero_le _, rfl, Lib.hid ⟨⟨OwnL.nil _ _ _ _ _, (fun x hx => by cases hx), Below.refl _ _⟩, rfl⟩⟩
  case round =>
    obtain ⟨t, C, ht, rfl, HQ⟩ := hrel
    obtain ⟨w1, rfl⟩ : ∃ w1, w1 = wr := ⟨_, rfl⟩
    have HCL := Lib.hid (show C.length < 900000 from by
      have h1 := congrArg List.length HQ.out.2
      rw [List.length_map] at h1
      have h2 : (evsOf f g ((l.take t).map Po.pl)).length ≤ ((l.take t).map Po.pl).length := List.length_filterMap_le _ _
      rw [List.length_map, List.length_take] at h2
      have := HLL.out; omega)
    by_cases hlt : t < n
    · have hts : (t : Int) < (n : Int) := by omega
      obtain ⟨x, hx⟩ := at_lt (l := l) (i := t) (by rw [← HN.out]; exact hlt)
      have htk := evs_take (f := f) (g := g) hx
      obtain ⟨b, off, rfl, hb, hcell⟩ := HAT.out t x hx
      have d0 := (HQ.out.1.bel.cell (p := ⟨b, _, none⟩) hb).trans (hcell 0 _ rfl)
      have d1 := (HQ.out.1.bel.cell (p := ⟨b, _, none⟩) hb).trans (hcell 1 _ rfl)
      have d2 := (HQ.out.1.bel.cell (p := ⟨b, _, none⟩) hb).trans (hcell 2 _ rfl)
      simp only [Nat.add_zero] at d0
      have q0 : b < w1.heap.size := Nat.lt_of_lt_of_le hb HQ.out.1.bel.size
      have hv := HVV.out x (mem_at hx)
      have hxl := HOG.out x (mem_at hx)
      obtain ⟨xk, xi, xv, xs⟩ := x
      obtain ⟨va, vc, hvv, -, -⟩ := hv.form
      simp only at hvv d0 d1 d2 hv hxl
      subst hvv
      clear hxl
      by_cases k1 : xk = 1
      · have k1b : (xk == 1) = true := by simp [k1]
        have HT := Lib.hid (show evsOf f g ((l.take (t + 1)).map Po.pl) = evsOf f g ((l.take t).map Po.pl) ++ [(13, f, xi, g, xs)] from by rw [htk]; simp [evOf, Po.pl, k1])
        clear htk
        have HT2 := Lib.hid (show (C ++ [(⟨13, f, xi, g, .slice va xs.length vc, xs⟩ : Ev)]).map Ev.pl = evsOf f g ((l.take (t + 1)).map Po.pl) from by
          rw [HT.out, List.map_append, HQ.out.2]
          congr 1)
        have e1 : (w1.alloc (.cells #[.int .i64 xk, .int .i64 xi, .slice va xs.length vc] 40)).heap.size = w1.heap.size + 1 := by simp
        have hb1 := ba (Below.refl w1.heap.size w1) (.cells #[.int .i64 xk, .int .i64 xi, .slice va xs.length vc] 40)
        have hb2 := ba hb1 (.cells #[.int .i64 13, .int .i64 f, .int .i64 xi, .int .i64 g, .slice va xs.length vc] 28)
        have hvb := VB.made (w1.alloc (.cells #[.int .i64 xk, .int .i64 xi, .slice va xs.length vc] 40)) 13 f xi g (.slice va xs.length vc)
        rw [e1] at hvb
        obtain ⟨v2, w6, hra, hg6⟩ := HQ.out.1.add (by have := HCL.out; omega) hb2 ⟨13, f, xi, g, .slice va xs.length vc, xs⟩ hvb rfl (.inl hv)
        have HRA := Lib.hid hra; have HG6 := Lib.hid hg6
        clear e1 hb1 hb2 hvb hra hg6 hv hcell hx hb k1
        generalize xs.length = xn at *
        go_wp2_with (at_builtin; refine wpList_app_run rfl _ _ _ rfl rfl rfl HRA.out ?_)
        go_roundw
        case rel => exact ⟨t + 1, _, by omega, by go_num, Lib.hid ⟨HG6.out, HT2.out⟩⟩
        case measure => simp [intOf]; omega
      · have k1b : (xk == 1) = false := by simp [k1]
        by_cases k2 : xk = 2
        · have k2b : (xk == 2) = true := by simp [k2]
          have HT := Lib.hid (show evsOf f g ((l.take (t + 1)).map Po.pl) = evsOf f g ((l.take t).map Po.pl) ++ [(18, f, 0, g, xs)] from by rw [htk]; simp [evOf, Po.pl, k2])
          clear htk k1
          have HT2 := Lib.hid (show (C ++ [(⟨18, f, 0, g, .slice va xs.length vc, xs⟩ : Ev)]).map Ev.pl = evsOf f g ((l.take (t + 1)).map Po.pl) from by
            rw [HT.out, List.map_append, HQ.out.2]
            congr 1)
          have e1 : (w1.alloc (.cells #[.int .i64 xk, .int .i64 xi, .slice va xs.length vc] 40)).heap.size = w1.heap.size + 1 := by simp
          have hb1 := ba (Below.refl w1.heap.size w1) (.cells #[.int .i64 xk, .int .i64 xi, .slice va xs.length vc] 40)
          have hb2 := ba hb1 (.cells #[.int .i64 18, .int .i64 f, .int .i64 0, .int .i64 g, .slice va xs.length vc] 28)
          have hvb := VB.made (w1.alloc (.cells #[.int .i64 xk, .int .i64 xi, .slice va xs.length vc] 40)) 18 f 0 g (.slice va xs.length vc)
          rw [e1] at hvb
          obtain ⟨v2, w6, hra, hg6⟩ := HQ.out.1.add (by have := HCL.out; omega) hb2 ⟨18, f, 0, g, .slice va xs.length vc, xs⟩ hvb rfl (.inl hv)
          have HRA := Lib.hid hra; have HG6 := Lib.hid hg6
          clear e1 hb1 hb2 hvb hra hg6 hv hcell hx hb k2
          generalize xs.length = xn at *
          go_wp2_with (at_builtin; refine wpList_app_run rfl _ _ _ rfl rfl rfl HRA.out ?_)
          go_roundw
          case rel => exact ⟨t + 1, _, by omega, by go_num, Lib.hid ⟨HG6.out, HT2.out⟩⟩
          case measure => simp [intOf]; omega
        · have k2b : (xk == 2) = false := by simp [k2]
          by_cases k3 : xk = 3
          · have k3b : (xk == 3) = true := by simp [k3]
            have HT := Lib.hid (show evsOf f g ((l.take (t + 1)).map Po.pl) = evsOf f g ((l.take t).map Po.pl) ++ [(19, f, 0, g, xs)] from by rw [htk]; simp [evOf, Po.pl, k3])
            clear htk k1 k2
            have HT2 := Lib.hid (show (C ++ [(⟨19, f, 0, g, .slice va xs.length vc, xs⟩ : Ev)]).map Ev.pl = evsOf f g ((l.take (t + 1)).map Po.pl) from by
              rw [HT.out, List.map_append, HQ.out.2]
              congr 1)
            have e1 : (w1.alloc (.cells #[.int .i64 xk, .int .i64 xi, .slice va xs.length vc] 40)).heap.size = w1.heap.size + 1 := by simp
            have hb1 := ba (Below.refl w1.heap.size w1) (.cells #[.int .i64 xk, .int .i64 xi, .slice va xs.length vc] 40)
            have hb2 := ba hb1 (.cells #[.int .i64 19, .int .i64 f, .int .i64 0, .int .i64 g, .slice va xs.length vc] 28)
            have hvb := VB.made (w1.alloc (.cells #[.int .i64 xk, .int .i64 xi, .slice va xs.length vc] 40)) 19 f 0 g (.slice va xs.length vc)
            rw [e1] at hvb
            obtain ⟨v2, w6, hra, hg6⟩ := HQ.out.1.add (by have := HCL.out; omega) hb2 ⟨19, f, 0, g, .slice va xs.length vc, xs⟩ hvb rfl (.inl hv)
            have HRA := Lib.hid hra; have HG6 := Lib.hid hg6
            clear e1 hb1 hb2 hvb hra hg6 hv hcell hx hb k3
            generalize xs.length = xn at *
            go_wp2_with (at_builtin; refine wpList_app_run rfl _ _ _ rfl rfl rfl HRA.out ?_)
            go_roundw
            case rel => exact ⟨t + 1, _, by omega, by go_num, Lib.hid ⟨HG6.out, HT2.out⟩⟩
            case measure => simp [intOf]; omega
          · have k3b : (xk == 3) = false := by simp [k3]
            have HT := Lib.hid (show C.map Ev.pl = evsOf f g ((l.take (t + 1)).map Po.pl) from by rw [htk, HQ.out.2]; simp [evOf, Po.pl, k1, k2, k3])
            have HG6 := Lib.hid (HQ.out.1.on (ba (Below.refl _ _) (.cells #[.int .i64 xk, .int .i64 xi, .slice va xs.length vc] 40)))
            clear htk k1 k2 k3 hv hcell hx hb
            generalize xs.length = xn at *
            go_wp2
            go_roundw
            case rel => exact ⟨t + 1, C, by omega, by go_num, Lib.hid ⟨HG6.out, HT.out⟩⟩
            case measure => simp [intOf]; omega
    · obtain rfl : n = t := by omega
      have HR := Lib.hid (show RetV W (evsOf f g (l.map Po.pl)) (.returned u7) w1 from ⟨_, C, rfl, HQ.out.1.el, by rw [HQ.out.2, HN.out, List.take_length], HQ.out.1.bel⟩)
      go_wp2
      go_ret
      exact HR.out
set_option maxRecDepth 100000 in
set_option maxHeartbeats 4000000 in
theorem pEvents_any {W : World} {ov : Value} {l : List Po} (f g : Int) (hO : OL W ov l) (hl : l.length < 900000) (hG : ∀ x ∈ l, x.ps.length < 1000000) : Calls Try.prog 18 #[.int .i64 f, .int .i64 g, ov] W (RetV W (evsOf f g (l.map Po.pl))) := by
  have HVV := Lib.hid hO.vec; have HOG := Lib.hid hG
  obtain ⟨a, n, c, rfl, hn, hc, hm, hat⟩ := hO.rs.at_
  have hn9 : n ≤ 9223372036854775807 := by unfold maxLen at hm; omega
  have HN := Lib.hid hn; have HAT := Lib.hid hat; have HLL := Lib.hid hl
  clear hO hn hat hm hc hl hG
  go_enter Try.func18, Try.ntmps18
  go_wp2
  go_loopw [7, 13] (fun lv iv wr => ∃ (t : Nat) (C : List Ev), t ≤ n ∧ iv = .int .i64 t ∧ Hid (EG W wr lv C ∧ C.map Ev.pl = evsOf f g ((l.take t).map Po.pl))) (fun _ iv _ => n - (intOf iv).toNat)
  case atStart => exact ⟨0, [], Nat.zero_le _, rfl, Lib.hid ⟨⟨OwnL.nil _ _ _ _ _, (fun x hx => by cases hx), Below.refl _ _⟩, rfl⟩⟩
  case round =>
    obtain ⟨t, C, ht, rfl, HQ⟩ := hrel
    obtain ⟨w1, rfl⟩ : ∃ w1, w1 = wr := ⟨_, rfl⟩
    have HCL := Lib.hid (show C.length < 900000 from by
      have h1 := congrArg List.length HQ.out.2
      rw [List.length_map] at h1
      have h2 : (evsOf f g ((l.take t).map Po.pl)).length ≤ ((l.take t).map Po.pl).length := List.length_filterMap_le _ _
      rw [List.length_map, List.length_take] at h2
      have := HLL.out; omega)
    by_cases hlt : t < n
    · have hts : (t : Int) < (n : Int) := by omega
      obtain ⟨x, hx⟩ := at_lt (l := l) (i := t) (by rw [← HN.out]; exact hlt)
      have htk := evs_take (f := f) (g := g) hx
      obtain ⟨b, off, rfl, hb, hcell⟩ := HAT.out t x hx
      have d0 := (HQ.out.1.bel.cell (p := ⟨b, _, none⟩) hb).trans (hcell 0 _ rfl)
      have d1 := (HQ.out.1.bel.cell (p := ⟨b, _, none⟩) hb).trans (hcell 1 _ rfl)
      have d2 := (HQ.out.1.bel.cell (p := ⟨b, _, none⟩) hb).trans (hcell 2 _ rfl)
      simp only [Nat.add_zero] at d0
      have q0 : b < w1.heap.size := Nat.lt_of_lt_of_le hb HQ.out.1.bel.size
      have hv := HVV.out x (mem_at hx)
      have hxl := HOG.out x (mem_at hx)
      obtain ⟨xk, xi, xv, xs⟩ := x
      obtain ⟨va, vc, hvv, -, -⟩ := hv.form
      simp only at hvv d0 d1 d2 hv hxl
      subst hvv
      have hb2 := ba (Below.refl w1.heap.size w1) (.cells #[.int .i64 xk, .int .i64 xi, .slice va xs.length vc] 40)
      have HPB := Lib.hid (PB.made w1 xk xi (.slice va xs.length vc))
      have HB2 := Lib.hid hb2
      have HCP := Lib.hid (vcopy_any (.slice va xs.length vc) xs hxl _ (hv.on (bt HQ.out.1.bel hb2)))
      clear hcell hx hb hv hxl hb2
      obtain ⟨m, hmq⟩ : ∃ m, m = xs.length := ⟨_, rfl⟩
      rw [← hmq] at d2 HPB HB2 HCP
      have HMQ := Lib.hid hmq
      clear hmq
      go_wp2_with fail
      generalize w1.alloc (.cells #[.int .i64 xk, .int .i64 xi, .slice va m vc] 40) = w2 at *
      obtain ⟨bx, hbx⟩ : ∃ k, k = w1.heap.size := ⟨_, rfl⟩
      rw [← hbx] at HPB ⊢
      have HBX := Lib.hid hbx
      clear hbx d0 d1 d2 q0
      refine HCP.out.mono ?_
      rintro e w3 ⟨u, rfl, hu, hb3⟩
      obtain ⟨ua, uc, rfl, -, -⟩ := hu.vc.form
      rw [← HMQ.out] at hu ⊢
      have hb4 := ba (Below.refl w3.heap.size w3) (.cells #[.int .i64 0, .int .i64 f, .int .i64 0, .int .i64 g, .slice ua m uc] 28)
      have HVE := Lib.hid (VB.made w3 0 f 0 g (.slice ua m uc))
      have HB14 := Lib.hid (bt HB2.out (bt hb3 hb4))
      have HUL := Lib.hid (show ∀ k, Value.ownBlock (.slice ua m uc) = some k → k < w3.heap.size from fun k hk => (hu.lt k hk).2)
      have HU4 := Lib.hid (ownsRow_base (base' := w1.heap.size) (ownsRow_chg hu (.of_below (fun _ => False) hb4) fun _ _ => id) HB2.out.size)
      have HP4 := Lib.hid (HPB.out.below (bt hb3 hb4))
      have HS3 := Lib.hid hb3.size
      clear hu hb3 hb4
      obtain ⟨w4, hw4⟩ : ∃ u, w3.alloc (.cells #[.int .i64 0, .int .i64 f, .int .i64 0, .int .i64 g, .slice ua m uc] 28) = u := ⟨_, rfl⟩
      obtain ⟨eb, heb⟩ : ∃ u, w3.heap.size = u := ⟨_, rfl⟩
      rw [hw4] at HVE HB14 HU4 HP4
      rw [heb] at HVE HUL
      have HEB := Lib.hid (show w1.heap.size < eb from by have := HB2.out.size; have := HPB.out.lt; have := HBX.out; have := HS3.out; omega)
      obtain ⟨p0, p1, p2⟩ := HP4.out.cells
      have p3 := HP4.out.lt
      obtain ⟨m0, m1, m2, m3, m4⟩ := HVE.out.cells
      have m5 := HVE.out.lt
      have o0 := HVE.out.fz 0; have o1 := HVE.out.fz 2
      by_cases k1 : xk = 1
      · have k1b : (xk == 1) = true := by simp [k1]
        have HT := Lib.hid (show evsOf f g ((l.take (t + 1)).map Po.pl) = evsOf f g ((l.take t).map Po.pl) ++ [(13, f, xi, g, xs)] from by rw [htk]; simp [evOf, Po.pl, k1])
        clear htk k1
        go_wp2
        have nb1 : bx ≠ eb := by have := HEB.out; have := HBX.out; omega
        refine Mix.regionC (fun k => k = eb) (by kernel_rfl) ?_
        intro w5 hb5
        refine Mix.take_exC _ _ 0 rfl (by kernel_rfl) (by kernel_rfl) (by kernel_rfl) (by kernel_rfl) (fun K hK => ?_)
        go_simp
        first | (refine hK _ ?_; clear hK K) | (apply Exists.intro; refine ⟨fun x => ?_, hK _ ?_⟩; (fail); clear hK K)
        refine Mix.take_exC _ _ 1 rfl (by kernel_rfl) (by kernel_rfl) (by kernel_rfl) (by kernel_rfl) (fun K hK => ?_)
        go_simp
        first | (refine hK _ ?_; clear hK K) | (apply Exists.intro; refine ⟨fun x => ?_, hK _ ?_⟩; (fail); clear hK K)
        refine Mix.take_exC _ _ 2 rfl (by kernel_rfl) (by kernel_rfl) (by kernel_rfl) (by kernel_rfl) (fun K hK => ?_)
        go_simp
        first | (refine hK _ ?_; clear hK K) | (apply Exists.intro; refine ⟨fun x => ?_, hK _ ?_⟩; (fail); clear hK K)
        refine Mix.all (rs := [3]) (by kernel_rfl) (by simp) (.of_below _ hb5) ?_
        intro i6 hi6 w6 hb6 hC6
        simp only [List.mem_cons, List.not_mem_nil, or_false] at hi6
        subst hi6
        have HV6 := Lib.hid (HVE.out.below (bt hb5 hb6))
        have HC6 := Lib.hid (show Chg (fun k => k = eb) w4 w6 from .of_below _ (bt hb5 hb6))
        clear hC6 hb5 hb6 m0 m1 m2 m3 m4 m5 o0 o1
        obtain ⟨m0, m1, m2, m3, m4⟩ := HV6.out.cells
        have o0 := HV6.out.fz 0
        have m5 := HV6.out.lt
        refine Mix.op rfl (by kernel_rfl) ?_
        go_simp
        have HC7 := Lib.hid (HC6.out.setCell (p := ⟨eb, 0, none⟩) (.inl rfl) (.int .i64 13))
        have HV7 := Lib.hid (HV6.out.set0 13)
        generalize w6.setCell ⟨eb, 0, none⟩ (.int .i64 13) = w7 at *
        clear m0 m1 m2 m3 m4 m5 o0
        obtain ⟨m0, m1, m2, m3, m4⟩ := HV7.out.cells
        have m5 := HV7.out.lt
        refine Mix.take_exC _ _ 4 rfl (by kernel_rfl) (by kernel_rfl) (by kernel_rfl) (by kernel_rfl) (fun K hK => ?_)
        go_simp
        first | (refine hK _ ?_; clear hK K) | (apply Exists.intro; refine ⟨fun x => ?_, hK _ ?_⟩; (fail); clear hK K)
        refine Mix.all (rs := [5]) (by kernel_rfl) (by simp) (HC7.out) ?_
        intro i8 hi8 w8 hb8 hC8
        simp only [List.mem_cons, List.not_mem_nil, or_false] at hi8
        subst hi8
        have HC8 := Lib.hid (HC7.out.then_below hb8)
        have HV8 := Lib.hid (HV7.out.below hb8)
        clear hC8 hb8 m0 m1 m2 m3 m4 m5
        obtain ⟨m0, m1, m2, m3, m4⟩ := HV8.out.cells
        have o1 := HV8.out.fz 2
        have m5 := HV8.out.lt
        refine Mix.op rfl (by kernel_rfl) ?_
        go_simp
        have HC9 := Lib.hid (HC8.out.setCell (p := ⟨eb, 2, none⟩) (.inl rfl) (.int .i64 xi))
        have HV9 := Lib.hid (HV8.out.set2 xi)
        generalize w8.setCell ⟨eb, 2, none⟩ (.int .i64 xi) = w9 at *
        clear m0 m1 m2 m3 m4 m5 o1
        refine Mix.done (by kernel_rfl) HC9.out ?_
        intro w10 hb10
        have HC5 := Lib.hid (HC9.out.then_below hb10)
        have HVB5 := Lib.hid (HV9.out.below hb10)
        clear hb10 p0 p1 p2 p3
        have HB15 := Lib.hid (show Below w1.heap.size w1 w10 from HB14.out.trans (HC5.out.below HB14.out.size fun k e => by have e : k = eb := e; have := HEB.out; omega))
        have HU5 := Lib.hid (ownsRow_chg HU4.out HC5.out fun k hk e => by have e : k = eb := e; have := (HU4.out.lt k hk).2; have := HUL.out k hk; omega)
        have HT2 := Lib.hid (show (C ++ [(⟨13, f, xi, g, .slice ua m uc, xs⟩ : Ev)]).map Ev.pl = evsOf f g ((l.take (t + 1)).map Po.pl) from by
          rw [HT.out, List.map_append, HQ.out.2]
          congr 1)
        have hb6 := ba (Below.refl w10.heap.size w10) (.cells #[.int .i64 13, .int .i64 f, .int .i64 xi, .int .i64 g, .slice ua m uc] 28)
        obtain ⟨v2, w7, hra, hg7⟩ := HQ.out.1.add (by have := HCL.out; omega) (bt HB15.out hb6) ⟨13, f, xi, g, .slice ua m uc, xs⟩ (VB.made w10 13 f xi g (.slice ua m uc)) rfl (.inr (ownsRow_chg HU5.out (.of_below (fun _ => False) hb6) fun _ _ => id))
        have HRA := Lib.hid hra; have HG7 := Lib.hid hg7
        obtain ⟨y0, y1, y2, y3, y4⟩ := HVB5.out.cells
        have y5 := HVB5.out.lt
        clear hb6 hra hg7
        go_wp2_with (at_builtin; refine wpList_app_run rfl _ _ _ rfl rfl rfl HRA.out ?_)
        go_roundw
        case rel => exact ⟨t + 1, _, by omega, by go_num, Lib.hid ⟨HG7.out, HT2.out⟩⟩
        case measure => simp [intOf]; omega
      · have k1b : (xk == 1) = false := by simp [k1]
        by_cases k2 : xk = 2
        · have k2b : (xk == 2) = true := by simp [k2]
          have HT := Lib.hid (show evsOf f g ((l.take (t + 1)).map Po.pl) = evsOf f g ((l.take t).map Po.pl) ++ [(18, f, 0, g, xs)] from by rw [htk]; simp [evOf, Po.pl, k2])
          clear htk k1 k2
          have HC5 := Lib.hid (show Chg (fun k => k = eb) w4 (w4.setCell ⟨eb, 0, none⟩ (.int .i64 18)) from (Chg.refl (fun k => k = eb) w4).setCell (p := ⟨eb, 0, none⟩) (.inl rfl) _)
          have HVB5 := Lib.hid (HVE.out.set0 18)
          have HB15 := Lib.hid (show Below w1.heap.size w1 (w4.setCell ⟨eb, 0, none⟩ (.int .i64 18)) from HB14.out.trans (HC5.out.below HB14.out.size fun k e => by have e : k = eb := e; have := HEB.out; omega))
          have HU5 := Lib.hid (ownsRow_chg HU4.out HC5.out fun k hk e => by have e : k = eb := e; have := (HU4.out.lt k hk).2; have := HUL.out k hk; omega)
          obtain ⟨w5, hw5⟩ : ∃ u, w4.setCell ⟨eb, 0, none⟩ (.int .i64 18) = u := ⟨_, rfl⟩
          rw [hw5] at HC5 HVB5 HB15 HU5
          have HT2 := Lib.hid (show (C ++ [(⟨18, f, 0, g, .slice ua m uc, xs⟩ : Ev)]).map Ev.pl = evsOf f g ((l.take (t + 1)).map Po.pl) from by
            rw [HT.out, List.map_append, HQ.out.2]
            congr 1)
          have hb6 := ba (Below.refl w5.heap.size w5) (.cells #[.int .i64 18, .int .i64 f, .int .i64 0, .int .i64 g, .slice ua m uc] 28)
          obtain ⟨v2, w7, hra, hg7⟩ := HQ.out.1.add (by have := HCL.out; omega) (bt HB15.out hb6) ⟨18, f, 0, g, .slice ua m uc, xs⟩ (VB.made w5 18 f 0 g (.slice ua m uc)) rfl (.inr (ownsRow_chg HU5.out (.of_below (fun _ => False) hb6) fun _ _ => id))
          have HRA := Lib.hid hra; have HG7 := Lib.hid hg7
          obtain ⟨y0, y1, y2, y3, y4⟩ := HVB5.out.cells
          have y5 := HVB5.out.lt
          clear hb6 hra hg7
          go_wp2_with (at_builtin; refine wpList_app_run rfl _ _ _ rfl rfl rfl HRA.out ?_)
          go_roundw
          case rel => exact ⟨t + 1, _, by omega, by go_num, Lib.hid ⟨HG7.out, HT2.out⟩⟩
          case measure => simp [intOf]; omega
        · have k2b : (xk == 2) = false := by simp [k2]
          by_cases k3 : xk = 3
          · have k3b : (xk == 3) = true := by simp [k3]
            have HT := Lib.hid (show evsOf f g ((l.take (t + 1)).map Po.pl) = evsOf f g ((l.take t).map Po.pl) ++ [(19, f, 0, g, xs)] from by rw [htk]; simp [evOf, Po.pl, k3])
            clear htk k1 k2 k3
            have HC5 := Lib.hid (show Chg (fun k => k = eb) w4 (w4.setCell ⟨eb, 0, none⟩ (.int .i64 19)) from (Chg.refl (fun k => k = eb) w4).setCell (p := ⟨eb, 0, none⟩) (.inl rfl) _)
            have HVB5 := Lib.hid (HVE.out.set0 19)
            have HB15 := Lib.hid (show Below w1.heap.size w1 (w4.setCell ⟨eb, 0, none⟩ (.int .i64 19)) from HB14.out.trans (HC5.out.below HB14.out.size fun k e => by have e : k = eb := e; have := HEB.out; omega))
            have HU5 := Lib.hid (ownsRow_chg HU4.out HC5.out fun k hk e => by have e : k = eb := e; have := (HU4.out.lt k hk).2; have := HUL.out k hk; omega)
            obtain ⟨w5, hw5⟩ : ∃ u, w4.setCell ⟨eb, 0, none⟩ (.int .i64 19) = u := ⟨_, rfl⟩
            rw [hw5] at HC5 HVB5 HB15 HU5
            have HT2 := Lib.hid (show (C ++ [(⟨19, f, 0, g, .slice ua m uc, xs⟩ : Ev)]).map Ev.pl = evsOf f g ((l.take (t + 1)).map Po.pl) from by
              rw [HT.out, List.map_append, HQ.out.2]
              congr 1)
            have hb6 := ba (Below.refl w5.heap.size w5) (.cells #[.int .i64 19, .int .i64 f, .int .i64 0, .int .i64 g, .slice ua m uc] 28)
            obtain ⟨v2, w7, hra, hg7⟩ := HQ.out.1.add (by have := HCL.out; omega) (bt HB15.out hb6) ⟨19, f, 0, g, .slice ua m uc, xs⟩ (VB.made w5 19 f 0 g (.slice ua m uc)) rfl (.inr (ownsRow_chg HU5.out (.of_below (fun _ => False) hb6) fun _ _ => id))
            have HRA := Lib.hid hra; have HG7 := Lib.hid hg7
            obtain ⟨y0, y1, y2, y3, y4⟩ := HVB5.out.cells
            have y5 := HVB5.out.lt
            clear hb6 hra hg7
            go_wp2_with (at_builtin; refine wpList_app_run rfl _ _ _ rfl rfl rfl HRA.out ?_)
            go_roundw
            case rel => exact ⟨t + 1, _, by omega, by go_num, Lib.hid ⟨HG7.out, HT2.out⟩⟩
            case measure => simp [intOf]; omega
          · have k3b : (xk == 3) = false := by simp [k3]
            have HT := Lib.hid (show C.map Ev.pl = evsOf f g ((l.take (t + 1)).map Po.pl) from by rw [htk, HQ.out.2]; simp [evOf, Po.pl, k1, k2, k3])
            have HG6 := Lib.hid (HQ.out.1.on HB14.out)
            clear htk k1 k2 k3
            go_wp2
            go_roundw
            case rel => exact ⟨t + 1, C, by omega, by go_num, Lib.hid ⟨HG6.out, HT.out⟩⟩
            case measure => simp [intOf]; omega
    · obtain rfl : n = t := by omega
      have HR := Lib.hid (show RetV W (evsOf f g (l.map Po.pl)) (.returned u7) w1 from ⟨_, C, rfl, HQ.out.1.el, by rw [HQ.out.2, HN.out, List.take_length], HQ.out.1.bel⟩)
      go_wp2
      go_ret
      exact HR.out
end Go.Proofs.Ytnckjacbkhoppaa

/- The document's offers by a list: Of, Sum; mancipleref17.SameIDs. -/
import Derived.Test.YtnckjacbkhoppaaOm2
namespace Go.Proofs.Ytnckjacbkhoppaa
open Go.RowKit Go.Maps
attribute [local go_sem] ext_cell ext_frozen extC_cell extC_frozen Mix.calmUpon Mix.mUpon
theorem KS.set1 {w : World} {b : Nat} {a : Nat → Int} (h : KS w b a) {j : Nat} (hj : j < 4) (x : Int) : KS (w.setCell ⟨b, j, none⟩ (.int .i64 x)) b (fun i => if i = j then x else a i) := by
  obtain ⟨A, h⟩ := h
  refine ⟨A, (heap_setCell_at (.int .i64 x) h).trans ?_⟩
  have : j = 0 ∨ j = 1 ∨ j = 2 ∨ j = 3 := by omega
  rcases this with rfl | rfl | rfl | rfl <;> rfl
theorem KS.cell {w : World} {b : Nat} {a : Nat → Int} (h : KS w b a) {j : Nat} (hj : j < 4) : w.cell? ⟨b, j, none⟩ = some (.int .i64 (a j)) := by
  obtain ⟨h0, h1, h2, h3⟩ := h.cells
  have : j = 0 ∨ j = 1 ∨ j = 2 ∨ j = 3 := by omega
  rcases this with rfl | rfl | rfl | rfl
  · exact h0
  · exact h1
  · exact h2
  · exact h3
theorem KS.congr {w : World} {b : Nat} {a c : Nat → Int} (h : KS w b a) (he : ∀ j, j < 4 → a j = c j) : KS w b c := by
  obtain ⟨A, h⟩ := h
  refine ⟨A, ?_⟩
  rw [h]; unfold C4; rw [he 0 (by omega), he 1 (by omega), he 2 (by omega), he 3 (by omega)]
theorem KS.load4 {w : World} {b : Nat} {a : Nat → Int} (h : KS w b a) : (loadVar 36 ⟨b, 0, none⟩).run Try.prog w = .ok (S4 a) w := by
  obtain ⟨h0, h1, h2, h3⟩ := h.cells
  have hs := h.lt
  simp [go_sem, h0, h1, h2, h3, hs]
theorem res_s4 {w : World} {b : Nat} {a : Nat → Int} {fn : Func} {tmps : Array Value} {p : Nat} (h : fn.results = #[.cell p 36]) (hp : tmps.getD p undef = .pointer (some ⟨b, 0, none⟩)) (hb : KS w b a) :
    (results fn tmps).run Try.prog w = .ok (S4 a) w := by
  simp only [results, h]
  have hp' : tmps[p]?.getD undef = .pointer (some ⟨b, 0, none⟩) := by simpa [Array.getD_eq_getD_getElem?] using hp
  simp [Sem.run_bind, Result.andThen, hp', asAddr, hb.load4]
set_option maxRecDepth 100000 in
set_option maxHeartbeats 4000000 in
theorem rsumsV (v : Value) (l : List Pt) (h : VR l) (hne : l ≠ []) : PureOn (fun w => Vc w v l) Try.prog 95 #[v] (S4 (kS l)) := by
  intro W hV
  rcases hV with ⟨_, rfl⟩ | ⟨b, off, cap, rfl, h2, h3, h4, h5⟩
  · exact absurd rfl hne
  have hlen := vr_len h
  have HVC := Lib.hid (show Vc W (.slice (some ⟨b, off, none⟩) l.length cap) l from .inr ⟨b, off, cap, rfl, h2, h3, h4, h5⟩)
  have HP := Lib.hid h5
  have HV := Lib.hid ((vok_iff l).2 h)
  have HR := rright_v (.slice (some ⟨b, off, none⟩) l.length cap) l (by omega)
  rw [decide_eq_true h] at HR
  have HR := Lib.hid HR
  have HBW := Lib.hid h4
  obtain ⟨n, hn⟩ : ∃ n, n = l.length := ⟨_, rfl⟩
  have HN := Lib.hid hn
  have hb01 := ba (Below.refl W.heap.size W) (.cells (C4 Z4) 36)
  have hb12 := ba (Below.refl (W.alloc (.cells (C4 Z4) 36)).heap.size (W.alloc (.cells (C4 Z4) 36))) (.cells (C4 Z4) 36)
  have hk0 := (KS.made W Z4 36).below hb12
  have hk1 := KS.made (W.alloc (.cells (C4 Z4) 36)) Z4 36
  rw [show (W.alloc (.cells (C4 Z4) 36)).heap.size = W.heap.size + 1 by simp] at hk1
  have HK0 := Lib.hid hk0; have HK1 := Lib.hid hk1; have HB2 := Lib.hid (bt hb01 hb12)
  rw [← hn] at HR HVC HP HV hlen ⊢
  clear h h2 h3 h4 h5 hk0 hk1 hb01 hb12 hne hn
  go_enter Try.func95, Try.ntmps95
  go_wp2_with fail
  generalize (W.alloc (.cells (C4 Z4) 36)).alloc (.cells (C4 Z4) 36) = w0 at *
  obtain ⟨b0, hb0⟩ : ∃ b, b = W.heap.size := ⟨_, rfl⟩
  rw [← hb0] at HK0 HK1 HB2 HBW ⊢
  have HBQ := Lib.hid hb0
  clear hb0
  obtain ⟨b1, hb1⟩ : ∃ b, b = b0 + 1 := ⟨_, rfl⟩
  rw [← hb1] at HK1 ⊢
  have HB1 := Lib.hid hb1
  clear hb1
  refine (HR.out w0 (HVC.out.on (by rw [← HBQ.out]; exact HB2.out))).mono ?_
  rintro e w1 ⟨rfl, hb3⟩
  have HI := Lib.hid (show SU W w1 w1 b0 b1 (sm (kk l) (aa l) 0) from ⟨HB2.out.trans (hb3.mono (Nat.le_of_lt HK0.out.lt)), HK0.out.below hb3, (HK1.out.below hb3).congr fun j _ => rfl, Chg.refl _ _⟩)
  clear hb3
  go_wp2
  go_loopw [4] (fun iv wr => ∃ t : Nat, t ≤ n ∧ iv = .int .i64 t ∧ Hid (SU W w1 wr b0 b1 (sm (kk l) (aa l) t))) (fun iv _ => n - (intOf iv).toNat)
  case atStart => exact ⟨0, Nat.zero_le _, rfl, HI⟩
  case round =>
    clear HI
    obtain ⟨t, ht, rfl, HQ⟩ := hrel
    obtain ⟨w4, rfl⟩ : ∃ w4, w4 = wr := ⟨_, rfl⟩
    have hSU := HQ.out
    by_cases hlt : t < n
    · have hts : (t : Int) < (n : Int) := by omega
      obtain ⟨c0, c1, c2⟩ := HP.out t hlt
      have HBW4 := Lib.hid (show Below b0 W w4 from hSU.bel)
      replace c0 := (hSU.bel.cell (p := ⟨b, _, none⟩) HBW.out).trans c0
      replace c2 := (hSU.bel.cell (p := ⟨b, _, none⟩) HBW.out).trans c2
      have q0 : b < w4.heap.size := Nat.lt_trans HBW.out hSU.k0.lt
      obtain ⟨⟨k0, k1, _, _⟩, p1, p2⟩ := (HV.out t hlt).1
      obtain ⟨j, hj⟩ : ∃ j : Nat, kk l t = j := ⟨(kk l t).toNat, by omega⟩
      rw [hj] at c0 k1
      have hj4 : j < 4 := by omega
      have hjs : (j : Int) < 4 := by omega
      have e0 := hSU.k1.cell hj4
      have f0 := hSU.k1.fz j
      have e4 := hSU.k1.lt
      have bd1 := sm_bd HV.out j t ht
      have wr1 : IntKind.i64.wrap (sm (kk l) (aa l) t j + aa l t) = sm (kk l) (aa l) t j + aa l t := IntWalk.i64_in _ (by omega)
      have HNX := Lib.hid (show ∀ i, i < 4 → (if i = j then sm (kk l) (aa l) t j + aa l t else sm (kk l) (aa l) t i) = sm (kk l) (aa l) (t + 1) i from fun i _ => by
        show _ = if kk l t = i then sm (kk l) (aa l) t i + aa l t else sm (kk l) (aa l) t i
        rw [hj]
        by_cases hij : i = j
        · rw [if_pos hij, if_pos (by omega), hij]
        · rw [if_neg hij, if_neg (by omega)])
      clear hj bd1 k0 k1 hSU c1 p1 p2
      generalize sm (kk l) (aa l) t j = sj at *
      generalize aa l t = at_ at *
      have HJ := Lib.hid hj4
      go_wp2
      refine Mix.regionL (fun _ => False) (by kernel_rfl) ?_
      intro w5 hb5
      refine Mix.take_exL _ _ 0 rfl (by kernel_rfl) (by kernel_rfl) (by kernel_rfl) (by kernel_rfl) (by kernel_rfl) (by kernel_rfl) (fun K hK => ?_)
      go_simp
      first | (refine hK _ ?_; clear hK K) | (apply Exists.intro; refine ⟨fun x => ?_, hK _ ?_⟩; (fail); clear hK K)
      refine Mix.take_exL _ _ 1 rfl (by kernel_rfl) (by kernel_rfl) (by kernel_rfl) (by kernel_rfl) (by kernel_rfl) (by kernel_rfl) (fun K hK => ?_)
      go_simp
      first | (refine hK _ ?_; clear hK K) | (apply Exists.intro; refine ⟨fun x => ?_, hK _ ?_⟩; (fail); clear hK K)
      refine Mix.take_exL _ _ 2 rfl (by kernel_rfl) (by kernel_rfl) (by kernel_rfl) (by kernel_rfl) (by kernel_rfl) (by kernel_rfl) (fun K hK => ?_)
      go_simp
      first | (refine hK _ ?_; clear hK K) | (apply Exists.intro; refine ⟨fun x => ?_, hK _ ?_⟩; (fail); clear hK K)
      refine Mix.take_exL _ _ 3 rfl (by kernel_rfl) (by kernel_rfl) (by kernel_rfl) (by kernel_rfl) (by kernel_rfl) (by kernel_rfl) (fun K hK => ?_)
      go_simp
      first | (refine hK _ ?_; clear hK K) | (apply Exists.intro; refine ⟨fun x => ?_, hK _ ?_⟩; (fail); clear hK K)
      refine Mix.take_exL _ _ 4 rfl (by kernel_rfl) (by kernel_rfl) (by kernel_rfl) (by kernel_rfl) (by kernel_rfl) (by kernel_rfl) (fun K hK => ?_)
      go_simp
      first | (refine hK _ ?_; clear hK K) | (apply Exists.intro; refine ⟨fun x => ?_, hK _ ?_⟩; (fail); clear hK K)
      refine Mix.take_exL _ _ 5 rfl (by kernel_rfl) (by kernel_rfl) (by kernel_rfl) (by kernel_rfl) (by kernel_rfl) (by kernel_rfl) (fun K hK => ?_)
      go_simp
      first | (refine hK _ ?_; clear hK K) | (apply Exists.intro; refine ⟨fun x => ?_, hK _ ?_⟩; (fail); clear hK K)
      refine Mix.take_exL _ _ 6 rfl (by kernel_rfl) (by kernel_rfl) (by kernel_rfl) (by kernel_rfl) (by kernel_rfl) (by kernel_rfl) (fun K hK => ?_)
      go_simp
      first | (refine hK _ ?_; clear hK K) | (apply Exists.intro; refine ⟨fun x => ?_, hK _ ?_⟩; (fail); clear hK K)
      refine Mix.take_exL _ _ 7 rfl (by kernel_rfl) (by kernel_rfl) (by kernel_rfl) (by kernel_rfl) (by kernel_rfl) (by kernel_rfl) (fun K hK => ?_)
      go_simp
      first | (refine hK _ ?_; clear hK K) | (apply Exists.intro; refine ⟨fun x => ?_, hK _ ?_⟩; (fail); clear hK K)
      refine Mix.take_exL _ _ 8 rfl (by kernel_rfl) (by kernel_rfl) (by kernel_rfl) (by kernel_rfl) (by kernel_rfl) (by kernel_rfl) (fun K hK => ?_)
      go_simp
      first | (refine hK _ ?_; clear hK K) | (apply Exists.intro; refine ⟨fun x => ?_, hK _ ?_⟩; (fail); clear hK K)
      refine Mix.take_exL _ _ 9 rfl (by kernel_rfl) (by kernel_rfl) (by kernel_rfl) (by kernel_rfl) (by kernel_rfl) (by kernel_rfl) (fun K hK => ?_)
      go_simp
      first | (refine hK _ ?_; clear hK K) | (apply Exists.intro; refine ⟨fun x => ?_, hK _ ?_⟩; (fail); clear hK K)
      refine Mix.take_exL _ _ 10 rfl (by kernel_rfl) (by kernel_rfl) (by kernel_rfl) (by kernel_rfl) (by kernel_rfl) (by kernel_rfl) (fun K hK => ?_)
      go_simp
      first | (refine hK _ ?_; clear hK K) | (apply Exists.intro; refine ⟨fun x => ?_, hK _ ?_⟩; (fail); clear hK K)
      refine Mix.take_exL _ _ 11 rfl (by kernel_rfl) (by kernel_rfl) (by kernel_rfl) (by kernel_rfl) (by kernel_rfl) (by kernel_rfl) (fun K hK => ?_)
      go_simp
      first | (refine hK _ ?_; clear hK K) | (apply Exists.intro; refine ⟨fun x => ?_, hK _ ?_⟩; (fail); clear hK K)
      refine Mix.take_exL _ _ 12 rfl (by kernel_rfl) (by kernel_rfl) (by kernel_rfl) (by kernel_rfl) (by kernel_rfl) (by kernel_rfl) (fun K hK => ?_)
      go_simp
      first | (refine hK _ ?_; clear hK K) | (apply Exists.intro; refine ⟨fun x => ?_, hK _ ?_⟩; (fail); clear hK K)
      refine Mix.take_exL _ _ 13 rfl (by kernel_rfl) (by kernel_rfl) (by kernel_rfl) (by kernel_rfl) (by kernel_rfl) (by kernel_rfl) (fun K hK => ?_)
      go_simp
      first | (refine hK _ ?_; clear hK K) | (apply Exists.intro; refine ⟨fun x => ?_, hK _ ?_⟩; (fail); clear hK K)
      refine Mix.take_exL _ _ 14 rfl (by kernel_rfl) (by kernel_rfl) (by kernel_rfl) (by kernel_rfl) (by kernel_rfl) (by kernel_rfl) (fun K hK => ?_)
      go_simp
      first | (refine hK _ ?_; clear hK K) | (apply Exists.intro; refine ⟨fun x => ?_, hK _ ?_⟩; (fail); clear hK K)
      refine Mix.take_exL _ _ 15 rfl (by kernel_rfl) (by kernel_rfl) (by kernel_rfl) (by kernel_rfl) (by kernel_rfl) (by kernel_rfl) (fun K hK => ?_)
      go_simp
      first | (refine hK _ ?_; clear hK K) | (apply Exists.intro; refine ⟨fun x => ?_, hK _ ?_⟩; (fail); clear hK K)
      refine Mix.take_exL _ _ 16 rfl (by kernel_rfl) (by kernel_rfl) (by kernel_rfl) (by kernel_rfl) (by kernel_rfl) (by kernel_rfl) (fun K hK => ?_)
      go_simp
      first | (refine hK _ ?_; clear hK K) | (apply Exists.intro; refine ⟨fun x => ?_, hK _ ?_⟩; (fail); clear hK K)
      refine Mix.take_exL _ _ 17 rfl (by kernel_rfl) (by kernel_rfl) (by kernel_rfl) (by kernel_rfl) (by kernel_rfl) (by kernel_rfl) (fun K hK => ?_)
      go_simp
      first | (refine hK _ ?_; clear hK K) | (apply Exists.intro; refine ⟨fun x => ?_, hK _ ?_⟩; (fail); clear hK K)
      refine Mix.take_exL _ _ 18 rfl (by kernel_rfl) (by kernel_rfl) (by kernel_rfl) (by kernel_rfl) (by kernel_rfl) (by kernel_rfl) (fun K hK => ?_)
      go_simp
      first | (refine hK _ ?_; clear hK K) | (apply Exists.intro; refine ⟨fun x => ?_, hK _ ?_⟩; (fail); clear hK K)
      refine Mix.allL (rs := [19]) (by kernel_rfl) (by simp) (.of_below _ hb5) (by kernel_rfl) ?_
      intro i6 hi6 w6 hb6 hC6
      simp only [List.mem_cons, List.not_mem_nil, or_false] at hi6
      subst hi6
      have HB6 := Lib.hid (bt hb5 hb6)
      have h6 := HQ.out.on HB6.out
      have g0 := h6.k1.cell hj4
      have g1 := h6.k1.fz j
      have g2 := h6.k1.lt
      have H6 := Lib.hid h6
      clear hC6 hb5 hb6 h6 e0 f0 e4 c0 c2 q0
      refine Mix.op rfl (by kernel_rfl) ?_
      go_simp
      refine Mix.doneL (by kernel_rfl) (by kernel_rfl) ?_
      intro w7 hb7
      have HU7 := Lib.hid (show SU W w1 w7 b0 b1 (sm (kk l) (aa l) (t + 1)) from by
        have hc : Chg (fun k => k = b1) w6 (w6.setCell ⟨b1, j, none⟩ (.int .i64 (sj + at_))) := (Chg.refl (fun k => k = b1) w6).setCell (p := ⟨b1, j, none⟩) (.inl rfl) _
        have hs : SU W w1 (w6.setCell ⟨b1, j, none⟩ (.int .i64 (sj + at_))) b0 b1 (sm (kk l) (aa l) (t + 1)) := ⟨H6.out.bel.trans (hc.below (Nat.le_of_lt H6.out.k0.lt) fun k e => by rw [e]; have := HB1.out; omega), H6.out.k0.chg hc (by have := HB1.out; show ¬ b0 = b1; omega), (H6.out.k1.set1 HJ.out _).congr HNX.out, H6.out.ch.same hc⟩
        exact hs.on hb7)
      clear hb7 g0 g1 g2
      go_wp2
      go_roundw
      case rel => exact ⟨t + 1, by omega, by go_num, HU7⟩
      case measure => simp [intOf]; omega
    · obtain rfl : n = t := by omega
      obtain ⟨t0, t1, t2, t3⟩ := hSU.k1.cells
      have t4 := hSU.k1.lt
      obtain ⟨r0, r1, r2, r3⟩ := hSU.k0.cells
      have r4 := hSU.k0.lt
      have g0 := hSU.k0.fz 0; have g1 := hSU.k0.fz 1; have g2 := hSU.k0.fz 2; have g3 := hSU.k0.fz 3
      have HE := Lib.hid (show S4 (sm (kk l) (aa l) n) = S4 (kS l) from s4_congr fun j _ => by rw [HN.out]; exact sm_all l j)
      generalize sm (kk l) (aa l) n = T at *
      have HR0 := Lib.hid (hSU.k0.set4 T)
      have HB12 := Lib.hid (hSU.bel.trans ((ks_chg w4 b0 (.int .i64 (T 0)) (.int .i64 (T 1)) (.int .i64 (T 2)) (.int .i64 (T 3))).below (Nat.le_of_lt hSU.k0.lt) fun k e => by rw [e]; exact Nat.le_refl _))
      clear hSU
      go_wp2
      refine bodyPost_ret (res_s4 Try.results95 rfl HR0.out) rfl ?_
      exact ⟨by rw [HE.out], by rw [← HBQ.out]; exact HB12.out⟩
/-- Two slices of the same numbers. -/
theorem msame_ids {w : World} {v v' : Value} {l : List Int} (h : RS 1 ienc w v l) (h' : RS 1 ienc w v' l) (hln : l.length < 1000000) : Calls Try.prog 41 #[v, v'] w fun e w' => e = .returned (.bool true) ∧ Below w.heap.size w w' := by
  obtain ⟨a, n, cp, rfl, hn, hc, hm, hat⟩ := h.at_
  obtain ⟨a', n', cp', rfl, hn', hc', hm', hat'⟩ := h'.at_
  obtain rfl : n' = n := by omega
  have HA := Lib.hid hat; have HA' := Lib.hid hat'
  have HN := Lib.hid hn
  have hlm : n' < 1000000 := by omega
  clear hat hat' h h' hn hn'
  go_enter Try.func41, Try.ntmps41
  go_wp2
  go_loopw [5] (fun iv wr => ∃ t : Nat, t ≤ n' ∧ iv = .int .i64 t ∧ Hid (Below w.heap.size w wr)) (fun iv _ => n' - (intOf iv).toNat)
  case atStart => exact ⟨0, Nat.zero_le _, rfl, Lib.hid (Below.refl _ _)⟩
  case round =>
    obtain ⟨t, ht, rfl, HQ⟩ := hrel
    obtain ⟨w2, rfl⟩ : ∃ w2, w2 = wr := ⟨_, rfl⟩
    by_cases hlt : t < n'
    · have hts : (t : Int) < (n' : Int) := by omega
      obtain ⟨x, hx⟩ := at_lt (l := l) (i := t) (by rw [← HN.out]; exact hlt)
      obtain ⟨b, off, rfl, hb, hcell⟩ := HA.out t x hx
      obtain ⟨b', off', rfl, hb', hcell'⟩ := HA'.out t x hx
      have e0 := (HQ.out.cell (p := ⟨b, off + t * 1 + 0, none⟩) hb).trans (hcell 0 _ rfl)
      have f0 := (HQ.out.cell (p := ⟨b', off' + t * 1 + 0, none⟩) hb').trans (hcell' 0 _ rfl)
      simp only [Nat.mul_one, Nat.add_zero] at e0 f0
      have hbw : b < w2.heap.size := Nat.lt_of_lt_of_le hb HQ.out.size
      have hbw' : b' < w2.heap.size := Nat.lt_of_lt_of_le hb' HQ.out.size
      clear hcell hcell' hx
      go_wp2
      refine wp_region_pure (by kernel_rfl) (by kernel_rfl) ?_
      repeat (first | go_big_quiet_step ((fail)) | (quiet_step ((fail))))
      refine wpQuiet_nil ?_
      rintro w3 ⟨x3, hx3⟩
      have hb3 := ext_below _ x3
      rw [← hx3] at hb3
      clear hx3 x3
      have hs3 : w2.heap.size + 0 ≤ w3.heap.size := (by have h := hb3.size; first | omega | (simp at h; omega))
      obtain ⟨hc3, hf3, hl3⟩ := bcell hb3
      clear hl3
      have HB3 := Lib.hid (bt HQ.out hb3)
      clear hb3 hc3 hf3 e0 f0
      go_wp2
      go_roundw
      case rel => exact ⟨t + 1, by omega, by go_num, HB3⟩
      case measure => simp [intOf]; omega
    · obtain rfl : n' = t := by omega
      go_wp2
      go_ret
      exact ⟨rfl, HQ.out⟩
section
variable {w : World} {v : Value} {S : List Ofr} {g l : Int}
set_option maxRecDepth 100000 in
set_option maxHeartbeats 4000000 in
theorem mof (h : FL w v S) (hln : S.length < 900000) (f ag : Int) : Calls Try.prog 43 #[mval g l v, .int .i64 f, .int .i64 ag] w (RetI w (((S.map Ofr.pl).filter fun x => x.2.1 == f || x.2.2.1 == ag).map (·.1))) := by
  obtain ⟨a, n, cp, rfl, hn, hc, hm, hat⟩ := h.rs.at_
  have hlm : n ≤ 9223372036854775807 := by unfold maxLen at hm; omega
  have HAT := Lib.hid hat
  have HN := Lib.hid hn
  have hb1 := ba (Below.refl w.heap.size w) (.cells #[.int .i64 g, .int .i64 l, .slice a n cp] 56)
  have HM1 := Lib.hid (MB.made w g l (.slice a n cp))
  have HB1 := Lib.hid hb1
  have HBS0 := Lib.hid (show (w.alloc (.cells #[.int .i64 g, .int .i64 l, .slice a n cp] 56)).heap.size = w.heap.size + 1 by simp)
  clear hat h hn hb1 hm
  go_enter Try.func43, Try.ntmps43
  go_wp2
  generalize w.alloc (.cells #[.int .i64 g, .int .i64 l, .slice a n cp] 56) = w0 at *
  obtain ⟨b, hbq⟩ : ∃ b, b = w.heap.size := ⟨_, rfl⟩
  rw [← hbq] at HM1 HB1 HBS0 ⊢
  have HBQ := Lib.hid hbq
  clear hbq
  have HI := Lib.hid (show OwnL 2 1 ienc w0 (b + 1) (.slice none 0 0) [] ∧ Below w0.heap.size w0 w0 ∧ ([] : List Int) = ((S.take 0).filter (fun x => x.frame == f || x.agent == ag)).map Ofr.id from ⟨OwnL.nil _ _ _ _ _, Below.refl _ _, rfl⟩)
  go_loopw [7, 8] (fun lv iv wr => ∃ (t : Nat) (C : List Int), t ≤ n ∧ iv = .int .i64 t ∧ Hid (OwnL 2 1 ienc wr (b + 1) lv C ∧ Below w0.heap.size w0 wr ∧ C = ((S.take t).filter (fun x => x.frame == f || x.agent == ag)).map Ofr.id)) (fun _ iv _ => n - (intOf iv).toNat)
  case atStart => exact ⟨0, [], Nat.zero_le _, rfl, HI⟩
  case round =>
    clear HI
    obtain ⟨t, C, ht, rfl, HQ⟩ := hrel
    obtain ⟨w4, rfl⟩ : ∃ w4, w4 = wr := ⟨_, rfl⟩
    obtain ⟨z0, z1, z2⟩ := (HM1.out.below HQ.out.2.1).cells
    have q0 := (HM1.out.below HQ.out.2.1).lt
    by_cases hlt : t < n
    · have hts : (t : Int) < (n : Int) := by omega
      obtain ⟨x, hx⟩ := at_lt (l := S) (i := t) (by rw [← HN.out]; exact hlt)
      obtain ⟨bs, off, rfl, hbs, hcell⟩ := HAT.out t x hx
      have HBX := Lib.hid (show Below b w w4 from HB1.out.trans (HQ.out.2.1.mono (Nat.le_of_lt HM1.out.lt)))
      have hbsb : bs < b := by have := HBQ.out; omega
      have d0 := (HBX.out.cell (p := ⟨bs, _, none⟩) hbsb).trans (hcell 0 _ rfl)
      have d1 := (HBX.out.cell (p := ⟨bs, _, none⟩) hbsb).trans (hcell 1 _ rfl)
      have d2 := (HBX.out.cell (p := ⟨bs, _, none⟩) hbsb).trans (hcell 2 _ rfl)
      simp only [Nat.add_zero] at d0
      have qs : bs < w4.heap.size := by omega
      have HW := Lib.hid (show ((S.take (t + 1)).filter (fun x => x.frame == f || x.agent == ag)).map Ofr.id = C ++ ((if (x.frame == f || x.agent == ag) = true then [x] else []).map Ofr.id) from by
        rw [take_at hx, List.filter_append, List.map_append, ← HQ.out.2.2, List.filter_cons, List.filter_nil])
      obtain ⟨xi, xf, xa, xv, xs, xu⟩ := x
      simp only at d0 d1 d2
      have HCL := Lib.hid (show C.length < 900000 from by
        rw [HQ.out.2.2, List.length_map]
        have h1 := List.length_filter_le (fun x : Ofr => x.frame == f || x.agent == ag) (S.take t)
        have h2 := List.length_take_le t S
        have h3 := HN.out
        omega)
      clear hcell hx hbs hbsb
      by_cases he : xf = f
      · have heb : (xf == f) = true := by simpa using he
        have hec : (xf == f || xa == ag) = true := by rw [heb]; rfl
        have HE := Lib.hid (show C ++ [xi] = ((S.take (t + 1)).filter (fun x => x.frame == f || x.agent == ag)).map Ofr.id from by rw [HW.out, if_pos hec]; rfl)
        clear hec he
        have hbB := ba (Below.refl w4.heap.size w4) (.cells #[.int .i64 xi] 2)
        obtain ⟨v2, w6, hra, o6, g6, b6⟩ := iapp (b := w4.heap.size) (HQ.out.1.below hbB) xi (by simp) (by have := HCL.out; omega) (by have h1 := HBS0.out; have h2 := HQ.out.2.1.size; have h3 := hbB.size; omega)
        have hol := HQ.out.1.lt
        have hcg : Chg (fun k => u7.ownBlock = some k) w4 w6 := (Chg.of_below _ hbB).same (.of_grown g6 fun k e => e)
        have HB6 := Lib.hid (show Below w0.heap.size w0 w6 from HQ.out.2.1.trans (hcg.below HQ.out.2.1.size fun k e => by have := (hol k e).1; have := HBS0.out; omega))
        have HRA := Lib.hid hra; have HO6 := Lib.hid o6
        clear hbB hra o6 g6 b6 hol hcg
        go_wp2_with (at_builtin; refine wpList_app_run rfl _ _ _ rfl rfl rfl HRA.out ?_)
        go_roundw
        case rel => exact ⟨t + 1, _, by omega, by go_num, Lib.hid ⟨HO6.out, HB6.out, HE.out⟩⟩
        case measure => simp [intOf]; omega
      · have heb : (xf == f) = false := by simpa using he
        by_cases he2 : xa = ag
        · have heb2 : (xa == ag) = true := by simpa using he2
          have hec : (xf == f || xa == ag) = true := by rw [heb, heb2]; rfl
          clear he2
          have HE := Lib.hid (show C ++ [xi] = ((S.take (t + 1)).filter (fun x => x.frame == f || x.agent == ag)).map Ofr.id from by rw [HW.out, if_pos hec]; rfl)
          clear hec he
          have hbB := ba (Below.refl w4.heap.size w4) (.cells #[.int .i64 xi] 2)
          obtain ⟨v2, w6, hra, o6, g6, b6⟩ := iapp (b := w4.heap.size) (HQ.out.1.below hbB) xi (by simp) (by have := HCL.out; omega) (by have h1 := HBS0.out; have h2 := HQ.out.2.1.size; have h3 := hbB.size; omega)
          have hol := HQ.out.1.lt
          have hcg : Chg (fun k => u7.ownBlock = some k) w4 w6 := (Chg.of_below _ hbB).same (.of_grown g6 fun k e => e)
          have HB6 := Lib.hid (show Below w0.heap.size w0 w6 from HQ.out.2.1.trans (hcg.below HQ.out.2.1.size fun k e => by have := (hol k e).1; have := HBS0.out; omega))
          have HRA := Lib.hid hra; have HO6 := Lib.hid o6
          clear hbB hra o6 g6 b6 hol hcg
          go_wp2_with (at_builtin; refine wpList_app_run rfl _ _ _ rfl rfl rfl HRA.out ?_)
          go_roundw
          case rel => exact ⟨t + 1, _, by omega, by go_num, Lib.hid ⟨HO6.out, HB6.out, HE.out⟩⟩
          case measure => simp [intOf]; omega
        · have heb2 : (xa == ag) = false := by simpa using he2
          have HE := Lib.hid (show C = ((S.take (t + 1)).filter (fun x => x.frame == f || x.agent == ag)).map Ofr.id from by
            rw [HW.out, if_neg (by rw [heb, heb2]; simp), List.map_nil, List.append_nil])
          clear he he2
          go_wp2
          go_roundw
          case rel => exact ⟨t + 1, C, by omega, by go_num, Lib.hid ⟨HQ.out.1, HQ.out.2.1, HE.out⟩⟩
          case measure => simp [intOf]; omega
    · obtain rfl : n = t := by omega
      have hC : C = ((S.map Ofr.pl).filter fun x => x.2.1 == f || x.2.2.1 == ag).map (·.1) := by
        rw [HQ.out.2.2, HN.out, List.take_length, List.filter_map, List.map_map]; rfl
      have HCP := Lib.hid hC
      have HBX := Lib.hid (show Below b w w4 from HB1.out.trans (HQ.out.2.1.mono (Nat.le_of_lt HM1.out.lt)))
      have HRS := Lib.hid (HQ.out.1.rs (fun _ => rfl))
      have HOL := Lib.hid HQ.out.1.lt
      clear hC
      go_wp2
      go_ret
      exact ⟨_, rfl, by rw [← HCP.out]; exact HRS.out, fun k hk => by have := HOL.out k hk; have := HBQ.out; omega, by rw [← HBQ.out]; exact HBX.out⟩
end
section
variable {w : World} {v : Value} {S : List Ofr} {g l : Int}
set_option maxRecDepth 100000 in
set_option maxHeartbeats 4000000 in
theorem msum (h : FL w v S) (hok : ∀ x ∈ S, VR x.ps ∧ x.ps ≠ []) (f : Int) : Calls Try.prog 46 #[mval g l v, .int .i64 f] w fun e w' => e = .returned (S4 (sumP (S.map Ofr.pl) f)) ∧ Below w.heap.size w w' := by
  obtain ⟨a, n, cp, rfl, hn, hc, hm, hat⟩ := h.rs.at_
  have hnm : n ≤ 9223372036854775807 := by unfold maxLen at hm; omega
  have HAT := Lib.hid hat
  have HN := Lib.hid hn
  have HVV := Lib.hid h.vec
  have HXR := Lib.hid hok
  have e1 : (w.alloc (.cells #[.int .i64 g, .int .i64 l, .slice a n cp] 56)).heap.size = w.heap.size + 1 := by simp
  have e2 : ((w.alloc (.cells #[.int .i64 g, .int .i64 l, .slice a n cp] 56)).alloc (.cells (C4 Z4) 36)).heap.size = w.heap.size + 1 + 1 := by simp
  have hb1 := ba (Below.refl w.heap.size w) (.cells #[.int .i64 g, .int .i64 l, .slice a n cp] 56)
  have hb2 := ba hb1 (.cells (C4 Z4) 36)
  have hb3 := ba hb2 (.cells (C4 Z4) 36)
  have hm1 := ((MB.made w g l (.slice a n cp)).below (ba (Below.refl _ _) (.cells (C4 Z4) 36))).below (ba (Below.refl _ _) (.cells (C4 Z4) 36))
  have hk0 := (KS.made (w.alloc (.cells #[.int .i64 g, .int .i64 l, .slice a n cp] 56)) Z4 36).below (ba (Below.refl _ _) (.cells (C4 Z4) 36))
  have hk1 := KS.made ((w.alloc (.cells #[.int .i64 g, .int .i64 l, .slice a n cp] 56)).alloc (.cells (C4 Z4) 36)) Z4 36
  rw [e1] at hk0
  rw [e2] at hk1
  have HM1 := Lib.hid hm1; have HK0 := Lib.hid hk0; have HK1 := Lib.hid hk1; have HB3 := Lib.hid hb3
  have HR := Lib.hid (show sumT Z4 ((S.filter fun x => x.frame == f).map Ofr.ps) = sumP (S.map Ofr.pl) f from by unfold sumP; rw [List.filter_map, List.map_map]; rfl)
  have HSO := Lib.hid z4_ok
  clear hat h hn hok e1 e2 hb1 hb2 hb3 hm1 hk0 hk1 hm
  go_enter Try.func46, Try.ntmps46
  go_wp2
  generalize ((w.alloc (.cells #[.int .i64 g, .int .i64 l, .slice a n cp] 56)).alloc (.cells (C4 Z4) 36)).alloc (.cells (C4 Z4) 36) = w3 at *
  obtain ⟨b, hbq⟩ : ∃ b, b = w.heap.size := ⟨_, rfl⟩
  rw [← hbq] at HM1 HK0 HK1 HB3 ⊢
  obtain ⟨b0, hb0q⟩ : ∃ b0, b0 = b + 1 := ⟨_, rfl⟩
  rw [← hb0q] at HK0 HK1 ⊢
  obtain ⟨b1, hb1q⟩ : ∃ b1, b1 = b0 + 1 := ⟨_, rfl⟩
  rw [← hb1q] at HK1 ⊢
  have HBQ := Lib.hid hbq
  have HDS := Lib.hid (show b < b0 ∧ b0 < b1 by omega)
  clear hbq hb0q hb1q
  have HI := Lib.hid (show SU w3 w3 w3 b0 b1 Z4 from ⟨Below.refl _ _, HK0.out, HK1.out, Chg.refl _ _⟩)
  go_loopw [6] (fun iv wr => ∃ (t : Nat) (T : Nat → Int), t ≤ n ∧ iv = .int .i64 t ∧ Hid (SU w3 w3 wr b0 b1 T ∧ SOk T ∧ sumT T (((S.drop t).filter fun x => x.frame == f).map Ofr.ps) = sumP (S.map Ofr.pl) f)) (fun iv _ => n - (intOf iv).toNat)
  case atStart => exact ⟨0, Z4, Nat.zero_le _, rfl, Lib.hid ⟨HI.out, HSO.out, HR.out⟩⟩
  case round =>
    clear HI HSO HR
    obtain ⟨t, T, ht, rfl, HQ⟩ := hrel
    obtain ⟨w4, rfl⟩ : ∃ w4, w4 = wr := ⟨_, rfl⟩
    have hSU := HQ.out.1
    have hMB : MB w4 b g l (.slice a n cp) := (hSU.bel.block b (by have := HDS.out; omega)).trans HM1.out
    obtain ⟨z0, z1, zz⟩ := hMB.cells
    have z2 := hMB.lt
    have HMBW := Lib.hid hMB
    by_cases hlt : t < n
    · have hts : (t : Int) < (n : Int) := by omega
      obtain ⟨x, hx⟩ := at_lt (l := S) (i := t) (by rw [← HN.out]; exact hlt)
      obtain ⟨bs, off, rfl, hbs, hcell⟩ := HAT.out t x hx
      have hxv := HVV.out x (mem_at hx)
      have hxr := HXR.out x (mem_at hx)
      have hBX : Below b w w4 := HB3.out.trans (hSU.bel.mono (by have := HDS.out; omega))
      have hbsb : bs < b := by have := HBQ.out; omega
      have d0 := (hBX.cell (p := ⟨bs, _, none⟩) hbsb).trans (hcell 1 _ rfl)
      have d3 := (hBX.cell (p := ⟨bs, _, none⟩) hbsb).trans (hcell 3 _ rfl)
      have qs : bs < w4.heap.size := by omega
      have hd : S.drop t = x :: S.drop (t + 1) := by
        rw [List.drop_eq_getElem_cons (by rw [← HN.out]; exact hlt)]
        rw [(List.getElem?_eq_some_iff.1 hx).2]
      have hHQS : sumT T (((x :: S.drop (t + 1)).filter fun x => x.frame == f).map Ofr.ps) = sumP (S.map Ofr.pl) f := by have := HQ.out.2.2; rw [hd] at this; exact this
      have hvx : Vc w4 x.vv x.ps := hxv.on (by rw [← HBQ.out]; exact hBX)
      obtain ⟨xi, xf, xa, xv, xs, xu⟩ := x
      obtain ⟨va, vc, hvv, -, -⟩ := hvx.form
      simp only at hvv d0 d3 hvx
      subst hvv
      have HVX := Lib.hid hvx
      have HXX := Lib.hid (show VR xs ∧ xs ≠ [] from hxr)
      generalize hmx : xs.length = m at *
      clear hcell hx hxv hxr hBX hbs hbsb hd hvx hMB
      by_cases he : xf = f
      · have heb : (xf == f) = true := by simpa using he
        have HQS := Lib.hid (show sumT T (xs :: (((S.drop (t + 1)).filter fun x => x.frame == f).map Ofr.ps)) = sumP (S.map Ofr.pl) f from by
          have := hHQS; rw [List.filter_cons, if_pos (by exact heb)] at this; exact this)
        clear hHQS he
        obtain ⟨t0, t1, t2, t3⟩ := hSU.k1.cells
        have t4 := hSU.k1.lt
        clear hSU
        have HOF := Lib.hid fun x : ExtC w4 (fun _ => False) => rsumsV (.slice va m vc) xs HXX.out.1 HXX.out.2 (extC w4 _ x) (HVX.out.on ((extC_chg w4 _ x).below (Nat.le_refl _) fun k h => h.elim))
        by_cases hok : SOk fun k => T k + kS xs k
        · have HAD := Lib.hid (refadd_both T (kS xs) true HQ.out.2.1 (kS_ok HXX.out.1) (decide_eq_true hok))
          have HOK := Lib.hid hok
          have HNX := Lib.hid (show sumT (fun k => T k + kS xs k) (((S.drop (t + 1)).filter fun x => x.frame == f).map Ofr.ps) = sumP (S.map Ofr.pl) f from by have := HQS.out; rw [sumT, if_pos hok] at this; exact this)
          clear hok
          go_wp2
          refine Mix.regionC (fun _ => False) (by kernel_rfl) ?_
          intro w6 hb6
          refine Mix.take_exC _ _ 0 rfl (by kernel_rfl) (by kernel_rfl) (by kernel_rfl) (by kernel_rfl) (fun K hK => ?_)
          go_simp
          first | (refine hK _ ?_; clear hK K) | (apply Exists.intro; refine ⟨fun x => ?_, hK _ ?_⟩; (fail); clear hK K)
          refine Mix.take_exC _ _ 1 rfl (by kernel_rfl) (by kernel_rfl) (by kernel_rfl) (by kernel_rfl) (fun K hK => ?_)
          go_simp
          first | (refine hK _ ?_; clear hK K) | (apply Exists.intro; refine ⟨fun x => ?_, hK _ ?_⟩; (fail); clear hK K)
          refine Mix.take_exC _ _ 2 rfl (by kernel_rfl) (by kernel_rfl) (by kernel_rfl) (by kernel_rfl) (fun K hK => ?_)
          go_simp
          first | (refine hK _ ?_; clear hK K) | (apply Exists.intro; refine ⟨fun x => ?_, hK _ ?_⟩; (fail); clear hK K)
          refine Mix.take_exC _ _ 3 rfl (by kernel_rfl) (by kernel_rfl) (by kernel_rfl) (by kernel_rfl) (fun K hK => ?_)
          go_simp
          first | (refine hK _ ?_; clear hK K) | (apply Exists.intro; refine ⟨fun x => ?_, hK _ ?_⟩; (fail); clear hK K)
          refine Mix.take_exC _ _ 4 rfl (by kernel_rfl) (by kernel_rfl) (by kernel_rfl) (by kernel_rfl) (fun K hK => ?_)
          go_simp
          first | (refine hK _ ?_; clear hK K) | (apply Exists.intro; refine ⟨fun x => ?_, hK _ ?_⟩; (fail); clear hK K)
          refine Mix.take_exC _ _ 5 rfl (by kernel_rfl) (by kernel_rfl) (by kernel_rfl) (by kernel_rfl) (fun K hK => ?_)
          go_simp
          first | (refine hK _ ?_; clear hK K) | (apply Exists.intro; refine ⟨fun x => ?_, hK _ ?_⟩; (fail); clear hK K)
          refine Mix.take_exC _ _ 6 rfl (by kernel_rfl) (by kernel_rfl) (by kernel_rfl) (by kernel_rfl) (fun K hK => ?_)
          go_simp
          first | (refine hK _ ?_; clear hK K) | (apply Exists.intro; refine ⟨fun x => ?_, hK _ ?_⟩; (fail); clear hK K)
          refine Mix.take_exC _ _ 7 rfl (by kernel_rfl) (by kernel_rfl) (by kernel_rfl) (by kernel_rfl) (fun K hK => ?_)
          go_simp
          first | (refine hK _ ?_; clear hK K) | (apply Exists.intro; refine ⟨fun x => ?_, hK _ ?_⟩; (((go_at_call 95; with_reducible exact HOF.out _))); clear hK K)
          refine Mix.take_exC _ _ 8 rfl (by kernel_rfl) (by kernel_rfl) (by kernel_rfl) (by kernel_rfl) (fun K hK => ?_)
          go_simp
          first | (refine hK _ ?_; clear hK K) | (apply Exists.intro; refine ⟨fun x => ?_, hK _ ?_⟩; (((go_at_call 94; with_reducible exact HAD.out _))); clear hK K)
          refine Mix.take_exC _ _ 9 rfl (by kernel_rfl) (by kernel_rfl) (by kernel_rfl) (by kernel_rfl) (fun K hK => ?_)
          go_simp
          first | (refine hK _ ?_; clear hK K) | (apply Exists.intro; refine ⟨fun x => ?_, hK _ ?_⟩; (fail); clear hK K)
          refine Mix.take_exC _ _ 10 rfl (by kernel_rfl) (by kernel_rfl) (by kernel_rfl) (by kernel_rfl) (fun K hK => ?_)
          go_simp
          first | (refine hK _ ?_; clear hK K) | (apply Exists.intro; refine ⟨fun x => ?_, hK _ ?_⟩; (fail); clear hK K)
          refine Mix.take_exC _ _ 11 rfl (by kernel_rfl) (by kernel_rfl) (by kernel_rfl) (by kernel_rfl) (fun K hK => ?_)
          go_simp
          first | (refine hK _ ?_; clear hK K) | (apply Exists.intro; refine ⟨fun x => ?_, hK _ ?_⟩; (fail); clear hK K)
          clear t0 t1 t2 t3 t4 d3
          refine Mix.all (rs := [12]) (by kernel_rfl) (by simp) (.of_below _ hb6) ?_
          intro i7 hi7 w7 hb7 hC7
          simp only [List.mem_cons, List.not_mem_nil, or_false] at hi7
          subst hi7
          have HB7 := Lib.hid (bt hb6 hb7)
          clear hC7 hb6 hb7
          refine Mix.op rfl (by kernel_rfl) ?_
          go_simp
          have hz8 := KS.made w7 Z4 36
          have hb78 := ba HB7.out (.cells (C4 Z4) 36)
          generalize w7.alloc (.cells (C4 Z4) 36) = w8 at *
          obtain ⟨q, hq⟩ : ∃ b, b = w7.heap.size := ⟨_, rfl⟩
          rw [← hq] at hz8 ⊢
          have HG7 := Lib.hid (show w4.heap.size ≤ q by rw [hq]; exact HB7.out.size)
          have HZ8 := Lib.hid hz8; have HB8 := Lib.hid hb78
          clear hz8 hb78 hq
          refine Mix.all (rs := [13]) (by kernel_rfl) (by simp) (.of_below _ HB8.out) ?_
          intro i9 hi9 w9 hb9 hC9
          simp only [List.mem_cons, List.not_mem_nil, or_false] at hi9
          subst hi9
          have HB9 := Lib.hid (bt HB8.out hb9)
          have hz9 := HZ8.out.below hb9
          clear hC9 hb9
          obtain ⟨m0, m1, m2, m3⟩ := hz9.cells
          have o0 := hz9.fz 0; have o1 := hz9.fz 1; have o2 := hz9.fz 2; have o3 := hz9.fz 3
          have m4 := hz9.lt
          have HST := Lib.hid (ks_chg w9 q (.int .i64 ((fun k => T k + kS xs k) 0)) (.int .i64 ((fun k => T k + kS xs k) 1)) (.int .i64 ((fun k => T k + kS xs k) 2)) (.int .i64 ((fun k => T k + kS xs k) 3)))
          have HZ10 := Lib.hid (hz9.set4 (fun k => T k + kS xs k))
          clear hz9
          refine Mix.op rfl (by kernel_rfl) ?_
          go_simp
          clear m0 m1 m2 m3 m4 o0 o1 o2 o3
          (try dsimp only at HST HZ10)
          generalize (((w9.setCell ⟨q, 0, none⟩ _).setCell ⟨q, 1, none⟩ _).setCell ⟨q, 2, none⟩ _).setCell ⟨q, 3, none⟩ _ = w10 at *
          have HB10 := Lib.hid (show Below w4.heap.size w4 w10 from HB9.out.trans (HST.out.below HB9.out.size fun k e => by have e : k = q := e; have := HG7.out; omega))
          refine Mix.take_exC _ _ 14 rfl (by kernel_rfl) (by kernel_rfl) (by kernel_rfl) (by kernel_rfl) (fun K hK => ?_)
          go_simp
          first | (refine hK _ ?_; clear hK K) | (apply Exists.intro; refine ⟨fun x => ?_, hK _ ?_⟩; (fail); clear hK K)
          refine Mix.done (by kernel_rfl) (.of_below _ HB10.out) ?_
          intro w11 hb11
          have HU11 := Lib.hid (HQ.out.1.on (bt HB10.out hb11))
          have hZ11 := HZ10.out.below hb11
          clear hb11
          obtain ⟨m0, m1, m2, m3⟩ := hZ11.cells
          have m4 := hZ11.lt
          clear hZ11
          obtain ⟨t0, t1, t2, t3⟩ := HU11.out.k1.cells
          have t4 := HU11.out.k1.lt
          have u0 := HU11.out.k1.fz 0; have u1 := HU11.out.k1.fz 1; have u2 := HU11.out.k1.fz 2; have u3 := HU11.out.k1.fz 3
          have HU12 := Lib.hid (show SU w3 w3 _ b0 b1 (fun k => T k + kS xs k) from ⟨HU11.out.bel.trans ((ks_chg w11 b1 (.int .i64 (T 0 + kS xs 0)) (.int .i64 (T 1 + kS xs 1)) (.int .i64 (T 2 + kS xs 2)) (.int .i64 (T 3 + kS xs 3))).below (Nat.le_of_lt HU11.out.k0.lt) fun k e => by rw [e]; have := HDS.out; omega), HU11.out.k0.chg (ks_chg w11 b1 _ _ _ _) (by have := HDS.out; show ¬ b0 = b1; omega), HU11.out.k1.set4 (fun k => T k + kS xs k), HU11.out.ch.same (ks_chg w11 b1 _ _ _ _)⟩)
          go_wp2
          go_roundw
          case rel => exact ⟨t + 1, _, by omega, by go_num, Lib.hid ⟨HU12.out, HOK.out, HNX.out⟩⟩
          case measure => simp [intOf]; omega
        · have HAD := Lib.hid (refadd_both T (kS xs) false HQ.out.2.1 (kS_ok HXX.out.1) (decide_eq_false hok))
          have HNX := Lib.hid (show Z4 = sumP (S.map Ofr.pl) f from by have := HQS.out; rw [sumT, if_neg hok] at this; exact this)
          clear hok
          go_wp2
          refine Mix.regionC (fun _ => False) (by kernel_rfl) ?_
          intro w6 hb6
          refine Mix.take_exC _ _ 0 rfl (by kernel_rfl) (by kernel_rfl) (by kernel_rfl) (by kernel_rfl) (fun K hK => ?_)
          go_simp
          first | (refine hK _ ?_; clear hK K) | (apply Exists.intro; refine ⟨fun x => ?_, hK _ ?_⟩; (fail); clear hK K)
          refine Mix.take_exC _ _ 1 rfl (by kernel_rfl) (by kernel_rfl) (by kernel_rfl) (by kernel_rfl) (fun K hK => ?_)
          go_simp
          first | (refine hK _ ?_; clear hK K) | (apply Exists.intro; refine ⟨fun x => ?_, hK _ ?_⟩; (fail); clear hK K)
          refine Mix.take_exC _ _ 2 rfl (by kernel_rfl) (by kernel_rfl) (by kernel_rfl) (by kernel_rfl) (fun K hK => ?_)
          go_simp
          first | (refine hK _ ?_; clear hK K) | (apply Exists.intro; refine ⟨fun x => ?_, hK _ ?_⟩; (fail); clear hK K)
          refine Mix.take_exC _ _ 3 rfl (by kernel_rfl) (by kernel_rfl) (by kernel_rfl) (by kernel_rfl) (fun K hK => ?_)
          go_simp
          first | (refine hK _ ?_; clear hK K) | (apply Exists.intro; refine ⟨fun x => ?_, hK _ ?_⟩; (fail); clear hK K)
          refine Mix.take_exC _ _ 4 rfl (by kernel_rfl) (by kernel_rfl) (by kernel_rfl) (by kernel_rfl) (fun K hK => ?_)
          go_simp
          first | (refine hK _ ?_; clear hK K) | (apply Exists.intro; refine ⟨fun x => ?_, hK _ ?_⟩; (fail); clear hK K)
          refine Mix.take_exC _ _ 5 rfl (by kernel_rfl) (by kernel_rfl) (by kernel_rfl) (by kernel_rfl) (fun K hK => ?_)
          go_simp
          first | (refine hK _ ?_; clear hK K) | (apply Exists.intro; refine ⟨fun x => ?_, hK _ ?_⟩; (fail); clear hK K)
          refine Mix.take_exC _ _ 6 rfl (by kernel_rfl) (by kernel_rfl) (by kernel_rfl) (by kernel_rfl) (fun K hK => ?_)
          go_simp
          first | (refine hK _ ?_; clear hK K) | (apply Exists.intro; refine ⟨fun x => ?_, hK _ ?_⟩; (fail); clear hK K)
          refine Mix.take_exC _ _ 7 rfl (by kernel_rfl) (by kernel_rfl) (by kernel_rfl) (by kernel_rfl) (fun K hK => ?_)
          go_simp
          first | (refine hK _ ?_; clear hK K) | (apply Exists.intro; refine ⟨fun x => ?_, hK _ ?_⟩; (((go_at_call 95; with_reducible exact HOF.out _))); clear hK K)
          refine Mix.take_exC _ _ 8 rfl (by kernel_rfl) (by kernel_rfl) (by kernel_rfl) (by kernel_rfl) (fun K hK => ?_)
          go_simp
          first | (refine hK _ ?_; clear hK K) | (apply Exists.intro; refine ⟨fun x => ?_, hK _ ?_⟩; (((go_at_call 94; with_reducible exact HAD.out _))); clear hK K)
          refine Mix.take_exC _ _ 9 rfl (by kernel_rfl) (by kernel_rfl) (by kernel_rfl) (by kernel_rfl) (fun K hK => ?_)
          go_simp
          first | (refine hK _ ?_; clear hK K) | (apply Exists.intro; refine ⟨fun x => ?_, hK _ ?_⟩; (fail); clear hK K)
          refine Mix.take_exC _ _ 10 rfl (by kernel_rfl) (by kernel_rfl) (by kernel_rfl) (by kernel_rfl) (fun K hK => ?_)
          go_simp
          first | (refine hK _ ?_; clear hK K) | (apply Exists.intro; refine ⟨fun x => ?_, hK _ ?_⟩; (fail); clear hK K)
          refine Mix.take_exC _ _ 11 rfl (by kernel_rfl) (by kernel_rfl) (by kernel_rfl) (by kernel_rfl) (fun K hK => ?_)
          go_simp
          first | (refine hK _ ?_; clear hK K) | (apply Exists.intro; refine ⟨fun x => ?_, hK _ ?_⟩; (fail); clear hK K)
          clear t0 t1 t2 t3 t4 d3
          refine Mix.all (rs := [12]) (by kernel_rfl) (by simp) (.of_below _ hb6) ?_
          intro i7 hi7 w7 hb7 hC7
          simp only [List.mem_cons, List.not_mem_nil, or_false] at hi7
          subst hi7
          have HB7 := Lib.hid (bt hb6 hb7)
          clear hC7 hb6 hb7
          refine Mix.op rfl (by kernel_rfl) ?_
          go_simp
          have hz8 := KS.made w7 Z4 36
          have hb78 := ba HB7.out (.cells (C4 Z4) 36)
          generalize w7.alloc (.cells (C4 Z4) 36) = w8 at *
          obtain ⟨q, hq⟩ : ∃ b, b = w7.heap.size := ⟨_, rfl⟩
          rw [← hq] at hz8 ⊢
          have HG7 := Lib.hid (show w4.heap.size ≤ q by rw [hq]; exact HB7.out.size)
          have HZ8 := Lib.hid hz8; have HB8 := Lib.hid hb78
          clear hz8 hb78 hq
          refine Mix.all (rs := [13]) (by kernel_rfl) (by simp) (.of_below _ HB8.out) ?_
          intro i9 hi9 w9 hb9 hC9
          simp only [List.mem_cons, List.not_mem_nil, or_false] at hi9
          subst hi9
          have HB9 := Lib.hid (bt HB8.out hb9)
          have hz9 := HZ8.out.below hb9
          clear hC9 hb9
          obtain ⟨m0, m1, m2, m3⟩ := hz9.cells
          have o0 := hz9.fz 0; have o1 := hz9.fz 1; have o2 := hz9.fz 2; have o3 := hz9.fz 3
          have m4 := hz9.lt
          have HST := Lib.hid (ks_chg w9 q (.int .i64 (Z4 0)) (.int .i64 (Z4 1)) (.int .i64 (Z4 2)) (.int .i64 (Z4 3)))
          have HZ10 := Lib.hid (hz9.set4 Z4)
          clear hz9
          refine Mix.op rfl (by kernel_rfl) ?_
          go_simp
          clear m0 m1 m2 m3 m4 o0 o1 o2 o3
          (try dsimp only at HST HZ10)
          generalize (((w9.setCell ⟨q, 0, none⟩ _).setCell ⟨q, 1, none⟩ _).setCell ⟨q, 2, none⟩ _).setCell ⟨q, 3, none⟩ _ = w10 at *
          have HB10 := Lib.hid (show Below w4.heap.size w4 w10 from HB9.out.trans (HST.out.below HB9.out.size fun k e => by have e : k = q := e; have := HG7.out; omega))
          refine Mix.take_exC _ _ 14 rfl (by kernel_rfl) (by kernel_rfl) (by kernel_rfl) (by kernel_rfl) (fun K hK => ?_)
          go_simp
          first | (refine hK _ ?_; clear hK K) | (apply Exists.intro; refine ⟨fun x => ?_, hK _ ?_⟩; (fail); clear hK K)
          refine Mix.done (by kernel_rfl) (.of_below _ HB10.out) ?_
          intro w11 hb11
          have HU11 := Lib.hid (HQ.out.1.on (bt HB10.out hb11))
          have hZ11 := HZ10.out.below hb11
          clear hb11
          obtain ⟨m0, m1, m2, m3⟩ := hZ11.cells
          have m4 := hZ11.lt
          clear hZ11
          obtain ⟨t0, t1, t2, t3⟩ := HU11.out.k0.cells
          have t4 := HU11.out.k0.lt
          have u0 := HU11.out.k0.fz 0; have u1 := HU11.out.k0.fz 1; have u2 := HU11.out.k0.fz 2; have u3 := HU11.out.k0.fz 3
          have HR0 := Lib.hid (HU11.out.k0.set4 Z4)
          have HB12 := Lib.hid (HU11.out.bel.trans ((ks_chg w11 b0 (.int .i64 0) (.int .i64 0) (.int .i64 0) (.int .i64 0)).below (Nat.le_of_lt HU11.out.k0.lt) fun k e => by rw [e]; exact Nat.le_refl _))
          go_wp2
          refine bodyPost_ret (res_s4 Try.results46 rfl HR0.out) rfl ?_
          exact ⟨by rw [← HNX.out], by rw [← HBQ.out]; exact HB3.out.trans (HB12.out.mono (by have := HDS.out; omega))⟩
      · have heb : (xf == f) = false := by simpa using he
        have HNX := Lib.hid (show sumT T (((S.drop (t + 1)).filter fun x => x.frame == f).map Ofr.ps) = sumP (S.map Ofr.pl) f from by
          have := hHQS; rw [List.filter_cons, if_neg (by show ¬ (xf == f) = true; rw [heb]; simp)] at this; exact this)
        clear hHQS he hSU
        go_wp2
        go_roundw
        case rel => exact ⟨t + 1, T, by omega, by go_num, Lib.hid ⟨HQ.out.1, HQ.out.2.1, HNX.out⟩⟩
        case measure => simp [intOf]; omega
    · obtain rfl : n = t := by omega
      have HF := Lib.hid (show T = sumP (S.map Ofr.pl) f from by have := HQ.out.2.2; rw [List.drop_eq_nil_of_le (by rw [← HN.out]; exact Nat.le_refl _)] at this; exact this)
      obtain ⟨t0, t1, t2, t3⟩ := hSU.k1.cells
      have t4 := hSU.k1.lt
      obtain ⟨r0, r1, r2, r3⟩ := hSU.k0.cells
      have r4 := hSU.k0.lt
      have g0 := hSU.k0.fz 0; have g1 := hSU.k0.fz 1; have g2 := hSU.k0.fz 2; have g3 := hSU.k0.fz 3
      have HR0 := Lib.hid (hSU.k0.set4 T)
      have HB12 := Lib.hid (hSU.bel.trans ((ks_chg w4 b0 (.int .i64 (T 0)) (.int .i64 (T 1)) (.int .i64 (T 2)) (.int .i64 (T 3))).below (Nat.le_of_lt hSU.k0.lt) fun k e => by rw [e]; exact Nat.le_refl _))
      clear hSU
      go_wp2
      refine bodyPost_ret (res_s4 Try.results46 rfl HR0.out) rfl ?_
      exact ⟨by rw [← HF.out], by rw [← HBQ.out]; exact HB3.out.trans (HB12.out.mono (by have := HDS.out; omega))⟩
end
end Go.Proofs.Ytnckjacbkhoppaa

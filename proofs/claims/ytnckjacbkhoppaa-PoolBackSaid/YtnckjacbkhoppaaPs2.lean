/- pool: what the law PoolSums reckons. -/
import Derived.Test.YtnckjacbkhoppaaPs1
namespace Go.Proofs.Ytnckjacbkhoppaa
open Go.RowKit Go.Maps
attribute [local go_sem] ext_cell ext_frozen extC_cell extC_frozen Mix.calmUpon Mix.mUpon
/-- A block that holds four numbers. -/
def KS (w : World) (b : Nat) (a : Nat → Int) : Prop := ∃ A, w.heap[b]? = some (.cells (C4 a) A (0, 0))
section
variable {w w' : World} {b : Nat} {a : Nat → Int}
theorem KS.made (w : World) (a : Nat → Int) (A : TypeId) : KS (w.alloc (.cells (C4 a) A)) w.heap.size a := ⟨A, heap_alloc_new w _⟩
theorem KS.lt (h : KS w b a) : b < w.heap.size := by obtain ⟨A, h⟩ := h; exact (Array.getElem?_eq_some_iff.1 h).1
theorem KS.chg {F : Nat → Prop} (h : KS w b a) (hb : Chg F w w') (hf : ¬ F b) : KS w' b a := by have hl := h.lt; obtain ⟨A, h⟩ := h; exact ⟨A, (hb.block _ hl hf).trans h⟩
theorem KS.below (h : KS w b a) (hb : Below w.heap.size w w') : KS w' b a := h.chg (.of_below (fun _ => False) hb) id
theorem KS.cells (h : KS w b a) : w.cell? ⟨b, 0, none⟩ = some (.int .i64 (a 0)) ∧ w.cell? ⟨b, 1, none⟩ = some (.int .i64 (a 1)) ∧ w.cell? ⟨b, 2, none⟩ = some (.int .i64 (a 2)) ∧ w.cell? ⟨b, 3, none⟩ = some (.int .i64 (a 3)) := by obtain ⟨A, h⟩ := h; simp [World.cell?, h]
theorem KS.fz (h : KS w b a) (o : Nat) : w.frozen? ⟨b, o, none⟩ = false := by obtain ⟨A, h⟩ := h; simp [World.frozen?, h]
theorem KS.set4 (h : KS w b a) (x : Nat → Int) : KS ((((w.setCell ⟨b, 0, none⟩ (.int .i64 (x 0))).setCell ⟨b, 1, none⟩ (.int .i64 (x 1))).setCell ⟨b, 2, none⟩ (.int .i64 (x 2))).setCell ⟨b, 3, none⟩ (.int .i64 (x 3))) b x := by
  obtain ⟨A, h⟩ := h
  exact ⟨A, heap_setCell_at _ (heap_setCell_at _ (heap_setCell_at _ (heap_setCell_at _ h)))⟩
theorem ks_chg (w : World) (b : Nat) (u0 u1 u2 u3 : Value) : Chg (fun k => k = b) w ((((w.setCell ⟨b, 0, none⟩ u0).setCell ⟨b, 1, none⟩ u1).setCell ⟨b, 2, none⟩ u2).setCell ⟨b, 3, none⟩ u3) :=
  ((((Chg.refl (fun k => k = b) w).setCell (p := ⟨b, 0, none⟩) (.inl rfl) _).setCell (p := ⟨b, 1, none⟩) (.inl rfl) _).setCell (p := ⟨b, 2, none⟩) (.inl rfl) _).setCell (p := ⟨b, 3, none⟩) (.inl rfl) _
theorem KS.load (h : KS w b a) : (loadVar 37 ⟨b, 0, none⟩).run Try.prog w = .ok (S4 a) w := by
  obtain ⟨h0, h1, h2, h3⟩ := h.cells
  have hs := h.lt
  simp [go_sem, h0, h1, h2, h3, hs]
theorem res_s {fn : Func} {tmps : Array Value} {p : Nat} (h : fn.results = #[.cell p 37]) (hp : tmps.getD p undef = .pointer (some ⟨b, 0, none⟩)) (hb : KS w b a) :
    (results fn tmps).run Try.prog w = .ok (S4 a) w := by
  simp only [results, h]
  have hp' : tmps[p]?.getD undef = .pointer (some ⟨b, 0, none⟩) := by simpa [Array.getD_eq_getD_getElem?] using hp
  simp [Sem.run_bind, Result.andThen, hp', asAddr, hb.load]
end
set_option maxRecDepth 100000 in
theorem eq4 (a0 a1 a2 a3 b0 b1 b2 b3 : Int) (w : World) : (Op.equalIn 10000 37 (.agg #[.int .i64 a0, .int .i64 a1, .int .i64 a2, .int .i64 a3]) (.agg #[.int .i64 b0, .int .i64 b1, .int .i64 b2, .int .i64 b3])).run Try.prog w = .ok (a0 == b0 && (a1 == b1 && (a2 == b2 && a3 == b3))) w := by
  have u3 := Try.underlying2
  have a3' := Try.isAgg2
  have z3 := Try.sizeOf2
  rw [show (10000 : Nat) = 9999 + 1 from rfl, Op.equalIn]
  simp only [Sem.run_bind, run_underlying Try.underlying37, Result.andThen_ok]
  simp only [Std.Legacy.Range.forIn_eq_forIn_range', Std.Legacy.Range.size, Nat.sub_zero, Nat.add_sub_cancel, Nat.div_one, List.range'_succ, List.range'_zero, List.forIn_cons, List.forIn_nil]
  go_simp
  by_cases h1 : a0 = b0 <;> by_cases h2 : a1 = b1 <;> by_cases h3 : a2 = b2 <;> by_cases h4 : a3 = b3 <;> simp [h1, h2, h3, h4]
attribute [local go_sem] eq4
/-- Where adding up stands: b1 the total's block. -/
structure SV (W wr : World) (b1 : Nat) (T : Nat → Int) : Prop where
  bel : Below W.heap.size W wr
  new : W.heap.size ≤ b1
  k1 : KS wr b1 T
theorem SV.on {W wr w' : World} {b1 : Nat} {T : Nat → Int} (h : SV W wr b1 T) (hb : Below wr.heap.size wr w') : SV W w' b1 T := ⟨h.bel.trans (hb.mono h.bel.size), h.new, h.k1.below hb⟩
theorem SV.set (W w11 : World) {b1 : Nat} {T : Nat → Int} (h : SV W w11 b1 T) (x : Nat → Int) : SV W ((((w11.setCell ⟨b1, 0, none⟩ (.int .i64 (x 0))).setCell ⟨b1, 1, none⟩ (.int .i64 (x 1))).setCell ⟨b1, 2, none⟩ (.int .i64 (x 2))).setCell ⟨b1, 3, none⟩ (.int .i64 (x 3))) b1 x :=
  ⟨h.bel.trans ((ks_chg w11 b1 _ _ _ _).below h.bel.size fun k e => by have e : k = b1 := e; rw [e]; exact h.new), h.new, h.k1.set4 x⟩
theorem sums_eq {P : List Pt} {a : Nat → Int} (h : ∀ j : Nat, a j = kS P j) : S4 a = S4 (kS P) := s4_congr fun j _ => h j
set_option maxRecDepth 100000 in
set_option maxHeartbeats 4000000 in
theorem sums15 (W : World) {pv ov : Value} {P : List Pt} {l : List Po} (role : Int) (hA : Vc W pv P) (hO : OL W ov l) (hI : ∀ x ∈ l, I64s x.ps) : Calls Try.prog 4 #[pv, .int .i64 role, ov] W fun e W' => e = .returned (.bool true) ∧ Below W.heap.size W W' := by
  have HF := Lib.hid (few15 hO hA)
  have HO := Lib.hid hO; have HA := Lib.hid hA; have HI := Lib.hid hI
  obtain ⟨a, n, c, rfl, hn, hc, hm, hat⟩ := hO.rs.at_
  obtain ⟨pa, pc, rfl, -, -⟩ := hA.form
  have hn9 : n ≤ 9223372036854775807 := by unfold maxLen at hm; omega
  have HN := Lib.hid hn; have HAT := Lib.hid hat
  clear hO hA hI hn hc hm hat
  obtain ⟨pm, hpm⟩ : ∃ m, m = P.length := ⟨_, rfl⟩
  rw [← hpm] at HF HA ⊢
  have HPM := Lib.hid hpm
  clear hpm
  go_enter Try.func4, Try.ntmps4
  go_wp2_with fail
  refine HF.out.mono ?_
  rintro e w1 ⟨rfl, hb1⟩
  have HB1 := Lib.hid hb1
  clear hb1
  by_cases hfw : pm ≤ 150 ∧ FewO l
  · rw [show (decide (pm ≤ 150) && decide (FewO l)) = true from by simp [hfw.1, hfw.2]]
    have HW := Lib.hid hfw
    have HG := Lib.hid (show OG l from fun x hx => ⟨HI.out x hx, by have := hfw.2.2 x hx; omega⟩)
    clear hfw
    have HR := Lib.hid (Run_any role (by have := HW.out.1; have := HPM.out; omega) (HA.out.on HB1.out) (HO.out.below HB1.out) HG.out)
    obtain ⟨rl, hrl⟩ : ∃ r, r = runS P role (l.map Po.pl) := ⟨_, rfl⟩
    rw [← hrl] at HR
    have HRK := Lib.hid (run_ok P role (l.map Po.pl))
    rw [← hrl] at HRK
    clear hrl
    obtain ⟨rl, re⟩ := rl
    go_wp2_with fail
    refine HR.out.mono ?_
    rintro e w2 ⟨rv, rfl, hrv, hb2⟩
    obtain ⟨ra, rc, rfl, -, -⟩ := hrv.form
    have HRV := Lib.hid hrv; have HB2 := Lib.hid (bt HB1.out hb2)
    clear hrv hb2
    have HM := Lib.hid (Moved_any role (by have := HW.out.1; have := HPM.out; omega) (HA.out.on HB2.out) (HO.out.below HB2.out) HG.out (by have := HW.out.2.1; omega))
    obtain ⟨ml, hml⟩ : ∃ r, r = movS P role (l.map Po.pl) := ⟨_, rfl⟩
    rw [← hml] at HM
    have HMK := Lib.hid (mov_ok P role (l.map Po.pl))
    rw [← hml] at HMK
    clear hml
    obtain ⟨ml, me⟩ := ml
    obtain ⟨rm, hrm⟩ : ∃ m, m = rl.length := ⟨_, rfl⟩
    rw [← hrm] at HRV ⊢
    have HRM := Lib.hid hrm
    clear hrm
    go_wp2_with fail
    refine HM.out.mono ?_
    rintro e w3 ⟨mv, rfl, hmv, hb3⟩
    obtain ⟨ma, mc, rfl, -, -⟩ := hmv.form
    obtain ⟨mm, hmm⟩ : ∃ m, m = ml.length := ⟨_, rfl⟩
    rw [← hmm] at hmv ⊢
    have HMV := Lib.hid hmv; have HB3 := Lib.hid (bt HB2.out hb3); have HRV3 := Lib.hid (HRV.out.on hb3)
    clear hmv hb3 hmm HRV HM HR HF
    by_cases hme : me = 0
    · subst hme
      have hmk := HMK.out rfl
      have HO1 := Lib.hid (sumsW _ ml hmk.2.1 _ HMV.out)
      rw [sums_eq hmk.2.2] at HO1
      have HO2 := Lib.hid fun (X : World) (hX : Below w3.heap.size w3 X) => sumsW _ P hmk.1 X ((HA.out.on HB3.out).on hX)
      obtain ⟨K, hK⟩ : ∃ K, K = kS P := ⟨_, rfl⟩
      rw [← hK] at HO1 HO2
      clear hmk hK
      go_wp2_with fail
      refine HO1.out.mono ?_
      rintro e w4 ⟨rfl, hb4⟩
      have HB4 := Lib.hid (bt HB3.out hb4); have HRV4 := Lib.hid (HRV3.out.on hb4)
      have HQ2 := Lib.hid (HO2.out w4 hb4)
      clear hb4 HO1 HO2
      go_wp2_with fail
      refine HQ2.out.mono ?_
      rintro e w5 ⟨rfl, hb5⟩
      have HB5 := Lib.hid (bt HB4.out hb5); have HRV5 := Lib.hid (HRV4.out.on hb5)
      clear hb5 HQ2 HRV4
      have k0 : (K 0 == K 0) = true := beq_self_eq_true _
      have k1 : (K 1 == K 1) = true := beq_self_eq_true _
      have k2 : (K 2 == K 2) = true := beq_self_eq_true _
      have k3 : (K 3 == K 3) = true := beq_self_eq_true _
      by_cases hre : re = 0
      · subst hre
        obtain ⟨hvp, hok, hvr, hkk⟩ := HRK.out.2 rfl
        have HSO := Lib.hid (show ∀ t : Nat, SOk fun j => kS rl j + kL ((l.map Po.pl).take t) j from fun t => sok_all fun j _ => by
          have h1 := kL_take hok t j
          have h2 := kS_bd hvp j
          have h3 := kS_bd hvr j
          have h4 := hkk j
          unfold KOk
          dsimp only
          refine ⟨?_, ?_⟩ <;> omega)
        have HVX := Lib.hid (show ∀ x ∈ l, VR x.ps from fun x hx => (of_decide_eq_true (hok _ (List.mem_map_of_mem hx))).2.2.2)
        have HKK := Lib.hid hkk
        have HVP := Lib.hid hvp
        have HO3 := Lib.hid (sumsW _ rl hvr _ HRV5.out)
        clear HRK hvp hok hvr hkk
        go_wp2_with fail
        refine HO3.out.mono ?_
        rintro e w6 ⟨rfl, hb6⟩
        have hb7 := bt HB5.out hb6
        have hs := KS.made w6 (kS rl) 37
        have HS7 := Lib.hid (show SV W (w6.alloc (.cells (C4 (kS rl)) 37)) w6.heap.size (fun j => kS rl j + kL ((l.map Po.pl).take 0) j) from ⟨bt hb7 (ba (Below.refl _ _) _), hb7.size, by
          rw [show (fun j : Nat => kS rl j + kL ((l.map Po.pl).take 0) j) = kS rl from funext fun j => Int.add_zero _]; exact hs⟩)
        clear hb6 hb7 hs HO3
        go_wp2
        obtain ⟨b1, hb1⟩ : ∃ b, b = w6.heap.size := ⟨_, rfl⟩
        rw [← hb1] at HS7 ⊢
        clear hb1
        generalize w6.alloc (.cells (C4 (kS rl)) 37) = w7 at *
        go_loopw [12] (fun iv wr => ∃ (t : Nat), t ≤ n ∧ iv = .int .i64 t ∧ Hid (SV W wr b1 (fun j => kS rl j + kL ((l.map Po.pl).take t) j))) (fun iv _ => n - (intOf iv).toNat)
        case atStart => exact ⟨0, Nat.zero_le _, rfl, HS7⟩
        case round =>
          clear HS7
          obtain ⟨t, ht, rfl, HQ⟩ := hrel
          obtain ⟨w5, rfl⟩ : ∃ w5, w5 = wr := ⟨_, rfl⟩
          obtain ⟨t0, t1, t2, t3⟩ := HQ.out.k1.cells
          have t4 := HQ.out.k1.lt
          by_cases hlt : t < n
          · have hts : (t : Int) < (n : Int) := by omega
            obtain ⟨x, hx⟩ := at_lt (l := l) (i := t) (by rw [← HN.out]; exact hlt)
            obtain ⟨bs, off, rfl, hbs, hcell⟩ := HAT.out t x hx
            have c0 := (HQ.out.bel.cell (p := ⟨bs, _, none⟩) hbs).trans (hcell 0 _ rfl)
            have c2 := (HQ.out.bel.cell (p := ⟨bs, _, none⟩) hbs).trans (hcell 2 _ rfl)
            simp only [Nat.add_zero] at c0
            have c4 : bs < w5.heap.size := Nat.lt_of_lt_of_le hbs HQ.out.bel.size
            have HTK := Lib.hid (show (l.map Po.pl).take (t + 1) = (l.map Po.pl).take t ++ [x.pl] from by
              rw [take_at (x := x.pl) (by rw [List.getElem?_map, hx]; rfl)])
            have HXV := Lib.hid ((HO.out.vec x (mem_at hx)).on HQ.out.bel)
            have HXR := Lib.hid (HVX.out x (mem_at hx))
            obtain ⟨xk, xi, xv, xs⟩ := x
            obtain ⟨va, vc, hvv, -, -⟩ := HXV.out.form
            simp only at hvv c2 c0 HXV HXR
            subst hvv
            clear hcell hbs hx
            obtain ⟨m, hm⟩ : ∃ m, m = xs.length := ⟨_, rfl⟩
            rw [← hm] at c2 HXV
            clear hm
            by_cases hk : xk = 1
            · have hkb : (xk == 1) = true := by simp [hk]
              have HNX := Lib.hid (show (fun j : Nat => kS rl j + kL ((l.map Po.pl).take (t + 1)) j) = fun j : Nat => (kS rl j + kL ((l.map Po.pl).take t) j) + kS xs j from funext fun j => by
                rw [HTK.out, kL_append]; show _ + (_ + ((if xk = 1 then kS xs j else 0) + 0)) = _; rw [if_pos hk]; omega)
              have HS1 := Lib.hid (HSO.out t)
              have HS2 := Lib.hid (show SOk fun j : Nat => (kS rl j + kL ((l.map Po.pl).take t) j) + kS xs j from by have := HSO.out (t + 1); rw [HNX.out] at this; exact this)
              clear hk
              obtain ⟨T, hT⟩ : ∃ T : Nat → Int, T = fun j => kS rl j + kL ((l.map Po.pl).take t) j := ⟨_, rfl⟩
              have HQT := Lib.hid (show SV W w5 b1 T from by rw [hT]; exact HQ.out)
              have HT1 := Lib.hid (show SOk T from by rw [hT]; exact HS1.out)
              have HT2 := Lib.hid (show SOk fun j => T j + kS xs j from by rw [hT]; exact HS2.out)
              have HT3 := Lib.hid (show (fun j : Nat => kS rl j + kL ((l.map Po.pl).take (t + 1)) j) = fun j : Nat => T j + kS xs j from by rw [hT]; exact HNX.out)
              clear HQ HS1 HS2 HNX HTK t0 t1 t2 t3 t4 hT
              obtain ⟨t0, t1, t2, t3⟩ := HQT.out.k1.cells
              have t4 := HQT.out.k1.lt
              have HOF := Lib.hid fun x : ExtC w5 (fun _ => False) => sumsW (.slice va m vc) xs HXR.out (extC w5 _ x) (HXV.out.on ((extC_chg w5 _ x).below (Nat.le_refl _) fun k h => h.elim))
              have HAD := Lib.hid (add_both T (kS xs) true HT1.out (kS_ok HXR.out) (decide_eq_true HT2.out))
              go_wp2
              refine Mix.regionC (fun _ => False) (by kernel_rfl) ?_
              intro w6 hb6
              refine Mix.take_exC _ _ 0 rfl (by kernel_rfl) (by kernel_rfl) (by kernel_rfl) (by kernel_rfl) (fun K hK => ?_)
              go_simp
              first | (refine hK _ ?_; clear hK K) | (apply Exists.intro; refine ⟨fun x => ?_, hK _ ?_⟩; (fail); clear hK K)
              refine Mix.take_exC _ _ 1 rfl (by kernel_rfl) (by kernel_rfl) (by kernel_rfl) (by kernel_rfl) (fun K hK => ?_)
              go_simp
              first | (refine hK _ ?_; clear hK K) | (apply Exists.intro; refine ⟨fun x => ?_, hK _ ?_⟩; (fail); clear hK K)
              refine Mix.take_exC _ _ 2 rfl (by kernel_rfl) (by kernel_rfl) (by kernel_rfl) (by kernel_rfl) (fun K hK => ?_)
              go_simp
              first | (refine hK _ ?_; clear hK K) | (apply Exists.intro; refine ⟨fun x => ?_, hK _ ?_⟩; (fail); clear hK K)
              refine Mix.take_exC _ _ 3 rfl (by kernel_rfl) (by kernel_rfl) (by kernel_rfl) (by kernel_rfl) (fun K hK => ?_)
              go_simp
              first | (refine hK _ ?_; clear hK K) | (apply Exists.intro; refine ⟨fun x => ?_, hK _ ?_⟩; (fail); clear hK K)
              refine Mix.take_exC _ _ 4 rfl (by kernel_rfl) (by kernel_rfl) (by kernel_rfl) (by kernel_rfl) (fun K hK => ?_)
              go_simp
              first | (refine hK _ ?_; clear hK K) | (apply Exists.intro; refine ⟨fun x => ?_, hK _ ?_⟩; (fail); clear hK K)
              refine Mix.take_exC _ _ 5 rfl (by kernel_rfl) (by kernel_rfl) (by kernel_rfl) (by kernel_rfl) (fun K hK => ?_)
              go_simp
              first | (refine hK _ ?_; clear hK K) | (apply Exists.intro; refine ⟨fun x => ?_, hK _ ?_⟩; (fail); clear hK K)
              refine Mix.take_exC _ _ 6 rfl (by kernel_rfl) (by kernel_rfl) (by kernel_rfl) (by kernel_rfl) (fun K hK => ?_)
              go_simp
              first | (refine hK _ ?_; clear hK K) | (apply Exists.intro; refine ⟨fun x => ?_, hK _ ?_⟩; (((go_at_call 23; with_reducible exact HOF.out _))); clear hK K)
              refine Mix.take_exC _ _ 7 rfl (by kernel_rfl) (by kernel_rfl) (by kernel_rfl) (by kernel_rfl) (fun K hK => ?_)
              go_simp
              first | (refine hK _ ?_; clear hK K) | (apply Exists.intro; refine ⟨fun x => ?_, hK _ ?_⟩; (((go_at_call 24; with_reducible exact HAD.out _))); clear hK K)
              refine Mix.take_exC _ _ 8 rfl (by kernel_rfl) (by kernel_rfl) (by kernel_rfl) (by kernel_rfl) (fun K hK => ?_)
              go_simp
              first | (refine hK _ ?_; clear hK K) | (apply Exists.intro; refine ⟨fun x => ?_, hK _ ?_⟩; (fail); clear hK K)
              refine Mix.take_exC _ _ 9 rfl (by kernel_rfl) (by kernel_rfl) (by kernel_rfl) (by kernel_rfl) (fun K hK => ?_)
              go_simp
              first | (refine hK _ ?_; clear hK K) | (apply Exists.intro; refine ⟨fun x => ?_, hK _ ?_⟩; (fail); clear hK K)
              refine Mix.take_exC _ _ 10 rfl (by kernel_rfl) (by kernel_rfl) (by kernel_rfl) (by kernel_rfl) (fun K hK => ?_)
              go_simp
              first | (refine hK _ ?_; clear hK K) | (apply Exists.intro; refine ⟨fun x => ?_, hK _ ?_⟩; (fail); clear hK K)
              clear c0 c2 c4 t0 t1 t2 t3 t4
              refine Mix.all (rs := [11]) (by kernel_rfl) (by simp) (.of_below _ hb6) ?_
              intro i7 hi7 w7 hb7 hC7
              simp only [List.mem_cons, List.not_mem_nil, or_false] at hi7
              subst hi7
              have HB7 := Lib.hid (bt hb6 hb7)
              clear hC7 hb6 hb7
              refine Mix.op rfl (by kernel_rfl) ?_
              go_simp
              have hz8 := KS.made w7 Z4 37
              have hb78 := ba HB7.out (.cells (C4 Z4) 37)
              generalize w7.alloc (.cells (C4 Z4) 37) = w8 at *
              obtain ⟨q, hq⟩ : ∃ b, b = w7.heap.size := ⟨_, rfl⟩
              rw [← hq] at hz8 ⊢
              have HG7 := Lib.hid (show w5.heap.size ≤ q by rw [hq]; exact HB7.out.size)
              have HZ8 := Lib.hid hz8; have HB8 := Lib.hid hb78
              clear hz8 hb78 hq
              refine Mix.all (rs := [12]) (by kernel_rfl) (by simp) (.of_below _ HB8.out) ?_
              intro i9 hi9 w9 hb9 hC9
              simp only [List.mem_cons, List.not_mem_nil, or_false] at hi9
              subst hi9
              have HB9 := Lib.hid (bt HB8.out hb9)
              have hz9 := HZ8.out.below hb9
              clear hC9 hb9
              obtain ⟨m0, m1, m2, m3⟩ := hz9.cells
              have o0 := hz9.fz 0; have o1 := hz9.fz 1; have o2 := hz9.fz 2; have o3 := hz9.fz 3
              have m4 := hz9.lt
              have HST := Lib.hid (ks_chg w9 q (.int .i64 ((fun k => T k + kS xs k) 0)) (.int .i64 ((fun k => T k + kS xs k) 1)) (.int .i64 ((fun k => T k + kS xs k) 2)) (.int .i64 ((fun k => T k + kS xs k) 3)))
              have HZ10 := Lib.hid (hz9.set4 (fun k => T k + kS xs k))
              clear hz9
              refine Mix.op rfl (by kernel_rfl) ?_
              go_simp
              clear m0 m1 m2 m3 m4 o0 o1 o2 o3
              (try dsimp only at HST HZ10)
              generalize (((w9.setCell ⟨q, 0, none⟩ _).setCell ⟨q, 1, none⟩ _).setCell ⟨q, 2, none⟩ _).setCell ⟨q, 3, none⟩ _ = w10 at *
              have HB10 := Lib.hid (show Below w5.heap.size w5 w10 from HB9.out.trans (HST.out.below HB9.out.size fun k e => by have e : k = q := e; have := HG7.out; omega))
              refine Mix.take_exC _ _ 13 rfl (by kernel_rfl) (by kernel_rfl) (by kernel_rfl) (by kernel_rfl) (fun K hK => ?_)
              go_simp
              first | (refine hK _ ?_; clear hK K) | (apply Exists.intro; refine ⟨fun x => ?_, hK _ ?_⟩; (fail); clear hK K)
              refine Mix.done (by kernel_rfl) (.of_below _ HB10.out) ?_
              intro w11 hb11
              have HU11 := Lib.hid (HQT.out.on (bt HB10.out hb11))
              have hZ11 := HZ10.out.below hb11
              clear hb11
              obtain ⟨m0, m1, m2, m3⟩ := hZ11.cells
              have m4 := hZ11.lt
              clear hZ11
              obtain ⟨t0, t1, t2, t3⟩ := HU11.out.k1.cells
              have t4 := HU11.out.k1.lt
              have u0 := HU11.out.k1.fz 0; have u1 := HU11.out.k1.fz 1; have u2 := HU11.out.k1.fz 2; have u3 := HU11.out.k1.fz 3
              have HU12 := Lib.hid (SV.set W w11 HU11.out (fun k => T k + kS xs k))
              go_wp2
              go_roundw
              case rel => exact ⟨t + 1, by omega, by go_num, Lib.hid (by rw [HT3.out]; exact HU12.out)⟩
              case measure => simp [intOf]; omega
            · have hkb : (xk == 1) = false := by simp [hk]
              have HNX := Lib.hid (show (fun j : Nat => kS rl j + kL ((l.map Po.pl).take (t + 1)) j) = fun j : Nat => (kS rl j + kL ((l.map Po.pl).take t) j) from funext fun j => by
                rw [HTK.out, kL_append]; show _ + (_ + ((if xk = 1 then kS xs j else 0) + 0)) = _; rw [if_neg hk]; omega)
              clear hk
              go_wp2
              go_roundw
              case rel => exact ⟨t + 1, by omega, by go_num, Lib.hid (by rw [HNX.out]; exact HQ.out)⟩
              case measure => simp [intOf]; omega
          · obtain rfl : n = t := by omega
            have HKS := Lib.hid (show SV W w5 b1 (kS P) from by
              have h := HQ.out
              rw [show (fun j : Nat => kS rl j + kL ((l.map Po.pl).take n) j) = kS P from funext fun j => by
                rw [HN.out, ← List.length_map (f := Po.pl), List.take_length]; exact HKK.out j] at h
              exact h)
            clear HQ t0 t1 t2 t3 t4
            have HOF := Lib.hid fun x : ExtC w5 (fun _ => False) => sumsW _ P HVP.out (extC w5 _ x) ((HA.out.on HKS.out.bel).on ((extC_chg w5 _ x).below (Nat.le_refl _) fun k h => h.elim))
            have HWK := Lib.hid fun x : ExtC w5 (fun _ => False) => works15 (extC w5 _ x)
            obtain ⟨K, hK⟩ : ∃ K, K = kS P := ⟨_, rfl⟩
            rw [← hK] at HOF HKS
            clear hK
            obtain ⟨t0, t1, t2, t3⟩ := HKS.out.k1.cells
            have t4 := HKS.out.k1.lt
            have q0 : (K 0 == K 0) = true := beq_self_eq_true _
            have q1 : (K 1 == K 1) = true := beq_self_eq_true _
            have q2 : (K 2 == K 2) = true := beq_self_eq_true _
            have q3 : (K 3 == K 3) = true := beq_self_eq_true _
            go_wp2
            refine Mix.regionC (fun _ => False) (by kernel_rfl) ?_
            intro w6 hb6
            refine Mix.take_exC _ _ 0 rfl (by kernel_rfl) (by kernel_rfl) (by kernel_rfl) (by kernel_rfl) (fun K hK => ?_)
            go_simp
            first | (refine hK _ ?_; clear hK K) | (apply Exists.intro; refine ⟨fun x => ?_, hK _ ?_⟩; (fail); clear hK K)
            refine Mix.take_exC _ _ 1 rfl (by kernel_rfl) (by kernel_rfl) (by kernel_rfl) (by kernel_rfl) (fun K hK => ?_)
            go_simp
            first | (refine hK _ ?_; clear hK K) | (apply Exists.intro; refine ⟨fun x => ?_, hK _ ?_⟩; (fail); clear hK K)
            refine Mix.take_exC _ _ 2 rfl (by kernel_rfl) (by kernel_rfl) (by kernel_rfl) (by kernel_rfl) (fun K hK => ?_)
            go_simp
            first | (refine hK _ ?_; clear hK K) | (apply Exists.intro; refine ⟨fun x => ?_, hK _ ?_⟩; (((go_at_call 23; with_reducible exact HOF.out _))); clear hK K)
            refine Mix.take_exC _ _ 3 rfl (by kernel_rfl) (by kernel_rfl) (by kernel_rfl) (by kernel_rfl) (fun K hK => ?_)
            go_simp
            first | (refine hK _ ?_; clear hK K) | (apply Exists.intro; refine ⟨fun x => ?_, hK _ ?_⟩; (fail); clear hK K)
            refine Mix.take_exC _ _ 4 rfl (by kernel_rfl) (by kernel_rfl) (by kernel_rfl) (by kernel_rfl) (fun K hK => ?_)
            go_simp
            first | (refine hK _ ?_; clear hK K) | (apply Exists.intro; refine ⟨fun x => ?_, hK _ ?_⟩; (fail); clear hK K)
            refine Mix.take_exC _ _ 5 rfl (by kernel_rfl) (by kernel_rfl) (by kernel_rfl) (by kernel_rfl) (fun K hK => ?_)
            go_simp
            first | (refine hK _ ?_; clear hK K) | (apply Exists.intro; refine ⟨fun x => ?_, hK _ ?_⟩; (((go_at_call 20; with_reducible exact HWK.out _))); clear hK K)
            refine Mix.take_exC _ _ 6 rfl (by kernel_rfl) (by kernel_rfl) (by kernel_rfl) (by kernel_rfl) (fun K hK => ?_)
            go_simp
            first | (refine hK _ ?_; clear hK K) | (apply Exists.intro; refine ⟨fun x => ?_, hK _ ?_⟩; (fail); clear hK K)
            refine Mix.take_exC _ _ 7 rfl (by kernel_rfl) (by kernel_rfl) (by kernel_rfl) (by kernel_rfl) (fun K hK => ?_)
            go_simp
            first | (refine hK _ ?_; clear hK K) | (apply Exists.intro; refine ⟨fun x => ?_, hK _ ?_⟩; (fail); clear hK K)
            refine Mix.done (by kernel_rfl) (.of_below _ hb6) ?_
            intro w7 hb7
            have HB7 := Lib.hid (bt HKS.out.bel (bt hb6 hb7))
            clear hb6 hb7
            go_wp2
            go_ret
            exact ⟨rfl, HB7.out⟩
      · have hreb : (re == 0) = false := by simp [hre]
        obtain rfl : rl = [] := HRK.out.1 hre
        obtain rfl : rm = 0 := HRM.out
        have HK := Lib.hid (works15 w5)
        clear hre HRK
        go_wp2_with fail
        refine HK.out.mono ?_
        rintro e w7 ⟨rfl, hb7⟩
        have HB7 := Lib.hid (bt HB5.out hb7)
        clear hb7
        go_wp2
        go_ret
        exact ⟨rfl, HB7.out⟩
    · have hmb : (me == 0) = false := by simp [hme]
      clear hme HMK
      by_cases hre : re = 0
      · subst hre
        obtain ⟨hvp, hok, hvr, hkk⟩ := HRK.out.2 rfl
        have HSO := Lib.hid (show ∀ t : Nat, SOk fun j => kS rl j + kL ((l.map Po.pl).take t) j from fun t => sok_all fun j _ => by
          have h1 := kL_take hok t j
          have h2 := kS_bd hvp j
          have h3 := kS_bd hvr j
          have h4 := hkk j
          unfold KOk
          dsimp only
          refine ⟨?_, ?_⟩ <;> omega)
        have HVX := Lib.hid (show ∀ x ∈ l, VR x.ps from fun x hx => (of_decide_eq_true (hok _ (List.mem_map_of_mem hx))).2.2.2)
        have HKK := Lib.hid hkk
        have HVP := Lib.hid hvp
        have HO3 := Lib.hid (sumsW _ rl hvr _ HRV3.out)
        clear HRK hvp hok hvr hkk
        go_wp2_with fail
        refine HO3.out.mono ?_
        rintro e w6 ⟨rfl, hb6⟩
        have hb7 := bt HB3.out hb6
        have hs := KS.made w6 (kS rl) 37
        have HS7 := Lib.hid (show SV W (w6.alloc (.cells (C4 (kS rl)) 37)) w6.heap.size (fun j => kS rl j + kL ((l.map Po.pl).take 0) j) from ⟨bt hb7 (ba (Below.refl _ _) _), hb7.size, by
          rw [show (fun j : Nat => kS rl j + kL ((l.map Po.pl).take 0) j) = kS rl from funext fun j => Int.add_zero _]; exact hs⟩)
        clear hb6 hb7 hs HO3
        go_wp2
        obtain ⟨b1, hb1⟩ : ∃ b, b = w6.heap.size := ⟨_, rfl⟩
        rw [← hb1] at HS7 ⊢
        clear hb1
        generalize w6.alloc (.cells (C4 (kS rl)) 37) = w7 at *
        go_loopw [12] (fun iv wr => ∃ (t : Nat), t ≤ n ∧ iv = .int .i64 t ∧ Hid (SV W wr b1 (fun j => kS rl j + kL ((l.map Po.pl).take t) j))) (fun iv _ => n - (intOf iv).toNat)
        case atStart => exact ⟨0, Nat.zero_le _, rfl, HS7⟩
        case round =>
          clear HS7
          obtain ⟨t, ht, rfl, HQ⟩ := hrel
          obtain ⟨w5, rfl⟩ : ∃ w5, w5 = wr := ⟨_, rfl⟩
          obtain ⟨t0, t1, t2, t3⟩ := HQ.out.k1.cells
          have t4 := HQ.out.k1.lt
          by_cases hlt : t < n
          · have hts : (t : Int) < (n : Int) := by omega
            obtain ⟨x, hx⟩ := at_lt (l := l) (i := t) (by rw [← HN.out]; exact hlt)
            obtain ⟨bs, off, rfl, hbs, hcell⟩ := HAT.out t x hx
            have c0 := (HQ.out.bel.cell (p := ⟨bs, _, none⟩) hbs).trans (hcell 0 _ rfl)
            have c2 := (HQ.out.bel.cell (p := ⟨bs, _, none⟩) hbs).trans (hcell 2 _ rfl)
            simp only [Nat.add_zero] at c0
            have c4 : bs < w5.heap.size := Nat.lt_of_lt_of_le hbs HQ.out.bel.size
            have HTK := Lib.hid (show (l.map Po.pl).take (t + 1) = (l.map Po.pl).take t ++ [x.pl] from by
              rw [take_at (x := x.pl) (by rw [List.getElem?_map, hx]; rfl)])
            have HXV := Lib.hid ((HO.out.vec x (mem_at hx)).on HQ.out.bel)
            have HXR := Lib.hid (HVX.out x (mem_at hx))
            obtain ⟨xk, xi, xv, xs⟩ := x
            obtain ⟨va, vc, hvv, -, -⟩ := HXV.out.form
            simp only at hvv c2 c0 HXV HXR
            subst hvv
            clear hcell hbs hx
            obtain ⟨m, hm⟩ : ∃ m, m = xs.length := ⟨_, rfl⟩
            rw [← hm] at c2 HXV
            clear hm
            by_cases hk : xk = 1
            · have hkb : (xk == 1) = true := by simp [hk]
              have HNX := Lib.hid (show (fun j : Nat => kS rl j + kL ((l.map Po.pl).take (t + 1)) j) = fun j : Nat => (kS rl j + kL ((l.map Po.pl).take t) j) + kS xs j from funext fun j => by
                rw [HTK.out, kL_append]; show _ + (_ + ((if xk = 1 then kS xs j else 0) + 0)) = _; rw [if_pos hk]; omega)
              have HS1 := Lib.hid (HSO.out t)
              have HS2 := Lib.hid (show SOk fun j : Nat => (kS rl j + kL ((l.map Po.pl).take t) j) + kS xs j from by have := HSO.out (t + 1); rw [HNX.out] at this; exact this)
              clear hk
              obtain ⟨T, hT⟩ : ∃ T : Nat → Int, T = fun j => kS rl j + kL ((l.map Po.pl).take t) j := ⟨_, rfl⟩
              have HQT := Lib.hid (show SV W w5 b1 T from by rw [hT]; exact HQ.out)
              have HT1 := Lib.hid (show SOk T from by rw [hT]; exact HS1.out)
              have HT2 := Lib.hid (show SOk fun j => T j + kS xs j from by rw [hT]; exact HS2.out)
              have HT3 := Lib.hid (show (fun j : Nat => kS rl j + kL ((l.map Po.pl).take (t + 1)) j) = fun j : Nat => T j + kS xs j from by rw [hT]; exact HNX.out)
              clear HQ HS1 HS2 HNX HTK t0 t1 t2 t3 t4 hT
              obtain ⟨t0, t1, t2, t3⟩ := HQT.out.k1.cells
              have t4 := HQT.out.k1.lt
              have HOF := Lib.hid fun x : ExtC w5 (fun _ => False) => sumsW (.slice va m vc) xs HXR.out (extC w5 _ x) (HXV.out.on ((extC_chg w5 _ x).below (Nat.le_refl _) fun k h => h.elim))
              have HAD := Lib.hid (add_both T (kS xs) true HT1.out (kS_ok HXR.out) (decide_eq_true HT2.out))
              go_wp2
              refine Mix.regionC (fun _ => False) (by kernel_rfl) ?_
              intro w6 hb6
              refine Mix.take_exC _ _ 0 rfl (by kernel_rfl) (by kernel_rfl) (by kernel_rfl) (by kernel_rfl) (fun K hK => ?_)
              go_simp
              first | (refine hK _ ?_; clear hK K) | (apply Exists.intro; refine ⟨fun x => ?_, hK _ ?_⟩; (fail); clear hK K)
              refine Mix.take_exC _ _ 1 rfl (by kernel_rfl) (by kernel_rfl) (by kernel_rfl) (by kernel_rfl) (fun K hK => ?_)
              go_simp
              first | (refine hK _ ?_; clear hK K) | (apply Exists.intro; refine ⟨fun x => ?_, hK _ ?_⟩; (fail); clear hK K)
              refine Mix.take_exC _ _ 2 rfl (by kernel_rfl) (by kernel_rfl) (by kernel_rfl) (by kernel_rfl) (fun K hK => ?_)
              go_simp
              first | (refine hK _ ?_; clear hK K) | (apply Exists.intro; refine ⟨fun x => ?_, hK _ ?_⟩; (fail); clear hK K)
              refine Mix.take_exC _ _ 3 rfl (by kernel_rfl) (by kernel_rfl) (by kernel_rfl) (by kernel_rfl) (fun K hK => ?_)
              go_simp
              first | (refine hK _ ?_; clear hK K) | (apply Exists.intro; refine ⟨fun x => ?_, hK _ ?_⟩; (fail); clear hK K)
              refine Mix.take_exC _ _ 4 rfl (by kernel_rfl) (by kernel_rfl) (by kernel_rfl) (by kernel_rfl) (fun K hK => ?_)
              go_simp
              first | (refine hK _ ?_; clear hK K) | (apply Exists.intro; refine ⟨fun x => ?_, hK _ ?_⟩; (fail); clear hK K)
              refine Mix.take_exC _ _ 5 rfl (by kernel_rfl) (by kernel_rfl) (by kernel_rfl) (by kernel_rfl) (fun K hK => ?_)
              go_simp
              first | (refine hK _ ?_; clear hK K) | (apply Exists.intro; refine ⟨fun x => ?_, hK _ ?_⟩; (fail); clear hK K)
              refine Mix.take_exC _ _ 6 rfl (by kernel_rfl) (by kernel_rfl) (by kernel_rfl) (by kernel_rfl) (fun K hK => ?_)
              go_simp
              first | (refine hK _ ?_; clear hK K) | (apply Exists.intro; refine ⟨fun x => ?_, hK _ ?_⟩; (((go_at_call 23; with_reducible exact HOF.out _))); clear hK K)
              refine Mix.take_exC _ _ 7 rfl (by kernel_rfl) (by kernel_rfl) (by kernel_rfl) (by kernel_rfl) (fun K hK => ?_)
              go_simp
              first | (refine hK _ ?_; clear hK K) | (apply Exists.intro; refine ⟨fun x => ?_, hK _ ?_⟩; (((go_at_call 24; with_reducible exact HAD.out _))); clear hK K)
              refine Mix.take_exC _ _ 8 rfl (by kernel_rfl) (by kernel_rfl) (by kernel_rfl) (by kernel_rfl) (fun K hK => ?_)
              go_simp
              first | (refine hK _ ?_; clear hK K) | (apply Exists.intro; refine ⟨fun x => ?_, hK _ ?_⟩; (fail); clear hK K)
              refine Mix.take_exC _ _ 9 rfl (by kernel_rfl) (by kernel_rfl) (by kernel_rfl) (by kernel_rfl) (fun K hK => ?_)
              go_simp
              first | (refine hK _ ?_; clear hK K) | (apply Exists.intro; refine ⟨fun x => ?_, hK _ ?_⟩; (fail); clear hK K)
              refine Mix.take_exC _ _ 10 rfl (by kernel_rfl) (by kernel_rfl) (by kernel_rfl) (by kernel_rfl) (fun K hK => ?_)
              go_simp
              first | (refine hK _ ?_; clear hK K) | (apply Exists.intro; refine ⟨fun x => ?_, hK _ ?_⟩; (fail); clear hK K)
              clear c0 c2 c4 t0 t1 t2 t3 t4
              refine Mix.all (rs := [11]) (by kernel_rfl) (by simp) (.of_below _ hb6) ?_
              intro i7 hi7 w7 hb7 hC7
              simp only [List.mem_cons, List.not_mem_nil, or_false] at hi7
              subst hi7
              have HB7 := Lib.hid (bt hb6 hb7)
              clear hC7 hb6 hb7
              refine Mix.op rfl (by kernel_rfl) ?_
              go_simp
              have hz8 := KS.made w7 Z4 37
              have hb78 := ba HB7.out (.cells (C4 Z4) 37)
              generalize w7.alloc (.cells (C4 Z4) 37) = w8 at *
              obtain ⟨q, hq⟩ : ∃ b, b = w7.heap.size := ⟨_, rfl⟩
              rw [← hq] at hz8 ⊢
              have HG7 := Lib.hid (show w5.heap.size ≤ q by rw [hq]; exact HB7.out.size)
              have HZ8 := Lib.hid hz8; have HB8 := Lib.hid hb78
              clear hz8 hb78 hq
              refine Mix.all (rs := [12]) (by kernel_rfl) (by simp) (.of_below _ HB8.out) ?_
              intro i9 hi9 w9 hb9 hC9
              simp only [List.mem_cons, List.not_mem_nil, or_false] at hi9
              subst hi9
              have HB9 := Lib.hid (bt HB8.out hb9)
              have hz9 := HZ8.out.below hb9
              clear hC9 hb9
              obtain ⟨m0, m1, m2, m3⟩ := hz9.cells
              have o0 := hz9.fz 0; have o1 := hz9.fz 1; have o2 := hz9.fz 2; have o3 := hz9.fz 3
              have m4 := hz9.lt
              have HST := Lib.hid (ks_chg w9 q (.int .i64 ((fun k => T k + kS xs k) 0)) (.int .i64 ((fun k => T k + kS xs k) 1)) (.int .i64 ((fun k => T k + kS xs k) 2)) (.int .i64 ((fun k => T k + kS xs k) 3)))
              have HZ10 := Lib.hid (hz9.set4 (fun k => T k + kS xs k))
              clear hz9
              refine Mix.op rfl (by kernel_rfl) ?_
              go_simp
              clear m0 m1 m2 m3 m4 o0 o1 o2 o3
              (try dsimp only at HST HZ10)
              generalize (((w9.setCell ⟨q, 0, none⟩ _).setCell ⟨q, 1, none⟩ _).setCell ⟨q, 2, none⟩ _).setCell ⟨q, 3, none⟩ _ = w10 at *
              have HB10 := Lib.hid (show Below w5.heap.size w5 w10 from HB9.out.trans (HST.out.below HB9.out.size fun k e => by have e : k = q := e; have := HG7.out; omega))
              refine Mix.take_exC _ _ 13 rfl (by kernel_rfl) (by kernel_rfl) (by kernel_rfl) (by kernel_rfl) (fun K hK => ?_)
              go_simp
              first | (refine hK _ ?_; clear hK K) | (apply Exists.intro; refine ⟨fun x => ?_, hK _ ?_⟩; (fail); clear hK K)
              refine Mix.done (by kernel_rfl) (.of_below _ HB10.out) ?_
              intro w11 hb11
              have HU11 := Lib.hid (HQT.out.on (bt HB10.out hb11))
              have hZ11 := HZ10.out.below hb11
              clear hb11
              obtain ⟨m0, m1, m2, m3⟩ := hZ11.cells
              have m4 := hZ11.lt
              clear hZ11
              obtain ⟨t0, t1, t2, t3⟩ := HU11.out.k1.cells
              have t4 := HU11.out.k1.lt
              have u0 := HU11.out.k1.fz 0; have u1 := HU11.out.k1.fz 1; have u2 := HU11.out.k1.fz 2; have u3 := HU11.out.k1.fz 3
              have HU12 := Lib.hid (SV.set W w11 HU11.out (fun k => T k + kS xs k))
              go_wp2
              go_roundw
              case rel => exact ⟨t + 1, by omega, by go_num, Lib.hid (by rw [HT3.out]; exact HU12.out)⟩
              case measure => simp [intOf]; omega
            · have hkb : (xk == 1) = false := by simp [hk]
              have HNX := Lib.hid (show (fun j : Nat => kS rl j + kL ((l.map Po.pl).take (t + 1)) j) = fun j : Nat => (kS rl j + kL ((l.map Po.pl).take t) j) from funext fun j => by
                rw [HTK.out, kL_append]; show _ + (_ + ((if xk = 1 then kS xs j else 0) + 0)) = _; rw [if_neg hk]; omega)
              clear hk
              go_wp2
              go_roundw
              case rel => exact ⟨t + 1, by omega, by go_num, Lib.hid (by rw [HNX.out]; exact HQ.out)⟩
              case measure => simp [intOf]; omega
          · obtain rfl : n = t := by omega
            have HKS := Lib.hid (show SV W w5 b1 (kS P) from by
              have h := HQ.out
              rw [show (fun j : Nat => kS rl j + kL ((l.map Po.pl).take n) j) = kS P from funext fun j => by
                rw [HN.out, ← List.length_map (f := Po.pl), List.take_length]; exact HKK.out j] at h
              exact h)
            clear HQ t0 t1 t2 t3 t4
            have HOF := Lib.hid fun x : ExtC w5 (fun _ => False) => sumsW _ P HVP.out (extC w5 _ x) ((HA.out.on HKS.out.bel).on ((extC_chg w5 _ x).below (Nat.le_refl _) fun k h => h.elim))
            have HWK := Lib.hid fun x : ExtC w5 (fun _ => False) => works15 (extC w5 _ x)
            obtain ⟨K, hK⟩ : ∃ K, K = kS P := ⟨_, rfl⟩
            rw [← hK] at HOF HKS
            clear hK
            obtain ⟨t0, t1, t2, t3⟩ := HKS.out.k1.cells
            have t4 := HKS.out.k1.lt
            have q0 : (K 0 == K 0) = true := beq_self_eq_true _
            have q1 : (K 1 == K 1) = true := beq_self_eq_true _
            have q2 : (K 2 == K 2) = true := beq_self_eq_true _
            have q3 : (K 3 == K 3) = true := beq_self_eq_true _
            go_wp2
            refine Mix.regionC (fun _ => False) (by kernel_rfl) ?_
            intro w6 hb6
            refine Mix.take_exC _ _ 0 rfl (by kernel_rfl) (by kernel_rfl) (by kernel_rfl) (by kernel_rfl) (fun K hK => ?_)
            go_simp
            first | (refine hK _ ?_; clear hK K) | (apply Exists.intro; refine ⟨fun x => ?_, hK _ ?_⟩; (fail); clear hK K)
            refine Mix.take_exC _ _ 1 rfl (by kernel_rfl) (by kernel_rfl) (by kernel_rfl) (by kernel_rfl) (fun K hK => ?_)
            go_simp
            first | (refine hK _ ?_; clear hK K) | (apply Exists.intro; refine ⟨fun x => ?_, hK _ ?_⟩; (fail); clear hK K)
            refine Mix.take_exC _ _ 2 rfl (by kernel_rfl) (by kernel_rfl) (by kernel_rfl) (by kernel_rfl) (fun K hK => ?_)
            go_simp
            first | (refine hK _ ?_; clear hK K) | (apply Exists.intro; refine ⟨fun x => ?_, hK _ ?_⟩; (((go_at_call 23; with_reducible exact HOF.out _))); clear hK K)
            refine Mix.take_exC _ _ 3 rfl (by kernel_rfl) (by kernel_rfl) (by kernel_rfl) (by kernel_rfl) (fun K hK => ?_)
            go_simp
            first | (refine hK _ ?_; clear hK K) | (apply Exists.intro; refine ⟨fun x => ?_, hK _ ?_⟩; (fail); clear hK K)
            refine Mix.take_exC _ _ 4 rfl (by kernel_rfl) (by kernel_rfl) (by kernel_rfl) (by kernel_rfl) (fun K hK => ?_)
            go_simp
            first | (refine hK _ ?_; clear hK K) | (apply Exists.intro; refine ⟨fun x => ?_, hK _ ?_⟩; (fail); clear hK K)
            refine Mix.take_exC _ _ 5 rfl (by kernel_rfl) (by kernel_rfl) (by kernel_rfl) (by kernel_rfl) (fun K hK => ?_)
            go_simp
            first | (refine hK _ ?_; clear hK K) | (apply Exists.intro; refine ⟨fun x => ?_, hK _ ?_⟩; (((go_at_call 20; with_reducible exact HWK.out _))); clear hK K)
            refine Mix.take_exC _ _ 6 rfl (by kernel_rfl) (by kernel_rfl) (by kernel_rfl) (by kernel_rfl) (fun K hK => ?_)
            go_simp
            first | (refine hK _ ?_; clear hK K) | (apply Exists.intro; refine ⟨fun x => ?_, hK _ ?_⟩; (fail); clear hK K)
            refine Mix.take_exC _ _ 7 rfl (by kernel_rfl) (by kernel_rfl) (by kernel_rfl) (by kernel_rfl) (fun K hK => ?_)
            go_simp
            first | (refine hK _ ?_; clear hK K) | (apply Exists.intro; refine ⟨fun x => ?_, hK _ ?_⟩; (fail); clear hK K)
            refine Mix.done (by kernel_rfl) (.of_below _ hb6) ?_
            intro w7 hb7
            have HB7 := Lib.hid (bt HKS.out.bel (bt hb6 hb7))
            clear hb6 hb7
            go_wp2
            go_ret
            exact ⟨rfl, HB7.out⟩
      · have hreb : (re == 0) = false := by simp [hre]
        obtain rfl : rl = [] := HRK.out.1 hre
        obtain rfl : rm = 0 := HRM.out
        have HK := Lib.hid (works15 w3)
        clear hre HRK
        go_wp2_with fail
        refine HK.out.mono ?_
        rintro e w7 ⟨rfl, hb7⟩
        have HB7 := Lib.hid (bt HB3.out hb7)
        clear hb7
        go_wp2
        go_ret
        exact ⟨rfl, HB7.out⟩
  · rw [show (decide (pm ≤ 150) && decide (FewO l)) = false from by by_cases h1 : pm ≤ 150 <;> by_cases h2 : FewO l <;> simp [h1, h2]; exact hfw ⟨h1, h2⟩]
    go_wp2
    go_ret
    exact ⟨rfl, HB1.out⟩
end Go.Proofs.Ytnckjacbkhoppaa

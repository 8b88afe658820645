/- agents: Free; what a nil table and a plain one answer. -/
import Derived.Test.YtennhfkhdfalfaaAg7
import Derived.Test.YtennhfkhdfalfaaAgb0
import Derived.Test.YtennhfkhdfalfaaMixL
namespace Go.Proofs.Ytennhfkhdfalfaa
open Go.RowKit Go.Maps
attribute [local go_sem] ext_cell ext_frozen extC_cell extC_frozen Mix.calmUpon Mix.mUpon
/-- A block that holds four numbers. -/
def KS (w : World) (b : Nat) (a : Nat → Int) : Prop := ∃ A, w.heap[b]? = some (.cells (C4 a) A (0, 0))
section
variable {w w' : World} {b : Nat} {a : Nat → Int}
theorem KS.made (w : World) (a : Nat → Int) (A : TypeId) : KS (w.alloc (.cells (C4 a) A)) w.heap.size a := ⟨A, heap_alloc_new w _⟩
theorem KS.lt (h : KS w b a) : b < w.heap.size := by obtain ⟨A, h⟩ := h; exact (Array.getElem?_eq_some_iff.1 h).1
theorem KS.chg {F : Nat → Prop} (h : KS w b a) (hb : Chg F w w') (hf : ¬ F b) : KS w' b a := by have hl := h.lt; obtain ⟨A, h⟩ := h; exact ⟨A, (hb.block _ hl hf).trans h⟩
theorem KS.below (h : KS w b a) (hb : Below w.heap.size w w') : KS w' b a := h.chg (.of_below (fun _ => False) hb) id
theorem KS.cells (h : KS w b a) : w.cell? ⟨b, 0, none⟩ = some (.int .i64 (a 0)) ∧ w.cell? ⟨b, 1, none⟩ = some (.int .i64 (a 1)) ∧ w.cell? ⟨b, 2, none⟩ = some (.int .i64 (a 2)) ∧ w.cell? ⟨b, 3, none⟩ = some (.int .i64 (a 3)) := by obtain ⟨A, h⟩ := h; simp [World.cell?, h]
theorem KS.fz (h : KS w b a) (o : Nat) : w.frozen? ⟨b, o, none⟩ = false := by obtain ⟨A, h⟩ := h; simp [World.frozen?, h]
theorem KS.set4 (h : KS w b a) (x : Nat → Int) : KS ((((w.setCell ⟨b, 0, none⟩ (.int .i64 (x 0))).setCell ⟨b, 1, none⟩ (.int .i64 (x 1))).setCell ⟨b, 2, none⟩ (.int .i64 (x 2))).setCell ⟨b, 3, none⟩ (.int .i64 (x 3))) b x := by
  obtain ⟨A, h⟩ := h
  exact ⟨A, heap_setCell_at _ (heap_setCell_at _ (heap_setCell_at _ (heap_setCell_at _ h)))⟩
theorem ks_chg (w : World) (b : Nat) (u0 u1 u2 u3 : Value) : Chg (fun k => k = b) w ((((w.setCell ⟨b, 0, none⟩ u0).setCell ⟨b, 1, none⟩ u1).setCell ⟨b, 2, none⟩ u2).setCell ⟨b, 3, none⟩ u3) :=
  ((((Chg.refl (fun k => k = b) w).setCell (p := ⟨b, 0, none⟩) (.inl rfl) _).setCell (p := ⟨b, 1, none⟩) (.inl rfl) _).setCell (p := ⟨b, 2, none⟩) (.inl rfl) _).setCell (p := ⟨b, 3, none⟩) (.inl rfl) _
theorem KS.load (h : KS w b a) : (loadVar 45 ⟨b, 0, none⟩).run Try.prog w = .ok (S4 a) w := by
  obtain ⟨h0, h1, h2, h3⟩ := h.cells
  have hs := h.lt
  simp [go_sem, h0, h1, h2, h3, hs]
theorem res_s {fn : Func} {tmps : Array Value} {p : Nat} (h : fn.results = #[.cell p 45]) (hp : tmps.getD p undef = .pointer (some ⟨b, 0, none⟩)) (hb : KS w b a) :
    (results fn tmps).run Try.prog w = .ok (S4 a) w := by
  simp only [results, h]
  have hp' : tmps[p]?.getD undef = .pointer (some ⟨b, 0, none⟩) := by simpa [Array.getD_eq_getD_getElem?] using hp
  simp [Sem.run_bind, Result.andThen, hp', asAddr, hb.load]
end
theorem z4_ok : SOk Z4 := sok_all fun j _ => ⟨Int.le_refl _, by show (0 : Int) ≤ 1152921504606846976; decide⟩
/-- Where adding up stands: b0 the answer's block, b1 the total's. -/
structure SU (w w3 wr : World) (b0 b1 : Nat) (T : Nat → Int) : Prop where
  bel : Below b0 w wr
  k0 : KS wr b0 Z4
  k1 : KS wr b1 T
  ch : Chg (fun k => k = b1) w3 wr
theorem SU.on {w w3 wr wr' : World} {b0 b1 : Nat} {T : Nat → Int} (h : SU w w3 wr b0 b1 T) (hb : Below wr.heap.size wr wr') : SU w w3 wr' b0 b1 T :=
  ⟨h.bel.trans (hb.mono (Nat.le_of_lt h.k0.lt)), h.k0.below hb, h.k1.below hb, h.ch.then_below hb⟩
section
variable {W w w' : World} {tp M : Nat} {cap most : Int} {F : Int → Option Ag} {S : List Pa}
set_option maxRecDepth 100000 in
set_option maxHeartbeats 4000000 in
theorem afree (h : AT W w tp M cap most F S) (hln : S.length < 1000000) : Calls Try.prog 22 #[ptr tp] w fun e w' => e = .returned (S4 (sumA freA S)) ∧ Below w.heap.size w w' := by
  have HAI := Lib.hid h.ain
  have hb01 := ba (Below.refl w.heap.size w) (.cells (C4 Z4) 45)
  have hb12 := ba (Below.refl (w.alloc (.cells (C4 Z4) 45)).heap.size (w.alloc (.cells (C4 Z4) 45))) (.cells (C4 Z4) 45)
  have hk0 := (KS.made w Z4 45).below hb12
  have hk1 := KS.made (w.alloc (.cells (C4 Z4) 45)) Z4 45
  rw [show (w.alloc (.cells (C4 Z4) 45)).heap.size = w.heap.size + 1 by simp] at hk1
  have hs2 : ((w.alloc (.cells (C4 Z4) 45)).alloc (.cells (C4 Z4) 45)).heap.size = w.heap.size + 2 := by simp
  have H2 := Lib.hid ((h.below hb01).below hb12)
  have HK0 := Lib.hid hk0; have HK1 := Lib.hid hk1; have HS2 := Lib.hid hs2; have HB2 := Lib.hid (bt hb01 hb12)
  clear h hk0 hk1 hs2 hb01 hb12
  go_enter Try.func22, Try.ntmps22
  go_wp2_with fail
  generalize (w.alloc (.cells (C4 Z4) 45)).alloc (.cells (C4 Z4) 45) = w2 at *
  obtain ⟨b0, hb0⟩ : ∃ b, b = w.heap.size := ⟨_, rfl⟩
  rw [← hb0] at HK0 HK1 HS2 HB2 ⊢
  have HBQ := Lib.hid hb0
  clear hb0
  obtain ⟨b1, hb1⟩ : ∃ b, b = b0 + 1 := ⟨_, rfl⟩
  rw [← hb1] at HK1 ⊢
  have HB1 := Lib.hid hb1
  clear hb1
  refine (aall H2.out hln).mono ?_
  rintro e w3 ⟨v, l, rfl, hl, hpl, hv, hxv, hb3⟩
  obtain ⟨a, n, cp, rfl, hn, hc, hm, hat⟩ := hl.rs.at_
  have hnm : n ≤ 9223372036854775807 := by unfold maxLen at hm; omega
  have hs3 := hb3.size
  have HI := Lib.hid (show SU w w3 w3 b0 b1 (sumA freA (S.take 0)) from ⟨HB2.out.trans (hb3.mono (by have := HS2.out; omega)), HK0.out.below hb3, HK1.out.below hb3, Chg.refl _ _⟩)
  have HAT := Lib.hid hat; have HN := Lib.hid hn; have HPL := Lib.hid hpl
  have HX := Lib.hid (show ∀ x ∈ l, Vc w3 x.fv x.fps ∧ VK (fun k => k = b1) x.fv x.fps ∧ VR x.fps from fun x hx => by
    have h1 : x.pl ∈ S := by rw [← hpl]; exact List.mem_map.2 ⟨x, hx, rfl⟩
    refine ⟨(hl.vec x hx).2, .inr fun b hb e => ?_, (HAI.out.ok _ h1).vf⟩
    have := (hxv x hx).2 b hb; have := HS2.out; have := HB1.out
    have e : b = b1 := e
    omega)
  have HVF := Lib.hid (show ∀ x ∈ l, (∃ a n c, x.tv = .slice a n c) from fun x hx => by
    obtain ⟨a, c, h, -, -⟩ := (hl.vec x hx).1.form; exact ⟨a, _, c, h⟩)
  have HL := Lib.hid (show ∀ b, Value.ownBlock (.slice a n cp) = some b → b ≠ b1 from fun b hb => by have := hv b hb; have := HS2.out; have := HB1.out; omega)
  clear hat hl hn hpl hv hxv hb3 hm hs3
  go_wp2
  go_loopw [9] (fun iv wr => ∃ t : Nat, t ≤ n ∧ iv = .int .i64 t ∧ Hid (SU w w3 wr b0 b1 (sumA freA (S.take t)))) (fun iv _ => n - (intOf iv).toNat)
  case atStart => exact ⟨0, Nat.zero_le _, rfl, HI⟩
  case round =>
    clear HI
    obtain ⟨t, ht, rfl, HQ⟩ := hrel
    obtain ⟨w4, rfl⟩ : ∃ w4, w4 = wr := ⟨_, rfl⟩
    obtain ⟨T, hT⟩ : ∃ T, T = sumA freA (S.take t) := ⟨_, rfl⟩
    rw [← hT] at HQ
    have HTQ := Lib.hid hT
    clear hT
    have hSU := HQ.out
    by_cases hlt : t < n
    · have hts : (t : Int) < (n : Int) := by omega
      obtain ⟨x, hx⟩ := at_lt (l := l) (i := t) (by rw [← HN.out]; exact hlt)
      obtain ⟨bs, off, rfl, hbs, hcell⟩ := HAT.out t x hx
      have hxi := HX.out x (mem_at hx)
      have hvx := hxi.1.keep hSU.ch hxi.2.1
      have hnb : ¬ (bs = b1) := HL.out bs rfl
      have hSx : S[t]? = some x.pl := by rw [← HPL.out, List.getElem?_map, hx]; rfl
      have hstep := fun j => sumA_take (f := freA) hSx j
      obtain ⟨ta, tn, tc, htv⟩ := HVF.out x (mem_at hx)
      obtain ⟨xi, xtv, xts, xv, xs⟩ := x
      obtain ⟨va, vc, hvv, -, -⟩ := hvx.form
      simp only at hvv htv
      subst hvv htv
      have c0 := (hSU.ch.cell (b := bs) hbs hnb _).trans (hcell 0 _ rfl)
      have c1 := (hSU.ch.cell (b := bs) hbs hnb _).trans (hcell 1 _ rfl)
      have c2 := (hSU.ch.cell (b := bs) hbs hnb _).trans (hcell 2 _ rfl)
      simp only [Nat.add_zero] at c0
      have hbs4 : bs < w4.heap.size := Nat.lt_of_lt_of_le hbs hSU.ch.size
      have hb45 := ba (Below.refl w4.heap.size w4) (.cells #[.int .i64 xi, .slice ta tn tc, .slice va xs.length vc] 38)
      have HK5 := Lib.hid (QB.made w4 xi (.slice ta tn tc) (.slice va xs.length vc))
      have HU5 := Lib.hid (hSU.on hb45)
      have HVX := Lib.hid (hvx.on hb45)
      have HXR := Lib.hid (show VR xs from hxi.2.2)
      have HVK := Lib.hid hxi.2.1
      have HKL := Lib.hid hSU.k1.lt
      have HB45 := Lib.hid hb45
      have HST := Lib.hid (show sumA freA (S.take (t + 1)) = fun j => T j + kS xs j from funext fun j => by rw [hstep j, ← HTQ.out])
      have HOK := Lib.hid (show SOk T ∧ SOk (fun j => T j + kS xs j) from ⟨by rw [HTQ.out]; exact HAI.out.fsok t, by rw [← HST.out]; exact HAI.out.fsok (t + 1)⟩)
      generalize hmx : xs.length = m at *
      clear hSU hx hcell hxi hvx hb45 hstep hSx
      go_wp2
      clear c0 c1 c2 hbs hnb hbs4
      generalize w4.alloc (.cells #[.int .i64 xi, .slice ta tn tc, .slice va m vc] 38) = w5 at *
      obtain ⟨bk, hbk⟩ : ∃ b, b = w4.heap.size := ⟨_, rfl⟩
      rw [← hbk] at HK5 ⊢
      have HBK := Lib.hid hbk
      clear hbk
      obtain ⟨k0, k1, k2⟩ := HK5.out.cells
      have k4 := HK5.out.lt
      obtain ⟨t0, t1, t2, t3⟩ := HU5.out.k1.cells
      have t4 := HU5.out.k1.lt
      have HOF := Lib.hid fun x : ExtC w5 (fun b => b = b1) => sumsW (.slice va m vc) xs HXR.out _ (HVX.out.keep (extC_chg w5 _ x) HVK.out)
      have hadd := add_both T (kS xs) true HOK.out.1 (kS_ok HXR.out) (decide_eq_true HOK.out.2)
      simp only [if_true] at hadd
      have HAD := Lib.hid hadd
      clear hadd t0 t1 t2 t3 t4
      have hkb1 : ¬ bk = b1 := by have := HBK.out; have := HU5.out.k1.lt; have := HKL.out; omega
      refine Mix.regionC (fun b => b = b1) (by kernel_rfl) ?_
      intro w6 hb6
      refine Mix.take_exC _ _ 1 rfl (by kernel_rfl) (by kernel_rfl) (by kernel_rfl) (by kernel_rfl) (fun K hK => ?_)
      go_simp
      first | (refine hK _ ?_; clear hK K) | (apply Exists.intro; refine ⟨fun x => ?_, hK _ ?_⟩; (fail); clear hK K)
      refine Mix.take_exC _ _ 2 rfl (by kernel_rfl) (by kernel_rfl) (by kernel_rfl) (by kernel_rfl) (fun K hK => ?_)
      go_simp
      first | (refine hK _ ?_; clear hK K) | (apply Exists.intro; refine ⟨fun x => ?_, hK _ ?_⟩; (fail); clear hK K)
      refine Mix.take_exC _ _ 3 rfl (by kernel_rfl) (by kernel_rfl) (by kernel_rfl) (by kernel_rfl) (fun K hK => ?_)
      go_simp
      first | (refine hK _ ?_; clear hK K) | (apply Exists.intro; refine ⟨fun x => ?_, hK _ ?_⟩; (exact HOF.out x); clear hK K)
      refine Mix.all (rs := [0]) (by kernel_rfl) (by simp) (.of_below _ hb6) ?_
      intro i7 hi7 w7 hb7 hC7
      simp only [List.mem_cons, List.not_mem_nil, or_false] at hi7
      subst hi7
      have HB7 := Lib.hid (bt hb6 hb7)
      clear hC7 hb6 hb7 hkb1 k0 k1 k2 k4
      have hU7 := HU5.out.on HB7.out
      obtain ⟨t0, t1, t2, t3⟩ := hU7.k1.cells
      have t4 := hU7.k1.lt
      clear hU7
      refine Mix.op rfl (by kernel_rfl) ?_
      go_simp
      clear t0 t1 t2 t3 t4
      refine Mix.take_exC _ _ 4 rfl (by kernel_rfl) (by kernel_rfl) (by kernel_rfl) (by kernel_rfl) (fun K hK => ?_)
      go_simp
      first | (refine hK _ ?_; clear hK K) | (apply Exists.intro; refine ⟨fun x => ?_, hK _ ?_⟩; (exact HAD.out _); clear hK K)
      refine Mix.take_exC _ _ 5 rfl (by kernel_rfl) (by kernel_rfl) (by kernel_rfl) (by kernel_rfl) (fun K hK => ?_)
      go_simp
      first | (refine hK _ ?_; clear hK K) | (apply Exists.intro; refine ⟨fun x => ?_, hK _ ?_⟩; (fail); clear hK K)
      refine Mix.take_exC _ _ 6 rfl (by kernel_rfl) (by kernel_rfl) (by kernel_rfl) (by kernel_rfl) (fun K hK => ?_)
      go_simp
      first | (refine hK _ ?_; clear hK K) | (apply Exists.intro; refine ⟨fun x => ?_, hK _ ?_⟩; (fail); clear hK K)
      refine Mix.take_exC _ _ 7 rfl (by kernel_rfl) (by kernel_rfl) (by kernel_rfl) (by kernel_rfl) (fun K hK => ?_)
      go_simp
      first | (refine hK _ ?_; clear hK K) | (apply Exists.intro; refine ⟨fun x => ?_, hK _ ?_⟩; (fail); clear hK K)
      refine Mix.all (rs := [8]) (by kernel_rfl) (by simp) (.of_below _ HB7.out) ?_
      intro i8 hi8 w8 hb8 hC8
      simp only [List.mem_cons, List.not_mem_nil, or_false] at hi8
      subst hi8
      have HB8 := Lib.hid (bt HB7.out hb8)
      clear hC8 hb8
      have hU7 := HU5.out.on HB8.out
      obtain ⟨t0, t1, t2, t3⟩ := hU7.k1.cells
      have t4 := hU7.k1.lt
      have u0 := hU7.k1.fz 0; have u1 := hU7.k1.fz 1; have u2 := hU7.k1.fz 2; have u3 := hU7.k1.fz 3
      have HCx := Lib.hid (ks_chg w8 b1 (.int .i64 (T 0 + kS xs 0)) (.int .i64 (T 1 + kS xs 1)) (.int .i64 (T 2 + kS xs 2)) (.int .i64 (T 3 + kS xs 3)))
      have HU8 := Lib.hid (show SU w w3 _ b0 b1 (fun k => T k + kS xs k) from ⟨hU7.bel.trans (HCx.out.below (Nat.le_of_lt hU7.k0.lt) fun k e => by rw [e]; have := HB1.out; omega), hU7.k0.chg HCx.out (by have := HB1.out; show ¬ b0 = b1; omega), hU7.k1.set4 (fun k => T k + kS xs k), hU7.ch.same HCx.out⟩)
      clear hU7
      refine Mix.op rfl (by kernel_rfl) ?_
      go_simp
      clear t0 t1 t2 t3 t4 u0 u1 u2 u3
      refine Mix.done (by kernel_rfl) ((Chg.of_below _ HB8.out).same HCx.out) ?_
      intro w9 hb9
      have HU9 := Lib.hid (show SU w w3 w9 b0 b1 (sumA freA (S.take (t + 1))) from by rw [HST.out]; exact HU8.out.on hb9)
      clear hb9
      go_wp2
      go_roundw
      case rel => exact ⟨t + 1, by omega, by go_num, HU9⟩
      case measure => simp [intOf]; omega
    · obtain rfl : n = t := by omega
      have HF := Lib.hid (show T = sumA freA S from by
        rw [HTQ.out, List.take_of_length_le]
        rw [HN.out, ← HPL.out, List.length_map]; exact Nat.le_refl _)
      obtain ⟨t0, t1, t2, t3⟩ := hSU.k1.cells
      have t4 := hSU.k1.lt
      obtain ⟨r0, r1, r2, r3⟩ := hSU.k0.cells
      have r4 := hSU.k0.lt
      have g0 := hSU.k0.fz 0; have g1 := hSU.k0.fz 1; have g2 := hSU.k0.fz 2; have g3 := hSU.k0.fz 3
      have HR0 := Lib.hid (hSU.k0.set4 T)
      have HB12 := Lib.hid (hSU.bel.trans ((ks_chg w4 b0 (.int .i64 (T 0)) (.int .i64 (T 1)) (.int .i64 (T 2)) (.int .i64 (T 3))).below (Nat.le_of_lt hSU.k0.lt) fun k e => by rw [e]; exact Nat.le_refl _))
      clear hSU
      go_wp2
      refine bodyPost_ret (res_s Try.results22 rfl HR0.out) rfl ?_
      exact ⟨by rw [← HF.out], by rw [← HBQ.out]; exact HB12.out⟩
end
/-- Block b is a plain table. -/
def APL (w : World) (b : Nat) : Prop := w.heap[b]? = some (.cells #[.int .i64 0, .int .i64 0, .map none, .int .i64 0, .int .i64 0, .int .i64 0, .int .i64 0] 52 (0, 0))
theorem APL.lt {w : World} {b : Nat} (h : APL w b) : b < w.heap.size := (Array.getElem?_eq_some_iff.1 h).1
theorem APL.below {w w' : World} {b : Nat} (h : APL w b) (hb : Below w.heap.size w w') : APL w' b := (hb.block b h.lt).trans h
theorem APL.c2 {w : World} {b : Nat} (h : APL w b) : w.cell? ⟨b, 2, none⟩ = some (.map none) := by unfold APL at h; simp [World.cell?, h]
/-- A table that was not made. -/
def NoA (w : World) (v : Value) : Prop := ∀ w', Below w.heap.size w w' → Calls Try.prog 67 #[v] w' fun e w'' => e = .returned (.bool false) ∧ w'' = w'
theorem noa_nil (w : World) : NoA w (.pointer none) := fun w' _ => by
  go_enter Try.func67, Try.ntmps67
  go_wp2
  go_ret
  exact ⟨rfl, rfl⟩
theorem noa_plain {w : World} {b : Nat} (h : APL w b) : NoA w (ptr b) := fun w' hb => by
  have h' := h.below hb
  have hl := h'.lt
  have c1 := h'.c2
  have hmn := fun w : World => Go.run_neq_map_nil (P := Try.prog) w 50 _ _ none Try.underlying50
  clear h h' hb
  go_enter Try.func67, Try.ntmps67
  go_wp2
  go_ret
  exact ⟨rfl, rfl⟩
section
variable {w : World} {v : Value}
theorem NoA.on {w' : World} (h : NoA w v) (hb : Below w.heap.size w w') : NoA w' v := fun w'' h' => h w'' (bt hb h')
set_option maxRecDepth 100000 in
set_option maxHeartbeats 4000000 in
theorem nafind (h : NoA w v) (k : Int) : Calls Try.prog 64 #[v, .int .i64 k] w fun e w' => e = .returned (.tuple #[agzero, .int .i64 40]) ∧ Below w.heap.size w w' := by
  have hz := GB.made w (.slice none 0 0) (.slice none 0 0)
  have hb := ba (Below.refl w.heap.size w) (.cells #[.slice none 0 0, .slice none 0 0] 118)
  have H := Lib.hid (h _ hb); have HZ := Lib.hid hz; have HB := Lib.hid hb
  clear h hz hb
  go_enter Try.func64, Try.ntmps64
  go_wp2_with fail
  generalize w.alloc (.cells #[.slice none 0 0, .slice none 0 0] 118) = w1 at *
  generalize hbq : w.heap.size = b at *
  refine H.out.mono ?_
  rintro e w2 ⟨rfl, hw2⟩
  rw [hw2]
  clear hw2 w2
  obtain ⟨z0, z1⟩ := HZ.out.cells
  have y0 := HZ.out.fz 0; have y1 := HZ.out.fz 1
  have zl := HZ.out.lt
  have HS2 := Lib.hid (HZ.out.set2 (.slice none 0 0) (.slice none 0 0))
  have HC2 := Lib.hid (show Below b w1 ((w1.setCell ⟨b, 0, none⟩ (.slice none 0 0)).setCell ⟨b, 1, none⟩ (.slice none 0 0)) from bs (p := ⟨b, 1, none⟩) (bs (p := ⟨b, 0, none⟩) (Below.refl b w1) (Nat.le_refl b) _) (Nat.le_refl b) _)
  have HBQ := Lib.hid hbq
  clear hbq
  go_wp2
  refine bodyPost_ret (res_gt Try.results64 rfl (by first | exact HS2.out | exact HS2.out.below (ba (Below.refl _ _) _))) rfl ?_
  refine ⟨rfl, ?_⟩
  rw [HBQ.out]
  first
    | exact HB.out.trans HC2.out
    | exact HB.out.trans (HC2.out.alloc (by have := HZ.out.lt; simp; omega) _)
theorem natake (h : NoA w v) (k : Int) (u : Value) : Calls Try.prog 25 #[v, .int .i64 k, u] w fun e w' => e = .returned (.int .i64 40) ∧ Below w.heap.size w w' := by
  have H := Lib.hid (nafind h k)
  clear h
  go_enter Try.func25, Try.ntmps25
  go_wp2_with fail
  refine H.out.mono ?_
  rintro e w1 ⟨rfl, hb1⟩
  have HB2 := Lib.hid (bt hb1 (ba (Below.refl w1.heap.size w1) (.cells #[.slice none 0 0, .slice none 0 0] 118)))
  clear hb1
  go_wp2
  go_ret
  exact ⟨rfl, HB2.out⟩
theorem nalose (h : NoA w v) (k : Int) : Calls Try.prog 26 #[v, .int .i64 k] w fun e w' => e = .returned (.bool false) ∧ Below w.heap.size w w' := by
  have H := Lib.hid (nafind h k)
  clear h
  go_enter Try.func26, Try.ntmps26
  go_wp2_with fail
  refine H.out.mono ?_
  rintro e w1 ⟨rfl, hb1⟩
  have HB2 := Lib.hid (bt hb1 (ba (Below.refl w1.heap.size w1) (.cells #[.slice none 0 0, .slice none 0 0] 118)))
  clear hb1
  go_wp2
  go_ret
  exact ⟨rfl, HB2.out⟩
theorem naregister (h : NoA w v) (k : Int) (u : Value) : Calls Try.prog 24 #[v, .int .i64 k, u] w fun e w' => e = .returned (.tuple #[.bool false, .int .i64 40]) ∧ Below w.heap.size w w' := by
  have H := Lib.hid (h w (Below.refl _ _))
  clear h
  go_enter Try.func24, Try.ntmps24
  go_wp2_with fail
  refine H.out.mono ?_
  rintro e w1 ⟨rfl, hw1⟩
  rw [hw1]
  clear hw1 w1
  go_wp2
  go_ret2
  exact ⟨rfl, Below.refl _ _⟩
theorem naall (h : NoA w v) : Calls Try.prog 19 #[v] w fun e w' => e = .returned (.slice none 0 0) ∧ Below w.heap.size w w' := by
  have H := Lib.hid (h w (Below.refl _ _))
  clear h
  go_enter Try.func19, Try.ntmps19
  go_wp2_with fail
  refine H.out.mono ?_
  rintro e w1 ⟨rfl, hw1⟩
  rw [hw1]
  clear hw1 w1
  go_wp2
  go_ret
  exact ⟨rfl, Below.refl _ _⟩
set_option maxRecDepth 100000 in
set_option maxHeartbeats 4000000 in
theorem nasum (h : NoA w v) : Calls Try.prog 20 #[v] w fun e w' => e = .returned (S4 Z4) ∧ Below w.heap.size w w' := by
  have hb := ba (Below.refl w.heap.size w) (.cells (C4 Z4) 45)
  have hz := KS.made w Z4 45
  have H := Lib.hid (h _ hb); have HB := Lib.hid hb; have HZ := Lib.hid hz
  clear h hb hz
  go_enter Try.func20, Try.ntmps20
  go_wp2_with fail
  generalize w.alloc (.cells (C4 Z4) 45) = w1 at *
  obtain ⟨b, hbq⟩ : ∃ b, b = w.heap.size := ⟨_, rfl⟩
  rw [← hbq] at HZ ⊢
  refine H.out.mono ?_
  rintro e w2 ⟨rfl, hw2⟩
  rw [hw2]
  clear hw2 w2
  obtain ⟨r0, r1, r2, r3⟩ := HZ.out.cells
  have r4 := HZ.out.lt
  have g0 := HZ.out.fz 0; have g1 := HZ.out.fz 1; have g2 := HZ.out.fz 2; have g3 := HZ.out.fz 3
  have HR0 := Lib.hid (HZ.out.set4 Z4)
  have HB12 := Lib.hid ((ks_chg w1 b (.int .i64 0) (.int .i64 0) (.int .i64 0) (.int .i64 0)).below (Nat.le_of_lt HZ.out.lt) fun k e => by rw [e]; exact Nat.le_refl _)
  have HBQ := Lib.hid hbq
  clear hbq
  go_wp2
  refine bodyPost_ret (res_s Try.results20 rfl HR0.out) rfl ?_
  refine ⟨rfl, ?_⟩
  rw [← HBQ.out]
  exact (by rw [HBQ.out]; exact HB.out : Below b w w1).trans HB12.out
end
end Go.Proofs.Ytennhfkhdfalfaa

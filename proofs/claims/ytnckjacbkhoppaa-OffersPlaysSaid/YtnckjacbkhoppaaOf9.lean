/- offers: Sum. -/
import Derived.Test.YtnckjacbkhoppaaOf8
import Derived.Test.YtnckjacbkhoppaaTsu0
namespace Go.Proofs.Ytnckjacbkhoppaa
open Go.RowKit Go.Maps
attribute [local go_sem] ext_cell ext_frozen extC_cell extC_frozen Mix.calmUpon Mix.mUpon
theorem field_of (i f a u : Int) (va : Option Addr) (m vc : Nat) (w : World) : (Instr.field 61 (.agg #[.int .i64 i, .int .i64 f, .int .i64 a, .slice va m vc, .int .i64 u]) 3).run Try.prog w = .ok (.slice va m vc) w := by kernel_rfl
attribute [local go_sem] field_of
/-- A block that holds four numbers. -/
def KS (w : World) (b : Nat) (a : Nat → Int) : Prop := ∃ A, w.heap[b]? = some (.cells (C4 a) A (0, 0))
section
variable {w w' : World} {b : Nat} {a : Nat → Int}
theorem KS.made (w : World) (a : Nat → Int) (A : TypeId) : KS (w.alloc (.cells (C4 a) A)) w.heap.size a := ⟨A, heap_alloc_new w _⟩
theorem KS.lt (h : KS w b a) : b < w.heap.size := by obtain ⟨A, h⟩ := h; exact (Array.getElem?_eq_some_iff.1 h).1
theorem KS.chg {F : Nat → Prop} (h : KS w b a) (hb : Chg F w w') (hf : ¬ F b) : KS w' b a := by have hl := h.lt; obtain ⟨A, h⟩ := h; exact ⟨A, (hb.block _ hl hf).trans h⟩
theorem KS.below (h : KS w b a) (hb : Below w.heap.size w w') : KS w' b a := h.chg (.of_below (fun _ => False) hb) id
theorem KS.cells (h : KS w b a) : w.cell? ⟨b, 0, none⟩ = some (.int .i64 (a 0)) ∧ w.cell? ⟨b, 1, none⟩ = some (.int .i64 (a 1)) ∧ w.cell? ⟨b, 2, none⟩ = some (.int .i64 (a 2)) ∧ w.cell? ⟨b, 3, none⟩ = some (.int .i64 (a 3)) := by obtain ⟨A, h⟩ := h; simp [World.cell?, h]
theorem KS.fz (h : KS w b a) (o : Nat) : w.frozen? ⟨b, o, none⟩ = false := by obtain ⟨A, h⟩ := h; simp [World.frozen?, h]
theorem KS.set4 (h : KS w b a) (x : Nat → Int) : KS ((((w.setCell ⟨b, 0, none⟩ (.int .i64 (x 0))).setCell ⟨b, 1, none⟩ (.int .i64 (x 1))).setCell ⟨b, 2, none⟩ (.int .i64 (x 2))).setCell ⟨b, 3, none⟩ (.int .i64 (x 3))) b x := by
  obtain ⟨A, h⟩ := h
  exact ⟨A, heap_setCell_at _ (heap_setCell_at _ (heap_setCell_at _ (heap_setCell_at _ h)))⟩
theorem ks_chg (w : World) (b : Nat) (u0 u1 u2 u3 : Value) : Chg (fun k => k = b) w ((((w.setCell ⟨b, 0, none⟩ u0).setCell ⟨b, 1, none⟩ u1).setCell ⟨b, 2, none⟩ u2).setCell ⟨b, 3, none⟩ u3) :=
  ((((Chg.refl (fun k => k = b) w).setCell (p := ⟨b, 0, none⟩) (.inl rfl) _).setCell (p := ⟨b, 1, none⟩) (.inl rfl) _).setCell (p := ⟨b, 2, none⟩) (.inl rfl) _).setCell (p := ⟨b, 3, none⟩) (.inl rfl) _
theorem KS.load (h : KS w b a) : (loadVar 37 ⟨b, 0, none⟩).run Try.prog w = .ok (S4 a) w := by
  obtain ⟨h0, h1, h2, h3⟩ := h.cells
  have hs := h.lt
  simp [go_sem, h0, h1, h2, h3, hs]
theorem res_s {fn : Func} {tmps : Array Value} {p : Nat} (h : fn.results = #[.cell p 37]) (hp : tmps.getD p undef = .pointer (some ⟨b, 0, none⟩)) (hb : KS w b a) :
    (results fn tmps).run Try.prog w = .ok (S4 a) w := by
  simp only [results, h]
  have hp' : tmps[p]?.getD undef = .pointer (some ⟨b, 0, none⟩) := by simpa [Array.getD_eq_getD_getElem?] using hp
  simp [Sem.run_bind, Result.andThen, hp', asAddr, hb.load]
end
/-- Where adding up stands: b0 the answer's block, b1 the total's. -/
structure SU (w w3 wr : World) (b0 b1 : Nat) (T : Nat → Int) : Prop where
  bel : Below b0 w wr
  k0 : KS wr b0 Z4
  k1 : KS wr b1 T
  ch : Chg (fun k => k = b1) w3 wr
theorem SU.on {w w3 wr wr' : World} {b0 b1 : Nat} {T : Nat → Int} (h : SU w w3 wr b0 b1 T) (hb : Below wr.heap.size wr wr') : SU w w3 wr' b0 b1 T :=
  ⟨h.bel.trans (hb.mono (Nat.le_of_lt h.k0.lt)), h.k0.below hb, h.k1.below hb, h.ch.then_below hb⟩
section
variable {w : World} {B tp : Nat} {great last : Int} {P : List Pf} {K : Nat → Prop}
/-- The sums of a framework's offers. -/
def sumP (P : List Pf) (f : Int) : Nat → Int := sumT Z4 ((P.filter fun x => x.2.1 == f).map fun x => x.2.2.2.1)
theorem z4_ok : SOk Z4 := sok_all fun j _ => ⟨Int.le_refl _, by show (0 : Int) ≤ 1152921504606846976; decide⟩
set_option maxRecDepth 100000 in
set_option maxHeartbeats 4000000 in
theorem vosum (h : OV w B tp great last P K) (hln : P.length < 1000000) {f : Int} (hf : I64 f) : Calls Try.prog 45 #[ptr tp, .int .i64 f] w fun e w' => e = .returned (S4 (sumP P f)) ∧ Below w.heap.size w w' := by
  have HPN := Lib.hid h.num
  have HIF := Lib.hid hf
  have hb01 := ba (Below.refl w.heap.size w) (.cells (C4 Z4) 37)
  have hb12 := ba (Below.refl (w.alloc (.cells (C4 Z4) 37)).heap.size (w.alloc (.cells (C4 Z4) 37))) (.cells (C4 Z4) 37)
  have hk0 := (KS.made w Z4 37).below hb12
  have hk1 := KS.made (w.alloc (.cells (C4 Z4) 37)) Z4 37
  rw [show (w.alloc (.cells (C4 Z4) 37)).heap.size = w.heap.size + 1 by simp] at hk1
  have hs2 : ((w.alloc (.cells (C4 Z4) 37)).alloc (.cells (C4 Z4) 37)).heap.size = w.heap.size + 2 := by simp
  have H2 := Lib.hid ((h.below hb01).below hb12)
  have HKB := Lib.hid (show ∀ b, K b → b < w.heap.size from fun b hb => (h.hK b hb).2)
  have HK0 := Lib.hid hk0; have HK1 := Lib.hid hk1; have HS2 := Lib.hid hs2; have HB2 := Lib.hid (bt hb01 hb12)
  clear h hk0 hk1 hs2 hb01 hb12 hf
  go_enter Try.func45, Try.ntmps45
  go_wp2_with fail
  generalize (w.alloc (.cells (C4 Z4) 37)).alloc (.cells (C4 Z4) 37) = w2 at *
  obtain ⟨b0, hb0⟩ : ∃ b, b = w.heap.size := ⟨_, rfl⟩
  rw [← hb0] at HK0 HK1 HS2 HB2 HKB ⊢
  have HBQ := Lib.hid hb0
  clear hb0
  obtain ⟨b1, hb1⟩ : ∃ b, b = b0 + 1 := ⟨_, rfl⟩
  rw [← hb1] at HK1 ⊢
  have HB1 := Lib.hid hb1
  clear hb1
  refine (voof H2.out hln HIF.out).mono ?_
  rintro e w3 ⟨v, rfl, hrs, hv, hb3⟩
  obtain ⟨a, n, cp, rfl, hn, hc, hm, hat⟩ := hrs.at_
  rw [List.length_map] at hn
  have hnm : n ≤ 9223372036854775807 := by unfold maxLen at hm; omega
  have hs3 := hb3.size
  have HI := Lib.hid (show SU w w3 w3 b0 b1 Z4 from ⟨HB2.out.trans (hb3.mono (by have := HS2.out; omega)), HK0.out.below hb3, HK1.out.below hb3, Chg.refl _ _⟩)
  have HAT := Lib.hid hat; have HN := Lib.hid hn
  have H3 := Lib.hid (H2.out.below hb3)
  have HL := Lib.hid (show ∀ b, Value.ownBlock (.slice a n cp) = some b → b ≠ b1 from fun b hb => by have := (hv b hb).1; have := HS2.out; have := HB1.out; omega)
  have HR := Lib.hid (show sumT Z4 ((P.filter fun x => x.2.1 == f).map fun x => x.2.2.2.1) = sumP P f from rfl)
  have HSO := Lib.hid z4_ok
  clear hat hn hrs hv hb3 hm hs3
  go_wp2
  go_loopw [14] (fun iv wr => ∃ (t : Nat) (T : Nat → Int), t ≤ n ∧ iv = .int .i64 t ∧ Hid (SU w w3 wr b0 b1 T ∧ SOk T ∧ sumT T (((P.filter fun x => x.2.1 == f).drop t).map fun x => x.2.2.2.1) = sumP P f)) (fun iv _ => n - (intOf iv).toNat)
  case atStart => exact ⟨0, Z4, Nat.zero_le _, rfl, Lib.hid ⟨HI.out, HSO.out, HR.out⟩⟩
  case round =>
    clear HI HSO HR
    obtain ⟨t, T, ht, rfl, HQ⟩ := hrel
    obtain ⟨w4, rfl⟩ : ∃ w4, w4 = wr := ⟨_, rfl⟩
    have hSU := HQ.out.1
    have HU4 := Lib.hid hSU
    obtain ⟨t0, t1, t2, t3⟩ := hSU.k1.cells
    have t4 := hSU.k1.lt
    obtain ⟨r0, r1, r2, r3⟩ := hSU.k0.cells
    have r4 := hSU.k0.lt
    have g0 := hSU.k0.fz 0; have g1 := hSU.k0.fz 1; have g2 := hSU.k0.fz 2; have g3 := hSU.k0.fz 3
    by_cases hlt : t < n
    · have hts : (t : Int) < (n : Int) := by omega
      obtain ⟨x, hx⟩ := at_lt (l := P.filter fun x => x.2.1 == f) (i := t) (by rw [← HN.out]; exact hlt)
      obtain ⟨bs, off, rfl, hbs, hcell⟩ := HAT.out t x.1 (by rw [List.getElem?_map, hx]; rfl)
      have hxP : x ∈ P := (List.mem_filter.1 (mem_at hx)).1
      have hnb : ¬ (bs = b1) := HL.out bs rfl
      have hd : (P.filter fun x => x.2.1 == f).drop t = x :: (P.filter fun x => x.2.1 == f).drop (t + 1) := by
        rw [List.drop_eq_getElem_cons (by rw [← HN.out]; exact hlt)]
        rw [(List.getElem?_eq_some_iff.1 hx).2]
      have d0 := (hSU.ch.cell (b := bs) hbs hnb _).trans (hcell 0 _ rfl)
      simp only [Nat.add_zero, Nat.mul_one] at d0
      have hbs4 : bs < w4.heap.size := Nat.lt_of_lt_of_le hbs hSU.ch.size
      have HQS := Lib.hid (show sumT T (x.2.2.2.1 :: ((P.filter fun x => x.2.1 == f).drop (t + 1)).map fun x => x.2.2.2.1) = sumP P f from by have := HQ.out.2.2; rw [hd] at this; exact this)
      have hnx := HPN.out x hxP
      have hV4 := H3.out.chg hSU.ch fun b hb e => by have := HKB.out b hb; have := HB1.out; have e : b = b1 := e; omega
      obtain ⟨Mo, Mf, Ma, S, L, F, A, hO, hSP, -⟩ := hV4.ot
      obtain ⟨y, hyS, hyx⟩ := List.mem_map.1 (show x ∈ S.map Ofr.pl by rw [hSP]; exact hxP)
      have hyf : fndO S x.1 = some y := by rw [← hyx]; exact hO.srt.fnd hyS
      obtain ⟨c0, c1, c2, c3, c4⟩ := hO.cells
      have hl := hO.lt.1
      have hvy := (hO.vec y hyS).vc
      have hps : y.ps = x.2.2.2.1 := by rw [← hyx]; rfl
      rw [hps] at hvy
      obtain ⟨va, vc, hvv, -, -⟩ := hvy.form
      have hxi : I64 x.1 := by have h1 := hnx.1; have h2 := hV4.cnt; exact ⟨by omega, by omega⟩
      have hlk : ∀ z : ExtC w4 (fun _ => False), (Instr.lookup 80 (.map (some Mo)) (.int .i64 x.1) false).run Try.prog (extC w4 (fun _ => False) z) = .ok (.agg #[.int .i64 y.id, .int .i64 y.frame, .int .i64 y.agent, .slice va x.2.2.2.1.length vc, .int .i64 y.til]) (extC w4 (fun _ => False) z) := fun z => by
        have h := (hO.chg (extC_chg w4 _ z) (fun _ _ => id)).find hxi false
        rw [hyf] at h
        rw [← hvv]
        exact h
      have HVX := Lib.hid (show Vc w4 (.slice va x.2.2.2.1.length vc) x.2.2.2.1 from by rw [← hvv]; exact hvy)
      have HXR := Lib.hid (show VR x.2.2.2.1 ∧ x.2.2.2.1 ≠ [] from ⟨hnx.2.2.2.2.1, hnx.2.2.2.1⟩)
      generalize x.2.2.2.1 = xs at *
      generalize x.1 = xk at *
      generalize y.id = yi at *
      generalize y.frame = yf at *
      generalize y.agent = ya at *
      generalize y.til = yu at *
      generalize hmx : xs.length = m at *
      clear hSU hx hcell hxP hd hnx hV4 hO hSP hyS hyx hyf hvy hps hvv hxi r0 r1 r2 r3 r4 g0 g1 g2 g3
      go_wp2
      clear d0 hbs hnb hbs4
      have HOF := Lib.hid fun z : ExtC w4 (fun _ => False) => sumsV (.slice va m vc) xs HXR.out.1 HXR.out.2 (extC w4 _ z) (HVX.out.on ((extC_chg w4 _ z).below (Nat.le_refl _) fun k h => h.elim))
      by_cases hok : SOk fun k => T k + kS xs k
      · have HAD := Lib.hid (add_both T (kS xs) true HQ.out.2.1 (kS_ok HXR.out.1) (decide_eq_true hok))
        have HOK := Lib.hid hok
        have HNX := Lib.hid (show sumT (fun k => T k + kS xs k) (((P.filter fun x => x.2.1 == f).drop (t + 1)).map fun x => x.2.2.2.1) = sumP P f from by have := HQS.out; rw [sumT, if_pos hok] at this; exact this)
        refine Mix.regionC (fun _ => False) (by kernel_rfl) ?_
        intro w6 hb6
        refine Mix.take_exC _ _ 0 rfl (by kernel_rfl) (by kernel_rfl) (by kernel_rfl) (by kernel_rfl) (fun K hK => ?_)
        go_simp
        first | (refine hK _ ?_; clear hK K) | (apply Exists.intro; refine ⟨fun x => ?_, hK _ ?_⟩; (fail); clear hK K)
        refine Mix.take_exC _ _ 1 rfl (by kernel_rfl) (by kernel_rfl) (by kernel_rfl) (by kernel_rfl) (fun K hK => ?_)
        go_simp
        first | (refine hK _ ?_; clear hK K) | (apply Exists.intro; refine ⟨fun x => ?_, hK _ ?_⟩; (fail); clear hK K)
        refine Mix.take_exC _ _ 2 rfl (by kernel_rfl) (by kernel_rfl) (by kernel_rfl) (by kernel_rfl) (fun K hK => ?_)
        go_simp
        first | (refine hK _ ?_; clear hK K) | (apply Exists.intro; refine ⟨fun x => ?_, hK _ ?_⟩; (fail); clear hK K)
        refine Mix.take_exC _ _ 3 rfl (by kernel_rfl) (by kernel_rfl) (by kernel_rfl) (by kernel_rfl) (fun K hK => ?_)
        go_simp
        first | (refine hK _ ?_; clear hK K) | (apply Exists.intro; refine ⟨fun x => ?_, hK _ ?_⟩; (fail); clear hK K)
        refine Mix.take_exC _ _ 4 rfl (by kernel_rfl) (by kernel_rfl) (by kernel_rfl) (by kernel_rfl) (fun K hK => ?_)
        go_simp
        first | (refine hK _ ?_; clear hK K) | (apply Exists.intro; refine ⟨fun x => ?_, hK _ ?_⟩; (fail); clear hK K)
        refine Mix.take_exC _ _ 5 rfl (by kernel_rfl) (by kernel_rfl) (by kernel_rfl) (by kernel_rfl) (fun K hK => ?_)
        go_simp
        first | (refine hK _ ?_; clear hK K) | (apply Exists.intro; refine ⟨fun x => ?_, hK _ ?_⟩; (fail); clear hK K)
        refine Mix.take_exC _ _ 6 rfl (by kernel_rfl) (by kernel_rfl) (by kernel_rfl) (by kernel_rfl) (fun K hK => ?_)
        go_simp
        first | (refine hK _ ?_; clear hK K) | (apply Exists.intro; refine ⟨fun x => ?_, hK _ ?_⟩; (fail); clear hK K)
        refine Mix.take_exC _ _ 7 rfl (by kernel_rfl) (by kernel_rfl) (by kernel_rfl) (by kernel_rfl) (fun K hK => ?_)
        go_simp
        first | (refine hK _ ?_; clear hK K) | (apply Exists.intro; refine ⟨fun x => ?_, hK _ ?_⟩; (fail); clear hK K)
        refine Mix.take_exC _ _ 8 rfl (by kernel_rfl) (by kernel_rfl) (by kernel_rfl) (by kernel_rfl) (fun K hK => ?_)
        go_simp
        first | (refine hK _ ?_; clear hK K) | (apply Exists.intro; refine ⟨fun x => ?_, hK _ ?_⟩; (((go_at_call 23; with_reducible exact HOF.out _))); clear hK K)
        refine Mix.take_exC _ _ 9 rfl (by kernel_rfl) (by kernel_rfl) (by kernel_rfl) (by kernel_rfl) (fun K hK => ?_)
        go_simp
        first | (refine hK _ ?_; clear hK K) | (apply Exists.intro; refine ⟨fun x => ?_, hK _ ?_⟩; (((go_at_call 24; with_reducible exact HAD.out _))); clear hK K)
        refine Mix.take_exC _ _ 10 rfl (by kernel_rfl) (by kernel_rfl) (by kernel_rfl) (by kernel_rfl) (fun K hK => ?_)
        go_simp
        first | (refine hK _ ?_; clear hK K) | (apply Exists.intro; refine ⟨fun x => ?_, hK _ ?_⟩; (fail); clear hK K)
        refine Mix.take_exC _ _ 11 rfl (by kernel_rfl) (by kernel_rfl) (by kernel_rfl) (by kernel_rfl) (fun K hK => ?_)
        go_simp
        first | (refine hK _ ?_; clear hK K) | (apply Exists.intro; refine ⟨fun x => ?_, hK _ ?_⟩; (fail); clear hK K)
        refine Mix.take_exC _ _ 12 rfl (by kernel_rfl) (by kernel_rfl) (by kernel_rfl) (by kernel_rfl) (fun K hK => ?_)
        go_simp
        first | (refine hK _ ?_; clear hK K) | (apply Exists.intro; refine ⟨fun x => ?_, hK _ ?_⟩; (fail); clear hK K)
        clear c0 c1 c2 c3 c4 hl t0 t1 t2 t3 t4
        refine Mix.all (rs := [13]) (by kernel_rfl) (by simp) (.of_below _ hb6) ?_
        intro i7 hi7 w7 hb7 hC7
        simp only [List.mem_cons, List.not_mem_nil, or_false] at hi7
        subst hi7
        have HB7 := Lib.hid (bt hb6 hb7)
        clear hC7 hb6 hb7
        refine Mix.op rfl (by kernel_rfl) ?_
        go_simp
        have hz8 := KS.made w7 Z4 37
        have hb78 := ba HB7.out (.cells (C4 Z4) 37)
        generalize w7.alloc (.cells (C4 Z4) 37) = w8 at *
        obtain ⟨q, hq⟩ : ∃ b, b = w7.heap.size := ⟨_, rfl⟩
        rw [← hq] at hz8 ⊢
        have HG7 := Lib.hid (show w4.heap.size ≤ q by rw [hq]; exact HB7.out.size)
        have HZ8 := Lib.hid hz8; have HB8 := Lib.hid hb78
        clear hz8 hb78 hq
        refine Mix.all (rs := [14]) (by kernel_rfl) (by simp) (.of_below _ HB8.out) ?_
        intro i9 hi9 w9 hb9 hC9
        simp only [List.mem_cons, List.not_mem_nil, or_false] at hi9
        subst hi9
        have HB9 := Lib.hid (bt HB8.out hb9)
        have hz9 := HZ8.out.below hb9
        clear hC9 hb9
        obtain ⟨m0, m1, m2, m3⟩ := hz9.cells
        have o0 := hz9.fz 0; have o1 := hz9.fz 1; have o2 := hz9.fz 2; have o3 := hz9.fz 3
        have m4 := hz9.lt
        have HST := Lib.hid (ks_chg w9 q (.int .i64 ((fun k => T k + kS xs k) 0)) (.int .i64 ((fun k => T k + kS xs k) 1)) (.int .i64 ((fun k => T k + kS xs k) 2)) (.int .i64 ((fun k => T k + kS xs k) 3)))
        have HZ10 := Lib.hid (hz9.set4 (fun k => T k + kS xs k))
        clear hz9
        refine Mix.op rfl (by kernel_rfl) ?_
        go_simp
        clear m0 m1 m2 m3 m4 o0 o1 o2 o3
        (try dsimp only at HST HZ10)
        generalize (((w9.setCell ⟨q, 0, none⟩ _).setCell ⟨q, 1, none⟩ _).setCell ⟨q, 2, none⟩ _).setCell ⟨q, 3, none⟩ _ = w10 at *
        have HB10 := Lib.hid (show Below w4.heap.size w4 w10 from HB9.out.trans (HST.out.below HB9.out.size fun k e => by have e : k = q := e; have := HG7.out; omega))
        refine Mix.take_exC _ _ 15 rfl (by kernel_rfl) (by kernel_rfl) (by kernel_rfl) (by kernel_rfl) (fun K hK => ?_)
        go_simp
        first | (refine hK _ ?_; clear hK K) | (apply Exists.intro; refine ⟨fun x => ?_, hK _ ?_⟩; (fail); clear hK K)
        refine Mix.done (by kernel_rfl) (.of_below _ HB10.out) ?_
        intro w11 hb11
        have HU11 := Lib.hid (HU4.out.on (bt HB10.out hb11))
        have hZ11 := HZ10.out.below hb11
        clear hb11
        obtain ⟨m0, m1, m2, m3⟩ := hZ11.cells
        have m4 := hZ11.lt
        clear hZ11
        obtain ⟨t0, t1, t2, t3⟩ := HU11.out.k1.cells
        have t4 := HU11.out.k1.lt
        have u0 := HU11.out.k1.fz 0; have u1 := HU11.out.k1.fz 1; have u2 := HU11.out.k1.fz 2; have u3 := HU11.out.k1.fz 3
        have HU12 := Lib.hid (show SU w w3 _ b0 b1 (fun k => T k + kS xs k) from ⟨HU11.out.bel.trans ((ks_chg w11 b1 (.int .i64 (T 0 + kS xs 0)) (.int .i64 (T 1 + kS xs 1)) (.int .i64 (T 2 + kS xs 2)) (.int .i64 (T 3 + kS xs 3))).below (Nat.le_of_lt HU11.out.k0.lt) fun k e => by rw [e]; have := HB1.out; omega), HU11.out.k0.chg (ks_chg w11 b1 _ _ _ _) (by have := HB1.out; show ¬ b0 = b1; omega), HU11.out.k1.set4 (fun k => T k + kS xs k), HU11.out.ch.same (ks_chg w11 b1 _ _ _ _)⟩)
        go_wp2
        go_roundw
        case rel => exact ⟨t + 1, _, by omega, by go_num, Lib.hid ⟨HU12.out, HOK.out, HNX.out⟩⟩
        case measure => simp [intOf]; omega
      · have HAD := Lib.hid (add_both T (kS xs) false HQ.out.2.1 (kS_ok HXR.out.1) (decide_eq_false hok))
        have HNX := Lib.hid (show Z4 = sumP P f from by have := HQS.out; rw [sumT, if_neg hok] at this; exact this)
        clear hok
        refine Mix.regionC (fun _ => False) (by kernel_rfl) ?_
        intro w6 hb6
        refine Mix.take_exC _ _ 0 rfl (by kernel_rfl) (by kernel_rfl) (by kernel_rfl) (by kernel_rfl) (fun K hK => ?_)
        go_simp
        first | (refine hK _ ?_; clear hK K) | (apply Exists.intro; refine ⟨fun x => ?_, hK _ ?_⟩; (fail); clear hK K)
        refine Mix.take_exC _ _ 1 rfl (by kernel_rfl) (by kernel_rfl) (by kernel_rfl) (by kernel_rfl) (fun K hK => ?_)
        go_simp
        first | (refine hK _ ?_; clear hK K) | (apply Exists.intro; refine ⟨fun x => ?_, hK _ ?_⟩; (fail); clear hK K)
        refine Mix.take_exC _ _ 2 rfl (by kernel_rfl) (by kernel_rfl) (by kernel_rfl) (by kernel_rfl) (fun K hK => ?_)
        go_simp
        first | (refine hK _ ?_; clear hK K) | (apply Exists.intro; refine ⟨fun x => ?_, hK _ ?_⟩; (fail); clear hK K)
        refine Mix.take_exC _ _ 3 rfl (by kernel_rfl) (by kernel_rfl) (by kernel_rfl) (by kernel_rfl) (fun K hK => ?_)
        go_simp
        first | (refine hK _ ?_; clear hK K) | (apply Exists.intro; refine ⟨fun x => ?_, hK _ ?_⟩; (fail); clear hK K)
        refine Mix.take_exC _ _ 4 rfl (by kernel_rfl) (by kernel_rfl) (by kernel_rfl) (by kernel_rfl) (fun K hK => ?_)
        go_simp
        first | (refine hK _ ?_; clear hK K) | (apply Exists.intro; refine ⟨fun x => ?_, hK _ ?_⟩; (fail); clear hK K)
        refine Mix.take_exC _ _ 5 rfl (by kernel_rfl) (by kernel_rfl) (by kernel_rfl) (by kernel_rfl) (fun K hK => ?_)
        go_simp
        first | (refine hK _ ?_; clear hK K) | (apply Exists.intro; refine ⟨fun x => ?_, hK _ ?_⟩; (fail); clear hK K)
        refine Mix.take_exC _ _ 6 rfl (by kernel_rfl) (by kernel_rfl) (by kernel_rfl) (by kernel_rfl) (fun K hK => ?_)
        go_simp
        first | (refine hK _ ?_; clear hK K) | (apply Exists.intro; refine ⟨fun x => ?_, hK _ ?_⟩; (fail); clear hK K)
        refine Mix.take_exC _ _ 7 rfl (by kernel_rfl) (by kernel_rfl) (by kernel_rfl) (by kernel_rfl) (fun K hK => ?_)
        go_simp
        first | (refine hK _ ?_; clear hK K) | (apply Exists.intro; refine ⟨fun x => ?_, hK _ ?_⟩; (fail); clear hK K)
        refine Mix.take_exC _ _ 8 rfl (by kernel_rfl) (by kernel_rfl) (by kernel_rfl) (by kernel_rfl) (fun K hK => ?_)
        go_simp
        first | (refine hK _ ?_; clear hK K) | (apply Exists.intro; refine ⟨fun x => ?_, hK _ ?_⟩; (((go_at_call 23; with_reducible exact HOF.out _))); clear hK K)
        refine Mix.take_exC _ _ 9 rfl (by kernel_rfl) (by kernel_rfl) (by kernel_rfl) (by kernel_rfl) (fun K hK => ?_)
        go_simp
        first | (refine hK _ ?_; clear hK K) | (apply Exists.intro; refine ⟨fun x => ?_, hK _ ?_⟩; (((go_at_call 24; with_reducible exact HAD.out _))); clear hK K)
        refine Mix.take_exC _ _ 10 rfl (by kernel_rfl) (by kernel_rfl) (by kernel_rfl) (by kernel_rfl) (fun K hK => ?_)
        go_simp
        first | (refine hK _ ?_; clear hK K) | (apply Exists.intro; refine ⟨fun x => ?_, hK _ ?_⟩; (fail); clear hK K)
        refine Mix.take_exC _ _ 11 rfl (by kernel_rfl) (by kernel_rfl) (by kernel_rfl) (by kernel_rfl) (fun K hK => ?_)
        go_simp
        first | (refine hK _ ?_; clear hK K) | (apply Exists.intro; refine ⟨fun x => ?_, hK _ ?_⟩; (fail); clear hK K)
        refine Mix.take_exC _ _ 12 rfl (by kernel_rfl) (by kernel_rfl) (by kernel_rfl) (by kernel_rfl) (fun K hK => ?_)
        go_simp
        first | (refine hK _ ?_; clear hK K) | (apply Exists.intro; refine ⟨fun x => ?_, hK _ ?_⟩; (fail); clear hK K)
        clear c0 c1 c2 c3 c4 hl t0 t1 t2 t3 t4
        refine Mix.all (rs := [13]) (by kernel_rfl) (by simp) (.of_below _ hb6) ?_
        intro i7 hi7 w7 hb7 hC7
        simp only [List.mem_cons, List.not_mem_nil, or_false] at hi7
        subst hi7
        have HB7 := Lib.hid (bt hb6 hb7)
        clear hC7 hb6 hb7
        refine Mix.op rfl (by kernel_rfl) ?_
        go_simp
        have hz8 := KS.made w7 Z4 37
        have hb78 := ba HB7.out (.cells (C4 Z4) 37)
        generalize w7.alloc (.cells (C4 Z4) 37) = w8 at *
        obtain ⟨q, hq⟩ : ∃ b, b = w7.heap.size := ⟨_, rfl⟩
        rw [← hq] at hz8 ⊢
        have HG7 := Lib.hid (show w4.heap.size ≤ q by rw [hq]; exact HB7.out.size)
        have HZ8 := Lib.hid hz8; have HB8 := Lib.hid hb78
        clear hz8 hb78 hq
        refine Mix.all (rs := [14]) (by kernel_rfl) (by simp) (.of_below _ HB8.out) ?_
        intro i9 hi9 w9 hb9 hC9
        simp only [List.mem_cons, List.not_mem_nil, or_false] at hi9
        subst hi9
        have HB9 := Lib.hid (bt HB8.out hb9)
        have hz9 := HZ8.out.below hb9
        clear hC9 hb9
        obtain ⟨m0, m1, m2, m3⟩ := hz9.cells
        have o0 := hz9.fz 0; have o1 := hz9.fz 1; have o2 := hz9.fz 2; have o3 := hz9.fz 3
        have m4 := hz9.lt
        have HST := Lib.hid (ks_chg w9 q (.int .i64 (Z4 0)) (.int .i64 (Z4 1)) (.int .i64 (Z4 2)) (.int .i64 (Z4 3)))
        have HZ10 := Lib.hid (hz9.set4 Z4)
        clear hz9
        refine Mix.op rfl (by kernel_rfl) ?_
        go_simp
        clear m0 m1 m2 m3 m4 o0 o1 o2 o3
        (try dsimp only at HST HZ10)
        generalize (((w9.setCell ⟨q, 0, none⟩ _).setCell ⟨q, 1, none⟩ _).setCell ⟨q, 2, none⟩ _).setCell ⟨q, 3, none⟩ _ = w10 at *
        have HB10 := Lib.hid (show Below w4.heap.size w4 w10 from HB9.out.trans (HST.out.below HB9.out.size fun k e => by have e : k = q := e; have := HG7.out; omega))
        refine Mix.take_exC _ _ 15 rfl (by kernel_rfl) (by kernel_rfl) (by kernel_rfl) (by kernel_rfl) (fun K hK => ?_)
        go_simp
        first | (refine hK _ ?_; clear hK K) | (apply Exists.intro; refine ⟨fun x => ?_, hK _ ?_⟩; (fail); clear hK K)
        refine Mix.done (by kernel_rfl) (.of_below _ HB10.out) ?_
        intro w11 hb11
        have HU11 := Lib.hid (HU4.out.on (bt HB10.out hb11))
        have hZ11 := HZ10.out.below hb11
        clear hb11
        obtain ⟨m0, m1, m2, m3⟩ := hZ11.cells
        have m4 := hZ11.lt
        clear hZ11
        obtain ⟨t0, t1, t2, t3⟩ := HU11.out.k0.cells
        have t4 := HU11.out.k0.lt
        have u0 := HU11.out.k0.fz 0; have u1 := HU11.out.k0.fz 1; have u2 := HU11.out.k0.fz 2; have u3 := HU11.out.k0.fz 3
        have HR0 := Lib.hid (HU11.out.k0.set4 Z4)
        have HB12 := Lib.hid (HU11.out.bel.trans ((ks_chg w11 b0 (.int .i64 0) (.int .i64 0) (.int .i64 0) (.int .i64 0)).below (Nat.le_of_lt HU11.out.k0.lt) fun k e => by rw [e]; exact Nat.le_refl _))
        go_wp2
        refine bodyPost_ret (res_s Try.results45 rfl HR0.out) rfl ?_
        exact ⟨by rw [← HNX.out], by rw [← HBQ.out]; exact HB12.out⟩
    · obtain rfl : n = t := by omega
      have HF := Lib.hid (show T = sumP P f from by have := HQ.out.2.2; rw [List.drop_eq_nil_of_le (by rw [← HN.out]; exact Nat.le_refl _)] at this; exact this)
      have HR0 := Lib.hid (hSU.k0.set4 T)
      have HB12 := Lib.hid (hSU.bel.trans ((ks_chg w4 b0 (.int .i64 (T 0)) (.int .i64 (T 1)) (.int .i64 (T 2)) (.int .i64 (T 3))).below (Nat.le_of_lt hSU.k0.lt) fun k e => by rw [e]; exact Nat.le_refl _))
      clear hSU
      go_wp2
      refine bodyPost_ret (res_s Try.results45 rfl HR0.out) rfl ?_
      exact ⟨by rw [← HF.out], by rw [← HBQ.out]; exact HB12.out⟩
end
end Go.Proofs.Ytnckjacbkhoppaa

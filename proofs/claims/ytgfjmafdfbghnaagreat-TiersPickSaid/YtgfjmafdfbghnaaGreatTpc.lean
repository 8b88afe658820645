/- The walk of TiersPick. -/
import Derived.Test.YtgfjmafdfbghnaaGreatTpb
namespace Go.Proofs.YtgfjmafdfbghnaaGreat
open Go.RowKit Go.Maps
attribute [local go_sem] ext_cell ext_frozen extC_cell extC_frozen Mix.calmUpon Mix.mUpon eqF10
/-- Is one of these a framework that is awake? -/
def awk (D : List Fd) (j : Int) : Bool := D.any fun x => x.id == j && x.aw
def thr (D : List Fd) (l : List Int) : Bool := l.any (awk D)
theorem thr_take {D : List Fd} {l : List Int} {s : Nat} {j : Int} (h : l[s]? = some j) : thr D (l.take (s + 1)) = (thr D (l.take s) || awk D j) := by
  unfold thr; rw [take_at h, List.any_append]; simp
theorem awk_no {D : List Fd} {j : Int} (h : ∀ d ∈ D, d.id ≠ j) : awk D j = false := by
  unfold awk
  rw [List.any_eq_false]
  intro d hd
  have : (d.id == j) = false := by simpa using h d hd
  simp [this]
theorem awk_at {D : List Fd} (hok : TOk D) {d : Fd} (h : d ∈ D) : awk D d.id = d.aw := by
  unfold awk
  cases ha : d.aw with
  | true => exact List.any_eq_true.2 ⟨d, h, by simp [ha]⟩
  | false =>
    rw [List.any_eq_false]
    intro e he
    by_cases hi : e.id = d.id
    · have := hok.one he h hi
      subst this; simp [ha]
    · have : (e.id == d.id) = false := by simpa using hi
      simp [this]
-- the document's Do, called at the world wi: wo behind it
-- the loop of the acts: FF the function, SLOT the loop's variable, MAX the bound; behind it: world w3, HP3 : PZ .., hlc
-- one act: done by the document and by the program; world w3 at its start
-- a share into a new variable: n d x, called by C at the world w0, the state HP0; behind it wn, HPn, the share HHn in the block bn
set_option maxRecDepth 100000 in
set_option maxHeartbeats 8000000 in
theorem picks10 (v sv : Value) (l : List A10) (sl : List Int) (W : World) (hr : RS 8 a10enc W v l) (ha : ∀ x ∈ l, I64 x.i) (hs : RS 1 n1 W sv sl) (hsp : Spl sv) (hsb : ∀ b, sv.ownBlock = some b → b < W.heap.size) (hsi : ∀ j ∈ sl, I64 j) : Calls Tryz.prog 5 #[v, sv] W fun e w' => e = .returned (.bool true) ∧ Below W.heap.size W w' := by
  obtain ⟨a, m, c, rfl, hn, hc, hm, hat⟩ := hr.at_
  obtain ⟨sa, ms, sc, rfl, hn2, hc2, hm2, hat2⟩ := hs.at_
  have HN := Lib.hid hn; have HAT := Lib.hid hat; have HA := Lib.hid ha
  have HN2 := Lib.hid hn2; have HAT2 := Lib.hid hat2; have HS := Lib.hid hs; have HSP := Lib.hid hsp; have HSB := Lib.hid hsb; have HSI := Lib.hid hsi
  clear hr hn hat ha hm hc hs hn2 hc2 hm2 hat2 hsp hsb hsi
  by_cases hbig : m ≤ 60
  · by_cases hbig2 : ms ≤ 20
    · go_enter Tryz.func5, Tryz.ntmps5
      go_wp2_with fail
      refine (pxnew W).mono ?_
      rintro e w1 ⟨p, rfl, hx⟩
      have hb2 := ba (Below.refl w1.heap.size w1) (.cells (mcellsx (fun _ => 0) (.slice none 0 0)) 28)
      have HI0 := Lib.hid (show PZ W (w1.alloc (.cells (mcellsx (fun _ => 0) (.slice none 0 0)) 28)) p w1.heap.size (fun _ => 0) [] (.slice none 0 0) ∧ ([] : List Fd).length ≤ 0 from
        ⟨⟨hx.on hb2 (fun b hb => by
          rcases hb with rfl | hb
          · exact .inr ⟨Nat.le_refl _, by simp⟩
          · (cases hb)), MBx.made w1 (fun _ => 0) _, RS.nil _ _ _, hx.bel.size, fun e => by cases e⟩, Nat.le_refl _⟩)
      clear hx hb2
      go_upto_region 5 with (fail)
      change Code.wp _ _ _ _ (w1.alloc (.cells (mcellsx (fun _ => 0) (.slice none 0 0)) 28))
      generalize w1.alloc (.cells (mcellsx (fun _ => 0) (.slice none 0 0)) 28) = w2 at *
      generalize w1.heap.size = mb at *
      go_wp2
      go_loopw [7] (fun iv wr => ∃ (t : Nat) (T : Nat → Int) (D : List Fd) (v : Value), t ≤ m ∧ iv = .int .i64 t ∧ Hid (PZ W wr p mb T D v ∧ D.length ≤ t)) (fun iv _ => m - (intOf iv).toNat)
      case atStart => exact ⟨0, _, _, _, Nat.zero_le _, rfl, HI0⟩
      case round =>
        clear HI0
        obtain ⟨t, T, D, v, ht, rfl, HQ⟩ := hrel
        obtain ⟨w3, rfl⟩ : ∃ w2, w2 = wr := ⟨_, rfl⟩
        have HP3 := Lib.hid HQ.out.1
        have hlc : D.length ≤ t := HQ.out.2
        obtain ⟨va, vn, vc, hv, -⟩ := HP3.out.rs.at_
        subst hv
        clear HQ
        by_cases hlt : t < m
        · skip
          have hts : (t : Int) < (m : Int) := by omega
          obtain ⟨x, hx⟩ := at_lt (l := l) (i := t) (by rw [← HN.out]; exact hlt)
          have hxi := HA.out x (mem_at hx)
          obtain ⟨b, off, rfl, hb, hcell⟩ := HAT.out t x hx
          have HXB := Lib.hid hb; have HXC := Lib.hid hcell; have HXI := Lib.hid hxi
          clear hx hb hcell hxi
          obtain ⟨⟨q, T5, D5⟩, hts5⟩ := tst_any HP3.out.px.ok T x
          have HTS := Lib.hid hts5
          have HTL := Lib.hid (show D5.length ≤ t + 1 from by have := hts5.len; simp only at this; omega)
          have hdo := fun w' (hb : Below w3.heap.size w3 w') => rdo10 (HP3.out.rs.below hb) (fun b e => Nat.lt_of_lt_of_le (HP3.out.vb b e) hb.size) (by omega) HP3.out.px.ok hts5
          have HDO := Lib.hid hdo
          clear hdo hts5
          have e0 := (HP3.out.px.bel.cell (p := ⟨b, off + t * 8 + 0, none⟩) HXB.out).trans (HXC.out 0 _ rfl)
          have e1 := (HP3.out.px.bel.cell (p := ⟨b, off + t * 8 + 1, none⟩) HXB.out).trans (HXC.out 1 _ rfl)
          have e2 := (HP3.out.px.bel.cell (p := ⟨b, off + t * 8 + 2, none⟩) HXB.out).trans (HXC.out 2 _ rfl)
          have e3 := (HP3.out.px.bel.cell (p := ⟨b, off + t * 8 + 3, none⟩) HXB.out).trans (HXC.out 3 _ rfl)
          have e4 := (HP3.out.px.bel.cell (p := ⟨b, off + t * 8 + 4, none⟩) HXB.out).trans (HXC.out 4 _ rfl)
          have e5 := (HP3.out.px.bel.cell (p := ⟨b, off + t * 8 + 5, none⟩) HXB.out).trans (HXC.out 5 _ rfl)
          have e6 := (HP3.out.px.bel.cell (p := ⟨b, off + t * 8 + 6, none⟩) HXB.out).trans (HXC.out 6 _ rfl)
          have e7 := (HP3.out.px.bel.cell (p := ⟨b, off + t * 8 + 7, none⟩) HXB.out).trans (HXC.out 7 _ rfl)
          simp only [Nat.add_zero] at e0
          have el : b < w3.heap.size := Nat.lt_of_lt_of_le HXB.out HP3.out.px.bel.size
          obtain ⟨m0, m1, m2, m3, m4⟩ := (HP3.out.m).cells
          have ml := (HP3.out.m).lt
          have hbm : ¬ b = mb := by have := HXB.out; have := HP3.out.b4; omega
          go_upto_region 8 with (fail)
          refine Mix.regionC (fun k => k = mb) (by kernel_rfl) ?_
          intro w30 hb30
          refine Mix.take_exC _ _ 1 rfl (by kernel_rfl) (by kernel_rfl) (by kernel_rfl) (by kernel_rfl) (fun K hK => ?_)
          go_simp
          first | (refine hK _ ?_; clear hK K) | (apply Exists.intro; refine ⟨fun x => ?_, hK _ ?_⟩; (fail); clear hK K)
          refine Mix.take_exC _ _ 2 rfl (by kernel_rfl) (by kernel_rfl) (by kernel_rfl) (by kernel_rfl) (fun K hK => ?_)
          go_simp
          first | (refine hK _ ?_; clear hK K) | (apply Exists.intro; refine ⟨fun x => ?_, hK _ ?_⟩; (fail); clear hK K)
          refine Mix.take_exC _ _ 3 rfl (by kernel_rfl) (by kernel_rfl) (by kernel_rfl) (by kernel_rfl) (fun K hK => ?_)
          go_simp
          first | (refine hK _ ?_; clear hK K) | (apply Exists.intro; refine ⟨fun x => ?_, hK _ ?_⟩; (fail); clear hK K)
          refine Mix.take_exC _ _ 4 rfl (by kernel_rfl) (by kernel_rfl) (by kernel_rfl) (by kernel_rfl) (fun K hK => ?_)
          go_simp
          first | (refine hK _ ?_; clear hK K) | (apply Exists.intro; refine ⟨fun x => ?_, hK _ ?_⟩; (fail); clear hK K)
          clear e0 e1 e2 e3 e4 e5 e6 e7 el
          clear m0 m1 m2 m3 m4 ml
          clear hbm
          refine Mix.all (rs := [0]) (by kernel_rfl) (by simp) (.of_below _ hb30) ?_
          intro i31 hi31 w31 hb31 hC31
          simp only [List.mem_cons, List.not_mem_nil, or_false] at hi31
          subst hi31
          have HB := Lib.hid (bt hb30 hb31)
          clear hC31 hb30 hb31
          obtain ⟨m0, m1, m2, m3, m4⟩ := ((HP3.out.m.below HB.out)).cells
          have ml := ((HP3.out.m.below HB.out)).lt
          refine Mix.op rfl (by kernel_rfl) ?_
          go_simp
          clear m0 m1 m2 m3 m4 ml
          refine Mix.all (rs := [5]) (by kernel_rfl) (by simp) (.of_below _ HB.out) ?_
          intro i6 hi6 w6 hb6 hC6
          simp only [List.mem_cons, List.not_mem_nil, or_false] at hi6
          subst hi6
          have HB := Lib.hid (bt HB.out hb6)
          clear hC6 hb6
          refine Mix.op rfl (by kernel_rfl) ?_
          go_simp
          refine (HDO.out w6 HB.out).mono ?_
          rintro e w7 ⟨v', rfl, hrs, hvb, hbd⟩
          refine ⟨_, rfl, ?_⟩
          obtain ⟨va5, vn5, vc5, hv5, -⟩ := hrs.at_
          subst hv5
          have HRS := Lib.hid hrs
          have HVB8 := Lib.hid (show ∀ b, (Value.slice va5 vn5 vc5).ownBlock = some b → (Value.slice va vn vc).ownBlock = some b ∨ w6.heap.size ≤ b from fun b e => by
            rcases hvb b e with h | h
            · exact .inl h
            · exact .inr h.1)
          have HBD := Lib.hid hbd
          have HVB := Lib.hid (show ∀ b, (Value.slice va5 vn5 vc5).ownBlock = some b → (Value.slice va vn vc).ownBlock = some b ∨ w3.heap.size ≤ b ∧ b < w7.heap.size from fun b e => by
            rcases hvb b e with h | h
            · exact .inl h
            · have := HB.out.size; exact .inr ⟨by omega, h.2⟩)
          have HB := Lib.hid (bt HB.out hbd)
          clear hrs hvb hbd HDO
          refine Mix.take_exC _ _ 6 rfl (by kernel_rfl) (by kernel_rfl) (by kernel_rfl) (by kernel_rfl) (fun K hK => ?_)
          go_simp
          first | (refine hK _ ?_; clear hK K) | (apply Exists.intro; refine ⟨fun x => ?_, hK _ ?_⟩; (fail); clear hK K)
          refine Mix.take_exC _ _ 7 rfl (by kernel_rfl) (by kernel_rfl) (by kernel_rfl) (by kernel_rfl) (fun K hK => ?_)
          go_simp
          first | (refine hK _ ?_; clear hK K) | (apply Exists.intro; refine ⟨fun x => ?_, hK _ ?_⟩; (fail); clear hK K)
          refine Mix.take_exC _ _ 8 rfl (by kernel_rfl) (by kernel_rfl) (by kernel_rfl) (by kernel_rfl) (fun K hK => ?_)
          go_simp
          first | (refine hK _ ?_; clear hK K) | (apply Exists.intro; refine ⟨fun x => ?_, hK _ ?_⟩; (fail); clear hK K)
          refine Mix.all (rs := [9]) (by kernel_rfl) (by simp) (.of_below _ HB.out) ?_
          intro i8 hi8 w8 hb8 hC8
          simp only [List.mem_cons, List.not_mem_nil, or_false] at hi8
          subst hi8
          have HB := Lib.hid (bt HB.out hb8)
          have HRS := Lib.hid (HRS.out.below hb8)
          have HVB := Lib.hid (show ∀ b, (Value.slice va5 vn5 vc5).ownBlock = some b → (Value.slice va vn vc).ownBlock = some b ∨ w3.heap.size ≤ b ∧ b < w8.heap.size from fun b e => by
            rcases HVB.out b e with h | h
            · exact .inl h
            · exact .inr ⟨h.1, Nat.lt_of_lt_of_le h.2 hb8.size⟩)
          clear hC8 hb8
          have hm8 := HP3.out.m.below HB.out
          have hpx8 := HP3.out.px.on (P' := fun b => b = mb ∨ (Value.slice va5 vn5 vc5).ownBlock = some b) HB.out (fun b hb => by
            rcases hb with hb | hb
            · exact .inl (.inl hb)
            · rcases HVB.out b hb with h | h
              · exact .inl (.inr h)
              · exact .inr h)
          have hne8 : (Value.slice va5 vn5 vc5).ownBlock ≠ some mb := fun e => by
            rcases HVB.out mb e with h | h
            · exact HP3.out.nb h
            · have := HP3.out.m.lt; omega
          have hst := set5x_chg w8 mb T5 (.slice va5 vn5 vc5)
          have HM9 := Lib.hid (hm8.set5 T5 (.slice va5 vn5 vc5))
          have HR9 := Lib.hid (HRS.out.chg hst fun b e e' => by have e' : b = mb := e'; subst e'; exact hne8 e)
          have HX9 := Lib.hid (hpx8.turn hst (fun b e => .inl e) hm8.nonode fun b e => by have e : b = mb := e; have := HP3.out.b4; omega)
          have HC9 := Lib.hid ((Chg.of_below (fun k => k = mb) HB.out).same hst)
          have HNE := Lib.hid hne8
          obtain ⟨m0, m1, m2, m3, m4⟩ := hm8.cells
          have mf0 := hm8.fz 0; have mf1 := hm8.fz 1; have mf2 := hm8.fz 2; have mf3 := hm8.fz 3; have mf4 := hm8.fz 4
          have ml := hm8.lt
          clear hm8 hpx8 hne8 hst
          refine Mix.op rfl (by kernel_rfl) ?_
          go_simp
          clear m0 m1 m2 m3 m4 mf0 mf1 mf2 mf3 mf4 ml
          refine Mix.done (by kernel_rfl) HC9.out ?_
          intro w12 hb12
          have HX12 := Lib.hid (HX9.out.below hb12)
          have HM12 := Lib.hid (HM9.out.below hb12)
          have HR12 := Lib.hid (HR9.out.below hb12)
          have HBW := Lib.hid HX12.out.bel
          clear hb12 HX9 HM9 HR9 HC9 HB HRS HVB
          have e0 := (HBW.out.cell (p := ⟨b, off + t * 8 + 0, none⟩) HXB.out).trans (HXC.out 0 _ rfl)
          have e1 := (HBW.out.cell (p := ⟨b, off + t * 8 + 1, none⟩) HXB.out).trans (HXC.out 1 _ rfl)
          have e2 := (HBW.out.cell (p := ⟨b, off + t * 8 + 2, none⟩) HXB.out).trans (HXC.out 2 _ rfl)
          have e3 := (HBW.out.cell (p := ⟨b, off + t * 8 + 3, none⟩) HXB.out).trans (HXC.out 3 _ rfl)
          have e4 := (HBW.out.cell (p := ⟨b, off + t * 8 + 4, none⟩) HXB.out).trans (HXC.out 4 _ rfl)
          have e5 := (HBW.out.cell (p := ⟨b, off + t * 8 + 5, none⟩) HXB.out).trans (HXC.out 5 _ rfl)
          have e6 := (HBW.out.cell (p := ⟨b, off + t * 8 + 6, none⟩) HXB.out).trans (HXC.out 6 _ rfl)
          have e7 := (HBW.out.cell (p := ⟨b, off + t * 8 + 7, none⟩) HXB.out).trans (HXC.out 7 _ rfl)
          simp only [Nat.add_zero] at e0
          have el : b < w12.heap.size := Nat.lt_of_lt_of_le HXB.out HBW.out.size
          go_wp2_with fail
          clear e0 e1 e2 e3 e4 e5 e6 e7 el
          refine (px_do HX12.out HXI.out (by omega) HTS.out).mono ?_
          rintro e w13 ⟨rfl, hp13, hc13⟩
          have HP13 := Lib.hid (show PZ W w13 p mb T5 D5 (.slice va5 vn5 vc5) from ⟨hp13, HM12.out.chg hc13 fun e => e (.inl rfl), HR12.out.chg hc13 fun b hb e => e (.inr hb), HP3.out.b4, HNE.out⟩)
          clear hc13 hp13 HX12 HM12 HR12
          go_wp2
          go_roundw
          case rel => exact ⟨t + 1, T5, D5, _, by omega, by go_num, Lib.hid ⟨HP13.out, HTL.out⟩⟩
          case measure => simp [intOf]; omega
        · obtain rfl : m = t := by omega
          have hpk := tpick HP3.out.px (by omega) (HS.out.below (HP3.out.px.bel)) HSP.out (fun b e => Nat.lt_of_lt_of_le (HSB.out b e) HP3.out.px.bel.size) (by have := HN2.out; omega)
          obtain ⟨O, hO⟩ : ∃ O, O = pickO T D sl := ⟨_, rfl⟩
          rw [← hO] at hpk
          have HO := Lib.hid hO
          obtain ⟨f, hf⟩ : ∃ f, f = pid O := ⟨_, rfl⟩
          obtain ⟨g, hg⟩ : ∃ g, g = O.isSome := ⟨_, rfl⟩
          rw [← hf, ← hg] at hpk
          have HF := Lib.hid hf; have HG := Lib.hid hg; have HPK := Lib.hid hpk
          clear hO hf hg hpk
          go_wp2_with fail
          refine HPK.out.mono ?_
          rintro e w4 ⟨rfl, hb4⟩
          have HP4 := Lib.hid (HP3.out.on hb4)
          clear hb4 HPK
          go_wp2
          go_loopw [10, 11] (fun th iv wr => ∃ s : Nat, s ≤ ms ∧ iv = .int .i64 s ∧ th = .bool (thr D (sl.take s)) ∧ Hid (PZ W wr p mb T D (.slice va vn vc))) (fun _ iv _ => ms - (intOf iv).toNat)
          case atStart => exact ⟨0, Nat.zero_le _, rfl, by simp [thr], HP4⟩
          case round =>
            clear HP4
            obtain ⟨s, hs, rfl, rfl, HP5⟩ := hrel
            obtain ⟨w5, rfl⟩ : ∃ x, x = wr := ⟨_, rfl⟩
            by_cases hls : s < ms
            · have hss : (s : Int) < (ms : Int) := by omega
              obtain ⟨j, hj⟩ := at_lt (l := sl) (i := s) (by rw [← HN2.out]; exact hls)
              obtain ⟨sb, soff, rfl, hsb, hsc⟩ := HAT2.out s j hj
              have HTT := Lib.hid (thr_take (D := D) hj)
              have HJM := Lib.hid (mem_at hj)
              have HSB0 := Lib.hid hsb; have HSC := Lib.hid (hsc 0 _ rfl)
              clear hj hsb hsc
              obtain ⟨tb, htb⟩ : ∃ y, y = thr D (sl.take s) := ⟨_, rfl⟩
              rw [← htb] at HTT ⊢
              clear htb
              have q0 := (HP5.out.px.bel.cell (p := ⟨sb, soff + s * 1 + 0, none⟩) HSB0.out).trans HSC.out
              simp only [Nat.add_zero, Nat.mul_one] at q0
              have ql : sb < w5.heap.size := Nat.lt_of_lt_of_le HSB0.out HP5.out.px.bel.size
              obtain ⟨m0, m1, m2, m3, m4⟩ := (HP5.out.m).cells
              have ml := (HP5.out.m).lt
              go_upto_region 15 with (fail)
              refine Mix.regionC (fun _ => False) (by kernel_rfl) ?_
              intro w50 hb50
              refine Mix.take_exC _ _ 0 rfl (by kernel_rfl) (by kernel_rfl) (by kernel_rfl) (by kernel_rfl) (fun K hK => ?_)
              go_simp
              first | (refine hK _ ?_; clear hK K) | (apply Exists.intro; refine ⟨fun x => ?_, hK _ ?_⟩; (fail); clear hK K)
              refine Mix.take_exC _ _ 1 rfl (by kernel_rfl) (by kernel_rfl) (by kernel_rfl) (by kernel_rfl) (fun K hK => ?_)
              go_simp
              first | (refine hK _ ?_; clear hK K) | (apply Exists.intro; refine ⟨fun x => ?_, hK _ ?_⟩; (fail); clear hK K)
              refine Mix.take_exC _ _ 2 rfl (by kernel_rfl) (by kernel_rfl) (by kernel_rfl) (by kernel_rfl) (fun K hK => ?_)
              go_simp
              first | (refine hK _ ?_; clear hK K) | (apply Exists.intro; refine ⟨fun x => ?_, hK _ ?_⟩; (fail); clear hK K)
              refine Mix.take_exC _ _ 3 rfl (by kernel_rfl) (by kernel_rfl) (by kernel_rfl) (by kernel_rfl) (fun K hK => ?_)
              go_simp
              first | (refine hK _ ?_; clear hK K) | (apply Exists.intro; refine ⟨fun x => ?_, hK _ ?_⟩; (fail); clear hK K)
              refine Mix.take_exC _ _ 4 rfl (by kernel_rfl) (by kernel_rfl) (by kernel_rfl) (by kernel_rfl) (fun K hK => ?_)
              go_simp
              first | (refine hK _ ?_; clear hK K) | (apply Exists.intro; refine ⟨fun x => ?_, hK _ ?_⟩; (fail); clear hK K)
              clear q0 ql
              clear m0 m1 m2 m3 m4 ml
              refine Mix.all (rs := [5]) (by kernel_rfl) (by simp) (.of_below _ hb50) ?_
              intro i6 hi6 w6 hb6 hC6
              simp only [List.mem_cons, List.not_mem_nil, or_false] at hi6
              subst hi6
              have HB := Lib.hid (bt hb50 hb6)
              clear hC6 hb50 hb6
              refine Mix.op rfl (by kernel_rfl) ?_
              go_simp
              refine (ratx (T := T) (HP5.out.rs.below HB.out) j).mono ?_
              rintro e w7 ⟨z, rfl, hz, hb7⟩
              refine ⟨_, rfl, ?_⟩
              have HB := Lib.hid (bt HB.out hb7)
              have HZ := Lib.hid hz
              clear hb7 hz
              refine Mix.take_exC _ _ 6 rfl (by kernel_rfl) (by kernel_rfl) (by kernel_rfl) (by kernel_rfl) (fun K hK => ?_)
              go_simp
              first | (refine hK _ ?_; clear hK K) | (apply Exists.intro; refine ⟨fun x => ?_, hK _ ?_⟩; (fail); clear hK K)
              refine Mix.done (by kernel_rfl) (.of_below _ HB.out) ?_
              intro w8 hb8
              have HP8 := Lib.hid (HP5.out.on (bt HB.out hb8))
              clear hb8 HB
              rcases HZ.out with ⟨k, d, rfl, hk, hid⟩ | ⟨rfl, hno⟩
              case inr =>
                have HT2 := Lib.hid (show thr D (sl.take (s + 1)) = tb from by rw [HTT.out, awk_no hno]; simp)
                clear hno
                go_wp2
                go_roundw
                case rel => exact ⟨s + 1, hls, by go_num, by rw [HT2.out], HP8⟩
                case measure => simp [intOf]; omega
              subst hid
              have hdm : d ∈ D := mem_at hk
              have haw := awk_at HP8.out.px.ok hdm
              obtain ⟨a7, n7, c7, he7, hn7, -, -, hat7⟩ := HP8.out.rs.at_
              obtain ⟨bs, off, hva, hbs, hcell⟩ := hat7 k d hk
              have hnk : k < vn := by
                have h1 := (List.getElem?_eq_some_iff.1 hk).1
                cases he7; omega
              obtain rfl : va = some ⟨bs, off, none⟩ := by cases he7; exact hva
              have f7 := hcell 7 _ rfl
              have f2 := hcell 2 _ rfl
              have HF2 := Lib.hid f2; have HBS := Lib.hid hbs
              have hki : (k : Int) < (vn : Int) := by omega
              have hk0 : (0 : Int) ≤ (k : Int) := by omega
              have HDM := Lib.hid hdm; have HAW := Lib.hid haw
              clear he7 hn7 hat7 hva hcell hk hdm haw
              obtain ⟨m0, m1, m2, m3, m4⟩ := (HP8.out.m).cells
              have ml := (HP8.out.m).lt
              cases hda : d.aw with
              | false =>
                have HT2 := Lib.hid (show thr D (sl.take (s + 1)) = tb from by rw [HTT.out, HAW.out, hda]; simp)
                rw [hda] at f7
                clear hda
                go_wp2
                go_roundw
                case rel => exact ⟨s + 1, hls, by go_num, by rw [HT2.out], HP8⟩
                case measure => simp [intOf]; omega
              | true =>
                have HT2 := Lib.hid (show thr D (sl.take (s + 1)) = true from by rw [HTT.out, HAW.out, hda]; simp)
                obtain ⟨q, hq⟩ : ∃ q, O = some q := by
                  cases hO : O with
                  | some q => exact ⟨q, rfl⟩
                  | none => exact absurd HJM.out (pick_no HP8.out.px (HO.out.symm.trans hO) d HDM.out hda)
                have hpi := pick_is HP8.out.px (HO.out.symm.trans hq)
                obtain ⟨⟨x, hx, hxr, hxi, -⟩, -, hall⟩ := hpi
                obtain ⟨⟨c1, c2, hc1, hc2, hle⟩, hown⟩ := hall d HDM.out hda HJM.out
                obtain rfl : g = true := by rw [HG.out, hq]; rfl
                have hfx : f = x.id := by rw [HF.out, hq, hxi]; rfl
                rw [hda] at f7
                obtain ⟨A, B, hD⟩ := parted hx
                obtain ⟨A2, B2, hD2⟩ := parted HDM.out
                have hrl := fun w' (h : PZ W w' p mb T D (.slice (some ⟨bs, off, none⟩) vn vc)) => px_role (x := x) (A := A) (B := B) (T := T) (W := W) (p := p) (P := fun b => b = mb ∨ (Value.slice (some ⟨bs, off, none⟩) vn vc).ownBlock = some b) (w := w') (by rw [← hD]; exact h.px)
                have how1 := fun w' (h : PZ W w' p mb T D (.slice (some ⟨bs, off, none⟩) vn vc)) => px_own (x := x) (A := A) (B := B) (T := T) (W := W) (p := p) (P := fun b => b = mb ∨ (Value.slice (some ⟨bs, off, none⟩) vn vc).ownBlock = some b) (w := w') (by rw [← hD]; exact h.px)
                have how2 := fun w' (h : PZ W w' p mb T D (.slice (some ⟨bs, off, none⟩) vn vc)) => px_own (x := d) (A := A2) (B := B2) (T := T) (W := W) (p := p) (P := fun b => b = mb ∨ (Value.slice (some ⟨bs, off, none⟩) vn vc).ownBlock = some b) (w := w') (by rw [← hD2]; exact h.px)
                rw [← hfx] at hrl how1
                have hr1 := i64_role (HP8.out.px.ok.r1 x hx)
                have hr2 := i64_role (HP8.out.px.ok.r1 d HDM.out)
                have hsh1 := fun w' (h : PZ W w' p mb T D (.slice (some ⟨bs, off, none⟩) vn vc)) => px_share (c := c1) h.px hr1 (by rw [hxr]; exact hc1)
                have hsh2 := fun w' (h : PZ W w' p mb T D (.slice (some ⟨bs, off, none⟩) vn vc)) => px_share (c := c2) h.px hr2 hc2
                have hcm1 := scmp_any (domV c1.s T).2.1 (domV c1.s T).2.2 c1.wt (domV c2.s T).2.1 (domV c2.s T).2.2 c2.wt
                have hcm2 := scmp_any (domV x.s T).2.1 (domV x.s T).2.2 1 (domV d.s T).2.1 (domV d.s T).2.2 1
                have hle2 : x.role = d.role → scmp (domV x.s T).2.1 (domV x.s T).2.2 1 (domV d.s T).2.1 (domV d.s T).2.2 1 ≤ 0 := fun e => by
                  obtain ⟨y1, y2, h1, h2, h3⟩ := hown (hxr.symm.trans e)
                  rw [← hxr, ← hxi] at h1
                  have g1 := (GO_some (r := x.role) (i := x.id) HP8.out.px.ok).2 ⟨x, hx, rfl, rfl, rfl⟩
                  have g2 := (GO_some (r := d.role) (i := d.id) HP8.out.px.ok).2 ⟨d, HDM.out, rfl, rfl, rfl⟩
                  rw [h1] at g1; rw [h2] at g2
                  cases g1; cases g2
                  exact h3
                unfold sle at hle
                obtain ⟨an, han⟩ : ∃ y, y = (domV c1.s T).2.1 := ⟨_, rfl⟩
                obtain ⟨ad, had⟩ : ∃ y, y = (domV c1.s T).2.2 := ⟨_, rfl⟩
                obtain ⟨aw, haw⟩ : ∃ y, y = c1.wt := ⟨_, rfl⟩
                obtain ⟨bn, hbn⟩ : ∃ y, y = (domV c2.s T).2.1 := ⟨_, rfl⟩
                obtain ⟨bd, hbd⟩ : ∃ y, y = (domV c2.s T).2.2 := ⟨_, rfl⟩
                obtain ⟨bw, hbw⟩ : ∃ y, y = c2.wt := ⟨_, rfl⟩
                obtain ⟨xn, hxn⟩ : ∃ y, y = (domV x.s T).2.1 := ⟨_, rfl⟩
                obtain ⟨xd, hxd⟩ : ∃ y, y = (domV x.s T).2.2 := ⟨_, rfl⟩
                obtain ⟨yn, hyn⟩ : ∃ y, y = (domV d.s T).2.1 := ⟨_, rfl⟩
                obtain ⟨yd, hyd⟩ : ∃ y, y = (domV d.s T).2.2 := ⟨_, rfl⟩
                rw [← han, ← had, ← haw, ← hbn, ← hbd, ← hbw] at hcm1 hle
                rw [← han, ← had, ← haw] at hsh1
                rw [← hbn, ← hbd, ← hbw] at hsh2
                rw [← hxn, ← hxd, ← hyn, ← hyd] at hcm2 hle2
                rw [← hxn, ← hxd] at how1
                rw [← hyn, ← hyd] at how2
                obtain ⟨z1, hz1⟩ : ∃ y, y = scmp an ad aw bn bd bw := ⟨_, rfl⟩
                obtain ⟨z2, hz2⟩ : ∃ y, y = scmp xn xd 1 yn yd 1 := ⟨_, rfl⟩
                rw [← hz1] at hcm1 hle
                rw [← hz2] at hcm2 hle2
                have HRL := Lib.hid hrl; have HO1 := Lib.hid how1; have HO2 := Lib.hid how2; have HS1 := Lib.hid hsh1; have HS2 := Lib.hid hsh2
                have HC1 := Lib.hid hcm1; have HC2 := Lib.hid hcm2; have HLE := Lib.hid hle; have HLE2 := Lib.hid hle2
                clear hrl how1 how2 hsh1 hsh2 hcm1 hcm2 hle hle2 hz1 hz2 han had haw hbn hbd hbw hxn hxd hyn hyd hD hD2 hall hown hc1 hc2 hxr hxi hx hda hr1 hr2 hq HF HG HAW HTT HZ
                obtain ⟨xr, hxr⟩ : ∃ y, y = x.role := ⟨_, rfl⟩
                obtain ⟨di, hdi⟩ : ∃ y, y = d.id := ⟨_, rfl⟩
                obtain ⟨dr, hdr⟩ : ∃ y, y = d.role := ⟨_, rfl⟩
                rw [← hxr] at HRL
                rw [← hxr] at HS1
                rw [← hdi] at HO2 HSC HJM
                rw [← hdr] at HS2 f2 HF2
                rw [← hxr, ← hdr] at HLE2
                clear hxr hdi hdr f2 hfx
                go_wp2_with fail
                clear m0 m1 m2 m3 m4 ml
                clear f7
                refine (HRL.out w8 HP8.out).mono ?_
                rintro e w9 ⟨rfl, hb9⟩
                have HP9 := Lib.hid (HP8.out.on hb9)
                have HBC := Lib.hid hb9
                clear hb9
                go_wp2_with fail
                refine (HS1.out w9 HP9.out).mono ?_
                rintro e w10 ⟨rfl, hb10⟩
                have hb11 := ba hb10 (.cells #[.int .i64 an, .int .i64 ad, .int .i64 aw] 44)
                have HP11 := Lib.hid (HP9.out.on hb11)
                have HBC := Lib.hid (bt HBC.out hb11)
                have HHA := Lib.hid (HBx.made w10 an ad aw)
                clear hb10 hb11
                go_upto_region 22 with (fail)
                generalize w10.alloc (.cells #[.int .i64 an, .int .i64 ad, .int .i64 aw] 44) = w11 at *
                generalize w10.heap.size = ba at *
                obtain ⟨m0, m1, m2, m3, m4⟩ := (HP11.out.m).cells
                have ml := (HP11.out.m).lt
                have f2 := (HBC.out.cell (p := ⟨bs, off + k * 8 + 2, none⟩) HBS.out).trans HF2.out
                have hbs2 := Nat.lt_of_lt_of_le HBS.out HBC.out.size
                go_wp2_with fail
                clear m0 m1 m2 m3 m4 ml
                clear f2 hbs2
                refine (HS2.out w11 HP11.out).mono ?_
                rintro e w12 ⟨rfl, hb12⟩
                have hb13 := Go.Proofs.YtgfjmafdfbghnaaGreat.ba hb12 (.cells #[.int .i64 bn, .int .i64 bd, .int .i64 bw] 44)
                have HP13 := Lib.hid (HP11.out.on hb13)
                have HBC := Lib.hid (bt HBC.out hb13)
                have HHA := Lib.hid (HHA.out.below hb13)
                have HHB := Lib.hid (HBx.made w12 bn bd bw)
                clear hb12 hb13
                go_upto_region 23 with (fail)
                generalize w12.alloc (.cells #[.int .i64 bn, .int .i64 bd, .int .i64 bw] 44) = w13 at *
                generalize w12.heap.size = bb at *
                go_wp2_with fail
                refine (HO1.out w13 HP13.out).mono ?_
                rintro e w14 ⟨rfl, hb14⟩
                have hb15 := Go.Proofs.YtgfjmafdfbghnaaGreat.ba hb14 (.cells #[.int .i64 xn, .int .i64 xd, .int .i64 1] 44)
                have HP15 := Lib.hid (HP13.out.on hb15)
                have HBC := Lib.hid (bt HBC.out hb15)
                have HHA := Lib.hid (HHA.out.below hb15)
                have HHB := Lib.hid (HHB.out.below hb15)
                have HHX := Lib.hid (HBx.made w14 xn xd 1)
                clear hb14 hb15
                go_upto_region 24 with (fail)
                generalize w14.alloc (.cells #[.int .i64 xn, .int .i64 xd, .int .i64 1] 44) = w15 at *
                generalize w14.heap.size = bx at *
                have q0 := (HP15.out.px.bel.cell (p := ⟨sb, soff + s * 1 + 0, none⟩) HSB0.out).trans HSC.out
                simp only [Nat.add_zero, Nat.mul_one] at q0
                have ql : sb < w15.heap.size := Nat.lt_of_lt_of_le HSB0.out HP15.out.px.bel.size
                go_wp2_with fail
                clear q0 ql
                refine (HO2.out w15 HP15.out).mono ?_
                rintro e w16 ⟨rfl, hb16⟩
                have hb17 := Go.Proofs.YtgfjmafdfbghnaaGreat.ba hb16 (.cells #[.int .i64 yn, .int .i64 yd, .int .i64 1] 44)
                have HP17 := Lib.hid (HP15.out.on hb17)
                have HBC := Lib.hid (bt HBC.out hb17)
                have HHA := Lib.hid (HHA.out.below hb17)
                have HHB := Lib.hid (HHB.out.below hb17)
                have HHX := Lib.hid (HHX.out.below hb17)
                have HHY := Lib.hid (HBx.made w16 yn yd 1)
                clear hb16 hb17
                go_upto_region 25 with (fail)
                generalize w16.alloc (.cells #[.int .i64 yn, .int .i64 yd, .int .i64 1] 44) = w17 at *
                generalize w16.heap.size = by_ at *
                obtain ⟨ga0, ga1, ga2⟩ := HHA.out.cells
                have gal := HHA.out.lt
                obtain ⟨gb0, gb1, gb2⟩ := HHB.out.cells
                have gbl := HHB.out.lt
                go_wp2_with fail
                refine (HC1.out w17).mono ?_
                rintro e w18 ⟨rfl, hb18⟩
                have HP18 := Lib.hid (HP17.out.on hb18)
                have HBC := Lib.hid (bt HBC.out hb18)
                have HHX := Lib.hid (HHX.out.below hb18)
                have HHY := Lib.hid (HHY.out.below hb18)
                clear hb18 ga0 ga1 ga2 gal gb0 gb1 gb2 gbl
                have hz1 : ¬ 0 < z1 := by have := HLE.out; omega
                obtain ⟨m0, m1, m2, m3, m4⟩ := (HP18.out.m).cells
                have ml := (HP18.out.m).lt
                have f2 := (HBC.out.cell (p := ⟨bs, off + k * 8 + 2, none⟩) HBS.out).trans HF2.out
                have hbs2 := Nat.lt_of_lt_of_le HBS.out HBC.out.size
                by_cases hrr : xr = dr
                · have hrb : (xr == dr) = true := by simpa using hrr
                  have HZ2 := Lib.hid (HLE2.out hrr)
                  clear hrr
                  obtain ⟨gx0, gx1, gx2⟩ := HHX.out.cells
                  have gxl := HHX.out.lt
                  obtain ⟨gy0, gy1, gy2⟩ := HHY.out.cells
                  have gyl := HHY.out.lt
                  go_wp2_with fail
                  clear m0 m1 m2 m3 m4 ml
                  clear f2 hbs2 gx0 gx1 gx2 gxl gy0 gy1 gy2 gyl
                  refine (HC2.out w18).mono ?_
                  rintro e w19 ⟨rfl, hb19⟩
                  have HP19 := Lib.hid (HP18.out.on hb19)
                  clear hb19
                  have hz2 : ¬ 0 < z2 := by have := HZ2.out; omega
                  go_wp2
                  go_roundw
                  case rel => exact ⟨s + 1, hls, by go_num, by rw [HT2.out], HP19⟩
                  case measure => simp [intOf]; omega
                · have hrb : (xr == dr) = false := by simpa using hrr
                  clear hrr
                  go_wp2
                  go_roundw
                  case rel => exact ⟨s + 1, hls, by go_num, by rw [HT2.out], HP18⟩
                  case measure => simp [intOf]; omega
            · obtain rfl : ms = s := by omega
              obtain ⟨tb, htb⟩ : ∃ y, y = thr D sl := ⟨_, rfl⟩
              rw [List.take_of_length_le (by rw [HN2.out]; exact Nat.le_refl _), ← htb]
              have HTB := Lib.hid htb
              clear htb hs
              go_wp2
              go_loopw [23, 24] (fun bv iv wr => ∃ s : Nat, s ≤ ms ∧ iv = .int .i64 s ∧ bv = .bool ((sl.take s).contains f) ∧ Hid (PZ W wr p mb T D (.slice va vn vc))) (fun _ iv _ => ms - (intOf iv).toNat)
              case atStart => exact ⟨0, Nat.zero_le _, rfl, by simp, HP5⟩
              case round =>
                clear HP5
                obtain ⟨s, hs, rfl, rfl, HP6⟩ := hrel
                obtain ⟨w6, rfl⟩ : ∃ x, x = wr := ⟨_, rfl⟩
                by_cases hls : s < ms
                · have hss : (s : Int) < (ms : Int) := by omega
                  obtain ⟨j, hj⟩ := at_lt (l := sl) (i := s) (by rw [← HN2.out]; exact hls)
                  obtain ⟨sb, soff, rfl, hsb, hsc⟩ := HAT2.out s j hj
                  have htk : (sl.take (s + 1)).contains f = ((sl.take s).contains f || (j == f)) := by
                    rw [take_at hj, Bool.eq_iff_iff]
                    simp only [List.contains_iff_mem, List.mem_append, List.mem_singleton, Bool.or_eq_true, beq_iff_eq]
                    constructor
                    · rintro (h | h)
                      · exact .inl h
                      · exact .inr h.symm
                    · rintro (h | h)
                      · exact .inl h
                      · exact .inr h.symm
                  obtain ⟨ib, hib⟩ : ∃ y, y = (sl.take s).contains f := ⟨_, rfl⟩
                  rw [← hib] at htk ⊢
                  have q0 := (HP6.out.px.bel.cell (p := ⟨sb, soff + s * 1 + 0, none⟩) hsb).trans (hsc 0 _ rfl)
                  simp only [Nat.add_zero, Nat.mul_one] at q0
                  have ql : sb < w6.heap.size := Nat.lt_of_lt_of_le hsb HP6.out.px.bel.size
                  have HTK := Lib.hid htk
                  clear htk hib hj hsb hsc
                  cases ib with
                  | true =>
                    go_wp2
                    go_roundw
                    case rel => exact ⟨s + 1, hls, by go_num, by rw [HTK.out]; rfl, HP6⟩
                    case measure => simp [intOf]; omega
                  | false =>
                    by_cases hjf : j = f
                    · have hjb : (j == f) = true := by simpa using hjf
                      have HTK2 := Lib.hid (show (sl.take (s + 1)).contains f = true from by rw [HTK.out, hjb]; rfl)
                      clear hjf
                      go_wp2
                      go_roundw
                      case rel => exact ⟨s + 1, hls, by go_num, by rw [HTK2.out], HP6⟩
                      case measure => simp [intOf]; omega
                    · have hjb : (j == f) = false := by simpa using hjf
                      have HTK2 := Lib.hid (show (sl.take (s + 1)).contains f = false from by rw [HTK.out, hjb]; rfl)
                      clear hjf
                      go_wp2
                      go_roundw
                      case rel => exact ⟨s + 1, hls, by go_num, by rw [HTK2.out], HP6⟩
                      case measure => simp [intOf]; omega
                · obtain rfl : ms = s := by omega
                  obtain ⟨ib, hib⟩ : ∃ y, y = sl.contains f := ⟨_, rfl⟩
                  rw [List.take_of_length_le (by rw [HN2.out]; exact Nat.le_refl _), ← hib]
                  have HIB := Lib.hid hib
                  clear hib
                  have HNP := Lib.hid fun w' (h : PZ W w' p mb T D (.slice va vn vc)) => tpick_nil (HS.out.below h.px.bel) HSP.out (fun b e => Nat.lt_of_lt_of_le (HSB.out b e) h.px.bel.size) (by have := HN2.out; omega)
                  go_wp2_with fail
                  refine (HNP.out w6 HP6.out).mono ?_
                  rintro e w7 ⟨rfl, hb7⟩
                  have HP7 := Lib.hid (HP6.out.on hb7)
                  clear hb7
                  cases hO : O with
                  | none =>
                    obtain rfl : g = false := by rw [HG.out, hO]; rfl
                    obtain rfl : f = 0 := by rw [HF.out, hO]; rfl
                    obtain rfl : tb = false := by
                      rw [HTB.out]
                      unfold thr
                      rw [List.any_eq_false]
                      intro j hj
                      unfold awk
                      simp only [Bool.not_eq_true]
                      rw [List.any_eq_false]
                      intro x hx
                      simp only [Bool.not_eq_true, Bool.and_eq_false_iff]
                      by_cases hi : x.id = j
                      · right
                        cases hxa : x.aw with
                        | false => rfl
                        | true => exact absurd (hi ▸ hj) (pick_no HP6.out.px (HO.out.symm.trans hO) x hx hxa)
                      · left; simpa using hi
                    clear hO
                    go_wp2_with fail
                    refine (tput_nil 1 1 1 w7).mono ?_
                    rintro e w8 ⟨rfl, rfl⟩
                    go_wp2_with fail
                    refine (walks10_nil (Wk := []) rfl (RS.nil 2 prenc w8)).mono ?_
                    rintro e w9 ⟨rfl, hb9⟩
                    have HP9 := Lib.hid (HP7.out.on hb9)
                    clear hb9
                    rw [decide_eq_true rfl]
                    go_wp2_with fail
                    refine (works10 w9).mono ?_
                    rintro e w10 ⟨rfl, hb10⟩
                    have HP10 := Lib.hid (HP9.out.on hb10)
                    clear hb10
                    go_wp2
                    go_ret
                    exact ⟨rfl, HP10.out.px.bel⟩
                  | some q =>
                    obtain ⟨⟨x, hx, -, hxi, hxa⟩, hql, -⟩ := pick_is HP6.out.px (HO.out.symm.trans hO)
                    obtain rfl : g = true := by rw [HG.out, hO]; rfl
                    have hfq : f = q.2 := by rw [HF.out, hO]; rfl
                    obtain rfl : ib = true := by rw [HIB.out, hfq]; simpa using hql
                    obtain rfl : tb = true := by
                      rw [HTB.out]
                      unfold thr
                      refine List.any_eq_true.2 ⟨q.2, hql, ?_⟩
                      rw [← hxi, awk_at HP6.out.px.ok hx]; exact hxa
                    clear hO hx hxi hxa hql hfq
                    go_wp2_with fail
                    refine (tput_nil 1 1 1 w7).mono ?_
                    rintro e w8 ⟨rfl, rfl⟩
                    go_wp2_with fail
                    refine (walks10_nil (Wk := []) rfl (RS.nil 2 prenc w8)).mono ?_
                    rintro e w9 ⟨rfl, hb9⟩
                    have HP9 := Lib.hid (HP7.out.on hb9)
                    clear hb9
                    rw [decide_eq_true rfl]
                    go_wp2_with fail
                    refine (works10 w9).mono ?_
                    rintro e w10 ⟨rfl, hb10⟩
                    have HP10 := Lib.hid (HP9.out.on hb10)
                    clear hb10
                    go_wp2
                    go_ret
                    exact ⟨rfl, HP10.out.px.bel⟩
    · have hb : ¬ (60 : Int) < (m : Int) := by omega
      have hb2 : (20 : Int) < (ms : Int) := by omega
      go_enter Tryz.func5, Tryz.ntmps5
      go_wp2
      go_ret
      exact ⟨rfl, Below.refl _ _⟩
  · have hb : (60 : Int) < (m : Int) := by omega
    go_enter Tryz.func5, Tryz.ntmps5
    go_wp2
    go_ret
    exact ⟨rfl, Below.refl _ _⟩
end Go.Proofs.YtgfjmafdfbghnaaGreat

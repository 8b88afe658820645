/- The document's offers by a list: Issue. -/
import Derived.Test.YtnckjacbkhoppaaOm1
namespace Go.Proofs.Ytnckjacbkhoppaa
open Go.RowKit Go.Maps
attribute [local go_sem] ext_cell ext_frozen extC_cell extC_frozen Mix.calmUpon Mix.mUpon
theorem run_app_noneO {P : Program} (w : World) (base : Nat) (t ty e : TypeId) (i : TypeInfo) (size : Nat) (ht : P.underlying t = some (.slice e)) (hi : P.info? e = some i)
    (v : Value) (n : Nat) (xs : List Value) (hown : w.ownsRow base e size v n xs) (c : Nat) :
    (Builtin.append_ #[t, t] ty #[v, .slice none 0 c]).run P w = .ok v w := by
  rcases hown.2 with ⟨rfl, rfl⟩ | ⟨g, cap, cur, rfl, _, _, hnc, _⟩
  · simp [Builtin.append_, run_underlying ht, sizeOf, typeInfo, hi, Builtin.lenOf, Builtin.firstCells]
  · simp [Builtin.append_, run_underlying ht, sizeOf, typeInfo, hi, Builtin.lenOf, Builtin.firstCells, hnc, storeCells]
theorem rs_flatO {w : World} {l : List Ofr} {b off n cap : Nat} (h : RS 5 ofenc w (.slice (some ⟨b, off, none⟩) n cap) l) : ∀ j u, (l.flatMap ofenc)[j]? = some u → w.cell? ((⟨b, off, none⟩ : Addr).add j) = some u := fun j u hu => by
  obtain ⟨a, n', cap', hv, hn, -, -, hat⟩ := h.at_
  cases hv
  have hj := (List.getElem?_eq_some_iff.1 hu).1
  rw [flat_len (enc := ofenc) ofenc_len] at hj
  have hi : j / 5 < l.length := by omega
  have hf := flat_at (enc := ofenc) (k := 5) (fun _ => rfl) l (j / 5) hi (j % 5) (by omega)
  rw [show j / 5 * 5 + j % 5 = j by omega] at hf
  obtain ⟨b', off', e, -, hc⟩ := hat (j / 5) l[j / 5] (List.getElem?_eq_getElem hi)
  cases e
  have := hc (j % 5) u (hf.symm.trans hu)
  rw [Addr.add_lit]
  rw [show off + j / 5 * 5 + j % 5 = off + j by omega] at this
  exact this
theorem of_one {l : List Ofr} (h : ∀ x ∈ l, x.vv.oneCell' = true) : ∀ u ∈ l.flatMap ofenc, u.oneCell' = true := fun u hu => by
  obtain ⟨x, hx, hu⟩ := List.mem_flatMap.1 hu
  simp only [ofenc, List.mem_cons, List.not_mem_nil, or_false] at hu
  rcases hu with rfl | rfl | rfl | rfl | rfl <;> first | rfl | exact h x hx
theorem ofapps {w : World} {base : Nat} {v xv : Value} {l lx : List Ofr} (h : OwnL 61 5 ofenc w base v l) (hx : RS 5 ofenc w xv lx) (h1 : ∀ x ∈ lx, x.vv.oneCell' = true) (hl : l.length + lx.length < 1000000) (hb : base ≤ w.heap.size) (ty : TypeId) :
    ∃ v' w', (Builtin.append_ #[54, 54] ty #[v, xv]).run Try.prog w = .ok v' w' ∧ OwnL 61 5 ofenc w' base v' (l ++ lx) ∧ w.grownBy w' v.ownBlock ∧ (v'.ownBlock = v.ownBlock ∨ v'.ownBlock = some w.heap.size) := by
  obtain ⟨i0, hi, hz0, hz1, hz2⟩ := info_parts infoOf
  have hR := hx
  obtain ⟨a, cap, rfl, hc, hm, hcell⟩ := hx
  cases a with
  | none =>
    have h0 : lx = [] := by
      cases lx with
      | nil => rfl
      | cons y t => obtain ⟨b, off, e, _⟩ := hcell (by simp); cases e
    subst h0
    exact ⟨v, w, run_app_noneO (P := Try.prog) w base _ ty 61 i0 5 Try.underlying54 hi v _ _ h cap, by rw [List.append_nil]; exact h, ⟨rfl, rfl, rfl, Nat.le_refl _, fun _ _ _ => rfl⟩, .inl rfl⟩
  | some a =>
    obtain ⟨v', w', r1, r2, r3, r4⟩ := run_app (P := Try.prog) w base 54 ty 61 i0 _ 5 56 Try.underlying54 hi hz0 hz1 hz2 rfl (by decide) v l.length (l.flatMap ofenc) h a lx.length cap (lx.flatMap ofenc) (flat_len (enc := ofenc) ofenc_len lx) (fun j u hu => by
      have hne : lx ≠ [] := by rintro rfl; simp at hu
      obtain ⟨b, off, e, -, -⟩ := hcell hne
      cases e
      exact rs_flatO hR j u hu) (of_one h1) (by unfold maxLen; omega) (by omega) hb
    refine ⟨v', w', r1, ?_, r3, r4⟩
    unfold OwnL
    rw [List.length_append, List.flatMap_append]
    exact r2
/-- What the document's Issue answers. -/
def RetM (w : World) (g l' : Int) (v : Value) (S' : List Ofr) (nn er : Int) (e : Ending) (w' : World) : Prop :=
  ∃ v', e = .returned (.tuple #[mval g l' v', .int .i64 nn, .int .i64 er]) ∧ RS 5 ofenc w' v' S' ∧ (∀ b, v'.ownBlock = some b → v.ownBlock = some b ∨ (w.heap.size ≤ b ∧ b < w'.heap.size)) ∧ Below w.heap.size w w'
section
variable {w : World} {v : Value} {S : List Ofr} {g l : Int}
set_option maxRecDepth 100000 in
set_option maxHeartbeats 4000000 in
theorem missue_arg (h : RS 5 ofenc w v S) (i f ag u : Int) {pv : Value} {ps : List Pt} (hx : Vc w pv ps) (hxl : ps.length < 1000000) (hno : ¬ PfOk (i, f, ag, ps, u)) : Calls Try.prog 37 #[mval g l v, .int .i64 f, .int .i64 ag, pv, .int .i64 u] w (RetM w g l v S 0 41) := by
  have HNO := Lib.hid hno
  clear hno
  obtain ⟨a, n, cp, rfl, hn, hc, hm, hat⟩ := h.at_
  obtain ⟨va, vc, hvq, -, -⟩ := hx.form
  subst hvq
  have hlm : n ≤ 9223372036854775807 := by unfold maxLen at hm; omega
  have HN := Lib.hid hn
  have HRS := Lib.hid h
  have HX := Lib.hid hx
  have HXL := Lib.hid hxl
  generalize hpn : ps.length = pn at *
  have HPN := Lib.hid hpn
  have e1 : (w.alloc (.cells #[.int .i64 g, .int .i64 l, .slice a n cp] 56)).heap.size = w.heap.size + 1 := by simp
  have hb1 := ba (Below.refl w.heap.size w) (.cells #[.int .i64 g, .int .i64 l, .slice a n cp] 56)
  have hb2 := ba hb1 (.cells #[.int .i64 0, .int .i64 0, .slice none 0 0] 56)
  have hm1 := (MB.made w g l (.slice a n cp)).below (ba (Below.refl _ _) (.cells #[.int .i64 0, .int .i64 0, .slice none 0 0] 56))
  have hm2 := MB.made (w.alloc (.cells #[.int .i64 g, .int .i64 l, .slice a n cp] 56)) 0 0 (.slice none 0 0)
  rw [e1] at hm2
  have HM1 := Lib.hid hm1; have HM2 := Lib.hid hm2; have HB2 := Lib.hid hb2
  clear hat h hn hx hxl e1 hb1 hb2 hm1 hm2 hm hpn hc
  go_enter Try.func37, Try.ntmps37
  by_cases q0 : f < 1
  · have hq0 : decide (f < 1) = true := decide_eq_true q0
    go_wp2
    have hmx := MB.made (w.alloc (.cells #[.int .i64 g, .int .i64 l, .slice a n cp] 56)) g l (.slice a n cp)
    rw [show (w.alloc (.cells #[.int .i64 g, .int .i64 l, .slice a n cp] 56)).heap.size = w.heap.size + 1 by simp] at hmx
    refine bodyPost_ret (res_mtt Try.results37 rfl hmx) rfl ?_
    have hbl : Below w.heap.size w ((w.alloc (.cells #[.int .i64 g, .int .i64 l, .slice a n cp] 56)).alloc (.cells #[.int .i64 g, .int .i64 l, .slice a n cp] 56)) := ba (ba (Below.refl _ _) _) _
    exact ⟨_, rfl, HRS.out.below hbl, fun k hk => .inl hk, hbl⟩
  have hq0 : decide (f < 1) = false := decide_eq_false q0
  by_cases q1 : ag < 1
  · have hq1 : decide (ag < 1) = true := decide_eq_true q1
    go_wp2
    have hmx := MB.made (w.alloc (.cells #[.int .i64 g, .int .i64 l, .slice a n cp] 56)) g l (.slice a n cp)
    rw [show (w.alloc (.cells #[.int .i64 g, .int .i64 l, .slice a n cp] 56)).heap.size = w.heap.size + 1 by simp] at hmx
    refine bodyPost_ret (res_mtt Try.results37 rfl hmx) rfl ?_
    have hbl : Below w.heap.size w ((w.alloc (.cells #[.int .i64 g, .int .i64 l, .slice a n cp] 56)).alloc (.cells #[.int .i64 g, .int .i64 l, .slice a n cp] 56)) := ba (ba (Below.refl _ _) _) _
    exact ⟨_, rfl, HRS.out.below hbl, fun k hk => .inl hk, hbl⟩
  have hq1 : decide (ag < 1) = false := decide_eq_false q1
  by_cases q2 : u < 0
  · have hq2 : decide (u < 0) = true := decide_eq_true q2
    go_wp2
    have hmx := MB.made (w.alloc (.cells #[.int .i64 g, .int .i64 l, .slice a n cp] 56)) g l (.slice a n cp)
    rw [show (w.alloc (.cells #[.int .i64 g, .int .i64 l, .slice a n cp] 56)).heap.size = w.heap.size + 1 by simp] at hmx
    refine bodyPost_ret (res_mtt Try.results37 rfl hmx) rfl ?_
    have hbl : Below w.heap.size w ((w.alloc (.cells #[.int .i64 g, .int .i64 l, .slice a n cp] 56)).alloc (.cells #[.int .i64 g, .int .i64 l, .slice a n cp] 56)) := ba (ba (Below.refl _ _) _) _
    exact ⟨_, rfl, HRS.out.below hbl, fun k hk => .inl hk, hbl⟩
  have hq2 : decide (u < 0) = false := decide_eq_false q2
  by_cases q3 : pn = 0
  · have q3b : ((pn : Int) == 0) = true := by simp [q3]
    clear q3
    go_wp2
    have hmx := MB.made (w.alloc (.cells #[.int .i64 g, .int .i64 l, .slice a n cp] 56)) g l (.slice a n cp)
    rw [show (w.alloc (.cells #[.int .i64 g, .int .i64 l, .slice a n cp] 56)).heap.size = w.heap.size + 1 by simp] at hmx
    refine bodyPost_ret (res_mtt Try.results37 rfl hmx) rfl ?_
    have hbl : Below w.heap.size w ((w.alloc (.cells #[.int .i64 g, .int .i64 l, .slice a n cp] 56)).alloc (.cells #[.int .i64 g, .int .i64 l, .slice a n cp] 56)) := ba (ba (Below.refl _ _) _) _
    exact ⟨_, rfl, HRS.out.below hbl, fun k hk => .inl hk, hbl⟩
  have q3b : ((pn : Int) == 0) = false := by simp [q3]
  have hvr : ¬ VR ps := fun hv => HNO.out ⟨by show 1 ≤ f; omega, by show 1 ≤ ag; omega, fun e => q3 (by rw [← HPN.out]; exact congrArg List.length e), hv, by show 0 ≤ u; omega⟩
  have hR := fun w1 hV => rright_v (.slice va pn vc) ps (by have := HXL.out; have := HPN.out; omega) w1 hV
  rw [decide_eq_false hvr] at hR
  have HR := Lib.hid hR
  clear hvr hR
  go_wp2_with fail
  generalize (w.alloc (.cells #[.int .i64 g, .int .i64 l, .slice a n cp] 56)).alloc (.cells #[.int .i64 0, .int .i64 0, .slice none 0 0] 56) = w0 at *
  obtain ⟨b, hbq⟩ : ∃ b, b = w.heap.size := ⟨_, rfl⟩
  rw [← hbq] at HM1 HM2 HB2 ⊢
  obtain ⟨b1, hb1q⟩ : ∃ b1, b1 = b + 1 := ⟨_, rfl⟩
  rw [← hb1q] at HM2 ⊢
  have HBQ := Lib.hid hbq
  have HDS := Lib.hid (show b < b1 by omega)
  clear hbq hb1q
  refine (HR.out w0 (HX.out.on (by rw [← HBQ.out]; exact HB2.out))).mono ?_
  rintro e w1 ⟨rfl, hb4⟩
  have HBW := Lib.hid hb4
  clear hb4 hq0 hq1 hq2 q3b
  obtain ⟨z0, z1, z2⟩ := (HM1.out.below HBW.out).cells
  have q0 := (HM1.out.below HBW.out).lt
  obtain ⟨s0, s1, s2⟩ := (HM2.out.below HBW.out).cells
  have s3 := (HM2.out.below HBW.out).fz 0; have s4 := (HM2.out.below HBW.out).fz 1; have s5 := (HM2.out.below HBW.out).fz 2
  have q2 := (HM2.out.below HBW.out).lt
  have HR2 := Lib.hid ((HM2.out.below HBW.out).set3 g l (.slice a n cp))
  have HCH := Lib.hid (mb_chg w1 b1 (.int .i64 g) (.int .i64 l) (.slice a n cp))
  go_wp2
  refine bodyPost_ret (res_mtt Try.results37 rfl HR2.out) rfl ?_
  have hds := HDS.out; have hbq := HBQ.out; have hs0 := HM2.out.lt; have hs1 := HBW.out.size
  have hbl : Below b w _ := HB2.out.trans ((HBW.out.mono (by omega)).trans (HCH.out.below (B := b) (by omega) fun k e => by have e : k = b1 := e; omega))
  exact ⟨_, rfl, HRS.out.below (by rw [← hbq]; exact hbl), fun k hk => .inl hk, by rw [← hbq]; exact hbl⟩
set_option maxRecDepth 100000 in
set_option maxHeartbeats 4000000 in
theorem missue_full (h : RS 5 ofenc w v S) (i f ag u : Int) {pv : Value} {ps : List Pt} (hx : Vc w pv ps) (hxl : ps.length < 1000000) (hok : PfOk (i, f, ag, ps, u)) (hful : g ≤ l) : Calls Try.prog 37 #[mval g l v, .int .i64 f, .int .i64 ag, pv, .int .i64 u] w (RetM w g l v S 0 34) := by
  have HOK := Lib.hid hok
  clear hok
  obtain ⟨a, n, cp, rfl, hn, hc, hm, hat⟩ := h.at_
  obtain ⟨va, vc, hvq, -, -⟩ := hx.form
  subst hvq
  have hlm : n ≤ 9223372036854775807 := by unfold maxLen at hm; omega
  have HN := Lib.hid hn
  have HRS := Lib.hid h
  have HX := Lib.hid hx
  have HXL := Lib.hid hxl
  generalize hpn : ps.length = pn at *
  have HPN := Lib.hid hpn
  have e1 : (w.alloc (.cells #[.int .i64 g, .int .i64 l, .slice a n cp] 56)).heap.size = w.heap.size + 1 := by simp
  have hb1 := ba (Below.refl w.heap.size w) (.cells #[.int .i64 g, .int .i64 l, .slice a n cp] 56)
  have hb2 := ba hb1 (.cells #[.int .i64 0, .int .i64 0, .slice none 0 0] 56)
  have hm1 := (MB.made w g l (.slice a n cp)).below (ba (Below.refl _ _) (.cells #[.int .i64 0, .int .i64 0, .slice none 0 0] 56))
  have hm2 := MB.made (w.alloc (.cells #[.int .i64 g, .int .i64 l, .slice a n cp] 56)) 0 0 (.slice none 0 0)
  rw [e1] at hm2
  have HM1 := Lib.hid hm1; have HM2 := Lib.hid hm2; have HB2 := Lib.hid hb2
  clear hat h hn hx hxl e1 hb1 hb2 hm1 hm2 hm hpn hc
  go_enter Try.func37, Try.ntmps37
  have hok := HOK.out
  unfold PfOk at hok
  simp only at hok
  have hq0 : decide (f < 1) = false := decide_eq_false (by omega)
  have hq1 : decide (ag < 1) = false := decide_eq_false (by omega)
  have hq2 : decide (u < 0) = false := decide_eq_false (by omega)
  have q3b : ((pn : Int) == 0) = false := by
    have : pn ≠ 0 := fun e => hok.2.2.1 (List.eq_nil_of_length_eq_zero (by rw [HPN.out]; exact e))
    simp [this]
  have hR := fun w1 hV => rright_v (.slice va pn vc) ps (by have := HXL.out; have := HPN.out; omega) w1 hV
  rw [decide_eq_true hok.2.2.2.1] at hR
  have HR := Lib.hid hR
  clear hR hok
  go_wp2_with fail
  generalize (w.alloc (.cells #[.int .i64 g, .int .i64 l, .slice a n cp] 56)).alloc (.cells #[.int .i64 0, .int .i64 0, .slice none 0 0] 56) = w0 at *
  obtain ⟨b, hbq⟩ : ∃ b, b = w.heap.size := ⟨_, rfl⟩
  rw [← hbq] at HM1 HM2 HB2 ⊢
  obtain ⟨b1, hb1q⟩ : ∃ b1, b1 = b + 1 := ⟨_, rfl⟩
  rw [← hb1q] at HM2 ⊢
  have HBQ := Lib.hid hbq
  have HDS := Lib.hid (show b < b1 by omega)
  clear hbq hb1q
  refine (HR.out w0 (HX.out.on (by rw [← HBQ.out]; exact HB2.out))).mono ?_
  rintro e w1 ⟨rfl, hb4⟩
  have HBW := Lib.hid hb4
  clear hb4 hq0 hq1 hq2 q3b
  obtain ⟨z0, z1, z2⟩ := (HM1.out.below HBW.out).cells
  have q0 := (HM1.out.below HBW.out).lt
  obtain ⟨s0, s1, s2⟩ := (HM2.out.below HBW.out).cells
  have s3 := (HM2.out.below HBW.out).fz 0; have s4 := (HM2.out.below HBW.out).fz 1; have s5 := (HM2.out.below HBW.out).fz 2
  have q2 := (HM2.out.below HBW.out).lt
  have HR2 := Lib.hid ((HM2.out.below HBW.out).set3 g l (.slice a n cp))
  have HCH := Lib.hid (mb_chg w1 b1 (.int .i64 g) (.int .i64 l) (.slice a n cp))
  have hge : decide (g ≤ l) = true := decide_eq_true hful
  go_wp2
  refine bodyPost_ret (res_mtt Try.results37 rfl HR2.out) rfl ?_
  have hds := HDS.out; have hbq := HBQ.out; have hs0 := HM2.out.lt; have hs1 := HBW.out.size
  have hbl : Below b w _ := HB2.out.trans ((HBW.out.mono (by omega)).trans (HCH.out.below (B := b) (by omega) fun k e => by have e : k = b1 := e; omega))
  exact ⟨_, rfl, HRS.out.below (by rw [← hbq]; exact hbl), fun k hk => .inl hk, by rw [← hbq]; exact hbl⟩
set_option maxRecDepth 100000 in
set_option maxHeartbeats 4000000 in
theorem missue_ok (h : RS 5 ofenc w v S) (hvv : ∀ x ∈ S, Vc w x.vv x.ps) (hln : S.length < 900000) (i f ag u : Int) {pv : Value} {ps : List Pt} (hx : Vc w pv ps) (hxl : ps.length < 1000000) (hok : PfOk (i, f, ag, ps, u)) (hlt : l < g) (hl0 : 0 ≤ l) (hl9 : l < 9007199254740992) : Calls Try.prog 37 #[mval g l v, .int .i64 f, .int .i64 ag, pv, .int .i64 u] w (RetM w g (l + 1) v (S ++ [⟨l + 1, f, ag, pv, ps, u⟩]) (l + 1) 0) := by
  have HOK := Lib.hid hok
  have HVV := Lib.hid hvv; have HLN := Lib.hid hln
  clear hok hvv hln
  obtain ⟨a, n, cp, rfl, hn, hc, hm, hat⟩ := h.at_
  obtain ⟨va, vc, hvq, -, -⟩ := hx.form
  subst hvq
  have hlm : n ≤ 9223372036854775807 := by unfold maxLen at hm; omega
  have HN := Lib.hid hn
  have HRS := Lib.hid h
  have HX := Lib.hid hx
  have HXL := Lib.hid hxl
  generalize hpn : ps.length = pn at *
  have HPN := Lib.hid hpn
  have e1 : (w.alloc (.cells #[.int .i64 g, .int .i64 l, .slice a n cp] 56)).heap.size = w.heap.size + 1 := by simp
  have hb1 := ba (Below.refl w.heap.size w) (.cells #[.int .i64 g, .int .i64 l, .slice a n cp] 56)
  have hb2 := ba hb1 (.cells #[.int .i64 0, .int .i64 0, .slice none 0 0] 56)
  have hm1 := (MB.made w g l (.slice a n cp)).below (ba (Below.refl _ _) (.cells #[.int .i64 0, .int .i64 0, .slice none 0 0] 56))
  have hm2 := MB.made (w.alloc (.cells #[.int .i64 g, .int .i64 l, .slice a n cp] 56)) 0 0 (.slice none 0 0)
  rw [e1] at hm2
  have HM1 := Lib.hid hm1; have HM2 := Lib.hid hm2; have HB2 := Lib.hid hb2
  clear hat h hn hx hxl e1 hb1 hb2 hm1 hm2 hm hpn hc
  go_enter Try.func37, Try.ntmps37
  have hok := HOK.out
  unfold PfOk at hok
  simp only at hok
  have hq0 : decide (f < 1) = false := decide_eq_false (by omega)
  have hq1 : decide (ag < 1) = false := decide_eq_false (by omega)
  have hq2 : decide (u < 0) = false := decide_eq_false (by omega)
  have q3b : ((pn : Int) == 0) = false := by
    have : pn ≠ 0 := fun e => hok.2.2.1 (List.eq_nil_of_length_eq_zero (by rw [HPN.out]; exact e))
    simp [this]
  have hR := fun w1 hV => rright_v (.slice va pn vc) ps (by have := HXL.out; have := HPN.out; omega) w1 hV
  rw [decide_eq_true hok.2.2.2.1] at hR
  have HR := Lib.hid hR
  clear hR hok
  go_wp2_with fail
  generalize (w.alloc (.cells #[.int .i64 g, .int .i64 l, .slice a n cp] 56)).alloc (.cells #[.int .i64 0, .int .i64 0, .slice none 0 0] 56) = w0 at *
  obtain ⟨b, hbq⟩ : ∃ b, b = w.heap.size := ⟨_, rfl⟩
  rw [← hbq] at HM1 HM2 HB2 ⊢
  obtain ⟨b1, hb1q⟩ : ∃ b1, b1 = b + 1 := ⟨_, rfl⟩
  rw [← hb1q] at HM2 ⊢
  have HBQ := Lib.hid hbq
  have HDS := Lib.hid (show b < b1 by omega)
  clear hbq hb1q
  refine (HR.out w0 (HX.out.on (by rw [← HBQ.out]; exact HB2.out))).mono ?_
  rintro e w1 ⟨rfl, hb4⟩
  have HBW := Lib.hid hb4
  clear hb4 hq0 hq1 hq2 q3b
  obtain ⟨z0, z1, z2⟩ := (HM1.out.below HBW.out).cells
  have q0 := (HM1.out.below HBW.out).lt
  obtain ⟨s0, s1, s2⟩ := (HM2.out.below HBW.out).cells
  have s3 := (HM2.out.below HBW.out).fz 0; have s4 := (HM2.out.below HBW.out).fz 1; have s5 := (HM2.out.below HBW.out).fz 2
  have q2 := (HM2.out.below HBW.out).lt
  have HR2 := Lib.hid ((HM2.out.below HBW.out).set3 g l (.slice a n cp))
  have HCH := Lib.hid (mb_chg w1 b1 (.int .i64 g) (.int .i64 l) (.slice a n cp))
  have hge : decide (g ≤ l) = false := decide_eq_false (by omega)
  have hwr : IntKind.i64.wrap (l + 1) = l + 1 := IntWalk.i64_in _ (by omega)
  clear s0 s1 s2 s3 s4 s5 q2 HR2 HCH
  have HB12 := Lib.hid (ba (Below.refl w1.heap.size w1) (.cells #[.int .i64 g, .int .i64 (l + 1), .slice none 0 0] 56))
  have HMA := Lib.hid (MB.made w1 g (l + 1) (.slice none 0 0))
  obtain ⟨wA, hwA⟩ : ∃ u, w1.alloc (.cells #[.int .i64 g, .int .i64 (l + 1), .slice none 0 0] 56) = u := ⟨_, rfl⟩
  have HWA := Lib.hid hwA
  rw [hwA] at HB12 HMA
  obtain ⟨b2, hb2q⟩ : ∃ u, w1.heap.size = u := ⟨_, rfl⟩
  rw [hb2q] at HB12 HMA
  have HDS2 := Lib.hid (show b1 < b2 from by have := HM2.out.lt; have := HBW.out.size; omega)
  have HRS2 := Lib.hid (HRS.out.below (by rw [← HBQ.out]; exact HB2.out.trans ((HBW.out.trans (HB12.out.mono (by have := HBW.out.size; omega))).mono (by have := HM2.out.lt; have := HDS.out; omega))))
  obtain ⟨v1, w3, hr1, ho1, hg1, -⟩ := ofapps (w := wA) (base := b2 + 1) (OwnL.nil _ 5 ofenc _ _) HRS2.out (fun x hx => by
    obtain ⟨xa, xc, hxv, -, -⟩ := (HVV.out x hx).form
    rw [hxv]; rfl) (by have := HLN.out; simp; omega) HMA.out.lt 54
  rw [List.nil_append] at ho1
  have hc1 : Chg (fun _ => False) wA w3 := .of_grown hg1 fun k e => by cases e
  obtain ⟨a1, m1, c1, rfl⟩ : ∃ a1 m1 c1, v1 = .slice a1 m1 c1 := by
    rcases ho1.2 with ⟨hv, _⟩ | ⟨_, _, _, hv, _⟩
    · exact ⟨_, _, _, hv⟩
    · exact ⟨_, _, _, hv⟩
  have HR1 := Lib.hid hr1
  have hM3 := HMA.out.chg hc1 id
  have HM3 := Lib.hid hM3
  have HM4 := Lib.hid (hM3.set1 (.slice a1 m1 c1))
  have hst4 : Chg (fun k => k = b2) w3 (w3.setCell ⟨b2, 2, none⟩ (.slice a1 m1 c1)) := (Chg.refl (fun k => k = b2) w3).setCell (p := ⟨b2, 2, none⟩) (.inl rfl) _
  have ho4 := ho1.chg hst4 (fun k hk e => by have := (ho1.lt k hk).1; have e : k = b2 := e; omega)
  have HC4 := Lib.hid ((hc1.mono (G := fun k => k = b2) fun k e => e.elim).same hst4)
  obtain ⟨w4, hw4⟩ : ∃ u, w3.setCell ⟨b2, 2, none⟩ (.slice a1 m1 c1) = u := ⟨_, rfl⟩
  rw [hw4] at HM4 ho4 HC4
  have HW4 := Lib.hid hw4
  have hb45 := ba (Below.refl w4.heap.size w4) (.cells #[.int .i64 (l + 1), .int .i64 f, .int .i64 ag, .slice va pn vc, .int .i64 u] 61)
  have hk5 := OfB.made w4 (l + 1) f ag (.slice va pn vc) u
  obtain ⟨v2, w6, hr2, ho6, hg6, -⟩ := own_appO (ho4.below hb45) ⟨l + 1, f, ag, .slice va pn vc, ps, u⟩ hk5 rfl (by have := HLN.out; omega) (by have := HM4.out.lt; have := hb45.size; omega)
  have hc6 : Chg (fun k => Value.ownBlock (.slice a1 m1 c1) = some k) _ w6 := .of_grown hg6 fun k e => e
  obtain ⟨a2, m2, c2, rfl⟩ : ∃ a1 m1 c1, v2 = .slice a1 m1 c1 := by
    rcases ho6.2 with ⟨hv, _⟩ | ⟨_, _, _, hv, _⟩
    · exact ⟨_, _, _, hv⟩
    · exact ⟨_, _, _, hv⟩
  have HR2 := Lib.hid hr2
  have hn6 : ¬ Value.ownBlock (.slice a1 m1 c1) = some b2 := fun e => by have := (ho4.lt _ e).1; omega
  have HM6 := Lib.hid ((HM4.out.below hb45).chg hc6 hn6)
  have HM7 := Lib.hid (HM6.out.set1 (.slice a2 m2 c2))
  have hst7 : Chg (fun k => k = b2) w6 (w6.setCell ⟨b2, 2, none⟩ (.slice a2 m2 c2)) := (Chg.refl (fun k => k = b2) w6).setCell (p := ⟨b2, 2, none⟩) (.inl rfl) _
  have HO7 := Lib.hid (ho6.chg hst7 (fun k hk e => by have := (ho6.lt k hk).1; have e : k = b2 := e; omega))
  have HC7 := Lib.hid (show Below b2 w1 _ from (HB12.out.trans ((HC4.out.below (B := b2) (Nat.le_of_lt HMA.out.lt) fun k e => by have e : k = b2 := e; omega).trans ((hb45.mono (by have := HM4.out.lt; omega)).trans ((hc6.below (by have := HM4.out.lt; have := hb45.size; omega) fun k e => by have := (ho4.lt k e).1; omega).trans (hst7.below (by have := HM6.out.lt; omega) fun k e => by have e : k = b2 := e; omega))))))
  have HB7 := Lib.hid (HBW.out.trans (HC7.out.mono (by have := HBW.out.size; omega)))
  have hMb := HM1.out.below (HBW.out.trans (HB12.out.mono (by have := HBW.out.size; omega)))
  obtain ⟨z0, z1, z2⟩ := hMb.cells
  have z3 := hMb.lt
  obtain ⟨y0, y1, y2⟩ := HMA.out.cells
  have y3 := HMA.out.lt; have y4 := HMA.out.fz 0; have y5 := HMA.out.fz 1; have y6 := HMA.out.fz 2
  obtain ⟨x0, x1, x2⟩ := HM3.out.cells
  have x3 := HM3.out.lt; have x4 := HM3.out.fz 2
  obtain ⟨t0, t1, t2⟩ := HM4.out.cells
  have t3 := HM4.out.lt
  obtain ⟨r0, r1, r2⟩ := HM6.out.cells
  have r3 := HM6.out.lt; have r4 := HM6.out.fz 2
  clear hr1 hr2 ho1 hg1 hc1 hM3 hst4 ho4 hb45 hk5 ho6 hg6 hc6 hst7 hMb
  have hwA := HWA.out; have hw4 := HW4.out
  subst hwA
  subst hb2q
  go_wp2_with (at_builtin; first | refine wpList_app_run rfl _ _ _ rfl rfl rfl HR1.out ?_ | refine wpList_app_run rfl _ _ _ rfl rfl rfl HR2.out ?_)
  clear z0 z1 z2 z3 y0 y1 y2 y3 y4 y5 y6 x0 x1 x2 x3 x4 t0 t1 t2 t3 r0 r1 r2 r3 r4 hw4
  generalize w6.setCell ⟨w1.heap.size, 2, none⟩ (.slice a2 m2 c2) = w7 at *
  obtain ⟨b2, hb2q⟩ : ∃ u, w1.heap.size = u := ⟨_, rfl⟩
  rw [hb2q] at HM7 HDS2 HC7 HO7 ⊢
  clear hb2q
  have hRM := HM2.out.below HB7.out
  obtain ⟨s0, s1, s2⟩ := hRM.cells
  have s3 := hRM.fz 0; have s4 := hRM.fz 1; have s5 := hRM.fz 2
  have q2 := hRM.lt
  obtain ⟨t0, t1, t2⟩ := HM7.out.cells
  have t3 := HM7.out.lt
  have HR3 := Lib.hid (hRM.set3 g (l + 1) (.slice a2 m2 c2))
  have HCH := Lib.hid (mb_chg w7 b1 (.int .i64 g) (.int .i64 (l + 1)) (.slice a2 m2 c2))
  have n1 : ¬ b2 = b1 := by have := HDS2.out; omega
  have n2 : ¬ b1 = b2 := by have := HDS2.out; omega
  clear hRM
  go_region
  have HBF := Lib.hid (show Below b w7 _ from (HCH.out.below (B := b) (by have := HB7.out.size; have := HM2.out.lt; have := HDS.out; omega) fun k e => by have e : k = b1 := e; have := HDS.out; omega).drew)
  generalize (((w7.setCell ⟨b1, 0, none⟩ (.int .i64 g)).setCell ⟨b1, 1, none⟩ (.int .i64 (l + 1))).setCell ⟨b1, 2, none⟩ (.slice a2 m2 c2)) = w8 at *
  have HR4 := Lib.hid (show MB w8.drew b1 g (l + 1) (.slice a2 m2 c2) from HR3.out)
  have HO9 := Lib.hid ((HO7.out.chg HCH.out (fun k hk e => by have := (HO7.out.lt k hk).1; have := HDS2.out; have e : k = b1 := e; omega)).below (Below.refl _ _).drew)
  generalize w8.drew = w9 at *
  go_wp2
  refine bodyPost_ret (res_mtt Try.results37 rfl HR4.out) rfl ?_
  have hds := HDS.out; have hbq := HBQ.out; have hs0 := HM2.out.lt; have hs7 := HB7.out.size; have hd2 := HDS2.out
  have hbl : Below b w w9 := HB2.out.trans ((HB7.out.mono (by omega)).trans HBF.out)
  exact ⟨_, rfl, HO9.out.rs ofenc_len, fun k hk => .inr ⟨by have := (HO9.out.lt k hk).1; omega, (HO9.out.lt k hk).2⟩, by rw [← hbq]; exact hbl⟩
end
end Go.Proofs.Ytnckjacbkhoppaa

/- life: fits, count. -/
import Derived.Test.YtennhfkhdfalfaaLf1
namespace Go.Proofs.Ytennhfkhdfalfaa
open Go.RowKit Go.Maps
attribute [local go_sem] ext_cell ext_frozen extC_cell extC_frozen Mix.calmUpon Mix.mUpon
theorem quiet_ext {P : Program} {f : Nat} {args : Array Value} {v : Value} {W : World} (x : Ext W) (h : Calls P f args (ext W x) fun e w' => e = .returned v ∧ Below (ext W x).heap.size (ext W x) w') : Calls P f args (ext W x) fun e w'' => e = .returned v ∧ ∃ y, w'' = ext W y :=
  h.mono fun _ _ ⟨h1, h2⟩ => ⟨h1, ext_of (bt (ext_below _ x) h2)⟩
theorem eqC3 (k r a k' r' a' : Int) (w : World) : (Op.equalIn 10000 205 (.agg #[.int .i64 k, .int .i64 r, .int .i64 a]) (.agg #[.int .i64 k', .int .i64 r', .int .i64 a'])).run Try.prog w = .ok (k == k' && (r == r' && a == a')) w := by
  have u3 := Try.underlying2
  have a3' := Try.isAgg2
  have z3 := Try.sizeOf2
  rw [show (10000 : Nat) = 9999 + 1 from rfl, Op.equalIn]
  simp only [Sem.run_bind, run_underlying Try.underlying205, Result.andThen_ok]
  go_simp
  by_cases e1 : k = k' <;> by_cases e2 : r = r' <;> by_cases e3 : a = a' <;> simp [e1, e2, e3]
/-- Block b holds a thing. -/
def TB (w : World) (b : Nat) (x : Th) : Prop := w.heap[b]? = some (.cells #[.int .i64 x.f, .int .i64 x.i, .int .i64 x.a, x.v] 208 (0, 0))
section
variable {w w' : World} {b : Nat} {x : Th}
theorem TB.made (w : World) (x : Th) : TB (w.alloc (.cells #[.int .i64 x.f, .int .i64 x.i, .int .i64 x.a, x.v] 208)) w.heap.size x := heap_alloc_new w _
theorem TB.lt (h : TB w b x) : b < w.heap.size := (Array.getElem?_eq_some_iff.1 h).1
theorem TB.set4 (h : TB w b x) (y : Th) : TB ((((w.setCell ⟨b, 0, none⟩ (.int .i64 y.f)).setCell ⟨b, 1, none⟩ (.int .i64 y.i)).setCell ⟨b, 2, none⟩ (.int .i64 y.a)).setCell ⟨b, 3, none⟩ y.v) b y := heap_setCell_at _ (heap_setCell_at _ (heap_setCell_at _ (heap_setCell_at _ h)))
theorem TB.fz (h : TB w b x) (o : Nat) : w.frozen? ⟨b, o, none⟩ = false := by unfold TB at h; simp [World.frozen?, h]
theorem TB.below (h : TB w b x) (hb : Below w.heap.size w w') : TB w' b x := (hb.block b h.lt).trans h
theorem TB.cells (h : TB w b x) : w.cell? ⟨b, 0, none⟩ = some (.int .i64 x.f) ∧ w.cell? ⟨b, 1, none⟩ = some (.int .i64 x.i) ∧ w.cell? ⟨b, 2, none⟩ = some (.int .i64 x.a) ∧ w.cell? ⟨b, 3, none⟩ = some x.v := by
  unfold TB at h; simp [World.cell?, h]
end
set_option maxRecDepth 100000 in
set_option maxHeartbeats 2000000 in
theorem fits_any (x : Th) (e : Ev) (w : World) (hx : Vc w x.v x.ps) (hl : x.ps.length < 1000000000) (he : Vc w e.vv e.ps) : Calls Try.prog 161 #[thval x, evval e] w fun r w' => r = .returned (.bool (fitT x e)) ∧ Below w.heap.size w w' := by
  obtain ⟨q, hq⟩ : ∃ q, q = fitT x e := ⟨_, rfl⟩
  rw [← hq]
  have HQ := Lib.hid hq
  clear hq
  obtain ⟨va, vc, hvv, -, -⟩ := he.form
  obtain ⟨ua, uc, huv, -, -⟩ := hx.form
  have HE := Lib.hid he
  have HX := Lib.hid hx
  have HL := Lib.hid hl
  obtain ⟨k, f, i, a, vv, ps⟩ := e
  obtain ⟨xf, xi, xa, xv, xs⟩ := x
  simp only at hvv huv
  subst hvv huv
  clear he hx hl
  obtain ⟨n, hn⟩ : ∃ n, n = ps.length := ⟨_, rfl⟩
  obtain ⟨m, hm⟩ : ∃ m, m = xs.length := ⟨_, rfl⟩
  rw [← hn, ← hm]
  rw [← hn] at HE
  rw [← hm] at HX
  clear hn hm
  have hT := TB.made w ⟨xf, xi, xa, .slice ua m uc, xs⟩
  have hbT := ba (Below.refl w.heap.size w) (.cells #[.int .i64 xf, .int .i64 xi, .int .i64 xa, .slice ua m uc] 208)
  have hs1 : (w.alloc (.cells #[.int .i64 xf, .int .i64 xi, .int .i64 xa, .slice ua m uc] 208)).heap.size = w.heap.size + 1 := by simp
  have hV := EB.made (w.alloc (.cells #[.int .i64 xf, .int .i64 xi, .int .i64 xa, .slice ua m uc] 208)) ⟨k, f, i, a, .slice va n vc, ps⟩
  rw [hs1] at hV
  have hT2 := hT.below (ba (Below.refl _ _) (.cells #[.int .i64 k, .int .i64 f, .int .i64 i, .int .i64 a, .slice va n vc] 103))
  have HB := Lib.hid (ba hbT (.cells #[.int .i64 k, .int .i64 f, .int .i64 i, .int .i64 a, .slice va n vc] 103))
  have HT := Lib.hid hT2; have HV := Lib.hid hV
  have HE1 := Lib.hid (HE.out.on HB.out); have HX1 := Lib.hid (HX.out.on HB.out)
  clear hT hbT hs1 hV hT2
  go_enter Try.func161, Try.ntmps161
  go_wp2
  generalize (w.alloc (.cells #[.int .i64 xf, .int .i64 xi, .int .i64 xa, .slice ua m uc] 208)).alloc (.cells #[.int .i64 k, .int .i64 f, .int .i64 i, .int .i64 a, .slice va n vc] 103) = w1 at *
  obtain ⟨t0, t1, t2, t3⟩ := HT.out.cells
  have tl := HT.out.lt
  obtain ⟨x0, x1, x2, x3, x4⟩ := HV.out.cells
  have xl := HV.out.lt
  simp only at t0 t1 t2 t3 x0 x1 x2 x3 x4
  have HC := Lib.hid (fun z : Ext w1 => quiet_ext z (concern_any (W := w1) ⟨k, f, i, a, .slice va n vc, ps⟩ (HE1.out.on (by exact Below.refl _ _)) (ext w1 z)))
  have HS := Lib.hid (fun z : Ext w1 => quiet_ext z (same_any (.slice ua m uc) (.slice va n vc) xs ps HL.out (ext w1 z) ⟨HX1.out.on (ext_below _ z), HE1.out.on (ext_below _ z)⟩))
  by_cases hc : xf = f ∧ xi = i ∧ xa = a
  · have hq : ∀ w : World, (Op.equalIn 10000 205 (.agg #[.int .i64 xf, .int .i64 xi, .int .i64 xa]) (.agg #[.int .i64 f, .int .i64 i, .int .i64 a])).run Try.prog w = .ok true w := fun w => by
      rw [eqC3]; obtain ⟨rfl, rfl, rfl⟩ := hc; simp
    have HCC := Lib.hid hc
    clear hc
    obtain ⟨sm, hsm⟩ : ∃ sm, sm = decide (xs = ps) := ⟨_, rfl⟩
    rw [← hsm] at HS
    have HSM := Lib.hid hsm
    clear hsm
    refine wp_region_pure (by kernel_rfl) (by kernel_rfl) ?_
    repeat (first | go_big_quiet_step ((first | (go_at_call 159; with_reducible exact HC.out _) | (go_at_call 46; with_reducible exact HS.out _))) | (quiet_step ((first | (go_at_call 159; with_reducible exact HC.out _) | (go_at_call 46; with_reducible exact HS.out _)))))
    refine wpQuiet_nil ?_
    rintro w3 ⟨y3, hy3⟩
    have hb3 := ext_below _ y3
    rw [← hy3] at hb3
    clear hy3 y3
    have HB3 := Lib.hid hb3
    clear hb3
    go_wp2
    go_ret
    exact ⟨by rw [HQ.out]; unfold fitT; simp only; rw [decide_eq_true HCC.out, ← HSM.out]; rfl, HB.out.trans (HB3.out.mono HB.out.size)⟩
  · have hq : ∀ w : World, (Op.equalIn 10000 205 (.agg #[.int .i64 xf, .int .i64 xi, .int .i64 xa]) (.agg #[.int .i64 f, .int .i64 i, .int .i64 a])).run Try.prog w = .ok false w := fun w => by
      rw [eqC3]
      congr 1
      rw [Bool.eq_false_iff]
      intro hh; apply hc; simpa using hh
    have HCC := Lib.hid hc
    clear hc
    refine wp_region_pure (by kernel_rfl) (by kernel_rfl) ?_
    repeat (first | go_big_quiet_step ((first | (go_at_call 159; with_reducible exact HC.out _) | (go_at_call 46; with_reducible exact HS.out _))) | (quiet_step ((first | (go_at_call 159; with_reducible exact HC.out _) | (go_at_call 46; with_reducible exact HS.out _)))))
    refine wpQuiet_nil ?_
    rintro w3 ⟨y3, hy3⟩
    have hb3 := ext_below _ y3
    rw [← hy3] at hb3
    clear hy3 y3
    have HB3 := Lib.hid hb3
    clear hb3
    go_wp2
    go_ret
    exact ⟨by rw [HQ.out]; unfold fitT; simp only; rw [decide_eq_false HCC.out]; rfl, HB.out.trans (HB3.out.mono HB.out.size)⟩
section
variable {W w : World} {hp A F O T : Nat} {s : HS}
/-- Block b holds a framework. -/
def FB (w : World) (b : Nat) (x : Fm) : Prop := w.heap[b]? = some (.cells #[.bool x.up, .int .i64 x.o, .int .i64 x.t] 202 (0, 0))
section
variable {w w' : World} {b : Nat} {x : Fm}
theorem FB.made (w : World) (x : Fm) : FB (w.alloc (.cells #[.bool x.up, .int .i64 x.o, .int .i64 x.t] 202)) w.heap.size x := heap_alloc_new w _
theorem FB.lt (h : FB w b x) : b < w.heap.size := (Array.getElem?_eq_some_iff.1 h).1
theorem FB.below (h : FB w b x) (hb : Below w.heap.size w w') : FB w' b x := (hb.block b h.lt).trans h
theorem FB.chg {F : Nat → Prop} (h : FB w b x) (hc : Chg F w w') (hf : ¬ F b) : FB w' b x := (hc.block b h.lt hf).trans h
theorem FB.cells (h : FB w b x) : w.cell? ⟨b, 0, none⟩ = some (.bool x.up) ∧ w.cell? ⟨b, 1, none⟩ = some (.int .i64 x.o) ∧ w.cell? ⟨b, 2, none⟩ = some (.int .i64 x.t) := by
  unfold FB at h; simp [World.cell?, h]
theorem FB.set3 (h : FB w b x) (y : Fm) : FB (((w.setCell ⟨b, 0, none⟩ (.bool y.up)).setCell ⟨b, 1, none⟩ (.int .i64 y.o)).setCell ⟨b, 2, none⟩ (.int .i64 y.t)) b y := heap_setCell_at _ (heap_setCell_at _ (heap_setCell_at _ h))
theorem FB.set0 (h : FB w b x) (u : Bool) : FB (w.setCell ⟨b, 0, none⟩ (.bool u)) b ⟨u, x.o, x.t⟩ := heap_setCell_at _ h
theorem FB.set1 (h : FB w b x) (n : Int) : FB (w.setCell ⟨b, 1, none⟩ (.int .i64 n)) b ⟨x.up, n, x.t⟩ := heap_setCell_at _ h
theorem FB.set2 (h : FB w b x) (n : Int) : FB (w.setCell ⟨b, 2, none⟩ (.int .i64 n)) b ⟨x.up, x.o, n⟩ := heap_setCell_at _ h
theorem FB.fz (h : FB w b x) (o : Nat) : w.frozen? ⟨b, o, none⟩ = false := by unfold FB at h; simp [World.frozen?, h]
end
theorem lookF_ext (h : HT W w hp A F O T s) {k : Int} (hk : I64 k) (c : Bool) (x : ExtC w fun _ => False) : (Instr.lookup 154 (.map (some F)) (.int .i64 k) c).run Try.prog (extC w (fun _ => False) x) =
    .ok (if c then .tuple #[fmval ((s.fr k).getD fm0), .bool (s.fr k).isSome] else fmval ((s.fr k).getD fm0)) (extC w (fun _ => False) x) := (h.below ((extC_chg w _ x).below (Nat.le_refl _) fun _ e => e.elim)).lookF hk c
theorem lookO_ext (h : HT W w hp A F O T s) {k : Int} (hk : I64 k) (c : Bool) (x : ExtC w fun _ => False) : (Instr.lookup 155 (.map (some O)) (.int .i64 k) c).run Try.prog (extC w (fun _ => False) x) =
    .ok (if c then .tuple #[((s.of k).map thval).getD thzero, .bool (s.of k).isSome] else ((s.of k).map thval).getD thzero) (extC w (fun _ => False) x) := (h.below ((extC_chg w _ x).below (Nat.le_refl _) fun _ e => e.elim)).lookO hk c
theorem lookT_ext (h : HT W w hp A F O T s) {k : K2} (hk : I64 k.a ∧ I64 k.b) (c : Bool) (x : ExtC w fun _ => False) : (Instr.lookup 156 (.map (some T)) (pval k) c).run Try.prog (extC w (fun _ => False) x) =
    .ok (if c then .tuple #[((s.ts k).map thval).getD thzero, .bool (s.ts k).isSome] else ((s.ts k).map thval).getD thzero) (extC w (fun _ => False) x) := (h.below ((extC_chg w _ x).below (Nat.le_refl _) fun _ e => e.elim)).lookT hk c
set_option maxRecDepth 100000 in
set_option maxHeartbeats 2000000 in
theorem hcount (h : HT W w hp A F O T s) (e : Ev) (he : EIn W e) {o t : Int} (ho : -1 ≤ o ∧ o ≤ 1) (ht : -1 ≤ t ∧ t ≤ 1) : Calls Try.prog 160 #[ptr hp, evval e, .int .i64 o, .int .i64 t] w fun r w' => r = .returned (.tuple #[]) ∧ HT W w' hp A F O T (cnt s e o t) := by
  have hw3 : IntKind.i64.wrap (o + t) = o + t := IntWalk.i64_in _ (by omega)
  obtain ⟨va, vc, hvv, -, -⟩ := he.vc.form
  have HE := Lib.hid he
  obtain ⟨k, f, i, a, vv, ps⟩ := e
  simp only at hvv
  subst hvv
  clear he
  generalize hn : ps.length = n at *
  have hb := ba (Below.refl w.heap.size w) (.cells #[.int .i64 k, .int .i64 f, .int .i64 i, .int .i64 a, .slice va n vc] 103)
  have HB := Lib.hid hb
  have HX := Lib.hid (EB.made w ⟨k, f, i, a, .slice va n vc, ps⟩)
  have H1 := Lib.hid (h.below hb)
  have HN := Lib.hid hn
  have HLT := Lib.hid h.lt
  clear hb h hn
  clear ho ht
  go_enter Try.func160, Try.ntmps160
  go_wp2
  generalize w.alloc (.cells #[.int .i64 k, .int .i64 f, .int .i64 i, .int .i64 a, .slice va n vc] 103) = w1 at *
  obtain ⟨b1, hb1⟩ : ∃ b1, b1 = w.heap.size := ⟨_, rfl⟩
  rw [← hb1] at HX ⊢
  have HBQ := Lib.hid hb1
  clear hb1
  obtain ⟨x0, x1, x2, x3, x4⟩ := HX.out.cells
  have xl := HX.out.lt
  obtain ⟨c0, c1, c2, c3, c4⟩ := H1.out.cells
  have hl := H1.out.lt.1
  simp only at x0 x1 x2 x3 x4
  have hlk := lookF_ext H1.out HE.out.fr false
  simp only at hlk
  generalize hx : (s.fr f).getD fm0 = x at *
  have HXX := Lib.hid hx
  clear hx
  obtain ⟨xu, xo, xt⟩ := x
  replace hlk : ∀ x : ExtC w1 (fun _ => False), (Instr.lookup 154 (.map (some F)) (.int .i64 f) false).run Try.prog (extC w1 (fun _ => False) x) = .ok (.agg #[.bool xu, .int .i64 xo, .int .i64 xt]) (extC w1 (fun _ => False) x) := hlk
  -- a variable for a framework that is found (xu, xo, xt): lookups first (skip: the takes behind the store)
  refine Mix.regionC (fun _ => False) (by kernel_rfl) ?_
  intro w3 hb3
  refine Mix.take_exC _ _ 0 rfl (by kernel_rfl) (by kernel_rfl) (by kernel_rfl) (by kernel_rfl) (fun K hK => ?_)
  go_simp
  first | (refine hK _ ?_; clear hK K) | (apply Exists.intro; refine ⟨fun x => ?_, hK _ ?_⟩; (fail); clear hK K)
  refine Mix.take_exC _ _ 1 rfl (by kernel_rfl) (by kernel_rfl) (by kernel_rfl) (by kernel_rfl) (fun K hK => ?_)
  go_simp
  first | (refine hK _ ?_; clear hK K) | (apply Exists.intro; refine ⟨fun x => ?_, hK _ ?_⟩; (fail); clear hK K)
  refine Mix.take_exC _ _ 2 rfl (by kernel_rfl) (by kernel_rfl) (by kernel_rfl) (by kernel_rfl) (fun K hK => ?_)
  go_simp
  first | (refine hK _ ?_; clear hK K) | (apply Exists.intro; refine ⟨fun x => ?_, hK _ ?_⟩; (fail); clear hK K)
  refine Mix.take_exC _ _ 3 rfl (by kernel_rfl) (by kernel_rfl) (by kernel_rfl) (by kernel_rfl) (fun K hK => ?_)
  go_simp
  first | (refine hK _ ?_; clear hK K) | (apply Exists.intro; refine ⟨fun x => ?_, hK _ ?_⟩; (fail); clear hK K)
  refine Mix.take_exC _ _ 4 rfl (by kernel_rfl) (by kernel_rfl) (by kernel_rfl) (by kernel_rfl) (fun K hK => ?_)
  go_simp
  first | (refine hK _ ?_; clear hK K) | (apply Exists.intro; refine ⟨fun x => ?_, hK _ ?_⟩; (fail); clear hK K)
  refine Mix.take_exC _ _ 5 rfl (by kernel_rfl) (by kernel_rfl) (by kernel_rfl) (by kernel_rfl) (fun K hK => ?_)
  go_simp
  first | (refine hK _ ?_; clear hK K) | (apply Exists.intro; refine ⟨fun x => ?_, hK _ ?_⟩; (fail); clear hK K)
  refine Mix.take_exC _ _ 6 rfl (by kernel_rfl) (by kernel_rfl) (by kernel_rfl) (by kernel_rfl) (fun K hK => ?_)
  go_simp
  first | (refine hK _ ?_; clear hK K) | (apply Exists.intro; refine ⟨fun x => ?_, hK _ ?_⟩; (fail); clear hK K)
  refine Mix.all (rs := [7]) (by kernel_rfl) (by simp) (.of_below _ hb3) ?_
  intro i4 hi4 w4 hb4 hC4
  simp only [List.mem_cons, List.not_mem_nil, or_false] at hi4
  subst hi4
  have HB4 := Lib.hid (bt hb3 hb4)
  clear hC4 hb3 hb4
  refine Mix.op rfl (by kernel_rfl) ?_
  go_simp
  have hz4 := FB.made w4 fm0
  have hb45 := ba HB4.out (.cells #[.bool false, .int .i64 0, .int .i64 0] 202)
  generalize w4.alloc (.cells #[.bool false, .int .i64 0, .int .i64 0] 202) = w5 at *
  obtain ⟨b4, hb4q⟩ : ∃ b4, b4 = w4.heap.size := ⟨_, rfl⟩
  rw [← hb4q] at hz4 ⊢
  have HG4 := Lib.hid (show w1.heap.size ≤ b4 by rw [hb4q]; exact HB4.out.size)
  have HZ5 := Lib.hid hz4; have HB5 := Lib.hid hb45
  clear hz4 hb45 hb4q
  refine Mix.all (rs := [8]) (by kernel_rfl) (by simp) (.of_below _ HB5.out) ?_
  intro i6 hi6 w6 hb6 hC6
  simp only [List.mem_cons, List.not_mem_nil, or_false] at hi6
  subst hi6
  have HB6 := Lib.hid (bt HB5.out hb6)
  have hz6 := HZ5.out.below hb6
  clear hC6 hb6
  obtain ⟨m0, m1, m2⟩ := hz6.cells
  have o0 := hz6.fz 0; have o1 := hz6.fz 1; have o2 := hz6.fz 2
  have m4 := hz6.lt
  have HST := Lib.hid (show Chg (fun k => k = b4) w6 (((w6.setCell ⟨b4, 0, none⟩ (.bool xu)).setCell ⟨b4, 1, none⟩ (.int .i64 xo)).setCell ⟨b4, 2, none⟩ (.int .i64 xt)) from (((Chg.refl (fun k => k = b4) w6).setCell (p := ⟨b4, 0, none⟩) (.inl rfl) _).setCell (p := ⟨b4, 1, none⟩) (.inl rfl) _).setCell (p := ⟨b4, 2, none⟩) (.inl rfl) _)
  have HFX := Lib.hid (hz6.set3 ⟨xu, xo, xt⟩)
  clear hz6
  refine Mix.op rfl (by kernel_rfl) ?_
  go_simp
  clear m0 m1 m2 m4 o0 o1 o2
  generalize ((w6.setCell ⟨b4, 0, none⟩ (.bool xu)).setCell ⟨b4, 1, none⟩ (.int .i64 xo)).setCell ⟨b4, 2, none⟩ (.int .i64 xt) = w7 at *
  have HB7 := Lib.hid (show Below w1.heap.size w1 w7 from HB6.out.trans (HST.out.below HB6.out.size fun k e => by have e : k = b4 := e; have := HG4.out; omega))
  skip
  refine Mix.done (by kernel_rfl) (.of_below _ HB7.out) ?_
  intro w8 hb8
  have HB8 := Lib.hid (bt HB7.out hb8)
  have HF8 := Lib.hid (HFX.out.below hb8)
  clear hb8 HST HB6 HB5 HZ5 HFX
  clear hlk x0 x1 x2 x3 x4 xl c0 c1 c2 c3 c4 hl
  have H8 := Lib.hid (H1.out.below HB8.out)
  have HX8 := Lib.hid (HX.out.below HB8.out)
  obtain ⟨z0, z1, z2⟩ := HF8.out.cells
  have zl := HF8.out.lt
  have y1 := HF8.out.fz 1; have y2 := HF8.out.fz 2
  simp only at z0 z1 z2
  generalize hwo : IntKind.i64.wrap (xo + o) = yo
  generalize hwt : IntKind.i64.wrap (xt + t) = yt
  have HWO := Lib.hid hwo; have HWT := Lib.hid hwt
  go_wp2
  have HF9 := Lib.hid ((HF8.out.set1 yo).set2 yt)
  have HB9 := Lib.hid (show Below w1.heap.size w1 ((w8.setCell ⟨b4, 1, none⟩ (.int .i64 yo)).setCell ⟨b4, 2, none⟩ (.int .i64 yt)) from bs (bs HB8.out HG4.out _) HG4.out _)
  simp only at HF9
  clear z0 z1 z2 zl y1 y2
  generalize (w8.setCell ⟨b4, 1, none⟩ (.int .i64 yo)).setCell ⟨b4, 2, none⟩ (.int .i64 yt) = w9 at *
  obtain ⟨w10, hst, h10, hc10⟩ := (H1.out.below (bd HB9.out)).storeF HE.out.fr ⟨xu, yo, yt⟩
  have hX9 := HX.out.below HB9.out
  have hH9 := H1.out.below HB9.out
  obtain ⟨x0, x1, x2, x3, x4⟩ := hX9.cells
  have xl := hX9.lt
  obtain ⟨c0, c1, c2, c3, c4⟩ := hH9.cells
  have hl := hH9.lt.1
  obtain ⟨z0, z1, z2⟩ := HF9.out.cells
  have zl := HF9.out.lt
  simp only at x0 x1 x2 x3 x4 z0 z1 z2
  go_region
  have hX10 := ((HX.out.below HB9.out).below (bd (Below.refl _ _))).chg hc10 (fun e => by have e : b1 = F := e; have := HLT.out; have := HBQ.out; omega)
  clear x0 x1 x2 x3 x4 xl c0 c1 c2 c3 c4 hl z0 z1 z2 zl hst hX9 hH9
  have hma : (({ s with fr := upd s.fr f (some ⟨xu, yo, yt⟩) } : HS).ag a).getD 0 = (s.ag a).getD 0 := rfl
  have la := (h10.below (bd (Below.refl _ _))).lookA HE.out.ag false
  simp only at la
  generalize hm : (s.ag a).getD 0 = m at *
  generalize hwa : IntKind.i64.wrap (m + (o + t)) = ya
  obtain ⟨w11, hst, h11, hc11⟩ := (h10.below (bd (Below.refl _ _))).storeA HE.out.ag ya
  obtain ⟨x0, x1, x2, x3, x4⟩ := hX10.cells
  have xl := hX10.lt
  obtain ⟨c0, c1, c2, c3, c4⟩ := h10.cells
  have hl := h10.lt.1
  simp only at x0 x1 x2 x3 x4
  have H11 := Lib.hid h11
  have HWA := Lib.hid hwa; have HM := Lib.hid hm
  replace la := la.trans (show _ = .ok (.int .i64 m) _ from rfl)
  clear h11 hc11 hm hma
  go_wp2
  go_region
  go_wp2
  refine bodyPost_end (results_none rfl _ _ _) rfl ?_
  refine ⟨rfl, ?_⟩
  have hfin := H11.out
  rw [← HWA.out, ← HWO.out, ← HWT.out, ← HM.out] at hfin
  unfold cnt wr
  simp only
  rw [HXX.out]
  exact hfin
end
end Go.Proofs.Ytennhfkhdfalfaa

/- filters: the order of filters; has. -/
import Derived.Test.YtennhfkhdfalfaaFi1
namespace Go.Proofs.Ytennhfkhdfalfaa
open Go.RowKit Go.Maps
attribute [local go_sem] MixD.extD_cell MixD.extD_frozen MixD.calmUpon MixD.mUpon
/-- A filter in memory. -/
structure Fl where
  fr : Int
  ag : Int
  ti : Int
  vv : Value
  ps : List Pt
abbrev flval (f : Fl) : Value := .agg #[.int .i64 f.fr, .int .i64 f.ag, .int .i64 f.ti, f.vv]
def flenc (f : Fl) : List Value := [.int .i64 f.fr, .int .i64 f.ag, .int .i64 f.ti, f.vv]
/-- A filter, plainly. -/
abbrev Pf := Int × Int × Int × List Pt
abbrev Fl.pl (f : Fl) : Pf := (f.fr, f.ag, f.ti, f.ps)
abbrev cmps4 (f g : Pf) : Nat → Int
  | 0 => Go.Lib.compareInt f.1 g.1
  | 1 => Go.Lib.compareInt f.2.1 g.2.1
  | 2 => Go.Lib.compareInt f.2.2.1 g.2.2.1
  | _ => vord f.2.2.2 g.2.2.2
def ford (f g : Pf) : Int := orF (cmps4 f g) 4
theorem ford_zero (f g : Pf) : ford f g = 0 ↔ f = g := by
  unfold ford
  rw [orF_eq0]
  constructor
  · intro h
    have h0 := (cmpI_zero _ _).1 (h 0 (by omega)); have h1 := (cmpI_zero _ _).1 (h 1 (by omega)); have h2 := (cmpI_zero _ _).1 (h 2 (by omega)); have h3 := (vord_zero _ _).1 (h 3 (by omega))
    obtain ⟨a, b, c, d⟩ := f; obtain ⟨a', b', c', d'⟩ := g
    simp only at h0 h1 h2 h3
    rw [h0, h1, h2, h3]
  · rintro rfl j hj
    rcases j with _ | _ | _ | _ | j
    · exact (cmpI_zero _ _).2 rfl
    · exact (cmpI_zero _ _).2 rfl
    · exact (cmpI_zero _ _).2 rfl
    · exact (vord_zero _ _).2 rfl
    · omega
/-- Block b holds a filter. -/
def FB (w : World) (b : Nat) (i f a : Int) (v : Value) : Prop := w.heap[b]? = some (.cells #[.int .i64 i, .int .i64 f, .int .i64 a, v] 72 (0, 0))
section
variable {w w' : World} {b : Nat} {i f a : Int} {v : Value}
theorem FB.made (w : World) (i f a : Int) (v : Value) : FB (w.alloc (.cells #[.int .i64 i, .int .i64 f, .int .i64 a, v] 72)) w.heap.size i f a v := heap_alloc_new w _
theorem FB.lt (h : FB w b i f a v) : b < w.heap.size := (Array.getElem?_eq_some_iff.1 h).1
theorem FB.below (h : FB w b i f a v) (hb : Below w.heap.size w w') : FB w' b i f a v := (hb.block b h.lt).trans h
theorem FB.cells (h : FB w b i f a v) : w.cell? ⟨b, 0, none⟩ = some (.int .i64 i) ∧ w.cell? ⟨b, 1, none⟩ = some (.int .i64 f) ∧ w.cell? ⟨b, 2, none⟩ = some (.int .i64 a) ∧ w.cell? ⟨b, 3, none⟩ = some v := by unfold FB at h; simp [World.cell?, h]
end
set_option maxRecDepth 100000 in
set_option maxHeartbeats 2000000 in
theorem forder (x y : Fl) (W : World) (hx : Vc W x.vv x.ps) (hy : Vc W y.vv y.ps) : Calls Try.prog 86 #[flval x, flval y] W fun e w' => e = .returned (.int .i64 (ford x.pl y.pl)) ∧ MixD.Grow W w' := by
  have hc64 := fun a b W' => Go.Proofs.AnyG.cmp_Compare_int Lb.Try.cmp_Compare_int64 a b W'
  change ∀ a b W', Calls Try.prog 70 _ _ _ at hc64
  have HE := Lib.hid (show ford x.pl y.pl = orF (cmps4 x.pl y.pl) 4 from rfl)
  obtain ⟨i, f, a, v, ps⟩ := x
  obtain ⟨i', f', a', u, us⟩ := y
  obtain ⟨va, vc, hvv, -, -⟩ := hx.form
  obtain ⟨ua, uc, huv, -, -⟩ := hy.form
  simp only at hvv huv hx hy
  subst hvv huv
  have HG0 := Lib.hid (show MixD.Grow W ((W.alloc (.cells #[.int .i64 i, .int .i64 f, .int .i64 a, .slice va ps.length vc] 72)).alloc (.cells #[.int .i64 i', .int .i64 f', .int .i64 a', .slice ua us.length uc] 72)) from ⟨ba (ba (Below.refl _ _) _) _, Nat.le_refl _⟩)
  have HX := Lib.hid ((FB.made W i f a (.slice va ps.length vc)).below (ba (Below.refl _ _) (.cells #[.int .i64 i', .int .i64 f', .int .i64 a', .slice ua us.length uc] 72)))
  have hb := FB.made (W.alloc (.cells #[.int .i64 i, .int .i64 f, .int .i64 a, .slice va ps.length vc] 72)) i' f' a' (.slice ua us.length uc)
  rw [show (W.alloc (.cells #[.int .i64 i, .int .i64 f, .int .i64 a, .slice va ps.length vc] 72)).heap.size = W.heap.size + 1 by simp] at hb
  have HY := Lib.hid hb
  have HV := Lib.hid (And.intro (hx.on HG0.out.1) (hy.on HG0.out.1))
  clear hb hx hy
  go_enter Try.func86, Try.ntmps86
  go_wp2
  generalize (W.alloc (.cells #[.int .i64 i, .int .i64 f, .int .i64 a, .slice va ps.length vc] 72)).alloc (.cells #[.int .i64 i', .int .i64 f', .int .i64 a', .slice ua us.length uc] 72) = w1 at *
  obtain ⟨x0, x1, x2, x3⟩ := HX.out.cells
  obtain ⟨y0, y1, y2, y3⟩ := HY.out.cells
  have s0 := HX.out.lt; have s1 := HY.out.lt
  refine MixD.region0 (by kernel_rfl) ?_
  intro w2 hg2
  refine MixD.take_ex (w1) 0 rfl (by kernel_rfl) (by kernel_rfl) (by kernel_rfl) (by kernel_rfl) (fun K hK => ?_)
  go_simp
  first | (refine hK _ ?_; clear hK K) | (apply Exists.intro; refine ⟨fun x => ?_, hK _ ?_⟩; (fail); clear hK K)
  refine MixD.take_ex (w1) 1 rfl (by kernel_rfl) (by kernel_rfl) (by kernel_rfl) (by kernel_rfl) (fun K hK => ?_)
  go_simp
  first | (refine hK _ ?_; clear hK K) | (apply Exists.intro; refine ⟨fun x => ?_, hK _ ?_⟩; (fail); clear hK K)
  refine MixD.take_ex (w1) 2 rfl (by kernel_rfl) (by kernel_rfl) (by kernel_rfl) (by kernel_rfl) (fun K hK => ?_)
  go_simp
  first | (refine hK _ ?_; clear hK K) | (apply Exists.intro; refine ⟨fun x => ?_, hK _ ?_⟩; (fail); clear hK K)
  refine MixD.take_ex (w1) 3 rfl (by kernel_rfl) (by kernel_rfl) (by kernel_rfl) (by kernel_rfl) (fun K hK => ?_)
  go_simp
  first | (refine hK _ ?_; clear hK K) | (apply Exists.intro; refine ⟨fun x => ?_, hK _ ?_⟩; (fail); clear hK K)
  refine MixD.take_ex (w1) 4 rfl (by kernel_rfl) (by kernel_rfl) (by kernel_rfl) (by kernel_rfl) (fun K hK => ?_)
  go_simp
  first | (refine hK _ ?_; clear hK K) | (apply Exists.intro; refine ⟨fun x => ?_, hK _ ?_⟩; ((exact (hc64 _ _ _).mono fun e w' ⟨h1, h2⟩ => ⟨h1, by rw [h2]; exact MixD.Grow.refl _⟩)); clear hK K)
  refine MixD.take_ex (w1) 5 rfl (by kernel_rfl) (by kernel_rfl) (by kernel_rfl) (by kernel_rfl) (fun K hK => ?_)
  go_simp
  first | (refine hK _ ?_; clear hK K) | (apply Exists.intro; refine ⟨fun x => ?_, hK _ ?_⟩; (fail); clear hK K)
  refine MixD.take_ex (w1) 6 rfl (by kernel_rfl) (by kernel_rfl) (by kernel_rfl) (by kernel_rfl) (fun K hK => ?_)
  go_simp
  first | (refine hK _ ?_; clear hK K) | (apply Exists.intro; refine ⟨fun x => ?_, hK _ ?_⟩; (fail); clear hK K)
  refine MixD.take_ex (w1) 7 rfl (by kernel_rfl) (by kernel_rfl) (by kernel_rfl) (by kernel_rfl) (fun K hK => ?_)
  go_simp
  first | (refine hK _ ?_; clear hK K) | (apply Exists.intro; refine ⟨fun x => ?_, hK _ ?_⟩; (fail); clear hK K)
  refine MixD.take_ex (w1) 8 rfl (by kernel_rfl) (by kernel_rfl) (by kernel_rfl) (by kernel_rfl) (fun K hK => ?_)
  go_simp
  first | (refine hK _ ?_; clear hK K) | (apply Exists.intro; refine ⟨fun x => ?_, hK _ ?_⟩; (fail); clear hK K)
  refine MixD.take_ex (w1) 9 rfl (by kernel_rfl) (by kernel_rfl) (by kernel_rfl) (by kernel_rfl) (fun K hK => ?_)
  go_simp
  first | (refine hK _ ?_; clear hK K) | (apply Exists.intro; refine ⟨fun x => ?_, hK _ ?_⟩; ((exact (hc64 _ _ _).mono fun e w' ⟨h1, h2⟩ => ⟨h1, by rw [h2]; exact MixD.Grow.refl _⟩)); clear hK K)
  refine MixD.take_ex (w1) 10 rfl (by kernel_rfl) (by kernel_rfl) (by kernel_rfl) (by kernel_rfl) (fun K hK => ?_)
  go_simp
  first | (refine hK _ ?_; clear hK K) | (apply Exists.intro; refine ⟨fun x => ?_, hK _ ?_⟩; (fail); clear hK K)
  refine MixD.take_ex (w1) 11 rfl (by kernel_rfl) (by kernel_rfl) (by kernel_rfl) (by kernel_rfl) (fun K hK => ?_)
  go_simp
  first | (refine hK _ ?_; clear hK K) | (apply Exists.intro; refine ⟨fun x => ?_, hK _ ?_⟩; (fail); clear hK K)
  refine MixD.take_ex (w1) 12 rfl (by kernel_rfl) (by kernel_rfl) (by kernel_rfl) (by kernel_rfl) (fun K hK => ?_)
  go_simp
  first | (refine hK _ ?_; clear hK K) | (apply Exists.intro; refine ⟨fun x => ?_, hK _ ?_⟩; (fail); clear hK K)
  refine MixD.take_ex (w1) 13 rfl (by kernel_rfl) (by kernel_rfl) (by kernel_rfl) (by kernel_rfl) (fun K hK => ?_)
  go_simp
  first | (refine hK _ ?_; clear hK K) | (apply Exists.intro; refine ⟨fun x => ?_, hK _ ?_⟩; (fail); clear hK K)
  refine MixD.take_ex (w1) 14 rfl (by kernel_rfl) (by kernel_rfl) (by kernel_rfl) (by kernel_rfl) (fun K hK => ?_)
  go_simp
  first | (refine hK _ ?_; clear hK K) | (apply Exists.intro; refine ⟨fun x => ?_, hK _ ?_⟩; ((exact (hc64 _ _ _).mono fun e w' ⟨h1, h2⟩ => ⟨h1, by rw [h2]; exact MixD.Grow.refl _⟩)); clear hK K)
  refine MixD.take_ex (w1) 15 rfl (by kernel_rfl) (by kernel_rfl) (by kernel_rfl) (by kernel_rfl) (fun K hK => ?_)
  go_simp
  first | (refine hK _ ?_; clear hK K) | (apply Exists.intro; refine ⟨fun x => ?_, hK _ ?_⟩; (fail); clear hK K)
  refine MixD.take_ex (w1) 16 rfl (by kernel_rfl) (by kernel_rfl) (by kernel_rfl) (by kernel_rfl) (fun K hK => ?_)
  go_simp
  first | (refine hK _ ?_; clear hK K) | (apply Exists.intro; refine ⟨fun x => ?_, hK _ ?_⟩; (fail); clear hK K)
  refine MixD.take_ex (w1) 17 rfl (by kernel_rfl) (by kernel_rfl) (by kernel_rfl) (by kernel_rfl) (fun K hK => ?_)
  go_simp
  first | (refine hK _ ?_; clear hK K) | (apply Exists.intro; refine ⟨fun x => ?_, hK _ ?_⟩; (fail); clear hK K)
  refine MixD.take_ex (w1) 18 rfl (by kernel_rfl) (by kernel_rfl) (by kernel_rfl) (by kernel_rfl) (fun K hK => ?_)
  go_simp
  first | (refine hK _ ?_; clear hK K) | (apply Exists.intro; refine ⟨fun x => ?_, hK _ ?_⟩; (fail); clear hK K)
  refine MixD.take_ex (w1) 19 rfl (by kernel_rfl) (by kernel_rfl) (by kernel_rfl) (by kernel_rfl) (fun K hK => ?_)
  go_simp
  first | (refine hK _ ?_; clear hK K) | (apply Exists.intro; refine ⟨fun x => ?_, hK _ ?_⟩; ((exact border _ _ ps us _ (HV.out.1.on (MixD.extD_grow w1 x).1) (HV.out.2.on (MixD.extD_grow w1 x).1))); clear hK K)
  refine MixD.all (rs := [20]) (by kernel_rfl) (by simp) (MixD.over_of hg2) ?_
  intro i3 hi3 w3 hg3 hC3
  simp only [List.mem_cons, List.not_mem_nil, or_false] at hi3
  subst hi3
  clear hC3
  refine MixD.op rfl (by kernel_rfl) ?_
  go_simp
  have HC4 := Lib.hid (show ∀ j, j < 4 → (w3.alloc (.cells #[.int .i64 (Go.Lib.compareInt i i'), .int .i64 (Go.Lib.compareInt f f'), .int .i64 (Go.Lib.compareInt a a'), .int .i64 (vord ps us)] 3)).cell? ⟨w3.heap.size, j, none⟩ = some (.int .i64 (cmps4 (i, f, a, ps) (i', f', a', us) j)) from fun j hj => by
    refine (cell_new w3 _ _ j).trans ?_
    rcases j with _ | _ | _ | _ | j
    · rfl
    · rfl
    · rfl
    · rfl
    · omega)
  have HG4 := Lib.hid (show MixD.Grow W (w3.alloc (.cells #[.int .i64 (Go.Lib.compareInt i i'), .int .i64 (Go.Lib.compareInt f f'), .int .i64 (Go.Lib.compareInt a a'), .int .i64 (vord ps us)] 3)) from ((HG0.out.trans hg2).trans hg3).trans ⟨ba (Below.refl _ _) _, Nat.le_refl _⟩)
  have HO4 := Lib.hid (show MixD.Grow w1 (w3.alloc (.cells #[.int .i64 (Go.Lib.compareInt i i'), .int .i64 (Go.Lib.compareInt f f'), .int .i64 (Go.Lib.compareInt a a'), .int .i64 (vord ps us)] 3)) from (hg2.trans hg3).trans ⟨ba (Below.refl _ _) _, Nat.le_refl _⟩)
  have hb3 : w3.heap.size < (w3.alloc (.cells #[.int .i64 (Go.Lib.compareInt i i'), .int .i64 (Go.Lib.compareInt f f'), .int .i64 (Go.Lib.compareInt a a'), .int .i64 (vord ps us)] 3)).heap.size := by simp
  generalize w3.alloc (.cells #[.int .i64 (Go.Lib.compareInt i i'), .int .i64 (Go.Lib.compareInt f f'), .int .i64 (Go.Lib.compareInt a a'), .int .i64 (vord ps us)] 3) = w4 at *
  generalize w3.heap.size = q at *
  refine MixD.all (rs := [21]) (by kernel_rfl) (by simp) (MixD.over_of HO4.out) ?_
  intro i5 hi5 w5 hg5 hC5
  simp only [List.mem_cons, List.not_mem_nil, or_false] at hi5
  subst hi5
  have HG5 := Lib.hid (HG4.out.trans hg5)
  have HO5 := Lib.hid (HO4.out.trans hg5)
  have HC5 := Lib.hid (show ∀ j, j < 4 → w5.cell? ⟨q, j, none⟩ = some (.int .i64 (cmps4 (i, f, a, ps) (i', f', a', us) j)) from fun j hj => (hg5.1.cell (p := ⟨q, j, none⟩) hb3).trans (HC4.out j hj))
  clear hC5 hg5 hg2 hg3 hb3 x0 x1 x2 x3 y0 y1 y2 y3 s0 s1
  refine MixD.op rfl (by kernel_rfl) ?_
  go_simp
  refine (cmpor (n := 4) (by omega) (cmps4 (i, f, a, ps) (i', f', a', us)) HC5.out).mono ?_
  rintro e w6 ⟨rfl, rfl⟩
  refine ⟨_, rfl, ?_⟩
  refine MixD.all (rs := [22]) (by kernel_rfl) (by simp) (MixD.over_of HO5.out) ?_
  intro i7 hi7 w7 hg7 hC7
  simp only [List.mem_cons, List.not_mem_nil, or_false] at hi7
  subst hi7
  have HG7 := Lib.hid (HG5.out.trans hg7)
  have HO7 := Lib.hid (HO5.out.trans hg7)
  clear hC7 hg7
  refine MixD.op rfl (by kernel_rfl) ?_
  go_simp
  refine MixD.done (by kernel_rfl) (MixD.over_of HO7.out) ?_
  intro w8 hg8
  have HG8 := Lib.hid (HG7.out.trans hg8)
  clear hg8
  go_wp2
  go_ret
  exact ⟨by rw [HE.out]; rfl, HG8.out⟩
/-- Block b is a list of filters: it holds the slice v. -/
def LB (w : World) (b : Nat) (v : Value) : Prop := w.heap[b]? = some (.cells #[v] 134 (0, 0))
section
variable {w w' : World} {b : Nat} {v : Value}
theorem LB.made (w : World) (v : Value) : LB (w.alloc (.cells #[v] 134)) w.heap.size v := heap_alloc_new w _
theorem LB.lt (h : LB w b v) : b < w.heap.size := (Array.getElem?_eq_some_iff.1 h).1
theorem LB.chg {F : Nat → Prop} (h : LB w b v) (hc : Chg F w w') (hf : ¬ F b) : LB w' b v := (hc.block b h.lt hf).trans h
theorem LB.below (h : LB w b v) (hb : Below w.heap.size w w') : LB w' b v := (hb.block b h.lt).trans h
theorem LB.cell (h : LB w b v) : w.cell? ⟨b, 0, none⟩ = some v := by unfold LB at h; simp [World.cell?, h]
theorem LB.fz (h : LB w b v) (o : Nat) : w.frozen? ⟨b, o, none⟩ = false := by unfold LB at h; simp [World.frozen?, h]
theorem LB.set (h : LB w b v) (v' : Value) : LB (w.setCell ⟨b, 0, none⟩ v') b v' := heap_setCell_at v' h
end
set_option maxRecDepth 100000 in
theorem fhas_nil (g : Value) (W : World) : Calls Try.prog 82 #[.pointer none, g] W fun e w' => e = .returned (.bool false) ∧ Below W.heap.size W w' := by
  go_enter Try.func82, Try.ntmps82
  go_wp2
  go_ret
  exact ⟨rfl, Below.refl _ _⟩
open Go.Shelf Go.Lib in
set_option maxRecDepth 100000 in
set_option maxHeartbeats 1000000 in
theorem fhas_at {w : World} {b : Nat} {v : Value} {l : List Fl} (hl : LB w b v) (hr : RS 4 flenc w v l) (hne : l ≠ []) (p : Fl → Bool) (g : Nat) (lb : Array Value) (eg : ∀ args w, (callFunc g args).run Try.prog w = .ok (.enter g args) w)
    (hp : ∀ (W : World) (x : Fl), x ∈ l → Below w.heap.size w W → Calls Try.prog g (#[flval x] ++ lb) W fun e w' => e = .returned (.bool (p x)) ∧ Below w.heap.size w w') :
    Calls Try.prog 82 #[.pointer (some ⟨b, 0, none⟩), .func (.func g) #[] lb] w fun e w' => e = .returned (.bool (l.any p)) ∧ Below w.heap.size w w' := by
  obtain ⟨a, c, rfl, hc, hm, hat⟩ := hr
  obtain ⟨q, off, rfl, hq, hcell⟩ := hat hne
  obtain ⟨x0, hx0⟩ : ∃ x, x ∈ l := List.exists_mem_of_ne_nil l hne
  letI : Inhabited { x : Fl // x ∈ l } := ⟨⟨x0, hx0⟩⟩
  have hcon := AnyQ.slices_ContainsFunc Lb.Try.containsF 4 Try.isAgg72 Try.sizeOf72 (α := { x : Fl // x ∈ l }) (fun x => flenc x.1) (fun _ => rfl) (fun x => p x.1) g lb eg q off l.length c l.attach w
    (fun W x hb => hp W x.1 x.2 hb) (by simp) (by unfold maxLen at hm; omega) hq (fun j hj i u hi => by
      have hj' : j < l.length := by simpa using hj
      refine hcell j hj' i u ?_
      rw [getElem!_pos l.attach j hj] at hi
      simpa using hi)
  change Calls Try.prog 117 _ _ _ at hcon
  have e : (l.attach.take l.length).any (fun x => p x.1) = l.any p := by
    rw [List.take_of_length_le (by simp)]
    rw [Bool.eq_iff_iff]
    simp
  rw [e] at hcon
  have HC := Lib.hid hcon
  have h0 := hl.cell
  have h1 := hl.lt
  clear hcon e hp eg hcell hat hc hm
  go_enter Try.func82, Try.ntmps82
  go_wp2_with fail
  refine HC.out.mono ?_
  rintro e w1 ⟨rfl, hb⟩
  have HB := Lib.hid hb
  clear hb
  go_wp2
  go_ret
  exact ⟨rfl, HB.out⟩
end Go.Proofs.Ytennhfkhdfalfaa

/- frames: what a table's blocks hold; made, roleRight, find, Get, Long, Weight. -/
import Derived.Test.YtajcelmnblncaaaHeap2
import Derived.Test.YtajcelmnblncaaaFr0
import Derived.Test.YtajcelmnblncaaaMixL
import Derived.ChangeAlike
import Derived.Outline
namespace Go.Proofs.Ytajcelmnblncaaa
open Go.RowKit Go.Maps
open Go.ChangeMaps (setBlock)
attribute [local go_sem] ext_cell ext_frozen extC_cell extC_frozen Mix.calmUpon Mix.mUpon
def fenc (f : Fr) : List Value := [.int .i64 f.id, .int .i64 f.role, .int .i64 f.weight, .bool f.up, .bool f.quiet, .int .i64 f.time, .int .i64 f.til]
abbrev fval (f : Fr) : Value := .agg #[.int .i64 f.id, .int .i64 f.role, .int .i64 f.weight, .bool f.up, .bool f.quiet, .int .i64 f.time, .int .i64 f.til]
abbrev fzero : Fr := ⟨0, 0, 0, false, false, 0, 0⟩
/-- The cells of a table. -/
def tcs (cap : Int) (M : Nat) (g : Nat → It) : List Value := [.int .i64 cap, .map (some M)] ++ ics g 33
/-- Block tp is a table of the frameworks S; M: its map's block. -/
structure TB (w : World) (tp M : Nat) (cap : Int) (S : List Fr) (g : Nat → It) (L : List (Int × Value)) : Prop where
  obj : w.heap[tp]? = some (.cells (tcs cap M g).toArray 129 (0, 0))
  map : MapK K64 w M L
  look : ∀ k, L.lookup k = (fndF S k).map fval
  len : L.length = S.length
  ro : RO S (fun r => (g r).1) (fun r => (g r).2)
  hM : tp ≠ M
  big : S.length < 1000000
def FT (tp M : Nat) : Nat → Prop := fun k => k = tp ∨ k = M
/-- Block tp is a table of these frameworks. -/
def TS (w : World) (tp M : Nat) (cap : Int) (S : List Fr) : Prop := ∃ g L, TB w tp M cap S g L
section
variable {w : World} {tp M : Nat} {cap : Int} {S : List Fr} {g : Nat → It} {L : List (Int × Value)}
theorem TB.lt (h : TB w tp M cap S g L) : tp < w.heap.size ∧ M < w.heap.size := ⟨(Array.getElem?_eq_some_iff.1 h.obj).1, h.map.lt⟩
theorem TB.chg {F : Nat → Prop} {w' : World} (h : TB w tp M cap S g L) (hc : Chg F w w') (hf : ¬ F tp ∧ ¬ F M) : TB w' tp M cap S g L :=
  ⟨by rw [hc.block tp h.lt.1 hf.1]; exact h.obj, h.map.chg hc hf.2, h.look, h.len, h.ro, h.hM, h.big⟩
theorem TB.below {w' : World} (h : TB w tp M cap S g L) (hb : Below w.heap.size w w') : TB w' tp M cap S g L := h.chg (F := fun _ => False) (.of_below _ hb) ⟨id, id⟩
theorem TB.ts (h : TB w tp M cap S g L) : TS w tp M cap S := ⟨g, L, h⟩
theorem TS.below {w' : World} (h : TS w tp M cap S) (hb : Below w.heap.size w w') : TS w' tp M cap S := by obtain ⟨g, L, h⟩ := h; exact ⟨g, L, h.below hb⟩
theorem TS.chg {F : Nat → Prop} {w' : World} (h : TS w tp M cap S) (hc : Chg F w w') (hf : ¬ F tp ∧ ¬ F M) : TS w' tp M cap S := by obtain ⟨g, L, h⟩ := h; exact ⟨g, L, h.chg hc hf⟩
theorem TS.lt (h : TS w tp M cap S) : tp < w.heap.size ∧ M < w.heap.size := by obtain ⟨g, L, h⟩ := h; exact h.lt
theorem TS.sf (h : TS w tp M cap S) : SF S := by obtain ⟨g, L, h⟩ := h; exact h.ro.sf
theorem TS.ok (h : TS w tp M cap S) : ∀ f ∈ S, FOk f := by obtain ⟨g, L, h⟩ := h; exact h.ro.ok
theorem TB.c0 (h : TB w tp M cap S g L) : w.cell? ⟨tp, 0, none⟩ = some (.int .i64 cap) := by simp [World.cell?, h.obj, tcs]
theorem TB.c1 (h : TB w tp M cap S g L) : w.cell? ⟨tp, 1, none⟩ = some (.map (some M)) := by simp [World.cell?, h.obj, tcs]
theorem TB.fz (h : TB w tp M cap S g L) (o : Nat) : w.frozen? ⟨tp, o, none⟩ = false := by simp [World.frozen?, h.obj]
theorem tcs_at {r : Nat} (hr : r ≤ 32) : (tcs cap M g)[2 + r * 2]? = some (.int .i64 (g r).1) ∧ (tcs cap M g)[2 + r * 2 + 1]? = some (.int .i64 (g r).2) := by
  obtain ⟨a, b⟩ := ics_at g 33 r (by omega)
  unfold tcs
  constructor
  · rw [List.getElem?_append_right (by simp), show 2 + r * 2 - [Value.int .i64 cap, .map (some M)].length = r * 2 by simp]; exact a
  · rw [List.getElem?_append_right (by simp; omega), show 2 + r * 2 + 1 - [Value.int .i64 cap, .map (some M)].length = r * 2 + 1 by simp; omega]; exact b
theorem TB.cr (h : TB w tp M cap S g L) {r : Nat} (hr : r ≤ 32) : w.cell? ⟨tp, 2 + r * 2, none⟩ = some (.int .i64 (g r).1) ∧ w.cell? ⟨tp, 2 + r * 2 + 1, none⟩ = some (.int .i64 (g r).2) := by
  obtain ⟨a, b⟩ := tcs_at (cap := cap) (M := M) (g := g) hr
  simp only [World.cell?, h.obj, List.getElem?_toArray]
  exact ⟨a, b⟩
theorem TB.g1 (h : TB w tp M cap S g L) {r : Nat} (hr : r ≤ 32) : (g r).1 = cnt S r := h.ro.flo r hr
theorem TB.find (h : TB w tp M cap S g L) {k : Int} (hk : J64 k) (c : Bool) : (Instr.lookup 124 (.map (some M)) (.int .i64 k) c).run Try.prog w =
    .ok (if c then .tuple #[((fndF S k).map fval).getD (fval fzero), .bool (fndF S k).isSome] else ((fndF S k).map fval).getD (fval fzero)) w := by
  have hz : (zeroValue 114).run Try.prog w = .ok (fval fzero) w := Try.zeroValue114 w
  have := h.map.look key64 Try.underlying124 hz (x := k) hk c
  rw [h.look, show (((fndF S k).map fval).isSome) = (fndF S k).isSome by simp] at this
  exact this
end
/-- A new block that holds a framework, later on. -/
theorem new_fr {w w1 : World} {f : Fr} {t : TypeId} (hb : Below (w.alloc (.cells #[.int .i64 f.id, .int .i64 f.role, .int .i64 f.weight, .bool f.up, .bool f.quiet, .int .i64 f.time, .int .i64 f.til] t)).heap.size (w.alloc (.cells #[.int .i64 f.id, .int .i64 f.role, .int .i64 f.weight, .bool f.up, .bool f.quiet, .int .i64 f.time, .int .i64 f.til] t)) w1) :
    (w1.cell? ⟨w.heap.size, 0, none⟩ = some (.int .i64 f.id) ∧ w1.cell? ⟨w.heap.size, 1, none⟩ = some (.int .i64 f.role) ∧ w1.cell? ⟨w.heap.size, 2, none⟩ = some (.int .i64 f.weight) ∧ w1.cell? ⟨w.heap.size, 3, none⟩ = some (.bool f.up) ∧
      w1.cell? ⟨w.heap.size, 4, none⟩ = some (.bool f.quiet) ∧ w1.cell? ⟨w.heap.size, 5, none⟩ = some (.int .i64 f.time) ∧ w1.cell? ⟨w.heap.size, 6, none⟩ = some (.int .i64 f.til)) ∧
    (w1.frozen? ⟨w.heap.size, 0, none⟩ = false ∧ w1.frozen? ⟨w.heap.size, 1, none⟩ = false ∧ w1.frozen? ⟨w.heap.size, 2, none⟩ = false ∧ w1.frozen? ⟨w.heap.size, 3, none⟩ = false ∧ w1.frozen? ⟨w.heap.size, 4, none⟩ = false ∧
      w1.frozen? ⟨w.heap.size, 5, none⟩ = false ∧ w1.frozen? ⟨w.heap.size, 6, none⟩ = false) ∧ w.heap.size < w1.heap.size ∧ Below w.heap.size w w1 := by
  have h0 := (hb.block _ (by simp)).trans (heap_alloc_new w _)
  refine ⟨by simp [World.cell?, h0], by simp [World.frozen?, h0], ?_, bt (ba (Below.refl _ _) _) hb⟩
  have := hb.size; simp at this; omega
theorem bset7 {n : Nat} {w w1 : World} {b : Nat} (h : Below n w w1) (hb : n ≤ b) (x : Fr) : Below n w (((((((w1.setCell ⟨b, 0, none⟩ (.int .i64 x.id)).setCell ⟨b, 1, none⟩ (.int .i64 x.role)).setCell ⟨b, 2, none⟩ (.int .i64 x.weight)).setCell ⟨b, 3, none⟩ (.bool x.up)).setCell ⟨b, 4, none⟩ (.bool x.quiet)).setCell ⟨b, 5, none⟩ (.int .i64 x.time)).setCell ⟨b, 6, none⟩ (.int .i64 x.til)) :=
  bs (bs (bs (bs (bs (bs (bs h hb _) hb _) hb _) hb _) hb _) hb _) hb _
/-- A block that holds a framework. -/
def FB (w : World) (b : Nat) (f : Fr) : Prop := w.heap[b]? = some (.cells #[.int .i64 f.id, .int .i64 f.role, .int .i64 f.weight, .bool f.up, .bool f.quiet, .int .i64 f.time, .int .i64 f.til] 114 (0, 0))
theorem FB.made (w : World) (f : Fr) : FB (w.alloc (.cells #[.int .i64 f.id, .int .i64 f.role, .int .i64 f.weight, .bool f.up, .bool f.quiet, .int .i64 f.time, .int .i64 f.til] 114)) w.heap.size f := heap_alloc_new w _
theorem FB.alloc {w : World} {b : Nat} {f : Fr} (h : FB w b f) (o : Obj) : FB (w.alloc o) b f := (heap_alloc_old w o (Array.getElem?_eq_some_iff.1 h).1).trans h
theorem FB.below {w w' : World} {b : Nat} {f : Fr} (h : FB w b f) (hb : Below w.heap.size w w') : FB w' b f := (hb.block _ (Array.getElem?_eq_some_iff.1 h).1).trans h
theorem FB.chg {F : Nat → Prop} {w w' : World} {b : Nat} {f : Fr} (h : FB w b f) (hb : Chg F w w') (hf : ¬ F b) : FB w' b f := (hb.block _ (Array.getElem?_eq_some_iff.1 h).1 hf).trans h
theorem FB.set {w : World} {b : Nat} {f : Fr} (h : FB w b f) (x : Fr) : FB (((((((w.setCell ⟨b, 0, none⟩ (.int .i64 x.id)).setCell ⟨b, 1, none⟩ (.int .i64 x.role)).setCell ⟨b, 2, none⟩ (.int .i64 x.weight)).setCell ⟨b, 3, none⟩ (.bool x.up)).setCell ⟨b, 4, none⟩ (.bool x.quiet)).setCell ⟨b, 5, none⟩ (.int .i64 x.time)).setCell ⟨b, 6, none⟩ (.int .i64 x.til)) b x := by
  have := heap_setCell_at (o := 6) (.int .i64 x.til) (heap_setCell_at (o := 5) (.int .i64 x.time) (heap_setCell_at (o := 4) (.bool x.quiet) (heap_setCell_at (o := 3) (.bool x.up) (heap_setCell_at (o := 2) (.int .i64 x.weight) (heap_setCell_at (o := 1) (.int .i64 x.role) (heap_setCell_at (o := 0) (.int .i64 x.id) h))))))
  unfold FB
  rw [this]
  simp
theorem FB.cells {w : World} {b : Nat} {f : Fr} (h : FB w b f) : w.cell? ⟨b, 0, none⟩ = some (.int .i64 f.id) ∧ w.cell? ⟨b, 1, none⟩ = some (.int .i64 f.role) ∧ w.cell? ⟨b, 2, none⟩ = some (.int .i64 f.weight) ∧ w.cell? ⟨b, 3, none⟩ = some (.bool f.up) ∧
    w.cell? ⟨b, 4, none⟩ = some (.bool f.quiet) ∧ w.cell? ⟨b, 5, none⟩ = some (.int .i64 f.time) ∧ w.cell? ⟨b, 6, none⟩ = some (.int .i64 f.til) := by
  unfold FB at h
  simp [World.cell?, h]
theorem FB.fz {w : World} {b : Nat} {f : Fr} (h : FB w b f) (o : Nat) : w.frozen? ⟨b, o, none⟩ = false := by
  unfold FB at h
  simp [World.frozen?, h]
theorem FB.load {w : World} {b : Nat} {f : Fr} (h : FB w b f) : (loadVar 114 ⟨b, 0, none⟩).run Try.prog w = .ok (fval f) w := by
  obtain ⟨x0, x1, x2, x3, x4, x5, x6⟩ := h.cells
  simp [go_sem, x0, x1, x2, x3, x4, x5, x6]
theorem res_fr {fn : Func} {tmps : Array Value} {w : World} {p u b : Nat} {f : Fr} (h : fn.results = #[.cell p 114, .tmp u]) (hp : tmps.getD p undef = .pointer (some ⟨b, 0, none⟩)) (hb : FB w b f) :
    (results fn tmps).run Try.prog w = .ok (.tuple #[fval f, tmps.getD u undef]) w := by
  rw [results_cell_tmp h, hp]
  simp [asAddr, Result.andThen, hb.load]
section
variable {w : World} {tp M : Nat} {cap : Int} {S : List Fr}
set_option maxRecDepth 100000 in
theorem fmade (h : TS w tp M cap S) : Calls Try.prog 101 #[ptr tp] w fun e w' => e = .returned (.bool true) ∧ Below w.heap.size w w' := by
  obtain ⟨g, L, h⟩ := h
  have c1 := h.c1
  have hmn := fun w : World => Go.run_neq_map_nil (P := Try.prog) w 124 _ _ (some M) Try.underlying124
  clear h
  go_enter Try.func101, Try.ntmps101
  go_wp2
  go_ret
  exact ⟨rfl, Below.refl _ _⟩
theorem fright (r : Int) : Pure Try.prog 103 #[.int .i64 r] (.bool (decide (1 ≤ r) && decide (r ≤ 32))) := by
  intro w
  cases h1 : decide (1 ≤ r) with
  | true =>
    have h1' : (1 : Int) ≤ r := by simpa using h1
    go_enter Try.func103, Try.ntmps103
    go_wp2
    go_ret
    exact ⟨by simp, Below.refl _ _⟩
  | false =>
    have h1' : ¬ (1 : Int) ≤ r := by simpa using h1
    go_enter Try.func103, Try.ntmps103
    go_wp2
    go_ret
    exact ⟨by simp, Below.refl _ _⟩
/-- What find answers. -/
def findA (S : List Fr) (k : Int) : Value := match fndF S k with | some f => .tuple #[fval f, .int .i64 0] | none => .tuple #[fval fzero, .int .i64 43]
set_option maxRecDepth 100000 in
theorem ffind (h : TS w tp M cap S) {k : Int} (hk : J64 k) : Calls Try.prog 102 #[ptr tp, .int .i64 k] w fun e w' => e = .returned (findA S k) ∧ Below w.heap.size w w' := by
  have H := Lib.hid h
  have hs0 := h.lt
  clear h
  go_enter Try.func102, Try.ntmps102
  go_wp2_with fail
  refine (fmade (H.out.below (by (repeat (first | assumption | exact Below.refl _ _ | refine ba ?_ _ | refine bd ?_ | refine bdn ?_ _ | refine bs ?_ (by first | omega | (simp; done) | (simp; omega)) _ | refine bt ?_ (by assumption)))))).mono ?_
  rintro e w1 ⟨rfl, hb1⟩
  obtain ⟨⟨y0, y1, y2, y3, y4, y5, y6⟩, ⟨z0, z1, z2, z3, z4, z5, z6⟩, hs1, hbb⟩ := new_fr (f := fzero) hb1
  have HBB := Lib.hid hbb
  have HFB := Lib.hid ((FB.made w fzero).below hb1)
  obtain ⟨g, L, H1⟩ := (H.out.below (by (repeat (first | assumption | exact Below.refl _ _ | refine ba ?_ _ | refine bd ?_ | refine bdn ?_ _ | refine bs ?_ (by first | omega | (simp; done) | (simp; omega)) _ | refine bt ?_ (by assumption))))).below hb1
  have c1 := H1.c1
  have hl := H1.lt.1
  have hlook := H1.find hk true
  clear H1 hb1 hbb
  cases hf : fndF S k with
  | some f =>
    rw [hf] at hlook
    replace hlook := hlook.trans (show _ = .ok (.tuple #[fval f, .bool true]) w1 from rfl)
    go_wp2
    refine bodyPost_ret (v := .tuple #[fval f, .int .i64 0]) ?_ rfl ⟨by unfold findA; rw [hf], ?_⟩
    · have hX := (HFB.out.set f).alloc (.cells #[.int .i64 f.id, .int .i64 f.role, .int .i64 f.weight, .bool f.up, .bool f.quiet, .int .i64 f.time, .int .i64 f.til] 114)
      rw [results_cell_tmp Try.results102]
      simp [asAddr, Result.andThen, hX.load]
    exact ba (bset7 HBB.out (Nat.le_refl _) f) _
  | none =>
    rw [hf] at hlook
    replace hlook := hlook.trans (show _ = .ok (.tuple #[fval fzero, .bool false]) w1 from rfl)
    go_wp2
    refine bodyPost_ret (v := .tuple #[fval fzero, .int .i64 43]) ?_ rfl ⟨by unfold findA; rw [hf], ?_⟩
    · have hX := (HFB.out.set fzero).alloc (.cells #[.int .i64 fzero.id, .int .i64 fzero.role, .int .i64 fzero.weight, .bool fzero.up, .bool fzero.quiet, .int .i64 fzero.time, .int .i64 fzero.til] 114)
      rw [results_cell_tmp Try.results102]
      simp [asAddr, Result.andThen, hX.load]
    exact ba (bset7 HBB.out (Nat.le_refl _) fzero) _
/-- What Get answers. -/
def getA (S : List Fr) (k : Int) : Value := match fndF S k with | some f => .tuple #[fval f, .bool true] | none => .tuple #[fval fzero, .bool false]
set_option maxRecDepth 100000 in
theorem fget (h : TS w tp M cap S) {k : Int} (hk : J64 k) : Calls Try.prog 59 #[ptr tp, .int .i64 k] w fun e w' => e = .returned (getA S k) ∧ Below w.heap.size w w' := by
  have H := Lib.hid h
  clear h
  go_enter Try.func59, Try.ntmps59
  go_wp2_with fail
  refine (ffind (H.out.below (by (repeat (first | assumption | exact Below.refl _ _ | refine ba ?_ _ | refine bd ?_ | refine bdn ?_ _ | refine bs ?_ (by first | omega | (simp; done) | (simp; omega)) _ | refine bt ?_ (by assumption))))) hk).mono ?_
  rintro e w1 ⟨rfl, hb1⟩
  obtain ⟨⟨y0, y1, y2, y3, y4, y5, y6⟩, ⟨z0, z1, z2, z3, z4, z5, z6⟩, hs1, hbb⟩ := new_fr (f := fzero) hb1
  have HBB := Lib.hid hbb
  have HFB := Lib.hid ((FB.made w fzero).below hb1)
  clear hb1 hbb
  cases hf : fndF S k with
  | some f =>
    rw [show findA S k = .tuple #[fval f, .int .i64 0] by unfold findA; rw [hf]]
    go_wp2
    refine bodyPost_ret (v := .tuple #[fval f, .bool true]) ?_ rfl ⟨by unfold getA; rw [hf], ?_⟩
    · have hX := (HFB.out.set f).alloc (.cells #[.int .i64 f.id, .int .i64 f.role, .int .i64 f.weight, .bool f.up, .bool f.quiet, .int .i64 f.time, .int .i64 f.til] 114)
      rw [results_cell_tmp Try.results59]
      simp [asAddr, Result.andThen, hX.load]
    exact ba (bset7 HBB.out (Nat.le_refl _) f) _
  | none =>
    rw [show findA S k = .tuple #[fval fzero, .int .i64 43] by unfold findA; rw [hf]]
    go_wp2
    refine bodyPost_ret (v := .tuple #[fval fzero, .bool false]) ?_ rfl ⟨by unfold getA; rw [hf], ?_⟩
    · have hX := (HFB.out.set fzero).alloc (.cells #[.int .i64 fzero.id, .int .i64 fzero.role, .int .i64 fzero.weight, .bool fzero.up, .bool fzero.quiet, .int .i64 fzero.time, .int .i64 fzero.til] 114)
      rw [results_cell_tmp Try.results59]
      simp [asAddr, Result.andThen, hX.load]
    exact ba (bset7 HBB.out (Nat.le_refl _) fzero) _
set_option maxRecDepth 100000 in
theorem flong (h : TS w tp M cap S) : Calls Try.prog 58 #[ptr tp] w fun e w' => e = .returned (.int .i64 S.length) ∧ Below w.heap.size w w' := by
  have H := Lib.hid h
  clear h
  go_enter Try.func58, Try.ntmps58
  go_wp2_with fail
  refine (fmade H.out).mono ?_
  rintro e w1 ⟨rfl, hb1⟩
  obtain ⟨g, L, H1⟩ := H.out.below hb1
  have c1 := H1.c1
  have hl := H1.lt.1
  have hlen := H1.map.len Try.underlying124 3
  rw [H1.len] at hlen
  have HB1 := Lib.hid hb1
  clear H1 hb1
  go_wp2
  go_ret
  exact ⟨rfl, HB1.out⟩
/-- What Weight answers. -/
def wtA (S : List Fr) (r : Int) : Value := .tuple #[.int .i64 (wtF S r), .bool (decide (0 < wtF S r))]
theorem wtF_none {S : List Fr} (h : ∀ f ∈ S, FOk f) {r : Int} (hr : ¬ (1 ≤ r ∧ r ≤ 32)) : wtF S r = 0 := by
  unfold wtF
  cases hf : S.find? (fun f => decide (f.role = r)) with
  | none => rfl
  | some f =>
    have h1 := h f (List.mem_of_find?_eq_some hf)
    have h2 := List.find?_some hf
    simp only [decide_eq_true_eq] at h2
    exact absurd ⟨by have := h1.r0; omega, by have := h1.r1; omega⟩ hr
theorem TB.wt0 {g : Nat → It} {L : List (Int × Value)} (h : TB w tp M cap S g L) {r : Nat} (hr : r ≤ 32) : wtF S r = if 0 < (g r).1 then (g r).2 else 0 := h.ro.wtF hr
theorem TB.wpos {g : Nat → It} {L : List (Int × Value)} (h : TB w tp M cap S g L) {r : Nat} (hr : r ≤ 32) (hp : 0 < (g r).1) : 0 < (g r).2 := by
  have h1 := h.g1 hr
  have : 0 < cnt S r := by omega
  unfold cnt at this
  obtain ⟨f, hf, hfr⟩ := List.countP_pos_iff.1 this
  simp only [decide_eq_true_eq] at hfr
  rw [h.ro.fwt f hf r hfr]
  have := (h.ro.ok f hf).w0; omega
set_option maxRecDepth 100000 in
theorem fweight (h : TS w tp M cap S) (r : Int) : Calls Try.prog 61 #[ptr tp, .int .i64 r] w fun e w' => e = .returned (wtA S r) ∧ Below w.heap.size w w' := by
  have H := Lib.hid h
  have HR := Lib.hid (fright r)
  by_cases hr : 1 ≤ r ∧ r ≤ 32
  · have e1 : (decide (1 ≤ r) && decide (r ≤ 32)) = true := by simp [hr.1, hr.2]
    rw [e1] at HR
    obtain ⟨r', rfl⟩ : ∃ r' : Nat, r = r' := ⟨r.toNat, by omega⟩
    have hr32 : r' ≤ 32 := by omega
    clear e1 h
    go_enter Try.func61, Try.ntmps61
    go_wp2_with fail
    refine (fmade H.out).mono ?_
    rintro e w1 ⟨rfl, hb1⟩
    have HB1 := Lib.hid hb1
    clear hb1
    go_wp2_with fail
    refine (HR.out w1).mono ?_
    rintro e w2 ⟨rfl, hb2⟩
    obtain ⟨g, L, H2⟩ := (H.out.below HB1.out).below hb2
    have HB2 := Lib.hid (bt HB1.out hb2)
    obtain ⟨d0, d1⟩ := H2.cr hr32
    have hl := H2.lt.1
    have hw := H2.wt0 hr32
    have hg1 := H2.g1 hr32
    have hidx : (r' : Int) < 33 := by omega
    have hwp := H2.wpos hr32
    clear hb2
    by_cases hp : 0 < (g r').1
    · rw [if_pos hp] at hw
      have hne : ((g r').1 == 0) = false := by simp; omega
      replace hwp := hwp hp
      have HW := Lib.hid hw
      clear hw H2
      generalize (g r').1 = x at *
      generalize (g r').2 = y at *
      go_wp2
      go_ret2
      exact ⟨by unfold wtA; rw [HW.out, decide_eq_true hwp]; rfl, HB2.out⟩
    · rw [if_neg hp] at hw
      have hne : (g r').1 = 0 := by omega
      rw [hne] at d0
      have HW := Lib.hid hw
      clear hw H2 hwp
      go_wp2
      go_ret2
      exact ⟨by unfold wtA; rw [HW.out]; rfl, HB2.out⟩
  · have e1 : (decide (1 ≤ r) && decide (r ≤ 32)) = false := by
      rw [Bool.and_eq_false_iff]
      by_cases h1 : 1 ≤ r
      · exact .inr (decide_eq_false fun h2 => hr ⟨h1, h2⟩)
      · exact .inl (decide_eq_false h1)
    rw [e1] at HR
    have HW := Lib.hid (wtF_none h.ok hr)
    clear e1 h hr
    go_enter Try.func61, Try.ntmps61
    go_wp2_with fail
    refine (fmade H.out).mono ?_
    rintro e w1 ⟨rfl, hb1⟩
    have HB1 := Lib.hid hb1
    clear hb1
    go_wp2_with fail
    refine (HR.out w1).mono ?_
    rintro e w2 ⟨rfl, hb2⟩
    have HB2 := Lib.hid (bt HB1.out hb2)
    clear hb2
    go_wp2
    go_ret2
    exact ⟨by unfold wtA; rw [HW.out]; rfl, HB2.out⟩
end
end Go.Proofs.Ytajcelmnblncaaa

/- life: closes, ends, concernOf, some, present, fits. -/
import Derived.Test.YtennhfkhdfalfaaLf0
import Derived.Laws.ResultCell
import Derived.RegionTactic
namespace Go.Proofs.Ytennhfkhdfalfaa
open Go.RowKit Go.Maps
attribute [local go_sem] ext_cell ext_frozen extC_cell extC_frozen Mix.calmUpon Mix.mUpon
/-- Block b holds the event e. -/
def EB (w : World) (b : Nat) (e : Ev) : Prop := w.heap[b]? = some (.cells #[.int .i64 e.kind, .int .i64 e.frame, .int .i64 e.id, .int .i64 e.agent, e.vv] 103 (0, 0))
section
variable {w w' : World} {b : Nat} {e : Ev}
theorem EB.made (w : World) (e : Ev) : EB (w.alloc (.cells #[.int .i64 e.kind, .int .i64 e.frame, .int .i64 e.id, .int .i64 e.agent, e.vv] 103)) w.heap.size e := heap_alloc_new w _
theorem EB.lt (h : EB w b e) : b < w.heap.size := (Array.getElem?_eq_some_iff.1 h).1
theorem EB.chg {F : Nat → Prop} (h : EB w b e) (hc : Chg F w w') (hf : ¬ F b) : EB w' b e := (hc.block b h.lt hf).trans h
theorem EB.below (h : EB w b e) (hb : Below w.heap.size w w') : EB w' b e := (hb.block b h.lt).trans h
theorem EB.cells (h : EB w b e) : w.cell? ⟨b, 0, none⟩ = some (.int .i64 e.kind) ∧ w.cell? ⟨b, 1, none⟩ = some (.int .i64 e.frame) ∧ w.cell? ⟨b, 2, none⟩ = some (.int .i64 e.id) ∧ w.cell? ⟨b, 3, none⟩ = some (.int .i64 e.agent) ∧ w.cell? ⟨b, 4, none⟩ = some e.vv := by
  unfold EB at h; simp [World.cell?, h]
end
theorem closes_any (k : Int) (w : World) : Calls Try.prog 96 #[.int .i64 k] w fun r w' => r = .returned (.bool (cloK k)) ∧ w' = w := by
  have HQ := Lib.hid (show cloK k = decide (7 ≤ k ∧ k ≤ 12) from rfl)
  generalize cloK k = q at *
  go_enter Try.func96, Try.ntmps96
  by_cases h1 : 7 ≤ k
  · by_cases h2 : k ≤ 12
    · go_wp2
      go_ret
      exact ⟨by rw [HQ.out]; simp [h1, h2], rfl⟩
    · go_wp2
      go_ret
      exact ⟨by rw [HQ.out]; simp [h1, h2], rfl⟩
  · go_wp2
    go_ret
    exact ⟨by rw [HQ.out]; simp; omega, rfl⟩
theorem ends_any (k : Int) (w : World) : Calls Try.prog 98 #[.int .i64 k] w fun r w' => r = .returned (.bool (endK k)) ∧ w' = w := by
  have HQ := Lib.hid (show endK k = decide (14 ≤ k ∧ k ≤ 17) from rfl)
  generalize endK k = q at *
  go_enter Try.func98, Try.ntmps98
  by_cases h1 : 14 ≤ k
  · by_cases h2 : k ≤ 17
    · go_wp2
      go_ret
      exact ⟨by rw [HQ.out]; simp [h1, h2], rfl⟩
    · go_wp2
      go_ret
      exact ⟨by rw [HQ.out]; simp [h1, h2], rfl⟩
  · go_wp2
    go_ret
    exact ⟨by rw [HQ.out]; simp; omega, rfl⟩
abbrev cval (e : Ev) : Value := .agg #[.int .i64 e.frame, .int .i64 e.id, .int .i64 e.agent]
set_option maxRecDepth 100000 in
theorem concern_any {W : World} (e : Ev) (he : Vc W e.vv e.ps) (w : World) : Calls Try.prog 159 #[evval e] w fun r w' => r = .returned (cval e) ∧ Below w.heap.size w w' := by
  obtain ⟨va, vc, hvv, -, -⟩ := he.form
  obtain ⟨k, f, i, a, vv, ps⟩ := e
  simp only at hvv
  subst hvv
  clear he
  generalize ps.length = n
  go_enter Try.func159, Try.ntmps159
  go_wp2
  refine bodyPost_ret (v := .agg #[.int .i64 f, .int .i64 i, .int .i64 a]) (by simp [results, Try.results159, go_sem, *]) rfl ⟨rfl, ?_⟩
  (repeat (first | assumption | exact Below.refl _ _ | refine ba ?_ _ | refine bd ?_ | refine bdn ?_ _ | refine bs ?_ (by first | omega | (simp; done) | (simp; omega)) _ | refine bt ?_ (by assumption)))
theorem some_v (v : Value) (l : List Pt) : PureOn (fun w => Vc w v l) Try.prog 158 #[v] (.bool (somV l)) := by
  intro W hV
  have HR := Lib.hid (vecright_all v l W hV)
  have HQ := Lib.hid (show somV l = (decide (0 < l.length) && decide (VR l)) from rfl)
  obtain ⟨va, vc, rfl, -, -⟩ := hV.form
  clear hV
  generalize somV l = q at *
  generalize decide (VR l) = r at *
  generalize l.length = n at *
  by_cases hn : 0 < n
  · have hnI : 0 < (n : Int) := by omega
    go_enter Try.func158, Try.ntmps158
    go_wp2_with fail
    refine HR.out.mono ?_
    rintro e w1 ⟨rfl, hb1⟩
    go_wp2
    go_ret
    exact ⟨by rw [HQ.out]; simp [hn], hb1⟩
  · have hn0 : n = 0 := by omega
    subst hn0
    go_enter Try.func158, Try.ntmps158
    go_wp2
    go_ret
    exact ⟨by rw [HQ.out]; rfl, Below.refl _ _⟩
theorem field_fm (u : Bool) (o t : Int) (w : World) : (Instr.field 202 (.agg #[.bool u, .int .i64 o, .int .i64 t]) 0).run Try.prog w = .ok (.bool u) w := by kernel_rfl
attribute [local go_sem] field_fm
section
variable {W w : World} {hp A F O T : Nat} {s : HS}
set_option maxRecDepth 100000 in
theorem hpresent (h : HT W w hp A F O T s) (e : Ev) (he : EIn W e) : Calls Try.prog 132 #[ptr hp, evval e] w fun r w' => r = .returned (.bool (prs s e)) ∧ Below w.heap.size w w' := by
  obtain ⟨q, hq⟩ : ∃ q, q = prs s e := ⟨_, rfl⟩
  rw [← hq]
  have HQ := Lib.hid hq
  clear hq
  obtain ⟨va, vc, hvv, -, -⟩ := he.vc.form
  have HE := Lib.hid he
  obtain ⟨k, f, i, a, vv, ps⟩ := e
  simp only at hvv
  subst hvv
  clear he
  obtain ⟨n, hn⟩ : ∃ n, n = ps.length := ⟨_, rfl⟩
  have HN := Lib.hid hn
  rw [← hn]
  rw [← hn] at HE
  clear hn
  have hb := ba (Below.refl w.heap.size w) (.cells #[.int .i64 k, .int .i64 f, .int .i64 i, .int .i64 a, .slice va n vc] 103)
  have HB := Lib.hid hb
  have HX := Lib.hid (EB.made w ⟨k, f, i, a, .slice va n vc, ps⟩)
  have H1 := Lib.hid (h.below hb)
  clear hb h
  obtain ⟨x0, x1, x2, x3, x4⟩ := HX.out.cells
  have xl := HX.out.lt
  obtain ⟨c0, c1, c2, c3, c4⟩ := H1.out.cells
  have hl := H1.out.lt.1
  simp only at x0 x1 x2 x3 x4
  have la := (H1.out.below (bd (Below.refl _ _))).lookA HE.out.ag true
  generalize hx : (s.fr f).getD fm0 = x at *
  have HXX := Lib.hid hx
  clear hx
  cases hag : s.ag a with
  | none =>
    rw [hag] at la
    replace la := la.trans (show _ = .ok (.tuple #[.int .i64 0, .bool false]) _ from rfl)
    have HAG := Lib.hid hag
    clear hag
    go_enter Try.func132, Try.ntmps132
    go_wp2
    go_region
    have H2 := Lib.hid (H1.out.below (bd (Below.refl _ _)))
    have HX2 := Lib.hid (HX.out.below (bd (Below.refl _ _)))
    have HB2 := Lib.hid (bd HB.out)
    clear x0 x1 x2 x3 x4 xl c0 c1 c2 c3 c4 hl la
    generalize ((w.alloc (.cells #[.int .i64 k, .int .i64 f, .int .i64 i, .int .i64 a, .slice va n vc] 103))).drew = w2 at *
    obtain ⟨x0, x1, x2, x3, x4⟩ := HX2.out.cells
    have xl := HX2.out.lt
    obtain ⟨c0, c1, c2, c3, c4⟩ := H2.out.cells
    have hl := H2.out.lt.1
    simp only at x0 x1 x2 x3 x4
    go_wp2
    go_region
    go_wp2
    go_ret
    exact ⟨by rw [HQ.out]; unfold prs; simp only; rw [HAG.out]; rfl, bd HB2.out⟩
  | some m =>
    rw [hag] at la
    replace la := la.trans (show _ = .ok (.tuple #[.int .i64 m, .bool true]) _ from rfl)
    have HAG := Lib.hid hag
    clear hag
    obtain ⟨xu, xo, xt⟩ := x
    go_enter Try.func132, Try.ntmps132
    go_wp2
    go_region
    have H2 := Lib.hid (H1.out.below (bd (Below.refl _ _)))
    have HX2 := Lib.hid (HX.out.below (bd (Below.refl _ _)))
    have HB2 := Lib.hid (bd HB.out)
    clear x0 x1 x2 x3 x4 xl c0 c1 c2 c3 c4 hl la
    generalize ((w.alloc (.cells #[.int .i64 k, .int .i64 f, .int .i64 i, .int .i64 a, .slice va n vc] 103))).drew = w2 at *
    obtain ⟨x0, x1, x2, x3, x4⟩ := HX2.out.cells
    have xl := HX2.out.lt
    obtain ⟨c0, c1, c2, c3, c4⟩ := H2.out.cells
    have hl := H2.out.lt.1
    simp only at x0 x1 x2 x3 x4
    have lf := (H2.out.below (bd (Below.refl _ _))).lookF HE.out.fr false
    simp only [HXX.out] at lf
    replace lf := lf.trans (show _ = .ok (.agg #[.bool xu, .int .i64 xo, .int .i64 xt]) _ from rfl)
    go_wp2
    go_region
    go_wp2
    go_ret
    exact ⟨by rw [HQ.out]; unfold prs; simp only; rw [HAG.out, HXX.out]; rfl, bd HB2.out⟩
end
end Go.Proofs.Ytennhfkhdfalfaa

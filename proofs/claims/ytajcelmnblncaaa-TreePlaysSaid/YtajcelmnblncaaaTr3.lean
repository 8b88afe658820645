/- tree: compare, with its deferred closure. -/
import Derived.Test.YtajcelmnblncaaaTr2
import Derived.Defers
import Derived.Recover
namespace Go.Proofs.Ytajcelmnblncaaa
open Go.RowKit
attribute [local go_sem] ext_cell ext_frozen extC_cell extC_frozen Mix.calmUpon Mix.mUpon
theorem cell_hd {w : World} {b : Nat} {c : Array Value} {e : TypeId} {fz : Nat × Nat} (h : w.heap[b]? = some (.cells c e fz)) (i : Nat) : w.cell? ⟨b, i, none⟩ = c[i]? := by simp [World.cell?, h]
/-- A function value that orders the numbers of J, in the worlds of C; tp is the tree that holds it. -/
structure OV (tp fn : Nat) (caps : Array Value) (C : World → Prop) (J : Int → Prop) (o : Int → Int → Int) : Prop where
  ord : OA J o
  cf : ∀ (a b : Int) (w : World), (callFunc fn (#[.int .i64 a, .int .i64 b] ++ caps)).run Try.prog w = .ok (.enter fn (#[.int .i64 a, .int .i64 b] ++ caps)) w
  call : ∀ (w : World) (a b : Int), C w → J a → J b → Calls Try.prog fn (#[.int .i64 a, .int .i64 b] ++ caps) w fun e w' => e = .returned (.int .i64 (o a b)) ∧ Below w.heap.size w w'
  clo : ∀ w w', C w → Chg (fun b => b = tp) w w' → C w'
theorem OV.on {tp fn : Nat} {caps : Array Value} {C : World → Prop} {J : Int → Prop} {o : Int → Int → Int} (h : OV tp fn caps C J o) {w w' : World} (hc : C w) (hb : Below w.heap.size w w') : C w' := h.clo w w' hc (.of_below _ hb)
/-- The tree's own block. -/
def TO (w : World) (tp fn : Nat) (caps : Array Value) (rv : Value) : Prop := w.heap[tp]? = some (.cells #[.func (.func fn) #[] caps, rv] 45 (0, 0))
theorem TO.lt {w : World} {tp fn : Nat} {caps : Array Value} {rv : Value} (h : TO w tp fn caps rv) : tp < w.heap.size := (Array.getElem?_eq_some_iff.1 h).1
theorem TO.below {w w' : World} {tp fn : Nat} {caps : Array Value} {rv : Value} (h : TO w tp fn caps rv) (hb : Below w.heap.size w w') : TO w' tp fn caps rv := (hb.block _ h.lt).trans h
theorem TO.cells {w : World} {tp fn : Nat} {caps : Array Value} {rv : Value} (h : TO w tp fn caps rv) : w.cell? ⟨tp, 0, none⟩ = some (.func (.func fn) #[] caps) ∧ w.cell? ⟨tp, 1, none⟩ = some rv := by
  unfold TO at h; simp [World.cell?, h]
theorem catch_idle (p : Addr) (w : World) :
    CallsD Try.prog 110 #[.pointer (some p)] .returning w fun e u' w' => e = .returned (.tuple #[]) ∧ u' = .returning ∧ w' = w := by
  refine callsD_of_wpS Try.func110 rfl fun c₀ cs hu => ?_
  apply wpS_seq
  apply wpS_region
  simp [wpOpsS, go_sem, recoverD, hu, Try.ntmps110, Exit.thenS]
  refine wpS_cond (t := false) (by simp [Act.eval, Array.replicate]) ?_
  simp only [Bool.false_eq_true, if_false]
  refine wpS_of_wp (wp_skip ?_)
  cases c₀
  simp_all [bodyPostS, results, Try.results110]
set_option maxRecDepth 100000 in
theorem compare_t {w : World} {tp fn : Nat} {caps : Array Value} {C : World → Prop} {J : Int → Prop} {o : Int → Int → Int} {rv : Value} (hO : OV tp fn caps C J o) (h : TO w tp fn caps rv) (hC : C w) {a b : Int} (ha : J a) (hb : J b) :
    Calls Try.prog 79 #[.pointer (some ⟨tp, 0, none⟩), .int .i64 a, .int .i64 b] w fun e w' => e = .returned (.int .i64 (o a b)) ∧ Below w.heap.size w w' := by
  have hmf : ∀ (fn : Fn) (first cap : Array Value) (w : World), (Instr.makeFunc fn first cap).run Try.prog w = .ok (.func fn first cap) w := fun _ _ _ _ => rfl
  have hcf := hO.cf a b
  obtain ⟨x0, x1⟩ := h.cells
  have hlt := h.lt
  have HCA := Lib.hid (hO.call _ a b (hO.on hC (ba (Below.refl _ w) (.cells #[.int .i64 0] 3))) ha hb)
  clear h hO hC ha hb x1
  go_enter_defers Try.func79, Try.ntmps79
  go_wp2_with fail
  refine HCA.out.mono ?_
  rintro e w1 ⟨rfl, hb1⟩
  have hs1 : w.heap.size + 1 ≤ w1.heap.size := by have := hb1.size; simp at this; omega
  have hs2 : w.heap.size < w1.heap.size := by omega
  have c0 : w1.cell? ⟨w.heap.size, 0, none⟩ = some (.int .i64 0) := (hb1.cell (p := ⟨w.heap.size, 0, none⟩) (by simp)).trans (cell_hd (heap_alloc_new w _) 0)
  have f0 : w1.frozen? ⟨w.heap.size, 0, none⟩ = false := (hb1.frozen (p := ⟨w.heap.size, 0, none⟩) (by simp)).trans (by simp [go_sem])
  have HBE := Lib.hid (show Below w.heap.size w (w1.setCell ⟨w.heap.size, 0, none⟩ (.int .i64 (o a b))) from bs (bt (ba (Below.refl _ _) _) hb1) (Nat.le_refl _) _)
  clear hb1 x0 hlt hcf
  go_wp2
  refine leaves_cons (f := 110) (args := #[.pointer (some ⟨w.heap.size, 0, none⟩)]) (by simp) (by simp [go_sem]) ?_
  refine (catch_idle ⟨w.heap.size, 0, none⟩ _).mono ?_
  rintro e u' w'' ⟨rfl, rfl, rfl⟩
  simp [Leaves, settle, results, Try.results79, go_sem, c0]
  exact HBE.out
end Go.Proofs.Ytajcelmnblncaaa

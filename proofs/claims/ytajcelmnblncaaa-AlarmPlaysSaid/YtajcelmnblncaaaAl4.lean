/- alarm: keys in order. -/
import Derived.Test.YtajcelmnblncaaaAl3
import Derived.Test.YtajcelmnblncaaaMixD
import Derived.Test.YtajcelmnblncaaaSortG
import Derived.Test.YtajcelmnblncaaaLib
namespace Go.Proofs.Ytajcelmnblncaaa
open Go.RowKit Go.Maps
attribute [local go_sem] MixD.extD_cell MixD.extD_frozen MixD.calmUpon MixD.mUpon
abbrev eenc (x : Rc) : List Value := [.int .i64 x.key.1, .int .i64 x.key.2.1, .int .i64 x.key.2.2, .int .i64 x.at_]
abbrev eval_ (x : Rc) : Value := .agg #[.int .i64 x.key.1, .int .i64 x.key.2.1, .int .i64 x.key.2.2, .int .i64 x.at_]
/-- The first of four that is not zero. -/
def or4 (x : Nat → Int) : Int := if x 0 ≠ 0 then x 0 else if x 1 ≠ 0 then x 1 else if x 2 ≠ 0 then x 2 else x 3
theorem or4_at {x : Nat → Int} {k : Nat} (hk : k < 4) (h : ∀ j, j < k → x j = 0) (hn : x k ≠ 0) : or4 x = x k := by
  unfold or4
  rcases k with _ | _ | _ | _ | k
  · rw [if_pos hn]
  · rw [if_neg (by simp [h 0 (by omega)]), if_pos hn]
  · rw [if_neg (by simp [h 0 (by omega)]), if_neg (by simp [h 1 (by omega)]), if_pos hn]
  · rw [if_neg (by simp [h 0 (by omega)]), if_neg (by simp [h 1 (by omega)]), if_neg (by simp [h 2 (by omega)])]
  · omega
theorem or4_none {x : Nat → Int} (h : ∀ j, j < 4 → x j = 0) : or4 x = 0 := by
  unfold or4
  rw [if_neg (by simp [h 0 (by omega)]), if_neg (by simp [h 1 (by omega)]), if_neg (by simp [h 2 (by omega)])]
  exact h 3 (by omega)
set_option maxHeartbeats 1000000 in
theorem cmpor {w : World} {q : Nat} (x : Nat → Int) (h : ∀ j, j < 4 → w.cell? ⟨q, j, none⟩ = some (.int .i64 (x j))) : Calls Try.prog 117 #[.slice (some ⟨q, 0, none⟩) 4 4] w fun e w' => e = .returned (.int .i64 (or4 x)) ∧ w' = w := by
  have H := Lib.hid h
  clear h
  go_enter Try.func117, Try.ntmps117
  go_wp2
  go_loop [5, 8] (fun _ u => ∃ k : Nat, u = .int .i64 k ∧ k ≤ 4 ∧ Hid (∀ j, j < k → x j = 0)) (fun _ u => 4 - (intOf u).toNat)
  case atStart => exact ⟨0, rfl, by omega, Lib.hid fun j hj => by omega⟩
  case round =>
    obtain ⟨k, rfl, hk, HZ⟩ := hrel
    by_cases hk4 : k < 4
    · have hc := H.out k hk4
      have hg : decide ((k : Int) < 4) = true := decide_eq_true (by omega)
      by_cases hx : x k = 0
      · rw [hx] at hc
        go_wp2
        go_round
        case rel => exact ⟨k + 1, by go_num, by omega, Lib.hid fun j hj => by
          rcases Nat.lt_succ_iff_lt_or_eq.1 hj with h | rfl
          · exact HZ.out j h
          · exact hx⟩
        case measure => simp [intOf]; omega
      · have HR := Lib.hid (or4_at hk4 HZ.out hx)
        go_wp2
        go_ret
        exact ⟨by rw [HR.out]; rfl, rfl⟩
    · have hg : decide ((k : Int) < 4) = false := decide_eq_false (by omega)
      have HR := Lib.hid (or4_none fun j hj => HZ.out j (by omega))
      go_wp2
      go_ret
      exact ⟨by rw [HR.out]; rfl, rfl⟩
abbrev cmps (x y : Rc) : Nat → Int
  | 0 => Go.Lib.compareInt x.at_ y.at_
  | 1 => Go.Lib.compareInt x.key.1 y.key.1
  | 2 => Go.Lib.compareInt x.key.2.1 y.key.2.1
  | _ => Go.Lib.compareInt x.key.2.2 y.key.2.2
def cmpE (x y : Rc) : Int := or4 (cmps x y)
theorem cmpI_lt (a b : Int) : Go.Lib.compareInt a b < 0 ↔ a < b := by
  unfold Go.Lib.compareInt
  by_cases h1 : a < b
  · simp [h1]
  · by_cases h2 : b < a <;> simp [h1, h2]
theorem cmpI_zero (a b : Int) : Go.Lib.compareInt a b = 0 ↔ a = b := by
  unfold Go.Lib.compareInt
  by_cases h1 : a < b
  · simp [h1]; omega
  · by_cases h2 : b < a <;> simp [h1, h2] <;> omega
open Go.Sort Go.Shelf in
theorem ltE (x y : Rc) : ltOf cmpE x y = ltR x y := by
  rw [Bool.eq_iff_iff, ltR_iff]
  unfold ltOf cmpE or4
  show decide _ = true ↔ _
  rw [decide_eq_true_eq]
  show (if Go.Lib.compareInt x.at_ y.at_ ≠ 0 then Go.Lib.compareInt x.at_ y.at_ else if Go.Lib.compareInt x.key.1 y.key.1 ≠ 0 then Go.Lib.compareInt x.key.1 y.key.1 else if Go.Lib.compareInt x.key.2.1 y.key.2.1 ≠ 0 then Go.Lib.compareInt x.key.2.1 y.key.2.1 else Go.Lib.compareInt x.key.2.2 y.key.2.2) < 0 ↔ _
  by_cases h1 : x.at_ = y.at_
  · rw [if_neg (by simp [cmpI_zero, h1])]
    by_cases h2 : x.key.1 = y.key.1
    · rw [if_neg (by simp [cmpI_zero, h2])]
      by_cases h3 : x.key.2.1 = y.key.2.1
      · rw [if_neg (by simp [cmpI_zero, h3]), cmpI_lt]; omega
      · rw [if_pos (by simp [cmpI_zero, h3]), cmpI_lt]; omega
    · rw [if_pos (by simp [cmpI_zero, h2]), cmpI_lt]; omega
  · rw [if_pos (by simp [cmpI_zero, h1]), cmpI_lt]; omega
open Go.Sort Go.Shelf in
theorem swoE : SWO (ltOf cmpE) where
  irrefl x := by rw [ltE]; exact ordR.irr x
  trans x y z h1 h2 := by rw [ltE] at *; exact ordR.trans _ _ _ h1 h2
  ntrans x y z h1 h2 := by
    rw [ltE] at *
    have n1 : ¬ (ltR x y = true) := by rw [h1]; simp
    have n2 : ¬ (ltR y z = true) := by rw [h2]; simp
    have : ¬ (ltR x z = true) := by
      rw [ltR_iff] at *; omega
    simpa using this
instance : Inhabited Rc := ⟨⟨(0, 0, 0), 0, 0⟩⟩
theorem cell_new (w : World) (c : Array Value) (e : TypeId) (j : Nat) : (w.alloc (.cells c e)).cell? ⟨w.heap.size, j, none⟩ = c[j]? := by
  have h := heap_alloc_new w (.cells c e)
  unfold World.cell?
  dsimp only
  rw [h]
  rfl
/-- A block that holds an entry. -/
def EB (w : World) (b : Nat) (x : Rc) : Prop := w.heap[b]? = some (.cells #[.int .i64 x.key.1, .int .i64 x.key.2.1, .int .i64 x.key.2.2, .int .i64 x.at_] 156 (0, 0))
theorem EB.made (w : World) (x : Rc) : EB (w.alloc (.cells #[.int .i64 x.key.1, .int .i64 x.key.2.1, .int .i64 x.key.2.2, .int .i64 x.at_] 156)) w.heap.size x := heap_alloc_new w _
theorem EB.lt {w : World} {b : Nat} {x : Rc} (h : EB w b x) : b < w.heap.size := (Array.getElem?_eq_some_iff.1 h).1
theorem EB.chg {F : Nat → Prop} {w w' : World} {b : Nat} {x : Rc} (h : EB w b x) (hb : Chg F w w') (hf : ¬ F b) : EB w' b x := (hb.block _ h.lt hf).trans h
theorem EB.below {w w' : World} {b : Nat} {x : Rc} (h : EB w b x) (hb : Below w.heap.size w w') : EB w' b x := h.chg (.of_below (fun _ => False) hb) id
theorem EB.cells {w : World} {b : Nat} {x : Rc} (h : EB w b x) : w.cell? ⟨b, 0, none⟩ = some (.int .i64 x.key.1) ∧ w.cell? ⟨b, 1, none⟩ = some (.int .i64 x.key.2.1) ∧ w.cell? ⟨b, 2, none⟩ = some (.int .i64 x.key.2.2) ∧ w.cell? ⟨b, 3, none⟩ = some (.int .i64 x.at_) := by unfold EB at h; simp [World.cell?, h]
open Go.Sort Go.Shelf in
set_option maxRecDepth 100000 in
set_option maxHeartbeats 2000000 in
theorem ecmp (x y : Rc) (W : World) : Calls Try.prog 116 #[eval_ x, eval_ y] W fun e w' => e = .returned (.int .i64 (cmpE x y)) ∧ ∃ q os', w' = grow (W.drewN q) os' := by
  have hc64 := fun a b W' => Go.Proofs.AnyG.cmp_Compare_int Lb.Try.cmp_Compare_int64 a b W'
  have hci := fun a b W' => Go.Proofs.AnyG.cmp_Compare_int Lb.Try.cmp_Compare_int a b W'
  change ∀ a b W', Calls Try.prog 106 _ _ _ at hc64
  change ∀ a b W', Calls Try.prog 118 _ _ _ at hci
  have HE := Lib.hid (show cmpE x y = or4 (cmps x y) from rfl)
  have HG0 := Lib.hid (show MixD.Grow W ((W.alloc (.cells #[.int .i64 x.key.1, .int .i64 x.key.2.1, .int .i64 x.key.2.2, .int .i64 x.at_] 156)).alloc (.cells #[.int .i64 y.key.1, .int .i64 y.key.2.1, .int .i64 y.key.2.2, .int .i64 y.at_] 156)) from ⟨ba (ba (Below.refl _ _) _) _, Nat.le_refl _⟩)
  have HX := Lib.hid ((EB.made W x).below (ba (Below.refl _ _) (.cells #[.int .i64 y.key.1, .int .i64 y.key.2.1, .int .i64 y.key.2.2, .int .i64 y.at_] 156)))
  have hy := EB.made (W.alloc (.cells #[.int .i64 x.key.1, .int .i64 x.key.2.1, .int .i64 x.key.2.2, .int .i64 x.at_] 156)) y
  rw [show (W.alloc (.cells #[.int .i64 x.key.1, .int .i64 x.key.2.1, .int .i64 x.key.2.2, .int .i64 x.at_] 156)).heap.size = W.heap.size + 1 by simp] at hy
  have HY := Lib.hid hy
  clear hy
  go_enter Try.func116, Try.ntmps116
  go_wp2
  generalize (W.alloc (.cells #[.int .i64 x.key.1, .int .i64 x.key.2.1, .int .i64 x.key.2.2, .int .i64 x.at_] 156)).alloc (.cells #[.int .i64 y.key.1, .int .i64 y.key.2.1, .int .i64 y.key.2.2, .int .i64 y.at_] 156) = w1 at *
  obtain ⟨x0, x1, x2, x3⟩ := HX.out.cells
  obtain ⟨y0, y1, y2, y3⟩ := HY.out.cells
  have s0 := HX.out.lt; have s1 := HY.out.lt
  refine MixD.region0 (by kernel_rfl) ?_
  intro w2 hg2
  refine MixD.take_ex (w1) 0 rfl (by kernel_rfl) (by kernel_rfl) (by kernel_rfl) (by kernel_rfl) (fun K hK => ?_)
  go_simp
  first | (refine hK _ ?_; clear hK K) | (apply Exists.intro; refine ⟨fun x => ?_, hK _ ?_⟩; (fail); clear hK K)
  refine MixD.take_ex (w1) 1 rfl (by kernel_rfl) (by kernel_rfl) (by kernel_rfl) (by kernel_rfl) (fun K hK => ?_)
  go_simp
  first | (refine hK _ ?_; clear hK K) | (apply Exists.intro; refine ⟨fun x => ?_, hK _ ?_⟩; (fail); clear hK K)
  refine MixD.take_ex (w1) 2 rfl (by kernel_rfl) (by kernel_rfl) (by kernel_rfl) (by kernel_rfl) (fun K hK => ?_)
  go_simp
  first | (refine hK _ ?_; clear hK K) | (apply Exists.intro; refine ⟨fun x => ?_, hK _ ?_⟩; (fail); clear hK K)
  refine MixD.take_ex (w1) 3 rfl (by kernel_rfl) (by kernel_rfl) (by kernel_rfl) (by kernel_rfl) (fun K hK => ?_)
  go_simp
  first | (refine hK _ ?_; clear hK K) | (apply Exists.intro; refine ⟨fun x => ?_, hK _ ?_⟩; (fail); clear hK K)
  refine MixD.take_ex (w1) 4 rfl (by kernel_rfl) (by kernel_rfl) (by kernel_rfl) (by kernel_rfl) (fun K hK => ?_)
  go_simp
  first | (refine hK _ ?_; clear hK K) | (apply Exists.intro; refine ⟨fun x => ?_, hK _ ?_⟩; ((exact (hc64 _ _ _).mono fun e w' ⟨h1, h2⟩ => ⟨h1, by rw [h2]; exact MixD.Grow.refl _⟩)); clear hK K)
  refine MixD.take_ex (w1) 5 rfl (by kernel_rfl) (by kernel_rfl) (by kernel_rfl) (by kernel_rfl) (fun K hK => ?_)
  go_simp
  first | (refine hK _ ?_; clear hK K) | (apply Exists.intro; refine ⟨fun x => ?_, hK _ ?_⟩; (fail); clear hK K)
  refine MixD.take_ex (w1) 6 rfl (by kernel_rfl) (by kernel_rfl) (by kernel_rfl) (by kernel_rfl) (fun K hK => ?_)
  go_simp
  first | (refine hK _ ?_; clear hK K) | (apply Exists.intro; refine ⟨fun x => ?_, hK _ ?_⟩; (fail); clear hK K)
  refine MixD.take_ex (w1) 7 rfl (by kernel_rfl) (by kernel_rfl) (by kernel_rfl) (by kernel_rfl) (fun K hK => ?_)
  go_simp
  first | (refine hK _ ?_; clear hK K) | (apply Exists.intro; refine ⟨fun x => ?_, hK _ ?_⟩; (fail); clear hK K)
  refine MixD.take_ex (w1) 8 rfl (by kernel_rfl) (by kernel_rfl) (by kernel_rfl) (by kernel_rfl) (fun K hK => ?_)
  go_simp
  first | (refine hK _ ?_; clear hK K) | (apply Exists.intro; refine ⟨fun x => ?_, hK _ ?_⟩; (fail); clear hK K)
  refine MixD.take_ex (w1) 9 rfl (by kernel_rfl) (by kernel_rfl) (by kernel_rfl) (by kernel_rfl) (fun K hK => ?_)
  go_simp
  first | (refine hK _ ?_; clear hK K) | (apply Exists.intro; refine ⟨fun x => ?_, hK _ ?_⟩; (fail); clear hK K)
  refine MixD.take_ex (w1) 10 rfl (by kernel_rfl) (by kernel_rfl) (by kernel_rfl) (by kernel_rfl) (fun K hK => ?_)
  go_simp
  first | (refine hK _ ?_; clear hK K) | (apply Exists.intro; refine ⟨fun x => ?_, hK _ ?_⟩; (fail); clear hK K)
  refine MixD.take_ex (w1) 11 rfl (by kernel_rfl) (by kernel_rfl) (by kernel_rfl) (by kernel_rfl) (fun K hK => ?_)
  go_simp
  first | (refine hK _ ?_; clear hK K) | (apply Exists.intro; refine ⟨fun x => ?_, hK _ ?_⟩; ((exact (hci _ _ _).mono fun e w' ⟨h1, h2⟩ => ⟨h1, by rw [h2]; exact MixD.Grow.refl _⟩)); clear hK K)
  refine MixD.take_ex (w1) 12 rfl (by kernel_rfl) (by kernel_rfl) (by kernel_rfl) (by kernel_rfl) (fun K hK => ?_)
  go_simp
  first | (refine hK _ ?_; clear hK K) | (apply Exists.intro; refine ⟨fun x => ?_, hK _ ?_⟩; (fail); clear hK K)
  refine MixD.take_ex (w1) 13 rfl (by kernel_rfl) (by kernel_rfl) (by kernel_rfl) (by kernel_rfl) (fun K hK => ?_)
  go_simp
  first | (refine hK _ ?_; clear hK K) | (apply Exists.intro; refine ⟨fun x => ?_, hK _ ?_⟩; (fail); clear hK K)
  refine MixD.take_ex (w1) 14 rfl (by kernel_rfl) (by kernel_rfl) (by kernel_rfl) (by kernel_rfl) (fun K hK => ?_)
  go_simp
  first | (refine hK _ ?_; clear hK K) | (apply Exists.intro; refine ⟨fun x => ?_, hK _ ?_⟩; (fail); clear hK K)
  refine MixD.take_ex (w1) 15 rfl (by kernel_rfl) (by kernel_rfl) (by kernel_rfl) (by kernel_rfl) (fun K hK => ?_)
  go_simp
  first | (refine hK _ ?_; clear hK K) | (apply Exists.intro; refine ⟨fun x => ?_, hK _ ?_⟩; (fail); clear hK K)
  refine MixD.take_ex (w1) 16 rfl (by kernel_rfl) (by kernel_rfl) (by kernel_rfl) (by kernel_rfl) (fun K hK => ?_)
  go_simp
  first | (refine hK _ ?_; clear hK K) | (apply Exists.intro; refine ⟨fun x => ?_, hK _ ?_⟩; (fail); clear hK K)
  refine MixD.take_ex (w1) 17 rfl (by kernel_rfl) (by kernel_rfl) (by kernel_rfl) (by kernel_rfl) (fun K hK => ?_)
  go_simp
  first | (refine hK _ ?_; clear hK K) | (apply Exists.intro; refine ⟨fun x => ?_, hK _ ?_⟩; (fail); clear hK K)
  refine MixD.take_ex (w1) 18 rfl (by kernel_rfl) (by kernel_rfl) (by kernel_rfl) (by kernel_rfl) (fun K hK => ?_)
  go_simp
  first | (refine hK _ ?_; clear hK K) | (apply Exists.intro; refine ⟨fun x => ?_, hK _ ?_⟩; ((exact (hc64 _ _ _).mono fun e w' ⟨h1, h2⟩ => ⟨h1, by rw [h2]; exact MixD.Grow.refl _⟩)); clear hK K)
  refine MixD.take_ex (w1) 19 rfl (by kernel_rfl) (by kernel_rfl) (by kernel_rfl) (by kernel_rfl) (fun K hK => ?_)
  go_simp
  first | (refine hK _ ?_; clear hK K) | (apply Exists.intro; refine ⟨fun x => ?_, hK _ ?_⟩; (fail); clear hK K)
  refine MixD.take_ex (w1) 20 rfl (by kernel_rfl) (by kernel_rfl) (by kernel_rfl) (by kernel_rfl) (fun K hK => ?_)
  go_simp
  first | (refine hK _ ?_; clear hK K) | (apply Exists.intro; refine ⟨fun x => ?_, hK _ ?_⟩; (fail); clear hK K)
  refine MixD.take_ex (w1) 21 rfl (by kernel_rfl) (by kernel_rfl) (by kernel_rfl) (by kernel_rfl) (fun K hK => ?_)
  go_simp
  first | (refine hK _ ?_; clear hK K) | (apply Exists.intro; refine ⟨fun x => ?_, hK _ ?_⟩; (fail); clear hK K)
  refine MixD.take_ex (w1) 22 rfl (by kernel_rfl) (by kernel_rfl) (by kernel_rfl) (by kernel_rfl) (fun K hK => ?_)
  go_simp
  first | (refine hK _ ?_; clear hK K) | (apply Exists.intro; refine ⟨fun x => ?_, hK _ ?_⟩; (fail); clear hK K)
  refine MixD.take_ex (w1) 23 rfl (by kernel_rfl) (by kernel_rfl) (by kernel_rfl) (by kernel_rfl) (fun K hK => ?_)
  go_simp
  first | (refine hK _ ?_; clear hK K) | (apply Exists.intro; refine ⟨fun x => ?_, hK _ ?_⟩; (fail); clear hK K)
  refine MixD.take_ex (w1) 24 rfl (by kernel_rfl) (by kernel_rfl) (by kernel_rfl) (by kernel_rfl) (fun K hK => ?_)
  go_simp
  first | (refine hK _ ?_; clear hK K) | (apply Exists.intro; refine ⟨fun x => ?_, hK _ ?_⟩; (fail); clear hK K)
  refine MixD.take_ex (w1) 25 rfl (by kernel_rfl) (by kernel_rfl) (by kernel_rfl) (by kernel_rfl) (fun K hK => ?_)
  go_simp
  first | (refine hK _ ?_; clear hK K) | (apply Exists.intro; refine ⟨fun x => ?_, hK _ ?_⟩; ((exact (hc64 _ _ _).mono fun e w' ⟨h1, h2⟩ => ⟨h1, by rw [h2]; exact MixD.Grow.refl _⟩)); clear hK K)
  refine MixD.all (rs := [26]) (by kernel_rfl) (by simp) (MixD.over_of hg2) ?_
  intro i3 hi3 w3 hg3 hC3
  simp only [List.mem_cons, List.not_mem_nil, or_false] at hi3
  subst hi3
  clear hC3
  refine MixD.op rfl (by kernel_rfl) ?_
  go_simp
  have HC4 := Lib.hid (show ∀ j, j < 4 → (w3.alloc (.cells #[.int .i64 (Go.Lib.compareInt x.at_ y.at_), .int .i64 (Go.Lib.compareInt x.key.1 y.key.1), .int .i64 (Go.Lib.compareInt x.key.2.1 y.key.2.1), .int .i64 (Go.Lib.compareInt x.key.2.2 y.key.2.2)] 3)).cell? ⟨w3.heap.size, j, none⟩ = some (.int .i64 (cmps x y j)) from fun j hj => by
    refine (cell_new w3 _ _ j).trans ?_
    rcases j with _ | _ | _ | _ | j
    · rfl
    · rfl
    · rfl
    · rfl
    · omega)
  have HG4 := Lib.hid (show MixD.Grow W (w3.alloc (.cells #[.int .i64 (Go.Lib.compareInt x.at_ y.at_), .int .i64 (Go.Lib.compareInt x.key.1 y.key.1), .int .i64 (Go.Lib.compareInt x.key.2.1 y.key.2.1), .int .i64 (Go.Lib.compareInt x.key.2.2 y.key.2.2)] 3)) from ((HG0.out.trans hg2).trans hg3).trans ⟨ba (Below.refl _ _) _, Nat.le_refl _⟩)
  have HO4 := Lib.hid (show MixD.Grow w1 (w3.alloc (.cells #[.int .i64 (Go.Lib.compareInt x.at_ y.at_), .int .i64 (Go.Lib.compareInt x.key.1 y.key.1), .int .i64 (Go.Lib.compareInt x.key.2.1 y.key.2.1), .int .i64 (Go.Lib.compareInt x.key.2.2 y.key.2.2)] 3)) from (hg2.trans hg3).trans ⟨ba (Below.refl _ _) _, Nat.le_refl _⟩)
  have hb3 : w3.heap.size < (w3.alloc (.cells #[.int .i64 (Go.Lib.compareInt x.at_ y.at_), .int .i64 (Go.Lib.compareInt x.key.1 y.key.1), .int .i64 (Go.Lib.compareInt x.key.2.1 y.key.2.1), .int .i64 (Go.Lib.compareInt x.key.2.2 y.key.2.2)] 3)).heap.size := by simp
  generalize w3.alloc (.cells #[.int .i64 (Go.Lib.compareInt x.at_ y.at_), .int .i64 (Go.Lib.compareInt x.key.1 y.key.1), .int .i64 (Go.Lib.compareInt x.key.2.1 y.key.2.1), .int .i64 (Go.Lib.compareInt x.key.2.2 y.key.2.2)] 3) = w4 at *
  generalize w3.heap.size = q at *
  refine MixD.all (rs := [27]) (by kernel_rfl) (by simp) (MixD.over_of HO4.out) ?_
  intro i5 hi5 w5 hg5 hC5
  simp only [List.mem_cons, List.not_mem_nil, or_false] at hi5
  subst hi5
  have HG5 := Lib.hid (HG4.out.trans hg5)
  have HO5 := Lib.hid (HO4.out.trans hg5)
  have HC5 := Lib.hid (show ∀ j, j < 4 → w5.cell? ⟨q, j, none⟩ = some (.int .i64 (cmps x y j)) from fun j hj => (hg5.1.cell (p := ⟨q, j, none⟩) hb3).trans (HC4.out j hj))
  clear hC5 hg5 hg2 hg3 hb3 x0 x1 x2 x3 y0 y1 y2 y3 s0 s1
  refine MixD.op rfl (by kernel_rfl) ?_
  go_simp
  refine (cmpor (cmps x y) HC5.out).mono ?_
  rintro e w6 ⟨rfl, rfl⟩
  refine ⟨_, rfl, ?_⟩
  refine MixD.all (rs := [28]) (by kernel_rfl) (by simp) (MixD.over_of HO5.out) ?_
  intro i7 hi7 w7 hg7 hC7
  simp only [List.mem_cons, List.not_mem_nil, or_false] at hi7
  subst hi7
  have HG7 := Lib.hid (HG5.out.trans hg7)
  have HO7 := Lib.hid (HO5.out.trans hg7)
  clear hC7 hg7
  refine MixD.op rfl (by kernel_rfl) ?_
  go_simp
  refine MixD.done (by kernel_rfl) (MixD.over_of HO7.out) ?_
  intro w8 hg8
  have HG8 := Lib.hid (HG7.out.trans hg8)
  clear hg8
  go_wp2
  go_ret
  exact ⟨by rw [HE.out]; rfl, HG8.out.grown⟩
end Go.Proofs.Ytajcelmnblncaaa

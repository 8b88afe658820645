/- filters: filters in memory; the order of parts, of vectors and of filters. -/
import Derived.Test.YtennhfkhdfalfaaVecCp
import Derived.Test.YtennhfkhdfalfaaVecV
import Derived.Test.YtennhfkhdfalfaaRS
import Derived.Test.YtennhfkhdfalfaaMixD
import Derived.Test.YtennhfkhdfalfaaLib3
namespace Go.Proofs.Ytennhfkhdfalfaa
open Go.RowKit Go.Maps
attribute [local go_sem] MixD.extD_cell MixD.extD_frozen MixD.calmUpon MixD.mUpon
/-- The first of n that is not zero. -/
def orF (x : Nat → Int) : Nat → Int
  | 0 => 0
  | n + 1 => if orF x n ≠ 0 then orF x n else x n
theorem orF_zero {x : Nat → Int} : ∀ {n : Nat}, (∀ j, j < n → x j = 0) → orF x n = 0
  | 0, _ => rfl
  | n + 1, h => by
    unfold orF
    rw [orF_zero fun j hj => h j (by omega), if_neg (fun e => e rfl)]
    exact h n (by omega)
theorem orF_at {x : Nat → Int} {k : Nat} : ∀ {n : Nat}, k < n → (∀ j, j < k → x j = 0) → x k ≠ 0 → orF x n = x k
  | 0, hk, _, _ => absurd hk (Nat.not_lt_zero _)
  | n + 1, hk, h, hn => by
    unfold orF
    by_cases e : k = n
    · subst e
      rw [orF_zero h, if_neg (fun e => e rfl)]
    · rw [orF_at (n := n) (by omega) h hn, if_pos hn]
theorem orF_eq0 {x : Nat → Int} {n : Nat} : orF x n = 0 ↔ ∀ j, j < n → x j = 0 := by
  refine ⟨fun h => ?_, orF_zero⟩
  induction n with
  | zero => intro j hj; omega
  | succ n ih =>
    unfold orF at h
    by_cases e : orF x n = 0
    · rw [e, if_neg (fun e => e rfl)] at h
      intro j hj
      by_cases ej : j = n
      · rw [ej]; exact h
      · exact ih e j (by omega)
    · rw [if_pos e] at h; exact absurd h e
set_option maxHeartbeats 1000000 in
theorem cmpor {w : World} {q n : Nat} (hn : n < 1000) (x : Nat → Int) (h : ∀ j, j < n → w.cell? ⟨q, j, none⟩ = some (.int .i64 (x j))) : Calls Try.prog 119 #[.slice (some ⟨q, 0, none⟩) n n] w fun e w' => e = .returned (.int .i64 (orF x n)) ∧ w' = w := by
  have H := Lib.hid h
  clear h
  go_enter Try.func119, Try.ntmps119
  go_wp2
  go_loop [5, 8] (fun _ u => ∃ k : Nat, u = .int .i64 k ∧ k ≤ n ∧ Hid (∀ j, j < k → x j = 0)) (fun _ u => n - (intOf u).toNat)
  case atStart => exact ⟨0, rfl, by omega, Lib.hid fun j hj => by omega⟩
  case round =>
    obtain ⟨k, rfl, hk, HZ⟩ := hrel
    by_cases hk4 : k < n
    · have hc := H.out k hk4
      have hg : decide ((k : Int) < (n : Int)) = true := decide_eq_true (by omega)
      have hg2 : (k : Int) < (n : Int) := by omega
      by_cases hx : x k = 0
      · rw [hx] at hc
        go_wp2
        go_round
        case rel => exact ⟨k + 1, by go_num, by omega, Lib.hid fun j hj => by
          rcases Nat.lt_succ_iff_lt_or_eq.1 hj with h | rfl
          · exact HZ.out j h
          · exact hx⟩
        case measure => simp [intOf]; omega
      · have HR := Lib.hid (orF_at hk4 HZ.out hx)
        go_wp2
        go_ret
        exact ⟨by rw [HR.out]; rfl, rfl⟩
    · have hg : decide ((k : Int) < (n : Int)) = false := decide_eq_false (by omega)
      have hg2 : ¬ (k : Int) < (n : Int) := by omega
      have HR := Lib.hid (orF_zero (n := n) fun j hj => HZ.out j (by omega))
      go_wp2
      go_ret
      exact ⟨by rw [HR.out]; rfl, rfl⟩
abbrev cmps3 (p q : Pt) : Nat → Int
  | 0 => Go.Lib.compareInt p.1 q.1
  | 1 => Go.Lib.compareInt p.2.1 q.2.1
  | _ => Go.Lib.compareInt p.2.2 q.2.2
/-- The comparison of two parts. -/
def pcmp (p q : Pt) : Int := orF (cmps3 p q) 3
theorem cmpI_zero (a b : Int) : Go.Lib.compareInt a b = 0 ↔ a = b := by
  unfold Go.Lib.compareInt
  by_cases h1 : a < b
  · simp [h1]; omega
  · by_cases h2 : b < a <;> simp [h1, h2] <;> omega
theorem pcmp_zero (p q : Pt) : pcmp p q = 0 ↔ p = q := by
  unfold pcmp
  rw [orF_eq0]
  constructor
  · intro h
    have h0 := (cmpI_zero _ _).1 (h 0 (by omega)); have h1 := (cmpI_zero _ _).1 (h 1 (by omega)); have h2 := (cmpI_zero _ _).1 (h 2 (by omega))
    obtain ⟨a, b, c⟩ := p; obtain ⟨a', b', c'⟩ := q
    simp only at h0 h1 h2
    rw [h0, h1, h2]
  · rintro rfl j hj
    rcases j with _ | _ | _ | j
    · exact (cmpI_zero _ _).2 rfl
    · exact (cmpI_zero _ _).2 rfl
    · exact (cmpI_zero _ _).2 rfl
    · omega
/-- The comparison of two vectors. -/
def vord : List Pt → List Pt → Int
  | [], [] => 0
  | [], _ :: _ => -1
  | _ :: _, [] => 1
  | p :: l, q :: m => if pcmp p q ≠ 0 then pcmp p q else vord l m
theorem vord_zero : ∀ l m : List Pt, vord l m = 0 ↔ l = m
  | [], [] => by simp [vord]
  | [], _ :: _ => by simp [vord]
  | _ :: _, [] => by simp [vord]
  | p :: l, q :: m => by
    unfold vord
    by_cases h : pcmp p q = 0
    · rw [if_neg (fun e => e h), vord_zero l m]
      have := (pcmp_zero p q).1 h
      simp [this]
    · rw [if_pos h]
      constructor
      · intro e; exact absurd e h
      · intro e; cases e; exact absurd ((pcmp_zero p p).2 rfl) h
theorem cell_new (w : World) (c : Array Value) (e : TypeId) (j : Nat) : (w.alloc (.cells c e)).cell? ⟨w.heap.size, j, none⟩ = c[j]? := by
  have h := heap_alloc_new w (.cells c e)
  unfold World.cell?
  dsimp only
  rw [h]
  rfl
/-- Block b holds a part. -/
def PB (w : World) (b : Nat) (k r a : Int) : Prop := w.heap[b]? = some (.cells #[.int .i64 k, .int .i64 r, .int .i64 a] 57 (0, 0))
section
variable {w w' : World} {b : Nat} {k r a : Int}
theorem PB.made (w : World) (k r a : Int) : PB (w.alloc (.cells #[.int .i64 k, .int .i64 r, .int .i64 a] 57)) w.heap.size k r a := heap_alloc_new w _
theorem PB.lt (h : PB w b k r a) : b < w.heap.size := (Array.getElem?_eq_some_iff.1 h).1
theorem PB.below (h : PB w b k r a) (hb : Below w.heap.size w w') : PB w' b k r a := (hb.block b h.lt).trans h
theorem PB.cells (h : PB w b k r a) : w.cell? ⟨b, 0, none⟩ = some (.int .i64 k) ∧ w.cell? ⟨b, 1, none⟩ = some (.int .i64 r) ∧ w.cell? ⟨b, 2, none⟩ = some (.int .i64 a) := by unfold PB at h; simp [World.cell?, h]
end
set_option maxRecDepth 100000 in
set_option maxHeartbeats 2000000 in
theorem ocmp (p q : Pt) (W : World) : Calls Try.prog 156 #[.agg #[.int .i64 p.1, .int .i64 p.2.1, .int .i64 p.2.2], .agg #[.int .i64 q.1, .int .i64 q.2.1, .int .i64 q.2.2]] W fun e w' => e = .returned (.int .i64 (pcmp p q)) ∧ MixD.Grow W w' := by
  have hc64 := fun a b W' => Go.Proofs.AnyG.cmp_Compare_int Lb.Try.cmp_Compare_int64 a b W'
  change ∀ a b W', Calls Try.prog 70 _ _ _ at hc64
  have hci := fun a b W' => Go.Proofs.AnyG.cmp_Compare_int Lb.Try.cmp_Compare_int a b W'
  change ∀ a b W', Calls Try.prog 124 _ _ _ at hci
  have HE := Lib.hid (show pcmp p q = orF (cmps3 p q) 3 from rfl)
  obtain ⟨k, r, a⟩ := p
  obtain ⟨k', r', a'⟩ := q
  have HG0 := Lib.hid (show MixD.Grow W ((W.alloc (.cells #[.int .i64 k, .int .i64 r, .int .i64 a] 57)).alloc (.cells #[.int .i64 k', .int .i64 r', .int .i64 a'] 57)) from ⟨ba (ba (Below.refl _ _) _) _, Nat.le_refl _⟩)
  have HX := Lib.hid ((PB.made W k r a).below (ba (Below.refl _ _) (.cells #[.int .i64 k', .int .i64 r', .int .i64 a'] 57)))
  have hy := PB.made (W.alloc (.cells #[.int .i64 k, .int .i64 r, .int .i64 a] 57)) k' r' a'
  rw [show (W.alloc (.cells #[.int .i64 k, .int .i64 r, .int .i64 a] 57)).heap.size = W.heap.size + 1 by simp] at hy
  have HY := Lib.hid hy
  clear hy
  go_enter Try.func156, Try.ntmps156
  go_wp2
  generalize (W.alloc (.cells #[.int .i64 k, .int .i64 r, .int .i64 a] 57)).alloc (.cells #[.int .i64 k', .int .i64 r', .int .i64 a'] 57) = w1 at *
  obtain ⟨x0, x1, x2⟩ := HX.out.cells
  obtain ⟨y0, y1, y2⟩ := HY.out.cells
  have s0 := HX.out.lt; have s1 := HY.out.lt
  refine MixD.region0 (by kernel_rfl) ?_
  intro w2 hg2
  refine MixD.take_ex (w1) 0 rfl (by kernel_rfl) (by kernel_rfl) (by kernel_rfl) (by kernel_rfl) (fun K hK => ?_)
  go_simp
  first | (refine hK _ ?_; clear hK K) | (apply Exists.intro; refine ⟨fun x => ?_, hK _ ?_⟩; (fail); clear hK K)
  refine MixD.take_ex (w1) 1 rfl (by kernel_rfl) (by kernel_rfl) (by kernel_rfl) (by kernel_rfl) (fun K hK => ?_)
  go_simp
  first | (refine hK _ ?_; clear hK K) | (apply Exists.intro; refine ⟨fun x => ?_, hK _ ?_⟩; (fail); clear hK K)
  refine MixD.take_ex (w1) 2 rfl (by kernel_rfl) (by kernel_rfl) (by kernel_rfl) (by kernel_rfl) (fun K hK => ?_)
  go_simp
  first | (refine hK _ ?_; clear hK K) | (apply Exists.intro; refine ⟨fun x => ?_, hK _ ?_⟩; (fail); clear hK K)
  refine MixD.take_ex (w1) 3 rfl (by kernel_rfl) (by kernel_rfl) (by kernel_rfl) (by kernel_rfl) (fun K hK => ?_)
  go_simp
  first | (refine hK _ ?_; clear hK K) | (apply Exists.intro; refine ⟨fun x => ?_, hK _ ?_⟩; (fail); clear hK K)
  refine MixD.take_ex (w1) 4 rfl (by kernel_rfl) (by kernel_rfl) (by kernel_rfl) (by kernel_rfl) (fun K hK => ?_)
  go_simp
  first | (refine hK _ ?_; clear hK K) | (apply Exists.intro; refine ⟨fun x => ?_, hK _ ?_⟩; ((exact (hci _ _ _).mono fun e w' ⟨h1, h2⟩ => ⟨h1, by rw [h2]; exact MixD.Grow.refl _⟩)); clear hK K)
  refine MixD.take_ex (w1) 5 rfl (by kernel_rfl) (by kernel_rfl) (by kernel_rfl) (by kernel_rfl) (fun K hK => ?_)
  go_simp
  first | (refine hK _ ?_; clear hK K) | (apply Exists.intro; refine ⟨fun x => ?_, hK _ ?_⟩; (fail); clear hK K)
  refine MixD.take_ex (w1) 6 rfl (by kernel_rfl) (by kernel_rfl) (by kernel_rfl) (by kernel_rfl) (fun K hK => ?_)
  go_simp
  first | (refine hK _ ?_; clear hK K) | (apply Exists.intro; refine ⟨fun x => ?_, hK _ ?_⟩; (fail); clear hK K)
  refine MixD.take_ex (w1) 7 rfl (by kernel_rfl) (by kernel_rfl) (by kernel_rfl) (by kernel_rfl) (fun K hK => ?_)
  go_simp
  first | (refine hK _ ?_; clear hK K) | (apply Exists.intro; refine ⟨fun x => ?_, hK _ ?_⟩; (fail); clear hK K)
  refine MixD.take_ex (w1) 8 rfl (by kernel_rfl) (by kernel_rfl) (by kernel_rfl) (by kernel_rfl) (fun K hK => ?_)
  go_simp
  first | (refine hK _ ?_; clear hK K) | (apply Exists.intro; refine ⟨fun x => ?_, hK _ ?_⟩; (fail); clear hK K)
  refine MixD.take_ex (w1) 9 rfl (by kernel_rfl) (by kernel_rfl) (by kernel_rfl) (by kernel_rfl) (fun K hK => ?_)
  go_simp
  first | (refine hK _ ?_; clear hK K) | (apply Exists.intro; refine ⟨fun x => ?_, hK _ ?_⟩; ((exact (hci _ _ _).mono fun e w' ⟨h1, h2⟩ => ⟨h1, by rw [h2]; exact MixD.Grow.refl _⟩)); clear hK K)
  refine MixD.take_ex (w1) 10 rfl (by kernel_rfl) (by kernel_rfl) (by kernel_rfl) (by kernel_rfl) (fun K hK => ?_)
  go_simp
  first | (refine hK _ ?_; clear hK K) | (apply Exists.intro; refine ⟨fun x => ?_, hK _ ?_⟩; (fail); clear hK K)
  refine MixD.take_ex (w1) 11 rfl (by kernel_rfl) (by kernel_rfl) (by kernel_rfl) (by kernel_rfl) (fun K hK => ?_)
  go_simp
  first | (refine hK _ ?_; clear hK K) | (apply Exists.intro; refine ⟨fun x => ?_, hK _ ?_⟩; (fail); clear hK K)
  refine MixD.take_ex (w1) 12 rfl (by kernel_rfl) (by kernel_rfl) (by kernel_rfl) (by kernel_rfl) (fun K hK => ?_)
  go_simp
  first | (refine hK _ ?_; clear hK K) | (apply Exists.intro; refine ⟨fun x => ?_, hK _ ?_⟩; (fail); clear hK K)
  refine MixD.take_ex (w1) 13 rfl (by kernel_rfl) (by kernel_rfl) (by kernel_rfl) (by kernel_rfl) (fun K hK => ?_)
  go_simp
  first | (refine hK _ ?_; clear hK K) | (apply Exists.intro; refine ⟨fun x => ?_, hK _ ?_⟩; (fail); clear hK K)
  refine MixD.take_ex (w1) 14 rfl (by kernel_rfl) (by kernel_rfl) (by kernel_rfl) (by kernel_rfl) (fun K hK => ?_)
  go_simp
  first | (refine hK _ ?_; clear hK K) | (apply Exists.intro; refine ⟨fun x => ?_, hK _ ?_⟩; ((exact (hc64 _ _ _).mono fun e w' ⟨h1, h2⟩ => ⟨h1, by rw [h2]; exact MixD.Grow.refl _⟩)); clear hK K)
  refine MixD.all (rs := [15]) (by kernel_rfl) (by simp) (MixD.over_of hg2) ?_
  intro i3 hi3 w3 hg3 hC3
  simp only [List.mem_cons, List.not_mem_nil, or_false] at hi3
  subst hi3
  clear hC3
  refine MixD.op rfl (by kernel_rfl) ?_
  go_simp
  have HC4 := Lib.hid (show ∀ j, j < 3 → (w3.alloc (.cells #[.int .i64 (Go.Lib.compareInt k k'), .int .i64 (Go.Lib.compareInt r r'), .int .i64 (Go.Lib.compareInt a a')] 3)).cell? ⟨w3.heap.size, j, none⟩ = some (.int .i64 (cmps3 (k, r, a) (k', r', a') j)) from fun j hj => by
    refine (cell_new w3 _ _ j).trans ?_
    rcases j with _ | _ | _ | j
    · rfl
    · rfl
    · rfl
    · omega)
  have HG4 := Lib.hid (show MixD.Grow W (w3.alloc (.cells #[.int .i64 (Go.Lib.compareInt k k'), .int .i64 (Go.Lib.compareInt r r'), .int .i64 (Go.Lib.compareInt a a')] 3)) from ((HG0.out.trans hg2).trans hg3).trans ⟨ba (Below.refl _ _) _, Nat.le_refl _⟩)
  have HO4 := Lib.hid (show MixD.Grow w1 (w3.alloc (.cells #[.int .i64 (Go.Lib.compareInt k k'), .int .i64 (Go.Lib.compareInt r r'), .int .i64 (Go.Lib.compareInt a a')] 3)) from (hg2.trans hg3).trans ⟨ba (Below.refl _ _) _, Nat.le_refl _⟩)
  have hb3 : w3.heap.size < (w3.alloc (.cells #[.int .i64 (Go.Lib.compareInt k k'), .int .i64 (Go.Lib.compareInt r r'), .int .i64 (Go.Lib.compareInt a a')] 3)).heap.size := by simp
  generalize w3.alloc (.cells #[.int .i64 (Go.Lib.compareInt k k'), .int .i64 (Go.Lib.compareInt r r'), .int .i64 (Go.Lib.compareInt a a')] 3) = w4 at *
  generalize w3.heap.size = q at *
  refine MixD.all (rs := [16]) (by kernel_rfl) (by simp) (MixD.over_of HO4.out) ?_
  intro i5 hi5 w5 hg5 hC5
  simp only [List.mem_cons, List.not_mem_nil, or_false] at hi5
  subst hi5
  have HG5 := Lib.hid (HG4.out.trans hg5)
  have HO5 := Lib.hid (HO4.out.trans hg5)
  have HC5 := Lib.hid (show ∀ j, j < 3 → w5.cell? ⟨q, j, none⟩ = some (.int .i64 (cmps3 (k, r, a) (k', r', a') j)) from fun j hj => (hg5.1.cell (p := ⟨q, j, none⟩) hb3).trans (HC4.out j hj))
  clear hC5 hg5 hg2 hg3 hb3 x0 x1 x2 y0 y1 y2 s0 s1
  refine MixD.op rfl (by kernel_rfl) ?_
  go_simp
  refine (cmpor (n := 3) (by omega) (cmps3 (k, r, a) (k', r', a')) HC5.out).mono ?_
  rintro e w6 ⟨rfl, rfl⟩
  refine ⟨_, rfl, ?_⟩
  refine MixD.all (rs := [17]) (by kernel_rfl) (by simp) (MixD.over_of HO5.out) ?_
  intro i7 hi7 w7 hg7 hC7
  simp only [List.mem_cons, List.not_mem_nil, or_false] at hi7
  subst hi7
  have HG7 := Lib.hid (HG5.out.trans hg7)
  have HO7 := Lib.hid (HO5.out.trans hg7)
  clear hC7 hg7
  refine MixD.op rfl (by kernel_rfl) ?_
  go_simp
  refine MixD.done (by kernel_rfl) (MixD.over_of HO7.out) ?_
  intro w8 hg8
  have HG8 := Lib.hid (HG7.out.trans hg8)
  clear hg8
  go_wp2
  go_ret
  exact ⟨by rw [HE.out]; rfl, HG8.out⟩
end Go.Proofs.Ytennhfkhdfalfaa

/- Contract of mancipleref01.Product. Condition: as it says. -/
import Derived.Test.YtfnfolpdbbnnlaaDoorHalves
import Derived.IntWalk
import Derived.Deep.DeepCutAuto
import Derived.Deep.CutBlock
namespace Go.Proofs.YtfnfolpdbbnnlaaDoor
open Go.RowKit
attribute [local go_sem] ext_cell ext_frozen

/-- The row under way: its cells. -/
structure PR (w wr : World) (N : Nat) (O : Nat → Int) : Prop where
  row : ∃ L : List Int, L.length = N ∧ wr.ownsRow w.heap.size 3 1 (.slice (some ⟨w.heap.size, 0, none⟩) N N) N (ints L) ∧ ∀ j, j < N → L.getD j 0 = O j
  bel : Below w.heap.size w wr
theorem PR.cell {w wr : World} {N : Nat} {O : Nat → Int} (h : PR w wr N O) (j : Nat) (hj : j < N) : wr.cell? ⟨w.heap.size, j, none⟩ = some (.int .i64 (O j)) := by
  obtain ⟨L, hl, hr, ho⟩ := h.row
  rw [World.ownsRow.cellAt hr j (by omega), ← ho j hj]
  simp [List.getElem?_map, List.getElem?_eq_getElem (show j < L.length by omega), List.getD]
theorem PR.frozen {w wr : World} {N : Nat} {O : Nat → Int} (h : PR w wr N O) (j : Nat) : wr.frozen? ⟨w.heap.size, j, none⟩ = false := by
  obtain ⟨L, hl, hr, ho⟩ := h.row
  exact World.ownsRow.frozenAt hr j
theorem PR.congr {w wr : World} {N : Nat} {O O' : Nat → Int} (h : PR w wr N O) (he : ∀ j, j < N → O j = O' j) : PR w wr N O' := by
  obtain ⟨⟨L, hl, hr, ho⟩, hb⟩ := h
  exact ⟨⟨L, hl, hr, fun j hj => (ho j hj).trans (he j hj)⟩, hb⟩
theorem PR.drewN {w wr : World} {N : Nat} {O : Nat → Int} (h : PR w wr N O) (n : Nat) : PR w (wr.drewN n) N O := by
  obtain ⟨⟨L, hl, hr, ho⟩, hb⟩ := h
  exact ⟨⟨L, hl, hr, ho⟩, bdn hb n⟩
theorem PR.store {w wr : World} {N : Nat} {O : Nat → Int} (h : PR w wr N O) (j : Nat) (hj : j < N) (x : Int) : PR w (wr.setCell ⟨w.heap.size, j, none⟩ (.int .i64 x)) N (fun i => if i = j then x else O i) := by
  obtain ⟨⟨L, hl, hr, ho⟩, hb⟩ := h
  refine ⟨⟨L.set j x, by simpa using hl, ?_, fun i hi => ?_⟩, hb.setCell (Nat.le_refl _) _⟩
  · have := (World.ownsRow.stored hr j (.int .i64 x)).1
    simpa [ints, List.map_set] using this
  · by_cases hij : i = j
    · subst hij; rw [if_pos rfl]; simp [List.getD, List.getElem?_set_self (show i < L.length by omega)]
    · rw [if_neg hij, ← ho i hi]; simp [List.getD, List.getElem?_set_ne (Ne.symm hij)]

theorem mod_succ (A : Int) (i : Nat) : A % 65536 ^ (i + 1) = A % 65536 ^ i + A / 65536 ^ i % 65536 * 65536 ^ i := by
  have hP := pow_pos65 i
  have e1 := Int.mul_ediv_add_emod A (65536 ^ i)
  have e2 := Int.mul_ediv_add_emod (A / 65536 ^ i) 65536
  have m0 := Int.emod_nonneg A (show (65536 : Int) ^ i ≠ 0 by omega)
  have m1 := Int.emod_lt_of_pos A hP
  have m2 := Int.emod_nonneg (A / 65536 ^ i) (show (65536 : Int) ≠ 0 by decide)
  have m3 := Int.emod_lt_of_pos (A / 65536 ^ i) (show (0 : Int) < 65536 by decide)
  rw [Int.pow_succ]
  generalize (65536 : Int) ^ i = P at *
  generalize A / P % 65536 = a at *
  generalize A / P / 65536 = t at *
  generalize A % P = r at *
  generalize A / P = s at *
  have e3 : A = (r + a * P) + (P * 65536) * t := by
    rw [← e1, ← e2, Int.mul_add, Int.mul_assoc, Int.mul_comm P a]; omega
  have k1 : 0 ≤ a * P := Int.mul_nonneg m2 (by omega)
  have k2 : a * P ≤ 65535 * P := Int.mul_le_mul_of_nonneg_right (by omega) (by omega)
  conv => lhs; rw [e3, Int.add_mul_emod_self_left]
  exact Int.emod_eq_of_lt (by omega) (by omega)

/-- One step of a row: y, b: what is left of the sum's term and of the factor; c: the carry. -/
theorem prod_step (Y a B Q : Int) (hQ : 0 < Q) (c : Int) (hc : c = (Y + a * B) / Q - Y / Q - a * (B / Q)) :
    (Y / Q % 65536 + a * (B / Q % 65536) + c) % 65536 = (Y + a * B) / Q % 65536 ∧
    (Y / Q % 65536 + a * (B / Q % 65536) + c) / 65536 = (Y + a * B) / (Q * 65536) - Y / (Q * 65536) - a * (B / (Q * 65536)) := by
  rw [← Int.ediv_ediv_of_nonneg (by omega), ← Int.ediv_ediv_of_nonneg (by omega), ← Int.ediv_ediv_of_nonneg (by omega)]
  have e1 := Int.mul_ediv_add_emod (B / Q) 65536
  generalize (Y + a * B) / Q = s at *
  generalize Y / Q = y at *
  have e2 : a * (B / Q) = 65536 * (a * (B / Q / 65536)) + a * (B / Q % 65536) := by
    conv => lhs; rw [← e1, Int.mul_add, Int.mul_left_comm]
  rw [e2] at hc
  generalize a * (B / Q % 65536) = p at *
  generalize a * (B / Q / 65536) = q at *
  omega
theorem prod_carry (Y a B Q : Int) (hQ : 0 < Q) (a0 : 0 ≤ a) (a1 : a < 65536) : 0 ≤ (Y + a * B) / Q - Y / Q - a * (B / Q) ∧ (Y + a * B) / Q - Y / Q - a * (B / Q) < 65536 := by
  have e1 := Int.mul_ediv_add_emod Y Q
  have e2 := Int.mul_ediv_add_emod B Q
  have m1 := Int.emod_nonneg Y (show Q ≠ 0 by omega)
  have m2 := Int.emod_lt_of_pos Y hQ
  have m3 := Int.emod_nonneg B (show Q ≠ 0 by omega)
  have m4 := Int.emod_lt_of_pos B hQ
  generalize B % Q = b at *
  generalize B / Q = t at *
  generalize Y % Q = y at *
  generalize Y / Q = s at *
  have e3 : Y + a * B = (y + a * b) + Q * (s + a * t) := by
    rw [← e1, ← e2, Int.mul_add, Int.mul_add, Int.mul_left_comm a Q t]; omega
  rw [e3, Int.add_mul_ediv_left _ _ (show Q ≠ 0 by omega)]
  have k1 : 0 ≤ a * b := Int.mul_nonneg a0 m3
  have k2 : a * b ≤ 65535 * (Q - 1) := Int.mul_le_mul (by omega) (by omega) m3 (by decide)
  have l0 : 0 ≤ (y + a * b) / Q := Int.ediv_nonneg (by omega) (by omega)
  have l1 : (y + a * b) / Q < 65536 := by
    apply Int.ediv_lt_of_lt_mul hQ
    omega
  omega

/-- What the first i digits of A make of B. -/
def xi (A B : Int) (i : Nat) : Int := A % 65536 ^ i * B
theorem xi_succ (A B : Int) (i : Nat) : xi A B (i + 1) = xi A B i + 65536 ^ i * (A / 65536 ^ i % 65536 * B) := by
  unfold xi
  rw [mod_succ, Int.add_mul, Int.mul_comm (A / 65536 ^ i % 65536) (65536 ^ i), Int.mul_assoc]
theorem xi_div (A B : Int) (i : Nat) : xi A B (i + 1) / 65536 ^ i = xi A B i / 65536 ^ i + A / 65536 ^ i % 65536 * B := by
  rw [xi_succ, Int.add_mul_ediv_left _ _ (show (65536 : Int) ^ i ≠ 0 by have := pow_pos65 i; omega)]
theorem xi_bd (A B : Int) (i m : Nat) (b0 : 0 ≤ B) (b1 : B < 65536 ^ m) : 0 ≤ xi A B i ∧ xi A B i < 65536 ^ (i + m) := by
  have hP := pow_pos65 i
  have m0 := Int.emod_nonneg A (show (65536 : Int) ^ i ≠ 0 by omega)
  have m1 := Int.emod_lt_of_pos A hP
  unfold xi
  refine ⟨Int.mul_nonneg m0 b0, ?_⟩
  rw [Int.pow_add]
  have k1 : A % 65536 ^ i * B ≤ (65536 ^ i - 1) * B := Int.mul_le_mul_of_nonneg_right (by omega) b0
  have k2 : (65536 : Int) ^ i * B < 65536 ^ i * 65536 ^ m := Int.mul_lt_mul_of_pos_left b1 hP
  rw [Int.sub_mul] at k1
  omega
theorem pow_split65 (X : Int) (i k : Nat) : X / 65536 ^ (i + k) = X / 65536 ^ i / 65536 ^ k := by
  rw [Int.pow_add, Int.ediv_ediv_of_nonneg (Int.le_of_lt (pow_pos65 i))]
theorem xi_low (A B : Int) (i j : Nat) (h : j < i) : xi A B (i + 1) / 65536 ^ j % 65536 = xi A B i / 65536 ^ j % 65536 := by
  rw [xi_succ]
  obtain ⟨d, rfl⟩ : ∃ d, i = j + (d + 1) := ⟨i - j - 1, by omega⟩
  generalize xi A B (j + (d + 1)) = X
  generalize A / 65536 ^ (j + (d + 1)) % 65536 * B = T
  rw [Int.pow_add, Int.mul_assoc, Int.add_mul_ediv_left _ _ (show (65536 : Int) ^ j ≠ 0 by have := pow_pos65 j; omega), Int.pow_succ, Int.mul_right_comm, Int.add_mul_emod_self_right]

/-- The cells in the middle of a row: k of the second factor's digits are done. -/
def mid (A B : Int) (i k : Nat) (j : Nat) : Int := if j < i + k then xi A B (i + 1) / 65536 ^ j % 65536 else xi A B i / 65536 ^ j % 65536
theorem mid_zero (A B : Int) (i j : Nat) : mid A B i 0 j = xi A B i / 65536 ^ j % 65536 := by
  unfold mid
  split
  · exact xi_low A B i j (by omega)
  · rfl
theorem zeros_made (w' w : World) (N : Nat) (h : w'.ownsRow w.heap.size 3 1 (.slice (some ⟨w.heap.size, 0, none⟩) N N) N (madeCells #[Value.int .i64 0] N).toList) (hb : Below w.heap.size w w') :
    PR w w' N (fun _ => 0) := by
  refine ⟨⟨List.replicate N 0, by simp, ?_, fun j hj => by simp [List.getD, hj]⟩, hb⟩
  have e : (madeCells #[Value.int .i64 0] N).toList = ints (List.replicate N 0) := (toList_madeCells_one (.int .i64 0) N).trans (by simp [ints])
  rw [e] at h
  exact h

set_option maxHeartbeats 4000000 in
theorem product_any (n m : Nat) (hn : 0 < n) (hm : 0 < m) (hn' : n ≤ 50) (hm' : m ≤ 50) (A B : Int) (a0 : 0 ≤ A) (a1 : A < 65536 ^ n) (b0 : 0 ≤ B) (b1 : B < 65536 ^ m) (va vb : Value) (w : World) (ha : Ints w va (digs n A)) (hb : Ints w vb (digs m B)) :
    Calls Tryd.prog 91 #[va, vb] w (RetInts w (digs (n + m) (A * B))) := by
  obtain ⟨i0, hi, hz0, hz1, hz2⟩ := info_parts infoInt
  obtain ⟨ga, ca, rfl, hga, _, hca, _⟩ := ha.digs hn
  obtain ⟨gb, cb, rfl, hgb, _, hcb, _⟩ := hb.digs hm
  have HCA := Lib.hid hca; have HCB := Lib.hid hcb
  clear hca hcb ha hb
  go_enter Tryd.func91, Tryd.ntmps91
  go_wp2_with (at_make; refine wpList_make_full _ rfl _ _ 68 rfl w.heap.size 3 i0 (.int .i64 0) 1 Tryd.underlying68 hi hz0 hz1 .i64 .i64 _ _ (n + m) rfl rfl (by simp) (by simp) ?c1 ?c2 ?c3 ?_)
  case c1 => rw [hz2]; omega
  case c2 => unfold maxLen; omega
  case c3 => exact Nat.le_refl _
  intro w1 hown hgrow
  have hpr := zeros_made w1 w (n + m) hown ((Below.refl _ _).grown hgrow (by omega) (by simp))
  clear hown hgrow
  go_wp2
  go_loopw [6] (fun i wr => ∃ k : Nat, k ≤ n ∧ i = .int .i64 k ∧ PR w wr (n + m) (fun j => xi A B k / 65536 ^ j % 65536)) (fun i _ => n - (intOf i).toNat)
  case atStart => exact ⟨0, by omega, rfl, hpr.congr (fun j _ => by simp [xi])⟩
  case round =>
    clear hpr
    obtain ⟨i, hin, rfl, hpr⟩ := hrel
    by_cases hlt : i < n
    · have his : (i : Int) < (n : Int) := by omega
      have x0 := Int.emod_nonneg (A / 65536 ^ i) (show (65536 : Int) ≠ 0 by decide)
      have x1 := Int.emod_lt_of_pos (A / 65536 ^ i) (show (0 : Int) < 65536 by decide)
      have hpr0 := hpr.congr (O' := mid A B i 0) (fun j _ => (mid_zero A B i j).symm)
      have HPR0 := Lib.hid hpr0
      clear hpr hpr0
      obtain ⟨wo, rfl⟩ : ∃ wo : World, wo = wr := ⟨_, rfl⟩
      go_wp2
      go_loopw [7, 8] (fun c q wr => ∃ (k : Nat) (y : Int), k ≤ m ∧ q = .int .i64 k ∧ c = .int .i64 y ∧ 0 ≤ y ∧ y < 65536 ∧ Hid (y = (xi A B i / 65536 ^ i + A / 65536 ^ i % 65536 * B) / 65536 ^ k - xi A B i / 65536 ^ i / 65536 ^ k - A / 65536 ^ i % 65536 * (B / 65536 ^ k)) ∧ PR w wr (n + m) (mid A B i k)) (fun _ q _ => m - (intOf q).toNat)
      case atStart => exact ⟨0, 0, by omega, rfl, rfl, by omega, by omega, by show (0 : Int) = (xi A B i / 65536 ^ i + A / 65536 ^ i % 65536 * B) / 65536 ^ 0 - xi A B i / 65536 ^ i / 65536 ^ 0 - A / 65536 ^ i % 65536 * (B / 65536 ^ 0); simp; omega, HPR0.out⟩
      case round =>
        clear HPR0
        obtain ⟨k, y, hk, rfl, rfl, y0, y1, hy, hpr⟩ := hrel
        by_cases hlk : k < m
        · have hks : (k : Int) < (m : Int) := by omega
          have hxy : (i : Int) + (k : Int) < (n : Int) + (m : Int) := by omega
          have d1 : wr.cell? ⟨ga, i, none⟩ = some (.int .i64 (A / 65536 ^ i % 65536)) := by rw [hpr.bel.cell (p := ⟨ga, i, none⟩) hga]; exact HCA.out i hlt
          have d2 : wr.cell? ⟨gb, k, none⟩ = some (.int .i64 (B / 65536 ^ k % 65536)) := by rw [hpr.bel.cell (p := ⟨gb, k, none⟩) hgb]; exact HCB.out k hlk
          have d3 := hpr.cell (i + k) (by omega)
          have d3e : mid A B i k (i + k) = xi A B i / 65536 ^ i / 65536 ^ k % 65536 := by unfold mid; rw [if_neg (by omega), pow_split65]
          rw [d3e] at d3
          have f3 := hpr.frozen (i + k)
          obtain ⟨st1, st2⟩ := prod_step (xi A B i / 65536 ^ i) (A / 65536 ^ i % 65536) B (65536 ^ k) (pow_pos65 k) y hy.out
          have hcy := prod_carry (xi A B i / 65536 ^ i) (A / 65536 ^ i % 65536) B (65536 ^ (k + 1)) (pow_pos65 _) x0 x1
          have z0 := Int.emod_nonneg (B / 65536 ^ k) (show (65536 : Int) ≠ 0 by decide)
          have z1 := Int.emod_lt_of_pos (B / 65536 ^ k) (show (0 : Int) < 65536 by decide)
          have t0 := Int.emod_nonneg (xi A B i / 65536 ^ i / 65536 ^ k) (show (65536 : Int) ≠ 0 by decide)
          have t1 := Int.emod_lt_of_pos (xi A B i / 65536 ^ i / 65536 ^ k) (show (0 : Int) < 65536 by decide)
          rw [← Int.pow_succ] at st2
          have hmid : ∀ j, j < n + m → (if j = i + k then (xi A B i / 65536 ^ i / 65536 ^ k % 65536 + A / 65536 ^ i % 65536 * (B / 65536 ^ k % 65536) + y) % 65536 else mid A B i k j) = mid A B i (k + 1) j := by
            intro j _
            rw [st1, ← xi_div, ← pow_split65]
            unfold mid
            by_cases hj : j = i + k
            · subst hj; rw [if_pos rfl, if_pos (by omega)]
            · rw [if_neg hj]
              by_cases hj2 : j < i + k
              · rw [if_pos hj2, if_pos (by omega)]
              · rw [if_neg hj2, if_neg (by omega)]
          rw [← st2] at hcy
          have ST2 := Lib.hid st2
          have HMID := Lib.hid hmid
          have HPR := Lib.hid hpr
          clear st1 st2 hmid hpr d3e hy
          generalize xi A B i / 65536 ^ i / 65536 ^ k % 65536 = t at *
          generalize hx : A / 65536 ^ i % 65536 = x at *
          generalize B / 65536 ^ k % 65536 = z at *
          have HX := Lib.hid hx
          have mb : 0 ≤ x * z ∧ x * z ≤ 65535 * 65535 := ⟨Int.mul_nonneg x0 z0, Int.mul_le_mul (by omega) (by omega) z0 (by decide)⟩
          clear hx
          have ik0 : IntKind.i64.wrap ((i : Int) + (k : Int)) = (i : Int) + (k : Int) := IntWalk.i64_in _ (by omega)
          have ik1 : (0 : Int) ≤ (i : Int) + (k : Int) := by omega
          have ik2 : ((i : Int) + (k : Int)).toNat = i + k := by omega
          go_wp2
          go_quiet (fail)
          clear ik0 ik1 ik2
          go_wp2
          go_roundw
          case rel =>
            refine ⟨k + 1, (t + x * z + y) / 65536, by omega, by go_num, rfl, hcy.1, hcy.2, ?_, ?_⟩
            · exact ST2.out
            · exact ((HPR.out.drewN nq).store (i + k) (by omega) _).congr HMID.out
          case measure => simp [intOf]; omega
        · obtain rfl : k = m := by omega
          have his2 : (i : Int) + (k : Int) < (n : Int) + (k : Int) := by omega
          have hbd := xi_bd A B i k b0 b1
          have hbd' := xi_bd A B (i + 1) k b0 b1
          have e1 : xi A B i / 65536 ^ i / 65536 ^ k = 0 := by rw [← pow_split65]; exact Int.ediv_eq_zero_of_lt hbd.1 hbd.2
          have e2 : B / 65536 ^ k = 0 := Int.ediv_eq_zero_of_lt b0 b1
          have hy2 : y = xi A B (i + 1) / 65536 ^ (i + k) % 65536 := by
            have := hy.out
            rw [e1, e2, ← xi_div, ← pow_split65] at this
            simp at this
            omega
          have d3 := hpr.cell (i + k) (by omega)
          have f3 := hpr.frozen (i + k)
          have hfin : ∀ j, j < n + k → (if j = i + k then y else mid A B i k j) = xi A B (i + 1) / 65536 ^ j % 65536 := by
            intro j _
            by_cases hj : j = i + k
            · subst hj; rw [if_pos rfl]; exact hy2
            · rw [if_neg hj]
              unfold mid
              by_cases hj2 : j < i + k
              · rw [if_pos hj2]
              · rw [if_neg hj2]
                obtain ⟨d, rfl⟩ : ∃ d, j = (i + 1 + k) + d := ⟨j - (i + 1 + k), by omega⟩
                have g1 : xi A B i / 65536 ^ (i + 1 + k + d) = 0 := by
                  rw [show i + 1 + k + d = (i + k) + (d + 1) by omega, pow_split65, Int.ediv_eq_zero_of_lt hbd.1 hbd.2]; simp
                have g2 : xi A B (i + 1) / 65536 ^ (i + 1 + k + d) = 0 := by
                  rw [pow_split65, Int.ediv_eq_zero_of_lt hbd'.1 hbd'.2]; simp
                rw [g1, g2]
          have HFIN := Lib.hid hfin
          have HPR := Lib.hid hpr
          clear hfin hpr hy hy2 e1 e2 hbd hbd' hlk
          generalize mid A B i k (i + k) = t at d3
          go_wp2
          go_roundw
          case rel => exact ⟨i + 1, by omega, by go_num, (HPR.out.store (i + k) (by omega) y).congr HFIN.out⟩
          case measure => simp [intOf]; omega
    · obtain rfl : i = n := by omega
      have hfin := hpr.congr (O' := fun j => A * B / 65536 ^ j % 65536) (fun j _ => by
        have : xi A B i = A * B := by unfold xi; rw [Int.emod_eq_of_lt a0 a1]
        rw [this])
      have HF := Lib.hid hfin
      clear hfin hpr hlt
      go_wp2
      go_ret
      refine ⟨_, rfl, ?_, HF.out.bel⟩
      obtain ⟨L, hl, hr, ho⟩ := HF.out.row
      have hL : L = digs (i + m) (A * B) := by
        apply List.ext_getElem
        · rw [hl, digs_len]
        · intro j h1 h2
          have e1 := ho j (by omega)
          have e2 := digs_get (i + m) j (A * B) (by omega)
          simp [List.getD, h1] at e1
          simp [List.getD, h2] at e2
          rw [e1, e2]
      rw [← hL]
      exact Ints.of hr hl.symm
end Go.Proofs.YtfnfolpdbbnnlaaDoor

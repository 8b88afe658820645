/- Contract of mancipleref01.Text: the decimal digits of a number given by its eight digits. Condition: the number is in range. -/
import Derived.Test.YtojfkpmdnhkanaaRefTextM
import Derived.Test.YtojfkpmdnhkanaaHalves
import Derived.Test.YtojfkpmdnhkanaaDec
namespace Go.Proofs.Ytojfkpmdnhkanaa
open Go.RowKit
attribute [local go_sem] ext_cell ext_frozen

/-- A row of the call's own, its cells told by a function. -/
structure OwnR (w wr : World) (g cap N : Nat) (O : Nat → Int) : Prop where
  row : ∃ L : List Int, L.length = N ∧ wr.ownsRow w.heap.size 3 1 (.slice (some ⟨g, 0, none⟩) N cap) N (ints L) ∧ ∀ j, j < N → L.getD j 0 = O j
  bel : Below w.heap.size w wr
theorem OwnR.cell {w wr : World} {g cap N : Nat} {O : Nat → Int} (h : OwnR w wr g cap N O) (j : Nat) (hj : j < N) : wr.cell? ⟨g, j, none⟩ = some (.int .i64 (O j)) := by
  obtain ⟨L, hl, hr, ho⟩ := h.row
  rw [World.ownsRow.cellAt hr j (by omega), ← ho j hj]
  simp [List.getElem?_map, List.getElem?_eq_getElem (show j < L.length by omega), List.getD]
theorem OwnR.frozen {w wr : World} {g cap N : Nat} {O : Nat → Int} (h : OwnR w wr g cap N O) (j : Nat) : wr.frozen? ⟨g, j, none⟩ = false := by
  obtain ⟨L, hl, hr, ho⟩ := h.row
  exact World.ownsRow.frozenAt hr j
theorem OwnR.lt {w wr : World} {g cap N : Nat} {O : Nat → Int} (h : OwnR w wr g cap N O) : w.heap.size ≤ g ∧ g < wr.heap.size := by
  obtain ⟨L, hl, hr, ho⟩ := h.row
  exact hr.lt g rfl
theorem OwnR.congr {w wr : World} {g cap N : Nat} {O O' : Nat → Int} (h : OwnR w wr g cap N O) (he : ∀ j, j < N → O j = O' j) : OwnR w wr g cap N O' := by
  obtain ⟨⟨L, hl, hr, ho⟩, hb⟩ := h
  exact ⟨⟨L, hl, hr, fun j hj => (ho j hj).trans (he j hj)⟩, hb⟩
theorem OwnR.grow {w wr w1 : World} {g cap N : Nat} {O : Nat → Int} (h : OwnR w wr g cap N O) (hb1 : Below wr.heap.size wr w1) : OwnR w w1 g cap N O := by
  obtain ⟨⟨L, hl, hr, ho⟩, hb⟩ := h
  exact ⟨⟨L, hl, ownsRow_grow hr hb1, ho⟩, bt hb hb1⟩
theorem OwnR.store {w wr : World} {g cap N : Nat} {O : Nat → Int} (h : OwnR w wr g cap N O) (j : Nat) (hj : j < N) (x : Int) : OwnR w (wr.setCell ⟨g, j, none⟩ (.int .i64 x)) g cap N (fun i => if i = j then x else O i) := by
  have hlt := h.lt.1
  obtain ⟨⟨L, hl, hr, ho⟩, hb⟩ := h
  refine ⟨⟨L.set j x, by simpa using hl, ?_, fun i hi => ?_⟩, hb.setCell hlt _⟩
  · have := (World.ownsRow.stored hr j (.int .i64 x)).1
    simpa [ints, List.map_set] using this
  · by_cases hij : i = j
    · subst hij; rw [if_pos rfl]; simp [List.getD, List.getElem?_set_self (show i < L.length by omega)]
    · rw [if_neg hij, ← ho i hi]; simp [List.getD, List.getElem?_set_ne (Ne.symm hij)]

theorem conv_one (x : Int) (W : World) : (convert 70 9 (.slice (some ⟨W.heap.size, 0, none⟩) 1 1)).run Try.prog (W.alloc (.cells #[.int .u8 x] 5)) = .ok (.string (strOfNums [x])) (W.alloc (.cells #[.int .u8 x] 5)) :=
  run_convert_bytes_arg _ 70 5 Try.underlying70 Try.underlying5 W.heap.size 0 1 1 [x] rfl (fun i hi => by
    obtain rfl : i = 0 := by omega
    simp [go_sem]) 9 Try.underlying9
theorem str_cons (x : Int) (S : List Int) : strOfNums [x] ++ strOfNums S = strOfNums (x :: S) := by
  apply Go.WideShapes.bytes_inj
  simp [strOfNums]

/-- The loop's state: what is left to write, and what is written. -/
structure TX (w wr : World) (V : Int) (g cap : Nat) (m : Nat) (cur : Int) (S : List Int) : Prop where
  len : S.length + m = 39
  wd : Wd cur
  pow : cur < 10 ^ m
  some : m = 39 ∨ cur ≠ 0
  text : decL 40 V = decL (m + 1) cur ++ S
  own : OwnR w wr g cap 8 (fun j => cur / 65536 ^ j % 65536)
theorem TX.pos {w wr : World} {V : Int} {g cap m : Nat} {cur : Int} {S : List Int} (h : TX w wr V g cap m cur S) : ∃ j, m = j + 1 := by
  cases m with
  | zero =>
    have h1 := h.pow; have h2 := h.wd.lo; have h3 := h.some
    simp at h1
    omega
  | succ j => exact ⟨j, rfl⟩
theorem TX.stop {w wr : World} {V : Int} {g cap m : Nat} {cur : Int} {S : List Int} (h : TX w wr V g cap m cur S) (h0 : cur / 10 = 0) : decL 40 V = (48 + cur % 10) :: S := by
  rw [h.text, decL_stop _ _ h0]; rfl
theorem TX.go {w wr wr' : World} {V : Int} {g cap m : Nat} {cur : Int} {S : List Int} (h : TX w wr V g cap (m + 1) cur S) (h0 : cur / 10 ≠ 0) (ho : OwnR w wr' g cap 8 (fun j => cur / 10 / 65536 ^ j % 65536)) : TX w wr' V g cap m (cur / 10) ((48 + cur % 10) :: S) := by
  have h1 := h.wd.lo; have h2 := h.wd.hi; have h3 := h.len; have h4 := h.pow
  refine ⟨by simp; omega, ⟨by omega, by omega⟩, ?_, .inr h0, ?_, ho⟩
  · rw [Int.pow_succ] at h4; omega
  · rw [h.text, decL_go _ _ h0, List.append_assoc]; rfl
def strSize : Value → Nat
  | .string s => s.size
  | _ => 0

set_option maxRecDepth 100000 in
set_option maxHeartbeats 4000000 in
theorem reftext_any (V : Int) (hV : Wd V) (va : Value) (w : World) (ha : Ints w va (digs 8 V)) :
    Calls Try.prog 47 #[va] w fun e w' => e = .returned (.string (decS V)) ∧ Below w.heap.size w w' := by
  obtain ⟨i0, hi, hz0, hz1, hz2⟩ := info_parts infoInt
  obtain ⟨ga, ca, rfl, hga, _, hca, _⟩ := ha.digs (by decide)
  have HCA := Lib.hid hca
  clear hca ha
  go_enter Try.func47, Try.ntmps47
  go_wp2_with (at_builtin; refine wpList_append_own _ rfl _ _ 28 rfl w.heap.size 3 i0 (.int .i64 0) 1 8 Try.underlying28 hi hz0 hz1 hz2 rfl (by decide) _ _ _ rfl (World.ownsRow_made w #[] 0 (Nat.le_refl _) (by unfold maxLen; omega) rfl) ⟨ga, 0, none⟩ 8 ca (ints (digs 8 V)) rfl (by simp [digs_len]) ?c1 ?c2 ?c3 ?c4 ?c5 ?_)
  case c1 =>
    intro j u' hj
    have hl : j < 8 := by
      rcases Nat.lt_or_ge j 8 with h | h
      · exact h
      · rw [List.getElem?_eq_none (by simp [digs_len]; exact h)] at hj; cases hj
    have e : (⟨ga, 0, none⟩ : Addr).add j = ⟨ga, j, none⟩ := by unfold Addr.add; split <;> simp_all
    rw [e, World.cell?_alloc_past _ _ _ (by first | exact hga | omega), HCA.out j hl, ← digs_get 8 j V hl, ← hj]
    simp [List.getElem?_map, List.getElem?_eq_getElem (show j < (digs 8 V).length by rw [digs_len]; exact hl), List.getD]
  case c2 => intro u' hu; simp at hu; obtain ⟨x, _, rfl⟩ := hu; rfl
  case c3 => unfold maxLen; omega
  case c4 => omega
  case c5 => show w.heap.size ≤ (w.heap.push _).size; rw [Array.size_push]; omega
  intro v' w1 hown' hgrow _
  have hb1 : Below w.heap.size w w1 := (ba (Below.refl _ _) _).grown hgrow (by show w.heap.size ≤ (w.heap.push _).size; rw [Array.size_push]; omega) (by intro k hk; exact Nat.le_of_eq (by simpa [Value.ownBlock] using hk))
  obtain ⟨g, cap, rfl⟩ : ∃ g cap, v' = .slice (some ⟨g, 0, none⟩) 8 cap := by
    rcases hown'.2 with ⟨_, h⟩ | ⟨g, cap, _, h, _⟩
    · omega
    · exact ⟨g, cap, h⟩
  have hO : OwnR w w1 g cap 8 (fun j => V / 65536 ^ j % 65536) := ⟨⟨digs 8 V, digs_len 8 V, hown', fun j hj => digs_get 8 j V hj⟩, hb1⟩
  have HO := Lib.hid hO
  clear hown' hgrow hb1 hO
  go_wp2
  go_loopw [3, 4] (fun sv ag wr => ∃ S : List Int, sv = .string (strOfNums S) ∧ S.length ≤ 39 ∧ ((∃ m cur, ag = .bool true ∧ Hid (TX w wr V g cap m cur S)) ∨ (ag = .bool false ∧ Hid (decL 40 V = S) ∧ Hid (Below w.heap.size w wr)))) (fun sv _ _ => 50 - strSize sv)
  case atStart =>
    refine ⟨[], rfl, by simp, .inl ⟨39, V, rfl, Lib.hid ⟨rfl, hV, ?_, .inl rfl, (List.append_nil _).symm, HO.out⟩⟩⟩
    have h2 := hV.hi
    rw [B128_eq] at h2; omega
  case round =>
    clear HO
    obtain ⟨S, rfl, hS, ⟨m, cur, rfl, HT⟩ | ⟨rfl, HL, HB⟩⟩ := hrel
    · obtain ⟨j, rfl⟩ := HT.out.pos
      have hlen := HT.out.len
      have hc0 := HT.out.wd.lo
      have hs8 : cur / 65536 ^ 8 = 0 := by
        have := HT.out.wd.hi; rw [B128_eq] at this
        exact Int.ediv_eq_zero_of_lt hc0 (by have e : (65536 : Int) ^ 8 = 340282366920938463463374607431768211456 := by decide
                                             rw [e]; exact this)
      have H8 := Lib.hid hs8
      clear hs8
      go_wp2
      go_loopw [4, 5, 6] (fun ag rs iv wr => ∃ (k : Nat) (r : Int) (b : Bool), k ≤ 8 ∧ iv = .int .i64 ((k : Int) - 1) ∧ rs = .int .i64 r ∧ ag = .bool b ∧ 0 ≤ r ∧ r ≤ 9 ∧ Hid (r = cur / 65536 ^ k % 10) ∧ Hid (b = decide (0 < cur / 65536 ^ k / 10)) ∧ Hid (OwnR w wr g cap 8 (midT cur k))) (fun _ _ iv _ => (intOf iv + 1).toNat)
      case atStart =>
        refine ⟨8, 0, false, by omega, rfl, rfl, rfl, by omega, by omega, Lib.hid ?_, Lib.hid ?_, Lib.hid (HT.out.own.congr fun i hi => (midT_top cur 8 i hi).symm)⟩
        · rw [H8.out]; rfl
        · rw [H8.out]; rfl
      case round =>
        obtain ⟨k, r, b, hk, rfl, rfl, rfl, r0, r1, HR, HBb, HO⟩ := hrel
        cases k with
        | zero =>
          have hr : r = cur % 10 := by have := HR.out; simpa using this
          have hbq : b = decide (0 < cur / 10) := by have := HBb.out; simpa using this
          have hO2 : OwnR w wr g cap 8 (fun q => cur / 10 / 65536 ^ q % 65536) := HO.out.congr (fun q _ => midT_zero cur q)
          have hsz : (strOfNums [48 + r]).size + (strOfNums S).size ≤ 9223372036854775807 := by rw [strOfNums_size, strOfNums_size]; simp; omega
          have HRr := Lib.hid hr; have HBq := Lib.hid hbq; have HO2 := Lib.hid hO2
          clear hr hbq hO2 HR HBb HO
          go_wp2
          rw [conv_one (48 + r) wr]
          go_wp2
          go_roundw
          case rel =>
            have hT := HT.out
            have hbl := HO2.out.bel
            by_cases hq : cur / 10 = 0
            · refine ⟨(48 + r) :: S, by rw [str_cons], by simp; omega, .inr ⟨by rw [HBq.out, hq]; rfl, Lib.hid (by rw [HRr.out]; exact hT.stop hq), Lib.hid (hbl.alloc hbl.size _)⟩⟩
            · refine ⟨(48 + r) :: S, by rw [str_cons], by simp; omega, .inl ⟨j, cur / 10, ?_, Lib.hid ?_⟩⟩
              · rw [HBq.out, decide_eq_true]
                have := hT.wd.lo
                omega
              · rw [HRr.out]; exact hT.go hq (HO2.out.grow (ba (Below.refl _ _) _))
          case measure =>
            show 50 - (strOfNums [48 + r] ++ strOfNums S).size < 50 - (strOfNums S).size
            rw [str_cons, strOfNums_size, strOfNums_size]
            simp; omega
        | succ i =>
          have hks : (i : Int) < 8 := by omega
          have d1 := HO.out.cell i (by omega)
          have f1 := HO.out.frozen i
          rw [midT_top cur (i + 1) i (by omega)] at d1
          have hst := midT_step cur i
          have hrs := rest_step cur i
          have hms := more_step cur hc0 i
          rw [← HR.out] at hst hrs hms
          rw [← HBb.out] at hms
          have x0 := Int.emod_nonneg (cur / 65536 ^ i) (show (65536 : Int) ≠ 0 by decide)
          have x1 := Int.emod_lt_of_pos (cur / 65536 ^ i) (show (0 : Int) < 65536 by decide)
          generalize cur / 65536 ^ i % 65536 = z at *
          have HST := Lib.hid hst; have HRS := Lib.hid hrs; have HMS := Lib.hid hms
          have hlt := HO.out.lt.2
          clear hst hrs hms HR HBb
          cases b with
          | false =>
            go_wp2
            go_roundw
            case rel => exact ⟨i, (r * 65536 + z) % 10, decide (0 < (r * 65536 + z) / 10), by omega, by go_num, rfl, rfl, by omega, by omega, HRS, Lib.hid (HMS.out.symm ▸ rfl), Lib.hid ((HO.out.store i (by omega) _).congr (fun q _ => HST.out q))⟩
            case measure => simp [intOf]
          | true =>
            go_wp2
            go_roundw
            case rel => exact ⟨i, (r * 65536 + z) % 10, true, by omega, by go_num, rfl, rfl, by omega, by omega, HRS, Lib.hid (HMS.out.symm ▸ rfl), Lib.hid ((HO.out.store i (by omega) _).congr (fun q _ => HST.out q))⟩
            case measure => simp [intOf]
    · go_wp2
      go_ret
      exact ⟨by show Ending.returned (.string (strOfNums S)) = _; unfold decS; rw [HL.out], HB.out⟩
end Go.Proofs.Ytojfkpmdnhkanaa

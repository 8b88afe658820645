/- queue: what a nil object and a plain one answer. -/
import Derived.Test.YtnckjacbkhoppaaQ7
namespace Go.Proofs.Ytnckjacbkhoppaa
open Go.RowKit Go.Maps
attribute [local go_sem] ext_cell ext_frozen extC_cell extC_frozen Mix.calmUpon Mix.mUpon
/-- Block b is a plain object. -/
def PL (w : World) (b : Nat) : Prop := w.heap[b]? = some (.cells #[.int .i64 0, .map none] 137 (0, 0))
theorem PL.lt {w : World} {b : Nat} (h : PL w b) : b < w.heap.size := (Array.getElem?_eq_some_iff.1 h).1
theorem PL.below {w w' : World} {b : Nat} (h : PL w b) (hb : Below w.heap.size w w') : PL w' b := (hb.block b h.lt).trans h
theorem PL.c1 {w : World} {b : Nat} (h : PL w b) : w.cell? ⟨b, 1, none⟩ = some (.map none) := by unfold PL at h; simp [World.cell?, h]
set_option maxRecDepth 100000 in
theorem qfind_nil (k : Int) : Pure Try.prog 108 #[.pointer none, .int .i64 k] (.tuple #[qzero, .bool false]) := by
  intro w
  go_enter Try.func108, Try.ntmps108
  go_wp2
  refine bodyPost_ret (v := .tuple #[qzero, .bool false]) ?_ rfl ⟨rfl, ?_⟩
  · rw [results_cell_tmp Try.results108]
    simp [asAddr, Result.andThen, go_sem]
  · (repeat (first | assumption | exact Below.refl _ _ | refine ba ?_ _ | refine bd ?_ | refine bdn ?_ _ | refine bs ?_ (by first | omega | (simp; done) | (simp; omega)) _ | refine bt ?_ (by assumption)))
theorem look_nil (w : World) {k : Int} (hk : I64 k) : (Instr.lookup 135 (.map none) (.int .i64 k) true).run Try.prog w = .ok (.tuple #[qzero, .bool false]) w := by
  have hz : (zeroValue 172).run Try.prog w = .ok qzero w := Try.zeroValue172 w
  have := look_nilmap (E := K64) key64 Try.underlying135 hz (x := k) hk true
  exact this
set_option maxRecDepth 100000 in
theorem qfind_plain {w : World} {b : Nat} (h : PL w b) {k : Int} (hk : I64 k) : Calls Try.prog 108 #[ptr b, .int .i64 k] w fun e w' => e = .returned (.tuple #[qzero, .bool false]) ∧ Below w.heap.size w w' := by
  have hl := h.lt
  have c1 := h.c1
  have hlook := fun w => look_nil w hk
  clear h
  go_enter Try.func108, Try.ntmps108
  go_wp2
  refine bodyPost_ret (v := .tuple #[qzero, .bool false]) ?_ rfl ⟨rfl, ?_⟩
  · rw [results_cell_tmp Try.results108]
    simp [asAddr, Result.andThen, go_sem]
  · (repeat (first | assumption | exact Below.refl _ _ | refine ba ?_ _ | refine bd ?_ | refine bdn ?_ _ | refine bs ?_ (by first | omega | (simp; done) | (simp; omega)) _ | refine bt ?_ (by assumption)))
set_option maxRecDepth 100000 in
theorem qopen_nil (k : Int) : Pure Try.prog 72 #[.pointer none, .int .i64 k] (.bool false) := by
  intro w
  go_enter Try.func72, Try.ntmps72
  go_wp2
  go_ret
  exact ⟨rfl, Below.refl _ _⟩
set_option maxRecDepth 100000 in
theorem qopen_plain {w : World} {b : Nat} (h : PL w b) (k : Int) : Calls Try.prog 72 #[ptr b, .int .i64 k] w fun e w' => e = .returned (.bool false) ∧ Below w.heap.size w w' := by
  have hl := h.lt
  have c1 := h.c1
  have hmn := fun w : World => Go.run_eql_map_nil (P := Try.prog) w 135 _ _ none Try.underlying135
  clear h
  go_enter Try.func72, Try.ntmps72
  go_wp2
  go_ret
  exact ⟨rfl, Below.refl _ _⟩
set_option maxRecDepth 100000 in
theorem qtake_plain {w : World} {b : Nat} (h : PL w b) {k n : Int} (hk : I64 k) : Calls Try.prog 74 #[ptr b, .int .i64 k, .int .i64 n] w fun e w' => e = .returned (.slice none 0 0) ∧ Below w.heap.size w w' := by
  have HF := Lib.hid (qfind_plain h hk)
  clear h
  by_cases h1 : n < 1
  · go_enter Try.func74, Try.ntmps74
    go_wp2_with fail
    refine HF.out.mono ?_
    rintro e w1 ⟨rfl, hb1⟩
    have HB1 := Lib.hid hb1
    go_wp2
    go_ret
    exact ⟨rfl, ba HB1.out _⟩
  · go_enter Try.func74, Try.ntmps74
    go_wp2_with fail
    refine HF.out.mono ?_
    rintro e w1 ⟨rfl, hb1⟩
    have HB1 := Lib.hid hb1
    go_wp2
    go_ret
    exact ⟨rfl, ba HB1.out _⟩
set_option maxRecDepth 100000 in
theorem qthose_nil : Pure Try.prog 69 #[.pointer none] (.slice none 0 0) := by
  intro w
  go_enter Try.func69, Try.ntmps69
  go_wp2
  go_ret
  exact ⟨rfl, Below.refl _ _⟩
set_option maxRecDepth 100000 in
theorem qput_nil {w : World} {va : Value} {l : List Ev} (hA : EL w va l) (hl : l.length < 1000000) : Calls Try.prog 73 #[.pointer none, va] w fun e w' => e = .returned (.int .i64 0) ∧ Below w.heap.size w w' := by
  obtain ⟨a, n, cap, rfl, hn, hc, hm, hat⟩ := hA.rs.at_
  have HA := Lib.hid hat
  have HV := Lib.hid hA.vec
  have HN := Lib.hid hn
  have hnm : n < 1000000 := by omega
  clear hat hn hm hA hl
  go_enter Try.func73, Try.ntmps73
  go_wp2
  go_loopw [5, 12] (fun cv iv wr => ∃ (t : Nat), t ≤ n ∧ cv = .int .i64 0 ∧ iv = .int .i64 t ∧ Hid (Below w.heap.size w wr)) (fun cv iv _ => n - (intOf iv).toNat)
  case atStart => exact ⟨0, Nat.zero_le _, rfl, rfl, Lib.hid (Below.refl _ _)⟩
  case round =>
    obtain ⟨t, ht, rfl, rfl, HQ⟩ := hrel
    obtain ⟨w0, rfl⟩ : ∃ w0, w0 = wr := ⟨_, rfl⟩
    by_cases hlt : t < n
    · have hts : (t : Int) < (n : Int) := by omega
      obtain ⟨x, hx⟩ := at_lt (l := l) (i := t) (by rw [← HN.out]; exact hlt)
      obtain ⟨b, off, rfl, hb, hcell⟩ := HA.out t x hx
      have c0 := (HQ.out.cell (p := ⟨b, off + t * 5 + 0, none⟩) hb).trans (hcell 0 _ rfl)
      have c1 := (HQ.out.cell (p := ⟨b, off + t * 5 + 1, none⟩) hb).trans (hcell 1 _ rfl)
      have c2 := (HQ.out.cell (p := ⟨b, off + t * 5 + 2, none⟩) hb).trans (hcell 2 _ rfl)
      have c3 := (HQ.out.cell (p := ⟨b, off + t * 5 + 3, none⟩) hb).trans (hcell 3 _ rfl)
      have c4 := (HQ.out.cell (p := ⟨b, off + t * 5 + 4, none⟩) hb).trans (hcell 4 _ rfl)
      simp only [Nat.add_zero] at c0
      have hbw : b < w0.heap.size := Nat.lt_of_lt_of_le hb HQ.out.size
      obtain ⟨va, vc, hvv, -, -⟩ := (HV.out x (mem_at hx)).form
      obtain ⟨x0, x1, x2, x3, xv, xs⟩ := x
      obtain ⟨vn, hvn⟩ : ∃ vn, vn = xs.length := ⟨_, rfl⟩
      simp only at hvv c0 c1 c2 c3 c4
      rw [← hvn] at hvv
      subst hvv
      clear hcell hx hb hvn
      have HF := Lib.hid (qfind_nil x1)
      go_wp2_with fail
      refine (HF.out _).mono ?_
      rintro e w2 ⟨rfl, hb2⟩
      have HB2 := Lib.hid (ba (bt (ba (Below.refl _ _) _) hb2) (.cells #[.slice none 0 0, .int .i64 0] 172) : Below w0.heap.size w0 _)
      have HB3 := Lib.hid (bt HQ.out HB2.out)
      clear hb2
      go_wp2
      go_roundw
      case rel => exact ⟨t + 1, by omega, rfl, by go_num, HB3⟩
      case measure => simp [intOf]; omega
    · obtain rfl : n = t := by omega
      go_wp2
      go_ret
      exact ⟨rfl, HQ.out⟩
end Go.Proofs.Ytnckjacbkhoppaa

/- life: the walk of LifeLives. -/
import Derived.Test.YtennhfkhdfalfaaLgB
namespace Go.Proofs.Ytennhfkhdfalfaa
open Go.RowKit Go.Maps
attribute [local go_sem] ext_cell ext_frozen extC_cell extC_frozen Mix.calmUpon Mix.mUpon
theorem eqK2 (a b a' b' : Int) (w : World) : (Op.equalIn 10000 109 (.agg #[.int .i64 a, .int .i64 b]) (.agg #[.int .i64 a', .int .i64 b'])).run Try.prog w = .ok (a == a' && b == b') w := by
  have u3 := Try.underlying2
  have a3' := Try.isAgg2
  have z3 := Try.sizeOf2
  rw [show (10000 : Nat) = 9999 + 1 from rfl, Op.equalIn]
  simp only [Sem.run_bind, run_underlying Try.underlying109, Result.andThen_ok]
  simp only [Std.Legacy.Range.forIn_eq_forIn_range', Std.Legacy.Range.size, Nat.sub_zero, Nat.add_sub_cancel, Nat.div_one, List.range'_succ, List.range'_zero, List.forIn_cons, List.forIn_nil]
  go_simp
  by_cases h1 : a = a' <;> by_cases h2 : b = b' <;> simp [h1, h2]
theorem drop_head {α : Type} {L : List α} {c : Nat} {x : α} {r : List α} (h : L.drop c = x :: r) : L[c]? = some x ∧ L.drop (c + 1) = r ∧ c < L.length := by
  have hc : c < L.length := by
    rcases Nat.lt_or_ge c L.length with h' | h'
    · exact h'
    · rw [List.drop_eq_nil_of_le h'] at h; cases h
  rw [List.drop_eq_getElem_cons hc] at h
  injection h with h1 h2
  exact ⟨by rw [List.getElem?_eq_getElem hc, h1], h2, hc⟩
/-- How far the lists of the answer are read. -/
structure LvS (W wr : World) (l : List Ev) (t : Nat) (L : List Lf) (O : List Int) (R : List K2) (a b c : Nat) : Prop where
  bel : Below W.heap.size W wr
  hL : L.drop a = lvs (l.drop t) t
  hO : O.drop b = opn (lvs (l.drop t) t)
  hR : R.drop c = runL (l.drop t)
  la : a ≤ L.length
  lb : b ≤ O.length
  lc : c ≤ R.length
set_option maxRecDepth 100000 in
set_option maxHeartbeats 8000000 in
theorem lives30 (v : Value) (l : List Ev) (W : World) (hr : RS 5 evenc W v l) (hI : ∀ x ∈ l, EIn W x) :
    Calls Try.prog 9 #[v] W fun e w' => e = .returned (.bool true) ∧ Below W.heap.size W w' := by
  have HFW := Lib.hid (few30 v l W hr hI)
  have HR := Lib.hid hr; have HI := Lib.hid hI
  obtain ⟨va, n, vc, rfl, hn, -, -, hatE⟩ := hr.at_
  have HATE := Lib.hid hatE; have HN := Lib.hid hn
  clear hr hI hatE hn
  go_enter Try.func9, Try.ntmps9
  go_wp2_with fail
  refine HFW.out.mono ?_
  rintro e w0 ⟨b, rfl, hb300, hw0⟩
  rw [hw0]
  clear hw0 w0
  cases b with
  | false =>
    go_wp2
    go_ret
    exact ⟨rfl, Below.refl _ _⟩
  | true =>
    have HL3 := Lib.hid (hb300 rfl)
    clear hb300
    have HEI := Lib.hid (fun w (hb : Below W.heap.size W w) => show ∀ x ∈ l, EIn w x from fun x hx => ⟨(HI.out x hx).vc.on hb, (HI.out x hx).fr, (HI.out x hx).id, (HI.out x hx).ag⟩)
    go_wp2_with fail
    refine (of_any _ l W HR.out HI.out HL3.out).mono ?_
    rintro e w1 ⟨u1, rfl, hu1, hb1⟩
    have HB1 := Lib.hid hb1; have HU1 := Lib.hid hu1
    obtain ⟨ua1, m1, uc1, rfl, hm1, -, -, hat1⟩ := hu1.at_
    have HAT1 := Lib.hid hat1; have HM1 := Lib.hid hm1
    clear hu1 hb1 hat1 hm1
    go_wp2_with fail
    refine (open_any _ l w1 (HR.out.below HB1.out) (HEI.out w1 HB1.out) HL3.out).mono ?_
    rintro e w2 ⟨u2, rfl, hu2, hb2⟩
    have HB2 := Lib.hid hb2
    obtain ⟨ua2, m2, uc2, rfl, hm2, -, -, hat2⟩ := hu2.at_
    have HAT2 := Lib.hid hat2; have HM2 := Lib.hid hm2
    clear hu2 hb2 hat2 hm2
    go_wp2_with fail
    refine (running_any _ l w2 (HR.out.below (bt HB1.out HB2.out)) (HEI.out w2 (bt HB1.out HB2.out)) HL3.out).mono ?_
    rintro e w3 ⟨u3, rfl, hu3, hb3⟩
    have HB3 := Lib.hid hb3
    obtain ⟨ua3, m3, uc3, rfl, hm3, -, -, hat3⟩ := hu3.at_
    have HAT3 := Lib.hid hat3; have HM3 := Lib.hid hm3
    clear hu3 hb3 hat3 hm3
    have hn3 : n ≤ 300 := by have := HL3.out; have := HN.out; omega
    have hk1 : m1 ≤ 300 := by have := lvs_len l 0; have := HL3.out; have := HM1.out; omega
    have hk2 : m2 ≤ 300 := by have := opn_len (lvs l 0); have := lvs_len l 0; have := HL3.out; have := HM2.out; omega
    have hk3 : m3 ≤ 300 := by have := runL_len l; have := HL3.out; have := HM3.out; omega
    have HI0 := Lib.hid (show LvS w3 w3 l 0 (lvs l 0) (opn (lvs l 0)) (runL l) 0 0 0 from ⟨Below.refl _ _, by simp, by simp, by simp, Nat.zero_le _, Nat.zero_le _, Nat.zero_le _⟩)
    obtain ⟨L, hL⟩ : ∃ L, L = lvs l 0 := ⟨_, rfl⟩
    obtain ⟨O, hO⟩ : ∃ O, O = opn (lvs l 0) := ⟨_, rfl⟩
    obtain ⟨R, hR⟩ : ∃ R, R = runL l := ⟨_, rfl⟩
    rw [← hO, ← hR, ← hL] at HI0
    rw [← hL] at HAT1 HM1
    rw [← hO] at HAT2 HM2
    rw [← hR] at HAT3 HM3
    clear hL hO hR HU1
    go_wp2
    go_loopw [6, 7, 8, 9] (fun nv ov tv iv wr => ∃ (t a b c : Nat), t ≤ n ∧ iv = .int .i64 t ∧ nv = .int .i64 a ∧ ov = .int .i64 b ∧ tv = .int .i64 c ∧ a ≤ m1 ∧ b ≤ m2 ∧ c ≤ m3 ∧ Hid (LvS w3 wr l t L O R a b c)) (fun _ _ _ iv _ => n - (intOf iv).toNat)
    case atStart => exact ⟨0, 0, 0, 0, Nat.zero_le _, rfl, rfl, rfl, rfl, Nat.zero_le _, Nat.zero_le _, Nat.zero_le _, HI0⟩
    case round =>
      clear HI0
      obtain ⟨t, a, b, c, ht, rfl, rfl, rfl, rfl, ha1, hb1, hc1, HQ⟩ := hrel
      obtain ⟨w4, rfl⟩ : ∃ w4, w4 = wr := ⟨_, rfl⟩
      have HB04 := Lib.hid (show Below W.heap.size W w4 from bt HB1.out (bt HB2.out (bt HB3.out HQ.out.bel)))
      by_cases hlt : t < n
      · have hts : (t : Int) < (n : Int) := by omega
        obtain ⟨x, hx⟩ := at_lt (l := l) (i := t) (by rw [← HN.out]; omega)
        have HX := Lib.hid hx
        have HLV := Lib.hid (lvs_cons hx)
        have HRU := Lib.hid (runL_cons hx)
        obtain ⟨eb, eoff, rfl, hb, hcell⟩ := HATE.out t x hx
        have HC := Lib.hid (And.intro hb (And.intro (show W.cell? ⟨eb, eoff + t * 5, none⟩ = some (.int .i64 x.kind) from hcell 0 _ rfl) (And.intro (show W.cell? ⟨eb, eoff + t * 5 + 1, none⟩ = some (.int .i64 x.frame) from hcell 1 _ rfl) (And.intro (show W.cell? ⟨eb, eoff + t * 5 + 2, none⟩ = some (.int .i64 x.id) from hcell 2 _ rfl) (show W.cell? ⟨eb, eoff + t * 5 + 3, none⟩ = some (.int .i64 x.agent) from hcell 3 _ rfl)))))
        have c0 := (HB04.out.cell (p := ⟨eb, eoff + t * 5, none⟩) hb).trans HC.out.2.1
        have hbl := Nat.lt_of_lt_of_le hb HB04.out.size
        obtain ⟨k, f, i, g, xv, xs⟩ := x
        simp only at c0 HLV HRU HC
        clear hcell hx hb
        by_cases h6 : k = 6
        · subst h6
          obtain ⟨C, hC⟩ : ∃ C, C = firstC (l.drop (t + 1)) (t + 1) i := ⟨_, rfl⟩
          have hLV : lvs (l.drop t) t = lfOf ⟨6, f, i, g, xv, xs⟩ t C :: lvs (l.drop (t + 1)) (t + 1) := by rw [HLV.out, if_pos rfl, hC]
          have HE := Lib.hid (end_any _ l w4 (HR.out.below HB04.out) t _ HX.out HL3.out)
          rw [← hC] at HE
          obtain ⟨to, hto⟩ : ∃ to, to = toOf C := ⟨_, rfl⟩
          obtain ⟨how, hhow⟩ : ∃ how, how = howOf C := ⟨_, rfl⟩
          rw [← hto, ← hhow] at HE
          rw [show lfOf ⟨6, f, i, g, xv, xs⟩ t C = ⟨i, f, g, t, to, how⟩ by rw [hto, hhow]; rfl] at hLV
          obtain ⟨hLa, hLd, hLl⟩ := drop_head (HQ.out.hL.trans hLV)
          have HLD := Lib.hid hLd; have HLL := Lib.hid hLl; have HLV6 := Lib.hid hLV
          have hRU : runL (l.drop t) = runL (l.drop (t + 1)) := by rw [HRU.out, if_neg (by simp)]
          have HRU6 := Lib.hid hRU
          have HTO := Lib.hid (And.intro hto hC)
          obtain ⟨lb, loff, rfl, hlb, hlc⟩ := HAT1.out a _ hLa
          have HLC := Lib.hid (And.intro hlb hlc)
          have ham : a < m1 := by rw [HM1.out]; exact hLl
          have haI : (a : Int) < (m1 : Int) := by omega
          have hag : decide ((m1 : Int) ≤ (a : Int)) = false := decide_eq_false (by omega)
          have hag2 : decide (m1 ≤ a) = false := decide_eq_false (by omega)
          have hwa : IntKind.i64.wrap ((a : Int) + 1) = (a : Int) + 1 := IntWalk.i64_in _ (by omega)
          have hwb : IntKind.i64.wrap ((b : Int) + 1) = (b : Int) + 1 := IntWalk.i64_in _ (by omega)
          clear hLV hC hhow hLd hLl hRU hLa hto hlb hlc
          go_wp2_with fail
          refine HE.out.mono ?_
          rintro e w5 ⟨rfl, hb5⟩
          have HB05 := Lib.hid (bt HB04.out hb5)
          have HB5 := Lib.hid hb5
          have hb15 : Below w1.heap.size w1 w5 := bt HB2.out (bt HB3.out (bt HQ.out.bel hb5))
          have HB15 := Lib.hid hb15
          have e0 := (HB05.out.cell (p := ⟨eb, eoff + t * 5, none⟩) HC.out.1).trans HC.out.2.1
          have e1 := (HB05.out.cell (p := ⟨eb, eoff + t * 5 + 1, none⟩) HC.out.1).trans HC.out.2.2.1
          have e2 := (HB05.out.cell (p := ⟨eb, eoff + t * 5 + 2, none⟩) HC.out.1).trans HC.out.2.2.2.1
          have e3 := (HB05.out.cell (p := ⟨eb, eoff + t * 5 + 3, none⟩) HC.out.1).trans HC.out.2.2.2.2
          have hbl := Nat.lt_of_lt_of_le HC.out.1 HB05.out.size
          have d0 := (hb15.cell (p := ⟨lb, loff + a * 6 + 0, none⟩) HLC.out.1).trans (HLC.out.2 0 _ rfl)
          have d1 := (hb15.cell (p := ⟨lb, loff + a * 6 + 1, none⟩) HLC.out.1).trans (HLC.out.2 1 _ rfl)
          have d2 := (hb15.cell (p := ⟨lb, loff + a * 6 + 2, none⟩) HLC.out.1).trans (HLC.out.2 2 _ rfl)
          have d3 := (hb15.cell (p := ⟨lb, loff + a * 6 + 3, none⟩) HLC.out.1).trans (HLC.out.2 3 _ rfl)
          have d4 := (hb15.cell (p := ⟨lb, loff + a * 6 + 4, none⟩) HLC.out.1).trans (HLC.out.2 4 _ rfl)
          have d5 := (hb15.cell (p := ⟨lb, loff + a * 6 + 5, none⟩) HLC.out.1).trans (HLC.out.2 5 _ rfl)
          simp only [Nat.add_zero] at d0 d1 d2 d3 d4 d5
          have hlbl := Nat.lt_of_lt_of_le HLC.out.1 hb15.size
          have heq : ∀ w, (Op.equalIn 10000 107 (.agg #[.int .i64 i, .int .i64 f, .int .i64 g, .int .i64 t, .int .i64 to, .int .i64 how]) (.agg #[.int .i64 i, .int .i64 f, .int .i64 g, .int .i64 t, .int .i64 to, .int .i64 how])).run Try.prog w = .ok true w := fun w => by rw [eqL6]; simp
          clear hb5 hb15 c0
          go_wp2
          refine Mix.regionC (fun _ => False) (by kernel_rfl) ?_
          intro w6 hb6
          refine Mix.take_exC _ _ 0 rfl (by kernel_rfl) (by kernel_rfl) (by kernel_rfl) (by kernel_rfl) (fun K hK => ?_)
          go_simp
          first | (refine hK _ ?_; clear hK K) | (apply Exists.intro; refine ⟨fun x => ?_, hK _ ?_⟩; (fail); clear hK K)
          refine Mix.take_exC _ _ 1 rfl (by kernel_rfl) (by kernel_rfl) (by kernel_rfl) (by kernel_rfl) (fun K hK => ?_)
          go_simp
          first | (refine hK _ ?_; clear hK K) | (apply Exists.intro; refine ⟨fun x => ?_, hK _ ?_⟩; (fail); clear hK K)
          refine Mix.take_exC _ _ 2 rfl (by kernel_rfl) (by kernel_rfl) (by kernel_rfl) (by kernel_rfl) (fun K hK => ?_)
          go_simp
          first | (refine hK _ ?_; clear hK K) | (apply Exists.intro; refine ⟨fun x => ?_, hK _ ?_⟩; (fail); clear hK K)
          refine Mix.take_exC _ _ 3 rfl (by kernel_rfl) (by kernel_rfl) (by kernel_rfl) (by kernel_rfl) (fun K hK => ?_)
          go_simp
          first | (refine hK _ ?_; clear hK K) | (apply Exists.intro; refine ⟨fun x => ?_, hK _ ?_⟩; (fail); clear hK K)
          refine Mix.take_exC _ _ 4 rfl (by kernel_rfl) (by kernel_rfl) (by kernel_rfl) (by kernel_rfl) (fun K hK => ?_)
          go_simp
          first | (refine hK _ ?_; clear hK K) | (apply Exists.intro; refine ⟨fun x => ?_, hK _ ?_⟩; (fail); clear hK K)
          refine Mix.take_exC _ _ 5 rfl (by kernel_rfl) (by kernel_rfl) (by kernel_rfl) (by kernel_rfl) (fun K hK => ?_)
          go_simp
          first | (refine hK _ ?_; clear hK K) | (apply Exists.intro; refine ⟨fun x => ?_, hK _ ?_⟩; (fail); clear hK K)
          refine Mix.take_exC _ _ 6 rfl (by kernel_rfl) (by kernel_rfl) (by kernel_rfl) (by kernel_rfl) (fun K hK => ?_)
          go_simp
          first | (refine hK _ ?_; clear hK K) | (apply Exists.intro; refine ⟨fun x => ?_, hK _ ?_⟩; (fail); clear hK K)
          refine Mix.take_exC _ _ 7 rfl (by kernel_rfl) (by kernel_rfl) (by kernel_rfl) (by kernel_rfl) (fun K hK => ?_)
          go_simp
          first | (refine hK _ ?_; clear hK K) | (apply Exists.intro; refine ⟨fun x => ?_, hK _ ?_⟩; (fail); clear hK K)
          refine Mix.take_exC _ _ 8 rfl (by kernel_rfl) (by kernel_rfl) (by kernel_rfl) (by kernel_rfl) (fun K hK => ?_)
          go_simp
          first | (refine hK _ ?_; clear hK K) | (apply Exists.intro; refine ⟨fun x => ?_, hK _ ?_⟩; (fail); clear hK K)
          refine Mix.take_exC _ _ 9 rfl (by kernel_rfl) (by kernel_rfl) (by kernel_rfl) (by kernel_rfl) (fun K hK => ?_)
          go_simp
          first | (refine hK _ ?_; clear hK K) | (apply Exists.intro; refine ⟨fun x => ?_, hK _ ?_⟩; (fail); clear hK K)
          refine Mix.take_exC _ _ 10 rfl (by kernel_rfl) (by kernel_rfl) (by kernel_rfl) (by kernel_rfl) (fun K hK => ?_)
          go_simp
          first | (refine hK _ ?_; clear hK K) | (apply Exists.intro; refine ⟨fun x => ?_, hK _ ?_⟩; (fail); clear hK K)
          refine Mix.take_exC _ _ 11 rfl (by kernel_rfl) (by kernel_rfl) (by kernel_rfl) (by kernel_rfl) (fun K hK => ?_)
          go_simp
          first | (refine hK _ ?_; clear hK K) | (apply Exists.intro; refine ⟨fun x => ?_, hK _ ?_⟩; (fail); clear hK K)
          refine Mix.take_exC _ _ 12 rfl (by kernel_rfl) (by kernel_rfl) (by kernel_rfl) (by kernel_rfl) (fun K hK => ?_)
          go_simp
          first | (refine hK _ ?_; clear hK K) | (apply Exists.intro; refine ⟨fun x => ?_, hK _ ?_⟩; (fail); clear hK K)
          refine Mix.take_exC _ _ 13 rfl (by kernel_rfl) (by kernel_rfl) (by kernel_rfl) (by kernel_rfl) (fun K hK => ?_)
          go_simp
          first | (refine hK _ ?_; clear hK K) | (apply Exists.intro; refine ⟨fun x => ?_, hK _ ?_⟩; (fail); clear hK K)
          refine Mix.take_exC _ _ 14 rfl (by kernel_rfl) (by kernel_rfl) (by kernel_rfl) (by kernel_rfl) (fun K hK => ?_)
          go_simp
          first | (refine hK _ ?_; clear hK K) | (apply Exists.intro; refine ⟨fun x => ?_, hK _ ?_⟩; (fail); clear hK K)
          refine Mix.take_exC _ _ 15 rfl (by kernel_rfl) (by kernel_rfl) (by kernel_rfl) (by kernel_rfl) (fun K hK => ?_)
          go_simp
          first | (refine hK _ ?_; clear hK K) | (apply Exists.intro; refine ⟨fun x => ?_, hK _ ?_⟩; (fail); clear hK K)
          refine Mix.take_exC _ _ 16 rfl (by kernel_rfl) (by kernel_rfl) (by kernel_rfl) (by kernel_rfl) (fun K hK => ?_)
          go_simp
          first | (refine hK _ ?_; clear hK K) | (apply Exists.intro; refine ⟨fun x => ?_, hK _ ?_⟩; (fail); clear hK K)
          refine Mix.take_exC _ _ 17 rfl (by kernel_rfl) (by kernel_rfl) (by kernel_rfl) (by kernel_rfl) (fun K hK => ?_)
          go_simp
          first | (refine hK _ ?_; clear hK K) | (apply Exists.intro; refine ⟨fun x => ?_, hK _ ?_⟩; (fail); clear hK K)
          refine Mix.take_exC _ _ 18 rfl (by kernel_rfl) (by kernel_rfl) (by kernel_rfl) (by kernel_rfl) (fun K hK => ?_)
          go_simp
          first | (refine hK _ ?_; clear hK K) | (apply Exists.intro; refine ⟨fun x => ?_, hK _ ?_⟩; (fail); clear hK K)
          refine Mix.take_exC _ _ 19 rfl (by kernel_rfl) (by kernel_rfl) (by kernel_rfl) (by kernel_rfl) (fun K hK => ?_)
          go_simp
          first | (refine hK _ ?_; clear hK K) | (apply Exists.intro; refine ⟨fun x => ?_, hK _ ?_⟩; (fail); clear hK K)
          refine Mix.take_exC _ _ 20 rfl (by kernel_rfl) (by kernel_rfl) (by kernel_rfl) (by kernel_rfl) (fun K hK => ?_)
          go_simp
          first | (refine hK _ ?_; clear hK K) | (apply Exists.intro; refine ⟨fun x => ?_, hK _ ?_⟩; (fail); clear hK K)
          refine Mix.take_exC _ _ 21 rfl (by kernel_rfl) (by kernel_rfl) (by kernel_rfl) (by kernel_rfl) (fun K hK => ?_)
          go_simp
          first | (refine hK _ ?_; clear hK K) | (apply Exists.intro; refine ⟨fun x => ?_, hK _ ?_⟩; (fail); clear hK K)
          refine Mix.take_exC _ _ 22 rfl (by kernel_rfl) (by kernel_rfl) (by kernel_rfl) (by kernel_rfl) (fun K hK => ?_)
          go_simp
          first | (refine hK _ ?_; clear hK K) | (apply Exists.intro; refine ⟨fun x => ?_, hK _ ?_⟩; (fail); clear hK K)
          refine Mix.take_exC _ _ 23 rfl (by kernel_rfl) (by kernel_rfl) (by kernel_rfl) (by kernel_rfl) (fun K hK => ?_)
          go_simp
          first | (refine hK _ ?_; clear hK K) | (apply Exists.intro; refine ⟨fun x => ?_, hK _ ?_⟩; (fail); clear hK K)
          refine Mix.take_exC _ _ 24 rfl (by kernel_rfl) (by kernel_rfl) (by kernel_rfl) (by kernel_rfl) (fun K hK => ?_)
          go_simp
          first | (refine hK _ ?_; clear hK K) | (apply Exists.intro; refine ⟨fun x => ?_, hK _ ?_⟩; (fail); clear hK K)
          refine Mix.take_exC _ _ 25 rfl (by kernel_rfl) (by kernel_rfl) (by kernel_rfl) (by kernel_rfl) (fun K hK => ?_)
          go_simp
          first | (refine hK _ ?_; clear hK K) | (apply Exists.intro; refine ⟨fun x => ?_, hK _ ?_⟩; (fail); clear hK K)
          refine Mix.take_exC _ _ 26 rfl (by kernel_rfl) (by kernel_rfl) (by kernel_rfl) (by kernel_rfl) (fun K hK => ?_)
          go_simp
          first | (refine hK _ ?_; clear hK K) | (apply Exists.intro; refine ⟨fun x => ?_, hK _ ?_⟩; (fail); clear hK K)
          refine Mix.take_exC _ _ 27 rfl (by kernel_rfl) (by kernel_rfl) (by kernel_rfl) (by kernel_rfl) (fun K hK => ?_)
          go_simp
          first | (refine hK _ ?_; clear hK K) | (apply Exists.intro; refine ⟨fun x => ?_, hK _ ?_⟩; (fail); clear hK K)
          refine Mix.take_exC _ _ 28 rfl (by kernel_rfl) (by kernel_rfl) (by kernel_rfl) (by kernel_rfl) (fun K hK => ?_)
          go_simp
          first | (refine hK _ ?_; clear hK K) | (apply Exists.intro; refine ⟨fun x => ?_, hK _ ?_⟩; (fail); clear hK K)
          refine Mix.take_exC _ _ 29 rfl (by kernel_rfl) (by kernel_rfl) (by kernel_rfl) (by kernel_rfl) (fun K hK => ?_)
          go_simp
          first | (refine hK _ ?_; clear hK K) | (apply Exists.intro; refine ⟨fun x => ?_, hK _ ?_⟩; (fail); clear hK K)
          refine Mix.done (by kernel_rfl) (.of_below _ hb6) ?_
          intro w7 hb7
          have HB57 := Lib.hid (bt hb6 hb7)
          have HB07 := Lib.hid (bt HB05.out HB57.out)
          have HB37 := Lib.hid (bt HQ.out.bel (bt HB5.out HB57.out))
          clear hb6 hb7 d0 d1 d2 d3 d4 d5 hlbl heq e0 e1 e2 e3 hbl
          have e0 := (HB07.out.cell (p := ⟨eb, eoff + t * 5, none⟩) HC.out.1).trans HC.out.2.1
          have e2 := (HB07.out.cell (p := ⟨eb, eoff + t * 5 + 2, none⟩) HC.out.1).trans HC.out.2.2.2.1
          have hbl := Nat.lt_of_lt_of_le HC.out.1 HB07.out.size
          by_cases hneg : to < 0
          · obtain ⟨hOa, hOd, hOl⟩ := drop_head (show O.drop b = i :: opn (lvs (l.drop (t + 1)) (t + 1)) by
              rw [HQ.out.hO, HLV6.out]
              unfold opn
              rw [List.filter_cons, if_pos (by simpa using hneg)]; rfl)
            obtain ⟨ob, ooff, rfl, hob, hoc⟩ := HAT2.out b _ hOa
            have hb27 : Below w2.heap.size w2 w7 := bt HB3.out HB37.out
            have o0 := (hb27.cell (p := ⟨ob, ooff + b * 1 + 0, none⟩) hob).trans (hoc 0 _ rfl)
            simp only [Nat.add_zero, Nat.mul_one] at o0
            have hobl := Nat.lt_of_lt_of_le hob hb27.size
            have hbm : b < m2 := by rw [HM2.out]; exact hOl
            have hbI : (b : Int) < (m2 : Int) := by omega
            have hbg : decide ((m2 : Int) ≤ (b : Int)) = false := decide_eq_false (by omega)
            have hbg2 : decide (m2 ≤ b) = false := decide_eq_false (by omega)
            have HQ' := Lib.hid (show ∀ w, Below w7.heap.size w7 w → LvS w3 w l (t + 1) L O R (a + 1) (b + 1) c from fun w hb => ⟨bt HB37.out hb, HLD.out, hOd, by rw [HQ.out.hR, HRU6.out], HLL.out, hOl, HQ.out.lc⟩)
            clear hOa hOd hOl hb27 hob hoc
            go_wp2
            refine Mix.regionC (fun _ => False) (by kernel_rfl) ?_
            intro w8 hb8
            refine Mix.take_exC _ _ 0 rfl (by kernel_rfl) (by kernel_rfl) (by kernel_rfl) (by kernel_rfl) (fun K hK => ?_)
            go_simp
            first | (refine hK _ ?_; clear hK K) | (apply Exists.intro; refine ⟨fun x => ?_, hK _ ?_⟩; (fail); clear hK K)
            refine Mix.take_exC _ _ 1 rfl (by kernel_rfl) (by kernel_rfl) (by kernel_rfl) (by kernel_rfl) (fun K hK => ?_)
            go_simp
            first | (refine hK _ ?_; clear hK K) | (apply Exists.intro; refine ⟨fun x => ?_, hK _ ?_⟩; (fail); clear hK K)
            refine Mix.take_exC _ _ 2 rfl (by kernel_rfl) (by kernel_rfl) (by kernel_rfl) (by kernel_rfl) (fun K hK => ?_)
            go_simp
            first | (refine hK _ ?_; clear hK K) | (apply Exists.intro; refine ⟨fun x => ?_, hK _ ?_⟩; (fail); clear hK K)
            refine Mix.take_exC _ _ 3 rfl (by kernel_rfl) (by kernel_rfl) (by kernel_rfl) (by kernel_rfl) (fun K hK => ?_)
            go_simp
            first | (refine hK _ ?_; clear hK K) | (apply Exists.intro; refine ⟨fun x => ?_, hK _ ?_⟩; (fail); clear hK K)
            refine Mix.take_exC _ _ 4 rfl (by kernel_rfl) (by kernel_rfl) (by kernel_rfl) (by kernel_rfl) (fun K hK => ?_)
            go_simp
            first | (refine hK _ ?_; clear hK K) | (apply Exists.intro; refine ⟨fun x => ?_, hK _ ?_⟩; (fail); clear hK K)
            refine Mix.take_exC _ _ 5 rfl (by kernel_rfl) (by kernel_rfl) (by kernel_rfl) (by kernel_rfl) (fun K hK => ?_)
            go_simp
            first | (refine hK _ ?_; clear hK K) | (apply Exists.intro; refine ⟨fun x => ?_, hK _ ?_⟩; (fail); clear hK K)
            refine Mix.take_exC _ _ 6 rfl (by kernel_rfl) (by kernel_rfl) (by kernel_rfl) (by kernel_rfl) (fun K hK => ?_)
            go_simp
            first | (refine hK _ ?_; clear hK K) | (apply Exists.intro; refine ⟨fun x => ?_, hK _ ?_⟩; (fail); clear hK K)
            refine Mix.take_exC _ _ 7 rfl (by kernel_rfl) (by kernel_rfl) (by kernel_rfl) (by kernel_rfl) (fun K hK => ?_)
            go_simp
            first | (refine hK _ ?_; clear hK K) | (apply Exists.intro; refine ⟨fun x => ?_, hK _ ?_⟩; (fail); clear hK K)
            refine Mix.take_exC _ _ 8 rfl (by kernel_rfl) (by kernel_rfl) (by kernel_rfl) (by kernel_rfl) (fun K hK => ?_)
            go_simp
            first | (refine hK _ ?_; clear hK K) | (apply Exists.intro; refine ⟨fun x => ?_, hK _ ?_⟩; (fail); clear hK K)
            refine Mix.take_exC _ _ 9 rfl (by kernel_rfl) (by kernel_rfl) (by kernel_rfl) (by kernel_rfl) (fun K hK => ?_)
            go_simp
            first | (refine hK _ ?_; clear hK K) | (apply Exists.intro; refine ⟨fun x => ?_, hK _ ?_⟩; (fail); clear hK K)
            refine Mix.take_exC _ _ 10 rfl (by kernel_rfl) (by kernel_rfl) (by kernel_rfl) (by kernel_rfl) (fun K hK => ?_)
            go_simp
            first | (refine hK _ ?_; clear hK K) | (apply Exists.intro; refine ⟨fun x => ?_, hK _ ?_⟩; (fail); clear hK K)
            refine Mix.take_exC _ _ 11 rfl (by kernel_rfl) (by kernel_rfl) (by kernel_rfl) (by kernel_rfl) (fun K hK => ?_)
            go_simp
            first | (refine hK _ ?_; clear hK K) | (apply Exists.intro; refine ⟨fun x => ?_, hK _ ?_⟩; (fail); clear hK K)
            refine Mix.take_exC _ _ 12 rfl (by kernel_rfl) (by kernel_rfl) (by kernel_rfl) (by kernel_rfl) (fun K hK => ?_)
            go_simp
            first | (refine hK _ ?_; clear hK K) | (apply Exists.intro; refine ⟨fun x => ?_, hK _ ?_⟩; (fail); clear hK K)
            refine Mix.take_exC _ _ 13 rfl (by kernel_rfl) (by kernel_rfl) (by kernel_rfl) (by kernel_rfl) (fun K hK => ?_)
            go_simp
            first | (refine hK _ ?_; clear hK K) | (apply Exists.intro; refine ⟨fun x => ?_, hK _ ?_⟩; (fail); clear hK K)
            refine Mix.take_exC _ _ 14 rfl (by kernel_rfl) (by kernel_rfl) (by kernel_rfl) (by kernel_rfl) (fun K hK => ?_)
            go_simp
            first | (refine hK _ ?_; clear hK K) | (apply Exists.intro; refine ⟨fun x => ?_, hK _ ?_⟩; (fail); clear hK K)
            refine Mix.take_exC _ _ 15 rfl (by kernel_rfl) (by kernel_rfl) (by kernel_rfl) (by kernel_rfl) (fun K hK => ?_)
            go_simp
            first | (refine hK _ ?_; clear hK K) | (apply Exists.intro; refine ⟨fun x => ?_, hK _ ?_⟩; (fail); clear hK K)
            refine Mix.done (by kernel_rfl) (.of_below _ hb8) ?_
            intro w9 hb9
            have HB79 := Lib.hid (bt hb8 hb9)
            have HB09 := Lib.hid (bt HB07.out HB79.out)
            clear hb8 hb9 o0 hobl e0 e2 hbl
            have e0 := (HB09.out.cell (p := ⟨eb, eoff + t * 5, none⟩) HC.out.1).trans HC.out.2.1
            have hbl := Nat.lt_of_lt_of_le HC.out.1 HB09.out.size
            have HQ9 := Lib.hid (HQ'.out w9 HB79.out)
            go_wp2
            go_roundw
            case rel => exact ⟨t + 1, a + 1, b + 1, c, by omega, by go_num, by go_num, by go_num, rfl, by omega, by omega, by omega, HQ9⟩
            case measure => simp [intOf]; omega
          · have HQ9 := Lib.hid (show LvS w3 w7 l (t + 1) L O R (a + 1) b c from ⟨HB37.out, HLD.out, by
              rw [HQ.out.hO, HLV6.out]
              unfold opn
              rw [List.filter_cons, if_neg (by simpa using hneg)], by rw [HQ.out.hR, HRU6.out], HLL.out, HQ.out.lb, HQ.out.lc⟩)
            go_wp2
            go_roundw
            case rel => exact ⟨t + 1, a + 1, b, c, by omega, by go_num, by go_num, rfl, rfl, by omega, by omega, by omega, HQ9⟩
            case measure => simp [intOf]; omega
        by_cases h13 : k = 13
        · subst h13
          have hE := runs_any _ l w4 (HR.out.below HB04.out) t _ HX.out HL3.out
          simp only at hE
          obtain ⟨r, hr⟩ : ∃ r, r = endedB (l.drop (t + 1)) f i := ⟨_, rfl⟩
          rw [← hr] at hE
          have HE := Lib.hid hE
          have HLV6 := Lib.hid (show lvs (l.drop t) t = lvs (l.drop (t + 1)) (t + 1) by rw [HLV.out, if_neg (by simp)])
          have HRU6 := Lib.hid (show runL (l.drop t) = if r = false then ⟨f, i⟩ :: runL (l.drop (t + 1)) else runL (l.drop (t + 1)) by
            rw [HRU.out, hr]
            by_cases he : endedB (l.drop (t + 1)) f i = false
            · rw [if_pos ⟨rfl, he⟩, if_pos he]
            · rw [if_neg fun h => he h.2, if_neg he])
          have hwc : IntKind.i64.wrap ((c : Int) + 1) = (c : Int) + 1 := IntWalk.i64_in _ (by omega)
          clear hE hr h6
          go_wp2_with fail
          refine HE.out.mono ?_
          rintro e w5 ⟨rfl, hb5⟩
          have HB05 := Lib.hid (bt HB04.out hb5)
          have HB35 := Lib.hid (bt HQ.out.bel hb5)
          have e1 := (HB05.out.cell (p := ⟨eb, eoff + t * 5 + 1, none⟩) HC.out.1).trans HC.out.2.2.1
          have e2 := (HB05.out.cell (p := ⟨eb, eoff + t * 5 + 2, none⟩) HC.out.1).trans HC.out.2.2.2.1
          have hbl := Nat.lt_of_lt_of_le HC.out.1 HB05.out.size
          clear hb5 c0
          cases r with
          | true =>
            have HQ9 := Lib.hid (show LvS w3 w5 l (t + 1) L O R a b c from ⟨HB35.out, by rw [HQ.out.hL, HLV6.out], by rw [HQ.out.hO, HLV6.out], by rw [HQ.out.hR, HRU6.out]; rfl, HQ.out.la, HQ.out.lb, HQ.out.lc⟩)
            go_wp2
            go_roundw
            case rel => exact ⟨t + 1, a, b, c, by omega, by go_num, rfl, rfl, rfl, by omega, by omega, by omega, HQ9⟩
            case measure => simp [intOf]; omega
          | false =>
            obtain ⟨hRa, hRd, hRl⟩ := drop_head (show R.drop c = ⟨f, i⟩ :: runL (l.drop (t + 1)) by rw [HQ.out.hR, HRU6.out]; rfl)
            obtain ⟨rb, roff, rfl, hrb, hrc⟩ := HAT3.out c _ hRa
            have r0 := (HB35.out.cell (p := ⟨rb, roff + c * 2 + 0, none⟩) hrb).trans (hrc 0 _ rfl)
            have r1 := (HB35.out.cell (p := ⟨rb, roff + c * 2 + 1, none⟩) hrb).trans (hrc 1 _ rfl)
            simp only [Nat.add_zero] at r0 r1
            have hrbl := Nat.lt_of_lt_of_le hrb HB35.out.size
            have hcm : c < m3 := by rw [HM3.out]; exact hRl
            have hcI : (c : Int) < (m3 : Int) := by omega
            have hcg : decide ((m3 : Int) ≤ (c : Int)) = false := decide_eq_false (by omega)
            have hcg2 : decide (m3 ≤ c) = false := decide_eq_false (by omega)
            have heq : ∀ w, (Op.equalIn 10000 109 (.agg #[.int .i64 f, .int .i64 i]) (.agg #[.int .i64 f, .int .i64 i])).run Try.prog w = .ok true w := fun w => by rw [eqK2]; simp
            have HQ' := Lib.hid (show ∀ w, Below w5.heap.size w5 w → LvS w3 w l (t + 1) L O R a b (c + 1) from fun w hb => ⟨bt HB35.out hb, by rw [HQ.out.hL, HLV6.out], by rw [HQ.out.hO, HLV6.out], hRd, HQ.out.la, HQ.out.lb, hRl⟩)
            clear hRa hRd hRl hrb hrc
            go_wp2
            refine Mix.regionC (fun _ => False) (by kernel_rfl) ?_
            intro w8 hb8
            refine Mix.take_exC _ _ 0 rfl (by kernel_rfl) (by kernel_rfl) (by kernel_rfl) (by kernel_rfl) (fun K hK => ?_)
            go_simp
            first | (refine hK _ ?_; clear hK K) | (apply Exists.intro; refine ⟨fun x => ?_, hK _ ?_⟩; (fail); clear hK K)
            refine Mix.take_exC _ _ 1 rfl (by kernel_rfl) (by kernel_rfl) (by kernel_rfl) (by kernel_rfl) (fun K hK => ?_)
            go_simp
            first | (refine hK _ ?_; clear hK K) | (apply Exists.intro; refine ⟨fun x => ?_, hK _ ?_⟩; (fail); clear hK K)
            refine Mix.take_exC _ _ 2 rfl (by kernel_rfl) (by kernel_rfl) (by kernel_rfl) (by kernel_rfl) (fun K hK => ?_)
            go_simp
            first | (refine hK _ ?_; clear hK K) | (apply Exists.intro; refine ⟨fun x => ?_, hK _ ?_⟩; (fail); clear hK K)
            refine Mix.take_exC _ _ 3 rfl (by kernel_rfl) (by kernel_rfl) (by kernel_rfl) (by kernel_rfl) (fun K hK => ?_)
            go_simp
            first | (refine hK _ ?_; clear hK K) | (apply Exists.intro; refine ⟨fun x => ?_, hK _ ?_⟩; (fail); clear hK K)
            refine Mix.take_exC _ _ 4 rfl (by kernel_rfl) (by kernel_rfl) (by kernel_rfl) (by kernel_rfl) (fun K hK => ?_)
            go_simp
            first | (refine hK _ ?_; clear hK K) | (apply Exists.intro; refine ⟨fun x => ?_, hK _ ?_⟩; (fail); clear hK K)
            refine Mix.take_exC _ _ 5 rfl (by kernel_rfl) (by kernel_rfl) (by kernel_rfl) (by kernel_rfl) (fun K hK => ?_)
            go_simp
            first | (refine hK _ ?_; clear hK K) | (apply Exists.intro; refine ⟨fun x => ?_, hK _ ?_⟩; (fail); clear hK K)
            refine Mix.take_exC _ _ 6 rfl (by kernel_rfl) (by kernel_rfl) (by kernel_rfl) (by kernel_rfl) (fun K hK => ?_)
            go_simp
            first | (refine hK _ ?_; clear hK K) | (apply Exists.intro; refine ⟨fun x => ?_, hK _ ?_⟩; (fail); clear hK K)
            refine Mix.take_exC _ _ 7 rfl (by kernel_rfl) (by kernel_rfl) (by kernel_rfl) (by kernel_rfl) (fun K hK => ?_)
            go_simp
            first | (refine hK _ ?_; clear hK K) | (apply Exists.intro; refine ⟨fun x => ?_, hK _ ?_⟩; (fail); clear hK K)
            refine Mix.take_exC _ _ 8 rfl (by kernel_rfl) (by kernel_rfl) (by kernel_rfl) (by kernel_rfl) (fun K hK => ?_)
            go_simp
            first | (refine hK _ ?_; clear hK K) | (apply Exists.intro; refine ⟨fun x => ?_, hK _ ?_⟩; (fail); clear hK K)
            refine Mix.take_exC _ _ 9 rfl (by kernel_rfl) (by kernel_rfl) (by kernel_rfl) (by kernel_rfl) (fun K hK => ?_)
            go_simp
            first | (refine hK _ ?_; clear hK K) | (apply Exists.intro; refine ⟨fun x => ?_, hK _ ?_⟩; (fail); clear hK K)
            refine Mix.take_exC _ _ 10 rfl (by kernel_rfl) (by kernel_rfl) (by kernel_rfl) (by kernel_rfl) (fun K hK => ?_)
            go_simp
            first | (refine hK _ ?_; clear hK K) | (apply Exists.intro; refine ⟨fun x => ?_, hK _ ?_⟩; (fail); clear hK K)
            refine Mix.take_exC _ _ 11 rfl (by kernel_rfl) (by kernel_rfl) (by kernel_rfl) (by kernel_rfl) (fun K hK => ?_)
            go_simp
            first | (refine hK _ ?_; clear hK K) | (apply Exists.intro; refine ⟨fun x => ?_, hK _ ?_⟩; (fail); clear hK K)
            refine Mix.take_exC _ _ 12 rfl (by kernel_rfl) (by kernel_rfl) (by kernel_rfl) (by kernel_rfl) (fun K hK => ?_)
            go_simp
            first | (refine hK _ ?_; clear hK K) | (apply Exists.intro; refine ⟨fun x => ?_, hK _ ?_⟩; (fail); clear hK K)
            refine Mix.take_exC _ _ 13 rfl (by kernel_rfl) (by kernel_rfl) (by kernel_rfl) (by kernel_rfl) (fun K hK => ?_)
            go_simp
            first | (refine hK _ ?_; clear hK K) | (apply Exists.intro; refine ⟨fun x => ?_, hK _ ?_⟩; (fail); clear hK K)
            refine Mix.take_exC _ _ 14 rfl (by kernel_rfl) (by kernel_rfl) (by kernel_rfl) (by kernel_rfl) (fun K hK => ?_)
            go_simp
            first | (refine hK _ ?_; clear hK K) | (apply Exists.intro; refine ⟨fun x => ?_, hK _ ?_⟩; (fail); clear hK K)
            refine Mix.take_exC _ _ 15 rfl (by kernel_rfl) (by kernel_rfl) (by kernel_rfl) (by kernel_rfl) (fun K hK => ?_)
            go_simp
            first | (refine hK _ ?_; clear hK K) | (apply Exists.intro; refine ⟨fun x => ?_, hK _ ?_⟩; (fail); clear hK K)
            refine Mix.take_exC _ _ 16 rfl (by kernel_rfl) (by kernel_rfl) (by kernel_rfl) (by kernel_rfl) (fun K hK => ?_)
            go_simp
            first | (refine hK _ ?_; clear hK K) | (apply Exists.intro; refine ⟨fun x => ?_, hK _ ?_⟩; (fail); clear hK K)
            refine Mix.take_exC _ _ 17 rfl (by kernel_rfl) (by kernel_rfl) (by kernel_rfl) (by kernel_rfl) (fun K hK => ?_)
            go_simp
            first | (refine hK _ ?_; clear hK K) | (apply Exists.intro; refine ⟨fun x => ?_, hK _ ?_⟩; (fail); clear hK K)
            refine Mix.take_exC _ _ 18 rfl (by kernel_rfl) (by kernel_rfl) (by kernel_rfl) (by kernel_rfl) (fun K hK => ?_)
            go_simp
            first | (refine hK _ ?_; clear hK K) | (apply Exists.intro; refine ⟨fun x => ?_, hK _ ?_⟩; (fail); clear hK K)
            refine Mix.take_exC _ _ 19 rfl (by kernel_rfl) (by kernel_rfl) (by kernel_rfl) (by kernel_rfl) (fun K hK => ?_)
            go_simp
            first | (refine hK _ ?_; clear hK K) | (apply Exists.intro; refine ⟨fun x => ?_, hK _ ?_⟩; (fail); clear hK K)
            refine Mix.take_exC _ _ 20 rfl (by kernel_rfl) (by kernel_rfl) (by kernel_rfl) (by kernel_rfl) (fun K hK => ?_)
            go_simp
            first | (refine hK _ ?_; clear hK K) | (apply Exists.intro; refine ⟨fun x => ?_, hK _ ?_⟩; (fail); clear hK K)
            refine Mix.take_exC _ _ 21 rfl (by kernel_rfl) (by kernel_rfl) (by kernel_rfl) (by kernel_rfl) (fun K hK => ?_)
            go_simp
            first | (refine hK _ ?_; clear hK K) | (apply Exists.intro; refine ⟨fun x => ?_, hK _ ?_⟩; (fail); clear hK K)
            refine Mix.done (by kernel_rfl) (.of_below _ hb8) ?_
            intro w9 hb9
            have HQ9 := Lib.hid (HQ'.out w9 (bt hb8 hb9))
            clear hb8 hb9 r0 r1 hrbl e1 e2 hbl
            go_wp2
            go_roundw
            case rel => exact ⟨t + 1, a, b, c + 1, by omega, by go_num, rfl, rfl, by go_num, by omega, by omega, by omega, HQ9⟩
            case measure => simp [intOf]; omega
        · have kb6 : (k == 6) = false := by simpa using h6
          have kb13 : (k == 13) = false := by simpa using h13
          have HQ' := Lib.hid (show LvS w3 w4 l (t + 1) L O R a b c from ⟨HQ.out.bel, by
            rw [HQ.out.hL, HLV.out, if_neg h6], by rw [HQ.out.hO, HLV.out, if_neg h6], by rw [HQ.out.hR, HRU.out, if_neg fun h => h13 h.1], HQ.out.la, HQ.out.lb, HQ.out.lc⟩)
          go_wp2
          go_roundw
          case rel => exact ⟨t + 1, a, b, c, by omega, by go_num, rfl, rfl, rfl, by omega, by omega, by omega, HQ'⟩
          case measure => simp [intOf]; omega
      · obtain rfl : n = t := by omega
        have hd0 : l.drop n = [] := List.drop_eq_nil_of_le (by rw [HN.out]; exact Nat.le_refl _)
        have hfull : ∀ {α : Type} (X : List α) (c : Nat), X.drop c = [] → c ≤ X.length → c = X.length := fun X c h hc => by
          have := congrArg List.length h
          rw [List.length_drop] at this
          simp only [List.length_nil] at this; omega
        obtain rfl : a = m1 := by rw [HM1.out]; exact hfull L a (by rw [HQ.out.hL, hd0]; rfl) HQ.out.la
        obtain rfl : b = m2 := by rw [HM2.out]; exact hfull O b (by rw [HQ.out.hO, hd0]; rfl) HQ.out.lb
        obtain rfl : c = m3 := by rw [HM3.out]; exact hfull R c (by rw [HQ.out.hR, hd0]; rfl) HQ.out.lc
        clear hfull hd0
        go_wp2_with fail
        refine (works30 _).mono ?_
        rintro e w6 ⟨rfl, hb6⟩
        have HB6 := Lib.hid (bt HB04.out hb6)
        clear hb6
        go_wp2
        go_ret
        exact ⟨rfl, HB6.out⟩
end Go.Proofs.Ytennhfkhdfalfaa

/- For any most, any numbers and any number the statement QuantSums returns true: sums and products up to any most are told by what is left. Condition: the row's listed variables (tied to the program's text). -/
import Derived.Test.YtfnfolpdbbnnlaaDoorQuant4
import Derived.Test.YtfnfolpdbbnnlaaDoorOpen
import Derived.Lay
import Derived.Test.YtfnfolpdbbnnlaaDoorShC3
import Derived.Deep.Slices
namespace Go.Proofs.YtfnfolpdbbnnlaaDoor
open Go.RowKit Go.ChangeShapes Go.WideShapes Go.ChangeAt Go.Joins Go.Deep
attribute [local go_sem] ext_cell ext_frozen Mix.calmUpon Mix.mUpon
set_option maxRecDepth 100000 in
set_option maxHeartbeats 2000000 in
theorem refsum_some (b off len cap : Nat) (l : Nat → Int) (m : Int) (im : I64 m) (W : World) (hb : b < W.heap.size) (hlen : len ≤ 1000000) (hF : Nums W b off len l) :
    Calls Tryd.prog 20 #[.int .i64 m, .slice (some ⟨b, off, none⟩) len cap] W (RS W l len m) := by
  have HF := Lib.hid hF
  clear hF
  obtain ⟨i1, i2⟩ := im
  go_enter Tryd.func20, Tryd.ntmps20
  go_wp2
  go_loopw [6, 7] (fun s i wr => ∃ t : Nat, t ≤ len ∧ i = .int .i64 t ∧ s = .int .i64 (m - su l t) ∧ Hid (∀ j, j < t → 0 ≤ l j) ∧ 0 ≤ su l t ∧ (0 < t → su l t ≤ m) ∧ (t = 0 → su l t = 0) ∧ Below W.heap.size W wr) (fun _ i _ => len - (intOf i).toNat)
  case atStart => exact ⟨0, Nat.zero_le _, rfl, by show Value.int .i64 m = .int .i64 (m - 0); rw [Int.sub_zero], Lib.hid (fun j hj => by omega), Int.le_refl _, fun h => absurd h (Nat.lt_irrefl 0), fun _ => rfl, by (repeat (first | assumption | exact Below.refl _ _ | refine ba ?_ _ | refine bd ?_ | refine bdn ?_ _ | refine bs ?_ (by first | omega | (simp; done) | (simp; omega)) _ | refine bt ?_ (by assumption)))⟩
  case round =>
    obtain ⟨t, ht, rfl, rfl, HJ, s0, s1, s2, hb1⟩ := hrel
    obtain ⟨w1, rfl⟩ : ∃ w1, w1 = wr := ⟨_, rfl⟩
    by_cases hlt : t < len
    · have hts : (t : Int) < (len : Int) := by omega
      have c0 := HF.out.grow hb hb1 t hlt
      by_cases hq : QA (su l t) (l t) m
      · have HN := Lib.hid (show ∀ j, j < t + 1 → 0 ≤ l j from fun j hj => by
          rcases Nat.lt_or_ge j t with h | h
          · exact HJ.out j h
          · obtain rfl : j = t := by omega
            exact hq.2.1)
        have HQ := Lib.hid (show 0 ≤ su l (t + 1) ∧ su l (t + 1) ≤ m from ⟨by have := hq.1; have := hq.2.1; show 0 ≤ su l t + l t; omega, hq.2.2⟩)
        obtain ⟨q1, q2, q3⟩ := hq
        have wq : IntKind.i64.wrap (m - su l t - l t) = m - su l t - l t := IntWalk.i64_in _ (by omega)
        have HE := Lib.hid (show m - su l t - l t = m - su l (t + 1) from by show _ = m - (su l t + l t); omega)
        generalize su l t = S at *
        clear s1 s2
        have a1 : ¬ l t < 0 := by omega
        have a2 : ¬ m - S < 0 := by omega
        have a3 : ¬ m - S < l t := by omega
        go_wp2
        go_roundw
        case rel => exact ⟨t + 1, by omega, by go_num, by rw [HE.out], HN, HQ.out.1, fun _ => HQ.out.2, fun h => absurd h (by omega), hb1⟩
        case measure => simp [intOf]; omega
      · have HN := Lib.hid (not_qs hlt s0 hq)
        have hf : l t < 0 ∨ ¬ l t < 0 ∧ m - su l t < 0 ∨ ¬ l t < 0 ∧ ¬ m - su l t < 0 ∧ m - su l t < l t := by
          by_cases h1 : l t < 0
          · exact .inl h1
          · by_cases h2 : m - su l t < 0
            · exact .inr (.inl ⟨h1, h2⟩)
            · refine .inr (.inr ⟨h1, h2, ?_⟩)
              by_cases h3 : m - su l t < l t
              · exact h3
              · exact absurd ⟨s0, by omega, by omega⟩ hq
        generalize su l t = S at *
        clear hq s1 s2
        rcases hf with h1 | ⟨h1, h2⟩ | ⟨h1, h2, h3⟩
        · go_wp2
          go_ret2
          exact ⟨_, _, rfl, .inr ⟨HN.out, rfl, rfl⟩, hb1⟩
        · go_wp2
          go_ret2
          exact ⟨_, _, rfl, .inr ⟨HN.out, rfl, rfl⟩, hb1⟩
        · go_wp2
          go_ret2
          exact ⟨_, _, rfl, .inr ⟨HN.out, rfl, rfl⟩, hb1⟩
    · obtain rfl : len = t := by omega
      by_cases hm : m < 0
      · have HN := Lib.hid (show ¬ QS l len m from fun h => by have := h.1; omega)
        clear s1 s2
        go_wp2
        go_ret2
        exact ⟨_, _, rfl, .inr ⟨HN.out, rfl, rfl⟩, hb1⟩
      · have hs : su l len ≤ m := by
          by_cases h0 : len = 0
          · have := s2 h0; omega
          · exact s1 (by omega)
        have HN := Lib.hid (show QS l len m from ⟨by omega, HJ.out, hs⟩)
        have HE := Lib.hid (show m - (m - su l len) = su l len by omega)
        have w1' : IntKind.i64.wrap (m - (m - su l len)) = m - (m - su l len) := IntWalk.i64_in _ (by omega)
        generalize hS : su l len = S at *
        have HSS := Lib.hid hS
        clear s1 s2 hS
        go_wp2
        go_ret2
        exact ⟨_, _, rfl, .inl ⟨HN.out, HE.out.trans HSS.out.symm, rfl⟩, hb1⟩
theorem sum_zero (a : Option Addr) (cap : Nat) (l : Nat → Int) (m : Int) (W : World) : Calls Tryd.prog 19 #[.int .i64 m, .slice a 0 cap] W (RS W l 0 m) := by
  by_cases hm : m < 0
  · have HN := Lib.hid (show ¬ QS l 0 m from fun h => by have := h.1; omega)
    go_enter Tryd.func19, Tryd.ntmps19
    go_wp2
    go_ret2
    exact ⟨_, _, rfl, .inr ⟨HN.out, rfl, rfl⟩, by (repeat (first | assumption | exact Below.refl _ _ | refine ba ?_ _ | refine bd ?_ | refine bdn ?_ _ | refine bs ?_ (by first | omega | (simp; done) | (simp; omega)) _ | refine bt ?_ (by assumption)))⟩
  · have hm0 : 0 ≤ m := by omega
    have HN := Lib.hid (show QS l 0 m from ⟨hm0, fun i hi => by omega, hm0⟩)
    clear hm
    go_enter Tryd.func19, Tryd.ntmps19
    go_wp2
    go_loopw [6, 15] (fun s i wr => s = .int .i64 0 ∧ i = .int .i64 0 ∧ Below W.heap.size W wr) (fun _ _ _ => 0)
    case atStart => exact ⟨rfl, rfl, by (repeat (first | assumption | exact Below.refl _ _ | refine ba ?_ _ | refine bd ?_ | refine bdn ?_ _ | refine bs ?_ (by first | omega | (simp; done) | (simp; omega)) _ | refine bt ?_ (by assumption)))⟩
    case round =>
      obtain ⟨rfl, rfl, hb1⟩ := hrel
      go_wp2
      go_ret2
      exact ⟨_, _, rfl, .inl ⟨HN.out, rfl, rfl⟩, hb1⟩
theorem refsum_zero (a : Option Addr) (cap : Nat) (l : Nat → Int) (m : Int) (W : World) : Calls Tryd.prog 20 #[.int .i64 m, .slice a 0 cap] W (RS W l 0 m) := by
  by_cases hm : m < 0
  · have HN := Lib.hid (show ¬ QS l 0 m from fun h => by have := h.1; omega)
    go_enter Tryd.func20, Tryd.ntmps20
    go_wp2
    go_loopw [6, 7] (fun s i wr => s = .int .i64 m ∧ i = .int .i64 0 ∧ Below W.heap.size W wr) (fun _ _ _ => 0)
    case atStart => exact ⟨rfl, rfl, by (repeat (first | assumption | exact Below.refl _ _ | refine ba ?_ _ | refine bd ?_ | refine bdn ?_ _ | refine bs ?_ (by first | omega | (simp; done) | (simp; omega)) _ | refine bt ?_ (by assumption)))⟩
    case round =>
      obtain ⟨rfl, rfl, hb1⟩ := hrel
      go_wp2
      go_ret2
      exact ⟨_, _, rfl, .inr ⟨HN.out, rfl, rfl⟩, hb1⟩
  · have hm0 : 0 ≤ m := by omega
    have HN := Lib.hid (show QS l 0 m from ⟨hm0, fun i hi => by omega, hm0⟩)
    clear hm
    go_enter Tryd.func20, Tryd.ntmps20
    go_wp2
    go_loopw [6, 7] (fun s i wr => s = .int .i64 m ∧ i = .int .i64 0 ∧ Below W.heap.size W wr) (fun _ _ _ => 0)
    case atStart => exact ⟨rfl, rfl, by (repeat (first | assumption | exact Below.refl _ _ | refine ba ?_ _ | refine bd ?_ | refine bdn ?_ _ | refine bs ?_ (by first | omega | (simp; done) | (simp; omega)) _ | refine bt ?_ (by assumption)))⟩
    case round =>
      obtain ⟨rfl, rfl, hb1⟩ := hrel
      go_wp2
      go_ret2
      exact ⟨_, _, rfl, .inl ⟨HN.out, rfl, rfl⟩, hb1⟩
theorem rs_fix {l : Nat → Int} {len : Nat} {m : Int} : ∃ (x : Int) (p : Bool), ((QS l len m ∧ x = su l len ∧ p = true) ∨ (¬ QS l len m ∧ x = 0 ∧ p = false)) ∧ ∀ (W : World) (e : Ending) (w' : World), RS W l len m e w' → e = .returned (.tuple #[.int .i64 x, .bool p]) ∧ Below W.heap.size W w' := by
  by_cases h : QS l len m
  · refine ⟨su l len, true, .inl ⟨h, rfl, rfl⟩, fun W e w' hr => ?_⟩
    obtain ⟨x, p, rfl, ⟨_, rfl, rfl⟩ | ⟨h', _, _⟩, hb⟩ := hr
    · exact ⟨rfl, hb⟩
    · exact absurd h h'
  · refine ⟨0, false, .inr ⟨h, rfl, rfl⟩, fun W e w' hr => ?_⟩
    obtain ⟨x, p, rfl, ⟨h', _, _⟩ | ⟨_, rfl, rfl⟩, hb⟩ := hr
    · exact absurd h' h
    · exact ⟨rfl, hb⟩
def two (x n : Int) : Nat → Int | 0 => x | _ => n
theorem qs_two (x n m : Int) : QS (two x n) 2 m ↔ QA x n m := by
  have e : su (two x n) 2 = 0 + x + n := rfl
  constructor
  · intro ⟨h1, h2, h3⟩
    have a := h2 0 (by omega); have b := h2 1 (by omega)
    have a' : 0 ≤ x := a
    have b' : 0 ≤ n := b
    exact ⟨a', b', by omega⟩
  · intro ⟨h1, h2, h3⟩
    refine ⟨by omega, fun i hi => ?_, by omega⟩
    have : i = 0 ∨ i = 1 := by omega
    rcases this with rfl | rfl
    · exact h1
    · exact h2
theorem sum_two (x n m : Int) (im : I64 m) : ∃ (s : Int) (p : Bool), Pure Tryd.prog 21 #[.int .i64 x, .int .i64 n, .int .i64 m] (.tuple #[.int .i64 s, .bool p]) ∧
    ∀ (b cap : Nat) (X : World), b < X.heap.size → Nums X b 0 2 (two x n) → Calls Tryd.prog 20 #[.int .i64 m, .slice (some ⟨b, 0, none⟩) 2 cap] X fun e w' => e = .returned (.tuple #[.int .i64 s, .bool p]) ∧ Below X.heap.size X w' := by
  obtain ⟨s, p, hs, hf⟩ := rs_fix (l := two x n) (len := 2) (m := m)
  refine ⟨s, p, ?_, fun b cap X hb hF => (refsum_some b 0 2 cap (two x n) m im X hb (by omega) hF).mono fun e w' h => hf X e w' h⟩
  rcases hs with ⟨h, rfl, rfl⟩ | ⟨h, rfl, rfl⟩
  · have e : su (two x n) 2 = x + n := by show 0 + x + n = x + n; omega
    rw [e]
    exact qadd_yes x n m ((qs_two x n m).1 h) im
  · exact qadd_no x n m (fun h' => h ((qs_two x n m).2 h')) im
theorem nums_two (X : World) (x n : Int) (T : TypeId) : Nums (X.alloc (.cells #[.int .i64 x, .int .i64 n] T)) X.heap.size 0 2 (two x n) := fun i hi => by
  have : i = 0 ∨ i = 1 := by omega
  rcases this with rfl | rfl
  · rw [World.cell?_alloc_new]; rfl
  · rw [World.cell?_alloc_new]; rfl
theorem qs_big (m n : Int) (a : Option Addr) (len cap : Nat) (h : 100 < len) : Pure Tryd.prog 4 #[.int .i64 m, .slice a len cap, .int .i64 n] (.bool true) := by
  intro W
  have h1 : (100 : Int) < (len : Int) := by omega
  go_enter Tryd.func4, Tryd.ntmps4
  go_wp2
  go_ret
  refine ⟨rfl, ?_⟩
  (repeat (first | assumption | exact Below.refl _ _ | refine ba ?_ _ | refine bd ?_ | refine bdn ?_ _ | refine bs ?_ (by first | omega | (simp; done) | (simp; omega)) _ | refine bt ?_ (by assumption)))
set_option maxRecDepth 100000 in
set_option maxHeartbeats 8000000 in
theorem qs_walk (m n x : Int) (p : Bool) (im : I64 m) (sa : Option Addr) (len cap : Nat) (l : Nat → Int) (W : World) (hT : T10 W) (hlen : len ≤ 100)
    (h : len = 0 ∨ ∃ b off, sa = some ⟨b, off, none⟩ ∧ b < W.heap.size ∧ Nums W b off len l)
    (h1 : ∀ X, Below W.heap.size W X → Calls Tryd.prog 19 #[.int .i64 m, .slice sa len cap] X fun e w' => e = .returned (.tuple #[.int .i64 x, .bool p]) ∧ Below X.heap.size X w')
    (h2 : ∀ X, Below W.heap.size W X → Calls Tryd.prog 20 #[.int .i64 m, .slice sa len cap] X fun e w' => e = .returned (.tuple #[.int .i64 x, .bool p]) ∧ Below X.heap.size X w') :
    Calls Tryd.prog 4 #[.int .i64 m, .slice sa len cap, .int .i64 n] W fun e w' => e = .returned (.bool true) ∧ Below W.heap.size W w' := by
  have H1 := Lib.hid h1; have H2 := Lib.hid h2; have HH := Lib.hid h; have HT := Lib.hid hT; have HI := Lib.hid im
  have h100 : ¬ (100 : Int) < (len : Int) := by omega
  clear h1 h2 h hT im
  go_enter Tryd.func4, Tryd.ntmps4
  go_wp2_with fail
  refine (H1.out _ (Below.refl _ _)).mono ?_
  rintro e w1 ⟨rfl, hb1⟩
  go_wp2_with fail
  refine (H2.out _ hb1).mono ?_
  rintro e w2 ⟨rfl, hb2⟩
  have hb := bt hb1 hb2
  clear hb1 hb2
  go_wp2
  go_loopw [11] (fun i wr => ∃ t : Nat, t ≤ len ∧ i = .int .i64 t ∧ Below W.heap.size W wr) (fun i _ => len - (intOf i).toNat)
  case atStart => exact ⟨0, Nat.zero_le _, rfl, hb⟩
  case round =>
    clear hb
    obtain ⟨t, ht, rfl, hb3⟩ := hrel
    obtain ⟨w3, rfl⟩ : ∃ w3, w3 = wr := ⟨_, rfl⟩
    by_cases hlt : t < len
    · have hts : (t : Int) < (len : Int) := by omega
      obtain ⟨b, off, rfl, hbl, hF⟩ := HH.out.resolve_left (by omega)
      obtain ⟨s, q, hA, hS⟩ := sum_two (l t) n m HI.out
      obtain ⟨y, r, hM, hN⟩ := times_any (l t) n m HI.out
      have HA := Lib.hid hA; have HS := Lib.hid hS; have HM := Lib.hid hM; have HN := Lib.hid hN; have HF := Lib.hid hF
      clear hA hS hM hN hF
      have c3 := HF.out.grow hbl hb3 t hlt
      go_wp2_with fail
      refine (HA.out _).mono ?_
      rintro e w4 ⟨rfl, hb4⟩
      have hb4' := bt hb3 hb4
      have c4 := HF.out.grow hbl hb4' t hlt
      clear c3
      go_wp2_with fail
      refine (HS.out _ _ _ (by simp) (by simpa using nums_two w4 (l t) n _)).mono ?_
      rintro e w5 ⟨rfl, hb5⟩
      have hb5' := bt (ba hb4' _) hb5
      have c5 := HF.out.grow hbl hb5' t hlt
      clear c4 hb3 hb4 hb5 hb4'
      go_wp2_with fail
      refine (HM.out _).mono ?_
      rintro e w6 ⟨rfl, hb6⟩
      have hb6' := bt hb5' hb6
      have c6 := HF.out.grow hbl hb6' t hlt
      clear c5 hb6 hb5'
      go_wp2_with fail
      refine (HN.out _).mono ?_
      rintro e w7 ⟨rfl, hb7⟩
      have hb7' := bt hb6' hb7
      clear c6 hb7 hb6'
      go_wp2
      go_roundw
      case rel => exact ⟨t + 1, by omega, by go_num, hb7'⟩
      case measure => simp [intOf]; omega
    · obtain rfl : len = t := by omega
      have HT3 := Lib.hid (clo_T10 _ _ HT.out hb3)
      go_wp2_with fail
      refine (works3.app _ HT3.out).mono ?_
      rintro e w4 ⟨rfl, hb4⟩
      go_wp2
      go_ret
      exact ⟨rfl, bt hb3 hb4⟩
theorem qs_any (m n : Int) (im : I64 m) (sa : Option Addr) (len cap : Nat) (l : Nat → Int) (W : World) (hT : T10 W) (h : len = 0 ∨ ∃ b off, sa = some ⟨b, off, none⟩ ∧ b < W.heap.size ∧ Nums W b off len l) :
    Calls Tryd.prog 4 #[.int .i64 m, .slice sa len cap, .int .i64 n] W fun e w' => e = .returned (.bool true) ∧ Below W.heap.size W w' := by
  by_cases hl : len ≤ 100
  · obtain ⟨x, p, _, hf⟩ := rs_fix (l := l) (len := len) (m := m)
    refine qs_walk m n x p im sa len cap l W hT hl h (fun X hX => ?_) (fun X hX => ?_)
    · rcases h with rfl | ⟨b, off, rfl, hb, hF⟩
      · exact (sum_zero sa cap l m X).mono fun e w' hr => hf X e w' hr
      · exact (sum_some b off len cap l m im X (Nat.lt_of_lt_of_le hb hX.size) (by omega) (hF.grow hb hX)).mono fun e w' hr => hf X e w' hr
    · rcases h with rfl | ⟨b, off, rfl, hb, hF⟩
      · exact (refsum_zero sa cap l m X).mono fun e w' hr => hf X e w' hr
      · exact (refsum_some b off len cap l m im X (Nat.lt_of_lt_of_le hb hX.size) (by omega) (hF.grow hb hX)).mono fun e w' hr => hf X e w' hr
  · exact qs_big m n sa len cap (by omega) W
theorem c1n : Tryd.prog.cellsOf 2 = 1 := by kernel_rfl
set_option maxRecDepth 100000 in
theorem open_nums {H : Type} {enc : TypeId × Value → H} {W : World} {base : Nat} {sp : Nat → Bool} {held : Bool} {r : Reach} {b0 : Nat} {v : Value} {d : DataW H} {p : List MemPlace}
    (hv : Value.okWide Tryd.prog W r b0 29 v) (h : DataW.Trod enc Tryd.prog W base sp held 29 v d p) :
    ∃ (a : Option Addr) (len cap : Nat) (l : Nat → Int), v = .slice a len cap ∧ (len = 0 ∨ ∃ b off, a = some ⟨b, off, none⟩ ∧ b < W.heap.size ∧ Nums W b off len l) := by
  obtain ⟨a0, len0, cap0, rfl⟩ := okWide_slice Tryd.underlying29 hv
  obtain ⟨fuel, hf⟩ := h
  rcases open_slice1 Tryd.underlying29 c1n hf with ⟨hc, _⟩ | ⟨a, len, cap, m, k, V, D, Pl, hc, _, hl, hm, hmm, hx, hall⟩
  · cases hc
    exact ⟨none, 0, 0, fun _ => 0, rfl, .inl rfl⟩
  · cases hc
    have hlm : len0 ≤ m := by rw [hmm]; split <;> omega
    have each : ∀ i, i < len0 → ∃ q : Int, W.cell? (a.add i) = some (.int .i64 q) := by
      intro i hi
      obtain ⟨h1, h2⟩ := hall i (by omega)
      obtain ⟨x, ex, _, _⟩ := DataW.trod_int Tryd.underlying2 h2
      simp at ex
      exact ⟨x, by rw [h1, ex]⟩
    obtain ⟨q, hq⟩ := choose_lt each
    refine ⟨some a, len0, cap0, q, rfl, ?_⟩
    by_cases h0 : len0 = 0
    · exact .inl h0
    · right
      obtain ⟨b, off, rfl, hb⟩ := cell_plain (show W.cell? a = _ by simpa [Addr.add] using hq 0 (by omega))
      refine ⟨b, off, rfl, hb, fun i hi => ?_⟩
      have h1 := hq i hi
      rw [add_plain] at h1
      exact h1
namespace QuantSums
open Go.ChangeShapes Go.WideShapes Go.ChangeAt Go.RowKit Go.Joins
theorem own : ownKnob Tryd.prog.godebug = none := by kernel_rfl
theorem laidOut : laidOutB Tryd.prog = true := by kernel_rfl
set_option maxRecDepth 100000 in
theorem lifted (os : Os) (started : os.Started) (H : Type) (enc : TypeId × Value → H) :
    ReturnsInHanded {} Tryd.checked os 4 .any (fun w args => (Rows.quantSumsSpec.pre enc Tryd.prog Tryd.f4 [] false w args ∧ laidMetH Tryd.prog Rows.quantSumsRow.laid w) ∧ sizedMet enc Tryd.prog Tryd.f4 (OpenSpec.ofChange Rows.quantSumsSpec) false w args)
      (Rows.quantSumsSpec.post enc Tryd.prog Tryd.f4 false true false false) := by
  refine returnsInHanded_of_change_and (C := Tryd.checked) (X := fun w _ => laidMetH Tryd.prog Rows.quantSumsRow.laid w) (fun _ _ _ hh h => h.of_heap hh) own started (by kernel_rfl) Tryd.func4
    (ChangeSpec.witness_shaped (enc := enc) (C := Tryd.checked) (os := os) (X := fun w _ => laidMetH Tryd.prog Rows.quantSumsRow.laid w) false (World.laidAll Tryd.prog os Rows.quantSumsRow.laid) #[.int .i64 0, .slice none 0 0, .int .i64 0] 8 (World.laidAll_os _ _ _) (World.shaped_of_ZipB (by kernel_rfl) (by kernel_rfl)) (by kernel_rfl) (by kernel_rfl) (by kernel_rfl) (by rw [MakeChecks.laidMetH_plain _ _ _ (by kernel_rfl)]; exact laidMet_laidAll _ (by kernel_rfl) (by kernel_rfl))) ?_
  intro W base args ds gs before hval0 hW _ _ hL _
  have hval : ∀ (j : Nat) t v, Tryd.f4.params[j]? = some t → args[j]? = some v → Value.okWide Tryd.prog W .any base t v := hval0
  have hW' := hW
  obtain ⟨p, q, hA0, hV, rfl, hfz, hnd⟩ := hW
  have hA : DataW.TrodAll enc Tryd.prog W 0 (fun _ => true) true Tryd.f4.params.toList args.toList ds p := hA0
  rw [Tryd.params4] at hA hval
  obtain ⟨v0, vs0, d0, ds0, p0, q0, hargs, rfl, rfl, h0, r0⟩ := trodAll_cons hA
  obtain ⟨v1, vs1, d1, ds1, p1, q1, rfl, rfl, rfl, h1, r1⟩ := trodAll_cons r0
  obtain ⟨v2, vs2, d2, ds2, p2, q2, rfl, rfl, rfl, h2, r2⟩ := trodAll_cons r1
  obtain ⟨rfl, rfl, rfl⟩ := trodAll_nil r2
  obtain rfl : args = #[v0, v1, v2] := by cases args; simp_all
  obtain ⟨rfl, rfl⟩ := trodVars_none hV
  have k0 := h0
  have lt0 : ∀ x ∈ p0, x.block < W.heap.size := by obtain ⟨m, hm⟩ := k0; exact DataW.trod_lt m _ _ _ hm
  have k1 := h1
  have lt1 : ∀ x ∈ p1, x.block < W.heap.size := by obtain ⟨m, hm⟩ := k1; exact DataW.trod_lt m _ _ _ hm
  have k2 := h2
  have lt2 : ∀ x ∈ p2, x.block < W.heap.size := by obtain ⟨m, hm⟩ := k2; exact DataW.trod_lt m _ _ _ hm
  obtain ⟨m, vEq0, _, _, wf_m⟩ := open_int Tryd.underlying2 (hval 0 2 v0 rfl rfl) k0
  subst vEq0
  obtain ⟨sa, slen, scap, l, vEq1, hsh⟩ := open_nums (hval 1 29 v1 rfl rfl) k1
  subst vEq1
  obtain ⟨n, vEq2, _, _, wf_n⟩ := open_int Tryd.underlying2 (hval 2 2 v2 rfl rfl) k2
  subst vEq2
  have hT : T10 W := t10_third (by have h := hL; rw [MakeChecks.laidMetH_plain _ _ _ (by kernel_rfl)] at h; exact h)
  clear hA0 hval0
  refine (qs_any m n (i64_of_wf wf_m) sa slen scap l W hT hsh).mono fun e W' ⟨he, bel⟩ => ?_
  subst he
  exact ⟨_, rfl, _, _, _, [], _, [], hW', trodAll_mk1 (shut_bool Tryd.underlying4 _), (trodAll_cons_mk (Below.trod laidOut (by kernel_rfl) (of_decide_eq_true (by kernel_rfl)) k0 bel lt0) (trodAll_cons_mk (Below.trod laidOut (by kernel_rfl) (of_decide_eq_true (by kernel_rfl)) k1 bel lt1) (trodAll_cons_mk (Below.trod laidOut (by kernel_rfl) (of_decide_eq_true (by kernel_rfl)) k2 bel lt2) trodAll_mk0))), rfl, bel.frame _, fun h => by cases h⟩
theorem over : Rows.quantSumsRow.holds Tryd.pinned (OpenSpec.ofChange Rows.quantSumsSpec) :=
  OpenClaim.holds_of_wide 4 Tryd.f4 rfl rfl rfl rfl rfl rfl rfl ⟨rfl, rfl, rfl, rfl, rfl⟩ rfl rfl rfl rfl rfl (by kernel_rfl) Tryd.func4 (by kernel_rfl)
    (of_decide_eq_true (by kernel_rfl)) (by unfold Func.isWrapper; first | (rw [if_pos (by decide +kernel)]; kernel_rfl) | (rw [if_neg (by decide +kernel)]; exact ⟨rfl, rfl⟩))
    (fun os started H enc _ => lifted os started H enc)
theorem plain (f : FuncId) (fn : Func) (hf : Tryd.pinned.checked.prog.funcNamed Rows.quantSumsRow.func = some f) (hfn : Tryd.pinned.checked.prog.funcs[f]? = some fn) :
    true = Tryd.pinned.checked.prog.looks [] ∧ ∀ (j : Nat) t, fn.params[j]? = some t → Tryd.pinned.checked.prog.wantsStandIn t = false := by
  obtain rfl : f = 4 := Option.some.inj ((show Tryd.prog.funcNamed Rows.quantSumsRow.func = some 4 by kernel_rfl).symm.trans hf) |>.symm
  obtain rfl : fn = Tryd.f4 := (Option.some.inj (Tryd.func4.symm.trans hfn)).symm
  refine ⟨by kernel_rfl, fun j t ht => ?_⟩
  rw [Tryd.params4] at ht
  have hm : t ∈ [2, 29, 2] := by simpa using Array.mem_of_getElem? ht
  have hall : ([2, 29, 2].all fun u => !Tryd.prog.wantsStandIn u) = true := by kernel_rfl
  exact (show Tryd.prog.wantsStandIn t = false by simpa using List.all_eq_true.1 hall t hm)
theorem proved : Rows.QuantSumsCardSaid :=
  Claim7.holds_tied_plain_at .later [] _ _ _ _ over (fun _ h => by cases h) (by kernel_rfl) (fun _ h => by cases h) quantSums_row_tie rfl ⟨rfl, rfl⟩ (by kernel_rfl) rfl plain (by kernel_rfl)
end QuantSums
end Go.Proofs.YtfnfolpdbbnnlaaDoor

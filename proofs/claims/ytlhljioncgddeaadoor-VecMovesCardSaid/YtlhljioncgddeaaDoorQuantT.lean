/- Contracts of mancipleref02.Digits, quant.Text and mancipleref03.Text at every amount. Condition: the powers of ten lie in their variable (quant.Text). -/
import Derived.Test.YtlhljioncgddeaaDoorQm
import Derived.Test.YtlhljioncgddeaaDoorQuant1
import Derived.Test.YtlhljioncgddeaaDoorStr
namespace Go.Proofs.YtlhljioncgddeaaDoor
open Go.RowKit
attribute [local go_sem] ext_cell ext_frozen Mix.calmUpon Mix.mUpon
theorem conv1 (x : Int) (W : World) : (convert 84 9 (.slice (some ⟨W.heap.size, 0, none⟩) 1 1)).run Tryd.prog (W.alloc (.cells #[.int .u8 x] 5)) = .ok (.string (strOfNums [x])) (W.alloc (.cells #[.int .u8 x] 5)) :=
  run_convert_bytes_arg _ 84 5 Tryd.underlying84 Tryd.underlying5 W.heap.size 0 1 1 [x] rfl (fun i hi => by
    obtain rfl : i = 0 := by omega
    simp [go_sem]) 9 Tryd.underlying9
theorem son_cons (d : Nat) (S : List UInt8) : strOfNums [48 + (d : Int)] ++ ⟨S.toArray⟩ = ⟨(dg d :: S).toArray⟩ := by
  apply Go.WideShapes.bytes_inj
  rw [ByteArray.data_append, Array.toList_append, strOfNums_data]
  have : (48 + (d : Int)).toNat = 48 + d := by omega
  simp [dg, this]
def natOf : Value → Nat
  | .int _ n => n.toNat
  | _ => 0
def boolN : Value → Nat
  | .bool true => 1
  | _ => 0
set_option maxRecDepth 100000 in
set_option maxHeartbeats 2000000 in
theorem refdigits_any (n : Nat) (hn : n ≤ 9223372036854775807) : Pure Tryd.prog 65 #[.int .i64 n] (.string ⟨(Lib.decDigits n).toArray⟩) := by
  intro W
  have HL := Lib.hid (dec_len n hn)
  have hnI : (n : Int) ≤ 9223372036854775807 := by omega
  go_enter Tryd.func65, Tryd.ntmps65
  go_wp2
  go_loopw [0, 3, 4] (fun x s a wr => ∃ (cur : Nat) (S : List UInt8) (b : Bool), cur ≤ n ∧ x = .int .i64 cur ∧ s = .string ⟨S.toArray⟩ ∧ a = .bool b ∧ Hid (if b then Lib.decDigits n = Lib.decDigits cur ++ S else Lib.decDigits n = S) ∧ Below W.heap.size W wr) (fun x _ a _ => 2 * natOf x + boolN a)
  case atStart => exact ⟨n, [], true, Nat.le_refl _, rfl, rfl, rfl, Lib.hid (by simp), Below.refl _ _⟩
  case round =>
    rename_i wr
    obtain ⟨cur, S, b, hcn, rfl, rfl, rfl, HE, hb⟩ := hrel
    cases b with
    | false =>
      go_wp2
      go_ret
      exact ⟨by have := HE.out; simp at this; rw [this]; rfl, hb⟩
    | true =>
      have hSl : S.length ≤ 20 := by
        have h1 := HE.out
        have h2 := HL.out
        simp only [if_true] at h1
        rw [h1, List.length_append] at h2
        have h3 := List.length_pos_iff.2 (dec_ne cur)
        omega
      have hsz : (strOfNums [48 + ((cur % 10 : Nat) : Int)]).size + (ByteArray.mk S.toArray).size ≤ 9223372036854775807 := by
        rw [strOfNums_size]
        show 1 + S.toArray.size ≤ _
        simp; omega
      have e0 : ((cur % 10 : Nat) : Int) = (cur : Int) % 10 := by omega
      rw [e0] at hsz
      have hson := son_cons (cur % 10) S
      rw [e0] at hson
      have HS := Lib.hid hson
      have kc := conv1 (48 + (cur : Int) % 10) wr
      have HBl := Lib.hid hb
      clear hson e0 hSl hb
      by_cases h0 : cur / 10 = 0
      · have h0I : (cur : Int) / 10 = 0 := by omega
        have h0I := h0I
        have hd : Lib.decDigits cur = [dg (cur % 10)] := by
          rw [decDigits_lt cur (by omega), show cur % 10 = cur by omega]; rfl
        have HD := Lib.hid hd
        clear hd
        go_wp2
        go_roundw
        case rel => exact ⟨0, dg (cur % 10) :: S, false, by omega, rfl, by rw [← HS.out], rfl, Lib.hid (by have := HE.out; simp only [if_true] at this; rw [this, HD.out]; rfl), HBl.out.alloc HBl.out.size _⟩
        case measure => simp [natOf, boolN]
      · have h0I : (0 : Int) < (cur : Int) / 10 := by omega
        have hd : Lib.decDigits cur = Lib.decDigits (cur / 10) ++ [dg (cur % 10)] := decDigits_go cur (by omega)
        have HD := Lib.hid hd
        clear hd
        go_wp2
        go_roundw
        case rel => exact ⟨cur / 10, dg (cur % 10) :: S, true, by omega, by go_num, by rw [← HS.out], rfl, Lib.hid (by have := HE.out; simp only [if_true] at this ⊢; rw [this, HD.out, List.append_assoc]; rfl), HBl.out.alloc HBl.out.size _⟩
        case measure => simp [natOf, boolN]; omega
theorem dec4 (r : Nat) (h : r < 1000) : Lib.decDigits (1000 + r) = [49, dg (r / 100), dg (r / 10 % 10), dg (r % 10)] := by
  rw [decDigits_go _ (by omega), decDigits_go _ (by omega), decDigits_go _ (by omega), decDigits_lt _ (by omega)]
  rw [show (1000 + r) / 10 / 10 / 10 = 1 by omega, show (1000 + r) / 10 / 10 % 10 = r / 100 by omega, show (1000 + r) / 10 % 10 = r / 10 % 10 by omega, show (1000 + r) % 10 = r % 10 by omega]
  rfl
theorem dg_eq (d : Nat) (h : d < 10) : (dg d == 48) = decide (d = 0) := by
  rw [Bool.eq_iff_iff]
  simp only [beq_iff_eq, decide_eq_true_eq]
  constructor
  · intro he
    have := dg_nat d h
    rw [he] at this
    have e : (48 : UInt8).toNat = 48 := rfl
    omega
  · rintro rfl; rfl
theorem trim_frac (r : Nat) (h : r < 1000) (h0 : 0 < r) : Lib.trimRightB [dg (r / 100), dg (r / 10 % 10), dg (r % 10)] 48 = frac r := by
  unfold Lib.trimRightB frac
  simp only [List.reverse_cons, List.reverse_nil, List.nil_append, List.cons_append]
  by_cases h1 : r % 10 ≠ 0
  · rw [if_pos h1, List.dropWhile_cons, dg_eq _ (by omega), decide_eq_false h1]; rfl
  · rw [if_neg h1, List.dropWhile_cons, dg_eq _ (by omega), decide_eq_true (by omega), if_pos rfl]
    by_cases h2 : r % 100 ≠ 0
    · rw [if_pos h2, List.dropWhile_cons, dg_eq _ (by omega), decide_eq_false (by omega)]; rfl
    · rw [if_neg h2, List.dropWhile_cons, dg_eq _ (by omega), decide_eq_true (by omega), if_pos rfl, List.dropWhile_cons, dg_eq _ (by omega), decide_eq_false (by omega)]; rfl
theorem trim_any (r : Nat) (h : r < 1000) (h0 : 0 < r) (w : World) : Calls Tryd.prog 80 #[.string ((⟨#[49, dg (r / 100), dg (r / 10 % 10), dg (r % 10)]⟩ : ByteArray).extract 1 4), .string ⟨#[48]⟩] w fun e w' => e = .returned (.string ⟨(frac r).toArray⟩) ∧ Below w.heap.size w w' := by
  rw [show (⟨#[49, dg (r / 100), dg (r / 10 % 10), dg (r % 10)]⟩ : ByteArray).extract 1 4 = ⟨#[dg (r / 100), dg (r / 10 % 10), dg (r % 10)]⟩ by apply Go.WideShapes.bytes_inj; simp [ByteArray.data_extract]]
  refine (Lb.Tryd.strings_TrimRight_one ⟨#[dg (r / 100), dg (r / 10 % 10), dg (r % 10)]⟩ 48 (by decide) w (by show 3 ≤ _; decide)).mono fun _ _ ⟨he, hw⟩ => ⟨?_, by rw [hw]; exact Below.refl _ _⟩
  rw [he]
  show Ending.returned (.string ⟨(Lib.trimRightB [dg (r / 100), dg (r / 10 % 10), dg (r % 10)] 48).toArray⟩) = _
  rw [trim_frac r h h0]
/-- The text of any number. -/
def qTv (n : Int) : ByteArray := if 0 ≤ n ∧ n ≤ 9007199254740992 then qT n.toNat else ⟨#[]⟩
theorem qtext_no (n : Int) (h : ¬ (0 ≤ n ∧ n ≤ 9007199254740992)) : Pure Tryd.prog 68 #[.int .i64 n] (.string ⟨#[]⟩) := by
  intro W
  have HR := qright_any n
  rw [decide_eq_false h] at HR
  have HR := Lib.hid HR
  clear h
  go_enter Tryd.func68, Tryd.ntmps68
  go_wp2_with fail
  (with_reducible refine (HR.out _).mono ?_)
  rintro e w1 ⟨rfl, hb1⟩
  have hs1 : W.heap.size + 0 ≤ w1.heap.size := (by have h := hb1.size; first | omega | (simp at h; omega))
  obtain ⟨hc1, hf1, hl1⟩ := bcell hb1
  clear hl1
  go_wp2
  go_ret
  refine ⟨rfl, ?_⟩
  (repeat (first | assumption | exact Below.refl _ _ | refine ba ?_ _ | refine bd ?_ | refine bdn ?_ _ | refine bs ?_ (by first | omega | (simp; done) | (simp; omega)) _ | refine bt ?_ (by assumption)))
theorem T10.up {W w : World} (h : T10 W) (hb : Below W.heap.size W w) : T10 w := clo_T10 _ _ h hb
theorem fmt_nat (n : Nat) (h : n ≤ 9223372036854775807) : PureOn T10 Tryd.prog 79 #[.int .i64 n, .int .i64 10] (.string ⟨(Lib.decDigits n).toArray⟩) := by
  have := fmt_any n (by omega) (by omega)
  rw [itoaS_nonneg (by omega), Int.toNat_natCast] at this
  exact this
set_option maxRecDepth 100000 in
theorem qtext_yes (n : Nat) (hn : n ≤ 9007199254740992) : PureOn T10 Tryd.prog 68 #[.int .i64 n] (.string (qT n)) := by
  intro W hT
  have HR := qright_any n
  rw [decide_eq_true ⟨by omega, by omega⟩] at HR
  have HR := Lib.hid HR
  have HF := fmt_nat (n / 1000) (by omega)
  rw [show ((n / 1000 : Nat) : Int) = (n : Int) / 1000 by omega] at HF
  have HF := Lib.hid HF
  have HT := Lib.hid hT
  have hnI : (n : Int) ≤ 9007199254740992 := by omega
  clear hT
  by_cases h0 : n % 1000 = 0
  · have hr : qT n = ⟨(Lib.decDigits (n / 1000)).toArray⟩ := by unfold qT qL; rw [if_pos h0]
    have h0I : ((n : Int) % 1000 == 0) = true := by simp; omega
    rw [hr]
    clear h0
    go_enter Tryd.func68, Tryd.ntmps68
    go_wp2_with fail
    (with_reducible refine (HR.out _).mono ?_)
    rintro e w1 ⟨rfl, hb1⟩
    have hs1 : W.heap.size + 0 ≤ w1.heap.size := (by have h := hb1.size; first | omega | (simp at h; omega))
    obtain ⟨hc1, hf1, hl1⟩ := bcell hb1
    clear hl1
    go_wp2_with fail
    (with_reducible refine (HF.out.app _ (T10.up HT.out (by (repeat (first | assumption | exact Below.refl _ _ | refine ba ?_ _ | refine bd ?_ | refine bdn ?_ _ | refine bs ?_ (by first | omega | (simp; done) | (simp; omega)) _ | refine bt ?_ (by assumption)))))).mono ?_)
    rintro e w2 ⟨rfl, hb2⟩
    have hs2 : w1.heap.size + 0 ≤ w2.heap.size := (by have h := hb2.size; first | omega | (simp at h; omega))
    have hb1_2 := bel hb1 hb2 (by (repeat (first | assumption | exact Below.refl _ _ | refine ba ?_ _ | refine bd ?_ | refine bdn ?_ _ | refine bs ?_ (by first | omega | (simp; done) | (simp; omega)) _ | refine bt ?_ (by assumption))))
    clear hc1 hf1
    obtain ⟨hc2, hf2, hl2⟩ := bcell hb2
    clear hl2
    go_wp2
    go_ret
    refine ⟨rfl, ?_⟩
    (repeat (first | assumption | exact Below.refl _ _ | refine ba ?_ _ | refine bd ?_ | refine bdn ?_ _ | refine bs ?_ (by first | omega | (simp; done) | (simp; omega)) _ | refine bt ?_ (by assumption)))
  · have hr : qT n = ⟨(Lib.decDigits (n / 1000)).toArray⟩ ++ ⟨#[46]⟩ ++ ⟨(frac (n % 1000)).toArray⟩ := by
      unfold qT qL; rw [if_neg h0]
      apply Go.WideShapes.bytes_inj
      simp [ByteArray.data_append]
    have h0I : ((n : Int) % 1000 == 0) = false := by simp; omega
    have HG := fmt_nat (1000 + n % 1000) (by omega)
    obtain ⟨a, b, c, hd4, hM⟩ : ∃ a b c : UInt8, Lib.decDigits (1000 + n % 1000) = [49, a, b, c] ∧ ∀ w, Calls Tryd.prog 80 #[.string ((⟨#[49, a, b, c]⟩ : ByteArray).extract 1 4), .string ⟨#[48]⟩] w fun e w' => e = .returned (.string ⟨(frac (n % 1000)).toArray⟩) ∧ Below w.heap.size w w' := ⟨_, _, _, dec4 _ (by omega), trim_any (n % 1000) (by omega) (by omega)⟩
    rw [hd4, show ((1000 + n % 1000 : Nat) : Int) = 1000 + (n : Int) % 1000 by omega] at HG
    have HG := Lib.hid HG
    have HM := Lib.hid hM
    clear hM hd4
    have hl := dec_len (n / 1000) (by omega)
    have hf := frac_len (n % 1000)
    have y1 : (ByteArray.mk (Lib.decDigits (n / 1000)).toArray).size + (ByteArray.mk #[46]).size ≤ 9223372036854775807 := by
      show (Lib.decDigits (n / 1000)).toArray.size + 1 ≤ _
      simp; omega
    have y2 : (ByteArray.mk (Lib.decDigits (n / 1000)).toArray ++ ByteArray.mk #[46]).size + (ByteArray.mk (frac (n % 1000)).toArray).size ≤ 9223372036854775807 := by
      rw [ByteArray.size_append]
      show (Lib.decDigits (n / 1000)).toArray.size + 1 + (frac (n % 1000)).toArray.size ≤ _
      simp; omega
    rw [hr]
    clear h0 hr hl hf
    go_enter Tryd.func68, Tryd.ntmps68
    go_wp2_with fail
    (with_reducible refine (HR.out _).mono ?_)
    rintro e w1 ⟨rfl, hb1⟩
    have hs1 : W.heap.size + 0 ≤ w1.heap.size := (by have h := hb1.size; first | omega | (simp at h; omega))
    obtain ⟨hc1, hf1, hl1⟩ := bcell hb1
    clear hl1
    go_wp2_with fail
    (with_reducible refine (HF.out.app _ (T10.up HT.out (by (repeat (first | assumption | exact Below.refl _ _ | refine ba ?_ _ | refine bd ?_ | refine bdn ?_ _ | refine bs ?_ (by first | omega | (simp; done) | (simp; omega)) _ | refine bt ?_ (by assumption)))))).mono ?_)
    rintro e w2 ⟨rfl, hb2⟩
    have hs2 : w1.heap.size + 0 ≤ w2.heap.size := (by have h := hb2.size; first | omega | (simp at h; omega))
    have hb1_2 := bel hb1 hb2 (by (repeat (first | assumption | exact Below.refl _ _ | refine ba ?_ _ | refine bd ?_ | refine bdn ?_ _ | refine bs ?_ (by first | omega | (simp; done) | (simp; omega)) _ | refine bt ?_ (by assumption))))
    clear hc1 hf1
    obtain ⟨hc2, hf2, hl2⟩ := bcell hb2
    clear hl2
    go_wp2_with fail
    (with_reducible refine (HG.out.app _ (T10.up HT.out (by (repeat (first | assumption | exact Below.refl _ _ | refine ba ?_ _ | refine bd ?_ | refine bdn ?_ _ | refine bs ?_ (by first | omega | (simp; done) | (simp; omega)) _ | refine bt ?_ (by assumption)))))).mono ?_)
    rintro e w3 ⟨rfl, hb3⟩
    have hs3 : w2.heap.size + 0 ≤ w3.heap.size := (by have h := hb3.size; first | omega | (simp at h; omega))
    have hb1_3 := bel hb1_2 hb3 (by (repeat (first | assumption | exact Below.refl _ _ | refine ba ?_ _ | refine bd ?_ | refine bdn ?_ _ | refine bs ?_ (by first | omega | (simp; done) | (simp; omega)) _ | refine bt ?_ (by assumption))))
    have hb2_3 := bel hb2 hb3 (by (repeat (first | assumption | exact Below.refl _ _ | refine ba ?_ _ | refine bd ?_ | refine bdn ?_ _ | refine bs ?_ (by first | omega | (simp; done) | (simp; omega)) _ | refine bt ?_ (by assumption))))
    clear hc2 hf2
    obtain ⟨hc3, hf3, hl3⟩ := bcell hb3
    clear hl3
    go_wp2_with fail
    (with_reducible refine (HM.out _).mono ?_)
    rintro e w4 ⟨rfl, hb4⟩
    have hs4 : w3.heap.size + 0 ≤ w4.heap.size := (by have h := hb4.size; first | omega | (simp at h; omega))
    have hb1_4 := bel hb1_3 hb4 (by (repeat (first | assumption | exact Below.refl _ _ | refine ba ?_ _ | refine bd ?_ | refine bdn ?_ _ | refine bs ?_ (by first | omega | (simp; done) | (simp; omega)) _ | refine bt ?_ (by assumption))))
    have hb2_4 := bel hb2_3 hb4 (by (repeat (first | assumption | exact Below.refl _ _ | refine ba ?_ _ | refine bd ?_ | refine bdn ?_ _ | refine bs ?_ (by first | omega | (simp; done) | (simp; omega)) _ | refine bt ?_ (by assumption))))
    have hb3_4 := bel hb3 hb4 (by (repeat (first | assumption | exact Below.refl _ _ | refine ba ?_ _ | refine bd ?_ | refine bdn ?_ _ | refine bs ?_ (by first | omega | (simp; done) | (simp; omega)) _ | refine bt ?_ (by assumption))))
    clear hc3 hf3
    obtain ⟨hc4, hf4, hl4⟩ := bcell hb4
    clear hl4
    go_wp2
    go_ret
    refine ⟨rfl, ?_⟩
    (repeat (first | assumption | exact Below.refl _ _ | refine ba ?_ _ | refine bd ?_ | refine bdn ?_ _ | refine bs ?_ (by first | omega | (simp; done) | (simp; omega)) _ | refine bt ?_ (by assumption)))
end Go.Proofs.YtlhljioncgddeaaDoor

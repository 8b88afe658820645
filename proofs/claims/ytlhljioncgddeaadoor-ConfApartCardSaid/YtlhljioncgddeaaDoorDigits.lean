/- Contract of mancipleref02.Digits (out of XQuantT, for seats without quant). -/
import Derived.Test.YtlhljioncgddeaaDoorItoa
import Derived.Laws.BytesArg
import Derived.OwnWalk
namespace Go.Proofs.YtlhljioncgddeaaDoor
open Go.RowKit Go.Proofs
attribute [local go_sem] ext_cell ext_frozen Mix.calmUpon Mix.mUpon
/-- The letter of a digit. -/
def dg (d : Nat) : UInt8 := UInt8.ofNat (48 + d)
theorem dec_len (u : Nat) (h : u ≤ 9223372036854775807) : (Lib.decDigits u).length ≤ 21 := by
  have := (itoaS_size (n := (u : Int)) (by omega) (by omega)).2
  rw [itoaS_nonneg (by omega)] at this
  simpa [ByteArray.size] using this
theorem conv1 (x : Int) (W : World) : (convert 84 9 (.slice (some ⟨W.heap.size, 0, none⟩) 1 1)).run Tryd.prog (W.alloc (.cells #[.int .u8 x] 5)) = .ok (.string (strOfNums [x])) (W.alloc (.cells #[.int .u8 x] 5)) :=
  run_convert_bytes_arg _ 84 5 Tryd.underlying84 Tryd.underlying5 W.heap.size 0 1 1 [x] rfl (fun i hi => by
    obtain rfl : i = 0 := by omega
    simp [go_sem]) 9 Tryd.underlying9
theorem son_cons (d : Nat) (S : List UInt8) : strOfNums [48 + (d : Int)] ++ ⟨S.toArray⟩ = ⟨(dg d :: S).toArray⟩ := by
  apply Go.WideShapes.bytes_inj
  rw [ByteArray.data_append, Array.toList_append, strOfNums_data]
  have : (48 + (d : Int)).toNat = 48 + d := by omega
  simp [dg, this]
def natOf : Value → Nat
  | .int _ n => n.toNat
  | _ => 0
def boolN : Value → Nat
  | .bool true => 1
  | _ => 0
set_option maxRecDepth 100000 in
set_option maxHeartbeats 2000000 in
theorem refdigits_any (n : Nat) (hn : n ≤ 9223372036854775807) : Pure Tryd.prog 65 #[.int .i64 n] (.string ⟨(Lib.decDigits n).toArray⟩) := by
  intro W
  have HL := Lib.hid (dec_len n hn)
  have hnI : (n : Int) ≤ 9223372036854775807 := by omega
  go_enter Tryd.func65, Tryd.ntmps65
  go_wp2
  go_loopw [0, 3, 4] (fun x s a wr => ∃ (cur : Nat) (S : List UInt8) (b : Bool), cur ≤ n ∧ x = .int .i64 cur ∧ s = .string ⟨S.toArray⟩ ∧ a = .bool b ∧ Hid (if b then Lib.decDigits n = Lib.decDigits cur ++ S else Lib.decDigits n = S) ∧ Below W.heap.size W wr) (fun x _ a _ => 2 * natOf x + boolN a)
  case atStart => exact ⟨n, [], true, Nat.le_refl _, rfl, rfl, rfl, Lib.hid (by simp), Below.refl _ _⟩
  case round =>
    rename_i wr
    obtain ⟨cur, S, b, hcn, rfl, rfl, rfl, HE, hb⟩ := hrel
    cases b with
    | false =>
      go_wp2
      go_ret
      exact ⟨by have := HE.out; simp at this; rw [this]; rfl, hb⟩
    | true =>
      have hSl : S.length ≤ 20 := by
        have h1 := HE.out
        have h2 := HL.out
        simp only [if_true] at h1
        rw [h1, List.length_append] at h2
        have h3 := List.length_pos_iff.2 (dec_ne cur)
        omega
      have hsz : (strOfNums [48 + ((cur % 10 : Nat) : Int)]).size + (ByteArray.mk S.toArray).size ≤ 9223372036854775807 := by
        rw [strOfNums_size]
        show 1 + S.toArray.size ≤ _
        simp; omega
      have e0 : ((cur % 10 : Nat) : Int) = (cur : Int) % 10 := by omega
      rw [e0] at hsz
      have hson := son_cons (cur % 10) S
      rw [e0] at hson
      have HS := Lib.hid hson
      have kc := conv1 (48 + (cur : Int) % 10) wr
      have HBl := Lib.hid hb
      clear hson e0 hSl hb
      by_cases h0 : cur / 10 = 0
      · have h0I : (cur : Int) / 10 = 0 := by omega
        have h0I := h0I
        have hd : Lib.decDigits cur = [dg (cur % 10)] := by
          rw [decDigits_lt cur (by omega), show cur % 10 = cur by omega]; rfl
        have HD := Lib.hid hd
        clear hd
        go_wp2
        go_roundw
        case rel => exact ⟨0, dg (cur % 10) :: S, false, by omega, rfl, by rw [← HS.out], rfl, Lib.hid (by have := HE.out; simp only [if_true] at this; rw [this, HD.out]; rfl), HBl.out.alloc HBl.out.size _⟩
        case measure => simp [natOf, boolN]
      · have h0I : (0 : Int) < (cur : Int) / 10 := by omega
        have hd : Lib.decDigits cur = Lib.decDigits (cur / 10) ++ [dg (cur % 10)] := decDigits_go cur (by omega)
        have HD := Lib.hid hd
        clear hd
        go_wp2
        go_roundw
        case rel => exact ⟨cur / 10, dg (cur % 10) :: S, true, by omega, by go_num, by rw [← HS.out], rfl, Lib.hid (by have := HE.out; simp only [if_true] at this ⊢; rw [this, HD.out, List.append_assoc]; rfl), HBl.out.alloc HBl.out.size _⟩
        case measure => simp [natOf, boolN]; omega
end Go.Proofs.YtlhljioncgddeaaDoor

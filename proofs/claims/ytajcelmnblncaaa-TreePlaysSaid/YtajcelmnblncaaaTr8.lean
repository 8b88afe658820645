/- tree: Has, At, First, All. -/
import Derived.Test.YtajcelmnblncaaaTr7
namespace Go.Proofs.Ytajcelmnblncaaa
open Go.RowKit
attribute [local go_sem] ext_cell ext_frozen extC_cell extC_frozen Mix.calmUpon Mix.mUpon
def atL (L : List Int) (i : Int) : Option Int := if 0 ≤ i then L[i.toNat]? else none
def atV : Option Int → Value
  | some x => .tuple #[.int .i64 x, .bool true]
  | none => .tuple #[.int .i64 0, .bool false]
theorem atL_lt {A B : List Int} {x i : Int} (h : i < A.length) : atL (A ++ x :: B) i = atL A i := by
  unfold atL
  split
  · rw [List.getElem?_append_left (by omega)]
  · rfl
theorem atL_here {A B : List Int} {x i : Int} (h : i = A.length) : atL (A ++ x :: B) i = some x := by
  subst h
  unfold atL
  rw [if_pos (by omega)]; simp
theorem atL_gt {A B : List Int} {x i : Int} (h : (A.length : Int) < i) : atL (A ++ x :: B) i = atL B (i - (A.length + 1)) := by
  unfold atL
  rw [if_pos (by omega), if_pos (by omega), List.getElem?_append_right (by omega)]
  rw [show i.toNat - A.length = (i - (A.length + 1)).toNat + 1 by omega]
  simp
section
variable {tp fn : Nat} {caps : Array Value} {C : World → Prop} {J : Int → Prop} {o : Int → Int → Int}
theorem thas (hO : OV tp fn caps C J o) {w : World} {L : List Int} (h : TT tp fn caps C J o w L) {k : Int} (hk : J k) (hl : L.length < 1000000) : Calls Try.prog 18 #[tptr tp, .int .i64 k] w fun e w' => e = .returned (.bool (hasL k L)) ∧ Below w.heap.size w w' := by
  have HP := Lib.hid (tplace hO h hk hl)
  have HQ := Lib.hid (plL_has L k)
  generalize plL L k = q at *
  clear h hO hk hl
  go_enter Try.func18, Try.ntmps18
  go_wp2_with fail
  refine HP.out.mono ?_
  rintro e w1 ⟨rfl, hb1⟩
  have HB := Lib.hid hb1
  clear hb1
  go_wp2
  go_ret
  exact ⟨by rw [← HQ.out]; rfl, HB.out⟩
set_option maxRecDepth 100000 in
set_option maxHeartbeats 2000000 in
theorem tat {w : World} {L : List Int} (h : TT tp fn caps C J o w L) {i : Int} (hi : i ≤ 9223372036854775807) (hl : L.length < 1000000) : Calls Try.prog 25 #[tptr tp, .int .i64 i] w fun e w' => e = .returned (atV (atL L i)) ∧ w' = w := by
  obtain ⟨p, t, hT, hn, rfl⟩ := h.t
  have HT := Lib.hid hT
  have HN0 := Lib.hid hn
  have hz0 : sz t < 1000000 := by rw [← tl_len]; exact hl
  obtain ⟨R, hR⟩ : ∃ R, atL (tl t) i = R := ⟨_, rfl⟩
  have HP0 := Lib.hid hR.symm
  rw [hR]
  clear hT hn h hl hR
  go_enter Try.func25, Try.ntmps25
  go_wp2_with fail
  refine (ttop HT.out).mono ?_
  rintro e w1 ⟨rfl, rfl⟩
  go_wp2
  go_loop [1, 6] (fun iv nv => ∃ (j : Int) (u : Tr) (pu : Option Addr), iv = .int .i64 j ∧ nv = .pointer pu ∧ j ≤ 9223372036854775807 ∧ sz u < 1000000 ∧ Hid (Tn w (.pointer pu) u) ∧ Hid (R = atL (tl u) j)) (fun _ nv => lenAt w nv)
  case atStart => exact ⟨i, t, p, rfl, rfl, hi, hz0, HN0, HP0⟩
  case round =>
    obtain ⟨j, u, pu, rfl, rfl, hj, hzu, HN, HP⟩ := hrel
    cases u with
    | lf =>
      cases HN.out.lf_
      have HE := Lib.hid (show R = none by rw [HP.out]; unfold atL tl; split <;> simp)
      go_wp2
      go_ret2
      exact ⟨by rw [HE.out]; rfl, rfl⟩
    | nd l x r =>
      obtain ⟨b, pl, pr, hpu, hN, hl, hr⟩ := HN.out.node
      cases hpu
      have HL := Lib.hid hl; have HR := Lib.hid hr
      have hzz : 1 + sz l + sz r < 1000000 := hzu
      have HM := Lib.hid (lenAt_of HN.out)
      have HLN := Lib.hid (tl_len l)
      obtain ⟨x0, x1, x2⟩ := hN.cells
      have xs := hN.lt
      clear hN hl hr hzu
      by_cases hlt : j < (sz l : Int)
      · have HE := Lib.hid (show R = atL (tl l) j by rw [HP.out, show tl (.nd l x r) = tl l ++ x :: tl r from rfl, atL_lt (by rw [HLN.out]; exact hlt)])
        have hne : (j == (sz l : Int)) = false := by simpa using fun e => by omega
        go_wp2_with fail
        refine (length_t HL.out).mono ?_
        rintro e w4 ⟨rfl, rfl⟩
        go_wp2
        go_round
        case rel => exact ⟨j, l, pl, rfl, rfl, hj, by omega, HL, HE⟩
        case measure =>
          rw [lenAt_of HL.out, HM.out]; simp only [sz]; omega
      · by_cases hgt : (sz l : Int) < j
        · have HE := Lib.hid (show R = atL (tl r) (j - ((sz l : Int) + 1)) by rw [HP.out, show tl (.nd l x r) = tl l ++ x :: tl r from rfl, atL_gt (by rw [HLN.out]; exact hgt), HLN.out])
          have hne : (j == (sz l : Int)) = false := by simpa using fun e => by omega
          have hj0 : 0 ≤ j - ((sz l : Int) + 1) := by omega
          go_wp2_with fail
          refine (length_t HL.out).mono ?_
          rintro e w4 ⟨rfl, rfl⟩
          go_wp2
          go_round
          case rel => exact ⟨j - ((sz l : Int) + 1), r, pr, rfl, rfl, by omega, by omega, HR, HE⟩
          case measure =>
            rw [lenAt_of HR.out, HM.out]; simp only [sz]; omega
        · have h0 : j = (sz l : Int) := by omega
          have hne : (j == (sz l : Int)) = true := by simpa using h0
          have HE := Lib.hid (show R = some x by rw [HP.out, show tl (.nd l x r) = tl l ++ x :: tl r from rfl, atL_here (by rw [HLN.out]; exact h0)])
          clear h0 hgt hlt
          go_wp2_with fail
          refine (length_t HL.out).mono ?_
          rintro e w4 ⟨rfl, rfl⟩
          go_wp2
          go_ret2
          exact ⟨by rw [HE.out]; rfl, rfl⟩
theorem tfirst {w : World} {L : List Int} (h : TT tp fn caps C J o w L) (hl : L.length < 1000000) : Calls Try.prog 26 #[tptr tp] w fun e w' => e = .returned (atV (atL L 0)) ∧ w' = w := by
  have HA := Lib.hid (tat h (i := 0) (by decide) hl)
  generalize atL L 0 = q at *
  clear h hl
  go_enter Try.func26, Try.ntmps26
  go_wp2_with fail
  refine HA.out.mono ?_
  rintro e w1 ⟨rfl, rfl⟩
  cases q with
  | none =>
    rw [show atV none = .tuple #[.int .i64 0, .bool false] from rfl]
    go_wp2
    go_ret2
    exact ⟨rfl, rfl⟩
  | some x =>
    rw [show atV (some x) = .tuple #[.int .i64 x, .bool true] from rfl]
    go_wp2
    go_ret2
    exact ⟨rfl, rfl⟩
end
end Go.Proofs.Ytajcelmnblncaaa

/- tree: Place, Has, At, First. -/
import Derived.Test.YtajcelmnblncaaaTr6
namespace Go.Proofs.Ytajcelmnblncaaa
open Go.RowKit
attribute [local go_sem] ext_cell ext_frozen extC_cell extC_frozen Mix.calmUpon Mix.mUpon
/-- How many numbers a tree has, by its node. -/
def lenAt (w : World) : Value → Nat
  | .pointer (some a) => match w.cell? ⟨a.block, 4, none⟩ with
    | some (.int _ n) => n.toNat
    | _ => 0
  | _ => 0
theorem lenAt_of {w : World} {v : Value} {t : Tr} (h : Tn w v t) : lenAt w v = sz t := by
  cases t with
  | lf => rw [h.lf_]; rfl
  | nd l k r =>
    obtain ⟨b, lv, rv, rfl, _, _, _, _, _, c4, _, _⟩ := h.nd_
    simp [lenAt, c4]
/-- Where a number stands in a tree that lies behind p others. -/
def plA (L : List Int) (k p : Int) : Int := if 0 ≤ plL L k then p + plL L k else -1
section
variable {tp fn : Nat} {caps : Array Value} {C : World → Prop} {J : Int → Prop} {o : Int → Int → Int}
theorem plL_lt (L : List Int) (k : Int) : plL L k < L.length := by
  unfold plL
  split
  · rename_i h; have := List.idxOf_lt_length_of_mem h; omega
  · omega
theorem plL_ge (L : List Int) (k : Int) : -1 ≤ plL L k := by unfold plL; split <;> omega
theorem plL_has (L : List Int) (k : Int) : decide (0 ≤ plL L k) = hasL k L := by
  unfold plL hasL
  by_cases h : k ∈ L
  · rw [if_pos h]; simp [h]
  · rw [if_neg h]; simp [h]
set_option maxRecDepth 100000 in
set_option maxHeartbeats 2000000 in
theorem tplace (hO : OV tp fn caps C J o) {w : World} {L : List Int} (h : TT tp fn caps C J o w L) {k : Int} (hk : J k) (hl : L.length < 1000000) : Calls Try.prog 24 #[tptr tp, .int .i64 k] w fun e w' => e = .returned (.int .i64 (plL L k)) ∧ Below w.heap.size w w' := by
  obtain ⟨p, t, hT, hn, rfl⟩ := h.t
  have HT := Lib.hid hT; have HO := Lib.hid hO; have HC := Lib.hid h.c; have HK := Lib.hid hk
  have HN0 := Lib.hid hn; have HS0 := Lib.hid h.s
  have HP0 := Lib.hid (show plL (tl t) k = plA (tl t) k 0 by unfold plA; have := plL_ge (tl t) k; split <;> omega)
  have hz0 : sz t < 1000000 := by rw [← tl_len]; exact hl
  obtain ⟨R, hR⟩ : ∃ R, plL (tl t) k = R := ⟨_, rfl⟩
  rw [hR] at HP0 ⊢
  clear hT hn h hO hk hl hR
  go_enter Try.func24, Try.ntmps24
  go_wp2_with fail
  refine (ttop HT.out).mono ?_
  rintro e w1 ⟨rfl, rfl⟩
  go_wp2
  go_loopw [5, 6] (fun pv nv wr => ∃ (q : Nat) (u : Tr) (pu : Option Addr), pv = .int .i64 (q : Int) ∧ nv = .pointer pu ∧ q + sz u < 1000000 ∧ Hid (Tn w (.pointer pu) u) ∧ Hid (SL J o (tl u)) ∧ Hid (R = plA (tl u) k q) ∧ Hid (Below w.heap.size w wr)) (fun _ nv wr => lenAt wr nv)
  case atStart => exact ⟨0, t, p, rfl, rfl, by omega, HN0, HS0, HP0, Lib.hid (Below.refl _ _)⟩
  case round =>
    obtain ⟨q, u, pu, rfl, rfl, hqz, HN, HS, HP, HB⟩ := hrel
    obtain ⟨w2, rfl⟩ : ∃ w2, w2 = wr := ⟨_, rfl⟩
    cases u with
    | lf =>
      cases HN.out.lf_
      have HE := Lib.hid (show R = -1 by rw [HP.out]; rfl)
      go_wp2
      go_ret
      exact ⟨by rw [HE.out]; rfl, HB.out⟩
    | nd l x r =>
      obtain ⟨b, pl, pr, hpu, hN, hl, hr⟩ := HN.out.node
      cases hpu
      have HNN := Lib.hid (hN.below HB.out); have HL := Lib.hid hl; have HR := Lib.hid hr
      have HS' := Lib.hid (show SL J o (tl l ++ x :: tl r) from HS.out)
      have HX := Lib.hid HS'.out.mid.1
      have hzz : q + (1 + sz l + sz r) < 1000000 := hqz
      have HM := Lib.hid (lenAt_of (HN.out.below HB.out))
      obtain ⟨x0, x1, x2⟩ := HNN.out.cells
      have xs := HNN.out.lt
      clear hN hl hr hqz
      by_cases hlt : o k x < 0
      · have HE := Lib.hid (show R = plA (tl l) k q by rw [HP.out]; unfold plA; rw [show tl (.nd l x r) = tl l ++ x :: tl r from rfl, pl_lt HO.out.ord HS'.out HK.out hlt])
        go_wp2_with fail
        refine (compare_t HO.out (HT.out.below HB.out) (HO.out.on HC.out HB.out) HK.out HX.out).mono ?_
        rintro e w3 ⟨rfl, hb3⟩
        have HB3 := Lib.hid (bt HB.out hb3)
        have HN3 := Lib.hid (HNN.out.below hb3)
        clear hb3 x0 x1 x2 xs
        obtain ⟨x0, x1, x2⟩ := HN3.out.cells
        have xs := HN3.out.lt
        go_wp2
        go_roundw
        case rel => exact ⟨q, l, pl, rfl, rfl, by omega, HL, Lib.hid HS'.out.left, HE, HB3⟩
        case measure =>
          rw [lenAt_of (HL.out.below HB3.out), HM.out]; simp only [sz]; omega
      · by_cases hgt : 0 < o k x
        · have HE := Lib.hid (show R = plA (tl r) k ((q + (sz l + 1) : Nat) : Int) by
            rw [HP.out]; unfold plA; rw [show tl (.nd l x r) = tl l ++ x :: tl r from rfl, pl_gt HO.out.ord HS'.out HK.out hgt, tl_len]
            by_cases h0 : 0 ≤ plL (tl r) k
            · rw [if_pos h0, if_pos h0, if_pos (by omega)]; omega
            · rw [if_neg h0, if_neg h0, if_neg (by omega)])
          go_wp2_with fail
          refine (compare_t HO.out (HT.out.below HB.out) (HO.out.on HC.out HB.out) HK.out HX.out).mono ?_
          rintro e w3 ⟨rfl, hb3⟩
          have HB3 := Lib.hid (bt HB.out hb3)
          have HN3 := Lib.hid (HNN.out.below hb3)
          clear hb3 x0 x1 x2 xs
          obtain ⟨x0, x1, x2⟩ := HN3.out.cells
          have xs := HN3.out.lt
          have hne : (o k x == 0) = false := by simpa using fun e => by omega
          go_wp2_with fail
          refine (length_t (HL.out.below HB3.out)).mono ?_
          rintro e w4 ⟨rfl, rfl⟩
          go_wp2
          go_roundw
          case rel => exact ⟨q + (sz l + 1), r, pr, by go_num, rfl, by omega, HR, Lib.hid HS'.out.right.tail, HE, HB3⟩
          case measure =>
            rw [lenAt_of (HR.out.below HB3.out), HM.out]; simp only [sz]; omega
        · have h0 : o k x = 0 := by omega
          have hne : (o k x == 0) = true := by simpa using h0
          have HE := Lib.hid (show R = q + sz l by rw [HP.out]; unfold plA; rw [show tl (.nd l x r) = tl l ++ x :: tl r from rfl, pl_here HO.out.ord HS'.out HK.out h0, tl_len, if_pos (by omega)])
          clear h0 hgt hlt
          go_wp2_with fail
          refine (compare_t HO.out (HT.out.below HB.out) (HO.out.on HC.out HB.out) HK.out HX.out).mono ?_
          rintro e w3 ⟨rfl, hb3⟩
          have HB3 := Lib.hid (bt HB.out hb3)
          have HN3 := Lib.hid (HNN.out.below hb3)
          clear hb3 x0 x1 x2 xs
          obtain ⟨x0, x1, x2⟩ := HN3.out.cells
          have xs := HN3.out.lt
          go_wp2_with fail
          refine (length_t (HL.out.below HB3.out)).mono ?_
          rintro e w4 ⟨rfl, rfl⟩
          clear x0 x1 x2 xs
          go_wp2
          go_ret
          exact ⟨by rw [HE.out]; rfl, HB3.out⟩
end
end Go.Proofs.Ytajcelmnblncaaa

/- Contract of quant.Parse at every string. Condition: the powers of ten lie in their variable. -/
import Derived.Test.YtfnfolpdbbnnlaaDoorQuantR
import Derived.Laws.RangeAny
import Derived.Laws.RangeString
namespace Go.Proofs.YtfnfolpdbbnnlaaDoor
open Go.RowKit
attribute [local go_sem] ext_cell ext_frozen Mix.calmUpon Mix.mUpon
theorem iter_below' (W : World) (s : ByteArray) (p : Nat) : Below W.heap.size W (W.iter s p) := ba (Below.refl _ _) _
theorem take_at (s : ByteArray) (p : Nat) (h : p < s.size) : s.data.toList.take (p + 1) = s.data.toList.take p ++ [s[p]] := by
  rw [List.take_succ_eq_append_getElem (by simpa using h)]; rfl
theorem rds_take {s : ByteArray} {p : Nat} (h : p < s.size) {a : Nat × Nat × Bool} (ha : rds (0, 0, false) (s.data.toList.take p) = some a) : rds (0, 0, false) (s.data.toList.take (p + 1)) = rd a s[p] := by
  rw [take_at s p h, rds_append, ha]
  simp only [rds]
  cases rd a s[p] <;> rfl
theorem qP_stop {s : ByteArray} {p : Nat} (h : p < s.size) {a : Nat × Nat × Bool} (ha : rds (0, 0, false) (s.data.toList.take p) = some a) (hn : rd a s[p] = none) : qP s.data.toList = (0, false) := by
  have e : s.data.toList = s.data.toList.take (p + 1) ++ s.data.toList.drop (p + 1) := (List.take_append_drop _ _).symm
  unfold qP
  rw [e, rds_append, rds_take h ha, hn]
theorem fin_stop {f n p : Nat} (h : ¬ (p < 3 ∧ n ≤ 9007199254740992)) : fin f n p = n := by
  cases f with
  | zero => rfl
  | succ f => rw [fin, if_neg h]
/-- What has been read, and where. -/
structure PS (s : ByteArray) (p n pl : Nat) (q : Bool) : Prop where
  le : p ≤ s.size
  rd : rds (0, 0, false) (s.data.toList.take p) = some (n, pl, q)
  pl3 : pl ≤ 3
  hi : n ≤ 90071992547409929
set_option maxRecDepth 100000 in
set_option maxHeartbeats 4000000 in
theorem qparse_any (s : ByteArray) : PureOn T10 Tryd.prog 25 #[.string s] (.tuple #[.int .i64 (((qP s.data.toList).1 : Nat) : Int), .bool (qP s.data.toList).2]) := by
  intro W hT
  have HT := Lib.hid hT
  clear hT
  skip
  go_enter Tryd.func25, Tryd.ntmps25
  go_wp2
  go_loopw [4, 5, 6] (fun x l q wr => ∃ (p n pl : Nat) (b : Bool), Hid (PS s p n pl b) ∧ x = .int .i64 n ∧ l = .int .i64 pl ∧ q = .bool b ∧ wr = W.iter s p) (fun _ _ _ wr => s.size - wr.iterPos W.heap.size)
  case atStart => exact ⟨0, 0, 0, false, Lib.hid ⟨Nat.zero_le _, rfl, by decide, by decide⟩, rfl, rfl, rfl, rfl⟩
  case round =>
    obtain ⟨p, n, pl, b, HP, rfl, rfl, rfl, rfl⟩ := hrel
    have hple := HP.out.le
    have hpl3 := HP.out.pl3
    have hnhi := HP.out.hi
    by_cases hlt : p < s.size
    · have core : ∀ (r p' : Nat), p < p' → (∀ ty, (Instr.next (.pointer (some ⟨W.heap.size, 0, none⟩)) true ty).run Tryd.prog (W.iter s p) = .ok (.tuple #[.bool true, .int .i64 p, .int .i32 (r : Int)]) (W.iter s p')) → r ≤ 2147483647 →
          ((r = (s[p]'hlt).toNat ∧ p' = p + 1) ∨ (128 ≤ r ∧ 128 ≤ (s[p]'hlt).toNat)) → True := fun _ _ _ _ _ _ => trivial
      clear core
      obtain ⟨r, p', hpp, hnx, hr, hor⟩ : ∃ (r p' : Nat), p < p' ∧ (∀ ty, (Instr.next (.pointer (some ⟨W.heap.size, 0, none⟩)) true ty).run Tryd.prog (W.iter s p) = .ok (.tuple #[.bool true, .int .i64 p, .int .i32 (r : Int)]) (W.iter s p')) ∧ r ≤ 2147483647 ∧
          ((r = (s[p]'hlt).toNat ∧ p' = p + 1) ∨ (128 ≤ r ∧ 128 ≤ (s[p]'hlt).toNat)) := by
        by_cases hasc : (s[p]'hlt).toNat < 128
        · exact ⟨_, p + 1, by omega, fun ty => run_next_ascii W s p ty hlt hasc, by omega, .inl ⟨rfl, rfl⟩⟩
        · have hd := decode_high s p hlt (by omega)
          exact ⟨(Utf8.decode s p).1, p + (Utf8.decode s p).2, by omega, fun ty => run_next_any W s p ty hlt, decode_le s p, .inr ⟨hd.1, by omega⟩⟩
      have HRT := Lib.hid (fun hh : rd (n, pl, b) (s[p]'hlt) = none => qP_stop hlt HP.out.rd hh)
      have HRD := Lib.hid (rds_take hlt HP.out.rd)
      have HOR := Lib.hid hor
      have HNX := Lib.hid hnx
      clear hor hnx
      generalize (s[p]'hlt) = c at *
      have hrI : (r : Int) ≤ 2147483647 := by omega
      have hnI : (n : Int) ≤ 90071992547409929 := by omega
      have hplI : (pl : Int) ≤ 3 := by omega
      cases b with
      | false =>
        by_cases h46 : r = 46
        · have t1 : ((r : Int) == 46) = true := by simp; omega
          have hnx := HNX.out
          clear HNX
          go_wp2
          go_roundw
          case rel => exact ⟨p', n, pl, true, Lib.hid ⟨by have := HOR.out; omega, by have h1 := HOR.out; rw [show p' = p + 1 by omega, HRD.out]; unfold rd; rw [if_pos ⟨by omega, rfl⟩], hpl3, hnhi⟩, rfl, rfl, rfl, rfl⟩
          case measure => have := HOR.out; simp; omega
        have t1 : ((r : Int) == 46) = false := by simp; omega
        by_cases k1 : r < 48
        · have k1I : (r : Int) < 48 := by omega
          have hnx := HNX.out
          clear HNX
          go_wp2
          go_ret2
          exact ⟨by
            have h := HRT.out (by
              unfold rd
              simp only
              have h1 := HOR.out
              rw [if_neg (by intro hh; omega), if_pos (by omega)])
            rw [h]; rfl, iter_below' _ _ _⟩
        by_cases k2 : 57 < r
        · have k2I : 57 < (r : Int) := by omega
          have k1I : 48 ≤ (r : Int) := by omega
          have hnx := HNX.out
          clear HNX
          go_wp2
          go_ret2
          exact ⟨by
            have h := HRT.out (by
              unfold rd
              simp only
              have h1 := HOR.out
              rw [if_neg (by intro hh; omega), if_pos (by omega)])
            rw [h]; rfl, iter_below' _ _ _⟩
        have k1I : 48 ≤ (r : Int) := by omega
        have k2I : (r : Int) ≤ 57 := by omega
        by_cases k3 : pl = 3
        · have k3I : ((pl : Int) == 3) = true := by simp; omega
          have hnx := HNX.out
          clear HNX
          go_wp2
          go_ret2
          exact ⟨by
            have h := HRT.out (by
              unfold rd
              simp only
              have h1 := HOR.out
              rw [if_neg (by intro hh; omega), if_pos (by omega)])
            rw [h]; rfl, iter_below' _ _ _⟩
        have k3I : ((pl : Int) == 3) = false := by simp; omega
        by_cases k4 : 9007199254740992 < n
        · have k4I : 9007199254740992 < (n : Int) := by omega
          have hnx := HNX.out
          clear HNX
          go_wp2
          go_ret2
          exact ⟨by
            have h := HRT.out (by
              unfold rd
              simp only
              have h1 := HOR.out
              rw [if_neg (by intro hh; omega), if_pos (by omega)])
            rw [h]; rfl, iter_below' _ _ _⟩
        have k4I : (n : Int) ≤ 9007199254740992 := by omega
        have hnx := HNX.out
        clear HNX
        go_wp2
        go_roundw
        case rel =>
          refine ⟨p', 10 * n + (r - 48), pl + 0, false, Lib.hid ⟨by have := HOR.out; omega, ?_, by omega, by omega⟩, congrArg (Value.int .i64) (by omega), congrArg (Value.int .i64) (by omega), rfl, rfl⟩
          have h1 := HOR.out
          rw [show p' = p + 1 by omega, HRD.out]
          unfold rd
          simp only
          rw [if_neg (by intro hh; omega), if_neg (by omega), show c.toNat = r by omega]
          rfl
        case measure => have := HOR.out; simp; omega
      | true =>
        by_cases h46 : r = 46
        · have t1 : ((r : Int) == 46) = true := by simp; omega
          have k1 : (r : Int) < 48 := by omega
          have hnx := HNX.out
          clear HNX
          go_wp2
          go_ret2
          exact ⟨by
            have h := HRT.out (by
              unfold rd
              simp only
              have h1 := HOR.out
              rw [if_neg (by intro hh; simp at hh), if_pos (by omega)])
            rw [h]; rfl, iter_below' _ _ _⟩
        have t1 : ((r : Int) == 46) = false := by simp; omega
        by_cases k1 : r < 48
        · have k1I : (r : Int) < 48 := by omega
          have hnx := HNX.out
          clear HNX
          go_wp2
          go_ret2
          exact ⟨by
            have h := HRT.out (by
              unfold rd
              simp only
              have h1 := HOR.out
              rw [if_neg (by intro hh; simp at hh), if_pos (by omega)])
            rw [h]; rfl, iter_below' _ _ _⟩
        by_cases k2 : 57 < r
        · have k2I : 57 < (r : Int) := by omega
          have k1I : 48 ≤ (r : Int) := by omega
          have hnx := HNX.out
          clear HNX
          go_wp2
          go_ret2
          exact ⟨by
            have h := HRT.out (by
              unfold rd
              simp only
              have h1 := HOR.out
              rw [if_neg (by intro hh; simp at hh), if_pos (by omega)])
            rw [h]; rfl, iter_below' _ _ _⟩
        have k1I : 48 ≤ (r : Int) := by omega
        have k2I : (r : Int) ≤ 57 := by omega
        by_cases k3 : pl = 3
        · have k3I : ((pl : Int) == 3) = true := by simp; omega
          have hnx := HNX.out
          clear HNX
          go_wp2
          go_ret2
          exact ⟨by
            have h := HRT.out (by
              unfold rd
              simp only
              have h1 := HOR.out
              rw [if_neg (by intro hh; simp at hh), if_pos (by omega)])
            rw [h]; rfl, iter_below' _ _ _⟩
        have k3I : ((pl : Int) == 3) = false := by simp; omega
        by_cases k4 : 9007199254740992 < n
        · have k4I : 9007199254740992 < (n : Int) := by omega
          have hnx := HNX.out
          clear HNX
          go_wp2
          go_ret2
          exact ⟨by
            have h := HRT.out (by
              unfold rd
              simp only
              have h1 := HOR.out
              rw [if_neg (by intro hh; simp at hh), if_pos (by omega)])
            rw [h]; rfl, iter_below' _ _ _⟩
        have k4I : (n : Int) ≤ 9007199254740992 := by omega
        have hnx := HNX.out
        clear HNX
        go_wp2
        go_roundw
        case rel =>
          refine ⟨p', 10 * n + (r - 48), pl + 1, true, Lib.hid ⟨by have := HOR.out; omega, ?_, by omega, by omega⟩, congrArg (Value.int .i64) (by omega), congrArg (Value.int .i64) (by omega), rfl, rfl⟩
          have h1 := HOR.out
          rw [show p' = p + 1 by omega, HRD.out]
          unfold rd
          simp only
          rw [if_neg (by intro hh; simp at hh), if_neg (by omega), show c.toNat = r by omega]
          rfl
        case measure => have := HOR.out; simp; omega
    · have hpe : p = s.size := by omega
      have hnx : ∀ ty, (Instr.next (.pointer (some ⟨W.heap.size, 0, none⟩)) true ty).run Tryd.prog (W.iter s p) = .ok (.tuple #[.bool false]) (W.iter s p) := fun ty => run_next_end W s p ty hlt
      have hfull : rds (0, 0, false) s.data.toList = some (n, pl, b) := by
        have h := HP.out.rd
        rw [hpe, show s.data.toList.take s.size = s.data.toList from List.take_of_length_le (Nat.le_refl _)] at h
        exact h
      have HQ := Lib.hid (show qP s.data.toList = if fin 3 n pl ≤ 9007199254740992 ∧ qL (fin 3 n pl) = s.data.toList then (fin 3 n pl, true) else (0, false) by unfold qP; rw [hfull])
      clear hfull hpe
      have hnI : (n : Int) ≤ 90071992547409929 := by omega
      go_wp2
      clear hnx
      go_loopw [4, 5] (fun x l wr => ∃ (f n' p' : Nat), x = .int .i64 n' ∧ l = .int .i64 p' ∧ Hid (fin 3 n pl = fin f n' p') ∧ 3 ≤ p' + f ∧ p' ≤ 3 ∧ n' ≤ 90071992547409929 ∧ wr = W.iter s p) (fun _ l _ => 3 - (intOf l).toNat)
      case atStart => exact ⟨3, n, pl, rfl, rfl, Lib.hid rfl, by omega, hpl3, hnhi, rfl⟩
      case round =>
        obtain ⟨f, n', p', rfl, rfl, HF, hf3, hp3, hn', rfl⟩ := hrel
        have hn'I : (n' : Int) ≤ 90071992547409929 := by omega
        by_cases hgo : p' < 3 ∧ n' ≤ 9007199254740992
        · obtain ⟨g1, g2⟩ := hgo
          have g1I : (p' : Int) < 3 := by omega
          have g2I : (n' : Int) ≤ 9007199254740992 := by omega
          obtain ⟨f', rfl⟩ : ∃ f', f = f' + 1 := ⟨f - 1, by omega⟩
          go_wp2
          go_roundw
          case rel => exact ⟨f', n' * 10, p' + 1, by go_num, by go_num, Lib.hid (by rw [HF.out, fin, if_pos ⟨g1, g2⟩]), by omega, by omega, by omega, by first | trivial | rfl⟩
          case measure => simp [intOf]; omega
        · have hfe : fin 3 n pl = n' := by rw [HF.out]; exact fin_stop hgo
          have HFE := Lib.hid hfe
          clear hfe HF
          have HR0 := qright_any (n' : Int)
          have HB := Lib.hid (iter_below' W s p)
          by_cases hr : n' ≤ 9007199254740992
          · have hp3' : p' = 3 := by omega
            have p3I : (p' : Int) = 3 := by omega
            have p3J : ¬ (p' : Int) < 3 := by omega
            rw [decide_eq_true ⟨by omega, by omega⟩] at HR0
            have HR := Lib.hid HR0
            have HX := Lib.hid (qtext_yes n' hr)
            clear HR0 hgo hp3' p3I
            by_cases he : qT n' = s
            · have t1 := streq_yes he
              have hq : qP s.data.toList = (n', true) := by rw [HQ.out, HFE.out, if_pos ⟨hr, by rw [← he, qT_list]⟩]
              have HE := Lib.hid hq
              clear hq he
              go_wp2_with fail
              refine (HR.out _).mono ?_
              rintro e w2 ⟨rfl, hb2⟩
              have hbw := bt HB.out hb2
              go_wp2_with fail
              refine (HX.out.app _ (clo_T10 _ _ HT.out hbw)).mono ?_
              rintro e w3 ⟨rfl, hb3⟩
              go_wp2
              go_ret2
              exact ⟨by rw [HE.out]; rfl, bt hbw hb3⟩
            · have t1 := streq_no he
              have hq : qP s.data.toList = (0, false) := by rw [HQ.out, HFE.out, if_neg (fun h => he (by apply Go.WideShapes.bytes_inj; rw [qT_list]; exact h.2))]
              have HE := Lib.hid hq
              clear hq he
              go_wp2_with fail
              refine (HR.out _).mono ?_
              rintro e w2 ⟨rfl, hb2⟩
              have hbw := bt HB.out hb2
              go_wp2_with fail
              refine (HX.out.app _ (clo_T10 _ _ HT.out hbw)).mono ?_
              rintro e w3 ⟨rfl, hb3⟩
              go_wp2
              go_ret2
              exact ⟨by rw [HE.out]; rfl, bt hbw hb3⟩
          · have hrI : 9007199254740992 < (n' : Int) := by omega
            rw [decide_eq_false (by omega)] at HR0
            have HR := Lib.hid HR0
            have hq : qP s.data.toList = (0, false) := by rw [HQ.out, HFE.out, if_neg (fun h => hr h.1)]
            have HE := Lib.hid hq
            clear hq HR0 hgo
            by_cases hp : p' < 3
            · have hpI : (p' : Int) < 3 := by omega
              go_wp2_with fail
              refine (HR.out _).mono ?_
              rintro e w2 ⟨rfl, hb2⟩
              go_wp2
              go_ret2
              exact ⟨by rw [HE.out]; rfl, bt HB.out hb2⟩
            · have hpI : ¬ (p' : Int) < 3 := by omega
              go_wp2_with fail
              refine (HR.out _).mono ?_
              rintro e w2 ⟨rfl, hb2⟩
              go_wp2
              go_ret2
              exact ⟨by rw [HE.out]; rfl, bt HB.out hb2⟩
end Go.Proofs.YtfnfolpdbbnnlaaDoor

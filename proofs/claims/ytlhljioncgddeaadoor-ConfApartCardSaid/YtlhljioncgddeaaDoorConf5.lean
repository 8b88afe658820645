/- Contract of conf.Text at every configuration. Condition: the powers of ten lie in their variable. -/
import Derived.Test.YtlhljioncgddeaaDoorConf4
import Derived.Laws.BytesArg
namespace Go.Proofs.YtlhljioncgddeaaDoor
open Go.RowKit Go.Proofs
attribute [local go_sem] ext_cell ext_frozen Mix.calmUpon Mix.mUpon
/-- The nine numbers of a configuration. -/
def nine (h m i l c : Int) (n : Nat → Int) : Nat → Int
  | 0 => h | 1 => m | 2 => i | 3 => l | 4 => c | k + 5 => n k
/-- The first k numbers' texts, with blanks between. -/
def J (f : Nat → Int) : Nat → List UInt8
  | 0 => []
  | 1 => Lib.itoa (f 0)
  | k + 2 => J f (k + 1) ++ 32 :: Lib.itoa (f (k + 1))
theorem itoa_len {x : Int} (h0 : 0 ≤ x) (h1 : x ≤ 9223372036854775807) : 0 < (Lib.itoa x).length ∧ (Lib.itoa x).length ≤ 21 := by
  have := itoaS_size h0 h1
  unfold itoaS at this
  simpa [ByteArray.size] using this
theorem J_len (f : Nat → Int) (hf : ∀ k, k < 9 → 0 ≤ f k ∧ f k ≤ 9223372036854775807) : ∀ k, 0 < k → k ≤ 9 → 0 < (J f k).length ∧ (J f k).length ≤ 22 * k
  | 0, h, _ => by omega
  | 1, _, _ => by have := itoa_len (hf 0 (by omega)).1 (hf 0 (by omega)).2; unfold J; omega
  | k + 2, _, h => by
    have h1 := J_len f hf (k + 1) (by omega) (by omega)
    have h2 := itoa_len (hf (k + 1) (by omega)).1 (hf (k + 1) (by omega)).2
    rw [J, List.length_append, List.length_cons]
    omega
theorem add_J (f : Nat → Int) (hf : ∀ k, k < 9 → 0 ≤ f k ∧ f k ≤ 9223372036854775807) (v k : Nat) (hk : k < 9) (w : World) (hV : TV v w (J f k)) (hT : TBel v w) :
    Calls Tryd.prog 63 #[.int .i64 (f k), .pointer (some ⟨v, 0, none⟩)] w fun e w' => e = .returned (.tuple #[]) ∧ TV v w' (J f (k + 1)) ∧ Below v w w' := by
  have h1 := hf k hk
  cases k with
  | zero => exact add_nil v (f 0) (by omega) (by omega) w hV hT
  | succ k =>
    have hl := J_len f hf (k + 1) (by omega) (by omega)
    exact add_cons v (f (k + 1)) (by omega) (by omega) (J f (k + 1)) hl.1 (by omega) w hV hT
theorem conv_TV {w : World} {B n c : Nat} {a : Option Addr} {l : List UInt8} (h : w.ownsRow B 5 1 (.slice a n c) n (Lib.byteCells l)) (hl : n = l.length) (h0 : 0 < n) :
    (convert 84 9 (.slice a n c)).run Tryd.prog w = .ok (.string ⟨l.toArray⟩) w := by
  rcases h.2 with ⟨_, h1⟩ | ⟨g, cap, cur, he, _⟩
  · omega
  · simp only [Value.slice.injEq, true_and] at he
    obtain ⟨rfl, rfl⟩ := he
    have hx : strOfNums (l.map fun b => (b.toNat : Int)) = ⟨l.toArray⟩ := by
      apply Go.WideShapes.bytes_inj
      rw [strOfNums_data, List.map_map]
      conv => rhs; rw [show (⟨l.toArray⟩ : ByteArray).data.toList = l by simp, ← List.map_id l]
      apply List.map_congr_left
      intro x _
      simp
    have := run_convert_bytes_arg (P := Tryd.prog) w 84 5 Tryd.underlying84 Tryd.underlying5 g 0 n c (l.map fun b => (b.toNat : Int)) (by simp [hl]) (fun i hi => by
      rw [Nat.zero_add, World.ownsRow.cellAt h i (by omega)]
      have hil : i < l.length := by omega
      simp [Lib.byteCells, List.getElem?_map, List.getElem?_eq_getElem hil, List.getD]) 9 Tryd.underlying9
    rw [hx] at this
    exact this
theorem nine_ok {h m i l c : Int} {n : Nat → Int} (hr : CR h m i l c n) : ∀ k, k < 9 → 0 ≤ nine h m i l c n k ∧ nine h m i l c n k ≤ 9223372036854775807 := by
  obtain ⟨⟨a1, a2, a3, a4, a5, a6, a7, a8, a9, a10⟩, hm⟩ := hr
  intro k hk
  have : k = 0 ∨ k = 1 ∨ k = 2 ∨ k = 3 ∨ k = 4 ∨ k = 5 ∨ k = 6 ∨ k = 7 ∨ k = 8 := by omega
  rcases this with rfl | rfl | rfl | rfl | rfl | rfl | rfl | rfl | rfl
  · exact ⟨a1, by show h ≤ _; omega⟩
  · exact ⟨by show 0 ≤ m; omega, by show m ≤ _; omega⟩
  · exact ⟨a5, by show i ≤ _; omega⟩
  · exact ⟨a7, by show l ≤ _; omega⟩
  · exact ⟨by show 0 ≤ c; omega, by show c ≤ _; omega⟩
  · have := hm 0 (by omega); exact ⟨this.1, by show n 0 ≤ _; omega⟩
  · have := hm 1 (by omega); exact ⟨this.1, by show n 1 ≤ _; omega⟩
  · have := hm 2 (by omega); exact ⟨this.1, by show n 2 ≤ _; omega⟩
  · have := hm 3 (by omega); exact ⟨this.1, by show n 3 ≤ _; omega⟩
set_option maxRecDepth 100000 in
set_option maxHeartbeats 4000000 in
theorem ctext_yes (h m i l c : Int) (n : Nat → Int) (hr : CR h m i l c n) : PureOn T10 Tryd.prog 39 #[C9 h m i l c n] (.string ⟨(J (nine h m i l c n) 9).toArray⟩) := by
  intro W hT
  have HT := Lib.hid hT
  have H := check_any h m i l c n
  rw [if_pos hr] at H
  have H := Lib.hid H
  have HF := nine_ok hr
  obtain ⟨F, hF⟩ : ∃ F, F = nine h m i l c n := ⟨_, rfl⟩
  have HFF := Lib.hid hF
  rw [← hF] at HF ⊢
  have HF := Lib.hid HF
  clear hF
  clear hT hr
  have i0 : ∀ w, (Instr.index 87 (.agg #[.int .i64 h, .int .i64 m, .int .i64 i, .int .i64 l, .int .i64 c]) (.int .i64 0)).run Tryd.prog w = .ok (.int .i64 h) w := fun _ => by kernel_rfl
  have i1 : ∀ w, (Instr.index 87 (.agg #[.int .i64 h, .int .i64 m, .int .i64 i, .int .i64 l, .int .i64 c]) (.int .i64 1)).run Tryd.prog w = .ok (.int .i64 m) w := fun _ => by kernel_rfl
  have i2 : ∀ w, (Instr.index 87 (.agg #[.int .i64 h, .int .i64 m, .int .i64 i, .int .i64 l, .int .i64 c]) (.int .i64 2)).run Tryd.prog w = .ok (.int .i64 i) w := fun _ => by kernel_rfl
  have i3 : ∀ w, (Instr.index 87 (.agg #[.int .i64 h, .int .i64 m, .int .i64 i, .int .i64 l, .int .i64 c]) (.int .i64 3)).run Tryd.prog w = .ok (.int .i64 l) w := fun _ => by kernel_rfl
  have i4 : ∀ w, (Instr.index 87 (.agg #[.int .i64 h, .int .i64 m, .int .i64 i, .int .i64 l, .int .i64 c]) (.int .i64 4)).run Tryd.prog w = .ok (.int .i64 c) w := fun _ => by kernel_rfl
  go_enter Tryd.func39, Tryd.ntmps39
  go_wp2_with fail
  (with_reducible refine (H.out _).mono ?_)
  rintro e w1 ⟨rfl, hb1⟩
  have hs1 : W.heap.size + 1 ≤ w1.heap.size := (by have h := hb1.size; first | omega | (simp at h; omega))
  have hz1_0 : W.heap.size < w1.heap.size := (by omega)
  obtain ⟨hc1, hf1, hl1⟩ := bcell hb1
  clear hl1
  have HM := Lib.hid (fun (X : World) (hX : Below w1.heap.size w1 X) => conW_min W X h m i l c n (bt hb1 hX))
  have HB := Lib.hid (show Below W.heap.size W w1 by (repeat (first | assumption | exact Below.refl _ _ | refine ba ?_ _ | refine bd ?_ | refine bdn ?_ _ | refine bs ?_ (by first | omega | (simp; done) | (simp; omega)) _ | refine bt ?_ (by assumption))))
  have HTB := Lib.hid (show TBel w1.heap.size w1 from Lib.tabBelow_of_tabIs (clo_T10 _ _ HT.out (show Below W.heap.size W w1 by (repeat (first | assumption | exact Below.refl _ _ | refine ba ?_ _ | refine bd ?_ | refine bdn ?_ _ | refine bs ?_ (by first | omega | (simp; done) | (simp; omega)) _ | refine bt ?_ (by assumption))))))
  go_wp2
  have hvv : W.heap.size < w1.heap.size := by omega
  have HV0 := Lib.hid (show TV w1.heap.size (w1.alloc (.cells #[.slice none 0 0] 84)) [] from ⟨⟨.slice none 0 0, by simp [go_sem], ⟨rfl, .inl ⟨rfl, rfl⟩⟩⟩, by simp [go_sem], by simp⟩)
  go_loopw [23] (fun x wr => ∃ k : Nat, k ≤ 5 ∧ x = .int .i64 k ∧ Hid (TV w1.heap.size wr (J F k)) ∧ Below w1.heap.size w1 wr) (fun x _ => 5 - (intOf x).toNat)
  case atStart => exact ⟨0, by omega, rfl, Lib.hid HV0.out, by (repeat (first | assumption | exact Below.refl _ _ | refine ba ?_ _ | refine bd ?_ | refine bdn ?_ _ | refine bs ?_ (by first | omega | (simp; done) | (simp; omega)) _ | refine bt ?_ (by assumption)))⟩
  case round =>
    clear HV0
    obtain ⟨k, hk, rfl, HV, hb⟩ := hrel
    rename_i wr
    have HBB := Lib.hid hb
    have : k = 0 ∨ k = 1 ∨ k = 2 ∨ k = 3 ∨ k = 4 ∨ k = 5 := by omega
    rcases this with rfl | rfl | rfl | rfl | rfl | rfl
    · have HA := Lib.hid (show Calls Tryd.prog 63 #[.int .i64 h, .pointer (some ⟨w1.heap.size, 0, none⟩)] wr _ from (by have hq := add_J F HF.out w1.heap.size 0 (by omega) wr HV.out (HTB.out.on hb); rw [show F 0 = h by rw [HFF.out]; rfl] at hq; exact hq))
      clear hb
      go_wp2_with fail
      (with_reducible refine HA.out.mono ?_)
      rintro e w2 ⟨rfl, hv2, hb2⟩
      have HV2 := Lib.hid hv2
      clear hv2
      go_wp2
      go_roundw
      case rel => exact ⟨1, by omega, by go_num, HV2, HBB.out.trans hb2⟩
      case measure => simp [intOf]
    · have HA := Lib.hid (show Calls Tryd.prog 63 #[.int .i64 m, .pointer (some ⟨w1.heap.size, 0, none⟩)] wr _ from (by have hq := add_J F HF.out w1.heap.size 1 (by omega) wr HV.out (HTB.out.on hb); rw [show F 1 = m by rw [HFF.out]; rfl] at hq; exact hq))
      clear hb
      go_wp2_with fail
      (with_reducible refine HA.out.mono ?_)
      rintro e w2 ⟨rfl, hv2, hb2⟩
      have HV2 := Lib.hid hv2
      clear hv2
      go_wp2
      go_roundw
      case rel => exact ⟨2, by omega, by go_num, HV2, HBB.out.trans hb2⟩
      case measure => simp [intOf]
    · have HA := Lib.hid (show Calls Tryd.prog 63 #[.int .i64 i, .pointer (some ⟨w1.heap.size, 0, none⟩)] wr _ from (by have hq := add_J F HF.out w1.heap.size 2 (by omega) wr HV.out (HTB.out.on hb); rw [show F 2 = i by rw [HFF.out]; rfl] at hq; exact hq))
      clear hb
      go_wp2_with fail
      (with_reducible refine HA.out.mono ?_)
      rintro e w2 ⟨rfl, hv2, hb2⟩
      have HV2 := Lib.hid hv2
      clear hv2
      go_wp2
      go_roundw
      case rel => exact ⟨3, by omega, by go_num, HV2, HBB.out.trans hb2⟩
      case measure => simp [intOf]
    · have HA := Lib.hid (show Calls Tryd.prog 63 #[.int .i64 l, .pointer (some ⟨w1.heap.size, 0, none⟩)] wr _ from (by have hq := add_J F HF.out w1.heap.size 3 (by omega) wr HV.out (HTB.out.on hb); rw [show F 3 = l by rw [HFF.out]; rfl] at hq; exact hq))
      clear hb
      go_wp2_with fail
      (with_reducible refine HA.out.mono ?_)
      rintro e w2 ⟨rfl, hv2, hb2⟩
      have HV2 := Lib.hid hv2
      clear hv2
      go_wp2
      go_roundw
      case rel => exact ⟨4, by omega, by go_num, HV2, HBB.out.trans hb2⟩
      case measure => simp [intOf]
    · have HA := Lib.hid (show Calls Tryd.prog 63 #[.int .i64 c, .pointer (some ⟨w1.heap.size, 0, none⟩)] wr _ from (by have hq := add_J F HF.out w1.heap.size 4 (by omega) wr HV.out (HTB.out.on hb); rw [show F 4 = c by rw [HFF.out]; rfl] at hq; exact hq))
      clear hb
      go_wp2_with fail
      (with_reducible refine HA.out.mono ?_)
      rintro e w2 ⟨rfl, hv2, hb2⟩
      have HV2 := Lib.hid hv2
      clear hv2
      go_wp2
      go_roundw
      case rel => exact ⟨5, by omega, by go_num, HV2, HBB.out.trans hb2⟩
      case measure => simp [intOf]
    · clear hb
      simp only [show ((5 : Nat) : Int) = 5 from rfl]
      go_wp2
      go_loopw [30] (fun x wr => ∃ k : Nat, k ≤ 4 ∧ x = .int .i64 k ∧ Hid (TV w1.heap.size wr (J F (5 + k))) ∧ Below w1.heap.size w1 wr) (fun x _ => 4 - (intOf x).toNat)
      case atStart => exact ⟨0, by omega, rfl, Lib.hid HV.out, HBB.out⟩
      case round =>
        clear HV HBB
        obtain ⟨k, hk, rfl, HV, hb⟩ := hrel
        rename_i wr
        have HBB := Lib.hid hb
        by_cases hlt : k < 4
        · have hkI : (k : Int) < 4 := by omega
          have hc := HM.out wr hb k hlt
          have hzw : W.heap.size < wr.heap.size := by have := hb.size; omega
          have HA := Lib.hid (show Calls Tryd.prog 63 #[.int .i64 (n k), .pointer (some ⟨w1.heap.size, 0, none⟩)] wr _ from (by have hq := add_J F HF.out w1.heap.size (5 + k) (by omega) wr HV.out (HTB.out.on hb); rw [show F (5 + k) = n k by rw [HFF.out, Nat.add_comm]; rfl] at hq; exact hq))
          clear hb
          go_wp2_with fail
          (with_reducible refine HA.out.mono ?_)
          rintro e w2 ⟨rfl, hv2, hb2⟩
          have HV2 := Lib.hid hv2
          clear hv2
          go_wp2
          go_roundw
          case rel => exact ⟨k + 1, by omega, by go_num, HV2, HBB.out.trans hb2⟩
          case measure => simp [intOf]; omega
        · obtain rfl : k = 4 := by omega
          obtain ⟨⟨sv, hc, hown⟩, _, hzv⟩ := HV.out
          obtain ⟨a, cp, rfl⟩ := row_slice hown
          have hjl := J_len F HF.out 9 (by omega) (by omega)
          have kc := conv_TV hown rfl hjl.1
          have HBW := Lib.hid (bt HB.out hb)
          clear hown hb hjl
          go_wp2
          go_ret
          exact ⟨rfl, HBW.out⟩
end Go.Proofs.YtlhljioncgddeaaDoor

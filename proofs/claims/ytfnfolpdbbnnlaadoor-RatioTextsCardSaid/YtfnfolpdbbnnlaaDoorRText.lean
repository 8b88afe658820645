/- Contract of ratio.Text: the two texts, with a slash between them. Condition: what strconv.FormatInt says of the two numbers. -/
import Derived.Test.YtfnfolpdbbnnlaaDoorOn
import Derived.Test.YtfnfolpdbbnnlaaDoorRat1
import Derived.Lib.BufferWrite
import Derived.Laws.BytesArg
import Derived.OwnWalk
import Derived.Laws.CopyOwn
import Derived.WalkSmall
namespace Go.Proofs.YtfnfolpdbbnnlaaDoor
open Go.RowKit
attribute [local go_sem] ext_cell ext_frozen
theorem infoByte : (Tryd.prog.info? 5).map (fun i => (i.zero, i.size, i.bytes)) = some (some (.int .u8 0), 1, 1) := by kernel_rfl
theorem infoByte1 : (Tryd.prog.info? 5).map (·.size) = some 1 := by kernel_rfl
theorem row_made {w3 : World} {b g N : Nat} (h : w3.ownsRow b 5 1 (.slice (some ⟨g, 0, none⟩) N N) N (madeCells #[Value.int .u8 0] N).toList) : w3.heap[g]? = some (.cells (List.replicate N (Value.int .u8 0)).toArray 5 (0, 0)) := by
  obtain ⟨_, ⟨h, _⟩ | ⟨g', cap, cur, he, _, hg, _, _, hs, ht⟩⟩ := h
  · cases h
  · simp only [Value.slice.injEq, Option.some.injEq, Addr.mk.injEq, true_and, and_true] at he
    obtain ⟨rfl, rfl⟩ := he
    rw [hg, toList_madeCells_one] at *
    rw [List.take_of_length_le (by simp [hs])] at ht
    rw [← ht]
theorem row_one (sn : ByteArray) (m : Nat) : ((List.replicate (sn.size + 1 + m) (Value.int .u8 0)).toArray.toList.take 0 ++ Lib.byteCells sn.data.toList ++ (List.replicate (sn.size + 1 + m) (Value.int .u8 0)).toArray.toList.drop (0 + sn.size)).toArray =
    (Lib.byteCells sn.data.toList ++ Value.int .u8 0 :: List.replicate m (Value.int .u8 0)).toArray := by
  congr 1
  simp [List.drop_replicate, show sn.size + 1 + m - sn.size = m + 1 by omega, List.replicate_succ]
theorem bytes_len (s : ByteArray) : (Lib.byteCells s.data.toList).length = s.size := by rw [Lib.byteCells_length]; rfl
theorem row_mid (sn : ByteArray) (l : List Value) (v : Value) : (Lib.byteCells sn.data.toList ++ v :: l).toArray[sn.size]? = some v := by
  simp [bytes_len]
theorem row_set (sn : ByteArray) (m : Nat) (a b : Value) : (Lib.byteCells sn.data.toList ++ a :: List.replicate m (Value.int .u8 0)).toArray.setIfInBounds sn.size b =
    (Lib.byteCells sn.data.toList ++ b :: List.replicate m (Value.int .u8 0)).toArray := by
  rw [List.setIfInBounds_toArray]
  congr 1
  rw [List.set_append_right _ _ (by rw [bytes_len]; exact Nat.le_refl _), bytes_len]
  simp
theorem row_two (sn sd : ByteArray) : ((Lib.byteCells sn.data.toList ++ Value.int .u8 47 :: List.replicate sd.size (Value.int .u8 0)).toArray.toList.take (sn.size + 1) ++ Lib.byteCells sd.data.toList ++ (Lib.byteCells sn.data.toList ++ Value.int .u8 47 :: List.replicate sd.size (Value.int .u8 0)).toArray.toList.drop (sn.size + 1 + sd.size)).toArray =
    (Lib.byteCells (sn ++ ⟨#[47]⟩ ++ sd).data.toList).toArray := by
  congr 1
  have e1 : (Lib.byteCells sn.data.toList ++ Value.int .u8 47 :: List.replicate sd.size (Value.int .u8 0)).take (sn.size + 1) = Lib.byteCells sn.data.toList ++ [Value.int .u8 47] := by
    rw [List.take_append, bytes_len, List.take_of_length_le (by rw [bytes_len]; omega)]
    simp
  have e2 : (Lib.byteCells sn.data.toList ++ Value.int .u8 47 :: List.replicate sd.size (Value.int .u8 0)).drop (sn.size + 1 + sd.size) = [] := by
    apply List.drop_eq_nil_of_le
    simp [bytes_len]; omega
  show List.take (sn.size + 1) _ ++ _ ++ List.drop (sn.size + 1 + sd.size) _ = _
  rw [e1, e2, List.append_nil]
  simp [Lib.byteCells, ByteArray.data_append]
/-- string(b), b a row of the call's own that holds a text's letters. -/
theorem conv_row {W : World} {g cap : Nat} {s : ByteArray} (h : W.heap[g]? = some (.cells (Lib.byteCells s.data.toList).toArray 5 (0, 0))) :
    (convert 86 9 (.slice (some ⟨g, 0, none⟩) s.size cap)).run Tryd.prog W = .ok (.string s) W := by
  have hx : strOfNums (s.data.toList.map fun b => (b.toNat : Int)) = s := by
    apply Go.WideShapes.bytes_inj
    rw [strOfNums_data, List.map_map]
    conv => rhs; rw [← List.map_id s.data.toList]
    apply List.map_congr_left
    intro x _
    simp
  have := run_convert_bytes_arg (P := Tryd.prog) W 86 5 Tryd.underlying86 Tryd.underlying5 g 0 s.size cap (s.data.toList.map fun b => (b.toNat : Int)) (List.length_map _) (fun i hi => by
    have hl : i < s.data.size := hi
    rw [cell_of_row W g (0 + i) _ _ _ h]
    simp [Lib.byteCells, List.getD, Nat.zero_add]
    exact ⟨s.data[i], Array.getElem?_eq_getElem hl, by rw [Array.getElem?_eq_getElem hl]; rfl⟩) 9 Tryd.underlying9
  rw [hx] at this
  exact this
theorem rtext_no (n d : Int) (h : ¬ Rt n d) : Pure Tryd.prog 16 #[F2 n d] (.string ⟨#[]⟩) := by
  intro w
  have HR := Lib.hid (right_no n d h)
  clear h
  go_enter Tryd.func16, Tryd.ntmps16
  go_wp2_with fail
  (with_reducible refine (HR.out _).mono ?_)
  rintro e w1 ⟨rfl, hb1⟩
  have hs1 : w.heap.size + 1 ≤ w1.heap.size := (by have h := hb1.size; first | omega | (simp at h; omega))
  have hz1_0 : w.heap.size < w1.heap.size := (by omega)
  obtain ⟨hc1, hf1, hl1⟩ := bcell hb1
  clear hl1
  go_wp2
  go_ret
  refine ⟨rfl, ?_⟩
  (repeat (first | assumption | exact Below.refl _ _ | refine ba ?_ _ | refine bd ?_ | refine bdn ?_ _ | refine bs ?_ (by first | omega | (simp; done) | (simp; omega)) _ | refine bt ?_ (by assumption)))
set_option maxRecDepth 100000 in
set_option maxHeartbeats 2000000 in
theorem rtext_core (C : World → Prop) (hC : Clo C) (n d : Int) (h1 : 0 ≤ n) (h2 : 1 ≤ d) (sn sd : ByteArray) (hsn : sn.size ≤ 100) (hsd : sd.size ≤ 100) (hs0 : ¬ sd = ByteArray.empty)
    (hn : PureOn C Tryd.prog 58 #[.int .i64 n, .int .i64 10] (.string sn)) (hd : PureOn C Tryd.prog 58 #[.int .i64 d, .int .i64 10] (.string sd)) :
    PureOn C Tryd.prog 16 #[F2 n d] (.string (sn ++ ⟨#[47]⟩ ++ sd)) := by
  intro w hw
  obtain ⟨i0, hi, hz0, hz1, hz2⟩ := info_parts infoByte
  have HN := Lib.hid hn; have HD := Lib.hid hd
  clear hn hd
  go_enter Tryd.func16, Tryd.ntmps16
  go_wp2_with fail
  (with_reducible refine (right_yes n d h1 h2 _).mono ?_)
  rintro e w1 ⟨rfl, hb1⟩
  have hs1 : w.heap.size + 1 ≤ w1.heap.size := (by have h := hb1.size; first | omega | (simp at h; omega))
  have hz1_0 : w.heap.size < w1.heap.size := (by omega)
  obtain ⟨hc1, hf1, hl1⟩ := bcell hb1
  clear hl1
  have hw1 : C w1 := hC _ _ hw (by (repeat (first | assumption | exact Below.refl _ _ | refine ba ?_ _ | refine bd ?_ | refine bdn ?_ _ | refine bs ?_ (by first | omega | (simp; done) | (simp; omega)) _ | refine bt ?_ (by assumption))))
  go_wp2_with fail
  refine wp_region_pure (by kernel_rfl) (by kernel_rfl) ?_
  repeat (first | go_big_quiet_step (((go_at_call 58; first | with_reducible exact HN.out.quiet hC hw1 | with_reducible exact HD.out.quiet hC hw1))) | (quiet_step (((go_at_call 58; first | with_reducible exact HN.out.quiet hC hw1 | with_reducible exact HD.out.quiet hC hw1)))))
  refine wpQuiet_nil ?_
  rintro w2 ⟨x2, hx2⟩
  have hb2 := ext_below _ x2
  rw [← hx2] at hb2
  clear hx2 x2
  have hs2 : w1.heap.size + 0 ≤ w2.heap.size := (by have h := hb2.size; first | omega | (simp at h; omega))
  have hb1_2 := bel hb1 hb2 (by (repeat (first | assumption | exact Below.refl _ _ | refine ba ?_ _ | refine bd ?_ | refine bdn ?_ _ | refine bs ?_ (by first | omega | (simp; done) | (simp; omega)) _ | refine bt ?_ (by assumption))))
  clear hz1_0 hc1 hf1
  obtain ⟨hc1_2, hf1_2, hl1_2⟩ := bcell hb1_2
  clear hl1_2
  have hz2_0 : w.heap.size < w2.heap.size := (by omega)
  obtain ⟨hc2, hf2, hl2⟩ := bcell hb2
  clear hl2
  go_wp2_with (at_make; refine wpList_make_full _ rfl _ _ 86 rfl w.heap.size 5 i0 (.int .u8 0) 1 Tryd.underlying86 hi hz0 hz1 .i64 .i64 _ _ (sn.size + 1 + sd.size) rfl rfl (by simp) (by simp) ?c1 ?c2 ?c3 ?_)
  case c1 => rw [hz2]; omega
  case c2 => unfold maxLen; omega
  case c3 => omega
  intro w3 hown hgrow
  have hb23 : Below w2.heap.size w2 w3 := (Below.refl _ _).grown hgrow (Nat.le_refl _) (fun k hk => by cases hk)
  have hg3 := row_made hown
  have H3 := Lib.hid hg3
  have HB := Lib.hid (show Below w.heap.size w w3 from bt (by (repeat (first | assumption | exact Below.refl _ _ | refine ba ?_ _ | refine bd ?_ | refine bdn ?_ _ | refine bs ?_ (by first | omega | (simp; done) | (simp; omega)) _ | refine bt ?_ (by assumption)))) hb23)
  have hle := hb2.size
  clear hown hgrow hg3 hw1
  go_wp2_with fail
  rw [Lib.run_copy_row_string w3 86 9 _ 5 w2.heap.size 0 _ _ sn _ 5 Tryd.underlying86 infoByte1 H3.out (by omega) (by simp; omega)]
  rw [row_one]
  have hg4 := setRow_heap w3 w2.heap.size _ (Lib.byteCells sn.data.toList ++ Value.int .u8 0 :: List.replicate sd.size (Value.int .u8 0)).toArray 5 _ H3.out
  have hb4 : Below w.heap.size w (w3.setRow w2.heap.size (Lib.byteCells sn.data.toList ++ Value.int .u8 0 :: List.replicate sd.size (Value.int .u8 0)).toArray) := below_setRow HB.out (by omega) _
  generalize w3.setRow w2.heap.size (Lib.byteCells sn.data.toList ++ Value.int .u8 0 :: List.replicate sd.size (Value.int .u8 0)).toArray = w4 at hg4 hb4 ⊢
  have x4 := (cell_of_row w4 w2.heap.size sn.size _ _ _ hg4).trans (row_mid _ _ _)
  have y4 := frozen_of_row w4 w2.heap.size sn.size _ _ hg4
  have H4 := Lib.hid hg4; have HB4 := Lib.hid hb4
  clear hg4 hb4
  go_wp2_with fail
  have hg5 := heap_setCell_same w4 w2.heap.size sn.size _ _ (.int .u8 47) H4.out
  rw [row_set] at hg5
  have hb5 : Below w.heap.size w (w4.setCell ⟨w2.heap.size, sn.size, none⟩ (.int .u8 47)) := HB4.out.setCell (by show w.heap.size ≤ w2.heap.size; omega) _
  generalize w4.setCell ⟨w2.heap.size, sn.size, none⟩ (.int .u8 47) = w5 at hg5 hb5 ⊢
  rw [Lib.run_copy_row_string w5 86 9 _ 5 w2.heap.size (sn.size + 1) _ _ sd _ 5 Tryd.underlying86 infoByte1 hg5 (Nat.le_refl _) (by simp [bytes_len]; omega), row_two]
  have hg6 := setRow_heap w5 w2.heap.size _ (Lib.byteCells (sn ++ ⟨#[47]⟩ ++ sd).data.toList).toArray 5 _ hg5
  have hb6 : Below w.heap.size w (w5.setRow w2.heap.size (Lib.byteCells (sn ++ ⟨#[47]⟩ ++ sd).data.toList).toArray) := below_setRow hb5 (by omega) _
  generalize w5.setRow w2.heap.size (Lib.byteCells (sn ++ ⟨#[47]⟩ ++ sd).data.toList).toArray = w6 at hg6 hb6 ⊢
  have H6 := Lib.hid hg6; have HB6 := Lib.hid hb6
  clear hg6 hb6 hg5 hb5
  go_wp2_with fail
  rw [show sn.size + 1 + sd.size = (sn ++ ⟨#[47]⟩ ++ sd).size by simp [ByteArray.size_append]; rfl, conv_row H6.out]
  go_wp2
  go_ret
  exact ⟨rfl, HB6.out⟩
end Go.Proofs.YtfnfolpdbbnnlaaDoor

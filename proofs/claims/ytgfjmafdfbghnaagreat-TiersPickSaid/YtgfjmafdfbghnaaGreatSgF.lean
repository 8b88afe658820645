/- Texts laid together: On,RText,Text,Works1,Share1,Share2. -/
import Derived.Test.YtgfjmafdfbghnaaGreatSgE
import Derived.Test.YtgfjmafdfbghnaaGreatRows
import Derived.Laws.BytesArg
import Derived.Laws.CopyOwn
import Derived.Lib.AppendIntMem
import Derived.Lib.BufferWrite
import Derived.Lib.LaidTab
import Derived.OwnWalk
import Derived.WalkSmall
namespace Go.Proofs.YtgfjmafdfbghnaaGreat
section
open Go.RowKit
/-- f answers v in every world of the class C, and changes nothing that was there. -/
def PureOn (C : World → Prop) (P : Program) (f : Nat) (args : Array Value) (v : Value) : Prop :=
  ∀ w : World, C w → Calls P f args w fun e w' => e = .returned v ∧ Below w.heap.size w w'
theorem PureOn.app {C : World → Prop} {P : Program} {f : Nat} {args : Array Value} {v : Value} (h : PureOn C P f args v) (w : World) (hw : C w) : Calls P f args w fun e w' => e = .returned v ∧ Below w.heap.size w w' := h w hw
abbrev Clo (C : World → Prop) : Prop := Mix.Closed C
theorem Pure.on {P : Program} {f : Nat} {args : Array Value} {v : Value} (h : Pure P f args v) (C : World → Prop) : PureOn C P f args v := fun w _ => h w
theorem PureOn.weaken {C D : World → Prop} {P : Program} {f : Nat} {args : Array Value} {v : Value} (h : PureOn C P f args v) (hd : ∀ w, D w → C w) : PureOn D P f args v := fun w hw => h w (hd w hw)
theorem PureOn.quiet {C : World → Prop} {P : Program} {f : Nat} {args : Array Value} {v : Value} (h : PureOn C P f args v) (hC : Clo C) {W : World} (hW : C W) {x : Ext W} :
    Calls P f args (ext W x) fun e w'' => e = .returned v ∧ ∃ y, w'' = ext W y :=
  (h _ (hC _ _ hW (ext_below W x))).mono fun _ _ ⟨he, hb⟩ => ⟨he, ext_of (bt (ext_below W x) hb)⟩
def Any : World → Prop := fun _ => True
theorem clo_any : Clo Any := fun _ _ _ _ => trivial
theorem PureOn.all {P : Program} {f : Nat} {args : Array Value} {v : Value} (h : PureOn Any P f args v) : Pure P f args v := fun w => h w trivial
end
section
open Go.RowKit
attribute [local go_sem] ext_cell ext_frozen
theorem infoByte : (Tryz.prog.info? 5).map (fun i => (i.zero, i.size, i.bytes)) = some (some (.int .u8 0), 1, 1) := by kernel_rfl
theorem infoByte1 : (Tryz.prog.info? 5).map (·.size) = some 1 := by kernel_rfl
theorem row_made {w3 : World} {b g N : Nat} (h : w3.ownsRow b 5 1 (.slice (some ⟨g, 0, none⟩) N N) N (madeCells #[Value.int .u8 0] N).toList) : w3.heap[g]? = some (.cells (List.replicate N (Value.int .u8 0)).toArray 5 (0, 0)) := by
  obtain ⟨_, ⟨h, _⟩ | ⟨g', cap, cur, he, _, hg, _, _, hs, ht⟩⟩ := h
  · cases h
  · simp only [Value.slice.injEq, Option.some.injEq, Addr.mk.injEq, true_and, and_true] at he
    obtain ⟨rfl, rfl⟩ := he
    rw [hg, toList_madeCells_one] at *
    rw [List.take_of_length_le (by simp [hs])] at ht
    rw [← ht]
theorem row_one (sn : ByteArray) (m : Nat) : ((List.replicate (sn.size + 1 + m) (Value.int .u8 0)).toArray.toList.take 0 ++ Lib.byteCells sn.data.toList ++ (List.replicate (sn.size + 1 + m) (Value.int .u8 0)).toArray.toList.drop (0 + sn.size)).toArray =
    (Lib.byteCells sn.data.toList ++ Value.int .u8 0 :: List.replicate m (Value.int .u8 0)).toArray := by
  congr 1
  simp [List.drop_replicate, show sn.size + 1 + m - sn.size = m + 1 by omega, List.replicate_succ]
theorem bytes_len (s : ByteArray) : (Lib.byteCells s.data.toList).length = s.size := by rw [Lib.byteCells_length]; rfl
theorem row_mid (sn : ByteArray) (l : List Value) (v : Value) : (Lib.byteCells sn.data.toList ++ v :: l).toArray[sn.size]? = some v := by
  simp [bytes_len]
theorem row_set (sn : ByteArray) (m : Nat) (a b : Value) : (Lib.byteCells sn.data.toList ++ a :: List.replicate m (Value.int .u8 0)).toArray.setIfInBounds sn.size b =
    (Lib.byteCells sn.data.toList ++ b :: List.replicate m (Value.int .u8 0)).toArray := by
  rw [List.setIfInBounds_toArray]
  congr 1
  rw [List.set_append_right _ _ (by rw [bytes_len]; exact Nat.le_refl _), bytes_len]
  simp
theorem row_two (sn sd : ByteArray) : ((Lib.byteCells sn.data.toList ++ Value.int .u8 47 :: List.replicate sd.size (Value.int .u8 0)).toArray.toList.take (sn.size + 1) ++ Lib.byteCells sd.data.toList ++ (Lib.byteCells sn.data.toList ++ Value.int .u8 47 :: List.replicate sd.size (Value.int .u8 0)).toArray.toList.drop (sn.size + 1 + sd.size)).toArray =
    (Lib.byteCells (sn ++ ⟨#[47]⟩ ++ sd).data.toList).toArray := by
  congr 1
  have e1 : (Lib.byteCells sn.data.toList ++ Value.int .u8 47 :: List.replicate sd.size (Value.int .u8 0)).take (sn.size + 1) = Lib.byteCells sn.data.toList ++ [Value.int .u8 47] := by
    rw [List.take_append, bytes_len, List.take_of_length_le (by rw [bytes_len]; omega)]
    simp
  have e2 : (Lib.byteCells sn.data.toList ++ Value.int .u8 47 :: List.replicate sd.size (Value.int .u8 0)).drop (sn.size + 1 + sd.size) = [] := by
    apply List.drop_eq_nil_of_le
    simp [bytes_len]; omega
  show List.take (sn.size + 1) _ ++ _ ++ List.drop (sn.size + 1 + sd.size) _ = _
  rw [e1, e2, List.append_nil]
  simp [Lib.byteCells, ByteArray.data_append]
end
section
open Go.RowKit
attribute [local go_sem] ext_cell ext_frozen

/-- The decimal digits of a number, as letters. -/
def decL : Nat → Int → List Int
  | 0, _ => []
  | f + 1, v => if v / 10 = 0 then [48 + v % 10] else decL f (v / 10) ++ [48 + v % 10]
theorem decL_stop (f : Nat) (v : Int) (h : v / 10 = 0) : decL (f + 1) v = [48 + v % 10] := by rw [decL, if_pos h]
theorem decL_go (f : Nat) (v : Int) (h : v / 10 ≠ 0) : decL (f + 1) v = decL f (v / 10) ++ [48 + v % 10] := by rw [decL, if_neg h]
def decS (v : Int) : ByteArray := strOfNums (decL 40 v)

/-- The loop's state: what is left to write, and what is written. -/
structure TR (w wr : World) (V : Int) (m : Nat) (cur : Int) (S : List Int) : Prop where
  m39 : m ≤ 39
  len : S.length + m = 39
  wd : Wd cur
  pow : cur < 10 ^ m
  some : m = 39 ∨ cur ≠ 0
  text : decL 40 V = decL (m + 1) cur ++ S
  size : w.heap.size + 2 ≤ wr.heap.size
  bel : Below w.heap.size w wr
  c0 : wr.cell? ⟨w.heap.size, 0, none⟩ = Option.some (.int .u64 (cur / 18446744073709551616))
  c1 : wr.cell? ⟨w.heap.size, 1, none⟩ = Option.some (.int .u64 (cur % 18446744073709551616))
  cells : ∀ i, i < 39 → ∃ x : Int, wr.cell? ⟨w.heap.size + 1, i, none⟩ = Option.some (.int .u8 x)
  done : ∀ i, i < S.length → wr.cell? ⟨w.heap.size + 1, m + i, none⟩ = Option.some (.int .u8 (S.getD i 0))
  f0 : ∀ i, wr.frozen? ⟨w.heap.size, i, none⟩ = false
  f1 : ∀ i, wr.frozen? ⟨w.heap.size + 1, i, none⟩ = false

theorem TR.pos {w wr : World} {V : Int} {m : Nat} {cur : Int} {S : List Int} (h : TR w wr V m cur S) : ∃ j, m = j + 1 := by
  cases m with
  | zero =>
    have h1 := h.pow; have h2 := h.wd.lo; have h3 := h.some
    simp at h1
    omega
  | succ j => exact ⟨j, rfl⟩

theorem TR.grow {w wr w1 : World} {V : Int} {m : Nat} {cur : Int} {S : List Int} (h : TR w wr V m cur S) (hb : Below wr.heap.size wr w1) : TR w w1 V m cur S := by
  have hs := h.size
  obtain ⟨a1, a2, a3, a4, a5, a6, a7, a8, a9, a10, a11, a12, a13, a14⟩ := h
  refine ⟨a1, a2, a3, a4, a5, a6, Nat.le_trans a7 hb.size, a8.trans (hb.mono (by omega)), ?_, ?_, ?_, ?_, ?_, ?_⟩
  · rw [hb.cell (p := ⟨_, _, none⟩) (by show w.heap.size < _; omega)]; exact a9
  · rw [hb.cell (p := ⟨_, _, none⟩) (by show w.heap.size < _; omega)]; exact a10
  · intro i hi; rw [hb.cell (p := ⟨_, _, none⟩) (by show w.heap.size + 1 < _; omega)]; exact a11 i hi
  · intro i hi; rw [hb.cell (p := ⟨_, _, none⟩) (by show w.heap.size + 1 < _; omega)]; exact a12 i hi
  · intro i; rw [hb.frozen (p := ⟨_, _, none⟩) (by show w.heap.size < _; omega)]; exact a13 i
  · intro i; rw [hb.frozen (p := ⟨_, _, none⟩) (by show w.heap.size + 1 < _; omega)]; exact a14 i

/-- The world behind a round. -/
def after (w w1 : World) (j : Nat) (d q : Int) (o : Obj) : World :=
  (((w1.setCell ⟨w.heap.size + 1, j, none⟩ (.int .u8 d)).setCell ⟨w.heap.size, 0, none⟩ (.int .u64 (q / 18446744073709551616))).setCell ⟨w.heap.size, 1, none⟩ (.int .u64 (q % 18446744073709551616))).alloc o

theorem after_cell {w w1 : World} {V : Int} {j : Nat} {cur : Int} {S : List Int} (h : TR w w1 V (j + 1) cur S) (d q : Int) (o : Obj) :
    (∀ i, i < 39 → (after w w1 j d q o).cell? ⟨w.heap.size + 1, i, none⟩ = if i = j then Option.some (.int .u8 d) else w1.cell? ⟨w.heap.size + 1, i, none⟩) ∧
    (after w w1 j d q o).cell? ⟨w.heap.size, 0, none⟩ = Option.some (.int .u64 (q / 18446744073709551616)) ∧
    (after w w1 j d q o).cell? ⟨w.heap.size, 1, none⟩ = Option.some (.int .u64 (q % 18446744073709551616)) := by
  have hs := h.size; have hm := h.m39
  have c0 := h.c0; have c1 := h.c1
  obtain ⟨x, cj⟩ := h.cells j (by omega)
  unfold after
  refine ⟨fun i hi => ?_, ?_, ?_⟩
  · rw [World.cell?_alloc_past _ _ _ (by simp; omega), World.cell?_setCell_other _ _ _ _ (by simp), World.cell?_setCell_other _ _ _ _ (by simp)]
    by_cases hij : i = j
    · subst hij; rw [if_pos rfl]; exact World.cell?_setCell_same _ _ _ cj
    · rw [if_neg hij]; exact World.cell?_setCell_other _ _ _ _ (by simp; try omega)
  · rw [World.cell?_alloc_past _ _ _ (by simp; omega), World.cell?_setCell_other _ _ _ _ (by simp)]
    exact World.cell?_setCell_same _ _ _ (u := .int .u64 (cur / 18446744073709551616)) (by rw [World.cell?_setCell_other _ _ _ _ (by simp)]; exact c0)
  · rw [World.cell?_alloc_past _ _ _ (by simp; omega)]
    exact World.cell?_setCell_same _ _ _ (u := .int .u64 (cur % 18446744073709551616)) (by rw [World.cell?_setCell_other _ _ _ _ (by simp), World.cell?_setCell_other _ _ _ _ (by simp)]; exact c1)

theorem TR.text_list {w w1 : World} {V : Int} {j : Nat} {cur : Int} {S : List Int} (h : TR w w1 V (j + 1) cur S) (o : Obj) (q : Int) (hq : cur / 10 = 0) :
    (decL 40 V).length = 39 - j ∧ ∀ i, i < 39 - j → (after w w1 j (48 + cur % 10) q o).cell? ⟨w.heap.size + 1, j + i, none⟩ = Option.some (.int .u8 ((decL 40 V).getD i 0)) := by
  have hl := h.len
  have ht := h.text
  rw [decL_stop _ _ hq] at ht
  have hc := (after_cell h (48 + cur % 10) q o).1
  refine ⟨by rw [ht]; simp; omega, fun i hi => ?_⟩
  rw [hc (j + i) (by omega), ht]
  by_cases h0 : i = 0
  · subst h0; simp
  · rw [if_neg (by omega)]
    obtain ⟨k, rfl⟩ : ∃ k, i = k + 1 := ⟨i - 1, by omega⟩
    have := h.done k (by omega)
    rw [show j + 1 + k = j + (k + 1) by omega] at this
    rw [this]; simp

theorem TR.step {w w1 : World} {V : Int} {j : Nat} {cur : Int} {S : List Int} (h : TR w w1 V (j + 1) cur S) (o : Obj) (hq : cur / 10 ≠ 0) :
    TR w (after w w1 j (48 + cur % 10) (cur / 10) o) V j (cur / 10) ((48 + cur % 10) :: S) := by
  have hs := h.size; have hm := h.m39; have hl := h.len
  have w0 := h.wd.lo; have w1' := h.wd.hi
  obtain ⟨k1, k2, k3⟩ := after_cell h (48 + cur % 10) (cur / 10) o
  refine ⟨by omega, by simp; omega, ⟨by omega, by omega⟩, ?_, .inr hq, ?_, ?_, ?_, k2, k3, ?_, ?_, ?_, ?_⟩
  · have hp := h.pow
    rw [Int.pow_succ] at hp
    omega
  · rw [h.text, decL_go _ _ hq, List.append_assoc]; rfl
  · unfold after; show w.heap.size + 2 ≤ (World.alloc _ _).heap.size; simp; omega
  · unfold after
    exact ((((h.bel.setCell (by simp) _).setCell (by simp) _).setCell (by simp) _).alloc (by simp; omega) _)
  · intro i hi
    rw [k1 i hi]
    split
    · exact ⟨_, rfl⟩
    · exact h.cells i hi
  · intro i hi
    simp at hi
    rw [k1 (j + i) (by omega)]
    by_cases h0 : i = 0
    · subst h0; simp
    · rw [if_neg (by omega)]
      obtain ⟨k, rfl⟩ : ∃ k, i = k + 1 := ⟨i - 1, by omega⟩
      have := h.done k (by omega)
      rw [show j + 1 + k = j + (k + 1) by omega] at this
      rw [this]; simp
  · intro i; unfold after
    rw [World.frozen?_alloc_past _ _ _ (by simp; omega), World.frozen?_setCell, World.frozen?_setCell, World.frozen?_setCell]; exact h.f0 i
  · intro i; unfold after
    rw [World.frozen?_alloc_past _ _ _ (by simp; omega), World.frozen?_setCell, World.frozen?_setCell, World.frozen?_setCell]; exact h.f1 i

end
section
open Go.RowKit
attribute [local go_sem] ext_cell ext_frozen
theorem wd_small (n : Int) (h0 : 0 ≤ n) (h1 : n < 18446744073709551616) : Wd n := ⟨h0, by rw [B128_eq]; omega⟩
theorem k_mul : Pure Tryz.prog 69 #[u 9223372036854775808, u 6] (W2 3 0) := mul_V 9223372036854775808 6 ⟨by decide, by decide⟩ ⟨by decide, by decide⟩
end
section
open Go.RowKit
attribute [local go_sem] ext_cell ext_frozen Mix.calmUpon Mix.mUpon
/-- A share as a value. -/
abbrev S3 (n d w : Int) : Value := .agg #[.int .i64 n, .int .i64 d, .int .i64 w]
/-- A share that may be. -/
def SRt (n d w : Int) : Prop := n ≤ 9007199254740992 ∧ d ≤ 9007199254740992 ∧ (0 ≤ n ∧ 1 ≤ d) ∧ 1 ≤ w ∧ w ≤ 1000
instance (n d w : Int) : Decidable (SRt n d w) := by unfold SRt; infer_instance
theorem sright_yes (n d w : Int) (h : SRt n d w) : Pure Tryz.prog 43 #[S3 n d w] (.bool true) := by
  obtain ⟨h1, h2, ⟨h3, h4⟩, h5, h6⟩ := h
  intro W
  go_enter Tryz.func43, Tryz.ntmps43
  go_wp2_with fail
  (with_reducible refine ((right_yes n d h3 h4) _).mono ?_)
  rintro e w1 ⟨rfl, hb1⟩
  have hs1 : W.heap.size + 1 ≤ w1.heap.size := (by have h := hb1.size; first | omega | (simp at h; omega))
  have hz1_0 : W.heap.size < w1.heap.size := (by omega)
  obtain ⟨hc1, hf1, hl1⟩ := bcell hb1
  clear hl1
  go_wp2
  go_ret
  refine ⟨rfl, ?_⟩
  (repeat (first | assumption | exact Below.refl _ _ | refine ba ?_ _ | refine bd ?_ | refine bdn ?_ _ | refine bs ?_ (by first | omega | (simp; done) | (simp; omega)) _ | refine bt ?_ (by assumption)))
theorem sright_no (n d w : Int) (h : ¬ SRt n d w) : Pure Tryz.prog 43 #[S3 n d w] (.bool false) := by
  intro W
  by_cases h1 : n ≤ 9007199254740992
  · by_cases h2 : d ≤ 9007199254740992
    · by_cases h3 : Rt n d
      · have h4 : ¬ (1 ≤ w ∧ w ≤ 1000) := fun h' => h ⟨h1, h2, ⟨h3.1, h3.2⟩, h'⟩
        obtain ⟨h5, h6⟩ := h3
        by_cases h7 : 1 ≤ w
        · have h8 : 1000 < w := by omega
          clear h h4
          go_enter Tryz.func43, Tryz.ntmps43
          go_wp2_with fail
          (with_reducible refine ((right_yes n d h5 h6) _).mono ?_)
          rintro e w1 ⟨rfl, hb1⟩
          have hs1 : W.heap.size + 1 ≤ w1.heap.size := (by have h := hb1.size; first | omega | (simp at h; omega))
          have hz1_0 : W.heap.size < w1.heap.size := (by omega)
          obtain ⟨hc1, hf1, hl1⟩ := bcell hb1
          clear hl1
          go_wp2
          go_ret
          refine ⟨by show Ending.returned (.bool (decide (w ≤ 1000))) = _; rw [decide_eq_false (by omega)], ?_⟩
          (repeat (first | assumption | exact Below.refl _ _ | refine ba ?_ _ | refine bd ?_ | refine bdn ?_ _ | refine bs ?_ (by first | omega | (simp; done) | (simp; omega)) _ | refine bt ?_ (by assumption)))
        · have h8 : w < 1 := by omega
          clear h h4 h7
          go_enter Tryz.func43, Tryz.ntmps43
          go_wp2_with fail
          (with_reducible refine ((right_yes n d h5 h6) _).mono ?_)
          rintro e w1 ⟨rfl, hb1⟩
          have hs1 : W.heap.size + 1 ≤ w1.heap.size := (by have h := hb1.size; first | omega | (simp at h; omega))
          have hz1_0 : W.heap.size < w1.heap.size := (by omega)
          obtain ⟨hc1, hf1, hl1⟩ := bcell hb1
          clear hl1
          go_wp2
          go_ret
          refine ⟨rfl, ?_⟩
          (repeat (first | assumption | exact Below.refl _ _ | refine ba ?_ _ | refine bd ?_ | refine bdn ?_ _ | refine bs ?_ (by first | omega | (simp; done) | (simp; omega)) _ | refine bt ?_ (by assumption)))
      · have hc := Lib.hid (right_no n d h3)
        clear h h3
        go_enter Tryz.func43, Tryz.ntmps43
        go_wp2_with fail
        (with_reducible refine (hc.out _).mono ?_)
        rintro e w1 ⟨rfl, hb1⟩
        have hs1 : W.heap.size + 1 ≤ w1.heap.size := (by have h := hb1.size; first | omega | (simp at h; omega))
        have hz1_0 : W.heap.size < w1.heap.size := (by omega)
        obtain ⟨hc1, hf1, hl1⟩ := bcell hb1
        clear hl1
        go_wp2
        go_ret
        refine ⟨rfl, ?_⟩
        (repeat (first | assumption | exact Below.refl _ _ | refine ba ?_ _ | refine bd ?_ | refine bdn ?_ _ | refine bs ?_ (by first | omega | (simp; done) | (simp; omega)) _ | refine bt ?_ (by assumption)))
    · have h3 : 9007199254740992 < d := by omega
      clear h h2
      go_enter Tryz.func43, Tryz.ntmps43
      go_wp2
      go_ret
      refine ⟨rfl, ?_⟩
      (repeat (first | assumption | exact Below.refl _ _ | refine ba ?_ _ | refine bd ?_ | refine bdn ?_ _ | refine bs ?_ (by first | omega | (simp; done) | (simp; omega)) _ | refine bt ?_ (by assumption)))
  · have h3 : 9007199254740992 < n := by omega
    clear h h1
    go_enter Tryz.func43, Tryz.ntmps43
    go_wp2
    go_ret
    refine ⟨rfl, ?_⟩
    (repeat (first | assumption | exact Below.refl _ _ | refine ba ?_ _ | refine bd ?_ | refine bdn ?_ _ | refine bs ?_ (by first | omega | (simp; done) | (simp; omega)) _ | refine bt ?_ (by assumption)))
theorem sright_any (n d w : Int) : Pure Tryz.prog 43 #[S3 n d w] (.bool (decide (SRt n d w))) := by
  by_cases h : SRt n d w
  · rw [decide_eq_true h]; exact sright_yes n d w h
  · rw [decide_eq_false h]; exact sright_no n d w h

theorem wrapU (x : Int) : IntKind.u64.wrap x = x % 18446744073709551616 := by
  simp [IntKind.wrap, IntKind.bits, IntKind.signed]
theorem cross_bd {an bd bw : Int} (h1 : 0 ≤ an) (h2 : an ≤ 9007199254740992) (h3 : 0 ≤ bd) (h4 : bd ≤ 9007199254740992) (h5 : 0 ≤ bw) (h6 : bw ≤ 1000) :
    0 ≤ an * bd ∧ an * bd ≤ 81129638414606681695789005144064 ∧ 0 ≤ an * bd * bw ∧ an * bd * bw < B128 := by
  have k1 := Int.mul_nonneg h1 h3
  have k2 := Int.mul_le_mul h2 h4 h3 (by decide : (0 : Int) ≤ 9007199254740992)
  have k3 := Int.mul_nonneg k1 h5
  have k4 := Int.mul_le_mul k2 h6 h5 (by decide : (0 : Int) ≤ 9007199254740992 * 9007199254740992)
  rw [B128_eq]
  exact ⟨k1, by omega, k3, by omega⟩
set_option maxRecDepth 100000 in
set_option maxHeartbeats 4000000 in
theorem cross_any (an ad aw bn bd bw : Int) (ha : SRt an ad aw) (hb : SRt bn bd bw) : Pure Tryz.prog 44 #[S3 an ad aw, S3 bn bd bw] (WV (an * bd * bw)) := by
  obtain ⟨a1, a2, ⟨a3, a4⟩, a5, a6⟩ := ha
  obtain ⟨b1, b2, ⟨b3, b4⟩, b5, b6⟩ := hb
  obtain ⟨k1, k2, k3, k4⟩ := cross_bd a3 a1 (show 0 ≤ bd by omega) b2 (show 0 ≤ bw by omega) b6
  have hM := mul_V an bd ⟨a3, by omega⟩ ⟨by omega, by omega⟩
  have hT := times_V (an * bd) bw ⟨k1, by rw [B128_eq]; omega⟩ ⟨by omega, by omega⟩
  rw [Int.emod_eq_of_lt k3 k4, decide_eq_true k4] at hT
  unfold WV at hM hT
  have HM := Lib.hid hM; have HT := Lib.hid hT
  clear hM hT k1 k2 k3 k4
  have e1 : IntKind.u64.wrap an = an := by rw [wrapU]; omega
  have e2 : IntKind.u64.wrap bd = bd := by rw [wrapU]; omega
  have e3 : IntKind.u64.wrap bw = bw := by rw [wrapU]; omega
  intro w
  show Calls Tryz.prog 44 #[S3 an ad aw, S3 bn bd bw] w fun e w' => e = .returned (W2 (an * bd * bw / 18446744073709551616) (an * bd * bw % 18446744073709551616)) ∧ Below w.heap.size w w'
  go_enter Tryz.func44, Tryz.ntmps44
  go_wp2_with fail
  refine Mix.region0 (by kernel_rfl) ?_
  intro w1 hb1
  have hs1 : w.heap.size + 3 ≤ w1.heap.size := (by have h := hb1.size; first | omega | (simp at h; omega))
  have hz1_0 : w.heap.size < w1.heap.size := (by omega)
  have hz1_1 : w.heap.size + 1 < w1.heap.size := (by omega)
  have hz1_2 : w.heap.size + 2 < w1.heap.size := (by omega)
  have hx1_2 : w.heap.size + 1 + 1 < w1.heap.size := (by omega)
  obtain ⟨hc1, hf1, hl1⟩ := bcell hb1
  clear hl1
  refine Mix.take_ex (_) 0 rfl (by kernel_rfl) (by kernel_rfl) (by kernel_rfl) (by kernel_rfl) (fun K hK => ?_)
  go_simp
  first | (refine hK _ ?_; clear hK K) | (apply Exists.intro; refine ⟨fun x => ?_, hK _ ?_⟩; ((first | (go_at_call 69; with_reducible exact HM.out _) | (go_at_call 70; with_reducible exact HT.out _))); clear hK K)
  refine Mix.take_ex (_) 1 rfl (by kernel_rfl) (by kernel_rfl) (by kernel_rfl) (by kernel_rfl) (fun K hK => ?_)
  go_simp
  first | (refine hK _ ?_; clear hK K) | (apply Exists.intro; refine ⟨fun x => ?_, hK _ ?_⟩; ((first | (go_at_call 69; with_reducible exact HM.out _) | (go_at_call 70; with_reducible exact HT.out _))); clear hK K)
  refine Mix.take_ex (_) 2 rfl (by kernel_rfl) (by kernel_rfl) (by kernel_rfl) (by kernel_rfl) (fun K hK => ?_)
  go_simp
  first | (refine hK _ ?_; clear hK K) | (apply Exists.intro; refine ⟨fun x => ?_, hK _ ?_⟩; ((first | (go_at_call 69; with_reducible exact HM.out _) | (go_at_call 70; with_reducible exact HT.out _))); clear hK K)
  refine Mix.take_ex (_) 3 rfl (by kernel_rfl) (by kernel_rfl) (by kernel_rfl) (by kernel_rfl) (fun K hK => ?_)
  go_simp
  first | (refine hK _ ?_; clear hK K) | (apply Exists.intro; refine ⟨fun x => ?_, hK _ ?_⟩; ((first | (go_at_call 69; with_reducible exact HM.out _) | (go_at_call 70; with_reducible exact HT.out _))); clear hK K)
  refine Mix.take_ex (_) 4 rfl (by kernel_rfl) (by kernel_rfl) (by kernel_rfl) (by kernel_rfl) (fun K hK => ?_)
  go_simp
  first | (refine hK _ ?_; clear hK K) | (apply Exists.intro; refine ⟨fun x => ?_, hK _ ?_⟩; ((first | (go_at_call 69; with_reducible exact HM.out _) | (go_at_call 70; with_reducible exact HT.out _))); clear hK K)
  refine Mix.take_ex (_) 5 rfl (by kernel_rfl) (by kernel_rfl) (by kernel_rfl) (by kernel_rfl) (fun K hK => ?_)
  go_simp
  first | (refine hK _ ?_; clear hK K) | (apply Exists.intro; refine ⟨fun x => ?_, hK _ ?_⟩; ((first | (go_at_call 69; with_reducible exact HM.out _) | (go_at_call 70; with_reducible exact HT.out _))); clear hK K)
  refine Mix.take_ex (_) 6 rfl (by kernel_rfl) (by kernel_rfl) (by kernel_rfl) (by kernel_rfl) (fun K hK => ?_)
  go_simp
  first | (refine hK _ ?_; clear hK K) | (apply Exists.intro; refine ⟨fun x => ?_, hK _ ?_⟩; ((first | (go_at_call 69; with_reducible exact HM.out _) | (go_at_call 70; with_reducible exact HT.out _))); clear hK K)
  refine Mix.take_ex (_) 7 rfl (by kernel_rfl) (by kernel_rfl) (by kernel_rfl) (by kernel_rfl) (fun K hK => ?_)
  go_simp
  first | (refine hK _ ?_; clear hK K) | (apply Exists.intro; refine ⟨fun x => ?_, hK _ ?_⟩; ((first | (go_at_call 69; with_reducible exact HM.out _) | (go_at_call 70; with_reducible exact HT.out _))); clear hK K)
  refine Mix.take_ex (_) 8 rfl (by kernel_rfl) (by kernel_rfl) (by kernel_rfl) (by kernel_rfl) (fun K hK => ?_)
  go_simp
  first | (refine hK _ ?_; clear hK K) | (apply Exists.intro; refine ⟨fun x => ?_, hK _ ?_⟩; ((first | (go_at_call 69; with_reducible exact HM.out _) | (go_at_call 70; with_reducible exact HT.out _))); clear hK K)
  refine Mix.take_ex (_) 9 rfl (by kernel_rfl) (by kernel_rfl) (by kernel_rfl) (by kernel_rfl) (fun K hK => ?_)
  go_simp
  first | (refine hK _ ?_; clear hK K) | (apply Exists.intro; refine ⟨fun x => ?_, hK _ ?_⟩; ((first | (go_at_call 69; with_reducible exact HM.out _) | (go_at_call 70; with_reducible exact HT.out _))); clear hK K)
  refine Mix.take_ex (_) 10 rfl (by kernel_rfl) (by kernel_rfl) (by kernel_rfl) (by kernel_rfl) (fun K hK => ?_)
  go_simp
  first | (refine hK _ ?_; clear hK K) | (apply Exists.intro; refine ⟨fun x => ?_, hK _ ?_⟩; ((first | (go_at_call 69; with_reducible exact HM.out _) | (go_at_call 70; with_reducible exact HT.out _))); clear hK K)
  refine Mix.take_ex (_) 11 rfl (by kernel_rfl) (by kernel_rfl) (by kernel_rfl) (by kernel_rfl) (fun K hK => ?_)
  go_simp
  first | (refine hK _ ?_; clear hK K) | (apply Exists.intro; refine ⟨fun x => ?_, hK _ ?_⟩; ((first | (go_at_call 69; with_reducible exact HM.out _) | (go_at_call 70; with_reducible exact HT.out _))); clear hK K)
  refine Mix.take_ex (_) 12 rfl (by kernel_rfl) (by kernel_rfl) (by kernel_rfl) (by kernel_rfl) (fun K hK => ?_)
  go_simp
  first | (refine hK _ ?_; clear hK K) | (apply Exists.intro; refine ⟨fun x => ?_, hK _ ?_⟩; ((first | (go_at_call 69; with_reducible exact HM.out _) | (go_at_call 70; with_reducible exact HT.out _))); clear hK K)
  refine Mix.take_ex (_) 13 rfl (by kernel_rfl) (by kernel_rfl) (by kernel_rfl) (by kernel_rfl) (fun K hK => ?_)
  go_simp
  first | (refine hK _ ?_; clear hK K) | (apply Exists.intro; refine ⟨fun x => ?_, hK _ ?_⟩; ((first | (go_at_call 69; with_reducible exact HM.out _) | (go_at_call 70; with_reducible exact HT.out _))); clear hK K)
  refine Mix.take_ex (_) 14 rfl (by kernel_rfl) (by kernel_rfl) (by kernel_rfl) (by kernel_rfl) (fun K hK => ?_)
  go_simp
  first | (refine hK _ ?_; clear hK K) | (apply Exists.intro; refine ⟨fun x => ?_, hK _ ?_⟩; ((first | (go_at_call 69; with_reducible exact HM.out _) | (go_at_call 70; with_reducible exact HT.out _))); clear hK K)
  refine Mix.take_ex (_) 15 rfl (by kernel_rfl) (by kernel_rfl) (by kernel_rfl) (by kernel_rfl) (fun K hK => ?_)
  go_simp
  first | (refine hK _ ?_; clear hK K) | (apply Exists.intro; refine ⟨fun x => ?_, hK _ ?_⟩; ((first | (go_at_call 69; with_reducible exact HM.out _) | (go_at_call 70; with_reducible exact HT.out _))); clear hK K)
  clear e1 e2 e3
  refine Mix.all (rs := [16]) (by kernel_rfl) (by simp) (Mix.over_of (by (repeat (first | assumption | exact Below.refl _ _ | refine ba ?_ _ | refine bd ?_ | refine bdn ?_ _ | refine bs ?_ (by first | omega | (simp; done) | (simp; omega)) _ | refine bt ?_ (by assumption))))) ?_
  intro i2 hi2 w2 hb2 hC2
  clear hC2
  have hs2 : w1.heap.size + 0 ≤ w2.heap.size := (by have h := hb2.size; first | omega | (simp at h; omega))
  have hb1_2 := bel hb1 hb2 (by (repeat (first | assumption | exact Below.refl _ _ | refine ba ?_ _ | refine bd ?_ | refine bdn ?_ _ | refine bs ?_ (by first | omega | (simp; done) | (simp; omega)) _ | refine bt ?_ (by assumption))))
  clear hz1_0 hz1_1 hz1_2 hx1_2 hc1 hf1
  obtain ⟨hc1_2, hf1_2, hl1_2⟩ := bcell hb1_2
  clear hl1_2
  have hz2_0 : w.heap.size < w2.heap.size := (by omega)
  have hz2_1 : w.heap.size + 1 < w2.heap.size := (by omega)
  have hz2_2 : w.heap.size + 2 < w2.heap.size := (by omega)
  have hx2_2 : w.heap.size + 1 + 1 < w2.heap.size := (by omega)
  obtain ⟨hc2, hf2, hl2⟩ := bcell hb2
  clear hl2
  simp only [List.mem_cons, List.not_mem_nil, or_false] at hi2
  subst hi2
  refine Mix.op rfl (by kernel_rfl) ?_
  go_simp
  refine Mix.all (rs := [17]) (by kernel_rfl) (by simp) (Mix.over_of (by (repeat (first | assumption | exact Below.refl _ _ | refine ba ?_ _ | refine bd ?_ | refine bdn ?_ _ | refine bs ?_ (by first | omega | (simp; done) | (simp; omega)) _ | refine bt ?_ (by assumption))))) ?_
  intro i3 hi3 w3 hb3 hC3
  clear hC3
  have hs3 : w2.heap.size + 1 ≤ w3.heap.size := (by have h := hb3.size; first | omega | (simp at h; omega))
  have hb1_3 := bel hb1_2 hb3 (by (repeat (first | assumption | exact Below.refl _ _ | refine ba ?_ _ | refine bd ?_ | refine bdn ?_ _ | refine bs ?_ (by first | omega | (simp; done) | (simp; omega)) _ | refine bt ?_ (by assumption))))
  have hb2_3 := bel hb2 hb3 (by (repeat (first | assumption | exact Below.refl _ _ | refine ba ?_ _ | refine bd ?_ | refine bdn ?_ _ | refine bs ?_ (by first | omega | (simp; done) | (simp; omega)) _ | refine bt ?_ (by assumption))))
  clear hc1_2 hf1_2 hz2_0 hz2_1 hz2_2 hx2_2 hc2 hf2
  obtain ⟨hc1_3, hf1_3, hl1_3⟩ := bcell hb1_3
  clear hl1_3
  have hz3_0 : w.heap.size < w3.heap.size := (by omega)
  have hz3_1 : w.heap.size + 1 < w3.heap.size := (by omega)
  have hz3_2 : w.heap.size + 2 < w3.heap.size := (by omega)
  have hx3_2 : w.heap.size + 1 + 1 < w3.heap.size := (by omega)
  have hz3_3 : w2.heap.size < w3.heap.size := (by omega)
  obtain ⟨hc3, hf3, hl3⟩ := bcell hb3
  clear hl3
  simp only [List.mem_cons, List.not_mem_nil, or_false] at hi3
  subst hi3
  refine Mix.op rfl (by kernel_rfl) ?_
  go_simp
  refine Mix.all (rs := [18]) (by kernel_rfl) (by simp) (Mix.over_of (by (repeat (first | assumption | exact Below.refl _ _ | refine ba ?_ _ | refine bd ?_ | refine bdn ?_ _ | refine bs ?_ (by first | omega | (simp; done) | (simp; omega)) _ | refine bt ?_ (by assumption))))) ?_
  intro i4 hi4 w4 hb4 hC4
  clear hC4
  have hs4 : w3.heap.size + 0 ≤ w4.heap.size := (by have h := hb4.size; first | omega | (simp at h; omega))
  have hz4_0 : w.heap.size < w4.heap.size := (by omega)
  have hz4_1 : w.heap.size + 1 < w4.heap.size := (by omega)
  have hz4_2 : w.heap.size + 2 < w4.heap.size := (by omega)
  have hx4_2 : w.heap.size + 1 + 1 < w4.heap.size := (by omega)
  have hz4_3 : w2.heap.size < w4.heap.size := (by omega)
  have hy4_0_0 : w.heap.size ≤ w3.heap.size := (by omega)
  have hy4_1_0 : w.heap.size + 1 ≤ w3.heap.size := (by omega)
  have hy4_2_0 : w.heap.size + 2 ≤ w3.heap.size := (by omega)
  have hy4_3_0 : w2.heap.size ≤ w3.heap.size := (by omega)
  obtain ⟨hc4, hf4, hl4⟩ := bcell hb4
  clear hl4
  simp only [List.mem_cons, List.not_mem_nil, or_false] at hi4
  subst hi4
  refine Mix.op rfl (by kernel_rfl) ?_
  go_simp
  refine Mix.done (by kernel_rfl) (Mix.over_of (by (repeat (first | assumption | exact Below.refl _ _ | refine ba ?_ _ | refine bd ?_ | refine bdn ?_ _ | refine bs ?_ (by first | omega | (simp; done) | (simp; omega)) _ | refine bt ?_ (by assumption))))) ?_
  intro w5 hb5
  have hs5 : w4.heap.size + 0 ≤ w5.heap.size := (by have h := hb5.size; first | omega | (simp at h; omega))
  have hb4_5 := bel hb4 hb5 (by (repeat (first | assumption | exact Below.refl _ _ | refine ba ?_ _ | refine bd ?_ | refine bdn ?_ _ | refine bs ?_ (by first | omega | (simp; done) | (simp; omega)) _ | refine bt ?_ (by assumption))))
  obtain ⟨hc4_5, hf4_5, hl4_5⟩ := bcell hb4_5
  clear hl4_5
  have hz5_0 : w.heap.size < w5.heap.size := (by omega)
  have hz5_1 : w.heap.size + 1 < w5.heap.size := (by omega)
  have hz5_2 : w.heap.size + 2 < w5.heap.size := (by omega)
  have hx5_2 : w.heap.size + 1 + 1 < w5.heap.size := (by omega)
  have hz5_3 : w2.heap.size < w5.heap.size := (by omega)
  obtain ⟨hc5, hf5, hl5⟩ := bcell hb5
  clear hl5
  go_wp2
  refine bodyPost_ret (v := W2 (an * bd * bw / 18446744073709551616) (an * bd * bw % 18446744073709551616)) (by simp [results, Tryz.results44, go_sem, *]) rfl ⟨rfl, ?_⟩
  (repeat (first | assumption | exact Below.refl _ _ | refine ba ?_ _ | refine bd ?_ | refine bdn ?_ _ | refine bs ?_ (by first | omega | (simp; done) | (simp; omega)) _ | refine bt ?_ (by assumption)))
end
section
open Go.RowKit
attribute [local go_sem] ext_cell ext_frozen Mix.calmUpon Mix.mUpon
/-- How two shares compare. -/
def scmp (an ad aw bn bd bw : Int) : Int := if SRt an ad aw ∧ SRt bn bd bw then cmpI (an * bd * bw) (bn * ad * aw) else 0
theorem cmpI_self (x : Int) : cmpI x x = 0 := by unfold cmpI; simp
theorem scmp_same (n d w : Int) : Pure Tryz.prog 20 #[S3 n d w, S3 n d w] (.int .i64 0) := by
  intro W
  go_enter Tryz.func20, Tryz.ntmps20
  go_wp2
  go_ret
  refine ⟨rfl, ?_⟩
  (repeat (first | assumption | exact Below.refl _ _ | refine ba ?_ _ | refine bd ?_ | refine bdn ?_ _ | refine bs ?_ (by first | omega | (simp; done) | (simp; omega)) _ | refine bt ?_ (by assumption)))
set_option maxHeartbeats 2000000 in
theorem scmp_ne1 (an ad aw bn bd bw : Int) (e : (an == bn) = false) : Pure Tryz.prog 20 #[S3 an ad aw, S3 bn bd bw] (.int .i64 (scmp an ad aw bn bd bw)) := by
  intro W
  by_cases ha : SRt an ad aw
  · have HA := Lib.hid (sright_yes an ad aw ha)
    by_cases hb : SRt bn bd bw
    · have HB := Lib.hid (sright_yes bn bd bw hb)
      have HX := Lib.hid (cross_any an ad aw bn bd bw ha hb)
      have HY := Lib.hid (cross_any bn bd bw an ad aw hb ha)
      have hs : scmp an ad aw bn bd bw = cmpI (an * bd * bw) (bn * ad * aw) := by unfold scmp; rw [if_pos ⟨ha, hb⟩]
      have HC := Lib.hid (cmp_V (an * bd * bw) (bn * ad * aw))
      rw [hs]
      clear ha hb hs
      go_enter Tryz.func20, Tryz.ntmps20
      go_wp2_with fail
      (with_reducible refine (HA.out _).mono ?_)
      rintro e w1 ⟨rfl, hb1⟩
      have hs1 : W.heap.size + 2 ≤ w1.heap.size := (by have h := hb1.size; first | omega | (simp at h; omega))
      have hz1_0 : W.heap.size < w1.heap.size := (by omega)
      have hz1_1 : W.heap.size + 1 < w1.heap.size := (by omega)
      obtain ⟨hc1, hf1, hl1⟩ := bcell hb1
      clear hl1
      go_wp2_with fail
      (with_reducible refine (HB.out _).mono ?_)
      rintro e w2 ⟨rfl, hb2⟩
      have hs2 : w1.heap.size + 0 ≤ w2.heap.size := (by have h := hb2.size; first | omega | (simp at h; omega))
      have hb1_2 := bel hb1 hb2 (by (repeat (first | assumption | exact Below.refl _ _ | refine ba ?_ _ | refine bd ?_ | refine bdn ?_ _ | refine bs ?_ (by first | omega | (simp; done) | (simp; omega)) _ | refine bt ?_ (by assumption))))
      clear hz1_0 hz1_1 hc1 hf1
      obtain ⟨hc1_2, hf1_2, hl1_2⟩ := bcell hb1_2
      clear hl1_2
      have hz2_0 : W.heap.size < w2.heap.size := (by omega)
      have hz2_1 : W.heap.size + 1 < w2.heap.size := (by omega)
      obtain ⟨hc2, hf2, hl2⟩ := bcell hb2
      clear hl2
      go_wp2_with fail
      refine wp_region_pure (by kernel_rfl) (by kernel_rfl) ?_
      repeat (first | go_big_quiet_step (((first | (go_at_call 44; first | with_reducible exact HX.out.quiet | with_reducible exact HY.out.quiet) | (go_at_call 45; with_reducible exact HC.out.quiet)))) | (quiet_step (((first | (go_at_call 44; first | with_reducible exact HX.out.quiet | with_reducible exact HY.out.quiet) | (go_at_call 45; with_reducible exact HC.out.quiet))))))
      refine wpQuiet_nil ?_
      rintro w3 ⟨x3, hx3⟩
      have hb3 := ext_below _ x3
      rw [← hx3] at hb3
      clear hx3 x3
      have hs3 : w2.heap.size + 0 ≤ w3.heap.size := (by have h := hb3.size; first | omega | (simp at h; omega))
      have hb1_3 := bel hb1_2 hb3 (by (repeat (first | assumption | exact Below.refl _ _ | refine ba ?_ _ | refine bd ?_ | refine bdn ?_ _ | refine bs ?_ (by first | omega | (simp; done) | (simp; omega)) _ | refine bt ?_ (by assumption))))
      have hb2_3 := bel hb2 hb3 (by (repeat (first | assumption | exact Below.refl _ _ | refine ba ?_ _ | refine bd ?_ | refine bdn ?_ _ | refine bs ?_ (by first | omega | (simp; done) | (simp; omega)) _ | refine bt ?_ (by assumption))))
      clear hc1_2 hf1_2 hz2_0 hz2_1 hc2 hf2
      obtain ⟨hc1_3, hf1_3, hl1_3⟩ := bcell hb1_3
      clear hl1_3
      have hz3_0 : W.heap.size < w3.heap.size := (by omega)
      have hz3_1 : W.heap.size + 1 < w3.heap.size := (by omega)
      obtain ⟨hc3, hf3, hl3⟩ := bcell hb3
      clear hl3
      go_wp2
      go_ret
      refine ⟨rfl, ?_⟩
      (repeat (first | assumption | exact Below.refl _ _ | refine ba ?_ _ | refine bd ?_ | refine bdn ?_ _ | refine bs ?_ (by first | omega | (simp; done) | (simp; omega)) _ | refine bt ?_ (by assumption)))
    · have HB := Lib.hid (sright_no bn bd bw hb)
      have hs : scmp an ad aw bn bd bw = 0 := by unfold scmp; rw [if_neg (fun h => hb h.2)]
      rw [hs]
      clear ha hb hs
      go_enter Tryz.func20, Tryz.ntmps20
      go_wp2_with fail
      (with_reducible refine (HA.out _).mono ?_)
      rintro e w1 ⟨rfl, hb1⟩
      have hs1 : W.heap.size + 2 ≤ w1.heap.size := (by have h := hb1.size; first | omega | (simp at h; omega))
      have hz1_0 : W.heap.size < w1.heap.size := (by omega)
      have hz1_1 : W.heap.size + 1 < w1.heap.size := (by omega)
      obtain ⟨hc1, hf1, hl1⟩ := bcell hb1
      clear hl1
      go_wp2_with fail
      (with_reducible refine (HB.out _).mono ?_)
      rintro e w2 ⟨rfl, hb2⟩
      have hs2 : w1.heap.size + 0 ≤ w2.heap.size := (by have h := hb2.size; first | omega | (simp at h; omega))
      have hb1_2 := bel hb1 hb2 (by (repeat (first | assumption | exact Below.refl _ _ | refine ba ?_ _ | refine bd ?_ | refine bdn ?_ _ | refine bs ?_ (by first | omega | (simp; done) | (simp; omega)) _ | refine bt ?_ (by assumption))))
      clear hz1_0 hz1_1 hc1 hf1
      obtain ⟨hc1_2, hf1_2, hl1_2⟩ := bcell hb1_2
      clear hl1_2
      have hz2_0 : W.heap.size < w2.heap.size := (by omega)
      have hz2_1 : W.heap.size + 1 < w2.heap.size := (by omega)
      obtain ⟨hc2, hf2, hl2⟩ := bcell hb2
      clear hl2
      go_wp2
      go_ret
      refine ⟨rfl, ?_⟩
      (repeat (first | assumption | exact Below.refl _ _ | refine ba ?_ _ | refine bd ?_ | refine bdn ?_ _ | refine bs ?_ (by first | omega | (simp; done) | (simp; omega)) _ | refine bt ?_ (by assumption)))
  · have HA := Lib.hid (sright_no an ad aw ha)
    have hs : scmp an ad aw bn bd bw = 0 := by unfold scmp; rw [if_neg (fun h => ha h.1)]
    rw [hs]
    clear ha hs
    go_enter Tryz.func20, Tryz.ntmps20
    go_wp2_with fail
    (with_reducible refine (HA.out _).mono ?_)
    rintro e w1 ⟨rfl, hb1⟩
    have hs1 : W.heap.size + 2 ≤ w1.heap.size := (by have h := hb1.size; first | omega | (simp at h; omega))
    have hz1_0 : W.heap.size < w1.heap.size := (by omega)
    have hz1_1 : W.heap.size + 1 < w1.heap.size := (by omega)
    obtain ⟨hc1, hf1, hl1⟩ := bcell hb1
    clear hl1
    go_wp2
    go_ret
    refine ⟨rfl, ?_⟩
    (repeat (first | assumption | exact Below.refl _ _ | refine ba ?_ _ | refine bd ?_ | refine bdn ?_ _ | refine bs ?_ (by first | omega | (simp; done) | (simp; omega)) _ | refine bt ?_ (by assumption)))
set_option maxHeartbeats 2000000 in
theorem scmp_ne2 (an ad aw bd bw : Int) (e : (ad == bd) = false) : Pure Tryz.prog 20 #[S3 an ad aw, S3 an bd bw] (.int .i64 (scmp an ad aw an bd bw)) := by
  intro W
  by_cases ha : SRt an ad aw
  · have HA := Lib.hid (sright_yes an ad aw ha)
    by_cases hb : SRt an bd bw
    · have HB := Lib.hid (sright_yes an bd bw hb)
      have HX := Lib.hid (cross_any an ad aw an bd bw ha hb)
      have HY := Lib.hid (cross_any an bd bw an ad aw hb ha)
      have hs : scmp an ad aw an bd bw = cmpI (an * bd * bw) (an * ad * aw) := by unfold scmp; rw [if_pos ⟨ha, hb⟩]
      have HC := Lib.hid (cmp_V (an * bd * bw) (an * ad * aw))
      rw [hs]
      clear ha hb hs
      go_enter Tryz.func20, Tryz.ntmps20
      go_wp2_with fail
      (with_reducible refine (HA.out _).mono ?_)
      rintro e w1 ⟨rfl, hb1⟩
      have hs1 : W.heap.size + 2 ≤ w1.heap.size := (by have h := hb1.size; first | omega | (simp at h; omega))
      have hz1_0 : W.heap.size < w1.heap.size := (by omega)
      have hz1_1 : W.heap.size + 1 < w1.heap.size := (by omega)
      obtain ⟨hc1, hf1, hl1⟩ := bcell hb1
      clear hl1
      go_wp2_with fail
      (with_reducible refine (HB.out _).mono ?_)
      rintro e w2 ⟨rfl, hb2⟩
      have hs2 : w1.heap.size + 0 ≤ w2.heap.size := (by have h := hb2.size; first | omega | (simp at h; omega))
      have hb1_2 := bel hb1 hb2 (by (repeat (first | assumption | exact Below.refl _ _ | refine ba ?_ _ | refine bd ?_ | refine bdn ?_ _ | refine bs ?_ (by first | omega | (simp; done) | (simp; omega)) _ | refine bt ?_ (by assumption))))
      clear hz1_0 hz1_1 hc1 hf1
      obtain ⟨hc1_2, hf1_2, hl1_2⟩ := bcell hb1_2
      clear hl1_2
      have hz2_0 : W.heap.size < w2.heap.size := (by omega)
      have hz2_1 : W.heap.size + 1 < w2.heap.size := (by omega)
      obtain ⟨hc2, hf2, hl2⟩ := bcell hb2
      clear hl2
      go_wp2_with fail
      refine wp_region_pure (by kernel_rfl) (by kernel_rfl) ?_
      repeat (first | go_big_quiet_step (((first | (go_at_call 44; first | with_reducible exact HX.out.quiet | with_reducible exact HY.out.quiet) | (go_at_call 45; with_reducible exact HC.out.quiet)))) | (quiet_step (((first | (go_at_call 44; first | with_reducible exact HX.out.quiet | with_reducible exact HY.out.quiet) | (go_at_call 45; with_reducible exact HC.out.quiet))))))
      refine wpQuiet_nil ?_
      rintro w3 ⟨x3, hx3⟩
      have hb3 := ext_below _ x3
      rw [← hx3] at hb3
      clear hx3 x3
      have hs3 : w2.heap.size + 0 ≤ w3.heap.size := (by have h := hb3.size; first | omega | (simp at h; omega))
      have hb1_3 := bel hb1_2 hb3 (by (repeat (first | assumption | exact Below.refl _ _ | refine ba ?_ _ | refine bd ?_ | refine bdn ?_ _ | refine bs ?_ (by first | omega | (simp; done) | (simp; omega)) _ | refine bt ?_ (by assumption))))
      have hb2_3 := bel hb2 hb3 (by (repeat (first | assumption | exact Below.refl _ _ | refine ba ?_ _ | refine bd ?_ | refine bdn ?_ _ | refine bs ?_ (by first | omega | (simp; done) | (simp; omega)) _ | refine bt ?_ (by assumption))))
      clear hc1_2 hf1_2 hz2_0 hz2_1 hc2 hf2
      obtain ⟨hc1_3, hf1_3, hl1_3⟩ := bcell hb1_3
      clear hl1_3
      have hz3_0 : W.heap.size < w3.heap.size := (by omega)
      have hz3_1 : W.heap.size + 1 < w3.heap.size := (by omega)
      obtain ⟨hc3, hf3, hl3⟩ := bcell hb3
      clear hl3
      go_wp2
      go_ret
      refine ⟨rfl, ?_⟩
      (repeat (first | assumption | exact Below.refl _ _ | refine ba ?_ _ | refine bd ?_ | refine bdn ?_ _ | refine bs ?_ (by first | omega | (simp; done) | (simp; omega)) _ | refine bt ?_ (by assumption)))
    · have HB := Lib.hid (sright_no an bd bw hb)
      have hs : scmp an ad aw an bd bw = 0 := by unfold scmp; rw [if_neg (fun h => hb h.2)]
      rw [hs]
      clear ha hb hs
      go_enter Tryz.func20, Tryz.ntmps20
      go_wp2_with fail
      (with_reducible refine (HA.out _).mono ?_)
      rintro e w1 ⟨rfl, hb1⟩
      have hs1 : W.heap.size + 2 ≤ w1.heap.size := (by have h := hb1.size; first | omega | (simp at h; omega))
      have hz1_0 : W.heap.size < w1.heap.size := (by omega)
      have hz1_1 : W.heap.size + 1 < w1.heap.size := (by omega)
      obtain ⟨hc1, hf1, hl1⟩ := bcell hb1
      clear hl1
      go_wp2_with fail
      (with_reducible refine (HB.out _).mono ?_)
      rintro e w2 ⟨rfl, hb2⟩
      have hs2 : w1.heap.size + 0 ≤ w2.heap.size := (by have h := hb2.size; first | omega | (simp at h; omega))
      have hb1_2 := bel hb1 hb2 (by (repeat (first | assumption | exact Below.refl _ _ | refine ba ?_ _ | refine bd ?_ | refine bdn ?_ _ | refine bs ?_ (by first | omega | (simp; done) | (simp; omega)) _ | refine bt ?_ (by assumption))))
      clear hz1_0 hz1_1 hc1 hf1
      obtain ⟨hc1_2, hf1_2, hl1_2⟩ := bcell hb1_2
      clear hl1_2
      have hz2_0 : W.heap.size < w2.heap.size := (by omega)
      have hz2_1 : W.heap.size + 1 < w2.heap.size := (by omega)
      obtain ⟨hc2, hf2, hl2⟩ := bcell hb2
      clear hl2
      go_wp2
      go_ret
      refine ⟨rfl, ?_⟩
      (repeat (first | assumption | exact Below.refl _ _ | refine ba ?_ _ | refine bd ?_ | refine bdn ?_ _ | refine bs ?_ (by first | omega | (simp; done) | (simp; omega)) _ | refine bt ?_ (by assumption)))
  · have HA := Lib.hid (sright_no an ad aw ha)
    have hs : scmp an ad aw an bd bw = 0 := by unfold scmp; rw [if_neg (fun h => ha h.1)]
    rw [hs]
    clear ha hs
    go_enter Tryz.func20, Tryz.ntmps20
    go_wp2_with fail
    (with_reducible refine (HA.out _).mono ?_)
    rintro e w1 ⟨rfl, hb1⟩
    have hs1 : W.heap.size + 2 ≤ w1.heap.size := (by have h := hb1.size; first | omega | (simp at h; omega))
    have hz1_0 : W.heap.size < w1.heap.size := (by omega)
    have hz1_1 : W.heap.size + 1 < w1.heap.size := (by omega)
    obtain ⟨hc1, hf1, hl1⟩ := bcell hb1
    clear hl1
    go_wp2
    go_ret
    refine ⟨rfl, ?_⟩
    (repeat (first | assumption | exact Below.refl _ _ | refine ba ?_ _ | refine bd ?_ | refine bdn ?_ _ | refine bs ?_ (by first | omega | (simp; done) | (simp; omega)) _ | refine bt ?_ (by assumption)))
set_option maxHeartbeats 2000000 in
theorem scmp_ne3 (an ad aw bw : Int) (e : (aw == bw) = false) : Pure Tryz.prog 20 #[S3 an ad aw, S3 an ad bw] (.int .i64 (scmp an ad aw an ad bw)) := by
  intro W
  by_cases ha : SRt an ad aw
  · have HA := Lib.hid (sright_yes an ad aw ha)
    by_cases hb : SRt an ad bw
    · have HB := Lib.hid (sright_yes an ad bw hb)
      have HX := Lib.hid (cross_any an ad aw an ad bw ha hb)
      have HY := Lib.hid (cross_any an ad bw an ad aw hb ha)
      have hs : scmp an ad aw an ad bw = cmpI (an * ad * bw) (an * ad * aw) := by unfold scmp; rw [if_pos ⟨ha, hb⟩]
      have HC := Lib.hid (cmp_V (an * ad * bw) (an * ad * aw))
      rw [hs]
      clear ha hb hs
      go_enter Tryz.func20, Tryz.ntmps20
      go_wp2_with fail
      (with_reducible refine (HA.out _).mono ?_)
      rintro e w1 ⟨rfl, hb1⟩
      have hs1 : W.heap.size + 2 ≤ w1.heap.size := (by have h := hb1.size; first | omega | (simp at h; omega))
      have hz1_0 : W.heap.size < w1.heap.size := (by omega)
      have hz1_1 : W.heap.size + 1 < w1.heap.size := (by omega)
      obtain ⟨hc1, hf1, hl1⟩ := bcell hb1
      clear hl1
      go_wp2_with fail
      (with_reducible refine (HB.out _).mono ?_)
      rintro e w2 ⟨rfl, hb2⟩
      have hs2 : w1.heap.size + 0 ≤ w2.heap.size := (by have h := hb2.size; first | omega | (simp at h; omega))
      have hb1_2 := bel hb1 hb2 (by (repeat (first | assumption | exact Below.refl _ _ | refine ba ?_ _ | refine bd ?_ | refine bdn ?_ _ | refine bs ?_ (by first | omega | (simp; done) | (simp; omega)) _ | refine bt ?_ (by assumption))))
      clear hz1_0 hz1_1 hc1 hf1
      obtain ⟨hc1_2, hf1_2, hl1_2⟩ := bcell hb1_2
      clear hl1_2
      have hz2_0 : W.heap.size < w2.heap.size := (by omega)
      have hz2_1 : W.heap.size + 1 < w2.heap.size := (by omega)
      obtain ⟨hc2, hf2, hl2⟩ := bcell hb2
      clear hl2
      go_wp2_with fail
      refine wp_region_pure (by kernel_rfl) (by kernel_rfl) ?_
      repeat (first | go_big_quiet_step (((first | (go_at_call 44; first | with_reducible exact HX.out.quiet | with_reducible exact HY.out.quiet) | (go_at_call 45; with_reducible exact HC.out.quiet)))) | (quiet_step (((first | (go_at_call 44; first | with_reducible exact HX.out.quiet | with_reducible exact HY.out.quiet) | (go_at_call 45; with_reducible exact HC.out.quiet))))))
      refine wpQuiet_nil ?_
      rintro w3 ⟨x3, hx3⟩
      have hb3 := ext_below _ x3
      rw [← hx3] at hb3
      clear hx3 x3
      have hs3 : w2.heap.size + 0 ≤ w3.heap.size := (by have h := hb3.size; first | omega | (simp at h; omega))
      have hb1_3 := bel hb1_2 hb3 (by (repeat (first | assumption | exact Below.refl _ _ | refine ba ?_ _ | refine bd ?_ | refine bdn ?_ _ | refine bs ?_ (by first | omega | (simp; done) | (simp; omega)) _ | refine bt ?_ (by assumption))))
      have hb2_3 := bel hb2 hb3 (by (repeat (first | assumption | exact Below.refl _ _ | refine ba ?_ _ | refine bd ?_ | refine bdn ?_ _ | refine bs ?_ (by first | omega | (simp; done) | (simp; omega)) _ | refine bt ?_ (by assumption))))
      clear hc1_2 hf1_2 hz2_0 hz2_1 hc2 hf2
      obtain ⟨hc1_3, hf1_3, hl1_3⟩ := bcell hb1_3
      clear hl1_3
      have hz3_0 : W.heap.size < w3.heap.size := (by omega)
      have hz3_1 : W.heap.size + 1 < w3.heap.size := (by omega)
      obtain ⟨hc3, hf3, hl3⟩ := bcell hb3
      clear hl3
      go_wp2
      go_ret
      refine ⟨rfl, ?_⟩
      (repeat (first | assumption | exact Below.refl _ _ | refine ba ?_ _ | refine bd ?_ | refine bdn ?_ _ | refine bs ?_ (by first | omega | (simp; done) | (simp; omega)) _ | refine bt ?_ (by assumption)))
    · have HB := Lib.hid (sright_no an ad bw hb)
      have hs : scmp an ad aw an ad bw = 0 := by unfold scmp; rw [if_neg (fun h => hb h.2)]
      rw [hs]
      clear ha hb hs
      go_enter Tryz.func20, Tryz.ntmps20
      go_wp2_with fail
      (with_reducible refine (HA.out _).mono ?_)
      rintro e w1 ⟨rfl, hb1⟩
      have hs1 : W.heap.size + 2 ≤ w1.heap.size := (by have h := hb1.size; first | omega | (simp at h; omega))
      have hz1_0 : W.heap.size < w1.heap.size := (by omega)
      have hz1_1 : W.heap.size + 1 < w1.heap.size := (by omega)
      obtain ⟨hc1, hf1, hl1⟩ := bcell hb1
      clear hl1
      go_wp2_with fail
      (with_reducible refine (HB.out _).mono ?_)
      rintro e w2 ⟨rfl, hb2⟩
      have hs2 : w1.heap.size + 0 ≤ w2.heap.size := (by have h := hb2.size; first | omega | (simp at h; omega))
      have hb1_2 := bel hb1 hb2 (by (repeat (first | assumption | exact Below.refl _ _ | refine ba ?_ _ | refine bd ?_ | refine bdn ?_ _ | refine bs ?_ (by first | omega | (simp; done) | (simp; omega)) _ | refine bt ?_ (by assumption))))
      clear hz1_0 hz1_1 hc1 hf1
      obtain ⟨hc1_2, hf1_2, hl1_2⟩ := bcell hb1_2
      clear hl1_2
      have hz2_0 : W.heap.size < w2.heap.size := (by omega)
      have hz2_1 : W.heap.size + 1 < w2.heap.size := (by omega)
      obtain ⟨hc2, hf2, hl2⟩ := bcell hb2
      clear hl2
      go_wp2
      go_ret
      refine ⟨rfl, ?_⟩
      (repeat (first | assumption | exact Below.refl _ _ | refine ba ?_ _ | refine bd ?_ | refine bdn ?_ _ | refine bs ?_ (by first | omega | (simp; done) | (simp; omega)) _ | refine bt ?_ (by assumption)))
  · have HA := Lib.hid (sright_no an ad aw ha)
    have hs : scmp an ad aw an ad bw = 0 := by unfold scmp; rw [if_neg (fun h => ha h.1)]
    rw [hs]
    clear ha hs
    go_enter Tryz.func20, Tryz.ntmps20
    go_wp2_with fail
    (with_reducible refine (HA.out _).mono ?_)
    rintro e w1 ⟨rfl, hb1⟩
    have hs1 : W.heap.size + 2 ≤ w1.heap.size := (by have h := hb1.size; first | omega | (simp at h; omega))
    have hz1_0 : W.heap.size < w1.heap.size := (by omega)
    have hz1_1 : W.heap.size + 1 < w1.heap.size := (by omega)
    obtain ⟨hc1, hf1, hl1⟩ := bcell hb1
    clear hl1
    go_wp2
    go_ret
    refine ⟨rfl, ?_⟩
    (repeat (first | assumption | exact Below.refl _ _ | refine ba ?_ _ | refine bd ?_ | refine bdn ?_ _ | refine bs ?_ (by first | omega | (simp; done) | (simp; omega)) _ | refine bt ?_ (by assumption)))
theorem scmp_any (an ad aw bn bd bw : Int) : Pure Tryz.prog 20 #[S3 an ad aw, S3 bn bd bw] (.int .i64 (scmp an ad aw bn bd bw)) := by
  by_cases h1 : an = bn
  · subst h1
    by_cases h2 : ad = bd
    · subst h2
      by_cases h3 : aw = bw
      · subst h3
        have : scmp an ad aw an ad aw = 0 := by unfold scmp; rw [cmpI_self, ite_self]
        rw [this]
        exact scmp_same an ad aw
      · exact scmp_ne3 an ad aw bw (by simpa using h3)
    · exact scmp_ne2 an ad aw bd bw (by simpa using h2)
  · exact scmp_ne1 an ad aw bn bd bw (by simpa using h1)

end
end Go.Proofs.YtgfjmafdfbghnaaGreat

/- mancipleref04.All and Text; the walk of SlotTexts. Condition: the names of the kinds and the error values lie in their variables. -/
import Derived.Test.YtfnfolpdbbnnlaaDoorSlot5
import Derived.OwnWalk
import Derived.Laws.OwnMore
namespace Go.Proofs.YtfnfolpdbbnnlaaDoor
open Go.RowKit
attribute [local go_sem] ext_cell ext_frozen Mix.calmUpon Mix.mUpon
theorem infoSlot : (Tryd.prog.info? 42).map (fun i => (i.zero, i.size, i.bytes)) = some (some (.agg #[.int .i64 0, .int .i64 0]), 2, 16) := by kernel_rfl
/-- The cells of the first n slots. -/
def allC : Nat → List Value
  | 0 => []
  | n + 1 => allC n ++ [.int .i64 (n / 33 : Nat), .int .i64 (n % 33 : Nat)]
theorem allC_len : ∀ n, (allC n).length = n * 2
  | 0 => rfl
  | n + 1 => by rw [allC, List.length_append, allC_len n]; simp; omega
theorem allC_get (n : Nat) : ∀ i, i < n → (allC n)[i * 2]? = some (.int .i64 (i / 33 : Nat)) ∧ (allC n)[i * 2 + 1]? = some (.int .i64 (i % 33 : Nat)) := by
  induction n with
  | zero => intro i h; omega
  | succ n ih =>
    intro i h
    by_cases hi : i < n
    · obtain ⟨a, b⟩ := ih i hi
      have := allC_len n
      refine ⟨?_, ?_⟩
      · rw [allC, List.getElem?_append_left (by omega), a]
      · rw [allC, List.getElem?_append_left (by omega), b]
    · obtain rfl : i = n := by omega
      have := allC_len i
      refine ⟨?_, ?_⟩
      · rw [allC, List.getElem?_append_right (by omega), this]; simp
      · rw [allC, List.getElem?_append_right (by omega), this, show i * 2 + 1 - i * 2 = 1 by omega]; rfl
theorem own_more2 {w wr w1 : World} {v : Value} {n : Nat} {l : List Value} {o : Obj} {E z : Nat} (hown : wr.ownsRow w.heap.size E z v n l) (hb : Below w.heap.size w wr)
    (hgrow : (wr.alloc o).grownBy w1 v.ownBlock) : Below w.heap.size w w1 :=
  (hb.alloc hb.size o).grown hgrow (by have := hb.size; simp; omega) (fun j hj => (hown.lt j hj).1)
set_option maxRecDepth 100000 in
set_option maxHeartbeats 2000000 in
theorem refall_any (w : World) : Calls Tryd.prog 39 #[] w fun e w' => ∃ g cap, e = .returned (.slice (some ⟨g, 0, none⟩) 132 cap) ∧ w.heap.size ≤ g ∧ g < w'.heap.size ∧
    Hid (∀ i, i < 132 → w'.cell? ⟨g, i * 2, none⟩ = some (.int .i64 (i / 33 : Nat)) ∧ w'.cell? ⟨g, i * 2 + 1, none⟩ = some (.int .i64 (i % 33 : Nat))) ∧ Below w.heap.size w w' := by
  obtain ⟨i0, hi, hz0, hz1, hz2⟩ := info_parts infoSlot
  go_enter Tryd.func39, Tryd.ntmps39
  go_wp2
  go_loopw [1, 2, 3] (fun v k r wr => ∃ (i : Nat), i ≤ 4 ∧ k = .int .i64 i ∧ wr.ownsRow w.heap.size 42 2 v (33 * i) (allC (33 * i)) ∧ Below w.heap.size w wr) (fun _ k _ _ => 4 - (intOf k).toNat)
  case atStart => exact ⟨0, by omega, rfl, World.ownsRow_nil _ _ _ _, Below.refl _ _⟩
  case round =>
    obtain ⟨i, hi4, rfl, hown, hb⟩ := hrel
    by_cases hlt : i < 4
    · have hks : (i : Int) < 4 := by omega
      rename_i wr
      obtain ⟨wo, rfl⟩ : ∃ wo : World, wo = wr := ⟨_, rfl⟩
      go_wp2
      go_loopw [1, 3] (fun v r wr => ∃ (j : Nat), j ≤ 33 ∧ r = .int .i64 j ∧ wr.ownsRow w.heap.size 42 2 v (33 * i + j) (allC (33 * i + j)) ∧ Below w.heap.size w wr) (fun _ r _ => 33 - (intOf r).toNat)
      case atStart => exact ⟨0, by omega, rfl, hown, hb⟩
      case round =>
        clear hown hb
        obtain ⟨j, hj33, rfl, hown, hb⟩ := hrel
        by_cases hjt : j < 33
        · have hjs : (j : Int) < 33 := by omega
          have hbs := hb.size
          rename_i wr
          go_wp2_with (at_builtin; refine wpList_append_own _ rfl _ _ 53 rfl w.heap.size 42 i0 (.agg #[.int .i64 0, .int .i64 0]) 2 16 Tryd.underlying53 hi hz0 hz1 hz2 rfl (by decide) _ _ _ rfl (hown.alloc _) ⟨_, 0, none⟩ 1 1 [.int .i64 i, .int .i64 j] rfl rfl ?c1 ?c2 ?c3 ?c4 ?c5 ?_)
          case c1 => intro q u' hq; rcases q with _ | _ | q <;> simp at hq <;> subst hq <;> simp [Addr.add, go_sem]
          case c2 => intro u' hu; simp at hu; rcases hu with rfl | rfl <;> rfl
          case c3 => unfold maxLen; omega
          case c4 => omega
          case c5 => simp; omega
          intro v' w1 hown' hgrow _
          have hb1 := own_more2 hown hb hgrow
          have e1 : (33 * i + j) / 33 = i := by omega
          have e2 : (33 * i + j) % 33 = j := by omega
          have hown1 : w1.ownsRow w.heap.size 42 2 v' (33 * i + (j + 1)) (allC (33 * i + (j + 1))) := by
            rw [← Nat.add_assoc, allC, e1, e2]; exact hown'
          clear hown' hgrow hown hb e1 e2
          go_wp2
          go_roundw
          case rel => exact ⟨j + 1, by omega, by go_num, hown1, hb1⟩
          case measure => simp [intOf]; omega
        · obtain rfl : j = 33 := by omega
          go_wp2
          go_roundw
          case rel => exact ⟨i + 1, by omega, by go_num, by rw [Nat.mul_add]; exact hown, hb⟩
          case measure => simp [intOf]; omega
    · obtain rfl : i = 4 := by omega
      go_wp2
      go_ret
      rcases hown.2 with ⟨_, h⟩ | ⟨g, cap, cur, h, hg, _⟩
      · omega
      · refine ⟨g, cap, by rw [h]; rfl, hg, (hown.lt g (by rw [h]; rfl)).2, Lib.hid fun j hj => ?_, hb⟩
        subst h
        obtain ⟨a, b⟩ := allC_get 132 j hj
        exact ⟨by rw [World.ownsRow.cellAt hown _ (by omega)]; exact a, by rw [World.ownsRow.cellAt hown _ (by omega)]; exact b⟩
theorem convB (l : List Int) (W : World) (b n : Nat) (hn : l.length = n) (hc : ∀ i, i < n → W.cell? ⟨b, i, none⟩ = some (.int .u8 (l.getD i 0))) : (convert 86 9 (.slice (some ⟨b, 0, none⟩) n n)).run Tryd.prog W = .ok (.string (strOfNums l)) W :=
  run_convert_bytes_arg _ 86 5 Tryd.underlying86 Tryd.underlying5 b 0 n n l hn (fun i hi => by rw [Nat.zero_add]; exact hc i hi) 9 Tryd.underlying9
theorem reftext4_no (k r : Int) (h : ¬ LOk k r) : Pure Tryd.prog 40 #[L2 k r] (.string ⟨#[]⟩) := by
  intro W
  have HR := refslotright_any k r
  rw [decide_eq_false h] at HR
  have HR := Lib.hid HR
  clear h
  go_enter Tryd.func40, Tryd.ntmps40
  go_wp2_with fail
  (with_reducible refine (HR.out _).mono ?_)
  rintro e w1 ⟨rfl, hb1⟩
  have hs1 : W.heap.size + 1 ≤ w1.heap.size := (by have h := hb1.size; first | omega | (simp at h; omega))
  have hz1_0 : W.heap.size < w1.heap.size := (by omega)
  obtain ⟨hc1, hf1, hl1⟩ := bcell hb1
  clear hl1
  go_wp2
  go_ret
  refine ⟨rfl, ?_⟩
  (repeat (first | assumption | exact Below.refl _ _ | refine ba ?_ _ | refine bd ?_ | refine bdn ?_ _ | refine bs ?_ (by first | omega | (simp; done) | (simp; omega)) _ | refine bt ?_ (by assumption)))
theorem conv1 (x : Int) (W : World) : (convert 86 9 (.slice (some ⟨W.heap.size, 0, none⟩) 1 1)).run Tryd.prog (W.alloc (.cells #[.int .u8 x] 5)) = .ok (.string (strOfNums [x])) (W.alloc (.cells #[.int .u8 x] 5)) :=
  convB [x] _ _ 1 rfl (fun i hi => by obtain rfl : i = 0 := by omega
                                      simp [go_sem])
theorem conv2 (x y : Int) (W : World) : (convert 86 9 (.slice (some ⟨W.heap.size, 0, none⟩) 2 2)).run Tryd.prog (W.alloc (.cells #[.int .u8 x, .int .u8 y] 5)) = .ok (.string (strOfNums [x, y])) (W.alloc (.cells #[.int .u8 x, .int .u8 y] 5)) :=
  convB [x, y] _ _ 2 rfl (fun i hi => by
    have : i = 0 ∨ i = 1 := by omega
    rcases this with rfl | rfl <;> simp [go_sem])
theorem son_all : ∀ r : Fin 33, ((if r.val < 10 then [48 + (r.val : Int)] else [48 + (r.val : Int) / 10, 48 + (r.val : Int) % 10]).map fun x => UInt8.ofNat x.toNat) = dgL r := by decide +kernel
theorem son1 (r : Nat) (h : r < 10) : strOfNums [48 + (r : Int)] = ⟨(Lib.decDigits r).toArray⟩ := by
  have := son_all ⟨r, by omega⟩
  rw [if_pos h] at this
  apply Go.WideShapes.bytes_inj
  rw [strOfNums_data, this, dgL_dec r (by omega)]
theorem son2 (r : Nat) (h : ¬ r < 10) (h2 : r ≤ 32) : strOfNums [48 + (r : Int) / 10, 48 + (r : Int) % 10] = ⟨(Lib.decDigits r).toArray⟩ := by
  have := son_all ⟨r, by omega⟩
  rw [if_neg h] at this
  apply Go.WideShapes.bytes_inj
  rw [strOfNums_data, this, dgL_dec r (by omega)]
set_option maxRecDepth 100000 in
theorem reftext4_yes (k r : Nat) (hk : k < 4) (hr : r ≤ 32) : Pure Tryd.prog 40 #[L2 k r] (.string (sT k r)) := by
  intro W
  have slotR := refslotright_any k r
  rw [decide_eq_true ⟨by omega, by omega, by omega, by omega⟩] at slotR
  have HR := Lib.hid slotR
  clear slotR
  have hkI : (k : Int) < 4 := by omega
  obtain ⟨z1, z2⟩ := nmS_size k
  have z4 : (ByteArray.mk #[40]).size = 1 := rfl
  have z5 : (ByteArray.mk #[41]).size = 1 := rfl
  have z6 := dec_size r hr
  by_cases h0 : r = 0
  · subst h0
    have ht : sT k 0 = nmS k := if_pos rfl
    rw [ht]
    have HR := Lib.hid (show Pure Tryd.prog 35 #[L2 k 0] (.bool true) from HR.out)
    show Calls Tryd.prog 40 #[L2 k 0] W _
    go_enter Tryd.func40, Tryd.ntmps40
    go_wp2_with fail
    (with_reducible refine (HR.out _).mono ?_)
    rintro e w1 ⟨rfl, hb1⟩
    have hs1 : W.heap.size + 1 ≤ w1.heap.size := (by have h := hb1.size; first | omega | (simp at h; omega))
    have hz1_0 : W.heap.size < w1.heap.size := (by omega)
    obtain ⟨hc1, hf1, hl1⟩ := bcell hb1
    clear hl1
    go_wp2_with fail
    refine Mix.region0 (by kernel_rfl) ?_
    intro w2 hb2
    refine Mix.take_ex (_) 1 rfl (by kernel_rfl) (by kernel_rfl) (by kernel_rfl) (by kernel_rfl) (fun K hK => ?_)
    go_simp
    first | (refine hK _ ?_; clear hK K) | (apply Exists.intro; refine ⟨fun x => ?_, hK _ ?_⟩; (fail); clear hK K)
    refine Mix.take_ex (_) 2 rfl (by kernel_rfl) (by kernel_rfl) (by kernel_rfl) (by kernel_rfl) (fun K hK => ?_)
    go_simp
    first | (refine hK _ ?_; clear hK K) | (apply Exists.intro; refine ⟨fun x => ?_, hK _ ?_⟩; (fail); clear hK K)
    have hs2 : w1.heap.size + 0 ≤ w2.heap.size := (by have h := hb2.size; first | omega | (simp at h; omega))
    have hb1_2 := bel hb1 hb2 (by (repeat (first | assumption | exact Below.refl _ _ | refine ba ?_ _ | refine bd ?_ | refine bdn ?_ _ | refine bs ?_ (by first | omega | (simp; done) | (simp; omega)) _ | refine bt ?_ (by assumption))))
    clear hz1_0 hc1 hf1
    obtain ⟨hc1_2, hf1_2, hl1_2⟩ := bcell hb1_2
    clear hl1_2
    have hz2_0 : W.heap.size < w2.heap.size := (by omega)
    obtain ⟨hc2, hf2, hl2⟩ := bcell hb2
    clear hl2
    refine Mix.all (rs := [0]) (by kernel_rfl) (by simp) (Mix.over_of (by (repeat (first | assumption | exact Below.refl _ _ | refine ba ?_ _ | refine bd ?_ | refine bdn ?_ _ | refine bs ?_ (by first | omega | (simp; done) | (simp; omega)) _ | refine bt ?_ (by assumption))))) ?_
    intro i3 hi3 w3 hb3 hC3
    clear hC3
    have hs3 : w2.heap.size + 0 ≤ w3.heap.size := (by have h := hb3.size; first | omega | (simp at h; omega))
    have hb1_3 := bel hb1_2 hb3 (by (repeat (first | assumption | exact Below.refl _ _ | refine ba ?_ _ | refine bd ?_ | refine bdn ?_ _ | refine bs ?_ (by first | omega | (simp; done) | (simp; omega)) _ | refine bt ?_ (by assumption))))
    have hb2_3 := bel hb2 hb3 (by (repeat (first | assumption | exact Below.refl _ _ | refine ba ?_ _ | refine bd ?_ | refine bdn ?_ _ | refine bs ?_ (by first | omega | (simp; done) | (simp; omega)) _ | refine bt ?_ (by assumption))))
    clear hc1_2 hf1_2 hz2_0 hc2 hf2
    obtain ⟨hc1_3, hf1_3, hl1_3⟩ := bcell hb1_3
    clear hl1_3
    have hz3_0 : W.heap.size < w3.heap.size := (by omega)
    obtain ⟨hc3, hf3, hl3⟩ := bcell hb3
    clear hl3
    simp only [List.mem_cons, List.not_mem_nil, or_false] at hi3
    subst hi3
    refine Mix.op rfl (by kernel_rfl) ?_
    go_simp
    refine (refnames_any _).mono ?_
    rintro e w4 ⟨B, rfl, hB1, hB2, HL, hb4⟩
    refine ⟨_, rfl, ?_⟩
    have hs4 : w3.heap.size + 0 ≤ w4.heap.size := (by have h := hb4.size; first | omega | (simp at h; omega))
    have hb1_4 := bel hb1_3 hb4 (by (repeat (first | assumption | exact Below.refl _ _ | refine ba ?_ _ | refine bd ?_ | refine bdn ?_ _ | refine bs ?_ (by first | omega | (simp; done) | (simp; omega)) _ | refine bt ?_ (by assumption))))
    have hb2_4 := bel hb2_3 hb4 (by (repeat (first | assumption | exact Below.refl _ _ | refine ba ?_ _ | refine bd ?_ | refine bdn ?_ _ | refine bs ?_ (by first | omega | (simp; done) | (simp; omega)) _ | refine bt ?_ (by assumption))))
    have hb3_4 := bel hb3 hb4 (by (repeat (first | assumption | exact Below.refl _ _ | refine ba ?_ _ | refine bd ?_ | refine bdn ?_ _ | refine bs ?_ (by first | omega | (simp; done) | (simp; omega)) _ | refine bt ?_ (by assumption))))
    clear hc1_3 hf1_3 hz3_0 hc3 hf3
    obtain ⟨hc1_4, hf1_4, hl1_4⟩ := bcell hb1_4
    clear hl1_4
    have hz4_0 : W.heap.size < w4.heap.size := (by omega)
    obtain ⟨hc4, hf4, hl4⟩ := bcell hb4
    clear hl4
    have hcB := HL.out k hk
    refine Mix.all (rs := [3]) (by kernel_rfl) (by simp) (Mix.over_of (by (repeat (first | assumption | exact Below.refl _ _ | refine ba ?_ _ | refine bd ?_ | refine bdn ?_ _ | refine bs ?_ (by first | omega | (simp; done) | (simp; omega)) _ | refine bt ?_ (by assumption))))) ?_
    intro i5 hi5 w5 hb5 hC5
    clear hC5
    have hs5 : w4.heap.size + 0 ≤ w5.heap.size := (by have h := hb5.size; first | omega | (simp at h; omega))
    have hb1_5 := bel hb1_4 hb5 (by (repeat (first | assumption | exact Below.refl _ _ | refine ba ?_ _ | refine bd ?_ | refine bdn ?_ _ | refine bs ?_ (by first | omega | (simp; done) | (simp; omega)) _ | refine bt ?_ (by assumption))))
    have hb2_5 := bel hb2_4 hb5 (by (repeat (first | assumption | exact Below.refl _ _ | refine ba ?_ _ | refine bd ?_ | refine bdn ?_ _ | refine bs ?_ (by first | omega | (simp; done) | (simp; omega)) _ | refine bt ?_ (by assumption))))
    have hb3_5 := bel hb3_4 hb5 (by (repeat (first | assumption | exact Below.refl _ _ | refine ba ?_ _ | refine bd ?_ | refine bdn ?_ _ | refine bs ?_ (by first | omega | (simp; done) | (simp; omega)) _ | refine bt ?_ (by assumption))))
    have hb4_5 := bel hb4 hb5 (by (repeat (first | assumption | exact Below.refl _ _ | refine ba ?_ _ | refine bd ?_ | refine bdn ?_ _ | refine bs ?_ (by first | omega | (simp; done) | (simp; omega)) _ | refine bt ?_ (by assumption))))
    clear hc1_4 hf1_4 hz4_0 hc4 hf4
    obtain ⟨hc1_5, hf1_5, hl1_5⟩ := bcell hb1_5
    clear hl1_5
    have hz5_0 : W.heap.size < w5.heap.size := (by omega)
    have hz5_1 : B < w5.heap.size := (by omega)
    obtain ⟨hc5, hf5, hl5⟩ := bcell hb5
    clear hl5
    simp only [List.mem_cons, List.not_mem_nil, or_false] at hi5
    subst hi5
    refine Mix.op rfl (by kernel_rfl) ?_
    go_simp
    refine Mix.all (rs := [4]) (by kernel_rfl) (by simp) (Mix.over_of (by (repeat (first | assumption | exact Below.refl _ _ | refine ba ?_ _ | refine bd ?_ | refine bdn ?_ _ | refine bs ?_ (by first | omega | (simp; done) | (simp; omega)) _ | refine bt ?_ (by assumption))))) ?_
    intro i6 hi6 w6 hb6 hC6
    clear hC6
    have hs6 : w5.heap.size + 0 ≤ w6.heap.size := (by have h := hb6.size; first | omega | (simp at h; omega))
    have hb1_6 := bel hb1_5 hb6 (by (repeat (first | assumption | exact Below.refl _ _ | refine ba ?_ _ | refine bd ?_ | refine bdn ?_ _ | refine bs ?_ (by first | omega | (simp; done) | (simp; omega)) _ | refine bt ?_ (by assumption))))
    have hb2_6 := bel hb2_5 hb6 (by (repeat (first | assumption | exact Below.refl _ _ | refine ba ?_ _ | refine bd ?_ | refine bdn ?_ _ | refine bs ?_ (by first | omega | (simp; done) | (simp; omega)) _ | refine bt ?_ (by assumption))))
    have hb3_6 := bel hb3_5 hb6 (by (repeat (first | assumption | exact Below.refl _ _ | refine ba ?_ _ | refine bd ?_ | refine bdn ?_ _ | refine bs ?_ (by first | omega | (simp; done) | (simp; omega)) _ | refine bt ?_ (by assumption))))
    have hb4_6 := bel hb4_5 hb6 (by (repeat (first | assumption | exact Below.refl _ _ | refine ba ?_ _ | refine bd ?_ | refine bdn ?_ _ | refine bs ?_ (by first | omega | (simp; done) | (simp; omega)) _ | refine bt ?_ (by assumption))))
    have hb5_6 := bel hb5 hb6 (by (repeat (first | assumption | exact Below.refl _ _ | refine ba ?_ _ | refine bd ?_ | refine bdn ?_ _ | refine bs ?_ (by first | omega | (simp; done) | (simp; omega)) _ | refine bt ?_ (by assumption))))
    clear hc1_5 hf1_5 hz5_0 hz5_1 hc5 hf5
    obtain ⟨hc1_6, hf1_6, hl1_6⟩ := bcell hb1_6
    clear hl1_6
    obtain ⟨hc5_6, hf5_6, hl5_6⟩ := bcell hb5_6
    clear hl5_6
    have hz6_0 : W.heap.size < w6.heap.size := (by omega)
    have hz6_1 : B < w6.heap.size := (by omega)
    obtain ⟨hc6, hf6, hl6⟩ := bcell hb6
    clear hl6
    simp only [List.mem_cons, List.not_mem_nil, or_false] at hi6
    subst hi6
    refine Mix.op rfl (by kernel_rfl) ?_
    go_simp
    refine Mix.all (rs := [5]) (by kernel_rfl) (by simp) (Mix.over_of (by (repeat (first | assumption | exact Below.refl _ _ | refine ba ?_ _ | refine bd ?_ | refine bdn ?_ _ | refine bs ?_ (by first | omega | (simp; done) | (simp; omega)) _ | refine bt ?_ (by assumption))))) ?_
    intro i7 hi7 w7 hb7 hC7
    clear hC7
    have hs7 : w6.heap.size + 0 ≤ w7.heap.size := (by have h := hb7.size; first | omega | (simp at h; omega))
    have hb1_7 := bel hb1_6 hb7 (by (repeat (first | assumption | exact Below.refl _ _ | refine ba ?_ _ | refine bd ?_ | refine bdn ?_ _ | refine bs ?_ (by first | omega | (simp; done) | (simp; omega)) _ | refine bt ?_ (by assumption))))
    have hb2_7 := bel hb2_6 hb7 (by (repeat (first | assumption | exact Below.refl _ _ | refine ba ?_ _ | refine bd ?_ | refine bdn ?_ _ | refine bs ?_ (by first | omega | (simp; done) | (simp; omega)) _ | refine bt ?_ (by assumption))))
    have hb3_7 := bel hb3_6 hb7 (by (repeat (first | assumption | exact Below.refl _ _ | refine ba ?_ _ | refine bd ?_ | refine bdn ?_ _ | refine bs ?_ (by first | omega | (simp; done) | (simp; omega)) _ | refine bt ?_ (by assumption))))
    have hb4_7 := bel hb4_6 hb7 (by (repeat (first | assumption | exact Below.refl _ _ | refine ba ?_ _ | refine bd ?_ | refine bdn ?_ _ | refine bs ?_ (by first | omega | (simp; done) | (simp; omega)) _ | refine bt ?_ (by assumption))))
    have hb5_7 := bel hb5_6 hb7 (by (repeat (first | assumption | exact Below.refl _ _ | refine ba ?_ _ | refine bd ?_ | refine bdn ?_ _ | refine bs ?_ (by first | omega | (simp; done) | (simp; omega)) _ | refine bt ?_ (by assumption))))
    have hb6_7 := bel hb6 hb7 (by (repeat (first | assumption | exact Below.refl _ _ | refine ba ?_ _ | refine bd ?_ | refine bdn ?_ _ | refine bs ?_ (by first | omega | (simp; done) | (simp; omega)) _ | refine bt ?_ (by assumption))))
    clear hc1_6 hf1_6 hc5_6 hf5_6 hz6_0 hz6_1 hc6 hf6
    obtain ⟨hc1_7, hf1_7, hl1_7⟩ := bcell hb1_7
    clear hl1_7
    obtain ⟨hc5_7, hf5_7, hl5_7⟩ := bcell hb5_7
    clear hl5_7
    have hz7_0 : W.heap.size < w7.heap.size := (by omega)
    have hz7_1 : B < w7.heap.size := (by omega)
    obtain ⟨hc7, hf7, hl7⟩ := bcell hb7
    clear hl7
    simp only [List.mem_cons, List.not_mem_nil, or_false] at hi7
    subst hi7
    refine Mix.op rfl (by kernel_rfl) ?_
    go_simp
    refine Mix.done (by kernel_rfl) (Mix.over_of (by (repeat (first | assumption | exact Below.refl _ _ | refine ba ?_ _ | refine bd ?_ | refine bdn ?_ _ | refine bs ?_ (by first | omega | (simp; done) | (simp; omega)) _ | refine bt ?_ (by assumption))))) ?_
    intro w8 hb8
    have hs8 : w7.heap.size + 0 ≤ w8.heap.size := (by have h := hb8.size; first | omega | (simp at h; omega))
    have hb1_8 := bel hb1_7 hb8 (by (repeat (first | assumption | exact Below.refl _ _ | refine ba ?_ _ | refine bd ?_ | refine bdn ?_ _ | refine bs ?_ (by first | omega | (simp; done) | (simp; omega)) _ | refine bt ?_ (by assumption))))
    have hb2_8 := bel hb2_7 hb8 (by (repeat (first | assumption | exact Below.refl _ _ | refine ba ?_ _ | refine bd ?_ | refine bdn ?_ _ | refine bs ?_ (by first | omega | (simp; done) | (simp; omega)) _ | refine bt ?_ (by assumption))))
    have hb3_8 := bel hb3_7 hb8 (by (repeat (first | assumption | exact Below.refl _ _ | refine ba ?_ _ | refine bd ?_ | refine bdn ?_ _ | refine bs ?_ (by first | omega | (simp; done) | (simp; omega)) _ | refine bt ?_ (by assumption))))
    have hb4_8 := bel hb4_7 hb8 (by (repeat (first | assumption | exact Below.refl _ _ | refine ba ?_ _ | refine bd ?_ | refine bdn ?_ _ | refine bs ?_ (by first | omega | (simp; done) | (simp; omega)) _ | refine bt ?_ (by assumption))))
    have hb5_8 := bel hb5_7 hb8 (by (repeat (first | assumption | exact Below.refl _ _ | refine ba ?_ _ | refine bd ?_ | refine bdn ?_ _ | refine bs ?_ (by first | omega | (simp; done) | (simp; omega)) _ | refine bt ?_ (by assumption))))
    have hb6_8 := bel hb6_7 hb8 (by (repeat (first | assumption | exact Below.refl _ _ | refine ba ?_ _ | refine bd ?_ | refine bdn ?_ _ | refine bs ?_ (by first | omega | (simp; done) | (simp; omega)) _ | refine bt ?_ (by assumption))))
    have hb7_8 := bel hb7 hb8 (by (repeat (first | assumption | exact Below.refl _ _ | refine ba ?_ _ | refine bd ?_ | refine bdn ?_ _ | refine bs ?_ (by first | omega | (simp; done) | (simp; omega)) _ | refine bt ?_ (by assumption))))
    clear hc1_7 hf1_7 hc5_7 hf5_7 hz7_0 hz7_1 hc7 hf7
    obtain ⟨hc1_8, hf1_8, hl1_8⟩ := bcell hb1_8
    clear hl1_8
    obtain ⟨hc5_8, hf5_8, hl5_8⟩ := bcell hb5_8
    clear hl5_8
    have hz8_0 : W.heap.size < w8.heap.size := (by omega)
    have hz8_1 : B < w8.heap.size := (by omega)
    obtain ⟨hc8, hf8, hl8⟩ := bcell hb8
    clear hl8
    go_wp2
    go_ret
    refine ⟨rfl, ?_⟩
    (repeat (first | assumption | exact Below.refl _ _ | refine ba ?_ _ | refine bd ?_ | refine bdn ?_ _ | refine bs ?_ (by first | omega | (simp; done) | (simp; omega)) _ | refine bt ?_ (by assumption)))
  · have ht : sT k r = nmS k ++ ⟨#[40]⟩ ++ ⟨(Lib.decDigits r).toArray⟩ ++ ⟨#[41]⟩ := if_neg h0
    rw [ht]
    have hr0 : ((r : Int) == 0) = false := by simpa using h0
    have y2 : (nmS k ++ ⟨#[40]⟩).size + (ByteArray.mk (Lib.decDigits r).toArray).size ≤ 9223372036854775807 := by rw [ByteArray.size_append]; omega
    have y3 : (nmS k ++ ⟨#[40]⟩ ++ ⟨(Lib.decDigits r).toArray⟩).size + (ByteArray.mk #[41]).size ≤ 9223372036854775807 := by rw [ByteArray.size_append, ByteArray.size_append]; omega
    by_cases h1 : r < 10
    · have hs := son1 r h1
      rw [← hs] at y2 y3 ⊢
      have h1I : (r : Int) < 10 := by omega
      have kc := conv1 (48 + (r : Int))
      clear h0 ht z6 hs h1 z4 z5
      go_enter Tryd.func40, Tryd.ntmps40
      go_wp2_with fail
      (with_reducible refine (HR.out _).mono ?_)
      rintro e w1 ⟨rfl, hb1⟩
      have hs1 : W.heap.size + 1 ≤ w1.heap.size := (by have h := hb1.size; first | omega | (simp at h; omega))
      have hz1_0 : W.heap.size < w1.heap.size := (by omega)
      obtain ⟨hc1, hf1, hl1⟩ := bcell hb1
      clear hl1
      go_wp2_with fail
      refine Mix.region0 (by kernel_rfl) ?_
      intro w2 hb2
      refine Mix.take_ex (_) 1 rfl (by kernel_rfl) (by kernel_rfl) (by kernel_rfl) (by kernel_rfl) (fun K hK => ?_)
      go_simp
      first | (refine hK _ ?_; clear hK K) | (apply Exists.intro; refine ⟨fun x => ?_, hK _ ?_⟩; (fail); clear hK K)
      refine Mix.take_ex (_) 2 rfl (by kernel_rfl) (by kernel_rfl) (by kernel_rfl) (by kernel_rfl) (fun K hK => ?_)
      go_simp
      first | (refine hK _ ?_; clear hK K) | (apply Exists.intro; refine ⟨fun x => ?_, hK _ ?_⟩; (fail); clear hK K)
      have hs2 : w1.heap.size + 0 ≤ w2.heap.size := (by have h := hb2.size; first | omega | (simp at h; omega))
      have hb1_2 := bel hb1 hb2 (by (repeat (first | assumption | exact Below.refl _ _ | refine ba ?_ _ | refine bd ?_ | refine bdn ?_ _ | refine bs ?_ (by first | omega | (simp; done) | (simp; omega)) _ | refine bt ?_ (by assumption))))
      clear hz1_0 hc1 hf1
      obtain ⟨hc1_2, hf1_2, hl1_2⟩ := bcell hb1_2
      clear hl1_2
      have hz2_0 : W.heap.size < w2.heap.size := (by omega)
      obtain ⟨hc2, hf2, hl2⟩ := bcell hb2
      clear hl2
      refine Mix.all (rs := [0]) (by kernel_rfl) (by simp) (Mix.over_of (by (repeat (first | assumption | exact Below.refl _ _ | refine ba ?_ _ | refine bd ?_ | refine bdn ?_ _ | refine bs ?_ (by first | omega | (simp; done) | (simp; omega)) _ | refine bt ?_ (by assumption))))) ?_
      intro i3 hi3 w3 hb3 hC3
      clear hC3
      have hs3 : w2.heap.size + 0 ≤ w3.heap.size := (by have h := hb3.size; first | omega | (simp at h; omega))
      have hb1_3 := bel hb1_2 hb3 (by (repeat (first | assumption | exact Below.refl _ _ | refine ba ?_ _ | refine bd ?_ | refine bdn ?_ _ | refine bs ?_ (by first | omega | (simp; done) | (simp; omega)) _ | refine bt ?_ (by assumption))))
      have hb2_3 := bel hb2 hb3 (by (repeat (first | assumption | exact Below.refl _ _ | refine ba ?_ _ | refine bd ?_ | refine bdn ?_ _ | refine bs ?_ (by first | omega | (simp; done) | (simp; omega)) _ | refine bt ?_ (by assumption))))
      clear hc1_2 hf1_2 hz2_0 hc2 hf2
      obtain ⟨hc1_3, hf1_3, hl1_3⟩ := bcell hb1_3
      clear hl1_3
      have hz3_0 : W.heap.size < w3.heap.size := (by omega)
      obtain ⟨hc3, hf3, hl3⟩ := bcell hb3
      clear hl3
      simp only [List.mem_cons, List.not_mem_nil, or_false] at hi3
      subst hi3
      refine Mix.op rfl (by kernel_rfl) ?_
      go_simp
      refine (refnames_any _).mono ?_
      rintro e w4 ⟨B, rfl, hB1, hB2, HL, hb4⟩
      refine ⟨_, rfl, ?_⟩
      have hs4 : w3.heap.size + 0 ≤ w4.heap.size := (by have h := hb4.size; first | omega | (simp at h; omega))
      have hb1_4 := bel hb1_3 hb4 (by (repeat (first | assumption | exact Below.refl _ _ | refine ba ?_ _ | refine bd ?_ | refine bdn ?_ _ | refine bs ?_ (by first | omega | (simp; done) | (simp; omega)) _ | refine bt ?_ (by assumption))))
      have hb2_4 := bel hb2_3 hb4 (by (repeat (first | assumption | exact Below.refl _ _ | refine ba ?_ _ | refine bd ?_ | refine bdn ?_ _ | refine bs ?_ (by first | omega | (simp; done) | (simp; omega)) _ | refine bt ?_ (by assumption))))
      have hb3_4 := bel hb3 hb4 (by (repeat (first | assumption | exact Below.refl _ _ | refine ba ?_ _ | refine bd ?_ | refine bdn ?_ _ | refine bs ?_ (by first | omega | (simp; done) | (simp; omega)) _ | refine bt ?_ (by assumption))))
      clear hc1_3 hf1_3 hz3_0 hc3 hf3
      obtain ⟨hc1_4, hf1_4, hl1_4⟩ := bcell hb1_4
      clear hl1_4
      have hz4_0 : W.heap.size < w4.heap.size := (by omega)
      obtain ⟨hc4, hf4, hl4⟩ := bcell hb4
      clear hl4
      have hcB := HL.out k hk
      refine Mix.all (rs := [3]) (by kernel_rfl) (by simp) (Mix.over_of (by (repeat (first | assumption | exact Below.refl _ _ | refine ba ?_ _ | refine bd ?_ | refine bdn ?_ _ | refine bs ?_ (by first | omega | (simp; done) | (simp; omega)) _ | refine bt ?_ (by assumption))))) ?_
      intro i5 hi5 w5 hb5 hC5
      clear hC5
      have hs5 : w4.heap.size + 0 ≤ w5.heap.size := (by have h := hb5.size; first | omega | (simp at h; omega))
      have hb1_5 := bel hb1_4 hb5 (by (repeat (first | assumption | exact Below.refl _ _ | refine ba ?_ _ | refine bd ?_ | refine bdn ?_ _ | refine bs ?_ (by first | omega | (simp; done) | (simp; omega)) _ | refine bt ?_ (by assumption))))
      have hb2_5 := bel hb2_4 hb5 (by (repeat (first | assumption | exact Below.refl _ _ | refine ba ?_ _ | refine bd ?_ | refine bdn ?_ _ | refine bs ?_ (by first | omega | (simp; done) | (simp; omega)) _ | refine bt ?_ (by assumption))))
      have hb3_5 := bel hb3_4 hb5 (by (repeat (first | assumption | exact Below.refl _ _ | refine ba ?_ _ | refine bd ?_ | refine bdn ?_ _ | refine bs ?_ (by first | omega | (simp; done) | (simp; omega)) _ | refine bt ?_ (by assumption))))
      have hb4_5 := bel hb4 hb5 (by (repeat (first | assumption | exact Below.refl _ _ | refine ba ?_ _ | refine bd ?_ | refine bdn ?_ _ | refine bs ?_ (by first | omega | (simp; done) | (simp; omega)) _ | refine bt ?_ (by assumption))))
      clear hc1_4 hf1_4 hz4_0 hc4 hf4
      obtain ⟨hc1_5, hf1_5, hl1_5⟩ := bcell hb1_5
      clear hl1_5
      have hz5_0 : W.heap.size < w5.heap.size := (by omega)
      have hz5_1 : B < w5.heap.size := (by omega)
      obtain ⟨hc5, hf5, hl5⟩ := bcell hb5
      clear hl5
      simp only [List.mem_cons, List.not_mem_nil, or_false] at hi5
      subst hi5
      refine Mix.op rfl (by kernel_rfl) ?_
      go_simp
      refine Mix.all (rs := [4]) (by kernel_rfl) (by simp) (Mix.over_of (by (repeat (first | assumption | exact Below.refl _ _ | refine ba ?_ _ | refine bd ?_ | refine bdn ?_ _ | refine bs ?_ (by first | omega | (simp; done) | (simp; omega)) _ | refine bt ?_ (by assumption))))) ?_
      intro i6 hi6 w6 hb6 hC6
      clear hC6
      have hs6 : w5.heap.size + 0 ≤ w6.heap.size := (by have h := hb6.size; first | omega | (simp at h; omega))
      have hb1_6 := bel hb1_5 hb6 (by (repeat (first | assumption | exact Below.refl _ _ | refine ba ?_ _ | refine bd ?_ | refine bdn ?_ _ | refine bs ?_ (by first | omega | (simp; done) | (simp; omega)) _ | refine bt ?_ (by assumption))))
      have hb2_6 := bel hb2_5 hb6 (by (repeat (first | assumption | exact Below.refl _ _ | refine ba ?_ _ | refine bd ?_ | refine bdn ?_ _ | refine bs ?_ (by first | omega | (simp; done) | (simp; omega)) _ | refine bt ?_ (by assumption))))
      have hb3_6 := bel hb3_5 hb6 (by (repeat (first | assumption | exact Below.refl _ _ | refine ba ?_ _ | refine bd ?_ | refine bdn ?_ _ | refine bs ?_ (by first | omega | (simp; done) | (simp; omega)) _ | refine bt ?_ (by assumption))))
      have hb4_6 := bel hb4_5 hb6 (by (repeat (first | assumption | exact Below.refl _ _ | refine ba ?_ _ | refine bd ?_ | refine bdn ?_ _ | refine bs ?_ (by first | omega | (simp; done) | (simp; omega)) _ | refine bt ?_ (by assumption))))
      have hb5_6 := bel hb5 hb6 (by (repeat (first | assumption | exact Below.refl _ _ | refine ba ?_ _ | refine bd ?_ | refine bdn ?_ _ | refine bs ?_ (by first | omega | (simp; done) | (simp; omega)) _ | refine bt ?_ (by assumption))))
      clear hc1_5 hf1_5 hz5_0 hz5_1 hc5 hf5
      obtain ⟨hc1_6, hf1_6, hl1_6⟩ := bcell hb1_6
      clear hl1_6
      obtain ⟨hc5_6, hf5_6, hl5_6⟩ := bcell hb5_6
      clear hl5_6
      have hz6_0 : W.heap.size < w6.heap.size := (by omega)
      have hz6_1 : B < w6.heap.size := (by omega)
      obtain ⟨hc6, hf6, hl6⟩ := bcell hb6
      clear hl6
      simp only [List.mem_cons, List.not_mem_nil, or_false] at hi6
      subst hi6
      refine Mix.op rfl (by kernel_rfl) ?_
      go_simp
      refine Mix.all (rs := [5]) (by kernel_rfl) (by simp) (Mix.over_of (by (repeat (first | assumption | exact Below.refl _ _ | refine ba ?_ _ | refine bd ?_ | refine bdn ?_ _ | refine bs ?_ (by first | omega | (simp; done) | (simp; omega)) _ | refine bt ?_ (by assumption))))) ?_
      intro i7 hi7 w7 hb7 hC7
      clear hC7
      have hs7 : w6.heap.size + 0 ≤ w7.heap.size := (by have h := hb7.size; first | omega | (simp at h; omega))
      have hb1_7 := bel hb1_6 hb7 (by (repeat (first | assumption | exact Below.refl _ _ | refine ba ?_ _ | refine bd ?_ | refine bdn ?_ _ | refine bs ?_ (by first | omega | (simp; done) | (simp; omega)) _ | refine bt ?_ (by assumption))))
      have hb2_7 := bel hb2_6 hb7 (by (repeat (first | assumption | exact Below.refl _ _ | refine ba ?_ _ | refine bd ?_ | refine bdn ?_ _ | refine bs ?_ (by first | omega | (simp; done) | (simp; omega)) _ | refine bt ?_ (by assumption))))
      have hb3_7 := bel hb3_6 hb7 (by (repeat (first | assumption | exact Below.refl _ _ | refine ba ?_ _ | refine bd ?_ | refine bdn ?_ _ | refine bs ?_ (by first | omega | (simp; done) | (simp; omega)) _ | refine bt ?_ (by assumption))))
      have hb4_7 := bel hb4_6 hb7 (by (repeat (first | assumption | exact Below.refl _ _ | refine ba ?_ _ | refine bd ?_ | refine bdn ?_ _ | refine bs ?_ (by first | omega | (simp; done) | (simp; omega)) _ | refine bt ?_ (by assumption))))
      have hb5_7 := bel hb5_6 hb7 (by (repeat (first | assumption | exact Below.refl _ _ | refine ba ?_ _ | refine bd ?_ | refine bdn ?_ _ | refine bs ?_ (by first | omega | (simp; done) | (simp; omega)) _ | refine bt ?_ (by assumption))))
      have hb6_7 := bel hb6 hb7 (by (repeat (first | assumption | exact Below.refl _ _ | refine ba ?_ _ | refine bd ?_ | refine bdn ?_ _ | refine bs ?_ (by first | omega | (simp; done) | (simp; omega)) _ | refine bt ?_ (by assumption))))
      clear hc1_6 hf1_6 hc5_6 hf5_6 hz6_0 hz6_1 hc6 hf6
      obtain ⟨hc1_7, hf1_7, hl1_7⟩ := bcell hb1_7
      clear hl1_7
      obtain ⟨hc5_7, hf5_7, hl5_7⟩ := bcell hb5_7
      clear hl5_7
      have hz7_0 : W.heap.size < w7.heap.size := (by omega)
      have hz7_1 : B < w7.heap.size := (by omega)
      obtain ⟨hc7, hf7, hl7⟩ := bcell hb7
      clear hl7
      simp only [List.mem_cons, List.not_mem_nil, or_false] at hi7
      subst hi7
      refine Mix.op rfl (by kernel_rfl) ?_
      go_simp
      refine Mix.done (by kernel_rfl) (Mix.over_of (by (repeat (first | assumption | exact Below.refl _ _ | refine ba ?_ _ | refine bd ?_ | refine bdn ?_ _ | refine bs ?_ (by first | omega | (simp; done) | (simp; omega)) _ | refine bt ?_ (by assumption))))) ?_
      intro w8 hb8
      have hs8 : w7.heap.size + 0 ≤ w8.heap.size := (by have h := hb8.size; first | omega | (simp at h; omega))
      have hb1_8 := bel hb1_7 hb8 (by (repeat (first | assumption | exact Below.refl _ _ | refine ba ?_ _ | refine bd ?_ | refine bdn ?_ _ | refine bs ?_ (by first | omega | (simp; done) | (simp; omega)) _ | refine bt ?_ (by assumption))))
      have hb2_8 := bel hb2_7 hb8 (by (repeat (first | assumption | exact Below.refl _ _ | refine ba ?_ _ | refine bd ?_ | refine bdn ?_ _ | refine bs ?_ (by first | omega | (simp; done) | (simp; omega)) _ | refine bt ?_ (by assumption))))
      have hb3_8 := bel hb3_7 hb8 (by (repeat (first | assumption | exact Below.refl _ _ | refine ba ?_ _ | refine bd ?_ | refine bdn ?_ _ | refine bs ?_ (by first | omega | (simp; done) | (simp; omega)) _ | refine bt ?_ (by assumption))))
      have hb4_8 := bel hb4_7 hb8 (by (repeat (first | assumption | exact Below.refl _ _ | refine ba ?_ _ | refine bd ?_ | refine bdn ?_ _ | refine bs ?_ (by first | omega | (simp; done) | (simp; omega)) _ | refine bt ?_ (by assumption))))
      have hb5_8 := bel hb5_7 hb8 (by (repeat (first | assumption | exact Below.refl _ _ | refine ba ?_ _ | refine bd ?_ | refine bdn ?_ _ | refine bs ?_ (by first | omega | (simp; done) | (simp; omega)) _ | refine bt ?_ (by assumption))))
      have hb6_8 := bel hb6_7 hb8 (by (repeat (first | assumption | exact Below.refl _ _ | refine ba ?_ _ | refine bd ?_ | refine bdn ?_ _ | refine bs ?_ (by first | omega | (simp; done) | (simp; omega)) _ | refine bt ?_ (by assumption))))
      have hb7_8 := bel hb7 hb8 (by (repeat (first | assumption | exact Below.refl _ _ | refine ba ?_ _ | refine bd ?_ | refine bdn ?_ _ | refine bs ?_ (by first | omega | (simp; done) | (simp; omega)) _ | refine bt ?_ (by assumption))))
      clear hc1_7 hf1_7 hc5_7 hf5_7 hz7_0 hz7_1 hc7 hf7
      obtain ⟨hc1_8, hf1_8, hl1_8⟩ := bcell hb1_8
      clear hl1_8
      obtain ⟨hc5_8, hf5_8, hl5_8⟩ := bcell hb5_8
      clear hl5_8
      have hz8_0 : W.heap.size < w8.heap.size := (by omega)
      have hz8_1 : B < w8.heap.size := (by omega)
      obtain ⟨hc8, hf8, hl8⟩ := bcell hb8
      clear hl8
      go_wp2
      go_ret
      refine ⟨rfl, ?_⟩
      (repeat (first | assumption | exact Below.refl _ _ | refine ba ?_ _ | refine bd ?_ | refine bdn ?_ _ | refine bs ?_ (by first | omega | (simp; done) | (simp; omega)) _ | refine bt ?_ (by assumption)))
    · have hs := son2 r h1 hr
      rw [← hs] at y2 y3 ⊢
      have h1I : 10 ≤ (r : Int) := by omega
      have kc := conv2 (48 + (r : Int) / 10) (48 + (r : Int) % 10)
      clear h0 ht z6 hs h1 z4 z5
      go_enter Tryd.func40, Tryd.ntmps40
      go_wp2_with fail
      (with_reducible refine (HR.out _).mono ?_)
      rintro e w1 ⟨rfl, hb1⟩
      have hs1 : W.heap.size + 1 ≤ w1.heap.size := (by have h := hb1.size; first | omega | (simp at h; omega))
      have hz1_0 : W.heap.size < w1.heap.size := (by omega)
      obtain ⟨hc1, hf1, hl1⟩ := bcell hb1
      clear hl1
      go_wp2_with fail
      refine Mix.region0 (by kernel_rfl) ?_
      intro w2 hb2
      refine Mix.take_ex (_) 1 rfl (by kernel_rfl) (by kernel_rfl) (by kernel_rfl) (by kernel_rfl) (fun K hK => ?_)
      go_simp
      first | (refine hK _ ?_; clear hK K) | (apply Exists.intro; refine ⟨fun x => ?_, hK _ ?_⟩; (fail); clear hK K)
      refine Mix.take_ex (_) 2 rfl (by kernel_rfl) (by kernel_rfl) (by kernel_rfl) (by kernel_rfl) (fun K hK => ?_)
      go_simp
      first | (refine hK _ ?_; clear hK K) | (apply Exists.intro; refine ⟨fun x => ?_, hK _ ?_⟩; (fail); clear hK K)
      have hs2 : w1.heap.size + 0 ≤ w2.heap.size := (by have h := hb2.size; first | omega | (simp at h; omega))
      have hb1_2 := bel hb1 hb2 (by (repeat (first | assumption | exact Below.refl _ _ | refine ba ?_ _ | refine bd ?_ | refine bdn ?_ _ | refine bs ?_ (by first | omega | (simp; done) | (simp; omega)) _ | refine bt ?_ (by assumption))))
      clear hz1_0 hc1 hf1
      obtain ⟨hc1_2, hf1_2, hl1_2⟩ := bcell hb1_2
      clear hl1_2
      have hz2_0 : W.heap.size < w2.heap.size := (by omega)
      obtain ⟨hc2, hf2, hl2⟩ := bcell hb2
      clear hl2
      refine Mix.all (rs := [0]) (by kernel_rfl) (by simp) (Mix.over_of (by (repeat (first | assumption | exact Below.refl _ _ | refine ba ?_ _ | refine bd ?_ | refine bdn ?_ _ | refine bs ?_ (by first | omega | (simp; done) | (simp; omega)) _ | refine bt ?_ (by assumption))))) ?_
      intro i3 hi3 w3 hb3 hC3
      clear hC3
      have hs3 : w2.heap.size + 0 ≤ w3.heap.size := (by have h := hb3.size; first | omega | (simp at h; omega))
      have hb1_3 := bel hb1_2 hb3 (by (repeat (first | assumption | exact Below.refl _ _ | refine ba ?_ _ | refine bd ?_ | refine bdn ?_ _ | refine bs ?_ (by first | omega | (simp; done) | (simp; omega)) _ | refine bt ?_ (by assumption))))
      have hb2_3 := bel hb2 hb3 (by (repeat (first | assumption | exact Below.refl _ _ | refine ba ?_ _ | refine bd ?_ | refine bdn ?_ _ | refine bs ?_ (by first | omega | (simp; done) | (simp; omega)) _ | refine bt ?_ (by assumption))))
      clear hc1_2 hf1_2 hz2_0 hc2 hf2
      obtain ⟨hc1_3, hf1_3, hl1_3⟩ := bcell hb1_3
      clear hl1_3
      have hz3_0 : W.heap.size < w3.heap.size := (by omega)
      obtain ⟨hc3, hf3, hl3⟩ := bcell hb3
      clear hl3
      simp only [List.mem_cons, List.not_mem_nil, or_false] at hi3
      subst hi3
      refine Mix.op rfl (by kernel_rfl) ?_
      go_simp
      refine (refnames_any _).mono ?_
      rintro e w4 ⟨B, rfl, hB1, hB2, HL, hb4⟩
      refine ⟨_, rfl, ?_⟩
      have hs4 : w3.heap.size + 0 ≤ w4.heap.size := (by have h := hb4.size; first | omega | (simp at h; omega))
      have hb1_4 := bel hb1_3 hb4 (by (repeat (first | assumption | exact Below.refl _ _ | refine ba ?_ _ | refine bd ?_ | refine bdn ?_ _ | refine bs ?_ (by first | omega | (simp; done) | (simp; omega)) _ | refine bt ?_ (by assumption))))
      have hb2_4 := bel hb2_3 hb4 (by (repeat (first | assumption | exact Below.refl _ _ | refine ba ?_ _ | refine bd ?_ | refine bdn ?_ _ | refine bs ?_ (by first | omega | (simp; done) | (simp; omega)) _ | refine bt ?_ (by assumption))))
      have hb3_4 := bel hb3 hb4 (by (repeat (first | assumption | exact Below.refl _ _ | refine ba ?_ _ | refine bd ?_ | refine bdn ?_ _ | refine bs ?_ (by first | omega | (simp; done) | (simp; omega)) _ | refine bt ?_ (by assumption))))
      clear hc1_3 hf1_3 hz3_0 hc3 hf3
      obtain ⟨hc1_4, hf1_4, hl1_4⟩ := bcell hb1_4
      clear hl1_4
      have hz4_0 : W.heap.size < w4.heap.size := (by omega)
      obtain ⟨hc4, hf4, hl4⟩ := bcell hb4
      clear hl4
      have hcB := HL.out k hk
      refine Mix.all (rs := [3]) (by kernel_rfl) (by simp) (Mix.over_of (by (repeat (first | assumption | exact Below.refl _ _ | refine ba ?_ _ | refine bd ?_ | refine bdn ?_ _ | refine bs ?_ (by first | omega | (simp; done) | (simp; omega)) _ | refine bt ?_ (by assumption))))) ?_
      intro i5 hi5 w5 hb5 hC5
      clear hC5
      have hs5 : w4.heap.size + 0 ≤ w5.heap.size := (by have h := hb5.size; first | omega | (simp at h; omega))
      have hb1_5 := bel hb1_4 hb5 (by (repeat (first | assumption | exact Below.refl _ _ | refine ba ?_ _ | refine bd ?_ | refine bdn ?_ _ | refine bs ?_ (by first | omega | (simp; done) | (simp; omega)) _ | refine bt ?_ (by assumption))))
      have hb2_5 := bel hb2_4 hb5 (by (repeat (first | assumption | exact Below.refl _ _ | refine ba ?_ _ | refine bd ?_ | refine bdn ?_ _ | refine bs ?_ (by first | omega | (simp; done) | (simp; omega)) _ | refine bt ?_ (by assumption))))
      have hb3_5 := bel hb3_4 hb5 (by (repeat (first | assumption | exact Below.refl _ _ | refine ba ?_ _ | refine bd ?_ | refine bdn ?_ _ | refine bs ?_ (by first | omega | (simp; done) | (simp; omega)) _ | refine bt ?_ (by assumption))))
      have hb4_5 := bel hb4 hb5 (by (repeat (first | assumption | exact Below.refl _ _ | refine ba ?_ _ | refine bd ?_ | refine bdn ?_ _ | refine bs ?_ (by first | omega | (simp; done) | (simp; omega)) _ | refine bt ?_ (by assumption))))
      clear hc1_4 hf1_4 hz4_0 hc4 hf4
      obtain ⟨hc1_5, hf1_5, hl1_5⟩ := bcell hb1_5
      clear hl1_5
      have hz5_0 : W.heap.size < w5.heap.size := (by omega)
      have hz5_1 : B < w5.heap.size := (by omega)
      obtain ⟨hc5, hf5, hl5⟩ := bcell hb5
      clear hl5
      simp only [List.mem_cons, List.not_mem_nil, or_false] at hi5
      subst hi5
      refine Mix.op rfl (by kernel_rfl) ?_
      go_simp
      refine Mix.all (rs := [4]) (by kernel_rfl) (by simp) (Mix.over_of (by (repeat (first | assumption | exact Below.refl _ _ | refine ba ?_ _ | refine bd ?_ | refine bdn ?_ _ | refine bs ?_ (by first | omega | (simp; done) | (simp; omega)) _ | refine bt ?_ (by assumption))))) ?_
      intro i6 hi6 w6 hb6 hC6
      clear hC6
      have hs6 : w5.heap.size + 0 ≤ w6.heap.size := (by have h := hb6.size; first | omega | (simp at h; omega))
      have hb1_6 := bel hb1_5 hb6 (by (repeat (first | assumption | exact Below.refl _ _ | refine ba ?_ _ | refine bd ?_ | refine bdn ?_ _ | refine bs ?_ (by first | omega | (simp; done) | (simp; omega)) _ | refine bt ?_ (by assumption))))
      have hb2_6 := bel hb2_5 hb6 (by (repeat (first | assumption | exact Below.refl _ _ | refine ba ?_ _ | refine bd ?_ | refine bdn ?_ _ | refine bs ?_ (by first | omega | (simp; done) | (simp; omega)) _ | refine bt ?_ (by assumption))))
      have hb3_6 := bel hb3_5 hb6 (by (repeat (first | assumption | exact Below.refl _ _ | refine ba ?_ _ | refine bd ?_ | refine bdn ?_ _ | refine bs ?_ (by first | omega | (simp; done) | (simp; omega)) _ | refine bt ?_ (by assumption))))
      have hb4_6 := bel hb4_5 hb6 (by (repeat (first | assumption | exact Below.refl _ _ | refine ba ?_ _ | refine bd ?_ | refine bdn ?_ _ | refine bs ?_ (by first | omega | (simp; done) | (simp; omega)) _ | refine bt ?_ (by assumption))))
      have hb5_6 := bel hb5 hb6 (by (repeat (first | assumption | exact Below.refl _ _ | refine ba ?_ _ | refine bd ?_ | refine bdn ?_ _ | refine bs ?_ (by first | omega | (simp; done) | (simp; omega)) _ | refine bt ?_ (by assumption))))
      clear hc1_5 hf1_5 hz5_0 hz5_1 hc5 hf5
      obtain ⟨hc1_6, hf1_6, hl1_6⟩ := bcell hb1_6
      clear hl1_6
      obtain ⟨hc5_6, hf5_6, hl5_6⟩ := bcell hb5_6
      clear hl5_6
      have hz6_0 : W.heap.size < w6.heap.size := (by omega)
      have hz6_1 : B < w6.heap.size := (by omega)
      obtain ⟨hc6, hf6, hl6⟩ := bcell hb6
      clear hl6
      simp only [List.mem_cons, List.not_mem_nil, or_false] at hi6
      subst hi6
      refine Mix.op rfl (by kernel_rfl) ?_
      go_simp
      refine Mix.all (rs := [5]) (by kernel_rfl) (by simp) (Mix.over_of (by (repeat (first | assumption | exact Below.refl _ _ | refine ba ?_ _ | refine bd ?_ | refine bdn ?_ _ | refine bs ?_ (by first | omega | (simp; done) | (simp; omega)) _ | refine bt ?_ (by assumption))))) ?_
      intro i7 hi7 w7 hb7 hC7
      clear hC7
      have hs7 : w6.heap.size + 0 ≤ w7.heap.size := (by have h := hb7.size; first | omega | (simp at h; omega))
      have hb1_7 := bel hb1_6 hb7 (by (repeat (first | assumption | exact Below.refl _ _ | refine ba ?_ _ | refine bd ?_ | refine bdn ?_ _ | refine bs ?_ (by first | omega | (simp; done) | (simp; omega)) _ | refine bt ?_ (by assumption))))
      have hb2_7 := bel hb2_6 hb7 (by (repeat (first | assumption | exact Below.refl _ _ | refine ba ?_ _ | refine bd ?_ | refine bdn ?_ _ | refine bs ?_ (by first | omega | (simp; done) | (simp; omega)) _ | refine bt ?_ (by assumption))))
      have hb3_7 := bel hb3_6 hb7 (by (repeat (first | assumption | exact Below.refl _ _ | refine ba ?_ _ | refine bd ?_ | refine bdn ?_ _ | refine bs ?_ (by first | omega | (simp; done) | (simp; omega)) _ | refine bt ?_ (by assumption))))
      have hb4_7 := bel hb4_6 hb7 (by (repeat (first | assumption | exact Below.refl _ _ | refine ba ?_ _ | refine bd ?_ | refine bdn ?_ _ | refine bs ?_ (by first | omega | (simp; done) | (simp; omega)) _ | refine bt ?_ (by assumption))))
      have hb5_7 := bel hb5_6 hb7 (by (repeat (first | assumption | exact Below.refl _ _ | refine ba ?_ _ | refine bd ?_ | refine bdn ?_ _ | refine bs ?_ (by first | omega | (simp; done) | (simp; omega)) _ | refine bt ?_ (by assumption))))
      have hb6_7 := bel hb6 hb7 (by (repeat (first | assumption | exact Below.refl _ _ | refine ba ?_ _ | refine bd ?_ | refine bdn ?_ _ | refine bs ?_ (by first | omega | (simp; done) | (simp; omega)) _ | refine bt ?_ (by assumption))))
      clear hc1_6 hf1_6 hc5_6 hf5_6 hz6_0 hz6_1 hc6 hf6
      obtain ⟨hc1_7, hf1_7, hl1_7⟩ := bcell hb1_7
      clear hl1_7
      obtain ⟨hc5_7, hf5_7, hl5_7⟩ := bcell hb5_7
      clear hl5_7
      have hz7_0 : W.heap.size < w7.heap.size := (by omega)
      have hz7_1 : B < w7.heap.size := (by omega)
      obtain ⟨hc7, hf7, hl7⟩ := bcell hb7
      clear hl7
      simp only [List.mem_cons, List.not_mem_nil, or_false] at hi7
      subst hi7
      refine Mix.op rfl (by kernel_rfl) ?_
      go_simp
      refine Mix.done (by kernel_rfl) (Mix.over_of (by (repeat (first | assumption | exact Below.refl _ _ | refine ba ?_ _ | refine bd ?_ | refine bdn ?_ _ | refine bs ?_ (by first | omega | (simp; done) | (simp; omega)) _ | refine bt ?_ (by assumption))))) ?_
      intro w8 hb8
      have hs8 : w7.heap.size + 0 ≤ w8.heap.size := (by have h := hb8.size; first | omega | (simp at h; omega))
      have hb1_8 := bel hb1_7 hb8 (by (repeat (first | assumption | exact Below.refl _ _ | refine ba ?_ _ | refine bd ?_ | refine bdn ?_ _ | refine bs ?_ (by first | omega | (simp; done) | (simp; omega)) _ | refine bt ?_ (by assumption))))
      have hb2_8 := bel hb2_7 hb8 (by (repeat (first | assumption | exact Below.refl _ _ | refine ba ?_ _ | refine bd ?_ | refine bdn ?_ _ | refine bs ?_ (by first | omega | (simp; done) | (simp; omega)) _ | refine bt ?_ (by assumption))))
      have hb3_8 := bel hb3_7 hb8 (by (repeat (first | assumption | exact Below.refl _ _ | refine ba ?_ _ | refine bd ?_ | refine bdn ?_ _ | refine bs ?_ (by first | omega | (simp; done) | (simp; omega)) _ | refine bt ?_ (by assumption))))
      have hb4_8 := bel hb4_7 hb8 (by (repeat (first | assumption | exact Below.refl _ _ | refine ba ?_ _ | refine bd ?_ | refine bdn ?_ _ | refine bs ?_ (by first | omega | (simp; done) | (simp; omega)) _ | refine bt ?_ (by assumption))))
      have hb5_8 := bel hb5_7 hb8 (by (repeat (first | assumption | exact Below.refl _ _ | refine ba ?_ _ | refine bd ?_ | refine bdn ?_ _ | refine bs ?_ (by first | omega | (simp; done) | (simp; omega)) _ | refine bt ?_ (by assumption))))
      have hb6_8 := bel hb6_7 hb8 (by (repeat (first | assumption | exact Below.refl _ _ | refine ba ?_ _ | refine bd ?_ | refine bdn ?_ _ | refine bs ?_ (by first | omega | (simp; done) | (simp; omega)) _ | refine bt ?_ (by assumption))))
      have hb7_8 := bel hb7 hb8 (by (repeat (first | assumption | exact Below.refl _ _ | refine ba ?_ _ | refine bd ?_ | refine bdn ?_ _ | refine bs ?_ (by first | omega | (simp; done) | (simp; omega)) _ | refine bt ?_ (by assumption))))
      clear hc1_7 hf1_7 hc5_7 hf5_7 hz7_0 hz7_1 hc7 hf7
      obtain ⟨hc1_8, hf1_8, hl1_8⟩ := bcell hb1_8
      clear hl1_8
      obtain ⟨hc5_8, hf5_8, hl5_8⟩ := bcell hb5_8
      clear hl5_8
      have hz8_0 : W.heap.size < w8.heap.size := (by omega)
      have hz8_1 : B < w8.heap.size := (by omega)
      obtain ⟨hc8, hf8, hl8⟩ := bcell hb8
      clear hl8
      go_wp2
      go_ret
      refine ⟨rfl, ?_⟩
      (repeat (first | assumption | exact Below.refl _ _ | refine ba ?_ _ | refine bd ?_ | refine bdn ?_ _ | refine bs ?_ (by first | omega | (simp; done) | (simp; omega)) _ | refine bt ?_ (by assumption)))
end Go.Proofs.YtfnfolpdbbnnlaaDoor

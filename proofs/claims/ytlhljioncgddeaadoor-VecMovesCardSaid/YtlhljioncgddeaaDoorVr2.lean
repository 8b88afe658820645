/- The document's with, Sum, All of layers 3 to 5. -/
import Derived.Test.YtlhljioncgddeaaDoorVr1
namespace Go.Proofs.YtlhljioncgddeaaDoor
open Go.RowKit
attribute [local go_sem] ext_cell ext_frozen Mix.calmUpon Mix.mUpon
theorem infoSlot : (Tryd.prog.info? 24).map (fun i => (i.zero, i.size, i.bytes)) = some (some (.agg #[.int .i64 0, .int .i64 0]), 2, 16) := by kernel_rfl
/-- The cells of the first n slots. -/
def allC : Nat → List Value
  | 0 => []
  | n + 1 => allC n ++ [.int .i64 (n / 33 : Nat), .int .i64 (n % 33 : Nat)]
theorem allC_len : ∀ n, (allC n).length = n * 2
  | 0 => rfl
  | n + 1 => by rw [allC, List.length_append, allC_len n]; simp; omega
theorem allC_get (n : Nat) : ∀ i, i < n → (allC n)[i * 2]? = some (.int .i64 (i / 33 : Nat)) ∧ (allC n)[i * 2 + 1]? = some (.int .i64 (i % 33 : Nat)) := by
  induction n with
  | zero => intro i h; omega
  | succ n ih =>
    intro i h
    by_cases hi : i < n
    · obtain ⟨a, b⟩ := ih i hi
      have := allC_len n
      refine ⟨?_, ?_⟩
      · rw [allC, List.getElem?_append_left (by omega), a]
      · rw [allC, List.getElem?_append_left (by omega), b]
    · obtain rfl : i = n := by omega
      have := allC_len i
      refine ⟨?_, ?_⟩
      · rw [allC, List.getElem?_append_right (by omega), this]; simp
      · rw [allC, List.getElem?_append_right (by omega), this, show i * 2 + 1 - i * 2 = 1 by omega]; rfl
theorem own_more2 {w wr w1 : World} {v : Value} {n : Nat} {l : List Value} {o : Obj} {E z : Nat} (hown : wr.ownsRow w.heap.size E z v n l) (hb : Below w.heap.size w wr)
    (hgrow : (wr.alloc o).grownBy w1 v.ownBlock) : Below w.heap.size w w1 :=
  (hb.alloc hb.size o).grown hgrow (by have := hb.size; simp; omega) (fun j hj => (hown.lt j hj).1)
set_option maxRecDepth 100000 in
set_option maxHeartbeats 2000000 in
theorem refall_any (w : World) : Calls Tryd.prog 47 #[] w fun e w' => ∃ g cap, e = .returned (.slice (some ⟨g, 0, none⟩) 132 cap) ∧ w.heap.size ≤ g ∧ g < w'.heap.size ∧
    Hid (∀ i, i < 132 → w'.cell? ⟨g, i * 2, none⟩ = some (.int .i64 (i / 33 : Nat)) ∧ w'.cell? ⟨g, i * 2 + 1, none⟩ = some (.int .i64 (i % 33 : Nat))) ∧ Below w.heap.size w w' := by
  obtain ⟨i0, hi, hz0, hz1, hz2⟩ := info_parts infoSlot
  go_enter Tryd.func47, Tryd.ntmps47
  go_wp2
  go_loopw [1, 2, 3] (fun v k r wr => ∃ (i : Nat), i ≤ 4 ∧ k = .int .i64 i ∧ wr.ownsRow w.heap.size 24 2 v (33 * i) (allC (33 * i)) ∧ Below w.heap.size w wr) (fun _ k _ _ => 4 - (intOf k).toNat)
  case atStart => exact ⟨0, by omega, rfl, World.ownsRow_nil _ _ _ _, Below.refl _ _⟩
  case round =>
    obtain ⟨i, hi4, rfl, hown, hb⟩ := hrel
    by_cases hlt : i < 4
    · have hks : (i : Int) < 4 := by omega
      rename_i wr
      obtain ⟨wo, rfl⟩ : ∃ wo : World, wo = wr := ⟨_, rfl⟩
      go_wp2
      go_loopw [1, 3] (fun v r wr => ∃ (j : Nat), j ≤ 33 ∧ r = .int .i64 j ∧ wr.ownsRow w.heap.size 24 2 v (33 * i + j) (allC (33 * i + j)) ∧ Below w.heap.size w wr) (fun _ r _ => 33 - (intOf r).toNat)
      case atStart => exact ⟨0, by omega, rfl, hown, hb⟩
      case round =>
        clear hown hb
        obtain ⟨j, hj33, rfl, hown, hb⟩ := hrel
        by_cases hjt : j < 33
        · have hjs : (j : Int) < 33 := by omega
          have hbs := hb.size
          rename_i wr
          go_wp2_with (at_builtin; refine wpList_append_own _ rfl _ _ 70 rfl w.heap.size 24 i0 (.agg #[.int .i64 0, .int .i64 0]) 2 16 Tryd.underlying70 hi hz0 hz1 hz2 rfl (by decide) _ _ _ rfl (hown.alloc _) ⟨_, 0, none⟩ 1 1 [.int .i64 i, .int .i64 j] rfl rfl ?c1 ?c2 ?c3 ?c4 ?c5 ?_)
          case c1 => intro q u' hq; rcases q with _ | _ | q <;> simp at hq <;> subst hq <;> simp [Addr.add, go_sem]
          case c2 => intro u' hu; simp at hu; rcases hu with rfl | rfl <;> rfl
          case c3 => unfold maxLen; omega
          case c4 => omega
          case c5 => simp; omega
          intro v' w1 hown' hgrow _
          have hb1 := own_more2 hown hb hgrow
          have e1 : (33 * i + j) / 33 = i := by omega
          have e2 : (33 * i + j) % 33 = j := by omega
          have hown1 : w1.ownsRow w.heap.size 24 2 v' (33 * i + (j + 1)) (allC (33 * i + (j + 1))) := by
            rw [← Nat.add_assoc, allC, e1, e2]; exact hown'
          clear hown' hgrow hown hb e1 e2
          go_wp2
          go_roundw
          case rel => exact ⟨j + 1, by omega, by go_num, hown1, hb1⟩
          case measure => simp [intOf]; omega
        · obtain rfl : j = 33 := by omega
          go_wp2
          go_roundw
          case rel => exact ⟨i + 1, by omega, by go_num, by rw [Nat.mul_add]; exact hown, hb⟩
          case measure => simp [intOf]; omega
    · obtain rfl : i = 4 := by omega
      go_wp2
      go_ret
      rcases hown.2 with ⟨_, h⟩ | ⟨g, cap, cur, h, hg, _⟩
      · omega
      · refine ⟨g, cap, by rw [h]; rfl, hg, (hown.lt g (by rw [h]; rfl)).2, Lib.hid fun j hj => ?_, hb⟩
        subst h
        obtain ⟨a, b⟩ := allC_get 132 j hj
        exact ⟨by rw [World.ownsRow.cellAt hown _ (by omega)]; exact a, by rw [World.ownsRow.cellAt hown _ (by omega)]; exact b⟩

/-- A part more, if it has an amount. -/
def wl (l : List Pt) (k r n : Int) : List Pt := if n = 0 then l else l ++ [(k, r, n)]
set_option maxRecDepth 100000 in
theorem with_any (B : Nat) (v : Value) (l : List Pt) (k r n : Int) (hl : l.length < 1000000) (W : World) (hB : B ≤ W.heap.size) (hO : OwnP W B v l) : Calls Tryd.prog 49 #[v, L2 k r, .int .i64 n] W fun e w' => ∃ u, e = .returned u ∧ OwnP w' B u (wl l k r n) ∧ Below B W w' := by
  obtain ⟨i0, hi, hz0, hz1, hz2⟩ := info_parts infoPart
  have HO := Lib.hid hO
  by_cases h : n = 0
  · have HE := Lib.hid (show wl l k r n = l from if_pos h)
    subst h
    clear hO
    go_enter Tryd.func49, Tryd.ntmps49
    go_wp2
    go_ret
    exact ⟨_, rfl, by rw [HE.out]; exact rowP_grow HO.out (ba (Below.refl _ _) _), (Below.refl _ _).alloc hB _⟩
  · have HE := Lib.hid (show wl l k r n = l ++ [(k, r, n)] from if_neg h)
    have hb : (n == 0) = false := by simpa using h
    clear hO h
    go_enter Tryd.func49, Tryd.ntmps49
    go_wp2_with (at_builtin; refine wpList_append_own _ rfl _ _ 22 rfl B 64 i0 (.agg #[.int .i64 0, .int .i64 0, .int .i64 0]) 3 24 Tryd.underlying22 hi hz0 hz1 hz2 rfl (by decide) _ _ _ rfl ((rowP_grow HO.out (ba (Below.refl _ _) (.cells #[.int .i64 k, .int .i64 r] 24))).alloc _) ⟨_, 0, none⟩ 1 1 [.int .i64 k, .int .i64 r, .int .i64 n] rfl rfl ?c1 ?c2 ?c3 ?c4 ?c5 ?_)
    case c1 => intro q u' hq; rcases q with _ | _ | _ | q <;> simp at hq <;> subst hq <;> simp [Addr.add, go_sem]
    case c2 => intro u' hu; simp at hu; rcases hu with rfl | rfl | rfl <;> rfl
    case c3 => unfold maxLen; omega
    case c4 => omega
    case c5 => simp; omega
    intro v' w1 hown' hgrow _
    have HV := Lib.hid hown'; have HG := Lib.hid hgrow
    clear hown' hgrow
    go_wp2
    go_ret
    refine ⟨_, rfl, by rw [HE.out, OwnP, pcells_append, List.length_append]; exact HV.out, Below.grown (((Below.refl _ _).alloc hB _).alloc (by simp; omega) _) HG.out (by simp; omega) (fun j hj => (HO.out.lt j hj).1)⟩
/-- The amounts that may be summed. -/
def SmOk (xs : List Int) : Prop := (∀ x ∈ xs, 0 ≤ x) ∧ xs.sum ≤ 9007199254740992
abbrev i64s (xs : List Int) : List Value := xs.map (Value.int .i64)
theorem sm_nn {xs : List Int} (h : ∀ x ∈ xs, 0 ≤ x) : 0 ≤ xs.sum := by
  induction xs with
  | nil => simp
  | cons x t ih =>
    have := ih fun y hy => h y (by simp [hy]); have := h x (by simp)
    rw [List.sum_cons]; omega
theorem smOk_pre {xs ys : List Int} (h : SmOk (xs ++ ys)) : SmOk xs := by
  refine ⟨fun x hx => h.1 x (by simp [hx]), ?_⟩
  have h1 := h.2
  have h2 := sm_nn (xs := ys) fun y hy => h.1 y (by simp [hy])
  rw [List.sum_append] at h1; omega
theorem sm_parted {xs : List Int} {t : Nat} (h : t < xs.length) : xs = xs.take t ++ (xs.getD t 0 :: xs.drop (t + 1)) := by
  have : xs.getD t 0 = xs[t] := by simp [List.getD, List.getElem?_eq_getElem h]
  rw [this, ← List.drop_eq_getElem_cons h, List.take_append_drop]
theorem sm_take {xs : List Int} {t : Nat} (h : t < xs.length) : xs.take (t + 1) = xs.take t ++ [xs.getD t 0] := by
  have : xs.getD t 0 = xs[t] := by simp [List.getD, List.getElem?_eq_getElem h]
  rw [this, List.take_add_one, List.getElem?_eq_getElem h]; rfl
theorem smOk_snoc {xs : List Int} {x : Int} (h : SmOk xs) (h0 : 0 ≤ x) (h1 : x ≤ 9007199254740992 - xs.sum) : SmOk (xs ++ [x]) := by
  refine ⟨fun y hy => ?_, by rw [List.sum_append]; simp; omega⟩
  rcases List.mem_append.1 hy with hy | hy
  · exact h.1 y hy
  · rw [List.mem_singleton.1 hy]; exact h0
set_option maxRecDepth 100000 in
set_option maxHeartbeats 4000000 in
theorem qsum_any (B : Nat) (v : Value) (xs : List Int) (hbig : xs.length < 1000000) (W : World) (hO : W.ownsRow B 2 1 v xs.length (i64s xs)) : Calls Tryd.prog 48 #[.int .i64 9007199254740992, v] W fun e w' => ((SmOk xs ∧ e = .returned (.tuple #[.int .i64 xs.sum, .bool true])) ∨ (¬ SmOk xs ∧ e = .returned (.tuple #[.int .i64 0, .bool false]))) ∧ Below W.heap.size W w' := by
  obtain ⟨n, hn⟩ : ∃ n, n = xs.length := ⟨_, rfl⟩
  obtain ⟨a, cp, rfl⟩ : ∃ a cp, v = .slice a n cp := by
    rcases hO.2 with ⟨e1, e2⟩ | ⟨g, cap, cur, e1, _⟩
    · exact ⟨none, 0, by rw [e1, hn, e2]⟩
    · exact ⟨_, _, by rw [e1, hn]⟩
  have HO := Lib.hid hO; have HN := Lib.hid hn
  have hn9 : n < 1000000 := by omega
  clear hO hn hbig
  go_enter Tryd.func48, Tryd.ntmps48
  go_wp2
  go_loopw [6, 7] (fun lf i wr => ∃ (t : Nat) (y : Int), t ≤ n ∧ i = .int .i64 t ∧ lf = .int .i64 y ∧ 0 ≤ y ∧ y ≤ 9007199254740992 ∧ Hid (y = 9007199254740992 - (xs.take t).sum ∧ SmOk (xs.take t)) ∧ Below W.heap.size W wr) (fun _ i _ => n - (intOf i).toNat)
  case atStart => exact ⟨0, _, Nat.zero_le _, rfl, rfl, by omega, by omega, Lib.hid ⟨by simp, fun x hx => by simp at hx, by simp⟩, by (repeat (first | assumption | exact Below.refl _ _ | refine ba ?_ _ | refine bd ?_ | refine bdn ?_ _ | refine bs ?_ (by first | omega | (simp; done) | (simp; omega)) _ | refine bt ?_ (by assumption)))⟩
  case round =>
    obtain ⟨t, y, ht, rfl, rfl, y0, y1, HS, hb1⟩ := hrel
    obtain ⟨w1, rfl⟩ : ∃ w1, w1 = wr := ⟨_, rfl⟩
    have hs1 : W.heap.size + 0 ≤ w1.heap.size := (by have h := hb1.size; first | omega | (simp at h; omega))
    obtain ⟨hc1, hf1, hl1⟩ := bcell hb1
    clear hl1
    by_cases hlt : t < n
    · have hts : (t : Int) < (n : Int) := by omega
      have hll : t < xs.length := by rw [← HN.out]; exact hlt
      have hown := HO.out
      rw [← HN.out] at hown
      obtain ⟨g, rfl⟩ : ∃ g, a = some ⟨g, 0, none⟩ := by
        rcases hown.2 with ⟨_, e2⟩ | ⟨g, cap, cur, e1, _⟩
        · omega
        · injection e1 with e1 _ _; exact ⟨g, e1⟩
      have hgw := (hown.lt g rfl).2
      have c0 : W.cell? ⟨g, t, none⟩ = some (.int .i64 (xs.getD t 0)) := by
        rw [World.ownsRow.cellAt hown t (by omega)]
        simp [List.getElem?_map, List.getElem?_eq_getElem hll, List.getD]
      have hgl : g < w1.heap.size := Nat.lt_of_lt_of_le hgw hb1.size
      have HP := Lib.hid (sm_parted hll)
      have HT := Lib.hid (sm_take hll)
      generalize xs.getD t 0 = x at *
      clear hown hll
      by_cases h0 : 0 ≤ x
      · by_cases h1 : x ≤ y
        · have h0f : (x < 0) = False := eq_false (by omega)
          have y0f : (y < 0) = False := eq_false (by omega)
          have h1f : (y < x) = False := eq_false (by omega)
          have wy : IntKind.i64.wrap (y - x) = y - x := IntWalk.i64_in _ (by omega)
          go_wp2
          go_roundw
          case rel =>
            refine ⟨t + 1, y - x, by omega, by go_num, rfl, by omega, by omega, Lib.hid ⟨?_, ?_⟩, by (repeat (first | assumption | exact Below.refl _ _ | refine ba ?_ _ | refine bd ?_ | refine bdn ?_ _ | refine bs ?_ (by first | omega | (simp; done) | (simp; omega)) _ | refine bt ?_ (by assumption)))⟩
            · rw [HT.out, List.sum_append]; have := HS.out.1; simp; omega
            · rw [HT.out]; exact smOk_snoc HS.out.2 h0 (by have := HS.out.1; omega)
          case measure => simp [intOf]; omega
        · have HX := Lib.hid (show ¬ SmOk xs from fun h => by
            have h2 := (smOk_pre (xs := xs.take t ++ [x]) (ys := xs.drop (t + 1)) (by rw [HP.out] at h; simpa using h)).2
            rw [List.sum_append] at h2
            have := HS.out.1
            simp at h2; omega)
          have h0f : (x < 0) = False := eq_false (by omega)
          have y0f : (y < 0) = False := eq_false (by omega)
          have h1t : y < x := by omega
          clear h1
          go_wp2
          go_ret2
          exact ⟨.inr ⟨HX.out, rfl⟩, by (repeat (first | assumption | exact Below.refl _ _ | refine ba ?_ _ | refine bd ?_ | refine bdn ?_ _ | refine bs ?_ (by first | omega | (simp; done) | (simp; omega)) _ | refine bt ?_ (by assumption)))⟩
      · have HX := Lib.hid (show ¬ SmOk xs from fun h => h0 (h.1 x (by rw [HP.out]; simp)))
        have h0t : x < 0 := by omega
        clear h0
        go_wp2
        go_ret2
        exact ⟨.inr ⟨HX.out, rfl⟩, by (repeat (first | assumption | exact Below.refl _ _ | refine ba ?_ _ | refine bd ?_ | refine bdn ?_ _ | refine bs ?_ (by first | omega | (simp; done) | (simp; omega)) _ | refine bt ?_ (by assumption)))⟩
    · obtain rfl : n = t := by omega
      have hs : xs.take n = xs := by rw [HN.out]; exact List.take_length
      have HE := HS.out
      rw [hs] at HE
      obtain ⟨e1, e2⟩ := HE
      have wy : IntKind.i64.wrap (9007199254740992 - y) = 9007199254740992 - y := IntWalk.i64_in _ (by omega)
      have HX := Lib.hid (And.intro (show 9007199254740992 - y = xs.sum by omega) e2)
      clear e1 e2 hs
      go_wp2
      go_ret2
      exact ⟨.inl ⟨HX.out.2, by rw [← HX.out.1]; rfl⟩, by (repeat (first | assumption | exact Below.refl _ _ | refine ba ?_ _ | refine bd ?_ | refine bdn ?_ _ | refine bs ?_ (by first | omega | (simp; done) | (simp; omega)) _ | refine bt ?_ (by assumption)))⟩
end Go.Proofs.YtlhljioncgddeaaDoor

/- Texts laid together: Ints,Share3,Share4,CmpM,ShareOrd,VecR,Sums1. -/
import Derived.Test.YtgfjmafdfbghnaaGreatSgF
import Derived.IntWalk
import Derived.OwnWalk
import Derived.WalkSmall
namespace Go.Proofs.YtgfjmafdfbghnaaGreat
section
open Go.RowKit
attribute [local go_sem] ext_cell ext_frozen

theorem infoInt : (Tryz.prog.info? 3).map (fun i => (i.zero, i.size, i.bytes)) = some (some (.int .i64 0), 1, 8) := by kernel_rfl
abbrev ints (l : List Int) : List Value := l.map (Value.int .i64)
/-- v is a slice that holds l, in memory that nothing else writes. -/
def Ints (w : World) (v : Value) (l : List Int) : Prop := w.ownsRow 0 3 1 v l.length (ints l)
theorem ownsRow_grow {w w' : World} {base : Nat} {e : TypeId} {size : Nat} {v : Value} {n : Nat} {xs : List Value} (h : w.ownsRow base e size v n xs) (hb : Below w.heap.size w w') : w'.ownsRow base e size v n xs := by
  have hlt := h.lt
  obtain ⟨h1, h2⟩ := h
  refine ⟨h1, ?_⟩
  rcases h2 with h2 | ⟨g, cap, cur, a, b, c, d⟩
  · exact .inl h2
  · exact .inr ⟨g, cap, cur, a, b, by rw [hb.block g (hlt g (by rw [a]; rfl)).2]; exact c, d⟩
theorem Ints.grow {w w' : World} {v : Value} {l : List Int} (h : Ints w v l) (hb : Below w.heap.size w w') : Ints w' v l := ownsRow_grow h hb
theorem Ints.of {w : World} {base n : Nat} {v : Value} {l : List Int} (h : w.ownsRow base 3 1 v n (ints l)) (hn : n = l.length) : Ints w v l := by
  subst hn; exact ownsRow_base h (Nat.zero_le _)
/-- The cells of such a slice that has elements. -/
theorem Ints.open {w : World} {v : Value} {l : List Int} (h : Ints w v l) (hl : 0 < l.length) : ∃ g cap, v = .slice (some ⟨g, 0, none⟩) l.length cap ∧ g < w.heap.size ∧ l.length ≤ cap ∧ cap ≤ maxLen ∧ (∀ i, i < l.length → w.cell? ⟨g, i, none⟩ = some (.int .i64 (l.getD i 0))) ∧ (∀ i, w.frozen? ⟨g, i, none⟩ = false) := by
  have h0 := h
  obtain ⟨h1, h2⟩ := h
  rcases h2 with ⟨_, h2⟩ | ⟨g, cap, cur, a, b, c, d, e, f⟩
  · omega
  · refine ⟨g, cap, a, (World.ownsRow.lt h0 g (by rw [a]; rfl)).2, d, e, fun i hi => ?_, fun i => ?_⟩
    · subst a
      rw [World.ownsRow.cellAt h0 i (by omega)]
      simp [List.getElem?_map, List.getElem?_eq_getElem hi, List.getD]
    · subst a; exact World.ownsRow.frozenAt h0 i

/-- k digits of a number to the base 65536, the lowest one first. -/
def digs : Nat → Int → List Int
  | 0, _ => []
  | k + 1, v => v % 65536 :: digs k (v / 65536)
theorem digs_len : ∀ k v, (digs k v).length = k
  | 0, _ => rfl
  | k + 1, v => by simp [digs, digs_len k]
theorem digs_snoc : ∀ k v, digs (k + 1) v = digs k v ++ [v / 65536 ^ k % 65536]
  | 0, v => by simp [digs]
  | k + 1, v => by
    rw [digs, digs_snoc k]
    show _ = v % 65536 :: (digs k (v / 65536)) ++ _
    rw [List.cons_append, Int.ediv_ediv_of_nonneg (by decide), Int.pow_succ, Int.mul_comm (65536 ^ k)]

/-- A call that returns a slice of ints of its own. -/
def RetInts (w : World) (l : List Int) (e : Ending) (w' : World) : Prop := ∃ v, e = .returned v ∧ Ints w' v l ∧ Below w.heap.size w w'

theorem own_more {w wr w1 : World} {v v' : Value} {k : Nat} {l : List Int} {x : Int} {o : Obj} (hown : wr.ownsRow w.heap.size 3 1 v k (ints l)) (hb : Below w.heap.size w wr)
    (hown' : w1.ownsRow w.heap.size 3 1 v' (k + 1) (ints l ++ [.int .i64 x])) (hgrow : (wr.alloc o).grownBy w1 v.ownBlock) :
    w1.ownsRow w.heap.size 3 1 v' (k + 1) (ints (l ++ [x])) ∧ Below w.heap.size w w1 := by
  refine ⟨by simpa [ints] using hown', (hb.alloc hb.size o).grown hgrow (by have := hb.size; simp; omega) (fun j hj => (hown.lt j hj).1)⟩

set_option maxHeartbeats 1000000 in
theorem digits_any (h l : Int) (hh : Word h) (hl : Word l) (w : World) : Calls Tryz.prog 87 #[u h, u l] w (RetInts w (digs 4 l ++ digs 4 h)) := by
  obtain ⟨i0, hi, hz0, hz1, hz2⟩ := info_parts infoInt
  obtain ⟨h0, h1⟩ := hh; obtain ⟨l0, l1⟩ := hl
  go_enter Tryz.func87, Tryz.ntmps87
  go_wp2
  go_loopw [1, 5, 6] (fun x v i wr => ∃ (k : Nat) (y : Int), k ≤ 4 ∧ i = .int .i64 k ∧ x = u y ∧ 0 ≤ y ∧ y < 18446744073709551616 ∧ Hid (y = l / 65536 ^ k) ∧ wr.ownsRow w.heap.size 3 1 v k (ints (digs k l)) ∧ Below w.heap.size w wr) (fun _ _ i _ => 4 - (intOf i).toNat)
  case atStart => exact ⟨0, l, by omega, rfl, rfl, l0, l1, by show l = l / 65536 ^ 0; simp, World.ownsRow_nil _ _ _ _, Below.refl _ _⟩
  case round =>
    obtain ⟨k, y, hk, rfl, rfl, y0, y1, hy, hown, hb⟩ := hrel
    by_cases hlt : k < 4
    · have hks : (k : Int) < 4 := by omega
      have hbs := hb.size
      go_wp2_with (at_builtin; refine wpList_append_own _ rfl _ _ 149 rfl w.heap.size 3 i0 (.int .i64 0) 1 8 Tryz.underlying149 hi hz0 hz1 hz2 rfl (by decide) _ _ _ rfl (hown.alloc _) ⟨_, 0, none⟩ 1 1 [.int .i64 (y % 65536)] rfl rfl ?c1 ?c2 ?c3 ?c4 ?c5 ?_)
      case c1 => intro j u' hj; cases j <;> simp at hj; subst hj; simp [Addr.add, go_sem]
      case c2 => intro u' hu; simp at hu; subst hu; rfl
      case c3 => unfold maxLen; omega
      case c4 => omega
      case c5 => simp; omega
      intro v' w1 hown' hgrow _
      obtain ⟨hown1, hb1⟩ := own_more hown hb hown' hgrow
      clear hown' hgrow hown hb
      go_wp2
      go_roundw
      case rel => exact ⟨k + 1, y / 65536, by omega, by go_num, rfl, by omega, by omega, by show y / 65536 = l / 65536 ^ (k + 1); rw [hy.out, Int.ediv_ediv_of_nonneg (Int.pow_nonneg (by decide)), Int.pow_succ], by rw [digs_snoc, ← hy.out]; exact hown1, hb1⟩
      case measure => simp [intOf]; omega
    · obtain rfl : k = 4 := by omega
      clear hlt hy
      simp only [show ((4 : Nat) : Int) = 4 from rfl]
      go_wp2
      go_loopw [0, 5, 7] (fun x v i wr => ∃ (k : Nat) (y : Int), k ≤ 4 ∧ i = .int .i64 k ∧ x = u y ∧ 0 ≤ y ∧ y < 18446744073709551616 ∧ Hid (y = h / 65536 ^ k) ∧ wr.ownsRow w.heap.size 3 1 v (4 + k) (ints (digs 4 l ++ digs k h)) ∧ Below w.heap.size w wr) (fun _ _ i _ => 4 - (intOf i).toNat)
      case atStart => exact ⟨0, h, by omega, rfl, rfl, h0, h1, by show h = h / 65536 ^ 0; simp, by simpa [digs] using hown, hb⟩
      case round =>
        rename_i wr0
        clear hown hb
        obtain ⟨k, y', hk, rfl, rfl, y0', y1', hy, hown, hb⟩ := hrel
        rename_i wr
        by_cases hlt : k < 4
        · have hks : (k : Int) < 4 := by omega
          have hbs := hb.size
          go_wp2_with (at_builtin; refine wpList_append_own _ rfl _ _ 149 rfl w.heap.size 3 i0 (.int .i64 0) 1 8 Tryz.underlying149 hi hz0 hz1 hz2 rfl (by decide) _ _ _ rfl (hown.alloc _) ⟨_, 0, none⟩ 1 1 [.int .i64 (y' % 65536)] rfl rfl ?d1 ?d2 ?d3 ?d4 ?d5 ?_)
          case d1 => intro j u' hj; cases j <;> simp at hj; subst hj; simp [Addr.add, go_sem]
          case d2 => intro u' hu; simp at hu; subst hu; rfl
          case d3 => unfold maxLen; omega
          case d4 => omega
          case d5 => simp; omega
          intro v' w1 hown' hgrow _
          obtain ⟨hown1, hb1⟩ := own_more hown hb hown' hgrow
          clear hown' hgrow hown hb
          go_wp2
          go_roundw
          case rel => exact ⟨k + 1, y' / 65536, by omega, by go_num, rfl, by omega, by omega, by show y' / 65536 = h / 65536 ^ (k + 1); rw [hy.out, Int.ediv_ediv_of_nonneg (Int.pow_nonneg (by decide)), Int.pow_succ], by rw [digs_snoc k h, ← hy.out, ← List.append_assoc]; exact hown1, hb1⟩
          case measure => simp [intOf]; omega
        · obtain rfl : k = 4 := by omega
          clear hlt hy
          go_wp2
          go_ret
          exact ⟨_, rfl, Ints.of hown (by simp [digs_len]), hb⟩
end
section
open Go.RowKit
attribute [local go_sem] ext_cell ext_frozen
/-- The indices of the least valid shares among the first k. -/
def leastK (n d w : Nat → Int) : Nat → List Nat
  | 0 => []
  | k + 1 => if SRt (n k) (d k) (w k) then
      match leastK n d w k with
      | [] => [k]
      | j :: L => if scmp (n k) (d k) (w k) (n j) (d j) (w j) < 0 then [k] else if scmp (n k) (d k) (w k) (n j) (d j) (w j) = 0 then j :: L ++ [k] else j :: L
    else leastK n d w k
theorem leastK_bd (n d w : Nat → Int) : ∀ k, (∀ j ∈ leastK n d w k, j < k) ∧ (leastK n d w k).length ≤ k
  | 0 => by simp [leastK]
  | k + 1 => by
    obtain ⟨h1, h2⟩ := leastK_bd n d w k
    unfold leastK
    split
    · cases hL : leastK n d w k with
      | nil => simp
      | cons j L =>
        rw [hL] at h1 h2
        have h3 : ∀ x ∈ j :: L, x < k + 1 := fun x hx => Nat.lt_succ_of_lt (h1 x hx)
        simp only
        split
        · simp
        · split
          · refine ⟨fun x hx => ?_, by simp at h2 ⊢; omega⟩
            rw [List.mem_append] at hx
            rcases hx with hx | hx
            · exact h3 x hx
            · simp at hx; omega
          · exact ⟨h3, Nat.le_succ_of_le h2⟩
    · exact ⟨fun x hx => Nat.lt_succ_of_lt (h1 x hx), Nat.le_succ_of_le h2⟩
theorem leastK_no {n d w : Nat → Int} {k : Nat} (h : ¬ SRt (n k) (d k) (w k)) : leastK n d w (k + 1) = leastK n d w k := by rw [leastK, if_neg h]
theorem leastK_first {n d w : Nat → Int} {k : Nat} (h : SRt (n k) (d k) (w k)) (hL : leastK n d w k = []) : leastK n d w (k + 1) = [k] := by rw [leastK, if_pos h, hL]
theorem leastK_less {n d w : Nat → Int} {k j : Nat} {L : List Nat} (h : SRt (n k) (d k) (w k)) (hL : leastK n d w k = j :: L) (ho : scmp (n k) (d k) (w k) (n j) (d j) (w j) < 0) : leastK n d w (k + 1) = [k] := by
  rw [leastK, if_pos h, hL]; simp only; rw [if_pos ho]
theorem leastK_same {n d w : Nat → Int} {k j : Nat} {L : List Nat} (h : SRt (n k) (d k) (w k)) (hL : leastK n d w k = j :: L) (ho : scmp (n k) (d k) (w k) (n j) (d j) (w j) = 0) : leastK n d w (k + 1) = j :: L ++ [k] := by
  rw [leastK, if_pos h, hL]; simp only; rw [if_neg (by omega), if_pos ho]
theorem leastK_more {n d w : Nat → Int} {k j : Nat} {L : List Nat} (h : SRt (n k) (d k) (w k)) (hL : leastK n d w k = j :: L) (ho : 0 < scmp (n k) (d k) (w k) (n j) (d j) (w j)) : leastK n d w (k + 1) = j :: L := by
  rw [leastK, if_pos h, hL]; simp only; rw [if_neg (by omega), if_neg (by omega)]
/-- The cells of a slice of shares. -/
def Shares (W : World) (b off : Nat) (len : Nat) (n d w : Nat → Int) : Prop :=
  ∀ i, i < len → W.cell? ⟨b, off + i * 3, none⟩ = some (.int .i64 (n i)) ∧ W.cell? ⟨b, off + i * 3 + 1, none⟩ = some (.int .i64 (d i)) ∧ W.cell? ⟨b, off + i * 3 + 2, none⟩ = some (.int .i64 (w i))
def nats (L : List Nat) : List Int := L.map fun (j : Nat) => (j : Int)
/-- The row under way. -/
def LRow (W wr : World) (v : Value) (L : List Nat) : Prop := wr.ownsRow W.heap.size 3 1 v L.length (ints (nats L)) ∧ (L = [] → v = .slice none 0 0) ∧ Below W.heap.size W wr
theorem LRow.grow {W wr w1 : World} {v : Value} {L : List Nat} (h : LRow W wr v L) (hb : Below wr.heap.size wr w1) : LRow W w1 v L := ⟨ownsRow_grow h.1 hb, h.2.1, bt h.2.2 hb⟩
theorem LRow.snoc {W wr w1 : World} {v v' : Value} {L : List Nat} {k : Nat} {o : Obj} (hown : wr.ownsRow W.heap.size 3 1 v L.length (ints (nats L))) (hb : Below W.heap.size W wr)
    (h1 : w1.ownsRow W.heap.size 3 1 v' (L.length + 1) (ints (nats L) ++ [.int .i64 (k : Int)])) (hg : (wr.alloc o).grownBy w1 v.ownBlock) : LRow W w1 v' (L ++ [k]) := by
  obtain ⟨a, b⟩ := own_more hown hb h1 hg
  refine ⟨by simpa [nats] using a, fun h => by simp at h, b⟩

theorem LRow.cut {W wr : World} {g cp m : Nat} {L : List Nat} (h : LRow W wr (.slice (some ⟨g, 0, none⟩) m cp) L) : wr.ownsRow W.heap.size 3 1 (.slice (some ⟨g, 0, none⟩) 0 cp) ([] : List Nat).length (ints (nats [])) := by
  rcases h.1.2 with ⟨h0, _⟩ | ⟨g', cp', cur, he, hb, hg, _, hm, hs, _⟩
  · cases h0
  · cases he
    exact ⟨by simp [nats], .inr ⟨g, cp, cur, rfl, hb, hg, Nat.zero_le _, hm, hs, by simp [nats]⟩⟩
end
section
open Go.RowKit
attribute [local go_sem] ext_cell ext_frozen
def wksN : Nat → Int | 0 => 1 | _ => 2
def wksD : Nat → Int | 0 => 2 | _ => 3
def wksW : Nat → Int | 0 => 1 | _ => 2
theorem wks_least : leastK wksN wksD wksW 3 = [1, 2] := by decide +kernel
theorem wks_cmp : scmp 2 3 2 1 2 1 = -1 := by decide +kernel
theorem wks_cells (W : World) : Shares (W.alloc (.cells #[.int .i64 1, .int .i64 2, .int .i64 1, .int .i64 2, .int .i64 3, .int .i64 2, .int .i64 2, .int .i64 3, .int .i64 2] 44)) W.heap.size 0 3 wksN wksD wksW := by
  intro i hi
  have : i = 0 ∨ i = 1 ∨ i = 2 := by omega
  rcases this with rfl | rfl | rfl <;> exact ⟨by simp [go_sem, wksN], by simp [go_sem, wksD], by simp [go_sem, wksW]⟩
theorem dec_small (i : Nat) (h : i < 10) : Lib.decDigits i = [UInt8.ofNat (48 + i)] := by rw [Lib.decDigits, dif_pos h]
end
section
open Go.RowKit
attribute [local go_sem] ext_cell ext_frozen
/-- The comparison of any two fractions. -/
def rcA (an ad bn bd : Int) : Int := if (0 ≤ an ∧ 1 ≤ ad) ∧ (0 ≤ bn ∧ 1 ≤ bd) then rcmp an ad bn bd else 0
theorem rc_any (an ad bn bd : Int) (i1 : I64 an) (i2 : I64 ad) (i3 : I64 bn) (i4 : I64 bd) : Pure Tryz.prog 124 #[F2 an ad, F2 bn bd] (.int .i64 (rcA an ad bn bd)) := by
  unfold rcA
  by_cases h1 : 0 ≤ an ∧ 1 ≤ ad
  · by_cases h2 : 0 ≤ bn ∧ 1 ≤ bd
    · rw [if_pos ⟨h1, h2⟩]; exact rcmp_yes _ _ _ _ i1 i2 i3 i4 ⟨h1.1, h1.2⟩ ⟨h2.1, h2.2⟩
    · rw [if_neg (fun h => h2 h.2)]; exact rcmp_no2 _ _ _ _ ⟨h1.1, h1.2⟩ (fun h => h2 ⟨h.num, h.den⟩)
  · rw [if_neg (fun h => h1 h.1)]; exact rcmp_no1 _ _ _ _ (fun h => h1 ⟨h.num, h.den⟩)
theorem right_any (n d : Int) : Pure Tryz.prog 68 #[F2 n d] (.bool (decide (0 ≤ n ∧ 1 ≤ d))) := by
  by_cases h : 0 ≤ n ∧ 1 ≤ d
  · rw [decide_eq_true h]; exact right_yes _ _ h.1 h.2
  · rw [decide_eq_false h]; exact right_no _ _ (fun h' => h ⟨h'.num, h'.den⟩)
theorem cmpI_swap (p q : Int) : cmpI q p = - cmpI p q := by unfold cmpI; split <;> split <;> omega
theorem cmpI_bd (p q : Int) : -1 ≤ cmpI p q ∧ cmpI p q ≤ 1 := by unfold cmpI; split <;> (try split) <;> omega
theorem cmpI_le (p q : Int) : cmpI p q ≤ 0 ↔ p ≤ q := by unfold cmpI; split <;> (try split) <;> omega
theorem cmpI_lt (p q : Int) : cmpI p q < 0 ↔ p < q := by unfold cmpI; split <;> (try split) <;> omega
theorem rcA_swap (an ad bn bd : Int) : rcA bn bd an ad = - rcA an ad bn bd := by
  unfold rcA
  by_cases h1 : 0 ≤ an ∧ 1 ≤ ad <;> by_cases h2 : 0 ≤ bn ∧ 1 ≤ bd <;> simp [h1, h2]
  exact cmpI_swap _ _
theorem rcA_self (an ad : Int) : rcA an ad an ad = 0 := by
  unfold rcA rcmp cmpI; split <;> simp
theorem rcA_bd (an ad bn bd : Int) : -1 ≤ rcA an ad bn bd ∧ rcA an ad bn bd ≤ 1 := by
  unfold rcA; split
  · exact cmpI_bd _ _
  · omega
/-- Cross products are transitive. -/
theorem cross_le {an ad bn bd cn cd : Int} (hb : 1 ≤ bd) (ha : 1 ≤ ad) (hc : 1 ≤ cd) (h1 : an * bd ≤ bn * ad) (h2 : bn * cd ≤ cn * bd) :
    an * cd ≤ cn * ad ∧ (an * cd = cn * ad → an * bd = bn * ad ∧ bn * cd = cn * bd) := by
  have e1 := Int.mul_le_mul_of_nonneg_right h1 (show 0 ≤ cd by omega)
  have e2 := Int.mul_le_mul_of_nonneg_right h2 (show 0 ≤ ad by omega)
  have c1 : an * cd * bd = an * bd * cd := Int.mul_right_comm _ _ _
  have c2 : bn * ad * cd = bn * cd * ad := Int.mul_right_comm _ _ _
  have c3 : cn * bd * ad = cn * ad * bd := Int.mul_right_comm _ _ _
  refine ⟨Int.le_of_mul_le_mul_right (show (an * cd) * bd ≤ (cn * ad) * bd by omega) (by omega), fun h => ?_⟩
  have c4 : an * cd * bd = cn * ad * bd := by rw [h]
  exact ⟨Int.eq_of_mul_eq_mul_right (show cd ≠ 0 by omega) (show an * bd * cd = bn * ad * cd by omega), Int.eq_of_mul_eq_mul_right (show ad ≠ 0 by omega) (show bn * cd * ad = cn * bd * ad by omega)⟩
theorem rcA_trans {an ad bn bd cn cd : Int} (ha : 0 ≤ an ∧ 1 ≤ ad) (hb : 0 ≤ bn ∧ 1 ≤ bd) (hc : 0 ≤ cn ∧ 1 ≤ cd) (h1 : rcA an ad bn bd ≤ 0) (h2 : rcA bn bd cn cd ≤ 0) :
    rcA an ad cn cd < 0 ∨ rcA an ad cn cd = 0 ∧ rcA an ad bn bd = 0 ∧ rcA bn bd cn cd = 0 := by
  have f1 : rcA an ad bn bd = cmpI (an * bd) (bn * ad) := if_pos ⟨ha, hb⟩
  have f2 : rcA bn bd cn cd = cmpI (bn * cd) (cn * bd) := if_pos ⟨hb, hc⟩
  have f3 : rcA an ad cn cd = cmpI (an * cd) (cn * ad) := if_pos ⟨ha, hc⟩
  rw [f1] at h1 ⊢
  rw [f2] at h2 ⊢
  rw [f3]
  obtain ⟨k1, k2⟩ := cross_le hb.2 ha.2 hc.2 ((cmpI_le _ _).1 h1) ((cmpI_le _ _).1 h2)
  by_cases h : an * cd = cn * ad
  · obtain ⟨k3, k4⟩ := k2 h
    right
    unfold cmpI
    simp [h, k3, k4]
  · left
    rw [cmpI_lt]
    omega

theorem i64_of_wf {x : Int} (h : (Lit.int .i64 x).wf = true) : I64 x := by
  simp [Lit.wf, IntKind.min, IntKind.max, IntKind.signed, IntKind.bits] at h
  exact ⟨by omega, by omega⟩
end
section
open Go.RowKit
attribute [local go_sem] ext_cell ext_frozen

theorem scmp_swap (an ad aw bn bd bw : Int) : scmp bn bd bw an ad aw = - scmp an ad aw bn bd bw := by
  unfold scmp
  by_cases h1 : SRt an ad aw <;> by_cases h2 : SRt bn bd bw <;> simp [h1, h2]
  exact cmpI_swap _ _
theorem scmp_self (n d w : Int) : scmp n d w n d w = 0 := by unfold scmp; rw [cmpI_self, ite_self]
theorem scmp_bd (an ad aw bn bd bw : Int) : -1 ≤ scmp an ad aw bn bd bw ∧ scmp an ad aw bn bd bw ≤ 1 := by
  unfold scmp; split
  · exact cmpI_bd _ _
  · omega
theorem scmp_rcA {an ad aw bn bd bw : Int} (ha : SRt an ad aw) (hb : SRt bn bd bw) : scmp an ad aw bn bd bw = rcA an (ad * aw) bn (bd * bw) := by
  have ha' := ha; have hb' := hb
  obtain ⟨_, _, ⟨a1, a2⟩, a3, _⟩ := ha
  obtain ⟨_, _, ⟨b1, b2⟩, b3, _⟩ := hb
  have k1 : 1 ≤ ad * aw := by have := Int.mul_le_mul a2 a3 (by decide) (by omega); omega
  have k2 : 1 ≤ bd * bw := by have := Int.mul_le_mul b2 b3 (by decide) (by omega); omega
  unfold scmp rcA rcmp
  rw [if_pos ⟨ha', hb'⟩, if_pos ⟨⟨a1, k1⟩, ⟨b1, k2⟩⟩, Int.mul_assoc, Int.mul_assoc]
theorem srt_rt {n d w : Int} (h : SRt n d w) : 0 ≤ n ∧ 1 ≤ d * w := by
  obtain ⟨_, _, ⟨a1, a2⟩, a3, _⟩ := h
  have := Int.mul_le_mul a2 a3 (by decide) (by omega)
  exact ⟨a1, by omega⟩
theorem scmp_weight {an ad bn bd w : Int} (ha : SRt an ad w) (hb : SRt bn bd w) : scmp an ad w bn bd w = rcA an ad bn bd := by
  have ha' := ha; have hb' := hb
  obtain ⟨_, _, a1, a3, _⟩ := ha
  obtain ⟨_, _, b1, _, _⟩ := hb
  unfold scmp rcA rcmp cmpI
  rw [if_pos ⟨ha', hb'⟩, if_pos (show (0 ≤ an ∧ 1 ≤ ad) ∧ (0 ≤ bn ∧ 1 ≤ bd) from ⟨a1, b1⟩)]
  have hlt : ∀ p q : Int, p * w < q * w ↔ p < q := fun p q => ⟨fun h => Int.lt_of_mul_lt_mul_right h (by omega), fun h => Int.mul_lt_mul_of_pos_right h (by omega)⟩
  simp only [hlt]
def Ok3 (ra rb rc : Bool) (x y z : Int) : Prop := ra = false ∨ rb = false ∨ rc = false ∨ 0 < x ∨ 0 < y ∨ z < 0 ∨ z = 0 ∧ x = 0 ∧ y = 0
end
section
open Go.RowKit
attribute [local go_sem] ext_cell ext_frozen Mix.calmUpon Mix.mUpon
/-- A part; its place. -/
abbrev P3 (k r a : Int) : Value := .agg #[.int .i64 k, .int .i64 r, .int .i64 a]
abbrev L2 (k r : Int) : Value := .agg #[.int .i64 k, .int .i64 r]
/-- A place that may be. -/
def LOk (k r : Int) : Prop := 0 ≤ k ∧ k < 4 ∧ 0 ≤ r ∧ r ≤ 32
instance (k r : Int) : Decidable (LOk k r) := by unfold LOk; infer_instance
/-- How two places stand. -/
def lcmp (k r k' r' : Int) : Int := if k = k' then cmpI r r' else cmpI k k'
/-- The cells of a slice of parts. -/
def Parts (W : World) (b off len : Nat) (k r a : Nat → Int) : Prop :=
  ∀ i, i < len → W.cell? ⟨b, off + i * 3, none⟩ = some (.int .i64 (k i)) ∧ W.cell? ⟨b, off + i * 3 + 1, none⟩ = some (.int .i64 (r i)) ∧ W.cell? ⟨b, off + i * 3 + 2, none⟩ = some (.int .i64 (a i))
theorem Parts.grow {W X : World} {b off len : Nat} {k r a : Nat → Int} (h : Parts W b off len k r a) (hb : b < W.heap.size) (hx : Below W.heap.size W X) : Parts X b off len k r a := fun i hi => by
  obtain ⟨h0, h1, h2⟩ := h i hi
  exact ⟨(hx.cell (p := ⟨b, _, none⟩) hb).trans h0, (hx.cell (p := ⟨b, _, none⟩) hb).trans h1, (hx.cell (p := ⟨b, _, none⟩) hb).trans h2⟩
section
variable (k r a : Nat → Int)
def POk (i : Nat) : Prop := LOk (k i) (r i) ∧ 1 ≤ a i ∧ a i ≤ 9007199254740992
/-- The first n parts are a valid vector. -/
def VOk (n : Nat) : Prop := ∀ i, i < n → POk k r a i ∧ (0 < i → lcmp (k (i - 1)) (r (i - 1)) (k i) (r i) < 0)
end
theorem vok_succ {k r a : Nat → Int} {n : Nat} (h : VOk k r a n) (h1 : POk k r a n) (h2 : 0 < n → lcmp (k (n - 1)) (r (n - 1)) (k n) (r n) < 0) : VOk k r a (n + 1) := fun i hi => by
  by_cases he : i = n
  · rw [he]; exact ⟨h1, h2⟩
  · exact h i (by omega)
end
section
open Go.RowKit
attribute [local go_sem] ext_cell ext_frozen Mix.calmUpon Mix.mUpon
/-- Four numbers, one a kind. -/
abbrev S4 (a : Nat → Int) : Value := .agg #[.int .i64 (a 0), .int .i64 (a 1), .int .i64 (a 2), .int .i64 (a 3)]
abbrev C4 (a : Nat → Int) : Array Value := #[.int .i64 (a 0), .int .i64 (a 1), .int .i64 (a 2), .int .i64 (a 3)]
theorem c4_get (a : Nat → Int) (k : Nat) (h : k < 4) : (C4 a)[k]? = some (.int .i64 (a k)) := by
  have : k = 0 ∨ k = 1 ∨ k = 2 ∨ k = 3 := by omega
  rcases this with rfl | rfl | rfl | rfl <;> rfl
theorem c4_cell (w : World) (a : Nat → Int) (t : TypeId) (k : Nat) (h : k < 4) : (w.alloc (.cells (C4 a) t)).cell? ⟨w.heap.size, k, none⟩ = some (.int .i64 (a k)) := by
  rw [World.cell?_alloc_new]; exact c4_get a k h
def KOk (a : Nat → Int) (k : Nat) : Prop := 0 ≤ a k ∧ a k ≤ 1152921504606846976
/-- Sums that may be. -/
def SOk (a : Nat → Int) : Prop := KOk a 0 ∧ KOk a 1 ∧ KOk a 2 ∧ KOk a 3
instance (a : Nat → Int) (k : Nat) : Decidable (KOk a k) := by unfold KOk; infer_instance
instance (a : Nat → Int) : Decidable (SOk a) := by unfold SOk; infer_instance
theorem sok_all {a : Nat → Int} (h : ∀ j, j < 4 → KOk a j) : SOk a := ⟨h 0 (by omega), h 1 (by omega), h 2 (by omega), h 3 (by omega)⟩
theorem sok_at {a : Nat → Int} (h : SOk a) (k : Nat) (hk : k < 4) : KOk a k := by
  obtain ⟨h0, h1, h2, h3⟩ := h
  have : k = 0 ∨ k = 1 ∨ k = 2 ∨ k = 3 := by omega
  rcases this with rfl | rfl | rfl | rfl <;> assumption
set_option maxHeartbeats 2000000 in
theorem sumsright (a : Nat → Int) : Pure Tryz.prog 109 #[S4 a] (.bool (decide (SOk a))) := by
  intro w
  go_enter Tryz.func109, Tryz.ntmps109
  go_wp2_with fail
  go_loop [4] (fun i => ∃ k : Nat, k ≤ 4 ∧ i = .int .i64 k ∧ Hid (∀ j, j < k → KOk a j)) (fun i => 4 - (intOf i).toNat)
  case atStart => exact ⟨0, by omega, rfl, Lib.hid (fun j hj => by omega)⟩
  case round =>
    obtain ⟨k, hk, rfl, HK⟩ := hrel
    by_cases hlt : k < 4
    · have hks : (k : Int) < 4 := by omega
      have hc := c4_cell w a 67 k hlt
      by_cases h0 : 0 ≤ a k
      · by_cases h1 : a k ≤ 1152921504606846976
        · have HN := Lib.hid (show ∀ j, j < k + 1 → KOk a j from fun j hj => by
            rcases Nat.lt_or_ge j k with h | h
            · exact HK.out j h
            · obtain rfl : j = k := by omega
              exact ⟨h0, h1⟩)
          go_wp2
          go_round
          case rel => exact ⟨k + 1, by omega, by go_num, HN⟩
          case measure => simp [intOf]; omega
        · have hn : ¬ SOk a := fun h => h1 (sok_at h k hlt).2
          have HN := Lib.hid hn
          have h2 : 1152921504606846976 < a k := by omega
          clear hn h1
          go_wp2
          go_ret
          exact ⟨by rw [decide_eq_false HN.out]; rfl, ba (Below.refl _ _) _⟩
      · have hn : ¬ SOk a := fun h => h0 (sok_at h k hlt).1
        have HN := Lib.hid hn
        have h2 : a k < 0 := by omega
        clear hn h0
        go_wp2
        go_ret
        exact ⟨by rw [decide_eq_false HN.out]; rfl, ba (Below.refl _ _) _⟩
    · obtain rfl : k = 4 := by omega
      have HN := Lib.hid (sok_all HK.out)
      go_wp2
      go_ret
      exact ⟨by rw [decide_eq_true HN.out]; rfl, ba (Below.refl _ _) _⟩
set_option maxHeartbeats 2000000 in
theorem refright6 (a : Nat → Int) : Pure Tryz.prog 50 #[S4 a] (.bool (decide (SOk a))) := by
  intro w
  go_enter Tryz.func50, Tryz.ntmps50
  go_wp2_with fail
  go_loop [3] (fun i => ∃ k : Nat, k ≤ 4 ∧ i = .int .i64 k ∧ Hid (∀ j, j < k → KOk a j)) (fun i => 4 - (intOf i).toNat)
  case atStart => exact ⟨0, by omega, rfl, Lib.hid (fun j hj => by omega)⟩
  case round =>
    obtain ⟨k, hk, rfl, HK⟩ := hrel
    by_cases hlt : k < 4
    · have hks : (k : Int) < 4 := by omega
      have hc := c4_cell w a 25 k hlt
      by_cases h0 : 0 ≤ a k
      · by_cases h1 : a k ≤ 1152921504606846976
        · have HN := Lib.hid (show ∀ j, j < k + 1 → KOk a j from fun j hj => by
            rcases Nat.lt_or_ge j k with h | h
            · exact HK.out j h
            · obtain rfl : j = k := by omega
              exact ⟨h0, h1⟩)
          go_wp2
          go_round
          case rel => exact ⟨k + 1, by omega, by go_num, HN⟩
          case measure => simp [intOf]; omega
        · have hn : ¬ SOk a := fun h => h1 (sok_at h k hlt).2
          have HN := Lib.hid hn
          have h2 : 1152921504606846976 < a k := by omega
          clear hn h1
          go_wp2
          go_ret
          exact ⟨by rw [decide_eq_false HN.out]; rfl, ba (Below.refl _ _) _⟩
      · have hn : ¬ SOk a := fun h => h0 (sok_at h k hlt).1
        have HN := Lib.hid hn
        have h2 : a k < 0 := by omega
        clear hn h0
        go_wp2
        go_ret
        exact ⟨by rw [decide_eq_false HN.out]; rfl, ba (Below.refl _ _) _⟩
    · obtain rfl : k = 4 := by omega
      have HN := Lib.hid (sok_all HK.out)
      go_wp2
      go_ret
      exact ⟨by rw [decide_eq_true HN.out]; rfl, ba (Below.refl _ _) _⟩
end
end Go.Proofs.YtgfjmafdfbghnaaGreat

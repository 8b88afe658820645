/- Contract of mancipleref01.Sum, with what its slice owns. Condition: as it says. -/
import Derived.Test.YtojfkpmdnhkanaaHalves
import Derived.Test.YtojfkpmdnhkanaaWideProducts
namespace Go.Proofs.Ytojfkpmdnhkanaa
open Go.RowKit
attribute [local go_sem] ext_cell ext_frozen

/-- A call that returns a slice of ints in memory that it made itself. -/
def RetRow (w : World) (n : Nat) (l : List Int) (e : Ending) (w' : World) : Prop := ∃ v, e = .returned v ∧ w'.ownsRow w.heap.size 3 1 v n (ints l) ∧ Below w.heap.size w w'
set_option maxHeartbeats 1000000 in
theorem sum_row (n : Nat) (hn : 0 < n) (hn' : n ≤ 100) (A B : Int) (a0 : 0 ≤ A) (a1 : A < 65536 ^ n) (b0 : 0 ≤ B) (b1 : B < 65536 ^ n) (va vb : Value) (w : World) (ha : Ints w va (digs n A)) (hb : Ints w vb (digs n B)) :
    Calls Try.prog 16 #[va, vb] w (RetRow w (n + 1) (digs (n + 1) (A + B))) := by
  obtain ⟨i0, hi, hz0, hz1, hz2⟩ := info_parts infoInt
  obtain ⟨ga, ca, rfl, hga, _, hca, _⟩ := ha.digs hn
  obtain ⟨gb, cb, rfl, hgb, _, hcb, _⟩ := hb.digs hn
  have HCA := Lib.hid hca; have HCB := Lib.hid hcb
  clear hca hcb ha hb
  go_enter Try.func16, Try.ntmps16
  go_wp2
  go_loopw [5, 6, 7] (fun v c i wr => ∃ (k : Nat) (y : Int), k ≤ n ∧ i = .int .i64 k ∧ c = .int .i64 y ∧ 0 ≤ y ∧ y ≤ 1 ∧ Hid (y = (A + B) / 65536 ^ k - A / 65536 ^ k - B / 65536 ^ k) ∧ wr.ownsRow w.heap.size 3 1 v k (ints (digs k (A + B))) ∧ Below w.heap.size w wr) (fun _ _ i _ => n - (intOf i).toNat)
  case atStart => exact ⟨0, 0, by omega, rfl, rfl, by omega, by omega, by show (0 : Int) = (A + B) / 65536 ^ 0 - A / 65536 ^ 0 - B / 65536 ^ 0; simp; omega, World.ownsRow_nil _ _ _ _, Below.refl _ _⟩
  case round =>
    obtain ⟨k, y, hk, rfl, rfl, y0, y1, hy, hown, hb⟩ := hrel
    by_cases hlt : k < n
    · have hks : (k : Int) < (n : Int) := by omega
      have hbs := hb.size
      have d1 : wr.cell? ⟨ga, k, none⟩ = some (.int .i64 (A / 65536 ^ k % 65536)) := by rw [hb.cell (p := ⟨ga, k, none⟩) hga]; exact HCA.out k hlt
      have d2 : wr.cell? ⟨gb, k, none⟩ = some (.int .i64 (B / 65536 ^ k % 65536)) := by rw [hb.cell (p := ⟨gb, k, none⟩) hgb]; exact HCB.out k hlt
      obtain ⟨st1, st2⟩ := sum_step A B (65536 ^ k) y _ _ (pow_pos65 k) hy.out rfl rfl
      have hcb := carry_bd A B (65536 ^ (k + 1)) (pow_pos65 _)
      have x0 := Int.emod_nonneg (A / 65536 ^ k) (show (65536 : Int) ≠ 0 by decide)
      have x1 := Int.emod_lt_of_pos (A / 65536 ^ k) (show (0 : Int) < 65536 by decide)
      have z0 := Int.emod_nonneg (B / 65536 ^ k) (show (65536 : Int) ≠ 0 by decide)
      have z1 := Int.emod_lt_of_pos (B / 65536 ^ k) (show (0 : Int) < 65536 by decide)
      generalize A / 65536 ^ k % 65536 = x at *
      generalize B / 65536 ^ k % 65536 = z at *
      rw [← Int.pow_succ] at st2
      rw [← st2] at hcb
      have ST1 := Lib.hid st1; have ST2 := Lib.hid st2
      clear st1 st2
      go_wp2
      go_quiet (fail)
      have hown2 : (wr.drewN nq).ownsRow w.heap.size 3 1 _ k (ints (digs k (A + B))) := hown
      have hb2 : Below w.heap.size w (wr.drewN nq) := bdn hb _
      go_wp2_with (at_builtin; refine wpList_append_own _ rfl _ _ 28 rfl w.heap.size 3 i0 (.int .i64 0) 1 8 Try.underlying28 hi hz0 hz1 hz2 rfl (by decide) _ _ _ rfl (hown2.alloc _) ⟨_, 0, none⟩ 1 1 [.int .i64 ((x + z + y) % 65536)] rfl rfl ?c1 ?c2 ?c3 ?c4 ?c5 ?_)
      case c1 => intro j u' hj; cases j <;> simp at hj; subst hj; first | (simp [Addr.add, go_sem]; done) | (simp [Addr.add]; exact (World.cell?_alloc_at _ _ _ _ rfl).trans rfl)
      case c2 => intro u' hu; simp at hu; subst hu; rfl
      case c3 => unfold maxLen; omega
      case c4 => omega
      case c5 => simp; omega
      intro v' w1 hown' hgrow _
      obtain ⟨hown1, hb1⟩ := own_more hown2 hb2 hown' hgrow
      clear hown' hgrow hown hb hown2 hb2
      go_wp2
      go_roundw
      case rel => exact ⟨k + 1, (x + z + y) / 65536, by omega, by go_num, rfl, hcb.1, hcb.2, ST2.out, by rw [digs_snoc k (A + B), ← ST1.out]; exact hown1, hb1⟩
      case measure => simp [intOf]; omega
    · obtain rfl : k = n := by omega
      have hbs := hb.size
      have e1 : A / 65536 ^ k = 0 := Int.ediv_eq_zero_of_lt a0 a1
      have e2 : B / 65536 ^ k = 0 := Int.ediv_eq_zero_of_lt b0 b1
      have hy2 : y = (A + B) / 65536 ^ k % 65536 := by have := hy.out; rw [e1, e2] at this; omega
      have HY := Lib.hid hy2
      clear hy hy2 e1 e2 hlt
      go_wp2_with (at_builtin; refine wpList_append_own _ rfl _ _ 28 rfl w.heap.size 3 i0 (.int .i64 0) 1 8 Try.underlying28 hi hz0 hz1 hz2 rfl (by decide) _ _ _ rfl (hown.alloc _) ⟨_, 0, none⟩ 1 1 [.int .i64 y] rfl rfl ?d1 ?d2 ?d3 ?d4 ?d5 ?_)
      case d1 => intro j u' hj; cases j <;> simp at hj; subst hj; first | (simp [Addr.add, go_sem]; done) | (simp [Addr.add]; exact (World.cell?_alloc_at _ _ _ _ rfl).trans rfl)
      case d2 => intro u' hu; simp at hu; subst hu; rfl
      case d3 => unfold maxLen; omega
      case d4 => omega
      case d5 => simp; omega
      intro v' w1 hown' hgrow _
      obtain ⟨hown1, hb1⟩ := own_more hown hb hown' hgrow
      clear hown' hgrow hown hb
      go_wp2
      go_ret
      exact ⟨_, rfl, by rw [digs_snoc k (A + B), ← HY.out]; exact hown1, hb1⟩


/-- The first elements of such a slice. -/
theorem row_take {w : World} {base g n k cap : Nat} {l : List Int} (h : w.ownsRow base 3 1 (.slice (some ⟨g, 0, none⟩) n cap) n (ints l)) (hk : k ≤ n) : w.ownsRow base 3 1 (.slice (some ⟨g, 0, none⟩) k cap) k (ints (l.take k)) := by
  obtain ⟨h1, h2⟩ := h
  rcases h2 with ⟨h2, _⟩ | ⟨g', cap', cur, a, b, c, d, e, f, t⟩
  · simp at h2
  · simp only [Value.slice.injEq, Option.some.injEq, Addr.mk.injEq, and_true, true_and] at a
    obtain ⟨rfl, rfl⟩ := a
    have hl : l.length = n := by simpa [ints] using h1
    refine ⟨by simp [ints]; omega, .inr ⟨g, cap, cur, rfl, b, c, Nat.le_trans hk d, e, f, ?_⟩⟩
    have : ints (l.take k) = (ints l).take k := by simp [ints, List.map_take]
    rw [this, ← t, List.take_take]
    congr 1
    omega
theorem row_open {w : World} {base n : Nat} {v : Value} {l : List Int} (h : w.ownsRow base 3 1 v n (ints l)) (hn : 0 < n) : ∃ g cap, v = .slice (some ⟨g, 0, none⟩) n cap ∧ base ≤ g ∧ g < w.heap.size ∧ n ≤ cap := by
  have h0 := h
  obtain ⟨h1, h2⟩ := h
  rcases h2 with ⟨_, h2⟩ | ⟨g, cap, cur, a, b, c, d, e, f⟩
  · omega
  · exact ⟨g, cap, a, b, (World.ownsRow.lt h0 g (by rw [a]; rfl)).2, d⟩

/-- 'append' of one number, in a region that draws its order. -/
theorem append_one {w : World} {base n : Nat} {v : Value} {l : List Int} {x : Int} {ad : Addr} {c : Nat} {K : Act → World → Prop} {o : Oper} {a : Act} (s y : Operand)
    (ho : o.op = .call { callee := .builtin .append, args := #[s, y], argTypes := #[28, 28] }) (hs : a.eval s = v) (hy : a.eval y = .slice (some ad) 1 c)
    (h : w.ownsRow base 3 1 v n (ints l)) (hx : w.cell? ad = some (.int .i64 x)) (hn : n ≤ 1000) (hb : base ≤ w.heap.size)
    (hK : ∀ v' w', w'.ownsRow base 3 1 v' (n + 1) (ints (l ++ [x])) → w.grownBy w' v.ownBlock → K (a.put o.dst v') w') :
    Mix.mUpon Try.prog o a K ((execOp a.eval o).run Try.prog w) := by
  obtain ⟨i0, hi, hz0, hz1, hz2⟩ := info_parts infoInt
  obtain ⟨v', w', h1, h2, h3, _⟩ := run_append_own (P := Try.prog) w base 28 o.type 3 i0 (.int .i64 0) 1 8 Try.underlying28 hi hz0 hz1 hz2 rfl (by decide) v n (ints l) h ad 1 c [.int .i64 x] rfl
    (fun j u' hj => by cases j <;> simp at hj; subst hj; simpa [Addr.add] using hx) (fun u' hu => by simp at hu; subst hu; rfl) (by unfold maxLen; omega) (by omega) hb
  unfold execOp
  simp only [ho, resolve, invoke, builtin, Sem.run_bind, Sem.run_pure, Result.andThen_ok, List.map_toArray, List.map_cons, List.map_nil, hs, hy, h1]
  exact hK v' w' (by simpa [ints] using h2) h3
end Go.Proofs.Ytojfkpmdnhkanaa

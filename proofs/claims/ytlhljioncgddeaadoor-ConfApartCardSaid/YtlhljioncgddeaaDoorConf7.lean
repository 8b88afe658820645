/- == of two configurations. -/
import Derived.Test.YtlhljioncgddeaaDoorConf6
namespace Go.Proofs.YtlhljioncgddeaaDoor
open Go.RowKit Go.Proofs
attribute [local go_sem] ext_cell ext_frozen Mix.calmUpon Mix.mUpon
theorem eqA (a0 a1 a2 a3 b0 b1 b2 b3 : Int) (w : World) : (Op.equalIn 9999 41 (.agg #[.int .i64 a0, .int .i64 a1, .int .i64 a2, .int .i64 a3]) (.agg #[.int .i64 b0, .int .i64 b1, .int .i64 b2, .int .i64 b3])).run Tryd.prog w = .ok (a0 == b0 && (a1 == b1 && (a2 == b2 && a3 == b3))) w := by
  have u3 := Tryd.underlying2
  have a3' := Tryd.isAgg2
  have z3 := Tryd.sizeOf2
  rw [show (9999 : Nat) = 9998 + 1 from rfl, Op.equalIn]
  simp only [Sem.run_bind, run_underlying Tryd.underlying41, Result.andThen_ok]
  simp only [Std.Legacy.Range.forIn_eq_forIn_range', Std.Legacy.Range.size, Nat.sub_zero, Nat.add_sub_cancel, Nat.div_one, List.range'_succ, List.range'_zero, List.forIn_cons, List.forIn_nil]
  go_simp
  by_cases h1 : a0 = b0 <;> by_cases h2 : a1 = b1 <;> by_cases h3 : a2 = b2 <;> by_cases h4 : a3 = b3 <;> simp [h1, h2, h3, h4]
attribute [local go_sem] eqA
theorem eqC (h m i l c h' m' i' l' c' a0 a1 a2 a3 b0 b1 b2 b3 : Int) (w : World) : (Op.equalIn 10000 43 (.agg #[.int .i64 h, .int .i64 m, .int .i64 i, .int .i64 l, .int .i64 c, .int .i64 a0, .int .i64 a1, .int .i64 a2, .int .i64 a3]) (.agg #[.int .i64 h', .int .i64 m', .int .i64 i', .int .i64 l', .int .i64 c', .int .i64 b0, .int .i64 b1, .int .i64 b2, .int .i64 b3])).run Tryd.prog w = .ok (h == h' && (m == m' && (i == i' && (l == l' && (c == c' && (a0 == b0 && (a1 == b1 && (a2 == b2 && a3 == b3)))))))) w := by
  have u3 := Tryd.underlying2
  have a3' := Tryd.isAgg2
  have z3 := Tryd.sizeOf2
  have u4 := Tryd.underlying3
  have a4' := Tryd.isAgg3
  have z4 := Tryd.sizeOf3
  have z5 := Tryd.sizeOf41
  have a5 := Tryd.isAgg41
  rw [show (10000 : Nat) = 9999 + 1 from rfl, Op.equalIn]
  simp only [Sem.run_bind, run_underlying Tryd.underlying43, Result.andThen_ok]
  go_simp
  by_cases e1 : h = h'
  · by_cases e2 : m = m'
    · by_cases e3 : i = i'
      · by_cases e4 : l = l'
        · by_cases e5 : c = c'
          · rw [if_pos e1, if_pos e2, if_pos e3, if_pos e4, if_pos e5, e1, e2, e3, e4, e5]
            by_cases h1 : a0 = b0 <;> by_cases h2 : a1 = b1 <;> by_cases h3 : a2 = b2 <;> by_cases h4 : a3 = b3 <;> simp [h1, h2, h3, h4]
          · simp [e5]
        · simp [e4]
      · simp [e3]
    · simp [e2]
  · simp [e1]
attribute [local go_sem] eqC
end Go.Proofs.YtlhljioncgddeaaDoor

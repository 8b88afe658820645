/- life: manciplelaw30.works. -/
import Derived.Test.YtennhfkhdfalfaaLfB
namespace Go.Proofs.Ytennhfkhdfalfaa
open Go.RowKit Go.Maps
attribute [local go_sem] ext_cell ext_frozen extC_cell extC_frozen Mix.calmUpon Mix.mUpon
theorem Mix.opApp {P : Program} {ops : Array Oper} {i : Nat} {o : Oper} {K : Act → World → Prop} {a : Act} {w : World} (hi : ops[i]? = some o) (hwt : Region.wanted o (yielded ops a.tmps) = true) (s x : Operand) (t : TypeId)
    (ho : o.op = .call { callee := .builtin .append, args := #[s, x], argTypes := #[t, t] }) {vs vx : Value} (hs : a.eval s = vs) (hx : a.eval x = vx) {v' : Value} {w' : World} (hr : (Builtin.append_ #[t, t] o.type #[vs, vx]).run P w = .ok v' w')
    (h : K (a.put o.dst v') w') : Mix.mOp P ops i K a w := by
  refine Mix.op hi hwt ?_
  unfold execOp
  simp only [ho, resolve, invoke, builtin, Sem.run_bind, Sem.run_pure, Result.andThen_ok, List.map_toArray, List.map_cons, List.map_nil, hs, hx, hr, Mix.mUpon]
  exact h
theorem eqL6 (a b c d e f a' b' c' d' e' f' : Int) (w : World) : (Op.equalIn 10000 107 (.agg #[.int .i64 a, .int .i64 b, .int .i64 c, .int .i64 d, .int .i64 e, .int .i64 f]) (.agg #[.int .i64 a', .int .i64 b', .int .i64 c', .int .i64 d', .int .i64 e', .int .i64 f'])).run Try.prog w = .ok (a == a' && (b == b' && (c == c' && (d == d' && (e == e' && f == f'))))) w := by
  have u3 := Try.underlying2
  have a3' := Try.isAgg2
  have z3 := Try.sizeOf2
  have u4 := Try.underlying3
  have a4' := Try.isAgg3
  have z4 := Try.sizeOf3
  rw [show (10000 : Nat) = 9999 + 1 from rfl, Op.equalIn]
  simp only [Sem.run_bind, run_underlying Try.underlying107, Result.andThen_ok]
  go_simp
  by_cases h1 : a = a'
  · by_cases h2 : b = b'
    · by_cases h3 : c = c'
      · by_cases h4 : d = d'
        · by_cases h5 : e = e' <;> by_cases h6 : f = f' <;> simp [h1, h2, h3, h4, h5, h6]
        · simp [h1, h2, h3, h4]
      · simp [h1, h2, h3]
    · simp [h1, h2]
  · simp [h1]
/-- A slice of a whole block. -/
theorem rs_made {α : Type} {k : Nat} {enc : α → List Value} (hk : ∀ x, (enc x).length = k) {w : World} {b : Nat} {l : List α} {cap : Nat} {e : TypeId} {fz : Nat × Nat} (h : w.heap[b]? = some (.cells (l.flatMap enc).toArray e fz)) (hc : l.length ≤ cap) (hm : cap ≤ maxLen) :
    RS k enc w (.slice (some ⟨b, 0, none⟩) l.length cap) l := by
  refine ⟨_, cap, rfl, hc, hm, fun _ => ⟨b, 0, rfl, (Array.getElem?_eq_some_iff.1 h).1, fun i hi j u hu => ?_⟩⟩
  have hj : j < k := by
    have := (List.getElem?_eq_some_iff.1 hu).1
    rw [hk] at this; exact this
  have := flat_at hk l i hi j hj
  rw [hu] at this
  simp only [World.cell?, h, List.getElem?_toArray]
  rw [Nat.zero_add]; exact this
/-- A slice's first elements. -/
theorem rs_pre {α : Type} {k : Nat} {enc : α → List Value} {w : World} {a : Option Addr} {n cap m : Nat} {l : List α} (h : RS k enc w (.slice a n cap) l) (hm : m ≤ n) : RS k enc w (.slice a m cap) (l.take m) := by
  obtain ⟨a', cap', he, h1, h2, h3⟩ := h
  cases he
  have hl : (l.take m).length = m := by rw [List.length_take]; omega
  refine ⟨a, cap, by rw [hl], by rw [hl]; omega, h2, fun hn => ?_⟩
  obtain ⟨b, off, rfl, hb, hc⟩ := h3 (by intro e; rw [e] at hn; simp at hn)
  refine ⟨b, off, rfl, hb, fun i hi j u hu => ?_⟩
  rw [List.getElem_take] at hu
  exact hc i (by rw [hl] at hi; omega) j u hu
abbrev wps : List Pt := [(0, 0, 2)]
abbrev wv (p : Nat) : Value := .slice (some ⟨p, 0, none⟩) 1 1
abbrev we1 (p : Nat) : Ev := ⟨1, 0, 0, 1, wv p, wps⟩
abbrev we2 : Ev := ⟨3, 1, 0, 0, .slice none 0 0, []⟩
abbrev we3 (p : Nat) : Ev := ⟨6, 1, 1, 1, wv p, wps⟩
abbrev we4 (p : Nat) : Ev := ⟨8, 1, 1, 1, wv p, wps⟩
abbrev w30 (p : Nat) : List Ev := [we1 p, we2, we3 p, we4 p]
theorem w30_chk (p : Nat) : chk hs0 (w30 p) = (4, true) := by rfl
theorem w30_chk2 (p : Nat) : chk hs0 (w30 p ++ [we4 p]) = (4, false) := by rfl
theorem w30_lvs (p : Nat) : lvs (w30 p) 0 = [⟨1, 1, 1, 2, 3, 8⟩] := by rfl
theorem w30_opn (p : Nat) : opn (lvs ((w30 p).take 3) 0) = [1] := by rfl
end Go.Proofs.Ytennhfkhdfalfaa

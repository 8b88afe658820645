/- Slices that can be read: one element cut out. No program in it. -/
import Derived.Test.YtnckjacbkhoppaaRS
namespace Go.Proofs.Ytnckjacbkhoppaa
open Go.RowKit
section
variable {α : Type} {enc : α → List Value} {k : Nat} {w : World} {v : Value} {l : List α}
/-- v[i:i+1]. -/
theorem RS.one {P : Program} {T e : Nat} (h : RS k enc w v l) {i : Nat} {x : α} (hx : l[i]? = some x) {q : Int} (hq : q = ((i + 1 : Nat) : Int)) (ht : P.underlying T = some (.slice e)) {inf : TypeInfo} (hinf : P.info? e = some inf) (hsz : inf.size = k) :
    ∃ v', (∀ w0, (Instr.slice T v (some (.int .i64 (i : Int))) (some (.int .i64 q)) none).run P w0 = .ok v' w0) ∧ (∀ w0, RS k enc w0 v l → RS k enc w0 v' [x]) := by
  subst hq
  obtain ⟨a, cap, rfl, h1, h2, _⟩ := h
  have hil : i < l.length := (List.getElem?_eq_some_iff.1 hx).1
  have hi' : i + 1 ≤ cap := by omega
  have hi2 : i ≤ i + 1 := by omega
  refine ⟨.slice (if cap = i then a else a.map (·.add (i * k))) (i + 1 - i) (cap - i), fun w0 => ?_, fun w0 h0 => ?_⟩
  · simp [Instr.slice, Instr.sliceBounds, Instr.sliceBound, asIntOf, run_underlying ht, sizeOf, typeInfo, hinf, hsz, Result.andThen, hi', -Int.natCast_add]
  · obtain ⟨a', cap', e', _, _, h3⟩ := h0
    cases e'
    refine ⟨if cap = i then a else a.map (·.add (i * k)), cap - i, by simp, by simp; omega, by omega, fun hn => ?_⟩
    obtain ⟨b, off, rfl, hb, hc⟩ := h3 (by intro e; rw [e] at hil; simp at hil)
    refine ⟨b, off + i * k, ?_, hb, fun j hj j2 u hu => ?_⟩
    · rw [if_neg (by omega)]
      show some (Addr.add ⟨b, off, none⟩ (i * k)) = _
      by_cases h0 : i * k = 0
      · rw [h0]; simp [Addr.add]
      · simp [Addr.add, h0]
    · obtain rfl : j = 0 := by simpa using hj
      have hx2 : l[i] = x := (List.getElem?_eq_some_iff.1 hx).2
      have := hc i hil j2 u (by rw [hx2]; simpa using hu)
      rw [Nat.zero_mul, Nat.add_zero]
      exact this
end
end Go.Proofs.Ytnckjacbkhoppaa

/- Comparing strings: the walk's own spelling. No program in it. -/
import Derived.Test.YtlhljioncgddeaaDoorMeta
import Derived.WideShapes
namespace Go.Proofs.YtlhljioncgddeaaDoor
theorem streq (a b : ByteArray) : (a.toList == b.toList) = decide (a = b) := by
  rw [Bool.eq_iff_iff]
  simp only [beq_iff_eq, decide_eq_true_eq]
  constructor
  · intro h
    apply Go.WideShapes.bytes_inj
    rw [← ByteArray.toList_eq, ← ByteArray.toList_eq]; exact h
  · rintro rfl; rfl
theorem strneq (a b : ByteArray) : (a.toList != b.toList) = !decide (a = b) := by rw [bne, streq]
theorem streq_no {a b : ByteArray} (h : a ≠ b) : (a.toList == b.toList) = false := by rw [streq, decide_eq_false h]
theorem streq_yes {a b : ByteArray} (h : a = b) : (a.toList == b.toList) = true := by rw [streq, decide_eq_true h]
theorem strneq_no {a b : ByteArray} (h : a ≠ b) : (a.toList != b.toList) = true := by rw [strneq, decide_eq_false h]; rfl
theorem strneq_yes {a b : ByteArray} (h : a = b) : (a.toList != b.toList) = false := by rw [strneq, decide_eq_true h]; rfl
end Go.Proofs.YtlhljioncgddeaaDoor

/- Contracts of strings.Cut at one letter, strings.TrimSuffix, strconv.Atoi and strconv.ParseInt at every string. Condition: the error values lie in their variables. -/
import Derived.Test.YtlhljioncgddeaaDoorOn
import Derived.Test.YtlhljioncgddeaaDoorLib2
import Derived.Stop.LaidErr
import Derived.Lib.AtoiErrMem
import Derived.Test.YtlhljioncgddeaaDoorStr
namespace Go.Proofs.YtlhljioncgddeaaDoor
open Go.RowKit
attribute [local go_sem] ext_cell ext_frozen Mix.calmUpon Mix.mUpon
/-- The error values lie in their variables. -/
def EV (w : World) : Prop := (∃ tp p, w.var? Tryd.prog "strconv.ErrSyntax" = some #[.iface tp p]) ∧ (∃ tp p, w.var? Tryd.prog "strconv.ErrRange" = some #[.iface tp p])
theorem var_grow {n : String} {cs : Array Value} {w w' : World} (h : w.var? Tryd.prog n = some cs) (hb : Below w.heap.size w w') : w'.var? Tryd.prog n = some cs := by
  unfold World.var? at *
  cases hg : Tryd.prog.globalNamed n with
  | none => simp [hg] at h
  | some g =>
    simp only [hg, Option.bind_some] at h ⊢
    have hlt : g < w.heap.size := by
      rcases Nat.lt_or_ge g w.heap.size with h' | h'
      · exact h'
      · rw [Array.getElem?_eq_none h'] at h; simp at h
    rw [hb.block g hlt]
    exact h
theorem clo_EV : Clo EV := fun _ _ ⟨⟨t1, p1, h1⟩, ⟨t2, p2, h2⟩⟩ hb => ⟨⟨t1, p1, var_grow h1 hb⟩, ⟨t2, p2, var_grow h2 hb⟩⟩
theorem EV.on {W w : World} (h : EV W) (hb : Below W.heap.size W w) : EV w := clo_EV _ _ h hb
/-- What Atoi answers beside its error. -/
def atoiV (l : List UInt8) : Int := match Lib.atoiAll l with
  | .ok v => v
  | .range => Lib.atoiSat l
  | _ => 0
def parseV (l : List UInt8) : Int := match Lib.parseIntB 64 l with
  | .ok v => v
  | .range => Lib.intSat 64 l
  | _ => 0
def isOk {α : Type} : Lib.NumEnd α → Bool
  | .ok _ => true
  | _ => false
theorem below_bytes (w : World) (t : ByteArray) : Below w.heap.size w (Lib.bytesWorld w 5 t) := Lib.bytesWorld_below w _ t
/-- An error value is not nil just if the text is no number. -/
theorem parse_any (s : ByteArray) (hs : s.size ≤ 281474976710656) (w : World) (hw : EV w) :
    Calls Tryd.prog 74 #[.string s, .int .i64 10, .int .i64 64] w fun e w' => ∃ x, e = .returned (.tuple #[.int .i64 (parseV s.data.toList), x]) ∧ (if isOk (Lib.parseIntB 64 s.data.toList) then x = .nilIface else ∃ tp a, x = .iface tp (.pointer (some a))) ∧ Below w.heap.size w w' := by
  unfold parseV
  cases h : Lib.parseIntB 64 s.data.toList with
  | ok v =>
    refine (Lb.Tryd.strconv_ParseInt_10_at64_ok s (by omega) v h w).mono ?_
    rintro e w' ⟨he, hw'⟩
    refine ⟨_, he, by simp [isOk], ?_⟩
    rcases hw' with rfl | ⟨t, rfl⟩
    · exact Below.refl _ _
    · exact below_bytes w _
  | range =>
    obtain ⟨_, ⟨tp, p, hv⟩⟩ := hw
    refine (Lb.Tryd.strconv_ParseInt_10_at64_range_var s hs h tp p w hv).mono ?_
    rintro e w' ⟨N, he, _, _, hb⟩
    exact ⟨_, he, by simp [isOk], hb⟩
  | _ =>
    obtain ⟨⟨tp, p, hv⟩, _⟩ := hw
    refine (Go.Proofs.Any.strconv_ParseInt_10_at64_syntax_var Lb.Tryd.laysC174 s hs h tp p w hv).mono ?_
    rintro e w' ⟨N, he, _, _, hb⟩
    exact ⟨_, he, by simp [isOk], hb⟩
theorem indexByte_lt (l : List UInt8) (c : UInt8) : -1 ≤ Lib.indexByte l c ∧ Lib.indexByte l c < l.length := by
  induction l with
  | nil => exact ⟨Int.le_refl _, by simp [Lib.indexByte]⟩
  | cons b l ih =>
    unfold Lib.indexByte
    split
    · simp only [List.length_cons]; omega
    · split
      · simp only [List.length_cons]; omega
      · simp only [List.length_cons]; omega
/-- What stands before a letter, and behind it. -/
def cutA (c : UInt8) (s : ByteArray) : ByteArray := if 0 ≤ Lib.indexByte s.data.toList c then s.extract 0 (Lib.indexByte s.data.toList c).toNat else s
def cutB (c : UInt8) (s : ByteArray) : ByteArray := if 0 ≤ Lib.indexByte s.data.toList c then s.extract ((Lib.indexByte s.data.toList c).toNat + 1) s.size else ⟨#[]⟩
theorem index_one (s : ByteArray) (c : UInt8) : Pure Tryd.prog 116 #[.string s, .string ⟨#[c]⟩] (.int .i64 (Lib.indexByte s.data.toList c)) := fun w =>
  (Lb.Tryd.stringslite_Index_one s c w).mono fun _ _ ⟨he, hw⟩ => ⟨he, by rw [hw]; exact Below.refl _ _⟩
end Go.Proofs.YtlhljioncgddeaaDoor

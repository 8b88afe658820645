/- Contracts of strings.Cut at one letter, strings.TrimSuffix, strconv.Atoi and strconv.ParseInt at every string. Condition: the error values lie in their variables. -/
import Derived.Test.YtfnfolpdbbnnlaaDoorOn
import Derived.Test.YtfnfolpdbbnnlaaDoorLib2
import Derived.Stop.LaidErr
import Derived.Lib.AtoiErrMem
import Derived.Test.YtfnfolpdbbnnlaaDoorStr
namespace Go.Proofs.YtfnfolpdbbnnlaaDoor
open Go.RowKit
attribute [local go_sem] ext_cell ext_frozen Mix.calmUpon Mix.mUpon
/-- The error values lie in their variables. -/
def EV (w : World) : Prop := (∃ tp p, w.var? Tryd.prog "strconv.ErrSyntax" = some #[.iface tp p]) ∧ (∃ tp p, w.var? Tryd.prog "strconv.ErrRange" = some #[.iface tp p])
theorem var_grow {n : String} {cs : Array Value} {w w' : World} (h : w.var? Tryd.prog n = some cs) (hb : Below w.heap.size w w') : w'.var? Tryd.prog n = some cs := by
  unfold World.var? at *
  cases hg : Tryd.prog.globalNamed n with
  | none => simp [hg] at h
  | some g =>
    simp only [hg, Option.bind_some] at h ⊢
    have hlt : g < w.heap.size := by
      rcases Nat.lt_or_ge g w.heap.size with h' | h'
      · exact h'
      · rw [Array.getElem?_eq_none h'] at h; simp at h
    rw [hb.block g hlt]
    exact h
theorem clo_EV : Clo EV := fun _ _ ⟨⟨t1, p1, h1⟩, ⟨t2, p2, h2⟩⟩ hb => ⟨⟨t1, p1, var_grow h1 hb⟩, ⟨t2, p2, var_grow h2 hb⟩⟩
theorem EV.on {W w : World} (h : EV W) (hb : Below W.heap.size W w) : EV w := clo_EV _ _ h hb
/-- What Atoi answers beside its error. -/
def atoiV (l : List UInt8) : Int := match Lib.atoiAll l with
  | .ok v => v
  | .range => Lib.atoiSat l
  | _ => 0
def parseV (l : List UInt8) : Int := match Lib.parseIntB 64 l with
  | .ok v => v
  | .range => Lib.intSat 64 l
  | _ => 0
def isOk {α : Type} : Lib.NumEnd α → Bool
  | .ok _ => true
  | _ => false
theorem below_bytes (w : World) (t : ByteArray) : Below w.heap.size w (Lib.bytesWorld w 5 t) := Lib.bytesWorld_below w _ t
theorem atoi_any (s : ByteArray) (hs : s.size ≤ 281474976710656) (w : World) (hw : EV w) :
    Calls Tryd.prog 66 #[.string s] w fun e w' => ∃ x, e = .returned (.tuple #[.int .i64 (atoiV s.data.toList), x]) ∧ Below w.heap.size w w' := by
  unfold atoiV
  cases h : Lib.atoiAll s.data.toList with
  | ok v =>
    refine (Lb.Tryd.strconv_Atoi_ok s (by omega) v h w).mono ?_
    rintro e w' ⟨he, hw'⟩
    refine ⟨_, he, ?_⟩
    rcases hw' with rfl | ⟨t, rfl⟩
    · exact Below.refl _ _
    · exact below_bytes w _
  | range =>
    obtain ⟨_, ⟨tp, p, hv⟩⟩ := hw
    refine (Lb.Tryd.strconv_Atoi_range_var s hs h tp p w hv).mono ?_
    rintro e w' ⟨N, he, _, _, hb⟩
    exact ⟨_, he, hb⟩
  | _ =>
    obtain ⟨⟨tp, p, hv⟩, _⟩ := hw
    refine (Go.Proofs.Any.strconv_Atoi_syntax_var Lb.Tryd.laysC172 s hs h tp p w hv).mono ?_
    rintro e w' ⟨N, he, _, _, hb⟩
    exact ⟨_, he, hb⟩
/-- An error value is not nil just if the text is no number. -/
theorem parse_any (s : ByteArray) (hs : s.size ≤ 281474976710656) (w : World) (hw : EV w) :
    Calls Tryd.prog 78 #[.string s, .int .i64 10, .int .i64 64] w fun e w' => ∃ x, e = .returned (.tuple #[.int .i64 (parseV s.data.toList), x]) ∧ (if isOk (Lib.parseIntB 64 s.data.toList) then x = .nilIface else ∃ tp a, x = .iface tp (.pointer (some a))) ∧ Below w.heap.size w w' := by
  unfold parseV
  cases h : Lib.parseIntB 64 s.data.toList with
  | ok v =>
    refine (Lb.Tryd.strconv_ParseInt_10_at64_ok s (by omega) v h w).mono ?_
    rintro e w' ⟨he, hw'⟩
    refine ⟨_, he, by simp [isOk], ?_⟩
    rcases hw' with rfl | ⟨t, rfl⟩
    · exact Below.refl _ _
    · exact below_bytes w _
  | range =>
    obtain ⟨_, ⟨tp, p, hv⟩⟩ := hw
    refine (Lb.Tryd.strconv_ParseInt_10_at64_range_var s hs h tp p w hv).mono ?_
    rintro e w' ⟨N, he, _, _, hb⟩
    exact ⟨_, he, by simp [isOk], hb⟩
  | _ =>
    obtain ⟨⟨tp, p, hv⟩, _⟩ := hw
    refine (Go.Proofs.Any.strconv_ParseInt_10_at64_syntax_var Lb.Tryd.laysC174 s hs h tp p w hv).mono ?_
    rintro e w' ⟨N, he, _, _, hb⟩
    exact ⟨_, he, by simp [isOk], hb⟩
theorem indexByte_lt (l : List UInt8) (c : UInt8) : -1 ≤ Lib.indexByte l c ∧ Lib.indexByte l c < l.length := by
  induction l with
  | nil => exact ⟨Int.le_refl _, by simp [Lib.indexByte]⟩
  | cons b l ih =>
    unfold Lib.indexByte
    split
    · simp only [List.length_cons]; omega
    · split
      · simp only [List.length_cons]; omega
      · simp only [List.length_cons]; omega
/-- What stands before a letter, and behind it. -/
def cutA (c : UInt8) (s : ByteArray) : ByteArray := if 0 ≤ Lib.indexByte s.data.toList c then s.extract 0 (Lib.indexByte s.data.toList c).toNat else s
def cutB (c : UInt8) (s : ByteArray) : ByteArray := if 0 ≤ Lib.indexByte s.data.toList c then s.extract ((Lib.indexByte s.data.toList c).toNat + 1) s.size else ⟨#[]⟩
theorem index_one (s : ByteArray) (c : UInt8) : Pure Tryd.prog 95 #[.string s, .string ⟨#[c]⟩] (.int .i64 (Lib.indexByte s.data.toList c)) := fun w =>
  (Lb.Tryd.stringslite_Index_one s c w).mono fun _ _ ⟨he, hw⟩ => ⟨he, by rw [hw]; exact Below.refl _ _⟩
theorem lcut_one (s : ByteArray) (hs : s.size ≤ maxLen) (c : UInt8) : Pure Tryd.prog 77 #[.string s, .string ⟨#[c]⟩] (.tuple #[.string (cutA c s), .string (cutB c s), .bool (decide (0 ≤ Lib.indexByte s.data.toList c))]) := by
  intro W
  unfold maxLen at hs
  have HI := Lib.hid (index_one s c)
  obtain ⟨h1, h2⟩ := indexByte_lt s.data.toList c
  have h2 : Lib.indexByte s.data.toList c < s.size := by rw [show s.size = s.data.toList.length from rfl]; exact h2
  unfold cutA cutB
  generalize Lib.indexByte s.data.toList c = i at *
  by_cases h : 0 ≤ i
  · rw [if_pos h, if_pos h, decide_eq_true h]
    obtain ⟨n, rfl⟩ := Int.eq_ofNat_of_zero_le h
    rw [Int.toNat_natCast]
    have hn : n < s.size := by omega
    have hw1 : IntKind.i64.wrap ((n : Int) + 1) = (n : Int) + 1 := IntWalk.i64_in _ (by omega)
    clear h h1
    go_enter Tryd.func77, Tryd.ntmps77
    go_wp2_with fail
    (with_reducible refine (HI.out _).mono ?_)
    rintro e w1 ⟨rfl, hb1⟩
    have hs1 : W.heap.size + 0 ≤ w1.heap.size := (by have h := hb1.size; first | omega | (simp at h; omega))
    obtain ⟨hc1, hf1, hl1⟩ := bcell hb1
    clear hl1
    go_wp2
    go_quiet (fail)
    go_wp2
    go_ret3
    refine ⟨rfl, ?_⟩
    (repeat (first | assumption | exact Below.refl _ _ | refine ba ?_ _ | refine bd ?_ | refine bdn ?_ _ | refine bs ?_ (by first | omega | (simp; done) | (simp; omega)) _ | refine bt ?_ (by assumption)))
  · rw [if_neg h, if_neg h, decide_eq_false h]
    have h3 : i < 0 := by omega
    clear h
    go_enter Tryd.func77, Tryd.ntmps77
    go_wp2_with fail
    (with_reducible refine (HI.out _).mono ?_)
    rintro e w1 ⟨rfl, hb1⟩
    have hs1 : W.heap.size + 0 ≤ w1.heap.size := (by have h := hb1.size; first | omega | (simp at h; omega))
    obtain ⟨hc1, hf1, hl1⟩ := bcell hb1
    clear hl1
    go_wp2
    go_ret3
    refine ⟨rfl, ?_⟩
    (repeat (first | assumption | exact Below.refl _ _ | refine ba ?_ _ | refine bd ?_ | refine bdn ?_ _ | refine bs ?_ (by first | omega | (simp; done) | (simp; omega)) _ | refine bt ?_ (by assumption)))
theorem cut_one (s : ByteArray) (hs : s.size ≤ maxLen) (c : UInt8) : Pure Tryd.prog 54 #[.string s, .string ⟨#[c]⟩] (.tuple #[.string (cutA c s), .string (cutB c s), .bool (decide (0 ≤ Lib.indexByte s.data.toList c))]) := by
  intro W
  have HI := Lib.hid (lcut_one s hs c)
  go_enter Tryd.func54, Tryd.ntmps54
  go_wp2_with fail
  (with_reducible refine (HI.out _).mono ?_)
  rintro e w1 ⟨rfl, hb1⟩
  have hs1 : W.heap.size + 0 ≤ w1.heap.size := (by have h := hb1.size; first | omega | (simp at h; omega))
  obtain ⟨hc1, hf1, hl1⟩ := bcell hb1
  clear hl1
  go_wp2
  go_ret3
  refine ⟨rfl, ?_⟩
  (repeat (first | assumption | exact Below.refl _ _ | refine ba ?_ _ | refine bd ?_ | refine bdn ?_ _ | refine bs ?_ (by first | omega | (simp; done) | (simp; omega)) _ | refine bt ?_ (by assumption)))
theorem trims_one (s p : ByteArray) (hs : s.size ≤ 9223372036854775807) : Pure Tryd.prog 67 #[.string s, .string p] (.string ⟨(Lib.trimSuffix s.data.toList p.data.toList).toArray⟩) := fun w =>
  (Lb.Tryd.strings_TrimSuffix s p w hs).mono fun _ _ ⟨he, hw⟩ => ⟨he, by rw [hw]; exact Below.refl _ _⟩
end Go.Proofs.YtfnfolpdbbnnlaaDoor

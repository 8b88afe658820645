/- The names of the kinds lie in their variable; contracts of slot.Name, slot.kinds, slot.Kind. -/
import Derived.Test.YtfnfolpdbbnnlaaDoorSlot1
import Derived.Test.YtfnfolpdbbnnlaaDoorOn
import Derived.Maps.Own
import Derived.Maps.OwnOps
import Derived.Maps.OwnSet
import Derived.Maps.Views
namespace Go.Proofs.YtfnfolpdbbnnlaaDoor
open Go.RowKit Go.Maps Go.WideMaps
attribute [local go_sem] ext_cell ext_frozen Mix.calmUpon Mix.mUpon
/-- The four names. -/
def nmS : Nat → ByteArray
  | 0 => ⟨#[99, 112, 117, 115]⟩ | 1 => ⟨#[109, 101, 109]⟩ | 2 => ⟨#[100, 105, 115, 107]⟩ | _ => ⟨#[103, 112, 117, 115]⟩
/-- The names lie in their variable. -/
def N4 (w : World) : Prop := w.var? Tryd.prog "manciple/slot.names" = some #[.string (nmS 0), .string (nmS 1), .string (nmS 2), .string (nmS 3)]
theorem gN4 : Tryd.prog.globalNamed "manciple/slot.names" = some 0 := by kernel_rfl
theorem clo_N4 : Clo N4 := fun w w' h hb => by
  unfold N4 World.var? at *
  rw [gN4] at *
  simp only [Option.bind_some] at h ⊢
  have hlt : 0 < w.heap.size := by
    rcases Nat.lt_or_ge 0 w.heap.size with h' | h'
    · exact h'
    · rw [Array.getElem?_eq_none h'] at h; simp at h
  rw [hb.block _ hlt]
  exact h
theorem N4.on {W w : World} (h : N4 W) (hb : Below W.heap.size W w) : N4 w := clo_N4 _ _ h hb
theorem N4.cells {w : World} (h : N4 w) : w.cell? ⟨0, 0, none⟩ = some (.string (nmS 0)) ∧ w.cell? ⟨0, 1, none⟩ = some (.string (nmS 1)) ∧ w.cell? ⟨0, 2, none⟩ = some (.string (nmS 2)) ∧ w.cell? ⟨0, 3, none⟩ = some (.string (nmS 3)) :=
  ⟨World.var?_cell gN4 h 0, World.var?_cell gN4 h 1, World.var?_cell gN4 h 2, World.var?_cell gN4 h 3⟩
theorem N4.lt {w : World} (h : N4 w) : 0 < w.heap.size := by
  unfold N4 World.var? at h
  rw [gN4] at h
  simp only [Option.bind_some] at h
  rcases Nat.lt_or_ge 0 w.heap.size with h' | h'
  · exact h'
  · rw [Array.getElem?_eq_none h'] at h; simp at h
/-- A kind's name. -/
def nameOf (k : Int) : ByteArray := if 0 ≤ k ∧ k < 4 then nmS k.toNat else ⟨#[]⟩
theorem slotname_any (k : Int) : PureOn N4 Tryd.prog 36 #[.int .i64 k] (.string (nameOf k)) := by
  intro W hN
  obtain ⟨n0, n1, n2, n3⟩ := hN.cells
  by_cases h0 : k < 0
  · have hr : nameOf k = ⟨#[]⟩ := if_neg (by omega)
    rw [hr]
    go_enter Tryd.func36, Tryd.ntmps36
    go_wp2
    go_ret
    refine ⟨rfl, ?_⟩
    (repeat (first | assumption | exact Below.refl _ _ | refine ba ?_ _ | refine bd ?_ | refine bdn ?_ _ | refine bs ?_ (by first | omega | (simp; done) | (simp; omega)) _ | refine bt ?_ (by assumption)))
  · by_cases h1 : 4 ≤ k
    · have hr : nameOf k = ⟨#[]⟩ := if_neg (by omega)
      rw [hr]
      go_enter Tryd.func36, Tryd.ntmps36
      go_wp2
      go_ret
      refine ⟨rfl, ?_⟩
      (repeat (first | assumption | exact Below.refl _ _ | refine ba ?_ _ | refine bd ?_ | refine bdn ?_ _ | refine bs ?_ (by first | omega | (simp; done) | (simp; omega)) _ | refine bt ?_ (by assumption)))
    · have : k = 0 ∨ k = 1 ∨ k = 2 ∨ k = 3 := by omega
      clear h0 h1 hN
      rcases this with rfl | rfl | rfl | rfl
      · have hr : nameOf 0 = nmS 0 := rfl
        rw [hr]
        go_enter Tryd.func36, Tryd.ntmps36
        go_wp2
        go_ret
        refine ⟨rfl, ?_⟩
        (repeat (first | assumption | exact Below.refl _ _ | refine ba ?_ _ | refine bd ?_ | refine bdn ?_ _ | refine bs ?_ (by first | omega | (simp; done) | (simp; omega)) _ | refine bt ?_ (by assumption)))
      · have hr : nameOf 1 = nmS 1 := rfl
        rw [hr]
        go_enter Tryd.func36, Tryd.ntmps36
        go_wp2
        go_ret
        refine ⟨rfl, ?_⟩
        (repeat (first | assumption | exact Below.refl _ _ | refine ba ?_ _ | refine bd ?_ | refine bdn ?_ _ | refine bs ?_ (by first | omega | (simp; done) | (simp; omega)) _ | refine bt ?_ (by assumption)))
      · have hr : nameOf 2 = nmS 2 := rfl
        rw [hr]
        go_enter Tryd.func36, Tryd.ntmps36
        go_wp2
        go_ret
        refine ⟨rfl, ?_⟩
        (repeat (first | assumption | exact Below.refl _ _ | refine ba ?_ _ | refine bd ?_ | refine bdn ?_ _ | refine bs ?_ (by first | omega | (simp; done) | (simp; omega)) _ | refine bt ?_ (by assumption)))
      · have hr : nameOf 3 = nmS 3 := rfl
        rw [hr]
        go_enter Tryd.func36, Tryd.ntmps36
        go_wp2
        go_ret
        refine ⟨rfl, ?_⟩
        (repeat (first | assumption | exact Below.refl _ _ | refine ba ?_ _ | refine bd ?_ | refine bdn ?_ _ | refine bs ?_ (by first | omega | (simp; done) | (simp; omega)) _ | refine bt ?_ (by assumption)))
theorem lawStr : Keyed Tryd.prog 9 := string_keyed Tryd.underlying9
theorem zeroInt (w : World) : (zeroValue 3).run Tryd.prog w = .ok (.int .i64 0) w := by kernel_rfl
/-- A name, as a key. -/
def nmK (k : Nat) : Lit := .string (nmS k).data.toList
theorem nmKey (k : Nat) : keyOf Tryd.prog 9 (.string (nmS k)) = some (nmK k) := keyOf_string_mk Tryd.underlying9 (by
  have : (nmS k).size ≤ 4 := by unfold nmS; split <;> decide
  unfold maxLen; omega)
/-- The map of the first k names. -/
def KM : Nat → DataW Unit
  | 0 => .map []
  | k + 1 => (KM k).put (nmK k) (.lit (.int .i64 (k : Int)))
abbrev OwnK (W wr : World) (k : Nat) : Prop := wr.ownsMap (H := Unit) Tryd.prog 9 (plainElem Tryd.prog 3) W.heap.size k (KM k)
theorem makeKinds (w : World) : (Instr.makeMap 91 (some (.int .i64 4))).run Tryd.prog w = .ok (.map (some w.heap.size)) (w.alloc (.map #[] 0)) := by kernel_rfl
set_option maxRecDepth 100000 in
theorem kinds_any (W : World) (hN : N4 W) : Calls Tryd.prog 64 #[] W fun e w' => e = .returned (.map (some W.heap.size)) ∧ OwnK W w' 4 ∧ Below W.heap.size W w' := by
  have hmm := makeKinds
  have hlt := hN.lt
  obtain ⟨n0, n1, n2, n3⟩ := hN.cells
  have HC : Hid (∀ k, k < 4 → W.cell? ⟨0, k, none⟩ = some (.string (nmS k))) := Lib.hid (fun k hk => by
    have : k = 0 ∨ k = 1 ∨ k = 2 ∨ k = 3 := by omega
    rcases this with rfl | rfl | rfl | rfl <;> assumption)
  clear n0 n1 n2 n3 hN
  go_enter Tryd.func64, Tryd.ntmps64
  go_wp2
  go_loopw [4] (fun i wr => ∃ k : Nat, k ≤ 4 ∧ i = .int .i64 k ∧ OwnK W wr k ∧ Below W.heap.size W wr) (fun i _ => 4 - (intOf i).toNat)
  case atStart => exact ⟨0, by omega, rfl, World.ownsMap_made _ _ _ _, (Below.refl _ _).alloc (Nat.le_refl _) _⟩
  case round =>
    obtain ⟨k, hk, rfl, hown, hb⟩ := hrel
    by_cases hlt4 : k < 4
    · have hcx : wr.cell? ⟨0, k, none⟩ = some (.string (nmS k)) := (hb.cell (p := ⟨0, k, none⟩) hlt).trans (HC.out k hlt4)
      go_wp2_with (first
        | (at_mapUpdate; refine wpList_mapUpdate_own _ rfl _ _ _ 91 rfl 9 3 lawStr Tryd.underlying91 _ W.heap.size k _ rfl hown (by unfold maxLen; omega) _ _ _ rfl rfl (nmKey k) _ [] (plainElem_int Tryd.underlying3 (WalkArith.wf_i64 (by omega))) ?_; intro w1 hown1 hgrow1))
      go_roundw
      case rel => exact ⟨k + 1, by omega, by go_num, hown1, hb.grown hgrow1 hb.size (fun j hj => by cases hj; exact Nat.le_refl _)⟩
      case measure => simp [intOf]; omega
    · obtain rfl : k = 4 := by omega
      go_wp2
      go_ret
      exact ⟨rfl, hown, hb⟩
/-- The kind that a name has; has it one? -/
def kI (s : ByteArray) : Int := if s = nmS 3 then 3 else if s = nmS 2 then 2 else if s = nmS 1 then 1 else 0
def kB (s : ByteArray) : Bool := decide (s = nmS 0 ∨ s = nmS 1 ∨ s = nmS 2 ∨ s = nmS 3)
theorem nmK_ne {s : ByteArray} {k : Nat} (h : s ≠ nmS k) : Lit.string s.data.toList ≠ nmK k := fun he => h (by
  unfold nmK at he
  injection he with he
  apply Go.WideShapes.bytes_inj
  exact he)
theorem KM_isMap : ∀ k, IsMap (KM k)
  | 0 => isMap_empty
  | k + 1 => (KM_isMap k).put _ _
theorem nmK_key (k : Nat) : WideAt.IsKeyLit (nmK k) := by unfold nmK; trivial
theorem KM_at (s : ByteArray) : (KM 4).atKey (.string s.data.toList) (.lit (.int .i64 0)) = .lit (.int .i64 (kI s)) := by
  have E : ∀ k, nmK k = .string (nmS k).data.toList := fun _ => rfl
  unfold kI
  by_cases h3 : s = nmS 3
  · rw [if_pos h3, h3, ← E]; exact atKey_put_same (KM_isMap 3) (nmK_key 3) _ _
  rw [if_neg h3]
  rw [show KM 4 = (KM 3).put (nmK 3) (.lit (.int .i64 (3 : Int))) from rfl, atKey_put_other (nmK_ne h3)]
  by_cases h2 : s = nmS 2
  · rw [if_pos h2, h2, ← E]; exact atKey_put_same (KM_isMap 2) (nmK_key 2) _ _
  rw [if_neg h2]
  rw [show KM 3 = (KM 2).put (nmK 2) (.lit (.int .i64 (2 : Int))) from rfl, atKey_put_other (nmK_ne h2)]
  by_cases h1 : s = nmS 1
  · rw [if_pos h1, h1, ← E]; exact atKey_put_same (KM_isMap 1) (nmK_key 1) _ _
  rw [if_neg h1]
  rw [show KM 2 = (KM 1).put (nmK 1) (.lit (.int .i64 (1 : Int))) from rfl, atKey_put_other (nmK_ne h1)]
  by_cases h0 : s = nmS 0
  · rw [h0, ← E]; exact atKey_put_same (KM_isMap 0) (nmK_key 0) _ _
  rw [show KM 1 = (KM 0).put (nmK 0) (.lit (.int .i64 (0 : Int))) from rfl, atKey_put_other (nmK_ne h0)]
  rfl
theorem KM_has (s : ByteArray) : Maps.has (KM 4) (.string s.data.toList) = kB s := by
  have E : ∀ k, nmK k = .string (nmS k).data.toList := fun _ => rfl
  unfold kB
  by_cases h3 : s = nmS 3
  · rw [decide_eq_true (.inr (.inr (.inr h3))), h3, ← E]; exact has_put_same (KM_isMap 3) (nmK_key 3) _
  rw [show KM 4 = (KM 3).put (nmK 3) (.lit (.int .i64 (3 : Int))) from rfl, has_put_other (nmK_ne h3)]
  by_cases h2 : s = nmS 2
  · rw [decide_eq_true (.inr (.inr (.inl h2))), h2, ← E]; exact has_put_same (KM_isMap 2) (nmK_key 2) _
  rw [show KM 3 = (KM 2).put (nmK 2) (.lit (.int .i64 (2 : Int))) from rfl, has_put_other (nmK_ne h2)]
  by_cases h1 : s = nmS 1
  · rw [decide_eq_true (.inr (.inl h1)), h1, ← E]; exact has_put_same (KM_isMap 1) (nmK_key 1) _
  rw [show KM 2 = (KM 1).put (nmK 1) (.lit (.int .i64 (1 : Int))) from rfl, has_put_other (nmK_ne h1)]
  by_cases h0 : s = nmS 0
  · rw [decide_eq_true (.inl h0), h0, ← E]; exact has_put_same (KM_isMap 0) (nmK_key 0) _
  rw [show KM 1 = (KM 0).put (nmK 0) (.lit (.int .i64 (0 : Int))) from rfl, has_put_other (nmK_ne h0)]
  rw [decide_eq_false (fun h => by rcases h with h | h | h | h <;> contradiction)]
  rfl
set_option maxRecDepth 100000 in
theorem kind_any (s : ByteArray) (hs : s.size ≤ maxLen) : PureOn N4 Tryd.prog 30 #[.string s] (.tuple #[.int .i64 (kI s), .bool (kB s)]) := by
  intro W hN
  have HN := Lib.hid hN
  have hkey : keyOf Tryd.prog 9 (.string s) = some (.string s.data.toList) := keyOf_string_mk Tryd.underlying9 hs
  have HK := Lib.hid hkey
  clear hN hkey
  go_enter Tryd.func30, Tryd.ntmps30
  go_wp2_with fail
  refine (kinds_any W HN.out).mono ?_
  rintro e w1 ⟨rfl, hown, hb⟩
  have HO := Lib.hid hown
  clear hown
  go_wp2_with (at_lookup; refine wpList_lookup_own_ok_int _ rfl _ _ 91 rfl 9 3 .i64 lawStr Tryd.underlying91 Tryd.underlying3 (zeroInt _) W.heap.size 4 _ rfl HO.out _ _ rfl HK.out ?_; intro c hat hwc; have hci : c = kI s := (by rw [KM_at] at hat; injection hat with hat; injection hat with _ hat; exact hat.symm); subst hci; rw [KM_has]; clear hat hwc)
  go_ret2
  exact ⟨rfl, hb⟩
end Go.Proofs.YtfnfolpdbbnnlaaDoor

/- Maps of the call's own, told by a function from keys to what is there. No program in it. -/
import Derived.Test.YtennhfkhdfalfaaChg
namespace Go.Proofs.Ytennhfkhdfalfaa
open Go.RowKit Go.MapKept Go.Maps
open Go.ChangeMaps (setBlock)
section
variable {P : Program} {k : TypeId} {κ α : Type} [DecidableEq κ] {E : KEnc P k κ} {w w' : World} {b : Nat} {f : κ → Option α} {enc : α → Value}
/-- Block b is a map that has at each key what f says. -/
def MapF (E : KEnc P k κ) (w : World) (b : Nat) (f : κ → Option α) (enc : α → Value) : Prop := ∃ L, MapK E w b L ∧ ∀ x, L.lookup x = (f x).map enc
/-- Told otherwise at one key. -/
def upd (f : κ → Option α) (x : κ) (v : Option α) : κ → Option α := fun y => if y = x then v else f y
theorem MapF.lt (h : MapF E w b f enc) : b < w.heap.size := by obtain ⟨L, h, _⟩ := h; exact h.lt
theorem MapF.chg {G : Nat → Prop} (h : MapF E w b f enc) (hc : Chg G w w') (hf : ¬ G b) : MapF E w' b f enc := by obtain ⟨L, h, hl⟩ := h; exact ⟨L, h.chg hc hf, hl⟩
theorem MapF.made (w : World) : MapF E (w.alloc (.map #[] 0)) w.heap.size (fun _ => none) enc := ⟨[], MapK.made w, fun _ => rfl⟩
theorem MapF.look (h : MapF E w b f enc) (K : Keyed P k) {t e : TypeId} (ht : P.underlying t = some (.map k e)) {z : Value} (hz : (zeroValue e).run P w = .ok z w) {x : κ} (hx : E.ok x) (c : Bool) :
    (Instr.lookup t (.map (some b)) (E.enc x) c).run P w = .ok (if c then .tuple #[((f x).map enc).getD z, .bool (f x).isSome] else ((f x).map enc).getD z) w := by
  obtain ⟨L, h, hl⟩ := h
  have := h.look K ht hz hx c
  rw [hl, show ((f x).map enc).isSome = (f x).isSome by simp] at this
  exact this
theorem MapF.store (h : MapF E w b f enc) (K : Keyed P k) {t e : TypeId} (ht : P.underlying t = some (.map k e)) {x : κ} (hx : E.ok x) (v : α) :
    ∃ w', (Instr.mapUpdate t (.map (some b)) (E.enc x) (enc v)).run P w = .ok () w' ∧ MapF E w' b (upd f x (some v)) enc ∧ Chg (fun k => k = b) w w' := by
  obtain ⟨L, h, hl⟩ := h
  obtain ⟨o, h1, h2⟩ := h.store K ht hx (enc v)
  refine ⟨_, h1, ⟨_, h2, fun y => ?_⟩, .of_grown (grown_setBlock w b o) fun k e => by cases e; rfl⟩
  rw [look_mput]; unfold upd
  split
  · rfl
  · exact hl y
theorem MapF.drop (h : MapF E w b f enc) (K : Keyed P k) {t e : TypeId} (ht : P.underlying t = some (.map k e)) (ty : TypeId) {x : κ} (hx : E.ok x) :
    ∃ w', (Builtin.delete_ #[t, k] ty #[.map (some b), E.enc x]).run P w = .ok (.tuple #[]) w' ∧ MapF E w' b (upd f x none) enc ∧ Chg (fun k => k = b) w w' := by
  obtain ⟨L, h, hl⟩ := h
  obtain ⟨o, h1, h2⟩ := h.drop K ht ty hx
  refine ⟨_, h1, ⟨_, h2, fun y => ?_⟩, .of_grown (grown_setBlock w b o) fun k e => by cases e; rfl⟩
  rw [look_mdel]; unfold upd
  split
  · rfl
  · exact hl y
end
end Go.Proofs.Ytennhfkhdfalfaa

/- offers: the table in memory. -/
import Derived.Test.YtnckjacbkhoppaaOs2
import Derived.Test.YtnckjacbkhoppaaSrt
import Derived.Test.YtnckjacbkhoppaaVecCp
namespace Go.Proofs.Ytnckjacbkhoppaa
open Go.RowKit Go.Maps Go.MapKept
open Go.ChangeMaps (setBlock)
attribute [local go_sem] ext_cell ext_frozen extC_cell extC_frozen Mix.calmUpon Mix.mUpon
structure Ofr where
  id : Int
  frame : Int
  agent : Int
  vv : Value
  ps : List Pt
  til : Int
instance : Inhabited Ofr := ⟨⟨0, 0, 0, .slice none 0 0, [], 0⟩⟩
def ofenc (e : Ofr) : List Value := [.int .i64 e.id, .int .i64 e.frame, .int .i64 e.agent, e.vv, .int .i64 e.til]
abbrev ofval (e : Ofr) : Value := .agg #[.int .i64 e.id, .int .i64 e.frame, .int .i64 e.agent, e.vv, .int .i64 e.til]
abbrev ofzero : Value := .agg #[.int .i64 0, .int .i64 0, .int .i64 0, .slice none 0 0, .int .i64 0]
/-- An offer, plainly. -/
abbrev Pf := Int × Int × Int × List Pt × Int
def Ofr.pl (e : Ofr) : Pf := (e.id, e.frame, e.agent, e.ps, e.til)
abbrev ltO (a b : Ofr) : Bool := decide (a.id < b.id)
abbrev fndO (S : List Ofr) (k : Int) : Option Ofr := Srt.fnd Ofr.id S k
abbrev delO (S : List Ofr) (k : Int) : List Ofr := Srt.del Ofr.id S k
def gF (S : List Ofr) (k : Int) : List Int := (S.filter fun x => decide (x.frame = k)).map Ofr.id
def gA (S : List Ofr) (k : Int) : List Int := (S.filter fun x => decide (x.agent = k)).map Ofr.id
theorem gF_app (S : List Ofr) (x : Ofr) : gF (S ++ [x]) = addG (gF S) x.frame x.id := funext fun k => by
  unfold gF addG
  rw [List.filter_append, List.map_append]
  by_cases h : k = x.frame
  · rw [if_pos h, h]; simp [gF]
  · rw [if_neg h, List.filter_cons, if_neg (by simpa using fun e => h e.symm)]; simp
theorem gA_app (S : List Ofr) (x : Ofr) : gA (S ++ [x]) = addG (gA S) x.agent x.id := funext fun k => by
  unfold gA addG
  rw [List.filter_append, List.map_append]
  by_cases h : k = x.agent
  · rw [if_pos h, h]; simp [gA]
  · rw [if_neg h, List.filter_cons, if_neg (by simpa using fun e => h e.symm)]; simp
theorem uniq {S : List Ofr} (hS : Srt.In Ofr.id ltO S) {x y : Ofr} (hx : x ∈ S) (hy : y ∈ S) (h : x.id = y.id) : x = y := by
  have h1 := hS.fnd hx; have h2 := hS.fnd hy
  rw [h, h2] at h1; exact (Option.some.inj h1).symm
theorem gF_del {S : List Ofr} (hS : Srt.In Ofr.id ltO S) {y : Ofr} (hy : y ∈ S) : gF (delO S y.id) = delG (gF S) y.frame y.id := funext fun k => by
  have e : gF (delO S y.id) k = (gF S k).filter fun i => decide (i ≠ y.id) := by
    unfold gF delO Srt.del
    rw [List.filter_map, List.filter_filter, List.filter_filter]
    congr 1
    exact List.filter_congr fun z _ => by simp [Bool.and_comm]
  unfold delG
  by_cases h : k = y.frame
  · rw [if_pos h, e, h]
  · rw [if_neg h, e]
    refine List.filter_eq_self.2 fun i hi => ?_
    obtain ⟨z, hz, rfl⟩ := List.mem_map.1 hi
    obtain ⟨hz1, hz2⟩ := List.mem_filter.1 hz
    simp only [ne_eq, decide_eq_true_eq] at hz2 ⊢
    intro e
    rw [uniq hS hz1 hy e] at hz2
    exact h hz2.symm
theorem gA_del {S : List Ofr} (hS : Srt.In Ofr.id ltO S) {y : Ofr} (hy : y ∈ S) : gA (delO S y.id) = delG (gA S) y.agent y.id := funext fun k => by
  have e : gA (delO S y.id) k = (gA S k).filter fun i => decide (i ≠ y.id) := by
    unfold gA delO Srt.del
    rw [List.filter_map, List.filter_filter, List.filter_filter]
    congr 1
    exact List.filter_congr fun z _ => by simp [Bool.and_comm]
  unfold delG
  by_cases h : k = y.agent
  · rw [if_pos h, e, h]
  · rw [if_neg h, e]
    refine List.filter_eq_self.2 fun i hi => ?_
    obtain ⟨z, hz, rfl⟩ := List.mem_map.1 hi
    obtain ⟨hz1, hz2⟩ := List.mem_filter.1 hz
    simp only [ne_eq, decide_eq_true_eq] at hz2 ⊢
    intro e
    rw [uniq hS hz1 hy e] at hz2
    exact h hz2.symm
theorem g_nodup {S : List Ofr} (hS : Srt.In Ofr.id ltO S) (p : Ofr → Bool) : ((S.filter p).map Ofr.id).Pairwise (· < ·) :=
  List.pairwise_map.2 ((hS.filter p).imp fun e => by simpa using e.1)
/-- What goes out of a set: it was alone there, or not. -/
theorem g_in {S : List Ofr} (hS : Srt.In Ofr.id ltO S) (p : Ofr → Bool) {y : Ofr} (hy : y ∈ S) (hp : p y = true) : (S.filter p).map Ofr.id = [y.id] ∨ (y.id ∈ (S.filter p).map Ofr.id ∧ 1 < ((S.filter p).map Ofr.id).length ∧ ((S.filter p).map Ofr.id).Nodup) := by
  have hm : y.id ∈ (S.filter p).map Ofr.id := List.mem_map_of_mem (List.mem_filter.2 ⟨hy, hp⟩)
  have hnd : ((S.filter p).map Ofr.id).Nodup := (g_nodup hS p).imp fun h e => by omega
  generalize (S.filter p).map Ofr.id = l at *
  match l, hm, hnd with
  | [a], hm, _ => left; rw [List.mem_singleton.1 hm]
  | a :: b :: t, hm, hnd => exact .inr ⟨hm, by simp, hnd⟩
/-- Block tp is a table of the offers S. -/
structure OT (w : World) (B tp Mo Mf Ma : Nat) (great last : Int) (S : List Ofr) (L : List (Int × Value)) (F A : Nat → Prop) : Prop where
  obj : w.heap[tp]? = some (.cells #[.int .i64 great, .int .i64 last, .map (some Mo), .map (some Mf), .map (some Ma)] 84 (0, 0))
  map : MapK K64 w Mo L
  look : ∀ k, L.lookup k = (fndO S k).map ofval
  len : L.length = S.length
  srt : Srt.In Ofr.id ltO S
  vec : ∀ x ∈ S, OwnP w B x.vv x.ps
  fr : SG w B Mf (gF S) F
  ag : SG w B Ma (gA S) A
  hM : tp ≠ Mo ∧ B ≤ tp ∧ B ≤ Mo
  hF : ∀ b, F b → b ≠ tp ∧ b ≠ Mo ∧ ¬ A b
  hA : ∀ b, A b → b ≠ tp ∧ b ≠ Mo
  vs : ∀ x ∈ S, ∀ b, x.vv.ownBlock = some b → b ≠ tp ∧ b ≠ Mo ∧ ¬ F b ∧ ¬ A b
  num : ∀ x ∈ S, (1 ≤ x.id ∧ x.id ≤ last) ∧ (1 ≤ x.frame ∧ I64 x.frame) ∧ (1 ≤ x.agent ∧ I64 x.agent) ∧ x.ps ≠ [] ∧ VR x.ps ∧ I64 x.til
  cnt : 0 ≤ last ∧ last ≤ great ∧ great ≤ 9007199254740992
/-- The blocks of a table. -/
def OB (tp Mo : Nat) (F A : Nat → Prop) (S : List Ofr) (b : Nat) : Prop := b = tp ∨ b = Mo ∨ F b ∨ A b ∨ ∃ x ∈ S, x.vv.ownBlock = some b
section
variable {w w' : World} {B tp Mo Mf Ma : Nat} {great last : Int} {S : List Ofr} {L : List (Int × Value)} {F A : Nat → Prop}
theorem OT.lt (h : OT w B tp Mo Mf Ma great last S L F A) : tp < w.heap.size ∧ Mo < w.heap.size := ⟨(Array.getElem?_eq_some_iff.1 h.obj).1, h.map.lt⟩
theorem OT.chg {G : Nat → Prop} (h : OT w B tp Mo Mf Ma great last S L F A) (hc : Chg G w w') (hG : ∀ b, OB tp Mo F A S b → ¬ G b) : OT w' B tp Mo Mf Ma great last S L F A :=
  ⟨by rw [hc.block tp h.lt.1 (hG tp (.inl rfl))]; exact h.obj, h.map.chg hc (hG Mo (.inr (.inl rfl))), h.look, h.len, h.srt, fun x hx => ownsRow_chg (h.vec x hx) hc fun b hb => hG b (.inr (.inr (.inr (.inr ⟨x, hx, hb⟩)))),
    h.fr.chg hc fun b hb => hG b (.inr (.inr (.inl hb))), h.ag.chg hc fun b hb => hG b (.inr (.inr (.inr (.inl hb)))), h.hM, h.hF, h.hA, h.vs, h.num, h.cnt⟩
theorem OT.below (h : OT w B tp Mo Mf Ma great last S L F A) (hb : Below w.heap.size w w') : OT w' B tp Mo Mf Ma great last S L F A := h.chg (G := fun _ => False) (.of_below _ hb) fun _ _ => id
theorem OT.cells (h : OT w B tp Mo Mf Ma great last S L F A) : w.cell? ⟨tp, 0, none⟩ = some (.int .i64 great) ∧ w.cell? ⟨tp, 1, none⟩ = some (.int .i64 last) ∧ w.cell? ⟨tp, 2, none⟩ = some (.map (some Mo)) ∧ w.cell? ⟨tp, 3, none⟩ = some (.map (some Mf)) ∧ w.cell? ⟨tp, 4, none⟩ = some (.map (some Ma)) := by
  have := h.obj; simp [World.cell?, this]
theorem OT.find (h : OT w B tp Mo Mf Ma great last S L F A) {k : Int} (hk : I64 k) (c : Bool) : (Instr.lookup 80 (.map (some Mo)) (.int .i64 k) c).run Try.prog w =
    .ok (if c then .tuple #[((fndO S k).map ofval).getD ofzero, .bool (fndO S k).isSome] else ((fndO S k).map ofval).getD ofzero) w := by
  have hz : (zeroValue 61).run Try.prog w = .ok ofzero w := Try.zeroValue61 w
  have := h.map.look key64 Try.underlying80 hz (x := k) hk c
  rw [h.look, show (((fndO S k).map ofval).isSome) = (fndO S k).isSome by simp] at this
  exact this
end
end Go.Proofs.Ytnckjacbkhoppaa

/- Tasks: records that hold a vector; the table of tasks in memory. -/
import Derived.Test.YtnckjacbkhoppaaEv0
import Derived.Test.YtnckjacbkhoppaaKeyP
import Derived.Test.YtnckjacbkhoppaaSrtM
import Derived.Test.YtnckjacbkhoppaaVecCp
namespace Go.Proofs.Ytnckjacbkhoppaa
open Go.RowKit Go.Maps
open Go.ChangeMaps (setBlock)
attribute [local go_sem] ext_cell ext_frozen extC_cell extC_frozen Mix.calmUpon Mix.mUpon
structure Tk where
  frame : Int
  id : Int
  agent : Int
  vv : Value
  ps : List Pt
instance : Inhabited Tk := ⟨⟨0, 0, 0, .slice none 0 0, []⟩⟩
def tkenc (e : Tk) : List Value := [.int .i64 e.frame, .int .i64 e.id, .int .i64 e.agent, e.vv]
abbrev tkval (e : Tk) : Value := .agg #[.int .i64 e.frame, .int .i64 e.id, .int .i64 e.agent, e.vv]
abbrev tkzero : Value := .agg #[.int .i64 0, .int .i64 0, .int .i64 0, .slice none 0 0]
/-- A task, plainly. -/
abbrev Pk := Int × Int × Int × List Pt
def Tk.pl (e : Tk) : Pk := (e.frame, e.id, e.agent, e.ps)
abbrev tkey (e : Tk) : K2 := ⟨e.frame, e.id⟩
abbrev pkey (e : Pk) : K2 := ⟨e.1, e.2.1⟩
def ltI (a b : K2) : Bool := decide (a.a < b.a ∨ (a.a = b.a ∧ a.b < b.b))
def ltT (a b : Tk) : Bool := ltI (tkey a) (tkey b)
def ltK (a b : Pk) : Bool := ltI (pkey a) (pkey b)
theorem ordT : Srt.Ord tkey ltT where
  irr := fun a => by simp [ltT, ltI]
  trans := fun a b c h k => by simp only [ltT, ltI, decide_eq_true_eq] at *; omega
  tot := fun a b h hne => by
    have h' : ¬ (a.frame = b.frame ∧ a.id = b.id) := fun e => hne (by show (⟨a.frame, a.id⟩ : K2) = ⟨b.frame, b.id⟩; rw [e.1, e.2])
    simp only [ltT, ltI, decide_eq_true_eq, decide_eq_false_iff_not] at *
    omega
abbrev fndT (S : List Tk) (k : K2) : Option Tk := Srt.fnd tkey S k
abbrev putT (S : List Tk) (x : Tk) : List Tk := Srt.put tkey ltT S x
abbrev delT (S : List Tk) (k : K2) : List Tk := Srt.del tkey S k
abbrev fndK (S : List Pk) (k : K2) : Option Pk := Srt.fnd pkey S k
abbrev putK (S : List Pk) (x : Pk) : List Pk := Srt.put pkey ltK S x
abbrev delK (S : List Pk) (k : K2) : List Pk := Srt.del pkey S k
theorem pl_putT (S : List Tk) (x : Tk) : (putT S x).map Tk.pl = putK (S.map Tk.pl) x.pl := Srt.map_put (key := tkey) (lt := ltT) (key' := pkey) (lt' := ltK) (f := Tk.pl) (fun _ => rfl) (fun _ _ => rfl) S x
theorem pl_delT (S : List Tk) (k : K2) : (delT S k).map Tk.pl = delK (S.map Tk.pl) k := Srt.map_del (key := tkey) (key' := pkey) (f := Tk.pl) (fun _ => rfl) S k
theorem pl_fndT (S : List Tk) (k : K2) : fndK (S.map Tk.pl) k = (fndT S k).map Tk.pl := Srt.map_fnd (key := tkey) (key' := pkey) (f := Tk.pl) (fun _ => rfl) S k
/-- Block tp is a table of the tasks S; M: its map's block. -/
structure TT (w : World) (B tp M : Nat) (cap : Int) (S : List Tk) (L : List (K2 × Value)) : Prop where
  obj : w.heap[tp]? = some (.cells #[.int .i64 cap, .map (some M)] 114 (0, 0))
  map : MapK KP w M L
  look : ∀ k, L.lookup k = (fndT S k).map tkval
  len : L.length = S.length
  srt : Srt.In tkey ltT S
  vec : ∀ x ∈ S, OwnP w B x.vv x.ps
  hM : tp ≠ M ∧ B ≤ tp ∧ B ≤ M
  vs : ∀ x ∈ S, ∀ b, x.vv.ownBlock = some b → b ≠ tp ∧ b ≠ M
  num : ∀ x ∈ S, (1 ≤ x.frame ∧ I64 x.frame) ∧ (1 ≤ x.id ∧ I64 x.id) ∧ (1 ≤ x.agent ∧ I64 x.agent) ∧ x.ps ≠ [] ∧ x.ps.length < 1000000
section
variable {w w' : World} {B tp M : Nat} {cap : Int} {S : List Tk} {L : List (K2 × Value)}
theorem TT.lt (h : TT w B tp M cap S L) : tp < w.heap.size ∧ M < w.heap.size := ⟨(Array.getElem?_eq_some_iff.1 h.obj).1, h.map.lt⟩
theorem TT.chg {G : Nat → Prop} (h : TT w B tp M cap S L) (hc : Chg G w w') (h1 : ¬ G tp) (h2 : ¬ G M) (h3 : ∀ x ∈ S, ∀ b, x.vv.ownBlock = some b → ¬ G b) : TT w' B tp M cap S L :=
  ⟨by rw [hc.block tp h.lt.1 h1]; exact h.obj, h.map.chg hc h2, h.look, h.len, h.srt, fun x hx => ownsRow_chg (h.vec x hx) hc (h3 x hx), h.hM, h.vs, h.num⟩
theorem TT.below (h : TT w B tp M cap S L) (hb : Below w.heap.size w w') : TT w' B tp M cap S L := h.chg (G := fun _ => False) (.of_below _ hb) id id fun _ _ _ _ => id
theorem TT.c0 (h : TT w B tp M cap S L) : w.cell? ⟨tp, 0, none⟩ = some (.int .i64 cap) := by simp [World.cell?, h.obj]
theorem TT.c1 (h : TT w B tp M cap S L) : w.cell? ⟨tp, 1, none⟩ = some (.map (some M)) := by simp [World.cell?, h.obj]
theorem TT.find (h : TT w B tp M cap S L) {k : K2} (hk : I64 k.a ∧ I64 k.b) (c : Bool) : (Instr.lookup 112 (.map (some M)) (pval k) c).run Try.prog w =
    .ok (if c then .tuple #[((fndT S k).map tkval).getD tkzero, .bool (fndT S k).isSome] else ((fndT S k).map tkval).getD tkzero) w := by
  have hz : (zeroValue 95).run Try.prog w = .ok tkzero w := Try.zeroValue95 w
  have := h.map.look keyP Try.underlying112 hz (x := k) hk c
  rw [h.look, show (((fndT S k).map tkval).isSome) = (fndT S k).isSome by simp] at this
  exact this
/-- A task put in that was not there. -/
theorem TT.put (h : TT w B tp M cap S L) {x : Tk} (hn : fndT S (tkey x) = none) (hnum : (1 ≤ x.frame ∧ I64 x.frame) ∧ (1 ≤ x.id ∧ I64 x.id) ∧ (1 ≤ x.agent ∧ I64 x.agent) ∧ x.ps ≠ [] ∧ x.ps.length < 1000000)
    (hc : Chg (fun b => b = M) w w') (hm : MapK KP w' M (mput L (tkey x) (tkval x))) (hv : OwnP w' B x.vv x.ps) (hx : ∀ b, x.vv.ownBlock = some b → b ≠ tp ∧ b ≠ M) : TT w' B tp M cap (putT S x) (mput L (tkey x) (tkval x)) := by
  refine ⟨by rw [hc.block tp h.lt.1 h.hM.1]; exact h.obj, hm, fun k => ?_, ?_, h.srt.put ordT x, fun r hr => ?_, h.hM, fun r hr => ?_, fun r hr => ?_⟩
  · rw [look_mput, h.look, show fndT (putT S x) k = _ from Srt.fnd_put S x k]
    by_cases hk : k = tkey x
    · rw [if_pos hk, if_pos hk.symm]; rfl
    · rw [if_neg hk, if_neg fun e => hk e.symm]
  · rw [mput_length, h.look, hn, show ((none : Option Tk).map tkval).isSome = false from rfl, if_neg (by simp), h.len]; exact (Srt.put_len_new hn).symm
  · rcases Srt.mem_put.1 hr with rfl | ⟨hr, _⟩
    · exact hv
    · exact ownsRow_chg (h.vec r hr) hc fun b hb => (h.vs r hr b hb).2
  · rcases Srt.mem_put.1 hr with rfl | ⟨hr, _⟩
    · exact hx
    · exact h.vs r hr
  · rcases Srt.mem_put.1 hr with rfl | ⟨hr, _⟩
    · exact hnum
    · exact h.num r hr
/-- A task taken out. -/
theorem TT.drop (h : TT w B tp M cap S L) {k : K2} {y : Tk} (hy : fndT S k = some y) (hc : Chg (fun b => b = M) w w') (hm : MapK KP w' M (mdel L k)) (hl : (mdel L k).length + 1 = L.length) : TT w' B tp M cap (delT S k) (mdel L k) := by
  have mem : ∀ r, r ∈ delT S k → r ∈ S := fun r hr => (Srt.mem_del.1 hr).1
  refine ⟨by rw [hc.block tp h.lt.1 h.hM.1]; exact h.obj, hm, fun k' => ?_, ?_, h.srt.del k, fun r hr => ownsRow_chg (h.vec r (mem r hr)) hc fun b hb => (h.vs r (mem r hr) b hb).2, h.hM, fun r hr => h.vs r (mem r hr), fun r hr => h.num r (mem r hr)⟩
  · rw [look_mdel, h.look, show fndT (delT S k) k' = _ from Srt.fnd_del S k k']
    split <;> rfl
  · have := Srt.del_len h.srt hy
    have := h.len
    unfold delT
    omega
end
end Go.Proofs.Ytnckjacbkhoppaa

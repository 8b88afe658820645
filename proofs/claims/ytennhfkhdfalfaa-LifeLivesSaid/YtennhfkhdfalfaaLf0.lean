/- life: histories, plainly and in memory. -/
import Derived.Test.YtennhfkhdfalfaaEv0
import Derived.Test.YtennhfkhdfalfaaKeyP
import Derived.Test.YtennhfkhdfalfaaMapF
import Derived.Test.YtennhfkhdfalfaaVecS
namespace Go.Proofs.Ytennhfkhdfalfaa
open Go.RowKit Go.Maps
/-- A thing: an open offer or a running task. -/
structure Th where
  f : Int
  i : Int
  a : Int
  v : Value
  ps : List Pt
abbrev thval (x : Th) : Value := .agg #[.int .i64 x.f, .int .i64 x.i, .int .i64 x.a, x.v]
abbrev thzero : Value := .agg #[.int .i64 0, .int .i64 0, .int .i64 0, .slice none 0 0]
/-- A framework that exists: is it up, its offers, its tasks. -/
structure Fm where
  up : Bool
  o : Int
  t : Int
abbrev fmval (x : Fm) : Value := .agg #[.bool x.up, .int .i64 x.o, .int .i64 x.t]
abbrev fm0 : Fm := ⟨false, 0, 0⟩
/-- What exists. -/
structure HS where
  last : Int
  ag : Int → Option Int
  fr : Int → Option Fm
  of : Int → Option Th
  ts : K2 → Option Th
abbrev hs0 : HS := ⟨0, fun _ => none, fun _ => none, fun _ => none, fun _ => none⟩
def wr (x : Int) : Int := IntKind.i64.wrap x
abbrev eTh (e : Ev) : Th := ⟨e.frame, e.id, e.agent, e.vv, e.ps⟩
def prs (s : HS) (e : Ev) : Bool := (s.ag e.agent).isSome && ((s.fr e.frame).getD fm0).up
def somV (l : List Pt) : Bool := decide (0 < l.length) && decide (VR l)
def fitT (x : Th) (e : Ev) : Bool := decide (x.f = e.frame ∧ x.i = e.id ∧ x.a = e.agent) && decide (x.ps = e.ps)
def cnt (s : HS) (e : Ev) (o t : Int) : HS :=
  { s with
    fr := upd s.fr e.frame (some ⟨((s.fr e.frame).getD fm0).up, wr (((s.fr e.frame).getD fm0).o + o), wr (((s.fr e.frame).getD fm0).t + t)⟩)
    ag := upd s.ag e.agent (some (wr ((s.ag e.agent).getD 0 + (o + t)))) }
def hostF (s : HS) (e : Ev) : Bool := if e.kind = 1 then (s.ag e.agent).isNone else (s.ag e.agent).isSome && decide ((s.ag e.agent).getD 0 = 0)
def hostN (s : HS) (e : Ev) : HS := if e.kind = 1 then { s with ag := upd s.ag e.agent (some ((s.ag e.agent).getD 0)) } else { s with ag := upd s.ag e.agent none }
def comeF (s : HS) (e : Ev) : Bool :=
  if e.kind = 3 then true
  else if e.kind = 4 then ((s.fr e.frame).getD fm0).up && decide (((s.fr e.frame).getD fm0).o = 0)
  else if e.kind = 5 then (s.fr e.frame).isSome && (decide (((s.fr e.frame).getD fm0).o = 0) && decide (((s.fr e.frame).getD fm0).t = 0))
  else false
def comeN (s : HS) (e : Ev) : HS :=
  if e.kind = 3 then { s with fr := upd s.fr e.frame (some ⟨true, ((s.fr e.frame).getD fm0).o, ((s.fr e.frame).getD fm0).t⟩) }
  else if e.kind = 4 then { s with fr := upd s.fr e.frame (some ⟨false, ((s.fr e.frame).getD fm0).o, ((s.fr e.frame).getD fm0).t⟩) }
  else { s with fr := upd s.fr e.frame none }
def offF (s : HS) (e : Ev) : Bool := decide (1 ≤ e.id) && (decide (s.last < e.id) && (prs s e && somV e.ps))
def offN (s : HS) (e : Ev) : HS := cnt { s with last := e.id, of := upd s.of e.id (some (eTh e)) } e 1 0
def cloF (s : HS) (e : Ev) : Bool := match s.of e.id with | some x => fitT x e | none => false
def cloN (s : HS) (e : Ev) : HS := cnt { s with of := upd s.of e.id none } e (-1) 0
abbrev ekey (e : Ev) : K2 := ⟨e.frame, e.id⟩
def lauF (s : HS) (e : Ev) : Bool := (s.ts (ekey e)).isNone && (prs s e && somV e.ps)
def lauN (s : HS) (e : Ev) : HS := cnt { s with ts := upd s.ts (ekey e) (some (eTh e)) } e 0 1
def endF (s : HS) (e : Ev) : Bool := match s.ts (ekey e) with | some x => fitT x e | none => false
def endN (s : HS) (e : Ev) : HS := cnt { s with ts := upd s.ts (ekey e) none } e 0 (-1)
def cloK (k : Int) : Bool := decide (7 ≤ k ∧ k ≤ 12)
def endK (k : Int) : Bool := decide (14 ≤ k ∧ k ≤ 17)
def fit (s : HS) (e : Ev) : Bool :=
  if e.kind = 1 ∨ e.kind = 2 then hostF s e
  else if 3 ≤ e.kind ∧ e.kind ≤ 5 then comeF s e
  else if e.kind = 6 then offF s e
  else if cloK e.kind then cloF s e
  else if e.kind = 13 then lauF s e
  else if endK e.kind then endF s e
  else if e.kind = 18 ∨ e.kind = 19 then prs s e
  else false
def nxt (s : HS) (e : Ev) : HS :=
  if e.kind = 1 ∨ e.kind = 2 then hostN s e
  else if 3 ≤ e.kind ∧ e.kind ≤ 5 then comeN s e
  else if e.kind = 6 then offN s e
  else if cloK e.kind then cloN s e
  else if e.kind = 13 then lauN s e
  else if endK e.kind then endN s e
  else s
/-- How many events fit, and do all? -/
def chk : HS → List Ev → Nat × Bool
  | _, [] => (0, true)
  | s, e :: t => if fit s e then ((chk (nxt s e) t).1 + 1, (chk (nxt s e) t).2) else (0, false)
/-- An event that came in. -/
structure EIn (W : World) (e : Ev) : Prop where
  vc : Vc W e.vv e.ps
  fr : I64 e.frame
  id : I64 e.id
  ag : I64 e.agent
/-- What a thing is, in memory. -/
structure TIn (W : World) (x : Th) : Prop where
  vc : Vc W x.v x.ps
  vr : VR x.ps
/-- Block hp is a history; A, F, O, T: its maps. -/
structure HT (W w : World) (hp A F O T : Nat) (s : HS) : Prop where
  obj : w.heap[hp]? = some (.cells #[.int .i64 s.last, .map (some A), .map (some F), .map (some O), .map (some T)] 158 (0, 0))
  ag : MapF K64 w A s.ag (fun x => .int .i64 x)
  fr : MapF K64 w F s.fr fmval
  of : MapF K64 w O s.of thval
  ts : MapF KP w T s.ts thval
  bel : Below W.heap.size W w
  new : W.heap.size ≤ hp ∧ W.heap.size ≤ A ∧ W.heap.size ≤ F ∧ W.heap.size ≤ O ∧ W.heap.size ≤ T
  apart : (hp ≠ A ∧ hp ≠ F ∧ hp ≠ O ∧ hp ≠ T) ∧ (A ≠ F ∧ A ≠ O ∧ A ≠ T) ∧ (F ≠ O ∧ F ≠ T) ∧ O ≠ T
  vo : ∀ k x, s.of k = some x → TIn W x
  vt : ∀ k x, s.ts k = some x → TIn W x
section
variable {W w w' : World} {hp A F O T : Nat} {s : HS}
theorem HT.lt (h : HT W w hp A F O T s) : hp < w.heap.size ∧ A < w.heap.size ∧ F < w.heap.size ∧ O < w.heap.size ∧ T < w.heap.size := ⟨(Array.getElem?_eq_some_iff.1 h.obj).1, h.ag.lt, h.fr.lt, h.of.lt, h.ts.lt⟩
theorem HT.below (h : HT W w hp A F O T s) (hb : Below w.heap.size w w') : HT W w' hp A F O T s := by
  have hc := Chg.of_below (fun _ => False) hb
  exact ⟨by rw [hc.block hp h.lt.1 id]; exact h.obj, h.ag.chg hc id, h.fr.chg hc id, h.of.chg hc id, h.ts.chg hc id, bt h.bel hb, h.new, h.apart, h.vo, h.vt⟩
theorem HT.cells (h : HT W w hp A F O T s) : w.cell? ⟨hp, 0, none⟩ = some (.int .i64 s.last) ∧ w.cell? ⟨hp, 1, none⟩ = some (.map (some A)) ∧ w.cell? ⟨hp, 2, none⟩ = some (.map (some F)) ∧ w.cell? ⟨hp, 3, none⟩ = some (.map (some O)) ∧ w.cell? ⟨hp, 4, none⟩ = some (.map (some T)) := by
  have := h.obj; simp [World.cell?, this]
theorem HT.fz (h : HT W w hp A F O T s) (o : Nat) : w.frozen? ⟨hp, o, none⟩ = false := by have := h.obj; simp [World.frozen?, this]
/-- The map of agents turned. -/
theorem HT.setA (h : HT W w hp A F O T s) {f : Int → Option Int} (hc : Chg (fun k => k = A) w w') (hm : MapF K64 w' A f (fun x => .int .i64 x)) : HT W w' hp A F O T { s with ag := f } :=
  ⟨by rw [hc.block hp h.lt.1 h.apart.1.1]; exact h.obj, hm, h.fr.chg hc (fun e => h.apart.2.1.1 e.symm), h.of.chg hc (fun e => h.apart.2.1.2.1 e.symm), h.ts.chg hc (fun e => h.apart.2.1.2.2 e.symm),
    h.bel.trans (hc.below h.bel.size fun k e => by rw [e]; exact h.new.2.1), h.new, h.apart, h.vo, h.vt⟩
theorem HT.setF (h : HT W w hp A F O T s) {f : Int → Option Fm} (hc : Chg (fun k => k = F) w w') (hm : MapF K64 w' F f fmval) : HT W w' hp A F O T { s with fr := f } :=
  ⟨by rw [hc.block hp h.lt.1 h.apart.1.2.1]; exact h.obj, h.ag.chg hc h.apart.2.1.1, hm, h.of.chg hc (fun e => h.apart.2.2.1.1 e.symm), h.ts.chg hc (fun e => h.apart.2.2.1.2 e.symm),
    h.bel.trans (hc.below h.bel.size fun k e => by rw [e]; exact h.new.2.2.1), h.new, h.apart, h.vo, h.vt⟩
theorem HT.setO (h : HT W w hp A F O T s) {f : Int → Option Th} (hc : Chg (fun k => k = O) w w') (hm : MapF K64 w' O f thval) (hv : ∀ k x, f k = some x → TIn W x) : HT W w' hp A F O T { s with of := f } :=
  ⟨by rw [hc.block hp h.lt.1 h.apart.1.2.2.1]; exact h.obj, h.ag.chg hc h.apart.2.1.2.1, h.fr.chg hc h.apart.2.2.1.1, hm, h.ts.chg hc (fun e => h.apart.2.2.2 e.symm),
    h.bel.trans (hc.below h.bel.size fun k e => by rw [e]; exact h.new.2.2.2.1), h.new, h.apart, hv, h.vt⟩
theorem HT.setT (h : HT W w hp A F O T s) {f : K2 → Option Th} (hc : Chg (fun k => k = T) w w') (hm : MapF KP w' T f thval) (hv : ∀ k x, f k = some x → TIn W x) : HT W w' hp A F O T { s with ts := f } :=
  ⟨by rw [hc.block hp h.lt.1 h.apart.1.2.2.2]; exact h.obj, h.ag.chg hc h.apart.2.1.2.2, h.fr.chg hc h.apart.2.2.1.2, h.of.chg hc h.apart.2.2.2, hm,
    h.bel.trans (hc.below h.bel.size fun k e => by rw [e]; exact h.new.2.2.2.2), h.new, h.apart, h.vo, hv⟩
/-- The greatest number turned. -/
theorem HT.setL (h : HT W w hp A F O T s) (n : Int) : HT W (w.setCell ⟨hp, 0, none⟩ (.int .i64 n)) hp A F O T { s with last := n } := by
  have hc : Chg (fun k => k = hp) w (w.setCell ⟨hp, 0, none⟩ (.int .i64 n)) := (Chg.refl (fun k => k = hp) w).setCell (p := ⟨hp, 0, none⟩) (.inl rfl) _
  exact ⟨heap_setCell_at _ h.obj, h.ag.chg hc (fun e => h.apart.1.1 e.symm), h.fr.chg hc (fun e => h.apart.1.2.1 e.symm), h.of.chg hc (fun e => h.apart.1.2.2.1 e.symm), h.ts.chg hc (fun e => h.apart.1.2.2.2 e.symm),
    h.bel.trans (hc.below h.bel.size fun k e => by rw [e]; exact h.new.1), h.new, h.apart, h.vo, h.vt⟩
theorem HT.lookA (h : HT W w hp A F O T s) {k : Int} (hk : I64 k) (c : Bool) : (Instr.lookup 146 (.map (some A)) (.int .i64 k) c).run Try.prog w =
    .ok (if c then .tuple #[.int .i64 ((s.ag k).getD 0), .bool (s.ag k).isSome] else .int .i64 ((s.ag k).getD 0)) w := by
  have hz : (zeroValue 3).run Try.prog w = .ok (.int .i64 0) w := Try.zeroValue3 w
  have := h.ag.look key64 Try.underlying146 hz (x := k) hk c
  rw [show ((s.ag k).map fun x => Value.int .i64 x).getD (.int .i64 0) = .int .i64 ((s.ag k).getD 0) by cases s.ag k <;> rfl] at this
  exact this
theorem HT.lookF (h : HT W w hp A F O T s) {k : Int} (hk : I64 k) (c : Bool) : (Instr.lookup 154 (.map (some F)) (.int .i64 k) c).run Try.prog w =
    .ok (if c then .tuple #[fmval ((s.fr k).getD fm0), .bool (s.fr k).isSome] else fmval ((s.fr k).getD fm0)) w := by
  have hz : (zeroValue 202).run Try.prog w = .ok (fmval fm0) w := Try.zeroValue202 w
  have := h.fr.look key64 Try.underlying154 hz (x := k) hk c
  rw [show ((s.fr k).map fmval).getD (fmval fm0) = fmval ((s.fr k).getD fm0) by cases s.fr k <;> rfl] at this
  exact this
theorem HT.lookO (h : HT W w hp A F O T s) {k : Int} (hk : I64 k) (c : Bool) : (Instr.lookup 155 (.map (some O)) (.int .i64 k) c).run Try.prog w =
    .ok (if c then .tuple #[((s.of k).map thval).getD thzero, .bool (s.of k).isSome] else ((s.of k).map thval).getD thzero) w := by
  have hz : (zeroValue 208).run Try.prog w = .ok thzero w := Try.zeroValue208 w
  exact h.of.look key64 Try.underlying155 hz (x := k) hk c
theorem HT.lookT (h : HT W w hp A F O T s) {k : K2} (hk : I64 k.a ∧ I64 k.b) (c : Bool) : (Instr.lookup 156 (.map (some T)) (pval k) c).run Try.prog w =
    .ok (if c then .tuple #[((s.ts k).map thval).getD thzero, .bool (s.ts k).isSome] else ((s.ts k).map thval).getD thzero) w := by
  have hz : (zeroValue 208).run Try.prog w = .ok thzero w := Try.zeroValue208 w
  exact h.ts.look keyP Try.underlying156 hz (x := k) hk c
theorem HT.storeA (h : HT W w hp A F O T s) {k : Int} (hk : I64 k) (v : Int) : ∃ w', (Instr.mapUpdate 146 (.map (some A)) (.int .i64 k) (.int .i64 v)).run Try.prog w = .ok () w' ∧ HT W w' hp A F O T { s with ag := upd s.ag k (some v) } ∧ Chg (fun k => k = A) w w' := by
  obtain ⟨w', h1, h2, h3⟩ := h.ag.store key64 Try.underlying146 (x := k) hk v
  exact ⟨w', h1, h.setA h3 h2, h3⟩
theorem HT.dropA (h : HT W w hp A F O T s) {k : Int} (hk : I64 k) (ty : TypeId) : ∃ w', (Builtin.delete_ #[146, 2] ty #[.map (some A), .int .i64 k]).run Try.prog w = .ok (.tuple #[]) w' ∧ HT W w' hp A F O T { s with ag := upd s.ag k none } ∧ Chg (fun k => k = A) w w' := by
  obtain ⟨w', h1, h2, h3⟩ := h.ag.drop key64 Try.underlying146 ty (x := k) hk
  exact ⟨w', h1, h.setA h3 h2, h3⟩
theorem HT.storeF (h : HT W w hp A F O T s) {k : Int} (hk : I64 k) (v : Fm) : ∃ w', (Instr.mapUpdate 154 (.map (some F)) (.int .i64 k) (fmval v)).run Try.prog w = .ok () w' ∧ HT W w' hp A F O T { s with fr := upd s.fr k (some v) } ∧ Chg (fun k => k = F) w w' := by
  obtain ⟨w', h1, h2, h3⟩ := h.fr.store key64 Try.underlying154 (x := k) hk v
  exact ⟨w', h1, h.setF h3 h2, h3⟩
theorem HT.dropF (h : HT W w hp A F O T s) {k : Int} (hk : I64 k) (ty : TypeId) : ∃ w', (Builtin.delete_ #[154, 2] ty #[.map (some F), .int .i64 k]).run Try.prog w = .ok (.tuple #[]) w' ∧ HT W w' hp A F O T { s with fr := upd s.fr k none } ∧ Chg (fun k => k = F) w w' := by
  obtain ⟨w', h1, h2, h3⟩ := h.fr.drop key64 Try.underlying154 ty (x := k) hk
  exact ⟨w', h1, h.setF h3 h2, h3⟩
theorem upd_in {κ : Type} [DecidableEq κ] {W : World} {f : κ → Option Th} {k : κ} {v : Option Th} (h : ∀ k x, f k = some x → TIn W x) (hv : ∀ x, v = some x → TIn W x) : ∀ y x, upd f k v y = some x → TIn W x := fun y x hx => by
  unfold upd at hx
  split at hx
  · exact hv x hx
  · exact h y x hx
theorem HT.storeO (h : HT W w hp A F O T s) {k : Int} (hk : I64 k) (v : Th) (hv : TIn W v) : ∃ w', (Instr.mapUpdate 155 (.map (some O)) (.int .i64 k) (thval v)).run Try.prog w = .ok () w' ∧ HT W w' hp A F O T { s with of := upd s.of k (some v) } ∧ Chg (fun k => k = O) w w' := by
  obtain ⟨w', h1, h2, h3⟩ := h.of.store key64 Try.underlying155 (x := k) hk v
  exact ⟨w', h1, h.setO h3 h2 (upd_in h.vo fun x e => by cases e; exact hv), h3⟩
theorem HT.dropO (h : HT W w hp A F O T s) {k : Int} (hk : I64 k) (ty : TypeId) : ∃ w', (Builtin.delete_ #[155, 2] ty #[.map (some O), .int .i64 k]).run Try.prog w = .ok (.tuple #[]) w' ∧ HT W w' hp A F O T { s with of := upd s.of k none } ∧ Chg (fun k => k = O) w w' := by
  obtain ⟨w', h1, h2, h3⟩ := h.of.drop key64 Try.underlying155 ty (x := k) hk
  exact ⟨w', h1, h.setO h3 h2 (upd_in h.vo fun x e => by cases e), h3⟩
theorem HT.storeT (h : HT W w hp A F O T s) {k : K2} (hk : I64 k.a ∧ I64 k.b) (v : Th) (hv : TIn W v) : ∃ w', (Instr.mapUpdate 156 (.map (some T)) (pval k) (thval v)).run Try.prog w = .ok () w' ∧ HT W w' hp A F O T { s with ts := upd s.ts k (some v) } ∧ Chg (fun k => k = T) w w' := by
  obtain ⟨w', h1, h2, h3⟩ := h.ts.store keyP Try.underlying156 (x := k) hk v
  exact ⟨w', h1, h.setT h3 h2 (upd_in h.vt fun x e => by cases e; exact hv), h3⟩
theorem HT.dropT (h : HT W w hp A F O T s) {k : K2} (hk : I64 k.a ∧ I64 k.b) (ty : TypeId) : ∃ w', (Builtin.delete_ #[156, 109] ty #[.map (some T), pval k]).run Try.prog w = .ok (.tuple #[]) w' ∧ HT W w' hp A F O T { s with ts := upd s.ts k none } ∧ Chg (fun k => k = T) w w' := by
  obtain ⟨w', h1, h2, h3⟩ := h.ts.drop keyP Try.underlying156 ty (x := k) hk
  exact ⟨w', h1, h.setT h3 h2 (upd_in h.vt fun x e => by cases e), h3⟩
end
end Go.Proofs.Ytennhfkhdfalfaa

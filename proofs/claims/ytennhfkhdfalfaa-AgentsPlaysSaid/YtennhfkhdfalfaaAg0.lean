/- agents: the table in memory, by a function from keys, and plainly, by a list in order. -/
import Derived.Test.YtennhfkhdfalfaaAgS
import Derived.Test.YtennhfkhdfalfaaTsu0
import Derived.Test.YtennhfkhdfalfaaVecAe
import Derived.Test.YtennhfkhdfalfaaMapF
import Derived.Test.YtennhfkhdfalfaaKey
import Derived.Test.YtennhfkhdfalfaaSrt
import Derived.Test.YtennhfkhdfalfaaVecS
namespace Go.Proofs.Ytennhfkhdfalfaa
open Go.RowKit Go.Maps
open Go.ChangeMaps (setBlock)
/-- An agent, plainly: its number, its Total, what is free. -/
abbrev Pa := Int × List Pt × List Pt
abbrev akey (x : Pa) : Int := x.1
def altP (a b : Pa) : Bool := decide (a.1 < b.1)
theorem ordA : Srt.Ord akey altP where
  irr := fun a => by simp [altP]
  trans := fun a b c h k => by simp only [altP, decide_eq_true_eq] at *; omega
  tot := fun a b h hne => by
    have h2 : a.1 ≠ b.1 := hne
    simp only [altP, decide_eq_true_eq, decide_eq_false_iff_not] at *; omega
abbrev fndA (S : List Pa) (k : Int) : Option Pa := Srt.fnd akey S k
abbrev putA (S : List Pa) (x : Pa) : List Pa := Srt.put akey altP S x
abbrev delA (S : List Pa) (k : Int) : List Pa := Srt.del akey S k
/-- The sums of all Totals, or of all that is free. -/
def sumA (f : Pa → List Pt) (S : List Pa) (j : Nat) : Int := (S.map fun x => kS (f x) j).sum
abbrev totA : Pa → List Pt := fun x => x.2.1
abbrev freA : Pa → List Pt := fun x => x.2.2
theorem sumA_cons (f : Pa → List Pt) (x : Pa) (S : List Pa) (j : Nat) : sumA f (x :: S) j = kS (f x) j + sumA f S j := by unfold sumA; rw [List.map_cons, List.sum_cons]
theorem sumA_ins (f : Pa → List Pt) (x : Pa) (j : Nat) : ∀ S : List Pa, sumA f (Srt.ins altP x S) j = kS (f x) j + sumA f S j
  | [] => by unfold Srt.ins; rw [sumA_cons]
  | p :: t => by
    unfold Srt.ins
    split
    · rw [sumA_cons, sumA_cons]
    · rw [sumA_cons, sumA_ins f x j t, sumA_cons]; omega
theorem sumA_del (f : Pa → List Pt) (j : Nat) : ∀ {S : List Pa} {k : Int} {y : Pa}, Srt.In akey altP S → fndA S k = some y → sumA f (delA S k) j + kS (f y) j = sumA f S j
  | [], k, y, _, h => by cases h
  | p :: t, k, y, hS, h => by
    unfold fndA at h
    rw [Srt.fnd_cons] at h
    by_cases hp : akey p = k
    · rw [if_pos hp] at h
      cases h
      have hd : delA (p :: t) k = t := by
        unfold delA Srt.del
        rw [List.filter_cons, if_neg (by simpa using hp)]
        exact List.filter_eq_self.2 fun q hq => by
          have := (hS.head q hq).2
          simp only [ne_eq, decide_eq_true_eq]
          intro e; exact this (by rw [hp, e])
      rw [hd, sumA_cons]; omega
    · rw [if_neg hp] at h
      have hd : delA (p :: t) k = p :: delA t k := by
        unfold delA Srt.del
        rw [List.filter_cons, if_pos (by simpa using hp)]
      have := sumA_del f j hS.tail h
      rw [hd, sumA_cons, sumA_cons]; omega
theorem sumA_new (f : Pa → List Pt) (j : Nat) {S : List Pa} {x : Pa} (h : fndA S (akey x) = none) : sumA f (putA S x) j = kS (f x) j + sumA f S j := by
  unfold putA Srt.put
  rw [Srt.del_same h, sumA_ins]
theorem sumA_old (f : Pa → List Pt) (j : Nat) {S : List Pa} {x y : Pa} (hS : Srt.In akey altP S) (h : fndA S (akey x) = some y) : sumA f (putA S x) j + kS (f y) j = kS (f x) j + sumA f S j := by
  unfold putA Srt.put
  rw [sumA_ins]
  have := sumA_del f j hS h
  unfold delA at this; omega
theorem kS_gt {l : List Pt} (h : VR l) (j : Nat) : kS l j = sumR (fun r => gt l j r) 33 := by
  rw [kS_sl j fun p hp => (h.1 p hp).1]; exact sumR_congr 33 fun r _ => sl_gt h _ _
theorem kS_sub {a b c : List Pt} (h : mrg gSub a b = some c) (j : Nat) : kS c j + kS b j = kS a j := by
  obtain ⟨ha, hb, hc, hg⟩ := mrg_some gSub0 gSubB h
  rw [kS_gt hc, kS_gt hb, kS_gt ha, ← sumR_add]
  refine sumR_congr 33 fun r _ => ?_
  have := hg j r
  unfold gSub at this
  split at this
  · have := Option.some.inj this; omega
  · cases this
theorem kS_add {a b c : List Pt} (h : mrg gAdd a b = some c) (j : Nat) : kS c j = kS a j + kS b j := by
  obtain ⟨ha, hb, hc, hg⟩ := mrg_some gAdd0 gAddB h
  rw [kS_gt hc, kS_gt hb, kS_gt ha, ← sumR_add]
  refine sumR_congr 33 fun r _ => ?_
  have := hg j r
  unfold gAdd at this
  split at this
  · have := Option.some.inj this; omega
  · cases this
/-- An agent in memory. -/
structure Ag where
  tv : Value
  tps : List Pt
  fv : Value
  fps : List Pt
abbrev agval (x : Ag) : Value := .agg #[x.tv, x.fv]
abbrev agzero : Value := .agg #[.slice none 0 0, .slice none 0 0]
/-- A plain agent, as a table keeps it. -/
structure PaOk (x : Pa) : Prop where
  id : 1 ≤ x.1
  i64 : I64 x.1
  vt : VR x.2.1
  vf : VR x.2.2
  ho : HLD x.2.1 x.2.2
/-- A plain list of agents, as a table keeps it. -/
structure AIn (cap most : Int) (S : List Pa) : Prop where
  srt : Srt.In akey altP S
  ok : ∀ x ∈ S, PaOk x
  cp : (S.length : Int) ≤ cap
  ms : ∀ j, j < 4 → sumA totA S j ≤ most
  c1 : 1 ≤ cap
  m1 : 1 ≤ most ∧ most ≤ 9007199254740992
/-- Block tp is a table of the agents S; M: its map's block; all its blocks are newer than the world W. -/
structure AT (W w : World) (tp M : Nat) (cap most : Int) (F : Int → Option Ag) (S : List Pa) : Prop where
  obj : w.heap[tp]? = some (.cells #[.int .i64 cap, .int .i64 most, .map (some M), .int .i64 (sumA totA S 0), .int .i64 (sumA totA S 1), .int .i64 (sumA totA S 2), .int .i64 (sumA totA S 3)] 52 (0, 0))
  map : MapF K64 w M F agval
  bel : Below W.heap.size W w
  new : W.heap.size ≤ tp ∧ W.heap.size ≤ M
  ne : tp ≠ M
  vec : ∀ k x, F k = some x → OwnP w W.heap.size x.tv x.tps ∧ OwnP w W.heap.size x.fv x.fps
  off : ∀ k x, F k = some x → (∀ b, x.tv.ownBlock = some b → b ≠ tp ∧ b ≠ M) ∧ ∀ b, x.fv.ownBlock = some b → b ≠ tp ∧ b ≠ M
  pl : ∀ k, fndA S k = (F k).map fun x => (k, x.tps, x.fps)
  ain : AIn cap most S
section
variable {W w w' : World} {tp M : Nat} {cap most : Int} {F : Int → Option Ag} {S : List Pa}
theorem AT.lt (h : AT W w tp M cap most F S) : tp < w.heap.size ∧ M < w.heap.size := ⟨(Array.getElem?_eq_some_iff.1 h.obj).1, h.map.lt⟩
theorem AT.chg {G : Nat → Prop} (h : AT W w tp M cap most F S) (hc : Chg G w w') (h1 : ∀ k, G k → W.heap.size ≤ k) (h2 : ¬ G tp) (h3 : ¬ G M) (h4 : ∀ k x, F k = some x → (∀ b, x.tv.ownBlock = some b → ¬ G b) ∧ ∀ b, x.fv.ownBlock = some b → ¬ G b) : AT W w' tp M cap most F S :=
  ⟨by rw [hc.block tp h.lt.1 h2]; exact h.obj, h.map.chg hc h3, h.bel.trans (hc.below h.bel.size h1), h.new, h.ne, fun k x hx => ⟨ownsRow_chg (h.vec k x hx).1 hc (h4 k x hx).1, ownsRow_chg (h.vec k x hx).2 hc (h4 k x hx).2⟩, h.off, h.pl, h.ain⟩
theorem AT.below (h : AT W w tp M cap most F S) (hb : Below w.heap.size w w') : AT W w' tp M cap most F S :=
  h.chg (G := fun _ => False) (.of_below _ hb) (fun _ e => e.elim) id id fun _ _ _ => ⟨fun _ _ => id, fun _ _ => id⟩
theorem AT.cells (h : AT W w tp M cap most F S) : w.cell? ⟨tp, 0, none⟩ = some (.int .i64 cap) ∧ w.cell? ⟨tp, 1, none⟩ = some (.int .i64 most) ∧ w.cell? ⟨tp, 2, none⟩ = some (.map (some M)) ∧
    w.cell? ⟨tp, 3, none⟩ = some (.int .i64 (sumA totA S 0)) ∧ w.cell? ⟨tp, 4, none⟩ = some (.int .i64 (sumA totA S 1)) ∧ w.cell? ⟨tp, 5, none⟩ = some (.int .i64 (sumA totA S 2)) ∧ w.cell? ⟨tp, 6, none⟩ = some (.int .i64 (sumA totA S 3)) := by
  have := h.obj; simp [World.cell?, this]
theorem AT.fz (h : AT W w tp M cap most F S) (o : Nat) : w.frozen? ⟨tp, o, none⟩ = false := by have := h.obj; simp [World.frozen?, this]
theorem AT.look (h : AT W w tp M cap most F S) {k : Int} (hk : I64 k) (c : Bool) : (Instr.lookup 50 (.map (some M)) (.int .i64 k) c).run Try.prog w =
    .ok (if c then .tuple #[((F k).map agval).getD agzero, .bool (F k).isSome] else ((F k).map agval).getD agzero) w := by
  have hz : (zeroValue 118).run Try.prog w = .ok agzero w := Try.zeroValue118 w
  exact h.map.look key64 Try.underlying50 hz (x := k) hk c
/-- As many entries as agents. -/
theorem AT.len (h : AT W w tp M cap most F S) (ty : TypeId) : (Builtin.len_ #[50] ty #[.map (some M)]).run Try.prog w = .ok (.int .i64 (S.length : Nat)) w := by
  obtain ⟨L, hm, hl⟩ := h.map
  have e : L.length = S.length := by
    have hn := hm.nodup
    have hS : (S.map akey).Nodup := List.pairwise_map.2 (h.ain.srt.imp fun e => e.2)
    have hp : (L.map (·.1)).Perm (S.map akey) := by
      refine (List.perm_ext_iff_of_nodup hn hS).2 fun k => ?_
      have h1 := h.pl k
      have h2 := hl k
      constructor
      · intro hk
        obtain ⟨p, hp, rfl⟩ := List.mem_map.1 hk
        have h3 := look_of_mem hn (x := p.1) (v := p.2) hp
        rw [h2] at h3
        cases hf : F p.1 with
        | none => rw [hf] at h3; cases h3
        | some x =>
          rw [hf] at h1
          exact List.mem_map.2 ⟨_, (Srt.fnd_mem h1).1, (Srt.fnd_mem h1).2⟩
      · intro hk
        obtain ⟨x, hx, rfl⟩ := List.mem_map.1 hk
        have h3 : fndA S (akey x) = some x := h.ain.srt.fnd hx
        rw [h1] at h3
        cases hf : F (akey x) with
        | none => rw [hf] at h3; cases h3
        | some y =>
          rw [hf] at h2
          exact List.mem_map.2 ⟨_, look_mem h2, rfl⟩
    have := hp.length_eq
    simpa using this
  have := hm.len Try.underlying50 ty
  rw [e] at this
  exact this
/-- The map's entry and the plain agent turned, the sums kept or turned with them. -/
theorem AT.put (h : AT W w tp M cap most F S) {k : Int} {x : Ag} {S' : List Pa} (hS' : S' = putA S (k, x.tps, x.fps)) (hsum : ∀ j, j < 4 → sumA totA S' j = sumA totA S j) (hain : AIn cap most S')
    (hc : Chg (fun b => b = M) w w') (hm : MapF K64 w' M (upd F k (some x)) agval) (hv : OwnP w W.heap.size x.tv x.tps ∧ OwnP w W.heap.size x.fv x.fps) (ho : (∀ b, x.tv.ownBlock = some b → b ≠ tp ∧ b ≠ M) ∧ ∀ b, x.fv.ownBlock = some b → b ≠ tp ∧ b ≠ M) :
    AT W w' tp M cap most (upd F k (some x)) S' := by
  refine ⟨?_, hm, h.bel.trans (hc.below h.bel.size fun k e => by rw [e]; exact h.new.2), h.new, h.ne, fun j y hy => ?_, fun j y hy => ?_, fun j => ?_, hain⟩
  · rw [hc.block tp h.lt.1 h.ne, hsum 0 (by decide), hsum 1 (by decide), hsum 2 (by decide), hsum 3 (by decide)]; exact h.obj
  · unfold upd at hy
    split at hy
    · cases hy
      exact ⟨ownsRow_chg hv.1 hc fun b hb => (ho.1 b hb).2, ownsRow_chg hv.2 hc fun b hb => (ho.2 b hb).2⟩
    · exact ⟨ownsRow_chg (h.vec j y hy).1 hc fun b hb => ((h.off j y hy).1 b hb).2, ownsRow_chg (h.vec j y hy).2 hc fun b hb => ((h.off j y hy).2 b hb).2⟩
  · unfold upd at hy
    split at hy
    · cases hy; exact ho
    · exact h.off j y hy
  · rw [hS']
    have := Srt.fnd_put (key := akey) (lt := altP) S (k, x.tps, x.fps) j
    unfold fndA
    rw [this]
    unfold upd
    by_cases hj : j = k
    · subst hj; rw [if_pos rfl, if_pos rfl]; rfl
    · rw [if_neg hj, if_neg fun e => hj e.symm]; exact h.pl j
theorem AT.store (h : AT W w tp M cap most F S) {k : Int} (hk : I64 k) (x : Ag) : ∃ w', (Instr.mapUpdate 50 (.map (some M)) (.int .i64 k) (agval x)).run Try.prog w = .ok () w' ∧ MapF K64 w' M (upd F k (some x)) agval ∧ Chg (fun b => b = M) w w' :=
  h.map.store key64 Try.underlying50 (x := k) hk x
theorem AT.dropM (h : AT W w tp M cap most F S) {k : Int} (hk : I64 k) (ty : TypeId) : ∃ w', (Builtin.delete_ #[50, 2] ty #[.map (some M), .int .i64 k]).run Try.prog w = .ok (.tuple #[]) w' ∧ MapF K64 w' M (upd F k none) agval ∧ Chg (fun b => b = M) w w' :=
  h.map.drop key64 Try.underlying50 ty (x := k) hk
theorem AT.some_ok (h : AT W w tp M cap most F S) {k : Int} {x : Ag} (hx : F k = some x) : fndA S k = some (k, x.tps, x.fps) ∧ PaOk (k, x.tps, x.fps) := by
  have h1 := h.pl k
  rw [hx] at h1
  exact ⟨h1, h.ain.ok _ (Srt.fnd_mem h1).1⟩
end
end Go.Proofs.Ytennhfkhdfalfaa

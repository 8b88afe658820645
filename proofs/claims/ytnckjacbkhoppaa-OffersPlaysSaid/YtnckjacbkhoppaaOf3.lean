/- offers: what Issue and Close leave, told of the parts; the table by its plain list. -/
import Derived.Test.YtnckjacbkhoppaaOf2
import Derived.Test.YtnckjacbkhoppaaSrtM
namespace Go.Proofs.Ytnckjacbkhoppaa
open Go.RowKit Go.Maps Go.MapKept
theorem ordO : Srt.Ord Ofr.id ltO where
  irr := fun a => by simp [ltO]
  trans := fun a b c h k => by simp only [ltO, decide_eq_true_eq] at *; omega
  tot := fun a b h hne => by simp only [ltO, decide_eq_true_eq, decide_eq_false_iff_not] at *; omega
theorem put_last {S : List Ofr} {x : Ofr} (h : ∀ q ∈ S, q.id < x.id) : S ++ [x] = Srt.put Ofr.id ltO S x := by
  have hn : fndO S x.id = none := Srt.fnd_none.2 fun q hq e => by have := h q hq; omega
  unfold Srt.put
  rw [Srt.del_same hn, Srt.ins_end fun q hq => by have := h q hq; simp [ltO]; omega]
theorem mdel_lenO {κ : Type} [DecidableEq κ] {L : List (κ × Value)} (hnd : (L.map (·.1)).Nodup) {k : κ} {v : Value} (h : L.lookup k = some v) : (mdel L k).length + 1 = L.length := by
  have hlm := look_mem h
  clear h
  unfold mdel
  induction L with
  | nil => cases hlm
  | cons p t ih =>
    rw [List.map_cons, List.nodup_cons] at hnd
    by_cases e : p.1 = k
    · rw [List.filter_cons, if_neg (by simpa using e), List.filter_eq_self.2 fun q hq => by simpa using fun e2 => hnd.1 (by rw [e]; exact List.mem_map.2 ⟨q, hq, e2⟩)]; rfl
    · rw [List.filter_cons, if_pos (by simpa using e)]
      have := ih hnd.2 (by rcases List.mem_cons.1 hlm with h | h; exact absurd (by rw [← h]) e; exact h)
      simp only [List.length_cons]; omega
section
variable {w w' : World} {B tp Mo Mf Ma : Nat} {great last : Int} {S : List Ofr} {L : List (Int × Value)} {F A : Nat → Prop}
theorem OT.olt (h : OT w B tp Mo Mf Ma great last S L F A) {b : Nat} (hb : OB tp Mo F A S b) : B ≤ b ∧ b < w.heap.size := by
  rcases hb with rfl | rfl | hb | hb | ⟨x, hx, hb⟩
  · exact ⟨h.hM.2.1, h.lt.1⟩
  · exact ⟨h.hM.2.2, h.lt.2⟩
  · exact h.fr.olt b hb
  · exact h.ag.olt b hb
  · exact ⟨((h.vec x hx).lt b hb).1, ((h.vec x hx).lt b hb).2⟩
theorem OT.issue {x : Ofr} {F' A' : Nat → Prop} (h : OT w B tp Mo Mf Ma great last S L F A) (hlt : last < great) (hx : x.id = last + 1)
    (hnum : (1 ≤ x.frame ∧ I64 x.frame) ∧ (1 ≤ x.agent ∧ I64 x.agent) ∧ x.ps ≠ [] ∧ VR x.ps ∧ I64 x.til)
    (hobj : w'.heap[tp]? = some (.cells #[.int .i64 great, .int .i64 (last + 1), .map (some Mo), .map (some Mf), .map (some Ma)] 84 (0, 0)))
    (hmap : MapK K64 w' Mo (mput L x.id (ofval x))) (hF : SG w' B Mf (addG (gF S) x.frame x.id) F') (hA : SG w' B Ma (addG (gA S) x.agent x.id) A')
    (hvec : ∀ y ∈ S, OwnP w' B y.vv y.ps) (hv : OwnP w' B x.vv x.ps)
    (hF' : ∀ b, F' b → F b ∨ w.heap.size ≤ b) (hA' : ∀ b, A' b → A b ∨ w.heap.size ≤ b) (hdis : ∀ b, F' b → ¬ A' b)
    (hxv : ∀ b, x.vv.ownBlock = some b → w.heap.size ≤ b ∧ ¬ F' b ∧ ¬ A' b) : OT w' B tp Mo Mf Ma great (last + 1) (S ++ [x]) (mput L x.id (ofval x)) F' A' := by
  have hl := h.lt
  have hid : ∀ q ∈ S, q.id < x.id := fun q hq => by have := (h.num q hq).1; omega
  have hn : fndO S x.id = none := Srt.fnd_none.2 fun q hq e => by have := hid q hq; omega
  have hc := h.cnt
  refine ⟨hobj, hmap, fun k => ?_, ?_, ?_, fun y hy => ?_, by rw [gF_app]; exact hF, by rw [gA_app]; exact hA, h.hM, fun b hb => ⟨?_, ?_, hdis b hb⟩, fun b hb => ?_, fun y hy b hb => ?_, fun y hy => ?_, ⟨by omega, by omega, hc.2.2⟩⟩
  · rw [put_last hid, look_mput, h.look, show fndO (Srt.put Ofr.id ltO S x) k = _ from Srt.fnd_put S x k]
    by_cases hk : k = x.id
    · rw [if_pos hk, if_pos hk.symm]; rfl
    · rw [if_neg hk, if_neg fun e => hk e.symm]
  · rw [mput_length, h.look, hn, show ((none : Option Ofr).map ofval).isSome = false from rfl, if_neg (by simp), h.len]; simp
  · rw [put_last hid]; exact h.srt.put ordO x
  · rcases List.mem_append.1 hy with hy | hy
    · exact hvec y hy
    · rw [List.mem_singleton.1 hy]; exact hv
  · rcases hF' b hb with hb | hb
    · exact (h.hF b hb).1
    · omega
  · rcases hF' b hb with hb | hb
    · exact (h.hF b hb).2.1
    · omega
  · rcases hA' b hb with hb | hb
    · exact h.hA b hb
    · exact ⟨by omega, by omega⟩
  · rcases List.mem_append.1 hy with hy | hy
    · have h1 := h.vs y hy b hb
      have h2 := ((h.vec y hy).lt b hb).2
      exact ⟨h1.1, h1.2.1, fun e => (hF' b e).elim h1.2.2.1 fun e => by omega, fun e => (hA' b e).elim h1.2.2.2 fun e => by omega⟩
    · rw [List.mem_singleton.1 hy] at hb
      have h1 := hxv b hb
      exact ⟨by omega, by omega, h1.2⟩
  · rcases List.mem_append.1 hy with hy | hy
    · have h1 := h.num y hy
      exact ⟨⟨h1.1.1, by omega⟩, h1.2⟩
    · rw [List.mem_singleton.1 hy]
      exact ⟨⟨by omega, by omega⟩, hnum⟩
theorem OT.close {y : Ofr} {k : Int} (h : OT w B tp Mo Mf Ma great last S L F A) (hy : fndO S k = some y)
    (hobj : w'.heap[tp]? = w.heap[tp]?) (hs : w.heap.size ≤ w'.heap.size)
    (hmap : MapK K64 w' Mo (mdel L k)) (hF : SG w' B Mf (delG (gF S) y.frame y.id) F) (hA : SG w' B Ma (delG (gA S) y.agent y.id) A)
    (hvec : ∀ y ∈ S, OwnP w' B y.vv y.ps) : OT w' B tp Mo Mf Ma great last (delO S k) (mdel L k) F A := by
  obtain ⟨hm, hk⟩ := Srt.fnd_mem hy
  have hk : y.id = k := hk
  have mem : ∀ r, r ∈ delO S k → r ∈ S := fun r hr => (Srt.mem_del.1 hr).1
  refine ⟨by rw [hobj]; exact h.obj, hmap, fun k' => ?_, ?_, h.srt.del k, fun r hr => hvec r (mem r hr), by rw [← hk, gF_del h.srt hm]; exact hF, by rw [← hk, gA_del h.srt hm]; exact hA, h.hM, h.hF, h.hA, fun r hr => h.vs r (mem r hr), fun r hr => h.num r (mem r hr), h.cnt⟩
  · rw [look_mdel, h.look, show fndO (delO S k) k' = _ from Srt.fnd_del S k k']
    split <;> rfl
  · have h1 := Srt.del_len h.srt hy
    have h2 := h.len
    have h3 := mdel_lenO h.map.nodup (k := k) (v := ofval y) (by rw [h.look, hy]; rfl)
    unfold delO
    omega
end
/-- A plain offer that may be issued. -/
def PfOk (x : Pf) : Prop := 1 ≤ x.2.1 ∧ 1 ≤ x.2.2.1 ∧ x.2.2.2.1 ≠ [] ∧ VR x.2.2.2.1 ∧ 0 ≤ x.2.2.2.2
instance (x : Pf) : Decidable (PfOk x) := by unfold PfOk; infer_instance
abbrev fndP (P : List Pf) (k : Int) : Option Pf := Srt.fnd (fun x : Pf => x.1) P k
abbrev delP (P : List Pf) (k : Int) : List Pf := Srt.del (fun x : Pf => x.1) P k
theorem pl_fndO (S : List Ofr) (k : Int) : fndP (S.map Ofr.pl) k = (fndO S k).map Ofr.pl := Srt.map_fnd (key := Ofr.id) (key' := fun x : Pf => x.1) (f := Ofr.pl) (fun _ => rfl) S k
theorem pl_delO (S : List Ofr) (k : Int) : (delO S k).map Ofr.pl = delP (S.map Ofr.pl) k := Srt.map_del (key := Ofr.id) (key' := fun x : Pf => x.1) (f := Ofr.pl) (fun _ => rfl) S k
/-- Block tp is a table of the plain offers P; all its blocks are of K. -/
structure OV (w : World) (B tp : Nat) (great last : Int) (P : List Pf) (K : Nat → Prop) : Prop where
  ot : ∃ Mo Mf Ma S L F A, OT w B tp Mo Mf Ma great last S L F A ∧ S.map Ofr.pl = P ∧ ∀ b, OB tp Mo F A S b → K b
  hK : ∀ b, K b → B ≤ b ∧ b < w.heap.size
section
variable {w w' : World} {B tp : Nat} {great last : Int} {P : List Pf} {K G : Nat → Prop}
theorem OV.chg (h : OV w B tp great last P K) (hc : Chg G w w') (hG : ∀ b, K b → ¬ G b) : OV w' B tp great last P K := by
  obtain ⟨Mo, Mf, Ma, S, L, F, A, h1, h2, h3⟩ := h.ot
  exact ⟨⟨Mo, Mf, Ma, S, L, F, A, h1.chg hc fun b hb => hG b (h3 b hb), h2, h3⟩, fun b hb => ⟨(h.hK b hb).1, Nat.lt_of_lt_of_le (h.hK b hb).2 hc.size⟩⟩
theorem OV.below (h : OV w B tp great last P K) (hb : Below w.heap.size w w') : OV w' B tp great last P K := h.chg (G := fun _ => False) (.of_below _ hb) fun _ _ => id
theorem OV.place (h : OV w B tp great last P K) : B ≤ tp ∧ tp < w.heap.size ∧ K tp := by
  obtain ⟨Mo, Mf, Ma, S, L, F, A, h1, h2, h3⟩ := h.ot
  exact ⟨h1.hM.2.1, h1.lt.1, h3 tp (.inl rfl)⟩
theorem OV.srt (h : OV w B tp great last P K) : (P.map (·.1)).Pairwise (· < ·) := by
  obtain ⟨Mo, Mf, Ma, S, L, F, A, h1, rfl, h3⟩ := h.ot
  rw [List.map_map]
  exact List.pairwise_map.2 (h1.srt.imp fun e => by simpa [Ofr.pl] using e.1)
theorem OV.num (h : OV w B tp great last P K) : ∀ x ∈ P, (1 ≤ x.1 ∧ x.1 ≤ last) ∧ (1 ≤ x.2.1 ∧ I64 x.2.1) ∧ (1 ≤ x.2.2.1 ∧ I64 x.2.2.1) ∧ x.2.2.2.1 ≠ [] ∧ VR x.2.2.2.1 ∧ I64 x.2.2.2.2 := by
  obtain ⟨Mo, Mf, Ma, S, L, F, A, h1, rfl, h3⟩ := h.ot
  intro x hx
  obtain ⟨y, hy, rfl⟩ := List.mem_map.1 hx
  exact h1.num y hy
theorem OV.cnt (h : OV w B tp great last P K) : 0 ≤ last ∧ last ≤ great ∧ great ≤ 9007199254740992 := by
  obtain ⟨Mo, Mf, Ma, S, L, F, A, h1, rfl, h3⟩ := h.ot
  exact h1.cnt
theorem vonew (w : World) {last : Int} (h0 : 0 ≤ last) (h1 : last ≤ 9007199254740992) : Calls Try.prog 30 #[.int .i64 last] w fun e w' => e = .returned (ptr (w.heap.size + 3)) ∧ OV w' w.heap.size (w.heap.size + 3) last 0 [] (fun b => w.heap.size ≤ b ∧ b < w'.heap.size) ∧ Below w.heap.size w w' := by
  refine (onew w h0 h1).mono ?_
  rintro e w' ⟨rfl, h, hb⟩
  exact ⟨rfl, ⟨⟨_, _, _, _, _, _, _, h, rfl, fun b hb => h.olt hb⟩, fun b hb => hb⟩, hb⟩
theorem vomade (h : OV w B tp great last P K) : Calls Try.prog 88 #[ptr tp] w fun e w' => e = .returned (.bool true) ∧ w' = w := by
  obtain ⟨Mo, Mf, Ma, S, L, F, A, h1, -⟩ := h.ot
  exact omade h1
theorem volast (h : OV w B tp great last P K) : Calls Try.prog 40 #[ptr tp] w fun e w' => e = .returned (.int .i64 last) ∧ w' = w := by
  obtain ⟨Mo, Mf, Ma, S, L, F, A, h1, -⟩ := h.ot
  exact olast h1
/-- What Get and Close answer. -/
def GotO (w w' : World) (P : List Pf) (k : Int) (e : Ending) : Prop := ∃ z : Ofr, e = .returned (.tuple #[ofval z, .bool (fndP P k).isSome]) ∧ z.pl = (fndP P k).getD (0, 0, 0, [], 0) ∧ Vc w' z.vv z.ps ∧ ∀ b, z.vv.ownBlock = some b → w.heap.size ≤ b
theorem voget (h : OV w B tp great last P K) {k : Int} (hk : I64 k) : Calls Try.prog 33 #[ptr tp, .int .i64 k] w fun e w' => GotO w w' P k e ∧ Below w.heap.size w w' := by
  obtain ⟨Mo, Mf, Ma, S, L, F, A, h1, rfl, -⟩ := h.ot
  unfold GotO
  rw [pl_fndO]
  cases hy : fndO S k with
  | none =>
    refine (oget_none h1 hk hy).mono ?_
    rintro e w' ⟨rfl, hb⟩
    exact ⟨⟨⟨0, 0, 0, .slice none 0 0, [], 0⟩, rfl, rfl, Vc.nil _, fun b hb => by cases hb⟩, hb⟩
  | some y =>
    refine (oget_some h1 hk hy).mono ?_
    rintro e w' ⟨u, rfl, hu, hb⟩
    exact ⟨⟨{ y with vv := u }, rfl, rfl, hu.vc, fun b hb => (hu.lt b hb).1⟩, hb⟩
end
end Go.Proofs.Ytnckjacbkhoppaa

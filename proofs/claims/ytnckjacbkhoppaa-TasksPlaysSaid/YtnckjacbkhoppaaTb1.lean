/- tasks: where ranging over the table's tasks stands. -/
import Derived.Test.YtnckjacbkhoppaaTaP
import Derived.Test.YtnckjacbkhoppaaTaS
import Derived.Test.YtnckjacbkhoppaaMapN
namespace Go.Proofs.Ytnckjacbkhoppaa
open Go.RowKit Go.Maps
attribute [local go_sem] ext_cell ext_frozen extC_cell extC_frozen Mix.calmUpon Mix.mUpon
theorem infoTk : (Try.prog.info? 95).map (fun i => (i.zero, i.size, i.bytes)) = some (some tkzero, 4, 48) := by kernel_rfl
theorem tkenc_len (x : Tk) : (tkenc x).length = 4 := rfl
theorem own_appT {w : World} {base : Nat} {v : Value} {l : List Tk} {b : Nat} (h : OwnL 95 4 tkenc w base v l) (x : Tk) (hx : KB w b x.frame x.id x.agent x.vv) (hv : x.vv.oneCell' = true) (hl : l.length < 1000000) (hb : base ≤ w.heap.size) :
    ∃ v' w', (Builtin.append_ #[91, 91] 91 #[v, .slice (some ⟨b, 0, none⟩) 1 1]).run Try.prog w = .ok v' w' ∧ OwnL 95 4 tkenc w' base v' (l ++ [x]) ∧ w.grownBy w' v.ownBlock ∧ (v'.ownBlock = v.ownBlock ∨ v'.ownBlock = some w.heap.size) := by
  obtain ⟨i0, hi, hz0, hz1, hz2⟩ := info_parts infoTk
  obtain ⟨x0, x1, x2, x3⟩ := hx.cells
  exact OwnL.app h Try.underlying91 hi hz0 hz1 hz2 rfl (by decide) tkenc_len x (fun j u hj => by
      rcases j with _ | _ | _ | _ | j <;> simp [tkenc] at hj
      · subst hj; exact x0
      · subst hj; exact x1
      · subst hj; exact x2
      · subst hj; exact x3) (fun u hu => by simp [tkenc] at hu; rcases hu with rfl | rfl | rfl | rfl <;> first | rfl | exact hv) (by omega) (by unfold maxLen; omega) hb
def entT (x : Tk) : K2 × Value := (tkey x, tkval x)
/-- The map's entries are the tasks, in whatever order. -/
theorem TT.ents {w : World} {B tp M : Nat} {cap : Int} {S : List Tk} {L : List (K2 × Value)} (h : TT w B tp M cap S L) : ∃ R : List Tk, L = R.map entT ∧ R.Perm S := by
  have hn := h.map.nodup
  have hat : ∀ p ∈ L, ∃ x, fndT S p.1 = some x ∧ entT x = p := fun p hp => by
    have h1 := look_of_mem hn (x := p.1) (v := p.2) hp
    rw [h.look] at h1
    cases hf : fndT S p.1 with
    | none => rw [hf] at h1; cases h1
    | some x =>
      rw [hf] at h1
      refine ⟨x, rfl, ?_⟩
      have h2 := (Srt.fnd_mem hf).2
      exact Prod.ext h2 (Option.some.inj h1)
  refine ⟨L.map fun p => (fndT S p.1).getD default, ?_, ?_⟩
  · rw [List.map_map]
    have : L.map id = L.map (entT ∘ fun p => (fndT S p.1).getD default) := List.map_congr_left fun p hp => by
      obtain ⟨x, h1, h2⟩ := hat p hp
      show p = entT ((fndT S p.1).getD default)
      rw [h1]; exact h2.symm
    rw [List.map_id] at this; exact this
  · have hk : ((L.map fun p => (fndT S p.1).getD default).map tkey) = L.map (·.1) := by
      rw [List.map_map]
      refine List.map_congr_left fun p hp => ?_
      obtain ⟨x, h1, h2⟩ := hat p hp
      show tkey ((fndT S p.1).getD default) = p.1
      rw [h1]; exact congrArg Prod.fst h2
    have hnR : ((L.map fun p => (fndT S p.1).getD default).map tkey).Nodup := by rw [hk]; exact hn
    have hnS : (S.map tkey).Nodup := List.pairwise_map.2 (h.srt.imp fun e => e.2)
    refine (List.perm_ext_iff_of_nodup ((List.pairwise_map.1 hnR).imp fun h e => h (by rw [e])) ((List.pairwise_map.1 hnS).imp fun h e => h (by rw [e]))).2 fun x => ?_
    constructor
    · intro hx
      obtain ⟨p, hp, rfl⟩ := List.mem_map.1 hx
      obtain ⟨x, h1, h2⟩ := hat p hp
      rw [h1]; exact (Srt.fnd_mem h1).1
    · intro hx
      have h1 : fndT S (tkey x) = some x := h.srt.fnd hx
      have h2 := h.look (tkey x)
      rw [h1] at h2
      exact List.mem_map.2 ⟨_, look_mem h2, by show (fndT S (tkey x)).getD default = x; rw [h1]; rfl⟩
/-- Where ranging over the tasks stands: D is done, R is to come, C are the copies of the ones that were wanted. -/
structure TG (W wr : World) (M it : Nat) (L : List (K2 × Value)) (S : List Tk) (p : Pk → Bool) (v : Value) (C D R : List Tk) : Prop where
  mi : MapI KP wr M it L (R.map entT)
  own : OwnL 95 4 tkenc wr W.heap.size v C
  perm : (D ++ R).Perm S
  pl : C.map Tk.pl = (D.map Tk.pl).filter p
  vec : ∀ x ∈ C, OwnP wr W.heap.size x.vv x.ps
  vb : ∀ x ∈ C, ∀ b, x.vv.ownBlock = some b → v.ownBlock ≠ some b ∧ b ≠ it
  bel : Below W.heap.size W wr
  it0 : W.heap.size ≤ it ∧ M < W.heap.size
  off : v.ownBlock ≠ some it
section
variable {W wr w3 w4 w5 : World} {M it : Nat} {L : List (K2 × Value)} {S : List Tk} {p : Pk → Bool} {v : Value} {C D R : List Tk}
theorem TG.len (h : TG W wr M it L S p v C D R) : C.length ≤ S.length := by
  have h1 := congrArg List.length h.pl
  have h2 := List.length_filter_le p (D.map Tk.pl)
  have h3 := h.perm.length_eq
  rw [List.length_map] at h1 h2
  rw [List.length_append] at h3
  omega
theorem TG.left (h : TG W wr M it L S p v C D R) : leftN wr M it = R.length := by rw [h.mi.left, List.length_map]
theorem TG.mem (h : TG W wr M it L S p v C D R) {j : Nat} {x : Tk} (hj : R[j]? = some x) : x ∈ S := h.perm.subset (List.mem_append_right _ (List.mem_of_getElem? hj))
theorem TG.on (h : TG W wr M it L S p v C D R) (hb : Below wr.heap.size wr w3) : TG W w3 M it L S p v C D R :=
  ⟨h.mi.below hb, h.own.below hb, h.perm, h.pl, fun x hx => ownsRow_chg (h.vec x hx) (.of_below (fun _ => False) hb) fun _ _ => id, h.vb, h.bel.trans (hb.mono h.bel.size), h.it0, h.off⟩
theorem TG.skip (h : TG W wr M it L S p v C D R) {j : Nat} {x : Tk} (hj : R[j]? = some x) (hmi : MapI KP w3 M it L ((R.map entT).eraseIdx j)) (hch : Chg (fun b => b = it) wr w3) (hp : p x.pl = false) : TG W w3 M it L S p v C (D ++ [x]) (R.eraseIdx j) :=
  ⟨by rw [ChangeMaps.map_eraseIdx]; exact hmi, h.own.chg hch fun b hb e => h.off (by rw [hb, e]),
    (by rw [List.append_assoc]; exact (List.Perm.append_left _ (erase_perm' hj)).trans h.perm),
    by rw [List.map_append, List.filter_append, ← h.pl]; simp [hp],
    fun y hy => ownsRow_chg (h.vec y hy) hch fun b hb => (h.vb y hy b hb).2, h.vb, h.bel.trans (hch.below h.bel.size fun k e => by rw [e]; exact h.it0.1), h.it0, h.off⟩
theorem TG.add (h : TG W wr M it L S p v C D R) {j : Nat} {x : Tk} (hj : R[j]? = some x) (hmi : MapI KP w3 M it L ((R.map entT).eraseIdx j)) (hch : Chg (fun b => b = it) wr w3) (hp : p x.pl = true)
    (hb4 : Below w3.heap.size w3 w4) {b : Nat} {u : Value} (hu : OwnP w4 w3.heap.size u x.ps) (hk : KB w4 b x.frame x.id x.agent u) (h1 : u.oneCell' = true) (hl : S.length < 1000000) :
    ∃ v' w5, (Builtin.append_ #[91, 91] 91 #[v, .slice (some ⟨b, 0, none⟩) 1 1]).run Try.prog w4 = .ok v' w5 ∧ TG W w5 M it L S p v' (C ++ [⟨x.frame, x.id, x.agent, u, x.ps⟩]) (D ++ [x]) (R.eraseIdx j) ∧ Chg (fun k => v.ownBlock = some k) w4 w5 ∧ Below w3.heap.size w3 w4 := by
  have own3 : OwnL 95 4 tkenc w3 W.heap.size v C := h.own.chg hch fun b hb e => h.off (by rw [hb, e])
  have bel3 : Below W.heap.size W w3 := h.bel.trans (hch.below h.bel.size fun k e => by rw [e]; exact h.it0.1)
  have hol := own3.lt
  have hsz := hb4.size
  have hcl := h.len
  obtain ⟨v2, w5, hra, o5, g5, b5⟩ := own_appT (own3.below hb4) ⟨x.frame, x.id, x.agent, u, x.ps⟩ hk h1 (by omega) (by have := bel3.size; omega)
  have hcg : Chg (fun k => v.ownBlock = some k) w4 w5 := .of_grown g5 fun k e => e
  have hit := hmi.lt
  refine ⟨v2, w5, hra, ⟨by rw [ChangeMaps.map_eraseIdx]; exact (hmi.below hb4).chg hcg (fun e => by have := (hol M e).1; have := h.it0.2; omega) (fun e => h.off e), o5,
    (by rw [List.append_assoc]; exact (List.Perm.append_left _ (erase_perm' hj)).trans h.perm),
    (by rw [List.map_append, List.map_append, List.filter_append, ← h.pl]; simp only [List.map_cons, List.map_nil, List.filter_cons, hp]; rfl), ?_, ?_, bel3.trans ((hb4.mono bel3.size).trans (hcg.below (by have := bel3.size; omega) fun k e => (hol k e).1)), h.it0, ?_⟩, hcg, hb4⟩
  · intro y hy
    rcases List.mem_append.1 hy with hy | hy
    · exact ownsRow_chg (ownsRow_chg (ownsRow_chg (h.vec y hy) hch fun b hb => (h.vb y hy b hb).2) (.of_below (fun _ => False) hb4) fun _ _ => id) hcg fun b hb e => (h.vb y hy b hb).1 e
    · rw [List.mem_singleton.1 hy]
      refine ownsRow_base (ownsRow_chg hu hcg fun b hb e => ?_) bel3.size
      have := (hu.lt b hb).1; have := (hol b e).2; omega
  · intro y hy b hb
    have hy3 : (b < w3.heap.size ∧ v.ownBlock ≠ some b ∧ b ≠ it) ∨ (w3.heap.size ≤ b ∧ b < w4.heap.size) := by
      rcases List.mem_append.1 hy with hy | hy
      · exact .inl ⟨Nat.lt_of_lt_of_le ((h.vec y hy).lt b hb).2 hch.size, h.vb y hy b hb⟩
      · rw [List.mem_singleton.1 hy] at hb
        exact .inr (hu.lt b hb)
    refine ⟨fun e => ?_, fun e => ?_⟩
    · rcases b5 with e5 | e5
      · rw [e5] at e
        rcases hy3 with ⟨_, h2, _⟩ | ⟨h2, _⟩
        · exact h2 e
        · have := (hol b e).2; omega
      · rw [e5] at e
        have : w4.heap.size = b := Option.some.inj e
        rcases hy3 with ⟨_, _, _⟩ | ⟨_, _⟩ <;> omega
    · rcases hy3 with ⟨_, _, h2⟩ | ⟨_, _⟩
      · exact h2 e
      · have := hit.2; omega
  · rcases b5 with e | e
    · rw [e]; exact h.off
    · rw [e]; intro h; injection h with h; have := hit.2; omega
/-- The copies that were wanted, when none is left: a list of its own in new memory. -/
theorem TG.keys (h : TG W wr M it L S p v C D []) (hS : Srt.In tkey ltT S) : (C.map tkey).Nodup ∧ (C.map Tk.pl).Perm ((S.map Tk.pl).filter p) := by
  have h1 := h.perm
  rw [List.append_nil] at h1
  have h2 : (C.map Tk.pl).Perm ((S.map Tk.pl).filter p) := by rw [h.pl]; exact (h1.map _).filter p
  refine ⟨?_, h2⟩
  have h3 : C.map tkey = (C.map Tk.pl).map pkey := by rw [List.map_map]; rfl
  rw [h3]
  have h4 : ((S.map Tk.pl).map pkey).Nodup := by
    rw [List.map_map]
    exact List.pairwise_map.2 (hS.imp fun e => e.2)
  exact ((h2.map pkey).nodup_iff).2 ((List.Sublist.map _ List.filter_sublist).nodup h4)
end
/-- A list of tasks that a call answers, in new memory. -/
def RetT (w : World) (P : List Pk) (e : Ending) (w' : World) : Prop := ∃ v l, e = .returned v ∧ TL w' v l ∧ l.map Tk.pl = P ∧ (∀ b, v.ownBlock = some b → w.heap.size ≤ b) ∧ (∀ x ∈ l, ∀ b, x.vv.ownBlock = some b → w.heap.size ≤ b) ∧ Below w.heap.size w w'
end Go.Proofs.Ytnckjacbkhoppaa

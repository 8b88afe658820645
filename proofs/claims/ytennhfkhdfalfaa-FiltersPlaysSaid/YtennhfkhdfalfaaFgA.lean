/- filters: All, and what a table that was not made answers. Laid together out of XFim, XFin, XFio, XFip. -/
import Derived.Test.YtennhfkhdfalfaaFi7
import Derived.Test.YtennhfkhdfalfaaCmO
import Derived.Test.YtennhfkhdfalfaaSortG
import Derived.Test.YtennhfkhdfalfaaSrtM
import Derived.Test.YtennhfkhdfalfaaLib4
import Derived.Test.YtennhfkhdfalfaaFid
import Derived.Test.YtennhfkhdfalfaaFig
namespace Go.Proofs.Ytennhfkhdfalfaa
section
open Go.RowKit Go.Maps
attribute [local go_sem] ext_cell ext_frozen extC_cell extC_frozen Mix.calmUpon Mix.mUpon
def flF (a b : Fl) : Bool := flt a.pl b.pl
theorem ordFl : Srt.Ord Fl.pl flF where
  irr a := ordF.irr a.pl
  trans a b c := ordF.trans a.pl b.pl c.pl
  tot a b := ordF.tot a.pl b.pl
/-- A sorted permutation of records with distinct keys stands in order. -/
theorem sorted_inF {α κ : Type} [Inhabited α] {key : α → κ} {lt : α → α → Bool} (O : Srt.Ord key lt) {l : List α} {d' : Array α} (hk : (l.map key).Nodup) (h1 : Go.Sort.PermIn 0 l.toArray.size l.toArray d') (h2 : Go.Sort.SortedIn lt 0 l.toArray.size d') : Srt.In key lt d'.toList ∧ d'.toList.Perm l := by
  obtain ⟨hs, _, hpp⟩ := h1
  have e1 : (d'.extract 0 l.toArray.size).toList = d'.toList := by rw [← hs, Array.extract_size]
  have e2 : (l.toArray.extract 0 l.toArray.size).toList = l := by rw [Array.extract_size]
  rw [e1, e2] at hpp
  have hkd : (d'.toList.map key).Nodup := (hpp.map key).nodup_iff.2 hk
  refine ⟨?_, hpp⟩
  rw [Srt.In, List.pairwise_iff_getElem]
  intro i j hi hj hij
  have hkk : key d'.toList[i] ≠ key d'.toList[j] := by
    have := List.pairwise_iff_getElem.1 hkd i j (by simpa using hi) (by simpa using hj) hij
    simpa using this
  have hi' : i < d'.size := by simpa using hi
  have hj' : j < d'.size := by simpa using hj
  have := h2 i j (Nat.zero_le _) hij (by rw [← hs]; exact hj')
  have a1 : d'[i]! = d'.toList[i] := by simp [hi']
  have a2 : d'[j]! = d'.toList[j] := by simp [hj']
  rw [a1, a2] at this
  exact ⟨O.tot _ _ this fun e => hkk e.symm, hkk⟩
/-- A filter whose vector is of the call's own, and not in the block blk. -/
def FG (w : World) (blk : Nat) (x : Fl) : Prop := ∃ base, OwnP w base x.vv x.ps ∧ x.vv.ownBlock ≠ some blk
abbrev FO (w : World) (blk : Nat) := { x : Fl // FG w blk x }
def fenc1 {w : World} {blk : Nat} (x : FO w blk) : List Value := flenc x.1
section
variable {w : World} {blk : Nat}
theorem toF : ∀ {l : List Fl}, (∀ x ∈ l, FG w blk x) → ∃ l1 : List (FO w blk), l1.map Subtype.val = l
  | [], _ => ⟨[], rfl⟩
  | x :: t, h => by
    obtain ⟨l1, h1⟩ := toF (l := t) fun y hy => h y (List.mem_cons_of_mem _ hy)
    exact ⟨⟨x, h x List.mem_cons_self⟩ :: l1, by rw [List.map_cons, h1]⟩
theorem rsF {w' : World} {v : Value} {l : List (FO w blk)} (h : RS 4 fenc1 w' v l) : RS 4 flenc w' v (l.map Subtype.val) := by
  obtain ⟨a, cap, h0, h1, h2, h3⟩ := h
  refine ⟨a, cap, by rw [List.length_map]; exact h0, by rw [List.length_map]; exact h1, h2, fun hne => ?_⟩
  obtain ⟨b, off, e, hb, hc⟩ := h3 (fun e => hne (by rw [e]; rfl))
  refine ⟨b, off, e, hb, fun i hi j u hu => hc i (by simpa using hi) j u ?_⟩
  rw [List.getElem_map] at hu
  exact hu
theorem ownF {w' : World} {base : Nat} {v : Value} {l : List (FO w blk)} (h : OwnL 72 4 flenc w' base v (l.map Subtype.val)) : OwnL 72 4 fenc1 w' base v l := by
  unfold OwnL at *
  rw [List.length_map, List.flatMap_map] at h
  exact h
open Go.Sort Go.Shelf in
theorem swoFO : SWO (ltOf fun x y : FO w blk => ford x.1.pl y.1.pl) where
  irrefl x := swoF.irrefl x.1.pl
  trans x y z := swoF.trans x.1.pl y.1.pl z.1.pl
  ntrans x y z := swoF.ntrans x.1.pl y.1.pl z.1.pl
theorem ordFO : Srt.Ord (fun x : FO w blk => Fl.pl x.1) (fun a b => flF a.1 b.1) where
  irr a := ordFl.irr a.1
  trans a b c := ordFl.trans a.1 b.1 c.1
  tot a b := ordFl.tot a.1 b.1
end
theorem OwnP.form1 {w : World} {base : Nat} {v : Value} {ps : List Pt} (h : OwnP w base v ps) : v.oneCell' = true := by
  obtain ⟨a, c, e, -, -⟩ := h.vc.form
  rw [e]; rfl
open Go.Sort Go.Shelf in
set_option maxHeartbeats 1000000 in
/-- slices.SortFunc by that order. -/
theorem fsort {w : World} {base : Nat} {v : Value} {l : List Fl} (h : OwnL 72 4 flenc w base v l) (hk : (l.map Fl.pl).Nodup) (hv : ∀ x ∈ l, OwnP w base x.vv x.ps) (ho : ∀ x ∈ l, ∀ q, x.vv.ownBlock = some q → v.ownBlock ≠ some q) (hln : l.length < 1000000) :
    Calls Try.prog 85 #[v, .func (.func 86) #[] #[]] w fun e w' => e = .returned (.tuple #[]) ∧ (∃ S, Srt.In Fl.pl flF S ∧ S.Perm l ∧ RS 4 flenc w' v S) ∧ Chg (fun b => v.ownBlock = some b) w w' := by
  by_cases hl : l = []
  · subst hl
    obtain ⟨p, cap, rfl⟩ : ∃ p cap, v = .slice p 0 cap := by
      rcases h.2 with ⟨rfl, _⟩ | ⟨g, cap, cur, rfl, _⟩
      · exact ⟨_, _, rfl⟩
      · exact ⟨_, _, rfl⟩
    have hcon := AnyF.slices_SortFunc_none Lb.Try.sortF p cap (.func (.func 86) #[] #[]) w
    change Calls Try.prog 85 _ _ _ at hcon
    refine hcon.mono ?_
    rintro e w' ⟨rfl, rfl⟩
    exact ⟨rfl, ⟨[], Srt.In.nil, .refl _, h.rs (fun _ => rfl)⟩, Chg.refl _ _⟩
  · letI : Inhabited Fl := ⟨⟨0, 0, 0, .slice none 0 0, []⟩⟩
    obtain ⟨blk, cap, rfl, -⟩ := own_holds h (fun _ => rfl) hl
    obtain ⟨l1, rfl⟩ := toF (w := w) (blk := blk) (l := l) fun x hx => ⟨base, hv x hx, fun e => ho x hx _ e rfl⟩
    have hl1 : l1 ≠ [] := fun e => hl (by rw [e]; rfl)
    obtain ⟨x0, hx0⟩ : ∃ x, x ∈ l1 := List.exists_mem_of_ne_nil l1 hl1
    letI : Inhabited (FO w blk) := ⟨x0⟩
    rw [List.map_map] at hk
    rw [List.length_map] at hln
    have h := ownF h
    obtain ⟨blk2, cap2, hsl, h1, h2, _, hb, hH⟩ := own_holds h (fun _ => rfl) hl1
    have hls : (l1.map Subtype.val).toArray.size = l1.toArray.size := by simp
    rw [hls] at hsl ⊢
    obtain ⟨rfl, rfl⟩ : blk2 = blk ∧ cap2 = cap := by
      simp only [Value.slice.injEq, Option.some.injEq, Addr.mk.injEq] at hsl
      exact ⟨hsl.1.1.symm, hsl.2.2.symm⟩
    have eg : ∀ args w, (callFunc 86 args).run Try.prog w = .ok (.enter 86 args) w := enters_of Try.func86 (by kernel_rfl) rfl
    have hgo : ∀ (x : FO w blk2) (w' : World), Chg (fun b => b = blk2) w w' → Vc w' x.1.vv x.1.ps := fun x w' hc => by
      obtain ⟨b0, h3, h4⟩ := x.2
      exact OwnP.vc (ownsRow_chg h3 hc fun q hq e => h4 (by rw [hq, show q = blk2 from e]))
    have hcmp : CmpLays Try.prog 86 #[] (fenc1 (w := w) (blk := blk2)) 4 (fun x y => ford x.1.pl y.1.pl) blk2 0 l1.toArray.size w := fun m os dk _ x y => by
      have hch := chg_sortWorldK (enc := fenc1 (w := w) (blk := blk2)) (k := 4) (w := w) blk2 0 m dk os
      exact (forder x.1 y.1 _ (hgo x _ hch) (hgo y _ hch)).mono fun e w' ⟨h3, h4⟩ => ⟨h3, h4.grown⟩
    have hm : l1.length < 4611686018427387904 := by omega
    have hcon := AnyQ.slices_SortFunc Lb.Try.sortF 4 Try.isAgg72 Try.sizeOf72 (fenc1 (w := w) (blk := blk2)) (fun _ => rfl) (fun x u hu => by
      simp only [fenc1, flenc, List.mem_cons, List.not_mem_nil, or_false] at hu
      rcases hu with rfl | rfl | rfl | rfl
      · rfl
      · rfl
      · rfl
      · obtain ⟨b0, h3, h4⟩ := x.2
        exact OwnP.form1 h3) (fun x y : FO w blk2 => ford x.1.pl y.1.pl) swoFO 86 #[] blk2 0 cap2 l1.toArray w eg hcmp hH hb (by simpa using hm)
    change Calls Try.prog 85 _ _ _ at hcon
    refine hcon.mono ?_
    rintro e w' ⟨rfl, d', n, os, hpm, hso, rfl⟩
    have hso' : SortedIn (fun a b : FO w blk2 => flF a.1 b.1) 0 l1.toArray.size d' := hso
    obtain ⟨hin, hpp⟩ := sorted_inF ordFO hk hpm hso'
    have hsz : d'.size = l1.toArray.size := hpm.1
    have hr := holds_rs (cap := cap2) (holdsK_sortWorldK_c (fenc1 (w := w) (blk := blk2)) 4 w blk2 0 l1.toArray d' n os hH hb hsz) (fun _ => rfl) (by rw [hsz]; simpa using h1) h2 (Nat.lt_of_lt_of_le hb (chg_sortWorldK blk2 0 n d' os).size)
    rw [hsz] at hr
    exact ⟨rfl, ⟨_, List.pairwise_map.2 hin, hpp.map _, rsF hr⟩, (chg_sortWorldK blk2 0 n d' os).mono fun k e => by rw [e]; rfl⟩
end
section
open Go.RowKit Go.Maps
attribute [local go_sem] ext_cell ext_frozen extC_cell extC_frozen Mix.calmUpon Mix.mUpon
abbrev plsF (p : K2 × Fx) : List Pf := p.2.l.map Fl.pl
/-- Where All stands: C are the copies, pend what is left of the list at hand, R the lists to come. -/
structure QG (W wr : World) (M it : Nat) (L : List (K2 × Value)) (S : List Pf) (v : Value) (C : List Fl) (pend : List Fl) (R : List (K2 × Fx)) : Prop where
  mi : MapI KP wr M it L (R.map entF)
  own : OwnL 72 4 flenc wr W.heap.size v C
  perm : (C.map Fl.pl ++ (pend.map Fl.pl ++ R.flatMap plsF)).Perm S
  vec : ∀ x ∈ C, OwnP wr W.heap.size x.vv x.ps
  vb : ∀ x ∈ C, ∀ b, x.vv.ownBlock = some b → v.ownBlock ≠ some b ∧ b ≠ it
  bel : Below W.heap.size W wr
  it0 : W.heap.size ≤ it ∧ M < W.heap.size
  off : v.ownBlock ≠ some it
section
variable {W wr w3 w4 w5 : World} {M it : Nat} {L : List (K2 × Value)} {S : List Pf} {v : Value} {C pend : List Fl} {R : List (K2 × Fx)}
theorem QG.len (h : QG W wr M it L S v C pend R) : C.length ≤ S.length := by
  have h3 := h.perm.length_eq
  simp only [List.length_map, List.length_append] at h3
  omega
theorem QG.left (h : QG W wr M it L S v C pend R) : leftN wr M it = R.length := by rw [h.mi.left, List.length_map]
theorem QG.below (h : QG W wr M it L S v C pend R) (hb : Below wr.heap.size wr w4) : QG W w4 M it L S v C pend R :=
  ⟨h.mi.below hb, h.own.below hb, h.perm, fun x hx => ownsRow_chg (h.vec x hx) (.of_below (fun _ => False) hb) fun _ _ => id, h.vb, h.bel.trans (hb.mono h.bel.size), h.it0, h.off⟩
theorem QG.next (h : QG W wr M it L S v C [] R) {j : Nat} {k : K2} {x : Fx} (hj : R[j]? = some (k, x)) (hmi : MapI KP w3 M it L ((R.map entF).eraseIdx j)) (hch : Chg (fun b => b = it) wr w3) : QG W w3 M it L S v C x.l (R.eraseIdx j) := by
  refine ⟨by rw [ChangeMaps.map_eraseIdx]; exact hmi, h.own.chg hch fun b hb e => h.off (by rw [hb, e]), ?_, fun y hy => ownsRow_chg (h.vec y hy) hch fun b hb e => (h.vb y hy b hb).2 e, h.vb, h.bel.trans (hch.below h.bel.size fun k e => by rw [e]; exact h.it0.1), h.it0, h.off⟩
  refine .trans (.append_left _ ?_) h.perm
  have h1 := (erase_perm' hj).flatMap_right plsF
  exact h1
theorem QG.add {f : Fl} (h : QG W wr M it L S v C (f :: pend) R) (hb4 : Below wr.heap.size wr w4) {b : Nat} {u : Value} (hu : OwnP w4 wr.heap.size u f.ps) (hk : FB w4 b f.fr f.ag f.ti u) (hl : S.length < 1000000) :
    ∃ v' w5, (Builtin.append_ #[68, 68] 68 #[v, .slice (some ⟨b, 0, none⟩) 1 1]).run Try.prog w4 = .ok v' w5 ∧ QG W w5 M it L S v' (C ++ [⟨f.fr, f.ag, f.ti, u, f.ps⟩]) pend R := by
  have h4 := h.below hb4
  have hol := h4.own.lt
  have hol0 := h.own.lt
  have hsz := hb4.size
  have hcl := h.len
  obtain ⟨v2, w5, hra, o5, g5, b5⟩ := own_appF h4.own ⟨f.fr, f.ag, f.ti, u, f.ps⟩ hk hu.form1 (by omega) (by have := h4.bel.size; omega)
  have hcg : Chg (fun k => v.ownBlock = some k) w4 w5 := .of_grown g5 fun k e => e
  have hit := h.mi.lt
  refine ⟨v2, w5, hra, ⟨h4.mi.chg hcg (fun e => by have := (hol M e).1; have := h.it0.2; omega) (fun e => h.off e), o5, ?_, ?_, ?_, h4.bel.trans (hcg.below h4.bel.size fun k e => (hol k e).1), h.it0, ?_⟩⟩
  · have e : (C ++ [(⟨f.fr, f.ag, f.ti, u, f.ps⟩ : Fl)]).map Fl.pl ++ (pend.map Fl.pl ++ R.flatMap plsF) = C.map Fl.pl ++ ((f :: pend).map Fl.pl ++ R.flatMap plsF) := by
      rw [List.map_append, List.append_assoc]; rfl
    rw [e]; exact h.perm
  · intro y hy
    rcases List.mem_append.1 hy with hy | hy
    · exact ownsRow_chg (h4.vec y hy) hcg fun b hb e => (h.vb y hy b hb).1 e
    · rw [List.mem_singleton.1 hy]
      refine ownsRow_base (ownsRow_chg hu hcg fun b hb e => ?_) h.bel.size
      have := (hu.lt b hb).1; have := (hol0 b e).2; omega
  · have off : ∀ b, ((b < wr.heap.size ∧ v.ownBlock ≠ some b ∧ b ≠ it) ∨ (wr.heap.size ≤ b ∧ b < w4.heap.size)) → v2.ownBlock ≠ some b ∧ b ≠ it := fun b hy3 => by
      refine ⟨fun e => ?_, fun e => ?_⟩
      · rcases b5 with e5 | e5
        · rw [e5] at e
          rcases hy3 with ⟨_, h2, _⟩ | ⟨h2, _⟩
          · exact h2 e
          · have := (hol0 b e).2; omega
        · rw [e5] at e
          have : w4.heap.size = b := Option.some.inj e
          rcases hy3 with ⟨_, _, _⟩ | ⟨_, _⟩ <;> omega
      · rcases hy3 with ⟨_, _, h2⟩ | ⟨_, _⟩
        · exact h2 e
        · have := hit.2; omega
    intro y hy
    rcases List.mem_append.1 hy with hy | hy
    · exact fun b hb => off b (.inl ⟨((h.vec y hy).lt b hb).2, h.vb y hy b hb⟩)
    · rw [List.mem_singleton.1 hy]
      exact fun b hb => off b (.inr (hu.lt b hb))
  · rcases b5 with e | e
    · rw [e]; exact h.off
    · rw [e]; intro h; injection h with h; have := hit.2; omega
end
/-- A list of filters that can be read. -/
structure FL (w : World) (v : Value) (l : List Fl) : Prop where
  rs : RS 4 flenc w v l
  vec : ∀ x ∈ l, Vc w x.vv x.ps
theorem FL.chg {w w' : World} {v : Value} {l : List Fl} {G : Nat → Prop} {base : Nat} (h : FL w v l) (hc : Chg G w w') (ho : ∀ q, v.ownBlock = some q → ¬ G q) (hv : ∀ x ∈ l, OwnP w base x.vv x.ps ∧ ∀ q, x.vv.ownBlock = some q → ¬ G q) : FL w' v l :=
  ⟨h.rs.chg hc ho, fun x hx => OwnP.vc (ownsRow_chg (hv x hx).1 hc (hv x hx).2)⟩
theorem FL.below {w w' : World} {v : Value} {l : List Fl} (h : FL w v l) (hb : Below w.heap.size w w') : FL w' v l := ⟨h.rs.below hb, fun x hx => (h.vec x hx).on hb⟩
/-- A list of filters that a call answers, in new memory, in order. -/
def RetF (w : World) (S : List Pf) (e : Ending) (w' : World) : Prop := ∃ v l, e = .returned v ∧ RS 4 flenc w' v l ∧ (∀ x ∈ l, OwnP w' w.heap.size x.vv x.ps) ∧ Srt.In (fun f : Pf => f) flt (l.map Fl.pl) ∧ (l.map Fl.pl).Perm S ∧ (∀ b, v.ownBlock = some b → w.heap.size ≤ b) ∧ Below w.heap.size w w'
end
section
open Go.RowKit Go.Maps
attribute [local go_sem] ext_cell ext_frozen extC_cell extC_frozen Mix.calmUpon Mix.mUpon
theorem flat_congr {α β : Type} {l : List α} {f g : α → List β} (h : ∀ x ∈ l, f x = g x) : l.flatMap f = l.flatMap g := by
  unfold List.flatMap
  rw [List.map_congr_left h]
theorem fk_parts : ∀ {K : List K2} {S : List Pf}, K.Nodup → (∀ f ∈ S, kx f ∈ K) → (K.flatMap (fk S)).Perm S
  | [], [], _, _ => .refl _
  | [], f :: t, _, h => by have := h f List.mem_cons_self; cases this
  | k :: K, S, hn, h => by
    have hk := List.nodup_cons.1 hn
    have e : K.flatMap (fk S) = K.flatMap (fk (S.filter fun f => !decide (kx f = k))) := flat_congr fun j hj => by
      unfold fk
      rw [List.filter_filter]
      refine List.filter_congr fun f _ => ?_
      by_cases e : kx f = j
      · have : ¬ j = k := fun e2 => hk.1 (by rw [← e2]; exact hj)
        simp [e, this]
      · simp [e]
    rw [List.flatMap_cons, e]
    have h1 := fk_parts (K := K) (S := S.filter fun f => !decide (kx f = k)) hk.2 fun f hf => by
      obtain ⟨h1, h2⟩ := List.mem_filter.1 hf
      rcases List.mem_cons.1 (h f h1) with h3 | h3
      · simp [h3] at h2
      · exact h3
    exact (List.Perm.append_left _ h1).trans (List.filter_append_perm _ S)
section
variable {W w : World} {tp M : Nat} {cap : Int} {F : K2 → Option Fx} {S : List Pf}
theorem FT.parts (h : FT W w tp M cap F S) {R : List (K2 × Fx)} (hrf : ∀ p ∈ R, F p.1 = some p.2) (hnd : (R.map (·.1)).Nodup) (hall : ∀ j x, F j = some x → j ∈ R.map (·.1)) : (R.flatMap plsF).Perm S := by
  have h1 := fk_parts (K := R.map (·.1)) (S := S) hnd fun f hf => by
    obtain ⟨x, hx⟩ := h.keys hf
    exact hall _ _ hx
  rw [List.flatMap_map] at h1
  have e : R.flatMap plsF = R.flatMap fun p => fk S p.1 := flat_congr fun p hp => by
    have h2 := h.pl p.1
    rw [hrf p hp] at h2
    exact h2.symm
  rw [e]; exact h1
set_option maxRecDepth 100000 in
set_option maxHeartbeats 4000000 in
theorem fall (h : FT W w tp M cap F S) (hln : S.length < 1000000) (hnd : S.Nodup) : Calls Try.prog 42 #[fptr tp] w (RetF w S) := by
  obtain ⟨L0, R0, hmk, hLR, hlk, hrf, hnd0, hall⟩ := h.ents
  obtain ⟨-, -, c2⟩ := h.cells
  have hl := h.lt.1
  obtain ⟨o, hrun, hmi⟩ := hmk.range Try.underlying90
  have HI := Lib.hid (show QG w (w.alloc o) M w.heap.size L0 S (.slice none 0 0) [] [] R0 from ⟨by rw [← hLR]; exact hmi, OwnL.nil _ _ _ _ _, h.parts hrf hnd0 hall, (fun x hx => by cases hx), (fun x hx => by cases hx), ba (Below.refl _ _) _, ⟨Nat.le_refl _, h.lt.2⟩, by simp [Value.ownBlock]⟩)
  have HM := Lib.hid (fmade h.toFQ)
  have H := Lib.hid h
  have HRF := Lib.hid hrf
  have HND := Lib.hid hnd
  clear h hmk hLR hlk hrf hnd0 hall hmi hnd
  go_enter Try.func42, Try.ntmps42
  go_wp2_with fail
  refine HM.out.mono ?_
  rintro e w1 ⟨rfl, rfl⟩
  go_wp2
  obtain ⟨it, hit⟩ : ∃ it, it = w1.heap.size := ⟨_, rfl⟩
  rw [← hit] at HI
  rw [← hit]
  have HIT := Lib.hid hit
  clear hit hrun c2 hl
  go_loopw [3] (fun lv wr => ∃ (C : List Fl) (R : List (K2 × Fx)), Hid (QG w1 wr M it L0 S lv C [] R) ∧ Hid (∀ p ∈ R, F p.1 = some p.2)) (fun _ wr => leftN wr M it)
  case atStart => exact ⟨[], R0, HI, HRF⟩
  case round =>
    clear HI HRF
    obtain ⟨C, R, HG, HF⟩ := hrel
    obtain ⟨w2, rfl⟩ : ∃ w2, w2 = wr := ⟨_, rfl⟩
    rcases HG.out.mi.next 0 with ⟨htd, hrn⟩ | ⟨pe, j, w3, hj, _, hrn, hre, hmi, hch⟩
    · obtain rfl : R = [] := by simpa using htd
      have hpp : (C.map Fl.pl).Perm S := by have := HG.out.perm; simpa using this
      have hcl := HG.out.len
      have HSRT := Lib.hid (fsort HG.out.own (hpp.nodup_iff.2 HND.out) HG.out.vec (fun x hx q hq => (HG.out.vb x hx q hq).1) (by omega))
      have HOW := Lib.hid HG.out.own.lt
      have HPP := Lib.hid hpp
      clear htd hpp hcl
      go_wp2_with fail
      refine HSRT.out.mono ?_
      rintro e w4 ⟨rfl, ⟨S', hs1, hs2, hrs⟩, hc⟩
      have HRS := Lib.hid (show RS 4 flenc w4 u3 S' ∧ (∀ x ∈ S', OwnP w4 w1.heap.size x.vv x.ps) ∧ Srt.In (fun f : Pf => f) flt (S'.map Fl.pl) ∧ (S'.map Fl.pl).Perm S from
        ⟨hrs, fun x hx => ownsRow_chg (HG.out.vec x (hs2.subset hx)) hc fun b hb e => (HG.out.vb x (hs2.subset hx) b hb).1 e,
          Srt.map_in (key := Fl.pl) (lt := flF) (key' := fun f : Pf => f) (lt' := flt) (f := Fl.pl) (fun _ => rfl) (fun _ _ => rfl) hs1, (hs2.map Fl.pl).trans HPP.out⟩)
      have HC4 := Lib.hid hc
      clear hrs hc hrn hs1 hs2
      go_wp2
      go_ret
      exact ⟨u3, S', rfl, HRS.out.1, HRS.out.2.1, HRS.out.2.2.1, HRS.out.2.2.2, fun b hb => (HOW.out b hb).1, ((Chg.of_below _ HG.out.bel).same HC4.out).below (Nat.le_refl _) fun k hk => (HOW.out k hk).1⟩
    · obtain ⟨⟨k, x⟩, hx, rfl⟩ := map_at hj
      have hfk : F k = some x := HF.out _ (mem_at hx)
      have hG3 := HG.out.next hx hmi hch
      have hjl : j < R.length := (List.getElem?_eq_some_iff.1 hx).1
      have hleft := HG.out.left
      have hxx := H.out.lst k x hfk
      have HVR := Lib.hid (show ∀ f ∈ x.l, f.ps.length < 1000000 from fun f hf => Nat.lt_of_le_of_lt (vr_len (H.out.toFQ.vok hfk hf).vr) (by decide))
      have HFR := Lib.hid (show ∀ p ∈ R.eraseIdx j, F p.1 = some p.2 from fun p hp => HF.out p (List.mem_of_mem_eraseIdx hp))
      obtain ⟨xb, xv, xl⟩ := x
      obtain ⟨a, n, c, hxv, hn, hnc, hcm, hat⟩ := (own_rs hxx.own).at_
      have hnm : n ≤ 9223372036854775807 := by unfold maxLen at hcm; omega
      clear hnc hcm
      simp only at hxv
      subst hxv
      have HX := Lib.hid hxx; have HG3 := Lib.hid hG3; have HN := Lib.hid hn; have HAT := Lib.hid hat
      have l0 := (hxx.lb.below hG3.bel).cell
      have ll := (hxx.lb.below hG3.bel).lt
      have HRN := Lib.hid (show (Instr.next (.pointer (some ⟨it, 0, none⟩)) false 0).run Try.prog w2 = .ok (.tuple #[.bool true, .agg #[.int .i64 k.a, .int .i64 k.b], .pointer (some ⟨xb, 0, none⟩)]) w3 from hrn)
      have HRE := Lib.hid (show (Instr.entry (.pointer (some ⟨it, 0, none⟩))).run Try.prog w3 = .ok (.tuple #[.agg #[.int .i64 k.a, .int .i64 k.b], .pointer (some ⟨xb, 0, none⟩)]) w3 from hre)
      simp only at l0 ll
      clear hrn hre hmi hch hx hj hfk hxx hG3 hn hat HG
      have hrn := HRN.out; have hre := HRE.out
      go_wp2_with fail
      clear hrn hre HRN HRE l0 ll
      go_loopw [3, 25] (fun lv iv wr => ∃ (i : Nat) (C : List Fl), i ≤ n ∧ iv = .int .i64 i ∧ Hid (QG w1 wr M it L0 S lv C (xl.drop i) (R.eraseIdx j))) (fun _ iv _ => n - (intOf iv).toNat)
      case atStart => exact ⟨0, C, Nat.zero_le _, rfl, HG3⟩
      case round =>
        clear HG3
        obtain ⟨i, C, hi, rfl, HQ⟩ := hrel
        obtain ⟨w4, rfl⟩ : ∃ w4, w4 = wr := ⟨_, rfl⟩
        by_cases hlt : i < n
        · have hts : (i : Int) < (n : Int) := by omega
          obtain ⟨f, hf⟩ := at_lt (l := xl) (i := i) (by have := HN.out; omega)
          obtain ⟨bs, off, rfl, hbs, hcell⟩ := HAT.out i f hf
          have hbw := HQ.out.bel
          have c0 := (hbw.cell (p := ⟨bs, _, none⟩) hbs).trans (hcell 0 _ rfl)
          have c1 := (hbw.cell (p := ⟨bs, _, none⟩) hbs).trans (hcell 1 _ rfl)
          have c2 := (hbw.cell (p := ⟨bs, _, none⟩) hbs).trans (hcell 2 _ rfl)
          have c3 := (hbw.cell (p := ⟨bs, _, none⟩) hbs).trans (hcell 3 _ rfl)
          simp only [Nat.add_zero] at c0
          have hbs4 : bs < w4.heap.size := Nat.lt_of_lt_of_le hbs hbw.size
          have hvc := (HX.out.vec f (mem_at hf)).vc.on hbw
          have hvl := HVR.out f (mem_at hf)
          have hq := HQ.out
          rw [drop_at hf] at hq
          obtain ⟨fi, fg, ft, fv, fp⟩ := f
          obtain ⟨va, vc, hvv, -, -⟩ := hvc.form
          simp only at hvv hvc hvl c0 c1 c2 c3
          subst hvv
          obtain ⟨m, hm⟩ : ∃ m, m = fp.length := ⟨_, rfl⟩
          rw [← hm] at c3 hvc
          rw [← hm] at hq
          have hb5 := ba (Below.refl w4.heap.size w4) (.cells #[.int .i64 fi, .int .i64 fg, .int .i64 ft, .slice va m vc] 72)
          have HK5 := Lib.hid (FB.made w4 fi fg ft (.slice va m vc))
          have HCP := Lib.hid (fcopied ⟨fi, fg, ft, .slice va m vc, fp⟩ _ (hvc.on hb5) hvl)
          have HQ4 := Lib.hid hq; have HB5 := Lib.hid hb5; have HMM := Lib.hid hm
          obtain ⟨x0, x1, x2, x3⟩ := HK5.out.cells
          have x4 := HK5.out.lt
          clear hcell hvc hvl hq hf hb5 hbw hbs hm HQ
          go_wp2_with fail
          clear c0 c1 c2 c3 hbs4 x0 x1 x2 x3 x4
          refine HCP.out.mono ?_
          rintro e w6 ⟨u, rfl, hu, hb6⟩
          obtain ⟨ua, uc, huv, -, -⟩ := hu.vc.form
          subst huv
          simp only at hu ⊢
          rw [← HMM.out] at hu ⊢
          have hb7 := ba (Below.refl w6.heap.size w6) (.cells #[.int .i64 fi, .int .i64 fg, .int .i64 ft, .slice ua m uc] 72)
          have hs5 := HB5.out.size
          obtain ⟨v', w8, hra, hG8⟩ := HQ4.out.add (bt HB5.out (bt hb6 hb7)) (u := .slice ua m uc) (ownsRow_base (ownsRow_chg hu (.of_below (fun _ => False) hb7) fun _ _ => id) hs5) (FB.made w6 fi fg ft (.slice ua m uc)) hln
          have HRA := Lib.hid hra; have HG8 := Lib.hid hG8
          clear hra hG8 hu hb6 hb7 hs5 HQ4
          go_wp2_with (at_builtin; refine wpList_app_run rfl _ _ _ rfl rfl rfl HRA.out ?_)
          go_roundw
          case rel => exact ⟨i + 1, _, by omega, by go_num, HG8⟩
          case measure => simp [intOf]; omega
        · obtain rfl : n = i := by omega
          have hq := HQ.out
          rw [List.drop_eq_nil_iff.2 (by have := HN.out; omega)] at hq
          have HQ5 := Lib.hid hq
          clear hq HQ
          go_wp2
          go_roundw
          case rel => exact ⟨_, _, HQ5, HFR⟩
          case measure =>
            have h1 := HQ5.out.left
            rw [List.length_eraseIdx, if_pos hjl] at h1
            show leftN _ M it < leftN _ M it
            omega
end
end
section
open Go.RowKit Go.Maps
attribute [local go_sem] ext_cell ext_frozen extC_cell extC_frozen Mix.calmUpon Mix.mUpon
/-- A plain table. -/
def FPL (w : World) (b : Nat) : Prop := w.heap[b]? = some (.cells #[.int .i64 0, .int .i64 0, .map none] 92 (0, 0))
theorem FPL.lt {w : World} {b : Nat} (h : FPL w b) : b < w.heap.size := (Array.getElem?_eq_some_iff.1 h).1
theorem FPL.below {w w' : World} {b : Nat} (h : FPL w b) (hb : Below w.heap.size w w') : FPL w' b := (hb.block b h.lt).trans h
theorem FPL.c2 {w : World} {b : Nat} (h : FPL w b) : w.cell? ⟨b, 2, none⟩ = some (.map none) := by unfold FPL at h; simp [World.cell?, h]
/-- A table that was not made. -/
def NoF (w : World) (v : Value) : Prop := ∀ w', Below w.heap.size w w' → Calls Try.prog 81 #[v] w' fun e w'' => e = .returned (.bool false) ∧ w'' = w'
theorem nof_nil (w : World) : NoF w (.pointer none) := fun w' _ => by
  go_enter Try.func81, Try.ntmps81
  go_wp2
  go_ret
  exact ⟨rfl, rfl⟩
theorem nof_plain {w : World} {b : Nat} (h : FPL w b) : NoF w (fptr b) := fun w' hb => by
  have h' := h.below hb
  have hl := h'.lt
  have c1 := h'.c2
  have hmn := fun w : World => Go.run_neq_map_nil (P := Try.prog) w 90 _ _ none Try.underlying90
  clear h h' hb
  go_enter Try.func81, Try.ntmps81
  go_wp2
  go_ret
  exact ⟨rfl, rfl⟩
section
variable {w : World} {v : Value}
theorem nfput (h : NoF w v) (i g t : Int) (a : Option Addr) (n c : Nat) : Calls Try.prog 45 #[v, .agg #[.int .i64 i, .int .i64 g, .int .i64 t, .slice a n c]] w fun e w' => e = .returned (.int .i64 40) ∧ Below w.heap.size w w' := by
  have hb := ba (Below.refl w.heap.size w) (.cells #[.int .i64 i, .int .i64 g, .int .i64 t, .slice a n c] 72)
  have H := Lib.hid (h _ hb)
  have HB := Lib.hid hb
  clear h hb
  go_enter Try.func45, Try.ntmps45
  go_wp2_with fail
  refine H.out.mono ?_
  rintro e w1 ⟨rfl, hw1⟩
  rw [hw1]
  clear hw1 w1
  go_wp2
  go_ret
  exact ⟨rfl, HB.out⟩
theorem nfblocks (h : NoF w v) (i g : Int) (a : Option Addr) (n c : Nat) : Calls Try.prog 38 #[v, .int .i64 i, .int .i64 g, .slice a n c] w fun e w' => e = .returned (.bool false) ∧ Below w.heap.size w w' := by
  have hb := ba (Below.refl w.heap.size w) (.cells #[.slice a n c] 32)
  have H := Lib.hid (h _ hb)
  have HB := Lib.hid hb
  clear h hb
  go_enter Try.func38, Try.ntmps38
  go_wp2_with fail
  refine H.out.mono ?_
  rintro e w1 ⟨rfl, hw1⟩
  rw [hw1]
  clear hw1 w1
  go_wp2
  go_ret
  exact ⟨rfl, HB.out⟩
theorem nfremove (h : NoF w v) (u : Value) : Calls Try.prog 94 #[v, u] w fun e w' => e = .returned (.int .i64 0) ∧ Below w.heap.size w w' := by
  have H := Lib.hid (h w (Below.refl _ _))
  clear h
  go_enter Try.func94, Try.ntmps94
  go_wp2_with fail
  refine H.out.mono ?_
  rintro e w1 ⟨rfl, hw1⟩
  rw [hw1]
  clear hw1 w1
  go_wp2
  go_ret
  exact ⟨rfl, Below.refl _ _⟩
theorem nfforget (h : NoF w v) (i : Int) : Calls Try.prog 47 #[v, .int .i64 i] w fun e w' => e = .returned (.int .i64 0) ∧ Below w.heap.size w w' := by
  have hb := ba (Below.refl w.heap.size w) (.cells #[.int .i64 i] 2)
  have H := Lib.hid (fun u => nfremove (v := v) (w := w.alloc (.cells #[.int .i64 i] 2)) (fun w' h' => h w' (bt hb h')) u)
  have HB := Lib.hid hb
  clear h hb
  go_enter Try.func47, Try.ntmps47
  go_wp2_with fail
  refine (H.out _).mono ?_
  rintro e w1 ⟨rfl, hw1⟩
  have HB1 := Lib.hid (bt HB.out hw1)
  clear hw1
  go_wp2
  go_ret
  exact ⟨rfl, HB1.out⟩
end
theorem quiet_extF {P : Program} {f : Nat} {args : Array Value} {v : Value} {W : World} (x : Ext W) (h : Calls P f args (ext W x) fun e w' => e = .returned v ∧ Below (ext W x).heap.size (ext W x) w') :
    Calls P f args (ext W x) fun e w'' => e = .returned v ∧ ∃ y, w'' = ext W y := h.mono fun _ _ ⟨he, hb⟩ => ⟨he, ext_of (bt (ext_below W x) hb)⟩
theorem dof_nodup {cap : Int} {S : List Pf} (h : S.Nodup) (a : Fa) : (dofP cap S a).Nodup := by
  unfold dofP putP
  split
  · split
    · split
      · exact h
      · rename_i hn
        split
        · exact h
        · refine List.nodup_append.2 ⟨h, List.pairwise_singleton _ _, fun x hx y hy e => ?_⟩
          rw [List.mem_singleton.1 hy] at e
          exact hn (e ▸ hx)
    · exact h
  · exact h.filter _
theorem dof_len' {cap : Int} {S : List Pf} (a : Fa) : (dofP cap S a).length ≤ S.length + 1 := by
  unfold dofP putP
  split
  · split
    · split
      · omega
      · split
        · omega
        · rw [List.length_append]; exact Nat.le_refl _
    · omega
  · exact Nat.le_trans (List.length_filter_le _ _) (Nat.le_succ _)
/-- How many of the first i stay. -/
def cntF (q : Pf → Bool) (P : List Pf) (i : Nat) : Nat := ((P.take i).filter q).length
theorem cntF_le (q : Pf → Bool) (P : List Pf) (i : Nat) : cntF q P i ≤ i := Nat.le_trans (List.length_filter_le _ _) (List.length_take_le _ _)
theorem cntF_next {q : Pf → Bool} {P : List Pf} {i : Nat} {x : Pf} (h : P[i]? = some x) : cntF q P (i + 1) = cntF q P i + (if q x = true then 1 else 0) := by
  unfold cntF
  rw [take_at h, List.filter_append, List.length_append]
  by_cases hq : q x = true
  · rw [if_pos hq]; simp [hq]
  · rw [if_neg hq]; simp [hq]
theorem cntF_at {q : Pf → Bool} {P : List Pf} {i : Nat} {x : Pf} (h : P[i]? = some x) (hq : q x = true) : (P.filter q)[cntF q P i]? = some x := by
  conv => lhs; rw [parted_at h]
  have e : (P.take i ++ x :: P.drop (i + 1)).filter q = (P.take i).filter q ++ x :: (P.drop (i + 1)).filter q := by
    rw [List.filter_append, List.filter_cons, if_pos hq]
  have h0 : P.take i ++ x :: P.drop (i + 1) = P := (parted_at h).symm
  rw [e]
  have e2 : cntF q (P.take i ++ x :: P.drop (i + 1)) i = ((P.take i).filter q).length := by rw [h0]; rfl
  rw [e2, List.getElem?_append_right (Nat.le_refl _), Nat.sub_self]; rfl
theorem cntF_all (q : Pf → Bool) (P : List Pf) : cntF q P P.length = (P.filter q).length := by unfold cntF; rw [List.take_length]
end
end Go.Proofs.Ytennhfkhdfalfaa

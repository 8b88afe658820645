/- agents: All: the table's agents in order. -/
import Derived.Test.YtennhfkhdfalfaaAg6
import Derived.Test.YtennhfkhdfalfaaSortG
import Derived.Test.YtennhfkhdfalfaaMapN
import Derived.Test.YtennhfkhdfalfaaLib2
import Derived.Test.YtennhfkhdfalfaaSrtM
namespace Go.Proofs.Ytennhfkhdfalfaa
open Go.RowKit Go.Maps
attribute [local go_sem] ext_cell ext_frozen extC_cell extC_frozen Mix.calmUpon Mix.mUpon
/-- An agent as it is told, in memory. -/
structure Qa where
  id : Int
  tv : Value
  tps : List Pt
  fv : Value
  fps : List Pt
abbrev Qa.pl (x : Qa) : Pa := (x.id, x.tps, x.fps)
abbrev qval (x : Qa) : Value := .agg #[.int .i64 x.id, x.tv, x.fv]
def qenc (x : Qa) : List Value := [.int .i64 x.id, x.tv, x.fv]
abbrev qkey (x : Qa) : Int := x.id
def qlt (a b : Qa) : Bool := decide (a.id < b.id)
theorem ordQ : Srt.Ord qkey qlt where
  irr := fun a => by simp [qlt]
  trans := fun a b c h k => by simp only [qlt, decide_eq_true_eq] at *; omega
  tot := fun a b h hne => by
    have h2 : a.id ≠ b.id := hne
    simp only [qlt, decide_eq_true_eq, decide_eq_false_iff_not] at *; omega
def cmpQ (x y : Qa) : Int := Go.Lib.compareInt x.id y.id
open Go.Sort Go.Shelf in
theorem ltQ (x y : Qa) : ltOf cmpQ x y = qlt x y := by
  unfold ltOf cmpQ Go.Lib.compareInt qlt
  by_cases h1 : x.id < y.id
  · simp [h1]
  · by_cases h2 : y.id < x.id <;> simp [h1, h2]
open Go.Sort Go.Shelf in
theorem swoQ : SWO (ltOf cmpQ) where
  irrefl x := by rw [ltQ]; simp [qlt]
  trans x y z h1 h2 := by rw [ltQ] at *; simp only [qlt, decide_eq_true_eq] at *; omega
  ntrans x y z h1 h2 := by rw [ltQ] at *; simp only [qlt, decide_eq_false_iff_not] at *; omega
open Go.Sort Go.Shelf in
set_option maxHeartbeats 1000000 in
theorem qcmp (x y : Qa) (W : World) : Calls Try.prog 69 #[qval x, qval y] W fun e w' => e = .returned (.int .i64 (cmpQ x y)) ∧ ∃ q os', w' = grow (W.drewN q) os' := by
  have hcon := fun W' => Go.Proofs.AnyG.cmp_Compare_int Lb.Try.cmp_Compare_int64 x.id y.id W'
  change ∀ W', Calls Try.prog 70 _ _ _ at hcon
  unfold cmpQ
  generalize Go.Lib.compareInt x.id y.id = r at hcon ⊢
  go_enter Try.func69, Try.ntmps69
  go_wp2_with (go_at_call 70; refine (hcon _).mono ?_; rintro e w' ⟨rfl, rfl⟩)
  go_ret
  exact ⟨rfl, 0, _, by rw [alloc_eq_grow, alloc_eq_grow, grow_grow]; rfl⟩
/-- A sorted permutation of records with distinct keys stands in order. -/
theorem sorted_in {α κ : Type} [Inhabited α] [DecidableEq κ] {key : α → κ} {lt : α → α → Bool} (O : Srt.Ord key lt) {l : List α} {d' : Array α} (hk : (l.map key).Nodup) (h1 : Go.Sort.PermIn 0 l.toArray.size l.toArray d') (h2 : Go.Sort.SortedIn lt 0 l.toArray.size d') : Srt.In key lt d'.toList ∧ d'.toList.Perm l := by
  obtain ⟨hs, _, hpp⟩ := h1
  have e1 : (d'.extract 0 l.toArray.size).toList = d'.toList := by rw [← hs, Array.extract_size]
  have e2 : (l.toArray.extract 0 l.toArray.size).toList = l := by rw [Array.extract_size]
  rw [e1, e2] at hpp
  have hkd : (d'.toList.map key).Nodup := (hpp.map key).nodup_iff.2 hk
  refine ⟨?_, hpp⟩
  rw [Srt.In, List.pairwise_iff_getElem]
  intro i j hi hj hij
  have hkk : key d'.toList[i] ≠ key d'.toList[j] := by
    have := List.pairwise_iff_getElem.1 hkd i j (by simpa using hi) (by simpa using hj) hij
    simpa using this
  have hi' : i < d'.size := by simpa using hi
  have hj' : j < d'.size := by simpa using hj
  have := h2 i j (Nat.zero_le _) hij (by rw [← hs]; exact hj')
  have a1 : d'[i]! = d'.toList[i] := by simp [hi']
  have a2 : d'[j]! = d'.toList[j] := by simp [hj']
  rw [a1, a2] at this
  exact ⟨O.tot _ _ this fun e => hkk e.symm, hkk⟩
/-- Agents whose vectors are one cell each (as every slice is). -/
abbrev Q1 := { x : Qa // x.tv.oneCell' = true ∧ x.fv.oneCell' = true }
instance : Inhabited Q1 := ⟨⟨⟨0, .slice none 0 0, [], .slice none 0 0, []⟩, rfl, rfl⟩⟩
def qenc1 (x : Q1) : List Value := qenc x.1
theorem ordQ1 : Srt.Ord (fun x : Q1 => qkey x.1) (fun a b => qlt a.1 b.1) where
  irr := fun a => ordQ.irr a.1
  trans := fun a b c => ordQ.trans a.1 b.1 c.1
  tot := fun a b => ordQ.tot a.1 b.1
open Go.Sort Go.Shelf in
theorem swoQ1 : SWO (ltOf fun x y : Q1 => cmpQ x.1 y.1) where
  irrefl x := swoQ.irrefl x.1
  trans x y z := swoQ.trans x.1 y.1 z.1
  ntrans x y z := swoQ.ntrans x.1 y.1 z.1
theorem toQ1 : ∀ {l : List Qa}, (∀ x ∈ l, x.tv.oneCell' = true ∧ x.fv.oneCell' = true) → ∃ l1 : List Q1, l1.map Subtype.val = l
  | [], _ => ⟨[], rfl⟩
  | x :: t, h => by
    obtain ⟨l1, h1⟩ := toQ1 (l := t) fun y hy => h y (List.mem_cons_of_mem _ hy)
    exact ⟨⟨x, h x List.mem_cons_self⟩ :: l1, by rw [List.map_cons, h1]⟩
theorem rsQ1 {w : World} {v : Value} {l : List Q1} (h : RS 3 qenc1 w v l) : RS 3 qenc w v (l.map Subtype.val) := by
  obtain ⟨a, cap, h0, h1, h2, h3⟩ := h
  refine ⟨a, cap, by rw [List.length_map]; exact h0, by rw [List.length_map]; exact h1, h2, fun hne => ?_⟩
  obtain ⟨b, off, e, hb, hc⟩ := h3 (fun e => hne (by rw [e]; rfl))
  refine ⟨b, off, e, hb, fun i hi j u hu => hc i (by simpa using hi) j u ?_⟩
  rw [List.getElem_map] at hu
  exact hu
theorem ownQ1 {w : World} {base : Nat} {v : Value} {l : List Q1} (h : OwnL 38 3 qenc w base v (l.map Subtype.val)) : OwnL 38 3 qenc1 w base v l := by
  unfold OwnL at *
  rw [List.length_map, List.flatMap_map] at h
  exact h
open Go.Sort Go.Shelf in
set_option maxHeartbeats 1000000 in
/-- slices.SortFunc by that order. -/
theorem qsort {w : World} {base : Nat} {v : Value} {l : List Qa} (h : OwnL 38 3 qenc w base v l) (hk : (l.map qkey).Nodup) (h1c : ∀ x ∈ l, x.tv.oneCell' = true ∧ x.fv.oneCell' = true) (hln : l.length < 1000000) : Calls Try.prog 68 #[v, .func (.func 69) #[] #[]] w fun e w' => e = .returned (.tuple #[]) ∧ (∃ S, Srt.In qkey qlt S ∧ S.Perm l ∧ RS 3 qenc w' v S) ∧ Chg (fun b => v.ownBlock = some b) w w' := by
  obtain ⟨l1, rfl⟩ := toQ1 h1c
  by_cases hl : l1 = []
  · subst hl
    obtain ⟨p, cap, rfl⟩ : ∃ p cap, v = .slice p 0 cap := by
      rcases h.2 with ⟨rfl, _⟩ | ⟨g, cap, cur, rfl, _⟩
      · exact ⟨_, _, rfl⟩
      · exact ⟨_, _, rfl⟩
    have hcon := AnyF.slices_SortFunc_none Lb.Try.sortG p cap (.func (.func 69) #[] #[]) w
    change Calls Try.prog 68 _ _ _ at hcon
    refine hcon.mono ?_
    rintro e w' ⟨rfl, rfl⟩
    exact ⟨rfl, ⟨[], Srt.In.nil, .refl _, h.rs (fun _ => rfl)⟩, Chg.refl _ _⟩
  · have h := ownQ1 h
    rw [List.map_map] at hk
    rw [List.length_map] at hln
    obtain ⟨blk, cap, rfl, h1, h2, _, hb, hH⟩ := own_holds h (fun _ => rfl) hl
    have eg : ∀ args w, (callFunc 69 args).run Try.prog w = .ok (.enter 69 args) w := enters_of Try.func69 (by kernel_rfl) rfl
    have hcmp : CmpLays Try.prog 69 #[] qenc1 3 (fun x y => cmpQ x.1 y.1) blk 0 l1.toArray.size w := fun _ _ _ _ x y => qcmp x.1 y.1 _
    have hm : l1.length < 4611686018427387904 := by omega
    have hcon := AnyQ.slices_SortFunc Lb.Try.sortG 3 Try.isAgg38 Try.sizeOf38 qenc1 (fun _ => rfl) (fun x u hu => by
      simp only [qenc1, qenc, List.mem_cons, List.not_mem_nil, or_false] at hu
      rcases hu with rfl | rfl | rfl
      · rfl
      · exact x.2.1
      · exact x.2.2) (fun x y : Q1 => cmpQ x.1 y.1) swoQ1 69 #[] blk 0 cap l1.toArray w eg hcmp hH hb (by simpa using hm)
    change Calls Try.prog 68 _ _ _ at hcon
    refine hcon.mono ?_
    rintro e w' ⟨rfl, d', n, os, hpm, hso, rfl⟩
    have hso' : SortedIn (fun a b : Q1 => qlt a.1 b.1) 0 l1.toArray.size d' := by
      have := hso
      unfold SortedIn at this ⊢
      intro i j hi hij hj
      have h := this i j hi hij hj
      exact (ltQ _ _).symm.trans h
    obtain ⟨hin, hpp⟩ := sorted_in ordQ1 hk hpm hso'
    have hsz : d'.size = l1.toArray.size := hpm.1
    have hr := holds_rs (cap := cap) (holdsK_sortWorldK_c qenc1 3 w blk 0 l1.toArray d' n os hH hb hsz) (fun _ => rfl) (by rw [hsz]; simpa using h1) h2 (Nat.lt_of_lt_of_le hb (chg_sortWorldK blk 0 n d' os).size)
    rw [hsz] at hr
    exact ⟨rfl, ⟨_, List.pairwise_map.2 hin, hpp.map _, rsQ1 hr⟩, (chg_sortWorldK blk 0 n d' os).mono fun k e => by rw [e]; rfl⟩
theorem infoQ : (Try.prog.info? 38).map (fun i => (i.zero, i.size, i.bytes)) = some (some (.agg #[.int .i64 0, .slice none 0 0, .slice none 0 0]), 3, 56) := by kernel_rfl
theorem qenc_len (x : Qa) : (qenc x).length = 3 := rfl
theorem own_appQ {w : World} {base : Nat} {v : Value} {l : List Qa} {b : Nat} (h : OwnL 38 3 qenc w base v l) (x : Qa) (hx : QB w b x.id x.tv x.fv) (hv : x.tv.oneCell' = true ∧ x.fv.oneCell' = true) (hl : l.length < 1000000) (hb : base ≤ w.heap.size) :
    ∃ v' w', (Builtin.append_ #[27, 27] 27 #[v, .slice (some ⟨b, 0, none⟩) 1 1]).run Try.prog w = .ok v' w' ∧ OwnL 38 3 qenc w' base v' (l ++ [x]) ∧ w.grownBy w' v.ownBlock ∧ (v'.ownBlock = v.ownBlock ∨ v'.ownBlock = some w.heap.size) := by
  obtain ⟨i0, hi, hz0, hz1, hz2⟩ := info_parts infoQ
  obtain ⟨x0, x1, x2⟩ := hx.cells
  exact OwnL.app h Try.underlying27 hi hz0 hz1 hz2 rfl (by decide) qenc_len x (fun j u hj => by
      rcases j with _ | _ | _ | j <;> simp [qenc] at hj
      · subst hj; exact x0
      · subst hj; exact x1
      · subst hj; exact x2) (fun u hu => by simp [qenc] at hu; rcases hu with rfl | rfl | rfl <;> first | rfl | exact hv.1 | exact hv.2) (by omega) (by unfold maxLen; omega) hb
def entA (p : Int × Ag) : Int × Value := (p.1, agval p.2)
abbrev plA (p : Int × Ag) : Pa := (p.1, p.2.tps, p.2.fps)
/-- The map's entries are the agents, in whatever order. -/
theorem AT.ents {W w : World} {tp M : Nat} {cap most : Int} {F : Int → Option Ag} {S : List Pa} (h : AT W w tp M cap most F S) : ∃ (L : List (Int × Value)) (R : List (Int × Ag)), MapK K64 w M L ∧ L = R.map entA ∧ (R.map plA).Perm S ∧ ∀ p ∈ R, F p.1 = some p.2 := by
  obtain ⟨L, hm, hl⟩ := h.map
  have hn := hm.nodup
  have hat : ∀ p ∈ L, ∃ x, F p.1 = some x ∧ agval x = p.2 := fun p hp => by
    have h1 := look_of_mem hn (x := p.1) (v := p.2) hp
    rw [hl] at h1
    cases hf : F p.1 with
    | none => rw [hf] at h1; cases h1
    | some x => rw [hf] at h1; exact ⟨x, rfl, Option.some.inj h1⟩
  obtain ⟨g, hg⟩ : ∃ g : Int → Ag, g = fun k => (F k).getD ⟨.slice none 0 0, [], .slice none 0 0, []⟩ := ⟨_, rfl⟩
  have hgp : ∀ p ∈ L, F p.1 = some (g p.1) ∧ agval (g p.1) = p.2 := fun p hp => by
    obtain ⟨x, h1, h2⟩ := hat p hp
    have e : g p.1 = x := by rw [hg]; show (F p.1).getD _ = x; rw [h1]; rfl
    rw [e]; exact ⟨h1, h2⟩
  refine ⟨L, L.map fun p => (p.1, g p.1), hm, ?_, ?_, ?_⟩
  · rw [List.map_map]
    have : L.map id = L.map (entA ∘ fun p => (p.1, g p.1)) := List.map_congr_left fun p hp => by
      show p = (p.1, agval (g p.1))
      rw [(hgp p hp).2]
    rw [List.map_id] at this; exact this
  · rw [List.map_map]
    have hnR : (L.map (plA ∘ fun p => (p.1, g p.1))).Nodup := by
      have : ((L.map (plA ∘ fun p => (p.1, g p.1))).map akey) = L.map (·.1) := by rw [List.map_map]; rfl
      exact (List.pairwise_map.1 (by rw [this]; exact hn : ((L.map (plA ∘ fun p => (p.1, g p.1))).map akey).Nodup)).imp fun h e => h (by rw [e])
    have hnS : S.Nodup := (List.pairwise_map.1 (List.pairwise_map.2 (h.ain.srt.imp fun e => e.2) : (S.map akey).Nodup)).imp fun h e => h (by rw [e])
    refine (List.perm_ext_iff_of_nodup hnR hnS).2 fun x => ?_
    constructor
    · intro hx
      obtain ⟨p, hp, rfl⟩ := List.mem_map.1 hx
      have h1 := h.pl p.1
      rw [(hgp p hp).1] at h1
      exact (Srt.fnd_mem h1).1
    · intro hx
      have h1 : fndA S (akey x) = some x := h.ain.srt.fnd hx
      have h2 := h.pl (akey x)
      rw [h1] at h2
      cases hf : F (akey x) with
      | none => rw [hf] at h2; cases h2
      | some y =>
        rw [hf] at h2
        have h3 := hl (akey x)
        rw [hf] at h3
        have h4 := look_mem h3
        refine List.mem_map.2 ⟨_, h4, ?_⟩
        have h5 := (hgp _ h4).1
        have e : g (akey x) = y := by
          have : some (g (akey x)) = some y := h5.symm.trans hf
          exact Option.some.inj this
        show (akey x, (g (akey x)).tps, (g (akey x)).fps) = x
        rw [e]; exact (Option.some.inj h2).symm
  · intro p hp
    obtain ⟨q, hq, rfl⟩ := List.mem_map.1 hp
    exact (hgp q hq).1
/-- Where ranging over the agents stands: D is done, R is to come, C are the copies. -/
structure AG (W wr : World) (M it : Nat) (L : List (Int × Value)) (S : List Pa) (v : Value) (C : List Qa) (D R : List (Int × Ag)) : Prop where
  mi : MapI K64 wr M it L (R.map entA)
  own : OwnL 38 3 qenc wr W.heap.size v C
  perm : ((D ++ R).map plA).Perm S
  pl : C.map Qa.pl = D.map plA
  vec : ∀ x ∈ C, OwnP wr W.heap.size x.tv x.tps ∧ OwnP wr W.heap.size x.fv x.fps
  vb : ∀ x ∈ C, (∀ b, x.tv.ownBlock = some b → v.ownBlock ≠ some b ∧ b ≠ it) ∧ ∀ b, x.fv.ownBlock = some b → v.ownBlock ≠ some b ∧ b ≠ it
  bel : Below W.heap.size W wr
  it0 : W.heap.size ≤ it ∧ M < W.heap.size
  off : v.ownBlock ≠ some it
section
variable {W wr w3 w4 w5 : World} {M it : Nat} {L : List (Int × Value)} {S : List Pa} {v : Value} {C : List Qa} {D R : List (Int × Ag)}
theorem AG.len (h : AG W wr M it L S v C D R) : C.length ≤ S.length := by
  have h1 := congrArg List.length h.pl
  have h3 := h.perm.length_eq
  simp only [List.length_map, List.length_append] at h1 h3
  omega
theorem AG.left (h : AG W wr M it L S v C D R) : leftN wr M it = R.length := by rw [h.mi.left, List.length_map]
theorem AG.add (h : AG W wr M it L S v C D R) {j : Nat} {k : Int} {x : Ag} (hj : R[j]? = some (k, x)) (hmi : MapI K64 w3 M it L ((R.map entA).eraseIdx j)) (hch : Chg (fun b => b = it) wr w3)
    (hb4 : Below w3.heap.size w3 w4) {b : Nat} {u u' : Value} (hu : OwnP w4 w3.heap.size u x.tps) (hu' : OwnP w4 w3.heap.size u' x.fps) (hk : QB w4 b k u u') (h1 : u.oneCell' = true ∧ u'.oneCell' = true) (hl : S.length < 1000000) :
    ∃ v' w5, (Builtin.append_ #[27, 27] 27 #[v, .slice (some ⟨b, 0, none⟩) 1 1]).run Try.prog w4 = .ok v' w5 ∧ AG W w5 M it L S v' (C ++ [⟨k, u, x.tps, u', x.fps⟩]) (D ++ [(k, x)]) (R.eraseIdx j) ∧ Chg (fun k => v.ownBlock = some k) w4 w5 ∧ Below w3.heap.size w3 w4 := by
  have own3 : OwnL 38 3 qenc w3 W.heap.size v C := h.own.chg hch fun b hb e => h.off (by rw [hb, e])
  have bel3 : Below W.heap.size W w3 := h.bel.trans (hch.below h.bel.size fun k e => by rw [e]; exact h.it0.1)
  have hol := own3.lt
  have hsz := hb4.size
  have hcl := h.len
  obtain ⟨v2, w5, hra, o5, g5, b5⟩ := own_appQ (own3.below hb4) ⟨k, u, x.tps, u', x.fps⟩ hk h1 (by omega) (by have := bel3.size; omega)
  have hcg : Chg (fun k => v.ownBlock = some k) w4 w5 := .of_grown g5 fun k e => e
  have hit := hmi.lt
  have old : ∀ {z : Value} {ps : List Pt}, OwnP wr W.heap.size z ps → (∀ b, z.ownBlock = some b → v.ownBlock ≠ some b ∧ b ≠ it) → OwnP w5 W.heap.size z ps := fun hz hv =>
    ownsRow_chg (ownsRow_chg (ownsRow_chg hz hch fun b hb => (hv b hb).2) (.of_below (fun _ => False) hb4) fun _ _ => id) hcg fun b hb e => (hv b hb).1 e
  have new : ∀ {z : Value} {ps : List Pt}, OwnP w4 w3.heap.size z ps → OwnP w5 W.heap.size z ps := fun hz => by
    refine ownsRow_base (ownsRow_chg hz hcg fun b hb e => ?_) bel3.size
    have := (hz.lt b hb).1; have := (hol b e).2; omega
  have off : ∀ b, ((b < w3.heap.size ∧ v.ownBlock ≠ some b ∧ b ≠ it) ∨ (w3.heap.size ≤ b ∧ b < w4.heap.size)) → v2.ownBlock ≠ some b ∧ b ≠ it := fun b hy3 => by
    refine ⟨fun e => ?_, fun e => ?_⟩
    · rcases b5 with e5 | e5
      · rw [e5] at e
        rcases hy3 with ⟨_, h2, _⟩ | ⟨h2, _⟩
        · exact h2 e
        · have := (hol b e).2; omega
      · rw [e5] at e
        have : w4.heap.size = b := Option.some.inj e
        rcases hy3 with ⟨_, _, _⟩ | ⟨_, _⟩ <;> omega
    · rcases hy3 with ⟨_, _, h2⟩ | ⟨_, _⟩
      · exact h2 e
      · have := hit.2; omega
  refine ⟨v2, w5, hra, ⟨by rw [ChangeMaps.map_eraseIdx]; exact (hmi.below hb4).chg hcg (fun e => by have := (hol M e).1; have := h.it0.2; omega) (fun e => h.off e), o5,
    (by rw [List.append_assoc]; exact ((List.Perm.append_left _ (erase_perm' hj)).map _).trans h.perm),
    (by rw [List.map_append, List.map_append, ← h.pl]; rfl), ?_, ?_, bel3.trans ((hb4.mono bel3.size).trans (hcg.below (by have := bel3.size; omega) fun k e => (hol k e).1)), h.it0, ?_⟩, hcg, hb4⟩
  · intro y hy
    rcases List.mem_append.1 hy with hy | hy
    · exact ⟨old (h.vec y hy).1 (h.vb y hy).1, old (h.vec y hy).2 (h.vb y hy).2⟩
    · rw [List.mem_singleton.1 hy]; exact ⟨new hu, new hu'⟩
  · intro y hy
    rcases List.mem_append.1 hy with hy | hy
    · exact ⟨fun b hb => off b (.inl ⟨Nat.lt_of_lt_of_le ((h.vec y hy).1.lt b hb).2 hch.size, (h.vb y hy).1 b hb⟩), fun b hb => off b (.inl ⟨Nat.lt_of_lt_of_le ((h.vec y hy).2.lt b hb).2 hch.size, (h.vb y hy).2 b hb⟩)⟩
    · rw [List.mem_singleton.1 hy]
      exact ⟨fun b hb => off b (.inr (hu.lt b hb)), fun b hb => off b (.inr (hu'.lt b hb))⟩
  · rcases b5 with e | e
    · rw [e]; exact h.off
    · rw [e]; intro h; injection h with h; have := hit.2; omega
/-- The copies, when none is left. -/
theorem AG.keys (h : AG W wr M it L S v C D []) (hS : Srt.In akey altP S) : (C.map qkey).Nodup ∧ (C.map Qa.pl).Perm S := by
  have h1 := h.perm
  rw [List.append_nil] at h1
  have h2 : (C.map Qa.pl).Perm S := by rw [h.pl]; exact h1
  refine ⟨?_, h2⟩
  have h3 : C.map qkey = (C.map Qa.pl).map akey := by rw [List.map_map]; rfl
  rw [h3]
  have h4 : (S.map akey).Nodup := List.pairwise_map.2 (hS.imp fun e => e.2)
  exact ((h2.map akey).nodup_iff).2 h4
end
/-- A list of agents that can be read. -/
structure AL (w : World) (v : Value) (l : List Qa) : Prop where
  rs : RS 3 qenc w v l
  vec : ∀ x ∈ l, Vc w x.tv x.tps ∧ Vc w x.fv x.fps
theorem AL.below {w w' : World} {v : Value} {l : List Qa} (h : AL w v l) (hb : Below w.heap.size w w') : AL w' v l := ⟨h.rs.below hb, fun x hx => ⟨(h.vec x hx).1.on hb, (h.vec x hx).2.on hb⟩⟩
/-- A list of agents that a call answers, in new memory. -/
def RetA (w : World) (P : List Pa) (e : Ending) (w' : World) : Prop := ∃ v l, e = .returned v ∧ AL w' v l ∧ l.map Qa.pl = P ∧ (∀ b, v.ownBlock = some b → w.heap.size ≤ b) ∧ (∀ x ∈ l, (∀ b, x.tv.ownBlock = some b → w.heap.size ≤ b) ∧ ∀ b, x.fv.ownBlock = some b → w.heap.size ≤ b) ∧ Below w.heap.size w w'
section
variable {W w w' : World} {tp M : Nat} {cap most : Int} {F : Int → Option Ag} {S : List Pa}
set_option maxRecDepth 100000 in
set_option maxHeartbeats 4000000 in
theorem aall (h : AT W w tp M cap most F S) (hln : S.length < 1000000) : Calls Try.prog 19 #[ptr tp] w (RetA w S) := by
  obtain ⟨L, R0, hmk, hLR, hR, hRF⟩ := h.ents
  obtain ⟨-, -, c2, -⟩ := h.cells
  have hl := h.lt.1
  obtain ⟨o, hrun, hmi⟩ := hmk.range Try.underlying50
  have HI := Lib.hid (show AG w (w.alloc o) M w.heap.size L S (.slice none 0 0) [] [] R0 from ⟨by rw [← hLR]; exact hmi, OwnL.nil _ _ _ _ _, by simpa using hR, rfl, (fun x hx => by cases hx), (fun x hx => by cases hx), ba (Below.refl _ _) _, ⟨Nat.le_refl _, h.lt.2⟩, by simp [Value.ownBlock]⟩)
  have HM := Lib.hid (amade h)
  have H := Lib.hid h
  have HRF := Lib.hid hRF
  have HR0 := Lib.hid hR
  clear h hR hLR hmi hmk hRF
  go_enter Try.func19, Try.ntmps19
  go_wp2_with fail
  refine HM.out.mono ?_
  rintro e w1 ⟨rfl, rfl⟩
  go_wp2
  obtain ⟨it, hit⟩ : ∃ it, it = w1.heap.size := ⟨_, rfl⟩
  rw [← hit] at HI
  rw [← hit]
  have HIT := Lib.hid hit
  clear hit hrun c2 hl
  go_loopw [3] (fun lv wr => ∃ (C : List Qa) (D R : List (Int × Ag)), Hid (AG w1 wr M it L S lv C D R) ∧ Hid (∀ p ∈ R, F p.1 = some p.2)) (fun _ wr => leftN wr M it)
  case atStart => exact ⟨[], [], R0, HI, HRF⟩
  case round =>
    clear HI HRF
    obtain ⟨C, D, R, HG, HF⟩ := hrel
    obtain ⟨w2, rfl⟩ : ∃ w2, w2 = wr := ⟨_, rfl⟩
    rcases HG.out.mi.next 0 with ⟨htd, hrn⟩ | ⟨pe, j, w3, hj, _, hrn, hre, hmi, hch⟩
    · obtain rfl : R = [] := by simpa using htd
      have hkk := HG.out.keys H.out.ain.srt
      have hcl := HG.out.len
      have HSRT := Lib.hid (qsort HG.out.own hkk.1 (fun x hx => by
        obtain ⟨xa, xc, hxv, -, -⟩ := (HG.out.vec x hx).1.vc.form
        obtain ⟨ya, yc, hyv, -, -⟩ := (HG.out.vec x hx).2.vc.form
        rw [hxv, hyv]; exact ⟨rfl, rfl⟩) (by omega))
      have HOW := Lib.hid HG.out.own.lt
      have HPP := Lib.hid hkk.2
      clear htd hkk hcl
      go_wp2_with fail
      refine HSRT.out.mono ?_
      rintro e w4 ⟨rfl, ⟨S', hs1, hs2, hrs⟩, hc⟩
      have HRS := Lib.hid (show AL w4 u3 S' ∧ S'.map Qa.pl = S from ⟨⟨hrs, fun x hx => by
          have hxC := hs2.subset hx
          exact ⟨OwnP.vc (ownsRow_chg (HG.out.vec x hxC).1 hc fun b hb e => ((HG.out.vb x hxC).1 b hb).1 e), OwnP.vc (ownsRow_chg (HG.out.vec x hxC).2 hc fun b hb e => ((HG.out.vb x hxC).2 b hb).1 e)⟩⟩,
        Srt.In.ext ordA (Srt.map_in (key := qkey) (lt := qlt) (key' := akey) (lt' := altP) (f := Qa.pl) (fun _ => rfl) (fun _ _ => rfl) hs1) H.out.ain.srt fun x => ((hs2.map Qa.pl).trans HPP.out).mem_iff⟩)
      have HRV := Lib.hid (show ∀ x ∈ S', (∀ b, x.tv.ownBlock = some b → w1.heap.size ≤ b) ∧ ∀ b, x.fv.ownBlock = some b → w1.heap.size ≤ b from fun x hx => ⟨fun b hb => ((HG.out.vec x (hs2.subset hx)).1.lt b hb).1, fun b hb => ((HG.out.vec x (hs2.subset hx)).2.lt b hb).1⟩)
      have HC4 := Lib.hid hc
      clear hrs hc hrn hs1 hs2
      go_wp2
      go_ret
      exact ⟨u3, S', rfl, HRS.out.1, HRS.out.2, fun b hb => (HOW.out b hb).1, HRV.out, ((Chg.of_below _ HG.out.bel).same HC4.out).below (Nat.le_refl _) fun k hk => (HOW.out k hk).1⟩
    · obtain ⟨⟨k, x⟩, hx, rfl⟩ := map_at hj
      have hfk : F k = some x := HF.out _ (List.mem_of_getElem? hx)
      have hbel3 : Below w1.heap.size w1 w3 := HG.out.bel.trans (hch.below HG.out.bel.size fun k e => by rw [e]; exact HG.out.it0.1)
      have hjl : j < R.length := (List.getElem?_eq_some_iff.1 hx).1
      have hk64 : I64 k := (H.out.some_ok hfk).2.i64
      have hleft := HG.out.left
      have HA := Lib.hid (aget_some (H.out.below hbel3) hk64 hfk)
      have HMI := Lib.hid hmi; have HCH := Lib.hid hch; have HX := Lib.hid hx; have HB3 := Lib.hid hbel3
      have HFR := Lib.hid (show ∀ p ∈ R.eraseIdx j, F p.1 = some p.2 from fun p hp => HF.out p (List.mem_of_mem_eraseIdx hp))
      obtain ⟨tv, tps, fv, fps⟩ := x
      have HRN := Lib.hid (show (Instr.next (.pointer (some ⟨it, 0, none⟩)) false 0).run Try.prog w2 = .ok (.tuple #[.bool true, .int .i64 k, .agg #[tv, fv]]) w3 from hrn)
      have HRE := Lib.hid (show (Instr.entry (.pointer (some ⟨it, 0, none⟩))).run Try.prog w3 = .ok (.tuple #[.int .i64 k, .agg #[tv, fv]]) w3 from hre)
      clear hrn hre hmi hch hx hbel3 hj hfk hk64
      have hrn := HRN.out; have hre := HRE.out
      go_wp2_with fail
      clear hrn hre
      refine HA.out.mono ?_
      rintro e w4 ⟨u, v, rfl, hu, hv, hb4⟩
      obtain ⟨ua, uc, rfl, -, -⟩ := hu.vc.form
      obtain ⟨va, vc, rfl, -, -⟩ := hv.vc.form
      simp only at hu hv ⊢
      obtain ⟨un, hun⟩ : ∃ n, n = tps.length := ⟨_, rfl⟩
      obtain ⟨vn, hvn⟩ : ∃ n, n = fps.length := ⟨_, rfl⟩
      rw [← hun] at hu ⊢
      rw [← hvn] at hv ⊢
      clear hun hvn
      have HU := Lib.hid hu; have HV := Lib.hid hv; have HB4 := Lib.hid hb4
      clear hu hv hb4
      have hb6 := ba (ba (Below.refl w4.heap.size w4) (.cells #[.int .i64 k, .slice ua un uc, .slice va vn vc] 38)) (.cells #[.int .i64 k, .slice ua un uc, .slice va vn vc] 38)
      have hq5 := QB.made w4 k (.slice ua un uc) (.slice va vn vc)
      have hq6 := QB.made (w4.alloc (.cells #[.int .i64 k, .slice ua un uc, .slice va vn vc] 38)) k (.slice ua un uc) (.slice va vn vc)
      rw [show (w4.alloc (.cells #[.int .i64 k, .slice ua un uc, .slice va vn vc] 38)).heap.size = w4.heap.size + 1 by simp] at hq6
      obtain ⟨v', w8, hra, hG8, -, -⟩ := HG.out.add HX.out HMI.out HCH.out (bt HB4.out hb6) (u := .slice ua un uc) (u' := .slice va vn vc) (rowP_grow HU.out hb6) (rowP_grow HV.out hb6) hq6 ⟨rfl, rfl⟩ hln
      have HRA := Lib.hid hra; have HG8 := Lib.hid hG8
      obtain ⟨z0, z1, z2⟩ := hq5.cells
      have zl := hq5.lt
      clear hra hG8 hb6 hq5 hq6
      go_wp2_with (at_builtin; refine wpList_app_run rfl _ _ _ rfl rfl rfl HRA.out ?_)
      go_roundw
      case rel => exact ⟨_, _, _, HG8, HFR⟩
      case measure =>
        have h1 := HG8.out.left
        rw [List.length_eraseIdx, if_pos hjl] at h1
        show leftN _ M it < leftN _ M it
        omega
end
end Go.Proofs.Ytennhfkhdfalfaa

/- offers: sets of numbers, kept as a map of maps. -/
import Derived.Test.YtnckjacbkhoppaaKey
import Derived.Test.YtnckjacbkhoppaaMapI
namespace Go.Proofs.Ytnckjacbkhoppaa
open Go.RowKit Go.Maps Go.MapKept
open Go.ChangeMaps (setBlock)
attribute [local go_sem] ext_cell ext_frozen extC_cell extC_frozen Mix.calmUpon Mix.mUpon
abbrev unitV : Value := .agg #[]
section
variable {w w' : World} {M : Nat} {L : List (Int × Value)} {t e : TypeId}
theorem MapK.store' (h : MapK K64 w M L) (ht : Try.prog.underlying t = some (.map 2 e)) {k : Int} (hk : I64 k) (v : Value) :
    ∃ w', (Instr.mapUpdate t (.map (some M)) (.int .i64 k) v).run Try.prog w = .ok () w' ∧ MapK K64 w' M (mput L k v) ∧ Chg (fun b => b = M) w w' := by
  obtain ⟨o, hrun, h3⟩ := h.store key64 ht hk v
  exact ⟨_, hrun, h3, .of_grown (grown_setBlock w M o) fun b e => by cases e; rfl⟩
theorem MapK.drop' (h : MapK K64 w M L) (ht : Try.prog.underlying t = some (.map 2 e)) {k : Int} (hk : I64 k) (ty : TypeId) :
    ∃ w', (Builtin.delete_ #[t, 2] ty #[.map (some M), .int .i64 k]).run Try.prog w = .ok (.tuple #[]) w' ∧ MapK K64 w' M (mdel L k) ∧ Chg (fun b => b = M) w w' := by
  obtain ⟨o, hrun, h3⟩ := h.drop key64 ht ty hk
  exact ⟨_, hrun, h3, .of_grown (grown_setBlock w M o) fun b e => by cases e; rfl⟩
theorem MapK.clear' (h : MapK K64 w M L) (ht : Try.prog.underlying t = some (.map 2 e)) (ty : TypeId) :
    ∃ w', (Builtin.clear_ #[t] ty #[.map (some M)]).run Try.prog w = .ok (.tuple #[]) w' ∧ MapK K64 w' M [] ∧ Chg (fun b => b = M) w w' := by
  obtain ⟨es, clock, hb, _⟩ := h
  refine ⟨setBlock w M (.map #[] clock), by simp [Builtin.clear_, run_underlying ht, MapKept.run_getObj_map hb, MapKept.run_setObj_map _ hb, Result.andThen, setBlock], ⟨#[], clock, setBlock_at hb, stamped_empty clock, (fun p hp => by cases hp), rfl⟩, .of_grown (grown_setBlock w M _) fun b e => by cases e; rfl⟩
end
/-- Block M is a map of sets: g tells them; blk their blocks; O all blocks of it. -/
structure SS (w : World) (B M : Nat) (g : Int → List Int) (Fm : List (Int × Value)) (blk : Int → Nat) (O : Nat → Prop) : Prop where
  map : MapK K64 w M Fm
  look : ∀ k, Fm.lookup k = if g k = [] then none else some (.map (some (blk k)))
  inn : ∀ k, g k ≠ [] → ∃ S : List (Int × Value), MapK K64 w (blk k) S ∧ (S.map (·.1)).Perm (g k)
  inj : ∀ k k', g k ≠ [] → g k' ≠ [] → blk k = blk k' → k = k'
  own : ∀ k, g k ≠ [] → O (blk k) ∧ blk k ≠ M
  oM : O M
  olt : ∀ b, O b → B ≤ b ∧ b < w.heap.size
def SG (w : World) (B M : Nat) (g : Int → List Int) (O : Nat → Prop) : Prop := ∃ Fm blk, SS w B M g Fm blk O
theorem SS.chg {w w' : World} {B M : Nat} {g : Int → List Int} {Fm : List (Int × Value)} {blk : Int → Nat} {O G : Nat → Prop} (h : SS w B M g Fm blk O) (hc : Chg G w w') (hd : ∀ b, O b → ¬ G b) : SS w' B M g Fm blk O :=
  ⟨h.map.chg hc (hd _ h.oM), h.look, fun k hk => by
    obtain ⟨S, h1, h2⟩ := h.inn k hk
    exact ⟨S, h1.chg hc (hd _ (h.own k hk).1), h2⟩, h.inj, h.own, h.oM, fun b hb => ⟨(h.olt b hb).1, Nat.lt_of_lt_of_le (h.olt b hb).2 hc.size⟩⟩
theorem SG.chg {w w' : World} {B M : Nat} {g : Int → List Int} {O G : Nat → Prop} (h : SG w B M g O) (hc : Chg G w w') (hd : ∀ b, O b → ¬ G b) : SG w' B M g O := by
  obtain ⟨Fm, blk, h⟩ := h
  exact ⟨Fm, blk, h.chg hc hd⟩
theorem SG.below {w w' : World} {B M : Nat} {g : Int → List Int} {O : Nat → Prop} (h : SG w B M g O) (hb : Below w.heap.size w w') : SG w' B M g O := h.chg (G := fun _ => False) (.of_below _ hb) fun _ _ => id
theorem SG.olt {w : World} {B M : Nat} {g : Int → List Int} {O : Nat → Prop} (h : SG w B M g O) : ∀ b, O b → B ≤ b ∧ b < w.heap.size := by obtain ⟨_, _, h⟩ := h; exact h.olt
theorem SG.oM {w : World} {B M : Nat} {g : Int → List Int} {O : Nat → Prop} (h : SG w B M g O) : O M := by obtain ⟨_, _, h⟩ := h; exact h.oM
theorem SG.congr {w : World} {B M : Nat} {g g' : Int → List Int} {O : Nat → Prop} (h : SG w B M g O) (hg : ∀ k, (g k).Perm (g' k)) : SG w B M g' O := by
  obtain ⟨Fm, blk, h⟩ := h
  have e : ∀ k, g k = [] ↔ g' k = [] := fun k => ⟨fun e => by have := hg k; rw [e] at this; exact this.nil_eq.symm, fun e => by have := hg k; rw [e] at this; exact this.eq_nil⟩
  refine ⟨Fm, blk, h.map, fun k => ?_, fun k hk => ?_, fun k k' a b => h.inj k k' (fun x => a ((e k).1 x)) fun x => b ((e k').1 x), fun k hk => h.own k fun x => hk ((e k).1 x), h.oM, h.olt⟩
  · rw [h.look]; simp only [e k]
  · obtain ⟨S, h1, h2⟩ := h.inn k fun x => hk ((e k).1 x)
    exact ⟨S, h1, h2.trans (hg k)⟩
/-- A set that is not there, new. -/
theorem SG.made (w : World) : SG (w.alloc (.map #[] 0)) w.heap.size w.heap.size (fun _ => []) (fun b => b = w.heap.size) :=
  ⟨[], fun _ => 0, MapK.made w, fun k => rfl, (fun k hk => absurd rfl hk), (fun k _ hk => absurd rfl hk), (fun k hk => absurd rfl hk), rfl, fun b e => by rw [e]; exact ⟨Nat.le_refl _, by simp⟩⟩
section
variable {w : World} {B M : Nat} {g : Int → List Int} {Fm : List (Int × Value)} {blk : Int → Nat} {O : Nat → Prop}
theorem SS.find (h : SS w B M g Fm blk O) {k : Int} (hk : I64 k) : (Instr.lookup 82 (.map (some M)) (.int .i64 k) false).run Try.prog w = .ok (if g k = [] then .map none else .map (some (blk k))) w := by
  have hz : (zeroValue 158).run Try.prog w = .ok (.map none) w := Try.zeroValue158 w
  have := h.map.look key64 Try.underlying82 hz (x := k) hk false
  rw [h.look] at this
  split <;> rename_i hg <;> simp only [hg, if_true, if_false] at this <;> exact this
/-- A set that is there changes, and is not empty then. -/
theorem SS.into (h : SS w B M g Fm blk O) {w' : World} {k : Int} (hg : g k ≠ []) (hc : Chg (fun q => q = blk k) w w') {S : List (Int × Value)} (hm : MapK K64 w' (blk k) S) {l : List Int} (hl : l ≠ []) (hp : (S.map (·.1)).Perm l) : SS w' B M (fun x => if x = k then l else g x) Fm blk O := by
  have e : ∀ x, (if x = k then l else g x) = [] ↔ g x = [] := fun x => by
    by_cases hx : x = k
    · rw [if_pos hx, hx]; exact ⟨fun e => absurd e hl, fun e => absurd e hg⟩
    · rw [if_neg hx]
  refine ⟨h.map.chg hc fun e => (h.own k hg).2 e.symm, fun x => ?_, fun x hx => ?_, fun x y a b => h.inj x y (fun z => a ((e x).2 z)) fun z => b ((e y).2 z), fun x hx => h.own x fun z => hx ((e x).2 z), h.oM, fun b hb => ⟨(h.olt b hb).1, Nat.lt_of_lt_of_le (h.olt b hb).2 hc.size⟩⟩
  · rw [h.look]; simp only [e x]
  · have hgx : g x ≠ [] := fun z => hx ((e x).2 z)
    by_cases hxk : x = k
    · subst hxk
      exact ⟨S, hm, by rw [if_pos rfl]; exact hp⟩
    · rw [if_neg hxk]
      obtain ⟨S', h1, h2⟩ := h.inn x hgx
      exact ⟨S', h1.chg hc fun z => hxk (h.inj x k hgx hg z), h2⟩
/-- A set that was not there. -/
theorem SS.fresh (h : SS w B M g Fm blk O) {w' : World} {q : Int} {c : Nat} (hq : g q = []) (hcn : w.heap.size ≤ c) (hBc : B ≤ c) (hcl : c < w'.heap.size) (hc : Chg (fun x => x = M) w w') (hm : MapK K64 w' M (mput Fm q (.map (some c)))) {S : List (Int × Value)} (hs : MapK K64 w' c S) {l : List Int} (hl : l ≠ []) (hp : (S.map (·.1)).Perm l) :
    SS w' B M (fun x => if x = q then l else g x) (mput Fm q (.map (some c))) (fun x => if x = q then c else blk x) (fun b => O b ∨ b = c) := by
  have old : ∀ x, (if x = q then l else g x) ≠ [] → x ≠ q → g x ≠ [] := fun x hx hn => by rw [if_neg hn] at hx; exact hx
  have lt : ∀ x, g x ≠ [] → blk x < w.heap.size := fun x hx => (h.olt _ (h.own x hx).1).2
  have hMl := (h.olt _ h.oM).2
  refine ⟨hm, fun x => ?_, fun x hx => ?_, fun x y a b e => ?_, fun x hx => ?_, .inl h.oM, fun b hb => ?_⟩
  · rw [look_mput, h.look]
    by_cases hx : x = q
    · rw [if_pos hx, if_pos hx, if_pos hx, if_neg hl]
    · rw [if_neg hx, if_neg hx, if_neg hx]
  · by_cases hxq : x = q
    · rw [if_pos hxq, if_pos hxq]; exact ⟨S, hs, hp⟩
    · have hgx := old x hx hxq
      rw [if_neg hxq, if_neg hxq]
      obtain ⟨S', h1, h2⟩ := h.inn x hgx
      exact ⟨S', h1.chg hc (h.own x hgx).2, h2⟩
  · by_cases hx : x = q
    · by_cases hy : y = q
      · rw [hx, hy]
      · rw [if_pos hx, if_neg hy] at e
        have := lt y (old y b hy); omega
    · by_cases hy : y = q
      · rw [if_neg hx, if_pos hy] at e
        have := lt x (old x a hx); omega
      · rw [if_neg hx, if_neg hy] at e
        exact h.inj x y (old x a hx) (old y b hy) e
  · by_cases hxq : x = q
    · rw [if_pos hxq]; exact ⟨.inr rfl, by omega⟩
    · rw [if_neg hxq]
      have := h.own x (old x hx hxq)
      exact ⟨.inl this.1, this.2⟩
  · rcases hb with hb | hb
    · exact ⟨(h.olt b hb).1, Nat.lt_of_lt_of_le (h.olt b hb).2 hc.size⟩
    · rw [hb]; exact ⟨hBc, hcl⟩
/-- A set that goes. -/
theorem SS.gone (h : SS w B M g Fm blk O) {w' : World} {k : Int} (hg : g k ≠ []) (hc : Chg (fun q => q = M ∨ q = blk k) w w') (hm : MapK K64 w' M (mdel Fm k)) : SS w' B M (fun x => if x = k then [] else g x) (mdel Fm k) blk O := by
  have old : ∀ x, (if x = k then [] else g x) ≠ [] → x ≠ k ∧ g x ≠ [] := fun x hx => by
    by_cases hxk : x = k
    · rw [if_pos hxk] at hx; exact absurd rfl hx
    · rw [if_neg hxk] at hx; exact ⟨hxk, hx⟩
  refine ⟨hm, fun x => ?_, fun x hx => ?_, fun x y a b e => h.inj x y (old x a).2 (old y b).2 e, fun x hx => h.own x (old x hx).2, h.oM, fun b hb => ⟨(h.olt b hb).1, Nat.lt_of_lt_of_le (h.olt b hb).2 hc.size⟩⟩
  · rw [look_mdel, h.look]
    by_cases hx : x = k
    · rw [if_pos hx, if_pos hx, if_pos rfl]
    · rw [if_neg hx, if_neg hx]
  · obtain ⟨hn, hgx⟩ := old x hx
    rw [if_neg hn]
    obtain ⟨S', h1, h2⟩ := h.inn x hgx
    exact ⟨S', h1.chg hc fun z => by
      rcases z with z | z
      · exact (h.own x hgx).2 z
      · exact hn (h.inj x k hgx hg z), h2⟩
end
end Go.Proofs.Ytnckjacbkhoppaa

/- queue: two objects beside one another; append of a list of events. -/
import Derived.Test.YtnckjacbkhoppaaQ8
import Derived.Test.YtnckjacbkhoppaaQK0
import Derived.Test.YtnckjacbkhoppaaEv1
namespace Go.Proofs.Ytnckjacbkhoppaa
open Go.RowKit Go.Maps
attribute [local go_sem] ext_cell ext_frozen extC_cell extC_frozen Mix.calmUpon Mix.mUpon
theorem run_app_none {P : Program} (w : World) (base : Nat) (t ty e : TypeId) (i : TypeInfo) (size : Nat) (ht : P.underlying t = some (.slice e)) (hi : P.info? e = some i)
    (v : Value) (n : Nat) (xs : List Value) (hown : w.ownsRow base e size v n xs) (c : Nat) :
    (Builtin.append_ #[t, t] ty #[v, .slice none 0 c]).run P w = .ok v w := by
  rcases hown.2 with ⟨rfl, rfl⟩ | ⟨g, cap, cur, rfl, _, _, hnc, _⟩
  · simp [Builtin.append_, run_underlying ht, sizeOf, typeInfo, hi, Builtin.lenOf, Builtin.firstCells]
  · simp [Builtin.append_, run_underlying ht, sizeOf, typeInfo, hi, Builtin.lenOf, Builtin.firstCells, hnc, storeCells]
/-- 'append' of a list of events. -/
theorem evapps {w : World} {base : Nat} {v xv : Value} {l lx : List Ev} (h : OwnL 28 5 evenc w base v l) (hx : RS 5 evenc w xv lx) (h1 : ∀ x ∈ lx, x.vv.oneCell' = true) (hl : l.length + lx.length < 1000000) (hb : base ≤ w.heap.size) (ty : TypeId) :
    ∃ v' w', (Builtin.append_ #[24, 24] ty #[v, xv]).run Try.prog w = .ok v' w' ∧ OwnL 28 5 evenc w' base v' (l ++ lx) ∧ w.grownBy w' v.ownBlock ∧ (v'.ownBlock = v.ownBlock ∨ v'.ownBlock = some w.heap.size) := by
  obtain ⟨i0, hi, hz0, hz1, hz2⟩ := info_parts infoEv
  have hR := hx
  obtain ⟨a, cap, rfl, hc, hm, hcell⟩ := hx
  cases a with
  | none =>
    have h0 : lx = [] := by
      cases lx with
      | nil => rfl
      | cons y t => obtain ⟨b, off, e, _⟩ := hcell (by simp); cases e
    subst h0
    exact ⟨v, w, run_app_none (P := Try.prog) w base _ ty 28 i0 5 Try.underlying24 hi v _ _ h cap, by rw [List.append_nil]; exact h, ⟨rfl, rfl, rfl, Nat.le_refl _, fun _ _ _ => rfl⟩, .inl rfl⟩
  | some a =>
    obtain ⟨v', w', r1, r2, r3, r4⟩ := run_app (P := Try.prog) w base 24 ty 28 i0 _ 5 56 Try.underlying24 hi hz0 hz1 hz2 rfl (by decide) v l.length (l.flatMap evenc) h a lx.length cap (lx.flatMap evenc) (flat_len (enc := evenc) evenc_len lx) (fun j u hu => by
      have hne : lx ≠ [] := by rintro rfl; simp at hu
      obtain ⟨b, off, e, -, -⟩ := hcell hne
      cases e
      exact rs_flat hR j u hu) (ev_one h1) (by unfold maxLen; omega) (by omega) hb
    refine ⟨v', w', r1, ?_, r3, r4⟩
    unfold OwnL
    rw [List.length_append, List.flatMap_append]
    exact r2
/-- Two objects, apart. -/
structure Two (w : World) (Ba qa Ma : Nat) (most : Int) (Na : Nat) (Ta : List Pq) (Bb qb Mb : Nat) (Nb : Nat) (Tb : List Pq) (Fa Va Fb Vb : Nat → Prop) : Prop where
  a : QT w Ba qa Ma most Na Ta Fa Va
  b : QT w Bb qb Mb most Nb Tb Fb Vb
  dab : ∀ k, Fa k → ¬ Fb k ∧ ¬ Vb k
  dba : ∀ k, Fb k → ¬ Fa k ∧ ¬ Va k
theorem Two.symm {w : World} {Ba qa Ma : Nat} {most : Int} {Na : Nat} {Ta : List Pq} {Bb qb Mb : Nat} {Nb : Nat} {Tb : List Pq} {Fa Va Fb Vb : Nat → Prop} (h : Two w Ba qa Ma most Na Ta Bb qb Mb Nb Tb Fa Va Fb Vb) : Two w Bb qb Mb most Nb Tb Ba qa Ma Na Ta Fb Vb Fa Va := ⟨h.b, h.a, h.dba, h.dab⟩
theorem Two.below {w w' : World} {Ba qa Ma : Nat} {most : Int} {Na : Nat} {Ta : List Pq} {Bb qb Mb : Nat} {Nb : Nat} {Tb : List Pq} {Fa Va Fb Vb : Nat → Prop} (h : Two w Ba qa Ma most Na Ta Bb qb Mb Nb Tb Fa Va Fb Vb) (hb : Below w.heap.size w w') : Two w' Ba qa Ma most Na Ta Bb qb Mb Nb Tb Fa Va Fb Vb := ⟨h.a.below hb, h.b.below hb, h.dab, h.dba⟩
/-- An act on one of the two. -/
theorem Two.act {w w' : World} {A : Nat → Prop} {Ba qa Ma : Nat} {most : Int} {Na Na' : Nat} {Ta Ta' : List Pq} {Bb qb Mb : Nat} {Nb : Nat} {Tb : List Pq} {Fa Va Fb Vb : Nat → Prop} (h : Two w Ba qa Ma most Na Ta Bb qb Mb Nb Tb Fa Va Fb Vb) (hx : QX A w Ba qa Ma most Na' Ta' Fa Va w') :
    ∃ Fa' Va', Two w' Ba qa Ma most Na' Ta' Bb qb Mb Nb Tb Fa' Va' Fb Vb ∧ Chg Fa w w' ∧ (∀ k, Va k → Va' k) ∧ ∀ k, A k → ¬ Fa' k := by
  obtain ⟨F', V', hq, hF, hV, hc, hVV, hA⟩ := hx
  have hfb := h.b.fb
  refine ⟨F', V', ⟨hq, h.b.chg hc (fun k hk => (h.dba k hk).1) (fun k hk e => (h.dab k e).2 hk), fun k hk => ?_, fun k hk => ?_⟩, hc, hVV, hA⟩
  · rcases hF k hk with h' | h'
    · exact h.dab k h'
    · exact ⟨fun e => by have := (hfb.1 k e).2.1; omega, fun e => by have := (hfb.2 k e).2; omega⟩
  · have hlt := (hfb.1 k hk).2.1
    refine ⟨fun e => ?_, fun e => ?_⟩
    · rcases hF k e with h' | h'
      · exact (h.dba k hk).1 h'
      · omega
    · rcases hV k e with h' | h'
      · exact (h.dba k hk).2 h'
      · omega
/-- What is left of one queue, when nothing is lost. -/
theorem keep_all (f : Int) (l : List Pe) (hl : l.length ≤ 1000) : putM 1000 (openM [] f) l = [⟨f, ownF f l, 0⟩] := by
  have h := keepM (most := 1000) (by decide) f l l.length (Nat.le_refl _)
  rw [List.take_length] at h
  rw [h]
  have hlen : (ownF f l).length ≤ l.length := List.length_filter_le _ _
  unfold kept
  rw [show (ownF f l).length - (1000 : Int).toNat = 0 by have : (1000 : Int).toNat = 1000 := rfl; omega, List.drop_zero, show max 0 (((ownF f l).length : Int) - 1000) = 0 by omega]
theorem take_one (f : Int) (r : List Pe) (k : Int) (p : Int) : takeM [⟨f, r, k⟩] f p = [⟨f, r.drop p.toNat, k⟩] := by
  unfold takeM
  rw [fnd_one, if_pos rfl]
  simp only
  by_cases h : p < 1
  · rw [if_pos h, show p.toNat = 0 by omega, List.drop_zero]
  · rw [if_neg h, put_one ⟨f, r, k⟩ ⟨f, r.drop p.toNat, k⟩ rfl]
theorem got_one (f : Int) (r : List Pe) (k : Int) (p : Int) : gotM [⟨f, r, k⟩] f p = r.take p.toNat := by
  unfold gotM
  rw [fnd_one, if_pos rfl]
theorem long_one (f : Int) (r : List Pe) (k : Int) : ((fndP [⟨f, r, k⟩] f).map fun x => x.evs.length).getD 0 = r.length := by
  rw [fnd_one, if_pos rfl]; rfl
end Go.Proofs.Ytnckjacbkhoppaa

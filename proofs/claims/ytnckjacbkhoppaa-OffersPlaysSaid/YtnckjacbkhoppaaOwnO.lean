/- Slices of the call's own that need not begin at their row's head: read, cut, and appended to. No program in it. -/
import Derived.Test.YtnckjacbkhoppaaRS
import Derived.Deep.AppendSrc
import Derived.Deep.Upon
import Derived.Deep.MidRow
namespace Go.Proofs.Ytnckjacbkhoppaa
open Go.RowKit
section
variable {α : Type} {k : Nat} {enc : α → List Value} {w w' : World} {v : Value} {l : List α} {base : Nat}
/-- v is a slice of the call's own, whose elements are those of l; its spare places may be written. -/
def OwnO (k : Nat) (enc : α → List Value) (w : World) (base : Nat) (v : Value) (l : List α) : Prop :=
  (v = .slice none 0 0 ∧ l = []) ∨ ∃ b off cap, v = .slice (some ⟨b, off, none⟩) l.length cap ∧ base ≤ b ∧ b < w.heap.size ∧ l.length ≤ cap ∧ cap ≤ maxLen ∧
    (∀ j, j < cap * k → (w.cell? ⟨b, off + j, none⟩).isSome = true ∧ w.frozen? ⟨b, off + j, none⟩ = false) ∧
    ∀ j u, (l.flatMap enc)[j]? = some u → w.cell? ⟨b, off + j, none⟩ = some u
theorem OwnO.nil (k : Nat) (enc : α → List Value) (w : World) (base : Nat) : OwnO k enc w base (.slice none 0 0) [] := .inl ⟨rfl, rfl⟩
theorem OwnO.lt (h : OwnO k enc w base v l) : ∀ b, v.ownBlock = some b → base ≤ b ∧ b < w.heap.size := by
  intro b hb
  rcases h with ⟨rfl, _⟩ | ⟨b', off, cap, rfl, h1, h2, _⟩
  · cases hb
  · cases hb; exact ⟨h1, h2⟩
theorem OwnO.form (h : OwnO k enc w base v l) : ∃ a n cap, v = .slice a n cap ∧ n = l.length ∧ n ≤ cap ∧ cap ≤ maxLen := by
  rcases h with ⟨rfl, rfl⟩ | ⟨b', off, cap, rfl, _, _, h1, h2, _⟩
  · exact ⟨_, _, _, rfl, rfl, Nat.le_refl _, Nat.zero_le _⟩
  · exact ⟨_, _, _, rfl, rfl, h1, h2⟩
theorem OwnO.len (h : OwnO k enc w base v l) : l.length ≤ maxLen := by
  rcases h with ⟨_, rfl⟩ | ⟨b', off, cap, _, _, _, h1, h2, _⟩
  · simp
  · omega
theorem OwnO.chg {F : Nat → Prop} (h : OwnO k enc w base v l) (hc : Chg F w w') (hf : ∀ b, v.ownBlock = some b → ¬ F b) : OwnO k enc w' base v l := by
  rcases h with h | ⟨b, off, cap, rfl, h1, h2, h3, h4, h5, h6⟩
  · exact .inl h
  · have hb := hf b rfl
    exact .inr ⟨b, off, cap, rfl, h1, Nat.lt_of_lt_of_le h2 hc.size, h3, h4, fun j hj => by rw [hc.cell h2 hb, hc.frozen h2 hb]; exact h5 j hj, fun j u hu => by rw [hc.cell h2 hb]; exact h6 j u hu⟩
theorem OwnO.below (h : OwnO k enc w base v l) (hb : Below w.heap.size w w') : OwnO k enc w' base v l := h.chg (.of_below (fun _ => False) hb) fun _ _ => id
theorem OwnO.low {base' : Nat} (h : OwnO k enc w base v l) (hb : base' ≤ base) : OwnO k enc w base' v l := by
  rcases h with h | ⟨b, off, cap, rfl, h1, h2⟩
  · exact .inl h
  · exact .inr ⟨b, off, cap, rfl, Nat.le_trans hb h1, h2⟩
theorem OwnO.rs (h : OwnO k enc w base v l) (hk : ∀ x, (enc x).length = k) : RS k enc w v l := by
  rcases h with ⟨rfl, rfl⟩ | ⟨b, off, cap, rfl, h1, h2, h3, h4, h5, h6⟩
  · exact RS.nil _ _ _
  · refine ⟨_, cap, rfl, h3, h4, fun _ => ⟨b, off, rfl, h2, fun i hi j u hu => ?_⟩⟩
    have hj : j < k := by
      have := (List.getElem?_eq_some_iff.1 hu).1
      rw [hk] at this; exact this
    rw [show off + i * k + j = off + (i * k + j) by omega]
    exact h6 _ u ((flat_at hk l i hi j hj).trans hu)
theorem flat_len (hk : ∀ x, (enc x).length = k) : ∀ l : List α, (l.flatMap enc).length = l.length * k
  | [] => by simp
  | x :: t => by rw [List.flatMap_cons, List.length_append, hk, flat_len hk t, List.length_cons, Nat.add_mul]; omega
/-- A row of the call's own, seen so. -/
theorem OwnL.o {e : Nat} (h : OwnL e k enc w base v l) (hk : ∀ x, (enc x).length = k) : OwnO k enc w base v l := by
  have hc := fun g hg => World.ownsRow.cells h (g := g) hg
  rcases h.2 with ⟨rfl, h0⟩ | ⟨b, cap, cur, rfl, h0, hg, h1, h2, h3, h4⟩
  · exact .inl ⟨rfl, List.eq_nil_of_length_eq_zero h0⟩
  · refine .inr ⟨b, 0, cap, rfl, h0, (Array.getElem?_eq_some_iff.1 hg).1, h1, h2, fun j hj => ⟨?_, ?_⟩, fun j u hu => ?_⟩
    · have hj' : 0 + j < cur.size := by rw [h3]; omega
      simp [World.cell?, hg, Array.getElem?_eq_getElem hj']
      omega
    · simp [World.frozen?, hg]
    · have := hc b rfl j u hu
      rw [Addr.add_lit] at this
      exact this
theorem cells_grown {b o : Nat} {vs : List Value} : w.grownBy (w.setCells b o vs) (some b) := by
  have h := World.keptBut_setCells b (may := fun _ => True) vs o w (fun _ _ => trivial)
  have hs : ∀ (vs : List Value) (o : Nat) (w : World), (w.setCells b o vs).heap.size = w.heap.size := by
    intro vs
    induction vs with
    | nil => intro o w; rfl
    | cons u r ih => intro o w; rw [World.setCells, ih]; simp [World.setCell]
  have ht : ∀ (vs : List Value) (o : Nat) (w : World), (w.setCells b o vs).tape = w.tape := by
    intro vs
    induction vs with
    | nil => intro o w; rfl
    | cons u r ih => intro o w; rw [World.setCells, ih]; rfl
  exact ⟨h.1, ht vs o w, h.2.1, by rw [hs vs o w]; exact Nat.le_refl _, fun i hi hne => World.heap_setCells_other w b o vs hi (fun e => hne (by rw [e]))⟩
set_option maxHeartbeats 1000000 in
/-- 'append' of one element, which lies in a new block. -/
theorem OwnO.app {P : Program} {e t ty : Nat} (h : OwnO k enc w base v l) {i : TypeInfo} {z : Value} {bytes : Nat} (ht : P.underlying t = some (.slice e)) (hi : P.info? e = some i) (hz : i.zero = some z)
    (hsize : i.size = k) (hby : i.bytes = bytes) (hzs : z.cells.size = k) (hk0 : 0 < k) (hk : ∀ x, (enc x).length = k) (x : α) {b c : Nat} (hx : ∀ j u, (enc x)[j]? = some u → w.cell? ⟨b, j, none⟩ = some u) (h1 : ∀ u ∈ enc x, u.oneCell' = true)
    (hl : (l.length + 1) * bytes ≤ 140737488355328) (hl2 : l.length + 1 ≤ maxLen) (hb : base ≤ w.heap.size) :
    ∃ v' w', (Builtin.append_ #[t, t] ty #[v, .slice (some ⟨b, 0, none⟩) 1 c]).run P w = .ok v' w' ∧ OwnO k enc w' base v' (l ++ [x]) ∧ w.grownBy w' v.ownBlock ∧ (v'.ownBlock = v.ownBlock ∨ v'.ownBlock = some w.heap.size) := by
  rcases h with ⟨rfl, rfl⟩ | ⟨g, off, cap, rfl, hbg, hg, hnc, hcm, hcs, hcl⟩
  · obtain ⟨v', w', r1, r2, r3, r4⟩ := (OwnL.nil e k enc w base).app (P := P) (ty := ty) ht hi hz hsize hby hzs hk0 hk x (b := b) (c := c) hx h1 hl hl2 hb
    exact ⟨v', w', r1, r2.o hk, r3, r4⟩
  · have hnews : ∀ j u, (enc x)[j]? = some u → w.cell? ((⟨b, 0, none⟩ : Addr).add j) = some u := fun j u hj => by rw [Addr.add_lit]; simpa using hx j u hj
    have hfl := flat_len hk l
    have hflx : (l ++ [x]).flatMap enc = l.flatMap enc ++ enc x := by simp
    by_cases hroom : l.length + 1 ≤ cap
    · have hmul : l.length * k + k ≤ cap * k := by
        have := Nat.mul_le_mul_right k hroom
        rw [Nat.add_mul] at this; omega
      have hsrc := Src.ofSlice (P := P) w (size := i.size) (tx := t) ht ⟨b, 0, none⟩ 1 c (enc x) (by rw [hk, hsize]; omega) hnews h1
      have hr := run_append_room_src (P := P) w t t ty e i ht hi g off l.length cap _ 1 (enc x) hsrc hroom (fun j hj => by rw [hk] at hj; rw [hsize, Nat.add_assoc]; exact (hcs _ (by omega)).1) (fun j hj => by rw [hk] at hj; rw [hsize, Nat.add_assoc]; exact (hcs _ (by omega)).2)
      rw [hsize] at hr
      have hin : ∀ j, j < (enc x).length → (w.cell? ⟨g, off + l.length * k + j, none⟩).isSome = true := fun j hj => by rw [hk] at hj; rw [Nat.add_assoc]; exact (hcs _ (by omega)).1
      refine ⟨_, _, hr, .inr ⟨g, off, cap, by simp, hbg, ?_, by simpa using hroom, hcm, fun j hj => ⟨?_, ?_⟩, fun j u hu => ?_⟩, cells_grown, .inl rfl⟩
      · exact Nat.lt_of_lt_of_le hg cells_grown.size
      · exact World.isSome_setCells g (enc x) _ w _ (hcs j hj).1
      · rw [World.frozen?_setCells]; exact (hcs j hj).2
      · rw [hflx] at hu
        by_cases hj : j < l.length * k
        · rw [List.getElem?_append_left (by rw [hfl]; exact hj)] at hu
          rw [World.cell?_setCells_out g (enc x) _ w _ (fun _ _ => .inl (by simp; omega))]
          exact hcl j u hu
        · rw [List.getElem?_append_right (by rw [hfl]; omega), hfl] at hu
          have hj2 := (List.getElem?_eq_some_iff.1 hu).1
          have := World.cell?_setCells_in g (enc x) (off + l.length * k) w hin (j - l.length * k) hj2
          rw [show off + j = off + l.length * k + (j - l.length * k) by omega, this]
          rw [← hu, List.getElem?_eq_getElem hj2]
    · have hsmall : l.length + 1 ≤ 9223372036854775807 := by simp only [maxLen] at hl2; omega
      have holds : ∀ j u, (l.flatMap enc)[j]? = some u → w.cell? ((⟨g, off, none⟩ : Addr).add j) = some u := fun j u hu => by rw [Addr.add_lit]; exact hcl j u hu
      subst hsize
      subst hby
      have hr := run_append_grow (P := P) w t ty e i z ht hi hz ⟨g, off, none⟩ l.length cap (l.flatMap enc) hfl holds ⟨b, 0, none⟩ 1 c (enc x) (by rw [hk]; omega) hnews (by omega) (by omega) (growslice_fits (by omega) hl)
      have hge := grownCap_ge w (l.length + 1) cap e
      have hcm' : grownCap w (l.length + 1) cap e ≤ maxLen := grownCap_le_maxLen w (l.length + 1) cap e hl2
      have hlen : (l.flatMap enc ++ enc x).length = (l.length + 1) * i.size := by rw [List.length_append, hfl, hk, Nat.add_mul]; omega
      refine ⟨_, _, hr, OwnL.o (e := e) ⟨by rw [hflx, hlen]; simp, .inr ⟨w.heap.size, _, _, by simp, hb, heap_alloc_new w.drew _, by simpa using hge, hcm', ?_, ?_⟩⟩ hk, ⟨rfl, rfl, rfl, by simp, fun q hq _ => (ba (Below.refl _ w.drew) _).block q hq⟩, .inr rfl⟩
      · simp only [Array.size_append, List.size_toArray, size_zeroCells, hzs, hfl, hk]
        rw [show l.length * i.size + i.size = (l.length + 1) * i.size by rw [Nat.add_mul]; omega, ← Nat.add_mul]
        congr 1
        omega
      · simp only [Array.toList_append, List.append_assoc]
        rw [← List.append_assoc]
        simp only [List.length_append, List.length_singleton]
        rw [← hlen, hflx]
        exact List.take_left
/-- v[i:]. -/
theorem OwnO.from_ {P : Program} {T e : Nat} (h : OwnO k enc w base v l) (hk : ∀ x, (enc x).length = k) {i : Nat} (hi : i ≤ l.length) (ht : P.underlying T = some (.slice e)) {inf : TypeInfo} (hinf : P.info? e = some inf) (hsz : inf.size = k) :
    ∃ v', (∀ w0, (Instr.slice T v (some (.int .i64 (i : Int))) none none).run P w0 = .ok v' w0) ∧ OwnO k enc w base v' (l.drop i) ∧ v'.ownBlock = v.ownBlock := by
  rcases h with ⟨rfl, rfl⟩ | ⟨g, off, cap, rfl, hbg, hg, hnc, hcm, hcs, hcl⟩
  · obtain rfl : i = 0 := by simpa using hi
    refine ⟨.slice none 0 0, fun w0 => ?_, OwnO.nil _ _ _ _, rfl⟩
    simp [Instr.slice, Instr.sliceBounds, Instr.sliceBound, asIntOf, run_underlying ht, sizeOf, typeInfo, hinf, Result.andThen]
  · refine ⟨.slice (some ⟨g, if cap = i then off else off + i * k, none⟩) (l.length - i) (cap - i), fun w0 => ?_, .inr ⟨g, (if cap = i then off else off + i * k), cap - i, by simp, hbg, hg, by simp; omega, by omega, fun j hj => ?_, fun j u hu => ?_⟩, rfl⟩
    · simp [Instr.slice, Instr.sliceBounds, Instr.sliceBound, asIntOf, run_underlying ht, sizeOf, typeInfo, hinf, hsz, Result.andThen, hi]
      by_cases hci : cap = i
      · simp [hci]
      · simp only [hci, if_false]
        by_cases h0 : i * k = 0
        · simp [Addr.add, h0]
        · simp [Addr.add, h0]
    · by_cases hci : cap = i
      · rw [hci, Nat.sub_self, Nat.zero_mul] at hj; omega
      · rw [if_neg hci, Nat.add_assoc]
        rw [Nat.sub_mul] at hj
        exact hcs _ (by omega)
    · by_cases hci : cap = i
      · rw [List.drop_eq_nil_of_le (by omega)] at hu; simp at hu
      · rw [if_neg hci, Nat.add_assoc]
        refine hcl _ u ?_
        have e1 : l.flatMap enc = (l.take i).flatMap enc ++ (l.drop i).flatMap enc := by rw [← List.flatMap_append, List.take_append_drop]
        rw [e1, List.getElem?_append_right (by rw [flat_len hk, List.length_take, Nat.min_eq_left hi]; omega), flat_len hk, List.length_take, Nat.min_eq_left hi, Nat.add_sub_cancel_left]
        exact hu
end
end Go.Proofs.Ytnckjacbkhoppaa

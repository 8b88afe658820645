/- filters: rows rewritten, cut, cleared; IndexFunc, DeleteFunc; what is unwanted. Laid together out of XFi8, XFi9, XFia, XFib. -/
import Derived.Test.YtennhfkhdfalfaaFi7
import Derived.Laws.IdiomCopy
namespace Go.Proofs.Ytennhfkhdfalfaa
section
open Go.RowKit Go.Maps
theorem fl_len (x : Fl) : (flenc x).length = 4 := rfl
theorem flat_len (d : List Fl) : (d.flatMap flenc).length = d.length * 4 := by
  induction d with
  | nil => rfl
  | cons x t ih => rw [List.flatMap_cons, List.length_append, ih, fl_len, List.length_cons]; omega
/-- A row of filters by its block. -/
structure RW (w : World) (q c : Nat) (d : List Fl) (cur : Array Value) : Prop where
  obj : w.heap[q]? = some (.cells cur 72 (0, 0))
  le : d.length ≤ c ∧ c ≤ maxLen
  sz : cur.size = c * 4
  at_ : ∀ i (hi : i < d.length) j, j < 4 → cur[i * 4 + j]? = (flenc d[i])[j]?
section
variable {w w' : World} {q c base : Nat} {d : List Fl} {cur : Array Value}
theorem RW.of (h : OwnL 72 4 flenc w base (.slice (some ⟨q, 0, none⟩) d.length c) d) : base ≤ q ∧ ∃ cur, RW w q c d cur := by
  obtain ⟨_, ⟨e, _⟩ | ⟨g, cap, cur, e, hb, hg, hn, hc, hs, ht⟩⟩ := h
  · cases e
  · cases e
    refine ⟨hb, cur, hg, ⟨hn, hc⟩, hs, fun i hi j hj => ?_⟩
    have h1 := flat_at fl_len d i hi j hj
    rw [← h1, ← ht, List.getElem?_take, if_pos (by omega), Array.getElem?_toList]
theorem RW.own (h : RW w q c d cur) (hb : base ≤ q) : OwnL 72 4 flenc w base (.slice (some ⟨q, 0, none⟩) d.length c) d := by
  refine ⟨flat_len d, .inr ⟨q, c, cur, rfl, hb, h.obj, h.le.1, h.le.2, h.sz, List.ext_getElem? fun k => ?_⟩⟩
  by_cases hk : k < d.length * 4
  · have h1 := flat_at fl_len d (k / 4) (by omega) (k % 4) (Nat.mod_lt _ (by decide))
    have h2 := h.at_ (k / 4) (by omega) (k % 4) (Nat.mod_lt _ (by decide))
    have e : k / 4 * 4 + k % 4 = k := by omega
    rw [e] at h1 h2
    rw [List.getElem?_take, if_pos hk, h1, ← h2, Array.getElem?_toList]
  · rw [List.getElem?_eq_none (by rw [List.length_take]; omega), List.getElem?_eq_none (by rw [flat_len]; omega)]
/-- One filter written over. -/
theorem RW.set (h : RW w q c d cur) {i : Nat} (hi : i < d.length) (x : Fl) :
    ∃ cur', RW ((((w.setCell ⟨q, i * 4, none⟩ (.int .i64 x.fr)).setCell ⟨q, i * 4 + 1, none⟩ (.int .i64 x.ag)).setCell ⟨q, i * 4 + 2, none⟩ (.int .i64 x.ti)).setCell ⟨q, i * 4 + 3, none⟩ x.vv) q c (d.set i x) cur' := by
  have hs := h.sz; have hl := h.le.1
  refine ⟨_, heap_setCell_at _ (heap_setCell_at _ (heap_setCell_at _ (heap_setCell_at _ h.obj))), by rw [List.length_set]; exact h.le, by simp [h.sz], fun k hk j hj => ?_⟩
  rw [List.length_set] at hk
  by_cases e : k = i
  · subst e
    rw [List.getElem_set_self]
    have b0 : k * 4 < cur.size := by omega
    have b1 : k * 4 + 1 < cur.size := by omega
    have b2 : k * 4 + 2 < cur.size := by omega
    have b3 : k * 4 + 3 < cur.size := by omega
    rcases j with _ | _ | _ | _ | j
    · simp [Array.getElem?_setIfInBounds, flenc, b0, b1, b2, b3]
    · simp [Array.getElem?_setIfInBounds, flenc, b0, b1, b2, b3]
    · simp [Array.getElem?_setIfInBounds, flenc, b0, b1, b2, b3]
    · simp [Array.getElem?_setIfInBounds, flenc, b0, b1, b2, b3]
    · omega
  · rw [List.getElem_set_ne (fun h => e h.symm), ← h.at_ k hk j hj]
    have n0 : ¬ i * 4 = k * 4 + j := by omega
    have n1 : ¬ i * 4 + 1 = k * 4 + j := by omega
    have n2 : ¬ i * 4 + 2 = k * 4 + j := by omega
    have n3 : ¬ i * 4 + 3 = k * 4 + j := by omega
    rw [Array.getElem?_setIfInBounds, if_neg n3, Array.getElem?_setIfInBounds, if_neg n2, Array.getElem?_setIfInBounds, if_neg n1, Array.getElem?_setIfInBounds, if_neg n0]
/-- The front of a row. -/
theorem RW.take (h : RW w q c d cur) (i : Nat) : RW w q c (d.take i) cur := by
  refine ⟨h.obj, ⟨Nat.le_trans (by rw [List.length_take]; omega) h.le.1, h.le.2⟩, h.sz, fun k hk j hj => ?_⟩
  rw [List.length_take] at hk
  rw [List.getElem_take]
  exact h.at_ k (by omega) j hj
theorem RW.chg {F : Nat → Prop} (h : RW w q c d cur) (hc : Chg F w w') (hf : ¬ F q) : RW w' q c d cur := ⟨(hc.block q (Array.getElem?_eq_some_iff.1 h.obj).1 hf).trans h.obj, h.le, h.sz, h.at_⟩
theorem RW.below (h : RW w q c d cur) (hb : Below w.heap.size w w') : RW w' q c d cur := h.chg (.of_below (fun _ => False) hb) id
theorem RW.cells (h : RW w q c d cur) {i : Nat} {x : Fl} (hx : d[i]? = some x) : w.cell? ⟨q, i * 4, none⟩ = some (.int .i64 x.fr) ∧ w.cell? ⟨q, i * 4 + 1, none⟩ = some (.int .i64 x.ag) ∧ w.cell? ⟨q, i * 4 + 2, none⟩ = some (.int .i64 x.ti) ∧ w.cell? ⟨q, i * 4 + 3, none⟩ = some x.vv := by
  obtain ⟨hi, rfl⟩ := List.getElem?_eq_some_iff.1 hx
  have e0 := h.at_ i hi 0 (by omega); have e1 := h.at_ i hi 1 (by omega); have e2 := h.at_ i hi 2 (by omega); have e3 := h.at_ i hi 3 (by omega)
  have ho := h.obj
  refine ⟨?_, ?_, ?_, ?_⟩
  · simp only [World.cell?, ho]; exact e0
  · simp only [World.cell?, ho]; exact e1
  · simp only [World.cell?, ho]; exact e2
  · simp only [World.cell?, ho]; exact e3
theorem RW.fz (h : RW w q c d cur) (o : Nat) : w.frozen? ⟨q, o, none⟩ = false := by simp [World.frozen?, h.obj]
theorem setCells_row (q : Nat) {e : TypeId} : ∀ (vs : List Value) (o : Nat) (w : World) (cur : Array Value), w.heap[q]? = some (.cells cur e (0, 0)) → ∃ cur', (w.setCells q o vs).heap[q]? = some (.cells cur' e (0, 0)) ∧ cur'.size = cur.size ∧ (∀ j, j < o → cur'[j]? = cur[j]?) ∧ Chg (fun k => k = q) w (w.setCells q o vs)
  | [], o, w, cur, h => ⟨cur, h, rfl, fun _ _ => rfl, Chg.refl _ _⟩
  | v :: r, o, w, cur, h => by
    obtain ⟨cur', h1, h2, h3, h4⟩ := setCells_row q r (o + 1) (w.setCell ⟨q, o, none⟩ v) _ (heap_setCell_at v h)
    refine ⟨cur', h1, by rw [h2]; simp, fun j hj => ?_, ((Chg.refl (fun k => k = q) w).setCell (p := ⟨q, o, none⟩) (.inl rfl) v).same h4⟩
    rw [h3 j (by omega), Array.getElem?_setIfInBounds, if_neg (by omega)]
/-- The end of a row cleared. -/
theorem RW.clear (h : RW w q c d cur) {i n k : Nat} (hn : i + n = d.length) (hn0 : 0 < n) :
    ∃ w' cur', (∀ ty, (Builtin.clear_ #[68] ty #[.slice (some ⟨q, i * 4, none⟩) n k]).run Try.prog w = .ok (.tuple #[]) w') ∧ RW w' q c (d.take i) cur' ∧ Chg (fun k => k = q) w w' := by
  have hz : ∀ w, (zeroValue 72).run Try.prog w = .ok (.agg #[.int .i64 0, .int .i64 0, .int .i64 0, .slice none 0 0]) w := fun w => Try.zeroValue72 w
  have hl := h.le.1; have hs := h.sz
  obtain ⟨vs, hvs⟩ : ∃ vs, vs = (Builtin.zeroCells (Value.agg #[.int .i64 0, .int .i64 0, .int .i64 0, .slice none 0 0]).cells n).toList := ⟨_, rfl⟩
  have hvl : vs.length = n * 4 := by rw [hvs]; simp [Builtin.zeroCells, Value.cells]
  have hone : ∀ v ∈ vs, v.oneCell' = true := fun v hv => by
    rw [hvs] at hv
    simp only [Builtin.zeroCells, Array.toList_map, List.mem_map] at hv
    obtain ⟨j, _, rfl⟩ := hv
    have : j % 4 = 0 ∨ j % 4 = 1 ∨ j % 4 = 2 ∨ j % 4 = 3 := by omega
    rcases this with e | e | e | e <;> simp [Value.cells, e] <;> rfl
  have hst := run_storeCells_cells (P := Try.prog) q (i * 4) vs 0 w (fun j hj => by
      rw [hvl] at hj
      simp only [World.cell?, h.obj, Nat.add_zero]
      rw [Array.getElem?_eq_getElem (by omega)]; rfl) (fun j hj => h.fz _) hone
  obtain ⟨cur', h1, h2, h3, h4⟩ := setCells_row q vs (i * 4) w cur h.obj
  refine ⟨_, cur', ?_, ⟨h1, ⟨by rw [List.length_take]; omega, h.le.2⟩, by rw [h2]; exact h.sz, fun m hm j hj => ?_⟩, h4⟩
  · intro ty
    obtain ⟨m, rfl⟩ : ∃ m, n = m + 1 := ⟨n - 1, by omega⟩
    rw [Nat.add_zero] at hst
    simp [Builtin.clear_, run_underlying Try.underlying68, hz, ← hvs, hst]
  · rw [List.length_take] at hm
    rw [List.getElem_take, h3 _ (by omega)]
    exact h.at_ m (by omega) j hj
end
end
section
open Go.RowKit Go.Maps
attribute [local go_sem] ext_cell ext_frozen extC_cell extC_frozen Mix.calmUpon Mix.mUpon
/-- The first place at which p holds. -/
theorem idx_first {l : List Fl} (p : Fl → Bool) : (∃ i x, l[i]? = some x ∧ p x = true ∧ (∀ y ∈ l.take i, p y = false)) ∨ ∀ x ∈ l, p x = false := by
  induction l with
  | nil => exact .inr fun x h => by cases h
  | cons a t ih =>
    cases h : p a with
    | true => exact .inl ⟨0, a, rfl, h, fun y hy => by cases hy⟩
    | false =>
      rcases ih with ⟨i, x, h1, h2, h3⟩ | h3
      · exact .inl ⟨i + 1, x, by simpa using h1, h2, fun y hy => by
          rw [List.take_succ_cons] at hy
          rcases List.mem_cons.1 hy with rfl | hy
          · exact h
          · exact h3 y hy⟩
      · exact .inr fun x hx => by
          rcases List.mem_cons.1 hx with rfl | hx
          · exact h
          · exact h3 x hx
open Go.Shelf Go.Lib in
theorem idxBy_at {α : Type} [Inhabited α] (p : α → Bool) : ∀ (l : List α) (k : Nat), (∀ i x, l[i]? = some x → p x = true → (∀ y ∈ l.take i, p y = false) → idxByFrom (fun _ y => p y) default l k = ((k + i : Nat) : Int)) ∧ ((∀ x ∈ l, p x = false) → idxByFrom (fun _ y => p y) default l k = -1)
  | [], k => ⟨fun i x h => by simp at h, fun _ => rfl⟩
  | a :: t, k => by
    obtain ⟨h1, h2⟩ := idxBy_at p t (k + 1)
    refine ⟨fun i x hx hp hn => ?_, fun hn => ?_⟩
    · cases i with
      | zero =>
        cases hx
        simp [idxByFrom, hp]
      | succ i =>
        have ha : p a = false := hn a (by simp)
        have := h1 i x (by simpa using hx) hp fun y hy => hn y (by simp [hy])
        simp only [idxByFrom, ha]
        rw [if_neg (by simp), this]
        congr 1; omega
    · have ha : p a = false := hn a (by simp)
      simp only [idxByFrom, ha]
      rw [if_neg (by simp)]
      exact h2 fun x hx => hn x (by simp [hx])
open Go.Shelf Go.Lib in
set_option maxRecDepth 100000 in
/-- slices.IndexFunc at filters. -/
theorem findex {w : World} {v : Value} {l : List Fl} (hr : RS 4 flenc w v l) (hne : l ≠ []) (p : Fl → Bool) (g : Nat) (lb : Array Value) (eg : ∀ args w, (callFunc g args).run Try.prog w = .ok (.enter g args) w)
    (hp : ∀ (W : World) (x : Fl), x ∈ l → Below w.heap.size w W → Calls Try.prog g (#[flval x] ++ lb) W fun e w' => e = .returned (.bool (p x)) ∧ Below w.heap.size w w') :
    Calls Try.prog 146 #[v, .func (.func g) #[] lb] w fun e w' => (∃ k : Int, e = .returned (.int .i64 k) ∧ (∀ i x, l[i]? = some x → p x = true → (∀ y ∈ l.take i, p y = false) → k = (i : Int)) ∧ ((∀ x ∈ l, p x = false) → k = -1)) ∧ Below w.heap.size w w' := by
  obtain ⟨a, c, rfl, hc, hm, hat⟩ := hr
  obtain ⟨q, off, rfl, hq, hcell⟩ := hat hne
  obtain ⟨x0, hx0⟩ : ∃ x, x ∈ l := List.exists_mem_of_ne_nil l hne
  letI : Inhabited { x : Fl // x ∈ l } := ⟨⟨x0, hx0⟩⟩
  have hcon := AnyQ.slices_IndexFunc Lb.Try.indexF 4 Try.isAgg72 Try.sizeOf72 (α := { x : Fl // x ∈ l }) (fun x => flenc x.1) (fun _ => rfl) (fun x => p x.1) g lb eg q off l.length c l.attach w
    (fun W x hb => hp W x.1 x.2 hb) (by simp) (by unfold maxLen at hm; omega) hq (fun j hj i u hi => by
      have hj' : j < l.length := by simpa using hj
      refine hcell j hj' i u ?_
      rw [getElem!_pos l.attach j hj] at hi
      simpa using hi)
  change Calls Try.prog 146 _ _ _ at hcon
  rw [List.take_of_length_le (by simp)] at hcon
  refine hcon.mono fun e w' ⟨h1, h2⟩ => ⟨⟨_, h1, ?_, ?_⟩, h2⟩
  · intro i x hx hpx hn
    obtain ⟨hi, rfl⟩ := List.getElem?_eq_some_iff.1 hx
    have := (idxBy_at (fun x : { x : Fl // x ∈ l } => p x.1) l.attach 0).1 i ⟨l[i], List.getElem_mem hi⟩ (by rw [List.getElem?_eq_getElem (by simpa using hi)]; simp) hpx fun y hy => by
      refine hn y.1 ?_
      have : y.1 ∈ (l.attach.take i).map (·.1) := List.mem_map.2 ⟨y, hy, rfl⟩
      rwa [List.map_take, List.attach_map_subtype_val] at this
    rw [Nat.zero_add] at this
    exact this
  · intro hn
    exact (idxBy_at (fun x : { x : Fl // x ∈ l } => p x.1) l.attach 0).2 fun x _ => hn x.1 x.2
end
section
open Go.RowKit Go.Maps
attribute [local go_sem] ext_cell ext_frozen extC_cell extC_frozen Mix.calmUpon Mix.mUpon
section
variable {q n c i : Nat}
theorem addr0 (q i : Nat) : (⟨q, 0, none⟩ : Addr).add (i * 4) = ⟨q, i * 4, none⟩ := by
  unfold Addr.add; split <;> simp_all
theorem cut_from (hi : i < n) (hn : n ≤ c) (w0 : World) : (Instr.slice 68 (.slice (some ⟨q, 0, none⟩) n c) (some (.int .i64 (i : Int))) none none).run Try.prog w0 = .ok (.slice (some ⟨q, i * 4, none⟩) (n - i) (c - i)) w0 := by
  obtain ⟨i0, hinf, _, hsz, _⟩ := info_parts infoFl
  have h1 : i ≤ n := by omega
  have h2 : ¬ c = i := by omega
  simp [Instr.slice, Instr.sliceBounds, Instr.sliceBound, asIntOf, run_underlying Try.underlying68, sizeOf, typeInfo, hinf, hsz, Result.andThen, h1, h2, hn, addr0]
theorem cut_upto (hi : i ≤ n) (hn : n ≤ c) (w0 : World) : (Instr.slice 68 (.slice (some ⟨q, 0, none⟩) n c) none (some (.int .i64 (i : Int))) none).run Try.prog w0 = .ok (.slice (some ⟨q, 0, none⟩) i c) w0 := by
  obtain ⟨i0, hinf, _, hsz, _⟩ := info_parts infoFl
  have h1 : i ≤ c := by omega
  simp [Instr.slice, Instr.sliceBounds, Instr.sliceBound, asIntOf, run_underlying Try.underlying68, sizeOf, typeInfo, hinf, hsz, Result.andThen, h1, hn, hi, Addr.add]
end
set_option maxRecDepth 100000 in
set_option maxHeartbeats 4000000 in
theorem fdelete {w : World} {base q c : Nat} {l : List Fl} (h : OwnL 72 4 flenc w base (.slice (some ⟨q, 0, none⟩) l.length c) l) (hne : l ≠ []) (hv : ∀ x ∈ l, ∃ a n c, x.vv = .slice a n c) (p : Fl → Bool) (g : Nat) (lb : Array Value) (eg : ∀ args w, (callFunc g args).run Try.prog w = .ok (.enter g args) w)
    (hp : ∀ (W : World) (x : Fl), x ∈ l → Chg (fun k => k = q) w W → Calls Try.prog g (#[flval x] ++ lb) W fun e w' => e = .returned (.bool (p x)) ∧ Below W.heap.size W w') :
    Calls Try.prog 125 #[.slice (some ⟨q, 0, none⟩) l.length c, .func (.func g) #[] lb] w fun e w' => e = .returned (.slice (some ⟨q, 0, none⟩) (l.filter fun x => !p x).length c) ∧ OwnL 72 4 flenc w' base (.slice (some ⟨q, 0, none⟩) (l.filter fun x => !p x).length c) (l.filter fun x => !p x) ∧ Chg (fun k => k = q) w w' := by
  obtain ⟨hbq, cur0, hrw⟩ := RW.of h
  have HIX := Lib.hid (findex (own_rs h) hne p g lb eg fun W x hx hb => (hp W x hx (Chg.of_below _ hb)).mono fun e w' ⟨h1, h2⟩ => ⟨h1, bt hb h2⟩)
  have hnc := hrw.le
  obtain ⟨n, hn⟩ : ∃ n, n = l.length := ⟨_, rfl⟩
  rw [← hn] at HIX hnc ⊢
  have hnm : n ≤ 9223372036854775807 := by unfold maxLen at hnc; omega
  have HN := Lib.hid hn; have HP := Lib.hid hp; have HV := Lib.hid hv; have HBQ := Lib.hid hbq; have HRW := Lib.hid hrw; have HNC := Lib.hid hnc
  have HOW := Lib.hid h
  have hev := eg
  clear hp hv hbq hrw h hn eg hne hnc
  go_enter Try.func125, Try.ntmps125
  go_wp2_with fail
  refine HIX.out.mono ?_
  rintro e w1 ⟨⟨k, rfl, hk1, hk2⟩, hb1⟩
  have HB1 := Lib.hid hb1
  clear hb1
  rcases idx_first (l := l) p with ⟨i0, x0, hx0, hpx, hno⟩ | hno
  · have hk := hk1 i0 x0 hx0 hpx hno
    subst hk
    clear hk1 hk2
    have hi0 : i0 < n := by rw [HN.out]; exact (List.getElem?_eq_some_iff.1 hx0).1
    have hm1 : (((i0 : Nat) : Int) == -1) = false := by simp <;> omega
    have hwr : IntKind.i64.wrap ((i0 : Int) + 1) = (i0 : Int) + 1 := IntWalk.i64_in _ (by omega)
    have HI := Lib.hid (show RW w1 q c l cur0 ∧ l.length = n ∧ i0 < i0 + 1 ∧ l.take i0 = (l.take (i0 + 1)).filter (fun x => !p x) ∧ Chg (fun k => k = q) w w1 from
      ⟨HRW.out.below HB1.out, HN.out.symm, by omega, by
        rw [take_at hx0, List.filter_append]
        have h1 : (l.take i0).filter (fun x => !p x) = l.take i0 := List.filter_eq_self.2 fun y hy => by simp [hno y hy]
        rw [h1]; simp [hpx], Chg.of_below _ HB1.out⟩)
    clear hx0 hpx hno
    go_wp2
    go_loopw [5, 6, 7] (fun iv jv _ wr => ∃ (i j : Nat) (d : List Fl) (cur : Array Value), j ≤ n ∧ iv = .int .i64 i ∧ jv = .int .i64 j ∧ Hid (RW wr q c d cur ∧ d.length = n ∧ i < j ∧ d.take i = (l.take j).filter (fun x => !p x) ∧ d.drop j = l.drop j ∧ Chg (fun k => k = q) w wr)) (fun _ jv _ _ => n - (intOf jv).toNat)
    case atStart => exact ⟨i0, i0 + 1, l, cur0, by omega, rfl, by go_num, Lib.hid ⟨HI.out.1, HI.out.2.1, HI.out.2.2.1, HI.out.2.2.2.1, rfl, HI.out.2.2.2.2⟩⟩
    case round =>
      clear HI hwr hm1
      obtain ⟨i, j, d, cur, hj, rfl, rfl, HQ⟩ := hrel
      obtain ⟨w2, rfl⟩ : ∃ w2, w2 = wr := ⟨_, rfl⟩
      have hij := HQ.out.2.2.1
      by_cases hlt : j < n
      · have hts : (j : Int) < (n : Int) := by omega
        obtain ⟨x, hx⟩ := at_lt (l := l) (i := j) (by rw [← HN.out]; exact hlt)
        have hdx : d[j]? = some x := by
          have h1 := congrArg (fun l : List Fl => l[0]?) HQ.out.2.2.2.2.1
          simp only [List.getElem?_drop, Nat.add_zero] at h1
          rw [h1, hx]
        obtain ⟨xa, xn, xc, hxv⟩ := HV.out x (mem_at hx)
        obtain ⟨r0, r1, r2, r3⟩ := HQ.out.1.cells hdx
        have rl : q < w2.heap.size := (Array.getElem?_eq_some_iff.1 HQ.out.1.obj).1
        obtain ⟨y, hdy⟩ := at_lt (l := d) (i := i) (by rw [HQ.out.2.1]; omega)
        have HX := Lib.hid hx; have HDY := Lib.hid hdy
        have hb3 := ba (Below.refl w2.heap.size w2) (.cells #[.int .i64 x.fr, .int .i64 x.ag, .int .i64 x.ti, x.vv] 72)
        have HF3 := Lib.hid (FB.made w2 x.fr x.ag x.ti x.vv)
        have HC := Lib.hid (HP.out _ x (mem_at hx) (HQ.out.2.2.2.2.2.then_below hb3))
        have HB3 := Lib.hid hb3
        obtain ⟨xi, xg, xt, xv, xp⟩ := x
        simp only at hxv r0 r1 r2 r3 HF3 HC HB3
        subst hxv
        clear hx hdx hdy hb3
        obtain ⟨f0, f1, f2, f3⟩ := HF3.out.cells
        have f4 := HF3.out.lt
        go_wp2_with fail
        clear f0 f1 f2 f3 f4 r0 r1 r2 r3 rl
        refine HC.out.mono ?_
        rintro e w4 ⟨rfl, hb4⟩
        have HF4 := Lib.hid (HF3.out.below hb4)
        have HB4 := Lib.hid (bt HB3.out hb4)
        have HR4 := Lib.hid (HQ.out.1.below HB4.out)
        have HC4 := Lib.hid (HQ.out.2.2.2.2.2.then_below HB4.out)
        clear hb4 HF3 HC HB3
        obtain ⟨fb, hfb⟩ : ∃ b, b = w2.heap.size := ⟨_, rfl⟩
        rw [← hfb] at HF4 ⊢
        have HNE := Lib.hid (show q ≠ fb from by rw [hfb]; have := (Array.getElem?_eq_some_iff.1 HQ.out.1.obj).1; omega)
        clear hfb
        have htk := take_at HX.out
        cases hpx : p ⟨xi, xg, xt, .slice xa xn xc, xp⟩ with
        | true =>
          have HT := Lib.hid (show d.take i = (l.take (j + 1)).filter (fun x => !p x) from by
            rw [htk, List.filter_append, ← HQ.out.2.2.2.1]; simp [hpx])
          have HD := Lib.hid (show d.drop (j + 1) = l.drop (j + 1) from by
            have := congrArg (List.drop 1) HQ.out.2.2.2.2.1
            rwa [List.drop_drop, List.drop_drop] at this)
          clear htk hpx
          go_wp2
          go_roundw
          case rel => exact ⟨i, j + 1, d, cur, by omega, rfl, by go_num, Lib.hid ⟨HR4.out, HQ.out.2.1, by omega, HT.out, HD.out, HC4.out⟩⟩
          case measure => simp [intOf]; omega
        | false =>
          obtain ⟨cur', hrw'⟩ := HR4.out.set (i := i) (by rw [HQ.out.2.1]; omega) ⟨xi, xg, xt, .slice xa xn xc, xp⟩
          have HRW' := Lib.hid hrw'
          have HCW := Lib.hid (show Chg (fun k => k = q) w ((((w4.setCell ⟨q, i * 4, none⟩ (.int .i64 xi)).setCell ⟨q, i * 4 + 1, none⟩ (.int .i64 xg)).setCell ⟨q, i * 4 + 2, none⟩ (.int .i64 xt)).setCell ⟨q, i * 4 + 3, none⟩ (.slice xa xn xc)) from
            (((HC4.out.setCell (p := ⟨q, i * 4, none⟩) (.inl rfl) _).setCell (p := ⟨q, i * 4 + 1, none⟩) (.inl rfl) _).setCell (p := ⟨q, i * 4 + 2, none⟩) (.inl rfl) _).setCell (p := ⟨q, i * 4 + 3, none⟩) (.inl rfl) _)
          have HT := Lib.hid (show (d.set i ⟨xi, xg, xt, .slice xa xn xc, xp⟩).take (i + 1) = (l.take (j + 1)).filter (fun x => !p x) from by
            have hi : i < d.length := by rw [HQ.out.2.1]; omega
            rw [htk, List.filter_append, ← HQ.out.2.2.2.1]
            have h1 : (d.set i ⟨xi, xg, xt, .slice xa xn xc, xp⟩)[i]? = some ⟨xi, xg, xt, .slice xa xn xc, xp⟩ := by rw [List.getElem?_set_self hi]
            rw [take_at h1, List.take_set_of_le (Nat.le_refl i)]
            simp [hpx])
          have HD := Lib.hid (show (d.set i ⟨xi, xg, xt, .slice xa xn xc, xp⟩).drop (j + 1) = l.drop (j + 1) from by
            rw [List.drop_set_of_lt (by omega)]
            have := congrArg (List.drop 1) HQ.out.2.2.2.2.1
            rwa [List.drop_drop, List.drop_drop] at this)
          obtain ⟨f0, f1, f2, f3⟩ := HF4.out.cells
          have f4 := HF4.out.lt
          obtain ⟨r0, r1, r2, r3⟩ := HR4.out.cells HDY.out
          have rl : q < w4.heap.size := (Array.getElem?_eq_some_iff.1 HR4.out.obj).1
          have z0 := HR4.out.fz (i * 4); have z1 := HR4.out.fz (i * 4 + 1); have z2 := HR4.out.fz (i * 4 + 2); have z3 := HR4.out.fz (i * 4 + 3)
          have hil : i < n := by omega
          have hils : (i : Int) < (n : Int) := by omega
          clear htk hpx hrw'
          go_wp2
          go_roundw
          case rel => exact ⟨i + 1, j + 1, d.set i ⟨xi, xg, xt, .slice xa xn xc, xp⟩, cur', by omega, by go_num, by go_num, Lib.hid ⟨HRW'.out, by rw [List.length_set]; exact HQ.out.2.1, by omega, HT.out, HD.out, HCW.out⟩⟩
          case measure => simp [intOf]; omega
      · obtain rfl : n = j := by omega
        have hin : i < n := hij
        have hs1 := cut_from (q := q) hin HNC.out.1
        have hs2 := cut_upto (q := q) (Nat.le_of_lt hin) HNC.out.1
        obtain ⟨w5, cur5, hcl, hr5, hc5⟩ := HQ.out.1.clear (i := i) (n := n - i) (k := c - i) (by rw [HQ.out.2.1]; omega) (by omega)
        have HF := Lib.hid (show d.take i = l.filter (fun x => !p x) from by
          have := HQ.out.2.2.2.1
          have e : l.take n = l := List.take_of_length_le (by rw [← HN.out]; exact Nat.le_refl _)
          rw [e] at this
          exact this)
        have HL := Lib.hid (show (l.filter fun x => !p x).length = i from by
          rw [← HF.out, List.length_take, HQ.out.2.1]; omega)
        have HR5 := Lib.hid hr5
        have HC5 := Lib.hid (HQ.out.2.2.2.2.2.same hc5)
        have hcl2 := hcl
        clear hr5 hc5 hlt hj
        go_wp2
        go_ret
        rw [HL.out]
        refine ⟨rfl, ?_, HC5.out⟩
        have h1 := HR5.out
        rw [HF.out] at h1
        have h2 := h1.own HBQ.out
        rw [HL.out] at h2
        exact h2
  · have hk := hk2 hno
    subst hk
    clear hk1 hk2
    have HE := Lib.hid (show (l.filter fun x => !p x) = l from List.filter_eq_self.2 fun y hy => by simp [hno y hy])
    clear hno
    go_wp2
    go_ret
    rw [HE.out, ← HN.out]
    exact ⟨rfl, by have := HOW.out.below HB1.out; rw [← HN.out] at this; exact this, Chg.of_below _ HB1.out⟩
end
section
open Go.RowKit Go.Maps
attribute [local go_sem] ext_cell ext_frozen extC_cell extC_frozen Mix.calmUpon Mix.mUpon
/-- Block b is a variable that holds a number. -/
def IB (w : World) (b : Nat) (n : Int) : Prop := w.heap[b]? = some (.cells #[.int .i64 n] 2 (0, 0))
section
variable {w w' : World} {b : Nat} {n : Int}
theorem IB.made (w : World) (n : Int) : IB (w.alloc (.cells #[.int .i64 n] 2)) w.heap.size n := heap_alloc_new w _
theorem IB.lt (h : IB w b n) : b < w.heap.size := (Array.getElem?_eq_some_iff.1 h).1
theorem IB.chg {F : Nat → Prop} (h : IB w b n) (hc : Chg F w w') (hf : ¬ F b) : IB w' b n := (hc.block b h.lt hf).trans h
theorem IB.below (h : IB w b n) (hb : Below w.heap.size w w') : IB w' b n := (hb.block b h.lt).trans h
theorem IB.cell (h : IB w b n) : w.cell? ⟨b, 0, none⟩ = some (.int .i64 n) := by unfold IB at h; simp [World.cell?, h]
end
section
variable {W : World} {b : Nat} {n : Int}
set_option maxRecDepth 100000 in
theorem fforget1 (h : IB W b n) (x : Fl) (hx : ∃ a m c, x.vv = .slice a m c) : Calls Try.prog 95 #[flval x, fptr b] W fun e w' => e = .returned (.bool (x.fr == n)) ∧ Below W.heap.size W w' := by
  obtain ⟨i, g, t, v, ps⟩ := x
  obtain ⟨xa, xn, xc, hxv⟩ := hx
  simp only at hxv
  subst hxv
  have HB := Lib.hid (ba (Below.refl W.heap.size W) (.cells #[.int .i64 i, .int .i64 g, .int .i64 t, .slice xa xn xc] 72))
  have c0 := (h.below HB.out).cell
  have cl := (h.below HB.out).lt
  obtain ⟨f0, f1, f2, f3⟩ := (FB.made W i g t (.slice xa xn xc)).cells
  have f4 := (FB.made W i g t (.slice xa xn xc)).lt
  clear h
  go_enter Try.func95, Try.ntmps95
  go_wp2
  go_ret
  exact ⟨rfl, HB.out⟩
set_option maxRecDepth 100000 in
theorem flose1 (h : IB W b n) (x : Fl) (hx : ∃ a m c, x.vv = .slice a m c) : Calls Try.prog 115 #[flval x, fptr b] W fun e w' => e = .returned (.bool (x.ag == n)) ∧ Below W.heap.size W w' := by
  obtain ⟨i, g, t, v, ps⟩ := x
  obtain ⟨xa, xn, xc, hxv⟩ := hx
  simp only at hxv
  subst hxv
  have HB := Lib.hid (ba (Below.refl W.heap.size W) (.cells #[.int .i64 i, .int .i64 g, .int .i64 t, .slice xa xn xc] 72))
  have c0 := (h.below HB.out).cell
  have cl := (h.below HB.out).lt
  obtain ⟨f0, f1, f2, f3⟩ := (FB.made W i g t (.slice xa xn xc)).cells
  have f4 := (FB.made W i g t (.slice xa xn xc)).lt
  clear h
  go_enter Try.func115, Try.ntmps115
  go_wp2
  go_ret
  exact ⟨rfl, HB.out⟩
set_option maxRecDepth 100000 in
theorem fexpire1 (h : IB W b n) (x : Fl) (hx : ∃ a m c, x.vv = .slice a m c) : Calls Try.prog 114 #[flval x, fptr b] W fun e w' => e = .returned (.bool (decide (x.ti ≤ n))) ∧ Below W.heap.size W w' := by
  obtain ⟨i, g, t, v, ps⟩ := x
  obtain ⟨xa, xn, xc, hxv⟩ := hx
  simp only at hxv
  subst hxv
  have HB := Lib.hid (ba (Below.refl W.heap.size W) (.cells #[.int .i64 i, .int .i64 g, .int .i64 t, .slice xa xn xc] 72))
  have c0 := (h.below HB.out).cell
  have cl := (h.below HB.out).lt
  obtain ⟨f0, f1, f2, f3⟩ := (FB.made W i g t (.slice xa xn xc)).cells
  have f4 := (FB.made W i g t (.slice xa xn xc)).lt
  clear h
  go_enter Try.func114, Try.ntmps114
  go_wp2
  go_ret
  exact ⟨rfl, HB.out⟩
end
end
end Go.Proofs.Ytennhfkhdfalfaa

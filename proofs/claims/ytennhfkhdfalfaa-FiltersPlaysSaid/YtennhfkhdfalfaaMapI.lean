/- Ranging over a map of the call's own, by the list of its entries. No program in it. -/
import Derived.Test.YtennhfkhdfalfaaChg
namespace Go.Proofs.Ytennhfkhdfalfaa
open Go.RowKit Go.MapKept Go.Maps
open Go.ChangeMaps (setBlock)
section
variable {P : Program} {k : TypeId} {κ : Type} {E : KEnc P k κ} {w : World} {M it : Nat} {L todo : List (κ × Value)}
/-- Block M is a map with the entries L; block it ranges over it, and todo is still to come. -/
def MapI (E : KEnc P k κ) (w : World) (M it : Nat) (L todo : List (κ × Value)) : Prop :=
  ∃ (es : Array MapEntry) (clock since c0 : Nat) (seen : Array Nat), w.heap[M]? = some (.map es clock) ∧ Stamped es clock ∧ (∀ p ∈ L, E.ok p.1) ∧ es.toList.map (fun e => (e.key, e.val)) = L.map (fun p => (E.enc p.1, p.2)) ∧
    w.heap[it]? = some (.mapIter (some M) since seen c0) ∧ (∀ e ∈ es.toList, e.born < since) ∧ (since ≤ c0 ∧ since ≤ clock) ∧ todo = ((es.toList.zip L).filter fun z => !seen.contains z.1.born).map (·.2)
theorem MapI.map (h : MapI E w M it L todo) : MapK E w M L := by
  obtain ⟨es, c, _, _, _, h1, h2, h3, h4, _⟩ := h; exact ⟨es, c, h1, h2, h3, h4⟩
theorem MapI.lt (h : MapI E w M it L todo) : M < w.heap.size ∧ it < w.heap.size := by
  obtain ⟨es, c, _, _, _, h1, _, _, _, h2, _⟩ := h
  exact ⟨(Array.getElem?_eq_some_iff.1 h1).1, (Array.getElem?_eq_some_iff.1 h2).1⟩
theorem MapI.same {w' : World} (h : MapI E w M it L todo) (h1 : w'.heap[M]? = w.heap[M]?) (h2 : w'.heap[it]? = w.heap[it]?) : MapI E w' M it L todo := by
  obtain ⟨es, c, s, c0, seen, a1, a2, a3, a4, a5, r⟩ := h
  exact ⟨es, c, s, c0, seen, h1.trans a1, a2, a3, a4, h2.trans a5, r⟩
theorem MapI.chg {F : Nat → Prop} {w' : World} (h : MapI E w M it L todo) (hc : Chg F w w') (h1 : ¬ F M) (h2 : ¬ F it) : MapI E w' M it L todo :=
  h.same (hc.block M h.lt.1 h1) (hc.block it h.lt.2 h2)
theorem MapI.below {w' : World} (h : MapI E w M it L todo) (hb : Below w.heap.size w w') : MapI E w' M it L todo := h.chg (.of_below (fun _ => False) hb) id id
theorem zip_len {es : Array MapEntry} {L : List (κ × Value)} (h : es.toList.map (fun e => (e.key, e.val)) = L.map (fun p => (E.enc p.1, p.2))) : es.toList.length = L.length := by
  have := congrArg List.length h; simpa using this
theorem zip_at {es : Array MapEntry} {L : List (κ × Value)} (h : es.toList.map (fun e => (e.key, e.val)) = L.map (fun p => (E.enc p.1, p.2))) {z : MapEntry × κ × Value} (hz : z ∈ es.toList.zip L) : z.1.key = E.enc z.2.1 ∧ z.1.val = z.2.2 := by
  obtain ⟨i, hi, rfl⟩ := List.getElem_of_mem hz
  rw [List.getElem_zip]
  have h1 : i < es.toList.length := by rw [List.length_zip] at hi; omega
  have h2 : i < L.length := by rw [List.length_zip] at hi; omega
  have e1 : (es.toList.map (fun e => (e.key, e.val)))[i]? = some (es.toList[i].key, es.toList[i].val) := by rw [List.getElem?_map, List.getElem?_eq_getElem h1]; rfl
  rw [h, List.getElem?_map, List.getElem?_eq_getElem h2] at e1
  simp at e1
  exact ⟨e1.1.symm, e1.2.symm⟩
/-- 'range m'. -/
theorem MapK.range {t e : TypeId} (h : MapK E w M L) (ht : P.underlying t = some (.map k e)) : ∃ o, (Instr.range t (.map (some M))).run P w = .ok (.pointer (some ⟨w.heap.size, 0, none⟩)) (w.alloc o) ∧ MapI E (w.alloc o) M w.heap.size L L := by
  have hl := h.lt
  obtain ⟨es, clock, h1, h2, h3, h4⟩ := h
  refine ⟨.mapIter (some M) clock #[] clock, by simp only [Instr.range, Sem.run_bind, run_underlying ht, MapKept.run_getObj_map h1, Result.andThen]; rfl, es, clock, clock, clock, #[], ?_, h2, h3, h4, heap_alloc_new _ _, h2.1, ⟨Nat.le_refl _, Nat.le_refl _⟩, ?_⟩
  · rw [heap_alloc_old _ _ hl]; exact h1
  · have : ((es.toList.zip L).filter fun z => !(#[] : Array Nat).contains z.1.born) = es.toList.zip L := List.filter_eq_self.2 fun z _ => by simp
    rw [this, List.map_snd_zip]
    rw [zip_len h4]; exact Nat.le_refl _
theorem mem_left {es : Array MapEntry} {L : List (κ × Value)} {seen : Array Nat} (h : es.toList.map (fun e => (e.key, e.val)) = L.map (fun p => (E.enc p.1, p.2))) {e : MapEntry} (he : e ∈ (leftOf es seen).toList) :
    ∃ p, (e, p) ∈ (es.toList.zip L).filter (fun z => !seen.contains z.1.born) := by
  unfold leftOf at he
  rw [Array.toList_filter] at he
  obtain ⟨h1, h2⟩ := List.mem_filter.1 he
  obtain ⟨i, hi, rfl⟩ := List.getElem_of_mem h1
  have hL : i < L.length := by rw [← zip_len h]; exact hi
  refine ⟨L[i], List.mem_filter.2 ⟨?_, h2⟩⟩
  have := List.getElem_zip (l := es.toList) (l' := L) (i := i) (h := by rw [List.length_zip]; omega)
  rw [← this]; exact List.getElem_mem _
theorem left_none {es : Array MapEntry} {L : List (κ × Value)} {seen : Array Nat} (h : (leftOf es seen).size = 0) : ((es.toList.zip L).filter fun z => !seen.contains z.1.born) = [] := by
  have h0 : (leftOf es seen).toList = [] := List.eq_nil_of_length_eq_zero (by simpa using h)
  unfold leftOf at h0
  rw [Array.toList_filter, List.filter_eq_nil_iff] at h0
  exact List.filter_eq_nil_iff.2 fun z hz => h0 z.1 (List.of_mem_zip hz).1
theorem eraseIdx_filter {α : Type} {p : α → Bool} : ∀ {l : List α} {j : Nat} {x : α}, l[j]? = some x → p x = false → (∀ i y, l[i]? = some y → i ≠ j → p y = true) → l.filter p = l.eraseIdx j
  | [], j, x, h, _, _ => by simp at h
  | a :: t, 0, x, h, hx, ho => by
    simp at h; subst h
    rw [List.filter_cons, if_neg (by rw [hx]; simp), List.eraseIdx_cons_zero]
    exact List.filter_eq_self.2 fun y hy => by
      obtain ⟨i, hi, rfl⟩ := List.getElem_of_mem hy
      exact ho (i + 1) _ (by simp) (by omega)
  | a :: t, j + 1, x, h, hx, ho => by
    rw [List.filter_cons, if_pos (ho 0 a rfl (by omega)), List.eraseIdx_cons_succ]
    rw [eraseIdx_filter (j := j) (by simpa using h) hx fun i y hy hi => ho (i + 1) y (by simpa using hy) (by omega)]
/-- A step of the range: nothing is left, or some entry comes. -/
theorem MapI.next (h : MapI E w M it L todo) (ty : TypeId) :
    (todo = [] ∧ (Instr.next (.pointer (some ⟨it, 0, none⟩)) false ty).run P w = .ok (.tuple #[.bool false]) w) ∨
    ∃ (p : κ × Value) (j : Nat) (w' : World), todo[j]? = some p ∧ p ∈ L ∧ (Instr.next (.pointer (some ⟨it, 0, none⟩)) false ty).run P w = .ok (.tuple #[.bool true, E.enc p.1, p.2]) w' ∧
      (Instr.entry (.pointer (some ⟨it, 0, none⟩))).run P w' = .ok (.tuple #[E.enc p.1, p.2]) w' ∧ MapI E w' M it L (todo.eraseIdx j) ∧ Chg (fun b => b = it) w w' := by
  have hlt := h.lt
  obtain ⟨es, clock, since, c0, seen, hb, hs, hok, heq, hr, hold, hsc, htd⟩ := h
  have hMi : M ≠ it := fun e => by rw [e, hr] at hb; cases hb
  rcases run_next_at (P := P) w ty it M since c0 seen es clock hr hb hold hsc.1 with ⟨h0, hrun⟩ | ⟨e, he, w1, hw1, hrun⟩
  · exact .inl ⟨by rw [htd, left_none h0]; rfl, hrun⟩
  · right
    obtain ⟨p, hp⟩ := mem_left heq he
    obtain ⟨hz, hun⟩ := List.mem_filter.1 hp
    obtain ⟨e1, e2⟩ := zip_at heq hz
    obtain ⟨j, hj, hjz⟩ := List.getElem_of_mem hp
    have hb1 : w1.heap = w.heap := by rcases hw1 with rfl | rfl <;> rfl
    have hem : e ∈ es.toList := (List.of_mem_zip hz).1
    have hM' : (setBlock w1 it (.mapIter (some M) since (seen.push e.born) clock)).heap[M]? = some (.map es clock) := by
      simp only [setBlock, hb1]
      rw [Array.getElem?_setIfInBounds_ne (Ne.symm hMi)]; exact hb
    have hi' : (setBlock w1 it (.mapIter (some M) since (seen.push e.born) clock)).heap[it]? = some (.mapIter (some M) since (seen.push e.born) clock) := by
      simp only [setBlock, hb1]
      rw [Array.getElem?_setIfInBounds_self, if_pos hlt.2]
    refine ⟨p, j, _, by rw [htd, List.getElem?_map, List.getElem?_eq_getElem hj, hjz]; rfl, (List.of_mem_zip hz).2, by rw [← e1, ← e2]; exact hrun, ?_, ?_, ?_⟩
    · rw [← e1, ← e2]
      exact run_entry_at _ it M since seen es clock e hi' hM' hem hs.2.1
    · refine ⟨es, clock, since, clock, seen.push e.born, hM', hs, hok, heq, hi', hold, ⟨hsc.2, hsc.2⟩, ?_⟩
      rw [htd, ← ChangeMaps.map_eraseIdx]
      congr 1
      have hnb : ((es.toList.zip L).map (·.1.born)).Nodup := by
        have : (es.toList.zip L).map (·.1.born) = es.toList.map (·.born) := by
          rw [show ((fun z : MapEntry × κ × Value => z.1.born)) = (fun e : MapEntry => e.born) ∘ Prod.fst from rfl, ← List.map_map, List.map_fst_zip]
          rw [zip_len heq]; exact Nat.le_refl _
        rw [this]; exact hs.2.1
      have hsub : (((es.toList.zip L).filter fun z => !seen.contains z.1.born).map (·.1.born)).Nodup := (List.Sublist.map _ List.filter_sublist).nodup hnb
      have hq : ∀ z : MapEntry × κ × Value, (!(seen.push e.born).contains z.1.born) = ((!seen.contains z.1.born) && !(z.1.born == e.born)) := fun z => by
        rw [Bool.eq_iff_iff]; simp
      rw [show (fun z : MapEntry × κ × Value => !(seen.push e.born).contains z.1.born) = fun z => ((!seen.contains z.1.born) && !(z.1.born == e.born)) from funext hq]
      rw [show (fun z : MapEntry × κ × Value => ((!seen.contains z.1.born) && !(z.1.born == e.born))) = fun z => ((!(z.1.born == e.born)) && (!seen.contains z.1.born)) from funext fun z => Bool.and_comm _ _, ← List.filter_filter]
      refine (eraseIdx_filter (p := fun z : MapEntry × κ × Value => !(z.1.born == e.born)) (x := (e, p)) (by rw [List.getElem?_eq_getElem hj, hjz]) (by show (!(e.born == e.born)) = false; rw [beq_self_eq_true]; rfl) fun i y hy hij => ?_).symm
      have h1 : (((es.toList.zip L).filter fun z => !seen.contains z.1.born).map (·.1.born))[i]? = some y.1.born := by rw [List.getElem?_map, hy]; rfl
      have h2 : (((es.toList.zip L).filter fun z => !seen.contains z.1.born).map (·.1.born))[j]? = some e.born := by rw [List.getElem?_map, List.getElem?_eq_getElem hj, hjz]; rfl
      show (!(y.1.born == e.born)) = true
      rw [Bool.not_eq_true']
      refine beq_eq_false_iff_ne.2 ?_
      intro heb
      rw [heb, ← h2] at h1
      have hi := (List.getElem?_eq_some_iff.1 (h1.trans h2)).1
      exact hij ((List.getElem?_inj hi hsub).1 h1)
    · refine ⟨by rcases hw1 with rfl | rfl <;> rfl, by rcases hw1 with rfl | rfl <;> rfl, by rcases hw1 with rfl | rfl <;> rfl, by simp [setBlock, hb1], fun b hb2 hne => ?_⟩
      simp only [setBlock, hb1]
      rw [Array.getElem?_setIfInBounds_ne (fun e => hne e.symm)]
theorem MapI.mem (h : MapI E w M it L todo) : ∀ p ∈ todo, p ∈ L := by
  obtain ⟨es, c, s, c0, seen, _, _, _, _, _, _, _, rfl⟩ := h
  intro p hp
  obtain ⟨z, hz, rfl⟩ := List.mem_map.1 hp
  exact (List.of_mem_zip (List.mem_filter.1 hz).1).2
theorem zip_erase {α β : Type} : ∀ (l : List α) (m : List β) (j : Nat), (l.eraseIdx j).zip (m.eraseIdx j) = (l.zip m).eraseIdx j
  | [], m, j => by simp
  | a :: l, [], j => by
    cases j <;> simp
  | a :: l, b :: m, 0 => by simp
  | a :: l, b :: m, j + 1 => by simp [zip_erase l m j]
/-- 'delete(m, x)' while m is ranged over: it does not come any more. -/
theorem MapI.drop [DecidableEq κ] (h : MapI E w M it L todo) (K : Keyed P k) {t e : TypeId} (ht : P.underlying t = some (.map k e)) (ty : TypeId) {x : κ} (hx : E.ok x) :
    ∃ o, (Builtin.delete_ #[t, k] ty #[.map (some M), E.enc x]).run P w = .ok (.tuple #[]) (setBlock w M o) ∧ MapI E (setBlock w M o) M it (mdel L x) (todo.filter fun p => decide (p.1 ≠ x)) := by
  have hm := h.map
  have hnd := hm.nodup
  have hl := h.lt
  obtain ⟨es, clock, since, c0, seen, hb, hs, hok, hL, hr, hold, hsc, htd⟩ := h
  have hMi : M ≠ it := fun e => by rw [e, hr] at hb; cases hb
  have hit : ∀ o, (setBlock w M o).heap[it]? = some (.mapIter (some M) since seen c0) := fun o => by
    simp only [setBlock]
    rw [Array.getElem?_setIfInBounds_ne hMi]; exact hr
  obtain ⟨es', clock', hb', _, hL', hf⟩ := hm.find K hx
  rw [hb] at hb'; cases hb'
  obtain ⟨lx, hlx⟩ := E.lit x hx
  have okp : ∀ p ∈ mdel L x, E.ok p.1 := fun p hp => hok p (List.mem_filter.1 hp).1
  rcases hf with ⟨r1, r2, r3⟩ | ⟨j, u, born, r1, r2, r3⟩
  · refine ⟨.map es clock, by simp [Builtin.delete_, run_underlying ht, MapKept.run_getObj_map hb, K.check w _ hlx, r1, MapKept.run_setObj_map _ hb, Result.andThen, setBlock], ?_⟩
    have hd : mdel L x = L := List.filter_eq_self.2 fun p hp => by simpa using look_none.1 r2 p hp
    refine ⟨es, clock, since, c0, seen, setBlock_at hb, hs, by rw [hd]; exact hok, by rw [hd]; exact hL, hit _, hold, hsc, ?_⟩
    rw [hd, htd]
    refine List.filter_eq_self.2 fun p hp => ?_
    obtain ⟨z, hz, rfl⟩ := List.mem_map.1 hp
    simpa using look_none.1 r2 _ (List.of_mem_zip (List.mem_filter.1 hz).1).2
  · have hj2 : es.toList[j]? = some ⟨E.enc x, u, born⟩ := by simpa using r3
    have hjs : j < es.size := (Array.getElem?_eq_some_iff.1 r3).1
    have hsub : (es.eraseIdxIfInBounds j).toList = es.toList.eraseIdx j := by
      unfold Array.eraseIdxIfInBounds
      rw [dif_pos hjs]
      simp
    have hjl : j < L.length := by rw [← zip_len hL]; simpa using hjs
    have hLj : L[j]? = some (x, u) := by
      have e1 : (es.toList.map (fun e => (e.key, e.val)))[j]? = some (E.enc x, u) := by rw [List.getElem?_map, hj2]; rfl
      rw [hL, List.getElem?_map, List.getElem?_eq_getElem hjl] at e1
      simp at e1
      rw [List.getElem?_eq_getElem hjl]
      have := E.inj _ _ (hok _ (List.getElem_mem hjl)) hx e1.1
      rw [← this, ← e1.2]
    have hdL : mdel L x = L.eraseIdx j := by
      refine eraseIdx_filter (x := (x, u)) hLj (by simp) fun i y hy hij => ?_
      simp only [ne_eq, decide_eq_true_eq]
      intro e
      have k1 : (L.map (·.1))[i]? = some x := by rw [List.getElem?_map, hy]; simp [e]
      have k2 : (L.map (·.1))[j]? = some x := by rw [List.getElem?_map, hLj]; rfl
      exact hij ((List.getElem?_inj (List.getElem?_eq_some_iff.1 k1).1 hnd).1 (k1.trans k2.symm))
    have hdz : ((es.toList.zip L).filter fun z => decide (z.2.1 ≠ x)) = (es.toList.zip L).eraseIdx j := by
      have hzj : (es.toList.zip L)[j]? = some (⟨E.enc x, u, born⟩, (x, u)) := by
        rw [List.getElem?_zip_eq_some]; exact ⟨hj2, hLj⟩
      refine eraseIdx_filter hzj (by simp) fun i y hy hij => ?_
      simp only [ne_eq, decide_eq_true_eq]
      intro e
      have hyL := (List.getElem?_zip_eq_some.1 hy).2
      have k1 : (L.map (·.1))[i]? = some x := by rw [List.getElem?_map, hyL]; simp [e]
      have k2 : (L.map (·.1))[j]? = some x := by rw [List.getElem?_map, hLj]; rfl
      exact hij ((List.getElem?_inj (List.getElem?_eq_some_iff.1 k1).1 hnd).1 (k1.trans k2.symm))
    refine ⟨_, by simp [Builtin.delete_, run_underlying ht, MapKept.run_getObj_map hb, K.check w _ hlx, r1, MapKept.run_setObj_map _ hb, Result.andThen, setBlock]; rfl, ?_⟩
    refine ⟨_, _, since, c0, seen, setBlock_at hb, stamped_erase hs j, okp, ?_, hit _, fun e he => hold e ?_, hsc, ?_⟩
    · rw [hsub, ChangeMaps.map_eraseIdx, hL, ← ChangeMaps.map_eraseIdx, hdL]
    · rw [hsub] at he; exact List.mem_of_mem_eraseIdx he
    · rw [hsub, hdL, zip_erase, ← hdz, htd, List.filter_filter, List.filter_map]
      rw [List.filter_filter]
      congr 1
      refine List.filter_congr fun z _ => ?_
      simp [Bool.and_comm]
end
end Go.Proofs.Ytennhfkhdfalfaa

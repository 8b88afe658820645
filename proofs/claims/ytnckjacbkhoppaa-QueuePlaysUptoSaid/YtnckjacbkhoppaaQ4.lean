/- queue: slices.Clone and copy at events; Take. -/
import Derived.Test.YtnckjacbkhoppaaQ3
import Derived.Lib.SliceRun
namespace Go.Proofs.Ytnckjacbkhoppaa
open Go.RowKit Go.Maps
open Go.ChangeMaps (setBlock)
attribute [local go_sem] ext_cell ext_frozen extC_cell extC_frozen Mix.calmUpon Mix.mUpon
theorem ev_one {l : List Ev} (h : ∀ x ∈ l, x.vv.oneCell' = true) : ∀ u ∈ l.flatMap evenc, u.oneCell' = true := fun u hu => by
  obtain ⟨x, hx, hu⟩ := List.mem_flatMap.1 hu
  simp only [evenc, List.mem_cons, List.not_mem_nil, or_false] at hu
  rcases hu with rfl | rfl | rfl | rfl | rfl <;> first | rfl | exact h x hx
/-- The cells of a list of events that can be read. -/
theorem rs_flat {w : World} {l : List Ev} {b off n cap : Nat} (h : RS 5 evenc w (.slice (some ⟨b, off, none⟩) n cap) l) : ∀ j u, (l.flatMap evenc)[j]? = some u → w.cell? ((⟨b, off, none⟩ : Addr).add j) = some u := fun j u hu => by
  obtain ⟨a, n', cap', hv, hn, -, -, hat⟩ := h.at_
  cases hv
  have hj := (List.getElem?_eq_some_iff.1 hu).1
  rw [flat_len (enc := evenc) evenc_len] at hj
  have hi : j / 5 < l.length := by omega
  have hf := flat_at (enc := evenc) (k := 5) (fun _ => rfl) l (j / 5) hi (j % 5) (by omega)
  rw [show j / 5 * 5 + j % 5 = j by omega] at hf
  obtain ⟨b', off', e, -, hc⟩ := hat (j / 5) l[j / 5] (List.getElem?_eq_getElem hi)
  cases e
  have := hc (j % 5) u (hf.symm.trans hu)
  rw [Addr.add_lit]
  rw [show off + j / 5 * 5 + j % 5 = off + j by omega] at this
  exact this
set_option maxRecDepth 100000 in
theorem evclone {w : World} {base : Nat} {v : Value} {l : List Ev} (h : OwnO 5 evenc w base v l) (h1 : ∀ x ∈ l, x.vv.oneCell' = true) (hl : l.length < 1000000) :
    Calls Try.prog 109 #[v] w fun e w' => ∃ u, e = .returned u ∧ OwnO 5 evenc w' w.heap.size u l ∧ Below w.heap.size w w' := by
  have HR := Lib.hid (h.rs fun _ => rfl)
  rcases h with ⟨rfl, rfl⟩ | ⟨b, off, cap, rfl, -, hb, hc, hcm, -⟩
  · have q22 := fun (w : World) (a : Option Addr) (n c n' c' : Nat) => Lib.run_eql_slice_nil (P := Try.prog) w 24 _ a n c n' c' Try.underlying24
    go_enter Try.func109, Try.ntmps109
    go_wp2
    go_ret
    exact ⟨_, rfl, OwnO.nil _ _ _ _, Below.refl _ _⟩
  · obtain ⟨i0, hi, hz0, hz1, hz2⟩ := info_parts infoEv
    obtain ⟨n, hn⟩ : ∃ n, n = l.length := ⟨_, rfl⟩
    have HMK := Lib.hid (show (w.alloc (.cells #[] 28)).ownsRow w.heap.size 28 5 (.slice (some ⟨w.heap.size, 0, none⟩) 0 0) 0 [] from World.ownsRow_made w #[] 0 (Nat.le_refl _) (by unfold maxLen; omega) (by simp))
    have hbe := ba (Below.refl w.heap.size w) (.cells #[] 28)
    obtain ⟨v', w', hr, ho, hg, -⟩ := run_app (P := Try.prog) (w.alloc (.cells #[] 28)) w.heap.size 24 24 28 i0 _ 5 56 Try.underlying24 hi hz0 hz1 hz2 rfl (by decide) _ 0 [] HMK.out ⟨b, off, none⟩ l.length cap (l.flatMap evenc) (flat_len (enc := evenc) evenc_len l) (rs_flat (HR.out.below hbe)) (ev_one h1) (by unfold maxLen; omega) (by omega) (by simp)
    have HO := Lib.hid (show OwnL 28 5 evenc w' w.heap.size v' l from by
      unfold OwnL; simpa using ho)
    have HB := Lib.hid (show Below w.heap.size w w' from hbe.grown hg (by simp) (fun j hj => by cases hj; exact Nat.le_refl _))
    rw [← hn] at hr
    have HRA := Lib.hid hr
    rw [← hn]
    clear hn ho hg hr hbe h1
    have q22 := fun (w : World) (a : Option Addr) (n c n' c' : Nat) => Lib.run_eql_slice_nil (P := Try.prog) w 24 _ a n c n' c' Try.underlying24
    go_enter Try.func109, Try.ntmps109
    go_wp2_with (at_builtin; refine wpList_app_run rfl _ _ _ rfl rfl rfl HRA.out ?_)
    go_ret
    exact ⟨_, rfl, HO.out.o fun _ => rfl, HB.out⟩
theorem run_copy_evs (w : World) (ty : TypeId) (g n cap b off sn sCap : Nat) (cur : Array Value) (cs : List Value) (hg : w.heap[g]? = some (.cells cur 28 (0, 0))) (hcs : cs.length = n * 5) (hcur : cur.size = n * 5) (hsn : n ≤ sn)
    (hsrc : ∀ j v, cs[j]? = some v → w.cell? ((⟨b, off, none⟩ : Addr).add j) = some v) (h1 : ∀ v ∈ cs, v.oneCell' = true) :
    (Builtin.copy_ #[24, 24] ty #[.slice (some ⟨g, 0, none⟩) n cap, .slice (some ⟨b, off, none⟩) sn sCap]).run Try.prog w = .ok (goInt n) (w.setRow g cs.toArray) := by
  obtain ⟨i0, hi, _, hz1, _⟩ := info_parts infoEv
  have hl := run_loadCells_list (P := Try.prog) w ⟨b, off, none⟩ cs hsrc
  have hst := run_storeCells_at Try.prog g 0 28 cs 0 cur w hg (by rw [hcs, hcur]; omega) h1
  have e : (cur.toList.take (0 + 0) ++ cs ++ cur.toList.drop (0 + 0 + cs.length)) = cs := by
    rw [List.drop_of_length_le (by rw [Array.length_toList, hcur, hcs]; omega)]; simp
  rw [e] at hst
  rw [hcs] at hl
  simp [Builtin.copy_, run_underlying Try.underlying24, Builtin.lenOf, Builtin.firstCells, sizeOf, typeInfo, hi, hz1, hl, hst, show sn.min n = n from Nat.min_eq_right hsn]
theorem evmake (n : Nat) (hn : n < 1000000) (w : World) : (Instr.makeSlice 24 (.int .i64 (n : Int)) (.int .i64 (n : Int))).run Try.prog w = .ok (.slice (some ⟨w.heap.size, 0, none⟩) n n) (w.alloc (.cells (madeCells #[.int .i64 0, .int .i64 0, .int .i64 0, .int .i64 0, .slice none 0 0] (n * 5)) 28)) := by
  obtain ⟨i0, hi, hz0, hz1, hz2⟩ := info_parts infoEv
  have := run_make (P := Try.prog) w 24 28 i0 _ Try.underlying24 hi hz0 .i64 .i64 (n : Int) (n : Int) (by omega) (by omega) (by rw [hz2]; omega) (by omega)
  rw [hz1] at this
  exact this
/-- make, and copy into it the first n events of a row of the call's own. -/
theorem evmade {w : World} {base n : Nat} {v : Value} {l : List Ev} (h : OwnO 5 evenc w base v l) (h1 : ∀ x ∈ l, x.vv.oneCell' = true) (hn : n ≤ l.length) (hl : n < 1000000) :
    ∃ w1 w2, (∀ ty, (Builtin.copy_ #[24, 24] ty #[.slice (some ⟨w.heap.size, 0, none⟩) n n, v]).run Try.prog w1 = .ok (goInt n) w2) ∧ w1 = w.alloc (.cells (madeCells #[.int .i64 0, .int .i64 0, .int .i64 0, .int .i64 0, .slice none 0 0] (n * 5)) 28) ∧
      OwnO 5 evenc w2 w.heap.size (.slice (some ⟨w.heap.size, 0, none⟩) n n) (l.take n) ∧ Below w.heap.size w w2 ∧ w2.heap.size = w.heap.size + 1 := by
  have hbe := ba (Below.refl w.heap.size w) (.cells (madeCells #[.int .i64 0, .int .i64 0, .int .i64 0, .int .i64 0, .slice none 0 0] (n * 5)) 28)
  have hsz : (madeCells #[.int .i64 0, .int .i64 0, .int .i64 0, .int .i64 0, .slice none 0 0] (n * 5)).size = n * 5 := size_madeCells _ _
  have hln : (l.take n).length = n := by rw [List.length_take]; omega
  by_cases h0 : n = 0
  · subst h0
    refine ⟨_, _, fun ty => ?_, rfl, ?_, hbe, by simp⟩
    · obtain ⟨a, sn, sc, rfl, hsn, -, -⟩ := h.form
      obtain ⟨i0, hi, _, hz1, _⟩ := info_parts infoEv
      have hld : ∀ (x : Addr) (w : World), (loadCells x 0).run Try.prog w = .ok #[] w := fun x w => by simpa using run_loadCells_list (P := Try.prog) w x [] (by simp)
      cases a <;> simp [Builtin.copy_, run_underlying Try.underlying24, Builtin.lenOf, Builtin.firstCells, sizeOf, typeInfo, hi, storeCells, hld]
    · exact OwnL.o (e := 28) (World.ownsRow_made w _ 0 (Nat.le_refl _) (by unfold maxLen; omega) hsz) fun _ => rfl
  · have hR := h.rs (fun _ => rfl)
    rcases h with ⟨rfl, rfl⟩ | ⟨b, off, cap, rfl, -, hb, hc, hcm, -⟩
    · simp at hn; exact absurd hn h0
    · have hcs : ((l.take n).flatMap evenc).length = n * 5 := by rw [flat_len (enc := evenc) evenc_len, hln]
      have hrd := rs_flat (hR.below hbe)
      refine ⟨_, _, fun ty => run_copy_evs _ ty w.heap.size n n b off l.length cap _ ((l.take n).flatMap evenc) (heap_alloc_new w _) hcs hsz hn (fun j u hu => ?_) (ev_one fun x hx => h1 x (List.mem_of_mem_take hx)), rfl, ?_, below_setRow hbe (Nat.le_refl _) _, by simp [World.setRow]⟩
      · refine hrd j u ?_
        have e1 : l.flatMap evenc = (l.take n).flatMap evenc ++ (l.drop n).flatMap evenc := by rw [← List.flatMap_append, List.take_append_drop]
        rw [e1, List.getElem?_append_left (List.getElem?_eq_some_iff.1 hu).1]; exact hu
      · refine OwnL.o (e := 28) (show World.ownsRow _ _ _ _ _ _ _ from ?_) fun _ => rfl
        rw [hln]
        exact ⟨hcs, .inr ⟨w.heap.size, n, ((l.take n).flatMap evenc).toArray, rfl, Nat.le_refl _, setRow_heap _ _ _ _ _ _ (heap_alloc_new w _), Nat.le_refl _, by unfold maxLen; omega, by simpa using hcs, by show List.take _ ((l.take n).flatMap evenc) = _; rw [← hcs, List.take_length]⟩⟩
end Go.Proofs.Ytnckjacbkhoppaa

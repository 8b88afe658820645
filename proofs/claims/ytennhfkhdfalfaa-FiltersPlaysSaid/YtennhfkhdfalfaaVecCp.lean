/- vec.Copy at any slice of parts. -/
import Derived.Test.YtennhfkhdfalfaaVecV
import Derived.Laws.CopyOwn
namespace Go.Proofs.Ytennhfkhdfalfaa
open Go.RowKit
attribute [local go_sem] ext_cell ext_frozen Mix.calmUpon Mix.mUpon
theorem infoPart : (Try.prog.info? 57).map (fun i => (i.zero, i.size, i.bytes)) = some (some (.agg #[.int .i64 0, .int .i64 0, .int .i64 0]), 3, 24) := by kernel_rfl
theorem run_copy_parts (w : World) (ty : TypeId) (g n cap b off sCap : Nat) (cur : Array Value) (cs : List Value) (hg : w.heap[g]? = some (.cells cur 57 (0, 0))) (hcs : cs.length = n * 3) (hcur : cur.size = n * 3)
    (hsrc : ∀ j v, cs[j]? = some v → w.cell? ((⟨b, off, none⟩ : Addr).add j) = some v) (h1 : ∀ v ∈ cs, v.oneCell' = true) :
    (Builtin.copy_ #[32, 32] ty #[.slice (some ⟨g, 0, none⟩) n cap, .slice (some ⟨b, off, none⟩) n sCap]).run Try.prog w = .ok (goInt n) (w.setRow g cs.toArray) := by
  obtain ⟨i0, hi, _, hz1, _⟩ := info_parts infoPart
  have hl := run_loadCells_list (P := Try.prog) w ⟨b, off, none⟩ cs hsrc
  have hst := run_storeCells_at Try.prog g 0 57 cs 0 cur w hg (by rw [hcs, hcur]; omega) h1
  have e : (cur.toList.take (0 + 0) ++ cs ++ cur.toList.drop (0 + 0 + cs.length)) = cs := by
    rw [List.drop_of_length_le (by rw [Array.length_toList, hcur, hcs]; omega)]; simp
  rw [e] at hst
  rw [hcs] at hl
  simp [Builtin.copy_, run_underlying Try.underlying32, Builtin.lenOf, Builtin.firstCells, sizeOf, typeInfo, hi, hz1, hl, hst]
theorem pcells_one : ∀ (l : List Pt), ∀ v ∈ pcells l, v.oneCell' = true
  | [], v, h => by simp [pcells] at h
  | p :: t, v, h => by
    simp only [pcells, List.mem_cons] at h
    rcases h with rfl | rfl | rfl | h
    · rfl
    · rfl
    · rfl
    · exact pcells_one t v h
theorem parts_cells {w : World} {b off : Nat} {l : List Pt} (h : Parts w b off l.length (kk l) (rr l) (aa l)) : ∀ j v, (pcells l)[j]? = some v → w.cell? ((⟨b, off, none⟩ : Addr).add j) = some v := fun j v hj => by
  have hadd : (⟨b, off, none⟩ : Addr).add j = ⟨b, off + j, none⟩ := by unfold Addr.add; split <;> simp_all
  rw [hadd]
  have hlt : j < (pcells l).length := by
    rcases Nat.lt_or_ge j (pcells l).length with h' | h'
    · exact h'
    · rw [List.getElem?_eq_none h'] at hj; cases hj
  rw [pcells_len] at hlt
  obtain ⟨i, hi⟩ : ∃ i, i = j / 3 := ⟨_, rfl⟩
  have hil : i < l.length := by omega
  obtain ⟨c0, c1, c2⟩ := h i hil
  obtain ⟨d0, d1, d2⟩ := pcells_get l i hil
  have hm : j = i * 3 ∨ j = i * 3 + 1 ∨ j = i * 3 + 2 := by omega
  rcases hm with rfl | rfl | rfl
  · rw [d0] at hj; rw [← hj]; exact c0
  · rw [d1] at hj; rw [← hj, ← Nat.add_assoc]; exact c1
  · rw [d2] at hj; rw [← hj, ← Nat.add_assoc]; exact c2
/-- Nothing goes over where there is no element: whatever the addresses. -/
theorem run_copy_zero (P : Program) (w : World) (dT sT ty elem : TypeId) (d : Addr) (a : Option Addr) (dCap sCap : Nat) (hu : P.underlying dT = some (.slice elem)) (hs : ((P.info? elem).map (·.size)).isSome = true) :
    (Builtin.copy_ #[dT, sT] ty #[.slice (some d) 0 dCap, .slice a 0 sCap]).run P w = .ok (goInt 0) w := by
  cases hq : P.info? elem with
  | none => simp [hq] at hs
  | some i =>
    have hl : ∀ (x : Addr), (loadCells x 0).run P w = .ok #[] w := fun x => by simpa using run_loadCells_list (P := P) w x [] (by simp)
    cases a <;> simp [Builtin.copy_, run_underlying hu, Builtin.lenOf, Builtin.firstCells, sizeOf, typeInfo, hq, storeCells, hl]
set_option maxRecDepth 100000 in
theorem vcopy_nil (a : Option Addr) (cap : Nat) (W : World) : Calls Try.prog 65 #[.slice a 0 cap] W fun e w' => ∃ u, e = .returned u ∧ OwnP w' W.heap.size u [] ∧ Below W.heap.size W w' := by
  obtain ⟨i0, hi, hz0, hz1, hz2⟩ := info_parts infoPart
  have hmk : ∀ w : World, (Instr.makeSlice 32 (.int .i64 0) (.int .i64 0)).run Try.prog w = .ok (.slice (some ⟨w.heap.size, 0, none⟩) 0 0) (w.alloc (.cells (madeCells #[.int .i64 0, .int .i64 0, .int .i64 0] (0 * 3)) 57)) := fun w => by
    have := run_make (P := Try.prog) w 32 57 i0 _ Try.underlying32 hi hz0 .i64 .i64 0 0 (by omega) (by omega) (by rw [hz2]; omega) (by omega)
    rw [hz1] at this
    exact this
  have hcp : ∀ (w : World) (ty : TypeId) (d : Addr), (Builtin.copy_ #[32, 32] ty #[.slice (some d) 0 0, .slice a 0 cap]).run Try.prog w = .ok (goInt 0) w := fun w ty d => run_copy_zero Try.prog w _ _ ty 57 d a 0 cap Try.underlying32 (by rw [hi]; rfl)
  have HMK := Lib.hid (show (W.alloc (.cells (madeCells #[.int .i64 0, .int .i64 0, .int .i64 0] (0 * 3)) 57)).ownsRow W.heap.size 57 3 (.slice (some ⟨W.heap.size, 0, none⟩) 0 0) 0 [] from World.ownsRow_made W _ 0 (Nat.le_refl _) (by unfold maxLen; omega) (size_madeCells _ _))
  go_enter Try.func65, Try.ntmps65
  go_wp2
  go_ret
  exact ⟨_, rfl, HMK.out, by (repeat (first | assumption | exact Below.refl _ _ | refine ba ?_ _ | refine bd ?_ | refine bdn ?_ _ | refine bs ?_ (by first | omega | (simp; done) | (simp; omega)) _ | refine bt ?_ (by assumption)))⟩
set_option maxRecDepth 100000 in
theorem vcopy_some (b off n cap : Nat) (l : List Pt) (hn : n = l.length) (hl : n < 1000000) (W : World) (hb : b < W.heap.size) (hP : Parts W b off n (kk l) (rr l) (aa l)) :
    Calls Try.prog 65 #[.slice (some ⟨b, off, none⟩) n cap] W fun e w' => ∃ u, e = .returned u ∧ OwnP w' W.heap.size u l ∧ Below W.heap.size W w' := by
  obtain ⟨i0, hi, hz0, hz1, hz2⟩ := info_parts infoPart
  have hmk : ∀ w : World, (Instr.makeSlice 32 (.int .i64 (n : Int)) (.int .i64 (n : Int))).run Try.prog w = .ok (.slice (some ⟨w.heap.size, 0, none⟩) n n) (w.alloc (.cells (madeCells #[.int .i64 0, .int .i64 0, .int .i64 0] (n * 3)) 57)) := fun w => by
    have := run_make (P := Try.prog) w 32 57 i0 _ Try.underlying32 hi hz0 .i64 .i64 (n : Int) (n : Int) (by omega) (by omega) (by rw [hz2]; omega) (by omega)
    rw [hz1] at this
    exact this
  have HP := Lib.hid (parts_cells (w := W.alloc (.cells (madeCells #[.int .i64 0, .int .i64 0, .int .i64 0] (n * 3)) 57)) (b := b) (off := off) (l := l) (by rw [← hn]; exact hP.grow hb (ba (Below.refl _ _) _)))
  have HL := Lib.hid (show (pcells l).length = n * 3 by rw [pcells_len, hn])
  have HN := Lib.hid hn
  obtain ⟨cs, hcs⟩ : ∃ cs, cs = pcells l := ⟨_, rfl⟩
  have HC := Lib.hid hcs
  have H1 := Lib.hid (pcells_one l)
  rw [← hcs] at HP HL H1
  have hcp := fun ty => run_copy_parts (W.alloc (.cells (madeCells #[.int .i64 0, .int .i64 0, .int .i64 0] (n * 3)) 57)) ty W.heap.size n n b off cap (madeCells #[.int .i64 0, .int .i64 0, .int .i64 0] (n * 3)) cs (heap_alloc_new W _) HL.out (size_madeCells _ _) HP.out H1.out
  clear hP hn hcs
  go_enter Try.func65, Try.ntmps65
  go_wp2
  have HB := Lib.hid (show Below W.heap.size W ((W.alloc (.cells (madeCells #[.int .i64 0, .int .i64 0, .int .i64 0] (n * 3)) 57)).setRow W.heap.size cs.toArray) from below_setRow (ba (Below.refl _ _) _) (Nat.le_refl _) _)
  have HR := Lib.hid (show OwnP ((W.alloc (.cells (madeCells #[.int .i64 0, .int .i64 0, .int .i64 0] (n * 3)) 57)).setRow W.heap.size cs.toArray) W.heap.size (.slice (some ⟨W.heap.size, 0, none⟩) n n) l from by
    rw [OwnP, ← HC.out, ← HN.out]
    exact ⟨HL.out, .inr ⟨W.heap.size, n, cs.toArray, rfl, Nat.le_refl _, setRow_heap _ _ _ _ _ _ (heap_alloc_new W _), Nat.le_refl _, by unfold maxLen; omega, by simpa using HL.out, by rw [← HL.out]; simp⟩⟩)
  go_ret
  exact ⟨_, rfl, HR.out, HB.out⟩
theorem vcopy_any (v : Value) (l : List Pt) (hl : l.length < 1000000) (W : World) (hV : Vc W v l) : Calls Try.prog 65 #[v] W fun e w' => ∃ u, e = .returned u ∧ OwnP w' W.heap.size u l ∧ Below W.heap.size W w' := by
  rcases hV with ⟨⟨a, cap, rfl, _⟩, rfl⟩ | ⟨b, off, cap, rfl, h2, h3, h4, h5⟩
  · exact vcopy_nil a cap W
  · exact vcopy_some b off _ cap l rfl hl W h4 h5
end Go.Proofs.Ytennhfkhdfalfaa

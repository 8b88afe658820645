/- offers: New, made, Last. -/
import Derived.Test.YtnckjacbkhoppaaOf0
import Derived.Laws.ResultCell
namespace Go.Proofs.Ytnckjacbkhoppaa
open Go.RowKit Go.Maps Go.MapKept
attribute [local go_sem] ext_cell ext_frozen extC_cell extC_frozen Mix.calmUpon Mix.mUpon
theorem makeO (w : World) : (Instr.makeMap 80 none).run Try.prog w = .ok (.map (some w.heap.size)) (w.alloc (.map #[] 0)) := by kernel_rfl
theorem makeSs (w : World) : (Instr.makeMap 82 none).run Try.prog w = .ok (.map (some w.heap.size)) (w.alloc (.map #[] 0)) := by kernel_rfl
theorem size_all' (w : World) (o : Obj) : (w.alloc o).heap.size = w.heap.size + 1 := by show (w.heap.push o).size = _; rw [Array.size_push]
theorem SG.base {w : World} {B B' M : Nat} {g : Int → List Int} {O : Nat → Prop} (h : SG w B M g O) (hb : B' ≤ B) : SG w B' M g O := by
  obtain ⟨Fm, blk, h⟩ := h
  exact ⟨Fm, blk, h.map, h.look, h.inn, h.inj, h.own, h.oM, fun b hb' => ⟨Nat.le_trans hb (h.olt b hb').1, (h.olt b hb').2⟩⟩
set_option maxRecDepth 100000 in
theorem onew (w : World) {last : Int} (h0 : 0 ≤ last) (h1 : last ≤ 9007199254740992) : Calls Try.prog 30 #[.int .i64 last] w fun e w' => e = .returned (ptr (w.heap.size + 3)) ∧ OT w' w.heap.size (w.heap.size + 3) w.heap.size (w.heap.size + 1) (w.heap.size + 2) last 0 [] [] (fun b => b = w.heap.size + 1) (fun b => b = w.heap.size + 2) ∧ Below w.heap.size w w' := by
  have n1 : ¬ last < 0 := by omega
  have n2 : ¬ 9007199254740992 < last := by omega
  have hm1 := makeO
  have hm2 := makeSs
  go_enter Try.func30, Try.ntmps30
  go_wp2
  go_ret
  obtain ⟨w1, e1⟩ : ∃ u, u = w.alloc (.map #[] 0) := ⟨_, rfl⟩
  obtain ⟨w2, e2⟩ : ∃ u, u = w1.alloc (.map #[] 0) := ⟨_, rfl⟩
  obtain ⟨w3, e3⟩ : ∃ u, u = w2.alloc (.map #[] 0) := ⟨_, rfl⟩
  obtain ⟨w4, e4⟩ : ∃ u, u = w3.alloc (.cells #[.int .i64 last, .int .i64 0, .map (some w.heap.size), .map (some (w.heap.size + 1)), .map (some (w.heap.size + 1 + 1))] 84) := ⟨_, rfl⟩
  rw [← e1, ← e2, ← e3, ← e4]
  have s1 : w1.heap.size = w.heap.size + 1 := by rw [e1]; simp
  have s2 : w2.heap.size = w.heap.size + 2 := by rw [e2, size_all', s1]
  have s3 : w3.heap.size = w.heap.size + 3 := by rw [e3, size_all', s2]
  have b1 : Below w.heap.size w w1 := by rw [e1]; exact ba (Below.refl _ _) _
  have b2 : Below w1.heap.size w1 w2 := by rw [e2]; exact ba (Below.refl _ _) _
  have b3 : Below w2.heap.size w2 w3 := by rw [e3]; exact ba (Below.refl _ _) _
  have b4 : Below w3.heap.size w3 w4 := by rw [e4]; exact ba (Below.refl _ _) _
  have m1 : MapK K64 w1 w.heap.size ([] : List (Int × Value)) := by rw [e1]; exact MapK.made w
  have g2 : SG w2 (w.heap.size + 1) (w.heap.size + 1) (fun _ => []) (fun b => b = w.heap.size + 1) := by rw [e2, ← s1]; exact SG.made w1
  have g3 : SG w3 (w.heap.size + 2) (w.heap.size + 2) (fun _ => []) (fun b => b = w.heap.size + 2) := by rw [e3, ← s2]; exact SG.made w2
  have o4 : w4.heap[w.heap.size + 3]? = some (.cells #[.int .i64 last, .int .i64 0, .map (some w.heap.size), .map (some (w.heap.size + 1)), .map (some (w.heap.size + 2))] 84 (0, 0)) := by
    rw [e4, ← s3]; exact heap_alloc_new w3 _
  refine ⟨rfl, ⟨o4, m1.below (b2.trans ((b3.trans (b4.mono (by omega))).mono (by omega))) (by omega), fun k => rfl, rfl, Srt.In.nil, (fun x h => by cases h), ((g2.below (bt b3 b4)).base (by omega)), ((g3.below b4).base (by omega)), ⟨by omega, by omega, Nat.le_refl _⟩, (fun b e => ⟨by omega, by omega, by omega⟩), (fun b e => ⟨by omega, by omega⟩), (fun x h => by cases h), (fun x h => by cases h), ⟨Int.le_refl _, h0, h1⟩⟩, bt b1 (bt b2 (bt b3 b4))⟩
set_option maxRecDepth 100000 in
theorem onew_no (w : World) {last : Int} (h : last < 0 ∨ 9007199254740992 < last) : Calls Try.prog 30 #[.int .i64 last] w fun e w' => e = .returned (.pointer none) ∧ Below w.heap.size w w' := by
  by_cases h0 : last < 0
  · clear h
    go_enter Try.func30, Try.ntmps30
    go_wp2
    go_ret
    exact ⟨rfl, Below.refl _ _⟩
  · have h1 : 9007199254740992 < last := by omega
    clear h
    go_enter Try.func30, Try.ntmps30
    go_wp2
    go_ret
    exact ⟨rfl, Below.refl _ _⟩
section
variable {w w' : World} {B tp Mo Mf Ma : Nat} {great last : Int} {S : List Ofr} {L : List (Int × Value)} {F A : Nat → Prop}
set_option maxRecDepth 100000 in
theorem omade (h : OT w B tp Mo Mf Ma great last S L F A) : Calls Try.prog 88 #[ptr tp] w fun e w' => e = .returned (.bool true) ∧ w' = w := by
  obtain ⟨c0, c1, c2, c3, c4⟩ := h.cells
  have hl := h.lt.1
  have hmn := fun w : World => Go.run_neq_map_nil (P := Try.prog) w 80 _ _ (some Mo) Try.underlying80
  clear h
  go_enter Try.func88, Try.ntmps88
  go_wp2
  go_ret
  exact ⟨rfl, rfl⟩
set_option maxRecDepth 100000 in
theorem olast (h : OT w B tp Mo Mf Ma great last S L F A) : Calls Try.prog 40 #[ptr tp] w fun e w' => e = .returned (.int .i64 last) ∧ w' = w := by
  have HM := Lib.hid (omade h)
  obtain ⟨c0, c1, c2, c3, c4⟩ := h.cells
  have hl := h.lt.1
  clear h
  go_enter Try.func40, Try.ntmps40
  go_wp2_with fail
  refine HM.out.mono ?_
  rintro e w2 ⟨rfl, rfl⟩
  go_wp2
  go_ret
  exact ⟨rfl, rfl⟩
end
end Go.Proofs.Ytnckjacbkhoppaa

/- offers: sets.add, sets.drop. -/
import Derived.Test.YtnckjacbkhoppaaOs0
namespace Go.Proofs.Ytnckjacbkhoppaa
open Go.RowKit Go.Maps Go.MapKept
open Go.ChangeMaps (setBlock)
attribute [local go_sem] ext_cell ext_frozen extC_cell extC_frozen Mix.calmUpon Mix.mUpon
theorem makeSet (w : World) : (Instr.makeMap 158 none).run Try.prog w = .ok (.map (some w.heap.size)) (w.alloc (.map #[] 0)) := by kernel_rfl
/-- What a call that changes a map of sets leaves. -/
def SA (w : World) (B M : Nat) (g : Int → List Int) (O : Nat → Prop) (w' : World) : Prop := ∃ O', SG w' B M g O' ∧ Chg O w w' ∧ ∀ b, O' b → O b ∨ w.heap.size ≤ b
abbrev addG (g : Int → List Int) (k n : Int) : Int → List Int := fun x => if x = k then g k ++ [n] else g x
abbrev delG (g : Int → List Int) (k n : Int) : Int → List Int := fun x => if x = k then (g k).filter (fun i => decide (i ≠ n)) else g x
section
variable {w : World} {B M : Nat} {g : Int → List Int} {O : Nat → Prop}
set_option maxRecDepth 100000 in
set_option maxHeartbeats 2000000 in
theorem sadd (h : SG w B M g O) (hB : B ≤ w.heap.size) {k n : Int} (hk : I64 k) (hn : I64 n) (hnew : n ∉ g k) : Calls Try.prog 91 #[.map (some M), .int .i64 k, .int .i64 n] w fun e w' => e = .returned (.tuple #[]) ∧ SA w B M (addG g k n) O w' := by
  obtain ⟨Fm, blk, h⟩ := h
  have hmn := fun (w : World) r => Go.run_eql_map_nil (P := Try.prog) w 158 _ _ r Try.underlying158
  have hlook := h.find hk
  by_cases hg : g k = []
  · rw [if_pos hg] at hlook
    have hmk := makeSet w
    have hlM := (h.olt M h.oM).2
    obtain ⟨w1, hw1⟩ : ∃ u, w.alloc (.map #[] 0) = u := ⟨_, rfl⟩
    have hb1 : Below w.heap.size w w1 := by rw [← hw1]; exact ba (Below.refl _ _) _
    have hm1 : MapK K64 w1 w.heap.size ([] : List (Int × Value)) := by rw [← hw1]; exact MapK.made w
    rw [hw1] at hmk
    obtain ⟨w2, hrun2, hm2, hc2⟩ := (h.map.below hb1 hlM).store' Try.underlying82 hk (.map (some w.heap.size))
    have hnM : w.heap.size ≠ M := by omega
    have hlook2 : (Instr.lookup 82 (.map (some M)) (.int .i64 k) false).run Try.prog w2 = .ok (.map (some w.heap.size)) w2 := by
      have hz : (zeroValue 158).run Try.prog w2 = .ok (.map none) w2 := Try.zeroValue158 w2
      have := hm2.look key64 Try.underlying82 hz (x := k) hk false
      rw [look_mput, if_pos rfl] at this
      exact this
    obtain ⟨w3, hrun3, hm3, hc3⟩ := (hm1.chg hc2 hnM).store' Try.underlying158 hn unitV
    have hch : Chg (fun q => q = M) w w3 := ((Chg.of_below (fun q => q = M) hb1).same hc2).trans hc3 fun q e => .inr (by rw [e]; exact Nat.le_refl _)
    have HS := Lib.hid h; have HG := Lib.hid hg; have HC := Lib.hid hch
    have HM2 := Lib.hid hm2; have HM3 := Lib.hid hm3; have HC2 := Lib.hid hc2; have HC3 := Lib.hid hc3
    have HSZ := Lib.hid (show w.heap.size < w1.heap.size from by rw [← hw1]; simp)
    clear h hg hch hm1 hm2 hm3 hc2 hc3 hb1
    go_enter Try.func91, Try.ntmps91
    go_wp2
    go_end0
    refine ⟨rfl, _, ⟨_, _, HS.out.fresh HG.out (c := w.heap.size) (l := g k ++ [n]) (Nat.le_refl _) hB ?_ HC.out (HM2.out.chg HC3.out (Ne.symm hnM)) HM3.out (by simp) ?_⟩, HC.out.mono fun q e => by rw [e]; exact HS.out.oM, fun q e => e.imp id fun e => by rw [e]; exact Nat.le_refl _⟩
    · have := HSZ.out; have := HC2.out.size; have := HC3.out.size; omega
    · rw [HG.out, mput_keys]; exact .refl _
  · rw [if_neg hg] at hlook
    obtain ⟨S, hS, hp⟩ := h.inn k hg
    have how := h.own k hg
    obtain ⟨w1, hrun, hm1, hc1⟩ := hS.store' Try.underlying158 hn unitV
    have HS := Lib.hid h; have HG := Lib.hid hg; have HC := Lib.hid hc1; have HM := Lib.hid hm1; have HP := Lib.hid hp; have HOW := Lib.hid how
    clear h hg hc1 hm1 hp how hS
    obtain ⟨b, hb⟩ : ∃ b, blk k = b := ⟨_, rfl⟩
    rw [hb] at hlook hrun HC HM HOW
    have HB := Lib.hid hb
    clear hb
    go_enter Try.func91, Try.ntmps91
    go_wp2
    go_end0
    refine ⟨rfl, O, ⟨_, _, HS.out.into HG.out (w' := w1) (l := g k ++ [n]) (by rw [HB.out]; exact HC.out) (by rw [HB.out]; exact HM.out) (by simp) ?_⟩, HC.out.mono fun q e => by rw [e]; exact HOW.out.1, fun q e => .inl e⟩
    rw [mput_keys, look_none.2 fun p hp e => hnew (by rw [← e]; exact HP.out.mem_iff.1 (List.mem_map_of_mem hp))]
    exact HP.out.append (.refl _)
set_option maxRecDepth 100000 in
set_option maxHeartbeats 2000000 in
theorem sdrop (h : SG w B M g O) {k n : Int} (hk : I64 k) (hn : I64 n) (hin : g k = [n] ∨ (n ∈ g k ∧ 1 < (g k).length ∧ (g k).Nodup)) (hbig : (g k).length < 1000000) : Calls Try.prog 89 #[.map (some M), .int .i64 k, .int .i64 n] w fun e w' => e = .returned (.tuple #[]) ∧ SG w' B M (delG g k n) O ∧ Chg O w w' := by
  obtain ⟨Fm, blk, h⟩ := h
  have hg : g k ≠ [] := by rcases hin with e | ⟨e, _⟩ <;> intro z <;> rw [z] at e <;> cases e
  have hlook := h.find hk
  rw [if_neg hg] at hlook
  obtain ⟨S, hS, hp⟩ := h.inn k hg
  have how := h.own k hg
  have hlen := hS.len Try.underlying158 3
  have hpl : S.length = (g k).length := by have := hp.length_eq; simpa using this
  rcases hin with e1 | ⟨hm, h1, hnd⟩
  · rw [e1] at hpl
    rw [hpl] at hlen
    obtain ⟨w1, hrun1, hm1, hc1⟩ := hS.clear' Try.underlying158 0
    obtain ⟨w2, hrun2, hm2, hc2⟩ := (h.map.chg hc1 (Ne.symm how.2)).drop' Try.underlying82 hk 0
    have hc := (hc1.mono (G := fun q => q = M ∨ q = blk k) fun q e => .inr e).same (hc2.mono fun q e => .inl e)
    have HS := Lib.hid (h.gone hg hc hm2)
    have HC := Lib.hid (show Chg O w w2 from hc.mono fun q e => by
      rcases e with e | e
      · rw [e]; exact h.oM
      · rw [e]; exact how.1)
    have HE := Lib.hid (show (g k).filter (fun i => decide (i ≠ n)) = [] from by rw [e1]; simp)
    obtain ⟨b, hb⟩ : ∃ b, blk k = b := ⟨_, rfl⟩
    rw [hb] at hlook hrun1 hlen
    clear h hS hp how hpl hm1 hc1 hm2 hc2 hc hb
    go_enter Try.func89, Try.ntmps89
    go_wp2
    go_end0
    exact ⟨rfl, ⟨_, _, by unfold delG; rw [HE.out]; exact HS.out⟩, HC.out⟩
  · rw [hpl] at hlen
    obtain ⟨w1, hrun1, hm1, hc1⟩ := hS.drop' Try.underlying158 hn 0
    have hfp : ((mdel S n).map (·.1)).Perm ((g k).filter fun i => decide (i ≠ n)) := by
      have : (mdel S n).map (·.1) = (S.map (·.1)).filter fun i => decide (i ≠ n) := by unfold mdel; rw [List.filter_map]; rfl
      rw [this]; exact hp.filter _
    have hne : (g k).filter (fun i => decide (i ≠ n)) ≠ [] := fun e => by
      have h2 : ∀ i ∈ g k, i = n := fun i hi => Classical.byContradiction fun hh => by
        have : i ∈ (g k).filter (fun i => decide (i ≠ n)) := List.mem_filter.2 ⟨hi, by simpa using hh⟩
        rw [e] at this; cases this
      match hgk : g k, h1, hnd, h2 with
      | [], h1, _, _ => simp at h1
      | [a], h1, _, _ => simp at h1
      | a :: b :: t, _, hnd, h2 =>
        have ha := h2 a (by simp); have hb := h2 b (by simp)
        rw [ha, hb] at hnd
        simp at hnd
    have HS := Lib.hid (h.into hg hc1 hm1 hne hfp)
    have HC := Lib.hid (show Chg O w w1 from hc1.mono fun q e => by rw [e]; exact how.1)
    have hgt : (1 : Int) < ((g k).length : Int) := by omega
    generalize (g k).length = m at *
    obtain ⟨b, hb⟩ : ∃ b, blk k = b := ⟨_, rfl⟩
    rw [hb] at hlook hrun1 hlen
    clear h hS hp how hpl hm1 hc1 hfp hne hb h1
    go_enter Try.func89, Try.ntmps89
    go_wp2
    go_end0
    exact ⟨rfl, ⟨_, _, HS.out⟩, HC.out⟩
end
end Go.Proofs.Ytnckjacbkhoppaa

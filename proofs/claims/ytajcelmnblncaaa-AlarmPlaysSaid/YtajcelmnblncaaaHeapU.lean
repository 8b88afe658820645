/- An act on a heap and on a list, alike. -/
import Derived.Test.YtajcelmnblncaaaHeapT
namespace Go.Proofs.Ytajcelmnblncaaa
open Go.RowKit Go.Maps
attribute [local go_sem] ext_cell ext_frozen extC_cell extC_frozen Mix.calmUpon Mix.mUpon
/-- What an act makes of a list. -/
def lstep (l : List It) (kind k t : Int) : List It := if kind = 0 then lput l (k, t) else if kind = 1 then ldel l k else if kind = 2 then l.tail else lfrom l t
theorem lpl_lof (l : List It) (k : Int) : decide (0 ≤ lpl l k) = (Lof l k).isSome := by
  induction l with
  | nil => rfl
  | cons p t ih =>
    rw [lof_cons, lpl]
    by_cases h : p.1 = k
    · rw [if_pos h, if_pos h.symm]; rfl
    · have h' : ¬ k = p.1 := fun e => h e.symm
      rw [if_neg h, if_neg h', ← ih]
      have := lpl_ge t k
      split
      · rename_i e; rw [e]
      · rw [decide_eq_decide]; omega
/-- A slice's block is not among some, and is there. -/
def Off (F : Nat → Prop) (w : World) (v : Value) : Prop := ∀ b, v.ownBlock = some b → ¬ F b ∧ b < w.heap.size
theorem Off.step {F F' : Nat → Prop} {w w' : World} {v : Value} (h : Off F w v) (hs : w.heap.size ≤ w'.heap.size) (hn : ∀ k, F' k → F k ∨ w.heap.size ≤ k) : Off F' w' v := fun b hb => by
  obtain ⟨h1, h2⟩ := h b hb
  exact ⟨fun hf => by rcases hn b hf with e | e; exact h1 e; omega, by omega⟩
theorem Off.no {F : Nat → Prop} {w : World} {v : Value} (h : Off F w v) : ∀ b, v.ownBlock = some b → ¬ F b := fun b hb => (h b hb).1
def DoesPost (w : World) (hp : Nat) (F : Nat → Prop) (l : List It) (s : Int) (l' : List It) (e : Ending) (w' : World) : Prop :=
  ∃ v' F' d, e = .returned (.tuple #[v', .bool true]) ∧ HL w' hp F' l' (s + (d : Nat)) ∧ IV w' v' l' ∧ Off F' w' v' ∧ Chg F w w' ∧ (∀ k, F' k → F k ∨ w.heap.size ≤ k) ∧ d ≤ 34 * (l.length + 1)
theorem IV.away {w : World} {base : Nat} {v : Value} {l : List It} (h : OI w base v l) {F : Nat → Prop} (hf : ∀ k, F k → k < base) : ∀ b, v.ownBlock = some b → ¬ F b := fun b hb hf' => by
  have := (h.lt b hb).1; have := hf b hf'; omega
theorem lput_le (l : List It) (x : It) : (lput l x).length ≤ l.length + 1 := by
  unfold lput; rw [lins_len]
  have := List.length_filter_le (fun p : It => decide (p.1 ≠ x.1)) l
  unfold ldel; omega
section
variable {w : World} {hp : Nat} {F : Nat → Prop} {l : List It} {s : Int} {v : Value}
set_option maxRecDepth 100000 in
set_option maxHeartbeats 1000000 in
theorem does_put (h : HL w hp F l s) (hv : IV w v l) (k t : Int) (hk : J64 k) (ht : J64 t) (hn : l.length < 90000) (hs0 : 0 ≤ s) (hs1 : s ≤ 10000000000) :
    Calls Try.prog 32 #[ptr hp, v, .agg #[.int .i64 0, .int .i64 k, .int .i64 t]] w (DoesPost w hp F l s (lput l (k, t))) := by
  have H := Lib.hid h; have HV := Lib.hid hv
  have hb0 := Lib.hid (lpl_lof l k)
  clear h hv
  go_enter Try.func32, Try.ntmps32
  go_wp2_with fail
  have HB0 := Lib.hid (show Below w.heap.size w (w.alloc (.cells #[.int .i64 0, .int .i64 k, .int .i64 t] 54)) from ba (Below.refl _ _) _)
  refine (place_any (HV.out.below HB0.out) k).mono ?_
  rintro e w1 ⟨rfl, hb1⟩
  have x1 := hb1.cell (p := ⟨w.heap.size, 1, none⟩) (by simp)
  have x2 := hb1.cell (p := ⟨w.heap.size, 2, none⟩) (by simp)
  simp [go_sem] at x1 x2
  have HB1 := Lib.hid (bt HB0.out hb1)
  have hs1' : w.heap.size < w1.heap.size := by have := hb1.size; simp at this; omega
  have hnF : ¬ F w.heap.size := fun e => by have := H.out.lt _ e; omega
  obtain ⟨bb, hbb⟩ : ∃ bb, (Lof l k).isSome = bb := ⟨_, rfl⟩
  have hnn : (Lof l k).isNone = !bb := by rw [← hbb]; cases Lof l k <;> rfl
  have HPT := Lib.hid (show ∀ w0, HL w0 hp F l s → Calls Try.prog 38 #[ptr hp, .int .i64 k, .int .i64 t] w0 fun e w' => e = .returned (.bool (!bb)) ∧ HR w0 w' hp F (lput l (k, t)) s (lg (lput l (k, t)).length) from fun w0 h0 => by
    rw [← hnn]; exact hput h0 k t hk ht (by omega) hs0 (by omega))
  have hge : decide (0 ≤ lpl l k) = bb := hb0.out.trans hbb
  clear hbb hnn
  clear hb1
  generalize lpl l k = q at *
  go_wp2_with fail
  refine Mix.regionC F (by kernel_rfl) ?_
  intro w2 hb2
  refine Mix.take_exC _ _ 0 rfl (by kernel_rfl) (by kernel_rfl) (by kernel_rfl) (by kernel_rfl) (fun K hK => ?_)
  go_simp
  first | (refine hK _ ?_; clear hK K) | (apply Exists.intro; refine ⟨fun x => ?_, hK _ ?_⟩; (fail); clear hK K)
  refine Mix.take_exC _ _ 1 rfl (by kernel_rfl) (by kernel_rfl) (by kernel_rfl) (by kernel_rfl) (fun K hK => ?_)
  go_simp
  first | (refine hK _ ?_; clear hK K) | (apply Exists.intro; refine ⟨fun x => ?_, hK _ ?_⟩; (fail); clear hK K)
  refine Mix.take_exC _ _ 2 rfl (by kernel_rfl) (by kernel_rfl) (by kernel_rfl) (by kernel_rfl) (fun K hK => ?_)
  go_simp
  first | (refine hK _ ?_; clear hK K) | (apply Exists.intro; refine ⟨fun x => ?_, hK _ ?_⟩; (fail); clear hK K)
  refine Mix.take_exC _ _ 3 rfl (by kernel_rfl) (by kernel_rfl) (by kernel_rfl) (by kernel_rfl) (fun K hK => ?_)
  go_simp
  first | (refine hK _ ?_; clear hK K) | (apply Exists.intro; refine ⟨fun x => ?_, hK _ ?_⟩; (fail); clear hK K)
  refine Mix.take_exC _ _ 4 rfl (by kernel_rfl) (by kernel_rfl) (by kernel_rfl) (by kernel_rfl) (fun K hK => ?_)
  go_simp
  first | (refine hK _ ?_; clear hK K) | (apply Exists.intro; refine ⟨fun x => ?_, hK _ ?_⟩; (fail); clear hK K)
  refine Mix.take_exC _ _ 5 rfl (by kernel_rfl) (by kernel_rfl) (by kernel_rfl) (by kernel_rfl) (fun K hK => ?_)
  go_simp
  first | (refine hK _ ?_; clear hK K) | (apply Exists.intro; refine ⟨fun x => ?_, hK _ ?_⟩; (fail); clear hK K)
  refine Mix.take_exC _ _ 7 rfl (by kernel_rfl) (by kernel_rfl) (by kernel_rfl) (by kernel_rfl) (fun K hK => ?_)
  go_simp
  first | (refine hK _ ?_; clear hK K) | (apply Exists.intro; refine ⟨fun x => ?_, hK _ ?_⟩; (fail); clear hK K)
  refine Mix.take_exC _ _ 8 rfl (by kernel_rfl) (by kernel_rfl) (by kernel_rfl) (by kernel_rfl) (fun K hK => ?_)
  go_simp
  first | (refine hK _ ?_; clear hK K) | (apply Exists.intro; refine ⟨fun x => ?_, hK _ ?_⟩; (fail); clear hK K)
  refine Mix.take_exC _ _ 9 rfl (by kernel_rfl) (by kernel_rfl) (by kernel_rfl) (by kernel_rfl) (fun K hK => ?_)
  go_simp
  first | (refine hK _ ?_; clear hK K) | (apply Exists.intro; refine ⟨fun x => ?_, hK _ ?_⟩; (fail); clear hK K)
  refine Mix.take_exC _ _ 10 rfl (by kernel_rfl) (by kernel_rfl) (by kernel_rfl) (by kernel_rfl) (fun K hK => ?_)
  go_simp
  first | (refine hK _ ?_; clear hK K) | (apply Exists.intro; refine ⟨fun x => ?_, hK _ ?_⟩; (fail); clear hK K)
  refine Mix.take_exC _ _ 11 rfl (by kernel_rfl) (by kernel_rfl) (by kernel_rfl) (by kernel_rfl) (fun K hK => ?_)
  go_simp
  first | (refine hK _ ?_; clear hK K) | (apply Exists.intro; refine ⟨fun x => ?_, hK _ ?_⟩; (fail); clear hK K)
  refine Mix.take_exC _ _ 13 rfl (by kernel_rfl) (by kernel_rfl) (by kernel_rfl) (by kernel_rfl) (fun K hK => ?_)
  go_simp
  first | (refine hK _ ?_; clear hK K) | (apply Exists.intro; refine ⟨fun x => ?_, hK _ ?_⟩; (fail); clear hK K)
  refine Mix.take_exC _ _ 14 rfl (by kernel_rfl) (by kernel_rfl) (by kernel_rfl) (by kernel_rfl) (fun K hK => ?_)
  go_simp
  first | (refine hK _ ?_; clear hK K) | (apply Exists.intro; refine ⟨fun x => ?_, hK _ ?_⟩; (fail); clear hK K)
  refine Mix.all (rs := [6]) (by kernel_rfl) (by simp) (.of_below _ hb2) ?_
  intro i3 hi3 w3 hb3 hC3
  simp only [List.mem_cons, List.not_mem_nil, or_false] at hi3
  subst hi3
  have HB3 := Lib.hid (bt hb2 hb3)
  clear hC3 hb2 hb3
  refine Mix.op rfl (by kernel_rfl) ?_
  go_simp
  refine (put_ref (x := (k, t)) (HV.out.below (bt HB1.out HB3.out)) (by omega)).mono ?_
  rintro e w4 ⟨v4, rfl, o4, hb4⟩
  refine ⟨_, rfl, ?_⟩
  have O4 := Lib.hid o4
  have HB4 := Lib.hid (bt HB3.out hb4)
  clear o4 hb4
  refine Mix.all (rs := [12]) (by kernel_rfl) (by simp) (.of_below _ HB4.out) ?_
  intro i5 hi5 w5 hb5 hC5
  simp only [List.mem_cons, List.not_mem_nil, or_false] at hi5
  subst hi5
  have HB45 := Lib.hid hb5
  have HB5 := Lib.hid (bt (bt HB1.out HB4.out) hb5)
  have O5 := Lib.hid (O4.out.below hb5)
  have V4 := Lib.hid (show ∀ b, v4.ownBlock = some b → w.heap.size ≤ b ∧ b < w5.heap.size from fun b hb => by
    have a := O4.out.lt b hb; have := HB3.out.size; have := HB1.out.size; have := hb5.size; omega)
  clear hC5
  refine Mix.op rfl (by kernel_rfl) ?_
  go_simp
  refine (HPT.out w5 (H.out.below HB5.out)).mono ?_
  rintro e w6 ⟨rfl, F6, d, h6, c6, n6, l6⟩
  refine ⟨_, rfl, ?_⟩
  have H6 := Lib.hid h6; have C6 := Lib.hid c6; have N6 := Lib.hid n6; have L6 := Lib.hid l6
  clear h6 c6 n6 l6 hb5
  refine Mix.take_exC _ _ 15 rfl (by kernel_rfl) (by kernel_rfl) (by kernel_rfl) (by kernel_rfl) (fun K hK => ?_)
  go_simp
  first | (refine hK _ ?_; clear hK K) | (apply Exists.intro; refine ⟨fun x => ?_, hK _ ?_⟩; (fail); clear hK K)
  refine Mix.take_exC _ _ 16 rfl (by kernel_rfl) (by kernel_rfl) (by kernel_rfl) (by kernel_rfl) (fun K hK => ?_)
  go_simp
  first | (refine hK _ ?_; clear hK K) | (apply Exists.intro; refine ⟨fun x => ?_, hK _ ?_⟩; (fail); clear hK K)
  refine Mix.take_exC _ _ 17 rfl (by kernel_rfl) (by kernel_rfl) (by kernel_rfl) (by kernel_rfl) (fun K hK => ?_)
  go_simp
  first | (refine hK _ ?_; clear hK K) | (apply Exists.intro; refine ⟨fun x => ?_, hK _ ?_⟩; (fail); clear hK K)
  refine Mix.done (by kernel_rfl) ((Chg.of_below _ (bt HB4.out HB45.out)).same C6.out) ?_
  intro w7 hb7
  have HB7 := Lib.hid hb7
  clear hb7
  go_wp2
  go_ret2
  refine ⟨v4, F6, d, rfl, H6.out.below HB7.out, ?_, fun b hb => ?_, ((Chg.of_below _ HB5.out).same C6.out).then_below HB7.out, fun k hk => ?_, ?_⟩
  · exact ((O5.out.rs ienc_len).chg C6.out fun b hb hf => by have := (V4.out b hb).1; have := H.out.lt b hf; omega).below HB7.out
  · have := V4.out b hb
    refine ⟨fun hf => ?_, by have := C6.out.size; have := HB7.out.size; omega⟩
    rcases N6.out b hf with e | e
    · have := H.out.lt b e; omega
    · omega
  · rcases N6.out k hk with e | e
    · exact .inl e
    · have := HB5.out.size; exact .inr (by omega)
  · have h1 := L6.out
    have h2 := lput_le l (k, t)
    have h3 := lg_small (n := (lput l (k, t)).length) (by omega)
    omega
set_option maxRecDepth 100000 in
set_option maxHeartbeats 1000000 in
theorem does_drop (h : HL w hp F l s) (hv : IV w v l) (hdis : Off F w v) (k t : Int) (hk : J64 k) (hn : l.length < 90000) (hs0 : 0 ≤ s) (hs1 : s ≤ 10000000000) :
    Calls Try.prog 32 #[ptr hp, v, .agg #[.int .i64 1, .int .i64 k, .int .i64 t]] w (DoesPost w hp F l s (ldel l k)) := by
  have H := Lib.hid h; have HV := Lib.hid hv
  have hb0 := Lib.hid (lpl_lof l k)
  clear h hv
  obtain ⟨bb, hbb⟩ : ∃ bb, (Lof l k).isSome = bb := ⟨_, rfl⟩
  have HPT := Lib.hid (show ∀ w0, HL w0 hp F l s → Calls Try.prog 40 #[ptr hp, .int .i64 k] w0 fun e w' => e = .returned (.bool bb) ∧ HR w0 w' hp F (ldel l k) s (lg l.length) from fun w0 h0 => by
    rw [← hbb]; exact hdrop h0 k hk hs0 (by omega))
  have hge : decide (0 ≤ lpl l k) = bb := hb0.out.trans hbb
  have HPL := Lib.hid (show ∀ (w0 : World) (v0 : Value), IV w0 v0 l → Calls Try.prog 35 #[v0, .int .i64 k] w0 fun e w' => e = .returned (.int .i64 (lpl l k)) ∧ Below w0.heap.size w0 w' from fun w0 v0 h0 => place_any h0 k)
  clear hbb hb0
  have hA := H.out.lt
  have HA := Lib.hid hA
  clear hA
  generalize hq : lpl l k = q at *
  clear hq
  go_enter Try.func32, Try.ntmps32
  go_wp2_with fail
  have HB1 := Lib.hid (show Below w.heap.size w (w.alloc (.cells #[.int .i64 1, .int .i64 k, .int .i64 t] 54)) from ba (Below.refl _ _) _)
  have x1 : (w.alloc (.cells #[.int .i64 1, .int .i64 k, .int .i64 t] 54)).cell? ⟨w.heap.size, 1, none⟩ = some (.int .i64 k) := by simp [go_sem]
  have x2 : (w.alloc (.cells #[.int .i64 1, .int .i64 k, .int .i64 t] 54)).cell? ⟨w.heap.size, 2, none⟩ = some (.int .i64 t) := by simp [go_sem]
  have hs1' : w.heap.size < (w.alloc (.cells #[.int .i64 1, .int .i64 k, .int .i64 t] 54)).heap.size := by simp
  have hnF : ¬ F w.heap.size := fun e => by have := HA.out _ e; omega
  generalize w.alloc (.cells #[.int .i64 1, .int .i64 k, .int .i64 t] 54) = w1 at *
  refine Mix.regionC F (by kernel_rfl) ?_
  intro w2 hb2
  refine Mix.take_exC _ _ 0 rfl (by kernel_rfl) (by kernel_rfl) (by kernel_rfl) (by kernel_rfl) (fun K hK => ?_)
  go_simp
  first | (refine hK _ ?_; clear hK K) | (apply Exists.intro; refine ⟨fun x => ?_, hK _ ?_⟩; (fail); clear hK K)
  refine Mix.take_exC _ _ 1 rfl (by kernel_rfl) (by kernel_rfl) (by kernel_rfl) (by kernel_rfl) (fun K hK => ?_)
  go_simp
  first | (refine hK _ ?_; clear hK K) | (apply Exists.intro; refine ⟨fun x => ?_, hK _ ?_⟩; (fail); clear hK K)
  refine Mix.take_exC _ _ 2 rfl (by kernel_rfl) (by kernel_rfl) (by kernel_rfl) (by kernel_rfl) (fun K hK => ?_)
  go_simp
  first | (refine hK _ ?_; clear hK K) | (apply Exists.intro; refine ⟨fun x => ?_, hK _ ?_⟩; (fail); clear hK K)
  refine Mix.take_exC _ _ 4 rfl (by kernel_rfl) (by kernel_rfl) (by kernel_rfl) (by kernel_rfl) (fun K hK => ?_)
  go_simp
  first | (refine hK _ ?_; clear hK K) | (apply Exists.intro; refine ⟨fun x => ?_, hK _ ?_⟩; (fail); clear hK K)
  refine Mix.take_exC _ _ 5 rfl (by kernel_rfl) (by kernel_rfl) (by kernel_rfl) (by kernel_rfl) (fun K hK => ?_)
  go_simp
  first | (refine hK _ ?_; clear hK K) | (apply Exists.intro; refine ⟨fun x => ?_, hK _ ?_⟩; (fail); clear hK K)
  refine Mix.take_exC _ _ 6 rfl (by kernel_rfl) (by kernel_rfl) (by kernel_rfl) (by kernel_rfl) (fun K hK => ?_)
  go_simp
  first | (refine hK _ ?_; clear hK K) | (apply Exists.intro; refine ⟨fun x => ?_, hK _ ?_⟩; (fail); clear hK K)
  refine Mix.take_exC _ _ 8 rfl (by kernel_rfl) (by kernel_rfl) (by kernel_rfl) (by kernel_rfl) (fun K hK => ?_)
  go_simp
  first | (refine hK _ ?_; clear hK K) | (apply Exists.intro; refine ⟨fun x => ?_, hK _ ?_⟩; (fail); clear hK K)
  refine Mix.take_exC _ _ 9 rfl (by kernel_rfl) (by kernel_rfl) (by kernel_rfl) (by kernel_rfl) (fun K hK => ?_)
  go_simp
  first | (refine hK _ ?_; clear hK K) | (apply Exists.intro; refine ⟨fun x => ?_, hK _ ?_⟩; (fail); clear hK K)
  refine Mix.take_exC _ _ 10 rfl (by kernel_rfl) (by kernel_rfl) (by kernel_rfl) (by kernel_rfl) (fun K hK => ?_)
  go_simp
  first | (refine hK _ ?_; clear hK K) | (apply Exists.intro; refine ⟨fun x => ?_, hK _ ?_⟩; (fail); clear hK K)
  refine Mix.all (rs := [3]) (by kernel_rfl) (by simp) (.of_below _ hb2) ?_
  intro i3 hi3 w3 hb3 hC3
  simp only [List.mem_cons, List.not_mem_nil, or_false] at hi3
  subst hi3
  have HB3 := Lib.hid (bt hb2 hb3)
  clear hC3 hb2 hb3
  refine Mix.op rfl (by kernel_rfl) ?_
  go_simp
  refine (drop_any (HV.out.below (bt HB1.out HB3.out)) k (by omega)).mono ?_
  rintro e w4 ⟨v4, rfl, o4, hb4⟩
  refine ⟨_, rfl, ?_⟩
  have O4 := Lib.hid o4
  have HB4 := Lib.hid (bt HB3.out hb4)
  clear o4 hb4
  refine Mix.all (rs := [7]) (by kernel_rfl) (by simp) (.of_below _ HB4.out) ?_
  intro i5 hi5 w5 hb5 hC5
  simp only [List.mem_cons, List.not_mem_nil, or_false] at hi5
  subst hi5
  have HB45 := Lib.hid hb5
  have HB5 := Lib.hid (bt (bt HB1.out HB4.out) hb5)
  have O5 := Lib.hid (O4.out.below hb5)
  have V4 := Lib.hid (show ∀ b, v4.ownBlock = some b → w.heap.size ≤ b ∧ b < w5.heap.size from fun b hb => by
    have a := O4.out.lt b hb; have := HB3.out.size; have := HB1.out.size; have := hb5.size; omega)
  clear hC5
  refine Mix.op rfl (by kernel_rfl) ?_
  go_simp
  refine (HPT.out w5 (H.out.below HB5.out)).mono ?_
  rintro e w6 ⟨rfl, F6, d, h6, c6, n6, l6⟩
  refine ⟨_, rfl, ?_⟩
  have H6 := Lib.hid h6; have C6 := Lib.hid c6; have N6 := Lib.hid n6; have L6 := Lib.hid l6
  have DV := Lib.hid hdis.no
  clear h6 c6 n6 l6 hb5
  refine Mix.all (rs := [11]) (by kernel_rfl) (by simp) (((Chg.of_below _ (bt HB4.out HB45.out)).same C6.out)) ?_
  intro i7 hi7 w7 hb7 hC7
  simp only [List.mem_cons, List.not_mem_nil, or_false] at hi7
  subst hi7
  have HB7 := Lib.hid hb7
  clear hC7 hb7
  refine Mix.op rfl (by kernel_rfl) ?_
  go_simp
  refine (HPL.out w7 v (((HV.out.below HB5.out).chg C6.out DV.out).below HB7.out)).mono ?_
  rintro e w8 ⟨rfl, hb8⟩
  refine ⟨_, rfl, ?_⟩
  have HB8 := Lib.hid (bt HB7.out hb8)
  clear hb8
  refine Mix.take_exC _ _ 12 rfl (by kernel_rfl) (by kernel_rfl) (by kernel_rfl) (by kernel_rfl) (fun K hK => ?_)
  go_simp
  first | (refine hK _ ?_; clear hK K) | (apply Exists.intro; refine ⟨fun x => ?_, hK _ ?_⟩; (fail); clear hK K)
  refine Mix.take_exC _ _ 13 rfl (by kernel_rfl) (by kernel_rfl) (by kernel_rfl) (by kernel_rfl) (fun K hK => ?_)
  go_simp
  first | (refine hK _ ?_; clear hK K) | (apply Exists.intro; refine ⟨fun x => ?_, hK _ ?_⟩; (fail); clear hK K)
  refine Mix.take_exC _ _ 14 rfl (by kernel_rfl) (by kernel_rfl) (by kernel_rfl) (by kernel_rfl) (fun K hK => ?_)
  go_simp
  first | (refine hK _ ?_; clear hK K) | (apply Exists.intro; refine ⟨fun x => ?_, hK _ ?_⟩; (fail); clear hK K)
  refine Mix.take_exC _ _ 15 rfl (by kernel_rfl) (by kernel_rfl) (by kernel_rfl) (by kernel_rfl) (fun K hK => ?_)
  go_simp
  first | (refine hK _ ?_; clear hK K) | (apply Exists.intro; refine ⟨fun x => ?_, hK _ ?_⟩; (fail); clear hK K)
  refine Mix.done (by kernel_rfl) (((Chg.of_below _ (bt HB4.out HB45.out)).same C6.out).then_below HB8.out) ?_
  intro w9 hb9
  have HB9 := Lib.hid (bt HB8.out hb9)
  clear hb9
  go_wp2
  go_ret2
  refine ⟨v4, F6, d, rfl, H6.out.below HB9.out, ?_, fun b hb => ?_, ((Chg.of_below _ HB5.out).same C6.out).then_below HB9.out, fun k hk => ?_, ?_⟩
  · exact ((O5.out.rs ienc_len).chg C6.out fun b hb hf => by have := (V4.out b hb).1; have := H.out.lt b hf; omega).below HB9.out
  · have := V4.out b hb
    refine ⟨fun hf => ?_, by have := C6.out.size; have := HB9.out.size; omega⟩
    rcases N6.out b hf with e | e
    · have := H.out.lt b e; omega
    · omega
  · rcases N6.out k hk with e | e
    · exact .inl e
    · have := HB5.out.size; exact .inr (by omega)
  · have h1 := L6.out
    have h3 := lg_small (n := l.length) (by omega)
    omega
set_option maxRecDepth 100000 in
set_option maxHeartbeats 1000000 in
theorem does_pop0 (h : HL w hp F [] s) (hv : IV w v []) (hdis : Off F w v) (k t : Int) :
    Calls Try.prog 32 #[ptr hp, v, .agg #[.int .i64 2, .int .i64 k, .int .i64 t]] w (DoesPost w hp F [] s []) := by
  have H := Lib.hid h; have HV := Lib.hid hv; have DV := Lib.hid hdis
  obtain ⟨a, n, cap, rfl, hn, _, _, _⟩ := hv.at_
  obtain rfl : n = 0 := hn
  clear h hv hdis
  go_enter Try.func32, Try.ntmps32
  go_wp2_with fail
  have HB0 := Lib.hid (show Below w.heap.size w (w.alloc (.cells #[.int .i64 2, .int .i64 k, .int .i64 t] 54)) from ba (Below.refl _ _) _)
  refine (pop_nil (H.out.below HB0.out)).mono ?_
  rintro e w1 ⟨rfl, F1, d, h1, c1, n1, l1⟩
  have H1 := Lib.hid h1; have C1 := Lib.hid c1; have N1 := Lib.hid n1; have L1 := Lib.hid l1
  clear h1 c1 n1 l1
  go_wp2
  go_ret2
  have hnew : ∀ k, F1 k → F k ∨ w.heap.size ≤ k := fun k hk => (N1.out k hk).imp_right fun e => by have := HB0.out.size; omega
  exact ⟨_, F1, d, rfl, H1.out, (HV.out.below HB0.out).chg C1.out DV.out.no, DV.out.step (Nat.le_trans HB0.out.size C1.out.size) hnew, (Chg.of_below _ HB0.out).same C1.out, hnew, by have := L1.out; omega⟩
set_option maxRecDepth 100000 in
set_option maxHeartbeats 1000000 in
theorem does_pop {p : It} (h : HL w hp F (p :: l) s) (hv : IV w v (p :: l)) (hdis : Off F w v) (k t : Int) (hn : l.length < 90000) (hs0 : 0 ≤ s) (hs1 : s ≤ 10000000000) :
    Calls Try.prog 32 #[ptr hp, v, .agg #[.int .i64 2, .int .i64 k, .int .i64 t]] w (DoesPost w hp F (p :: l) s l) := by
  have H := Lib.hid h; have HV := Lib.hid hv; have DV := Lib.hid hdis
  obtain ⟨i0, hi, _, hz1, _⟩ := info_parts infoIt
  obtain ⟨v', r1, r2, r3⟩ := hv.from_ (P := Try.prog) (T := 50) (i := 1) (by simp) Try.underlying50 hi hz1
  have r1 : ∀ (w0 : World), (Instr.slice 50 v (some (.int .i64 1)) none none).run Try.prog w0 = .ok v' w0 := r1
  have R2 := Lib.hid r2; have R3 := Lib.hid r3
  obtain ⟨a, n, cap, rfl, hn', _, _, hat⟩ := hv.at_
  obtain rfl : n = l.length + 1 := hn'
  obtain ⟨b, off, rfl, hb, hcell⟩ := hat 0 p rfl
  have d0 := hcell 0 _ rfl
  have d1 := hcell 1 _ rfl
  simp only [Nat.zero_mul, Nat.add_zero] at d0 d1
  have D0 := Lib.hid d0; have D1 := Lib.hid d1
  have HBB := Lib.hid hb
  have hbF := DV.out.no b rfl
  have HBF := Lib.hid hbF
  have hne : (((l.length + 1 : Nat) : Int) == 0) = false := by simp; omega
  have hpos : (0 : Int) < ((l.length + 1 : Nat) : Int) := by omega
  have hpos2 : 0 < l.length + 1 := by omega
  clear h hv hdis hat hcell d0 d1 r2 r3 hb hbF
  go_enter Try.func32, Try.ntmps32
  go_wp2_with fail
  have HB0 := Lib.hid (show Below w.heap.size w (w.alloc (.cells #[.int .i64 2, .int .i64 k, .int .i64 t] 54)) from ba (Below.refl _ _) _)
  refine (pop_cons (H.out.below HB0.out) hs0 (by omega)).mono ?_
  rintro e w1 ⟨rfl, F1, d, h1, c1, n1, l1⟩
  have H1 := Lib.hid h1; have C1 := Lib.hid c1; have N1 := Lib.hid n1; have L1 := Lib.hid l1
  have d0 := ((C1.out.cell (b := b) (by simp; have := HBB.out; omega) HBF.out off).trans (HB0.out.cell (p := ⟨b, off, none⟩) HBB.out)).trans D0.out
  have d1 := ((C1.out.cell (b := b) (by simp; have := HBB.out; omega) HBF.out (off + 1)).trans (HB0.out.cell (p := ⟨b, off + 1, none⟩) HBB.out)).trans D1.out
  have hbw : b < w1.heap.size := by have := HBB.out; have := HB0.out.size; have := C1.out.size; omega
  clear h1 c1 n1 l1
  go_wp2_with fail
  refine wp_region_pure (by kernel_rfl) (by kernel_rfl) ?_
  repeat (first | go_big_quiet_step ((fail)) | (quiet_step ((fail))))
  refine wpQuiet_nil ?_
  rintro w2 ⟨x2, hx2⟩
  have hb2 := ext_below _ x2
  rw [← hx2] at hb2
  clear hx2 x2
  have hs2 : w1.heap.size + 0 ≤ w2.heap.size := (by have h := hb2.size; first | omega | (simp at h; omega))
  obtain ⟨hc2, hf2, hl2⟩ := bcell hb2
  clear hl2
  have HB2 := Lib.hid hb2
  clear hb2 hc2 hf2 d0 d1
  go_wp2
  go_ret2
  have hnew : ∀ k, F1 k → F k ∨ w.heap.size ≤ k := fun k hk => (N1.out k hk).imp_right fun e => by have := HB0.out.size; omega
  have hof := (DV.out.step (Nat.le_trans HB0.out.size (Nat.le_trans C1.out.size HB2.out.size)) hnew)
  exact ⟨v', F1, d, rfl, H1.out.below HB2.out, R2.out _ (((HV.out.below HB0.out).chg C1.out DV.out.no).below HB2.out), fun b' hb' => hof b' (R3.out b' hb'), ((Chg.of_below _ HB0.out).same C1.out).then_below HB2.out, hnew, by have := L1.out; have := lg_small (n := l.length + 1) (by omega); simp; omega⟩
end
end Go.Proofs.Ytajcelmnblncaaa

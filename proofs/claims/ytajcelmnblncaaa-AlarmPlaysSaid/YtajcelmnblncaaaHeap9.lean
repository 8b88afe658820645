/- heap: Put, Drop, cut, Peek, Pop, At, by the list of keys in order. -/
import Derived.Test.YtajcelmnblncaaaHeap8
import Derived.Test.YtajcelmnblncaaaHeapL
namespace Go.Proofs.Ytajcelmnblncaaa
open Go.RowKit Go.Maps
attribute [local go_sem] ext_cell ext_frozen extC_cell extC_frozen Mix.calmUpon Mix.mUpon
/-- Block hp is a heap with these keys and times. -/
def HL (w : World) (hp : Nat) (F : Nat → Prop) (l : List It) (s : Int) : Prop := SL l ∧ HO w hp F l.length (Lof l) s
/-- What a call on a heap leaves: other keys, at most c more steps. -/
def HR (w w' : World) (hp : Nat) (F : Nat → Prop) (l' : List It) (s : Int) (c : Nat) : Prop :=
  ∃ (F' : Nat → Prop) (d : Nat), HL w' hp F' l' (s + d) ∧ Chg F w w' ∧ (∀ k, F' k → F k ∨ w.heap.size ≤ k) ∧ d ≤ c
def lg (n : Nat) : Nat := 2 * Nat.log2 n
theorem lg_of {d1 d2 n : Nat} (hn : 0 < n) (h1 : 2 ^ d1 ≤ n) (h2 : 2 ^ d2 ≤ n) : d1 + d2 ≤ lg n := by
  have a := (Nat.le_log2 (by omega : n ≠ 0)).2 h1
  have b := (Nat.le_log2 (by omega : n ≠ 0)).2 h2
  unfold lg; omega
section
variable {w : World} {hp : Nat} {F : Nat → Prop} {l : List It} {s : Int}
theorem HL.below {w' : World} (h : HL w hp F l s) (hb : Below w.heap.size w w') : HL w' hp F l s := ⟨h.1, h.2.below hb⟩
theorem HL.chg {w' : World} {G : Nat → Prop} (h : HL w hp F l s) (hc : Chg G w w') (hf : ∀ k, F k → ¬ G k) : HL w' hp F l s := ⟨h.1, h.2.chg hc hf⟩
theorem HL.lt (h : HL w hp F l s) : ∀ k, F k → k < w.heap.size := h.2.lt
theorem HR.refl (h : HL w hp F l s) (c : Nat) : HR w w hp F l s c := ⟨F, 0, by simpa using h, Chg.refl _ _, fun k h => .inl h, Nat.zero_le _⟩
theorem HR.below {w' w'' : World} {c : Nat} {l' : List It} (h : HR w w' hp F l' s c) (hb : Below w'.heap.size w' w'') : HR w w'' hp F l' s c := by
  obtain ⟨F', d, h1, h2, h3, h4⟩ := h
  exact ⟨F', d, h1.below hb, h2.then_below hb, h3, h4⟩
theorem HR.after {w0 w' : World} {c : Nat} {l' : List It} (hb : Below w0.heap.size w0 w) (h : HR w w' hp F l' s c) : HR w0 w' hp F l' s c := by
  obtain ⟨F', d, h1, h2, h3, h4⟩ := h
  exact ⟨F', d, h1, (Chg.of_below _ hb).same h2, fun k hk => (h3 k hk).imp_right fun e => by have := hb.size; omega, h4⟩
theorem hput (h : HL w hp F l s) (k t : Int) (hk : J64 k) (ht : J64 t) (hn : l.length < 99990) (hs0 : 0 ≤ s) (hs1 : s ≤ 1000000000000) :
    Calls Try.prog 38 #[ptr hp, .int .i64 k, .int .i64 t] w fun e w' => e = .returned (.bool (Lof l k).isNone) ∧ HR w w' hp F (lput l (k, t)) s (lg (lput l (k, t)).length) := by
  have hC : updC (Lof l) k (some t) = Lof (lput l (k, t)) := by funext k'; rw [lof_put]; rfl
  cases hl : Lof l k with
  | none =>
    refine (put_new h.2 k t hk ht hl hn hs0 hs1).mono ?_
    rintro e w' ⟨F', d1, d2, rfl, ⟨a, b, c⟩, h1, h2⟩
    have hlen := lput_len_new (l := l) (x := (k, t)) hl
    refine ⟨rfl, F', d1 + d2, ⟨h.1.put _, ?_⟩, b, c, ?_⟩
    · rw [hC] at a; rw [hlen]; exact a
    · rw [hlen]; exact lg_of (by omega) h1 h2
  | some t0 =>
    refine (put_old h.2 k t t0 hk ht hl).mono ?_
    rintro e w' ⟨F', rfl, ⟨a, b, c⟩⟩
    have hlen := lput_len_old h.1 (x := (k, t)) hl
    refine ⟨rfl, F', 0, ⟨h.1.put _, ?_⟩, b, c, Nat.zero_le _⟩
    rw [hC] at a; rw [hlen]; simpa using a
theorem HL.first {p : It} {l : List It} (h : HL w hp F (p :: l) s) : ∃ M v g f, HS w hp M v (l.length + 1) g f s ∧ PosOK (l.length + 1) g f ∧ Hp (l.length + 1) g ∧ con g f = Lof (p :: l) ∧ F = hF hp M v ∧ g 0 = p := by
  obtain ⟨hs, M, v, g, f, h1, h2, h3, h4, h5⟩ := h
  refine ⟨M, v, g, f, h1, h2, h3, h4, h5, ?_⟩
  have e0 : Lof (p :: l) (g 0).1 = some (g 0).2 := by rw [← h4]; unfold con; rw [h2.at_ 0 (by simp)]; rfl
  have m0 := lof_mem e0
  have e1 : Lof (p :: l) p.1 = some p.2 := hs.lof List.mem_cons_self
  rw [← h4] at e1
  unfold con at e1
  cases hf : f p.1 with
  | none => rw [hf] at e1; cases e1
  | some i =>
    rw [hf] at e1
    obtain ⟨a, b⟩ := h2.of_ _ _ hf
    have hgi : g i = p := by simp at e1; exact Prod.ext b e1
    have hle := h3.first i a
    rw [hgi] at hle
    rcases List.mem_cons.1 m0 with e | e
    · exact e
    · exact le2_antisymm hle (le2_of_lt (hs.head _ e).1)
set_option maxRecDepth 100000 in
theorem peek_nil (h : HL w hp F [] s) : Calls Try.prog 33 #[ptr hp] w fun e w' => e = .returned (.tuple #[.int .i64 0, .int .i64 0, .bool false]) ∧ Below w.heap.size w w' := by
  obtain ⟨_, M, v, g, f, h1, _, _, _, _⟩ := h
  have H := Lib.hid h1
  clear h1
  go_enter Try.func33, Try.ntmps33
  go_wp2_with fail
  refine (long_any H.out).mono ?_
  rintro e w1 ⟨rfl, hb1⟩
  go_wp2
  go_ret3
  exact ⟨rfl, hb1⟩
set_option maxRecDepth 100000 in
theorem peek_cons {p : It} (h : HL w hp F (p :: l) s) : Calls Try.prog 33 #[ptr hp] w fun e w' => e = .returned (.tuple #[.int .i64 p.1, .int .i64 p.2, .bool true]) ∧ Below w.heap.size w w' := by
  obtain ⟨M, v, g, f, h1, _, _, _, _, hg⟩ := h.first
  have H := Lib.hid h1
  have hbig := h1.big
  clear h1 h
  go_enter Try.func33, Try.ntmps33
  go_wp2_with fail
  refine (long_any H.out).mono ?_
  rintro e w1 ⟨rfl, hb1⟩
  have H1 := H.out.below hb1
  have hne : (((l.length + 1 : Nat) : Int) == 0) = false := by simp; omega
  obtain ⟨a, cap, rfl, _, _, hcell⟩ := H1.form
  obtain ⟨b, rfl, hb, _, _, _, hat⟩ := hcell (by omega)
  obtain ⟨d0, d1⟩ := hat 0 (by omega)
  rw [hg] at d0 d1
  simp only [Nat.zero_mul, Nat.zero_add] at d0 d1
  have c0 := H1.c0
  have hl := H1.lt hp (.inl rfl)
  have hpos : (0 : Int) < ((l.length + 1 : Nat) : Int) := by omega
  have hpos2 : 0 < l.length + 1 := by omega
  have HB := Lib.hid hb1
  clear hcell hat H1 hg hb1
  go_wp2
  refine wp_region_pure (by kernel_rfl) (by kernel_rfl) ?_
  repeat (first | go_big_quiet_step ((fail)) | (quiet_step ((fail))))
  refine wpQuiet_nil ?_
  rintro w2 ⟨x2, hx2⟩
  have hb2 := ext_below _ x2
  rw [← hx2] at hb2
  clear hx2 x2
  have hs2 : w1.heap.size + 0 ≤ w2.heap.size := (by have h := hb2.size; first | omega | (simp at h; omega))
  obtain ⟨hc2, hf2, hl2⟩ := bcell hb2
  clear hl2
  have HB2 := Lib.hid hb2
  clear hb2 hc2 hf2
  go_wp2
  go_ret3
  exact ⟨rfl, bt HB.out HB2.out⟩
theorem cut_one (h : HL w hp F l s) {k t : Int} (hk : Lof l k = some t) (hs0 : 0 ≤ s) (hs1 : s ≤ 1000000000000) :
    ∃ i : Nat, (∃ M v g f, HS w hp M v l.length g f s ∧ PosOK l.length g f ∧ f k = some i ∧ F = hF hp M v) ∧ Calls Try.prog 90 #[ptr hp, .int .i64 i] w fun e w' => e = .returned (.tuple #[]) ∧ HR w w' hp F (ldel l k) s (lg l.length) := by
  obtain ⟨hs, M, v, g, f, h1, h2, h3, h4, h5⟩ := h
  have hlen := ldel_len hs hk
  have hk' := hk
  rw [← h4] at hk
  unfold con at hk
  cases hf : f k with
  | none => rw [hf] at hk; cases hk
  | some i =>
    obtain ⟨a, b⟩ := h2.of_ _ _ hf
    refine ⟨i, ⟨M, v, g, f, h1, h2, hf, h5⟩, ?_⟩
    have k1 := h1; have k2 := h2; have k3 := h3
    rw [← hlen] at k1 k2 k3
    refine (cut_any k1 k2 k3 i (by omega) hs0 hs1).mono ?_
    rintro e w' ⟨F', d1, d2, rfl, ⟨x1, x2, x3⟩, y1, y2⟩
    refine ⟨rfl, F', d1 + d2, ⟨hs.del k, ?_⟩, by rw [h5]; exact x2, by rw [h5]; exact x3, ?_⟩
    · have : updC (con g f) (g i).1 none = Lof (ldel l k) := by funext k'; rw [h4, b, lof_del]; rfl
      rw [← this]; exact x1
    · rw [hlen] at y1 y2; exact lg_of (by omega) y1 y2
theorem ldel_head {p : It} {l : List It} (h : SL (p :: l)) : ldel (p :: l) p.1 = l := by
  unfold ldel
  rw [List.filter_cons, if_neg (by simp)]
  exact ldel_same (lof_none.2 fun q hq e => (h.head q hq).2 e.symm)
theorem cut_first {p : It} (h : HL w hp F (p :: l) s) (hs0 : 0 ≤ s) (hs1 : s ≤ 1000000000000) :
    Calls Try.prog 90 #[ptr hp, .int .i64 0] w fun e w' => e = .returned (.tuple #[]) ∧ HR w w' hp F l s (lg (l.length + 1)) := by
  obtain ⟨M, v, g, f, h1, h2, h3, h4, h5, h6⟩ := h.first
  refine (cut_any h1 h2 h3 0 (Nat.zero_le _) hs0 hs1).mono ?_
  rintro e w' ⟨F', d1, d2, rfl, ⟨x1, x2, x3⟩, y1, y2⟩
  refine ⟨rfl, F', d1 + d2, ⟨h.1.tail, ?_⟩, by rw [h5]; exact x2, by rw [h5]; exact x3, lg_of (by omega) y1 y2⟩
  have : updC (con g f) (g 0).1 none = Lof l := by
    funext k'; rw [h4, h6, ← ldel_head h.1, lof_del, ldel_head h.1]; rfl
  rw [← this]; exact x1
end
end Go.Proofs.Ytajcelmnblncaaa

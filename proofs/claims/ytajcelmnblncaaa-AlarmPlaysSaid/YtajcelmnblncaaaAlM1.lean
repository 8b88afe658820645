/- The document's alarms by a list: keys, Find, Ahead, Drop, Forget; lists alike. -/
import Derived.Test.YtajcelmnblncaaaAl9
namespace Go.Proofs.Ytajcelmnblncaaa
open Go.RowKit Go.Maps
attribute [local go_sem] ext_cell ext_frozen extC_cell extC_frozen Mix.calmUpon Mix.mUpon
set_option maxRecDepth 100000 in
set_option maxHeartbeats 1000000 in
theorem eqRy (a0 a1 a2 : Int) (b0 b1 b2 : Int) (w : World) : (Op.equalIn 10000 84 (.agg #[.int .i64 a0, .int .i64 a1, .int .i64 a2]) (.agg #[.int .i64 b0, .int .i64 b1, .int .i64 b2])).run Try.prog w =
    .ok (a0 == b0 && (a1 == b1 && a2 == b2)) w := by
  have u1 := Try.underlying2
  have u2 := Try.underlying3
  have i1 := Try.isAgg2
  have i2 := Try.isAgg3
  have z1 := Try.sizeOf2
  have z2 := Try.sizeOf3
  rw [show (10000 : Nat) = 9999 + 1 from rfl, Op.equalIn]
  simp only [Sem.run_bind, run_underlying Try.underlying84, Result.andThen_ok]
  go_simp
  by_cases h0 : a0 = b0
  · by_cases h1 : a1 = b1
    · by_cases h2 : a2 = b2 <;> simp [h0, h1, h2]
    · simp [h0, h1]
  · simp [h0]
attribute [local go_sem] eqRy
/-- A block that holds a key of the document's; an item. -/
def RB (w : World) (b : Nat) (k : Ky) : Prop := w.heap[b]? = some (.cells #[.int .i64 k.1, .int .i64 k.2.1, .int .i64 k.2.2] 84 (0, 0))
theorem RB.made (w : World) (k : Ky) : RB (w.alloc (.cells #[.int .i64 k.1, .int .i64 k.2.1, .int .i64 k.2.2] 84)) w.heap.size k := heap_alloc_new w _
theorem RB.lt {w : World} {b : Nat} {k : Ky} (h : RB w b k) : b < w.heap.size := (Array.getElem?_eq_some_iff.1 h).1
theorem RB.chg {F : Nat → Prop} {w w' : World} {b : Nat} {k : Ky} (h : RB w b k) (hb : Chg F w w') (hf : ¬ F b) : RB w' b k := (hb.block _ h.lt hf).trans h
theorem RB.below {w w' : World} {b : Nat} {k : Ky} (h : RB w b k) (hb : Below w.heap.size w w') : RB w' b k := h.chg (.of_below (fun _ => False) hb) id
theorem RB.cells {w : World} {b : Nat} {k : Ky} (h : RB w b k) : w.cell? ⟨b, 0, none⟩ = some (.int .i64 k.1) ∧ w.cell? ⟨b, 1, none⟩ = some (.int .i64 k.2.1) ∧ w.cell? ⟨b, 2, none⟩ = some (.int .i64 k.2.2) := by unfold RB at h; simp [World.cell?, h]
theorem RB.load {w : World} {b : Nat} {k : Ky} (h : RB w b k) : (loadVar 84 ⟨b, 0, none⟩).run Try.prog w = .ok (kval k) w := by
  obtain ⟨x0, x1, x2⟩ := h.cells
  simp [go_sem, x0, x1, x2]
theorem RB.set {w : World} {b : Nat} {k : Ky} (h : RB w b k) (x : Ky) : RB (((w.setCell ⟨b, 0, none⟩ (.int .i64 x.1)).setCell ⟨b, 1, none⟩ (.int .i64 x.2.1)).setCell ⟨b, 2, none⟩ (.int .i64 x.2.2)) b x := by
  have := heap_setCell_at (o := 2) (.int .i64 x.2.2) (heap_setCell_at (o := 1) (.int .i64 x.2.1) (heap_setCell_at (o := 0) (.int .i64 x.1) h))
  unfold RB
  rw [this]
  simp
theorem res_k {fn : Func} {tmps : Array Value} {w : World} {p b : Nat} {k : Ky} (h : fn.results = #[.cell p 84]) (hp : tmps.getD p undef = .pointer (some ⟨b, 0, none⟩)) (hb : RB w b k) :
    (results fn tmps).run Try.prog w = .ok (kval k) w := by
  simp only [results, h]
  have hp' : tmps[p]?.getD undef = .pointer (some ⟨b, 0, none⟩) := by simpa [Array.getD_eq_getD_getElem?] using hp
  simp [Sem.run_bind, Result.andThen, hp', asAddr, hb.load]
set_option maxRecDepth 100000 in
set_option maxHeartbeats 1000000 in
theorem mkey (k : Ky) : Pure Try.prog 47 #[kval k] (kval k) := by
  intro W
  go_enter Try.func47, Try.ntmps47
  go_wp2
  refine bodyPost_ret (v := kval k) ?_ rfl ⟨rfl, ?_⟩
  · refine res_k (b := W.heap.size + 1) Try.results47 rfl ?_
    have h := RB.made (W.alloc (.cells #[.int .i64 k.1, .int .i64 k.2.1, .int .i64 k.2.2] 79)) k
    rw [show (W.alloc (.cells #[.int .i64 k.1, .int .i64 k.2.1, .int .i64 k.2.2] 79)).heap.size = W.heap.size + 1 by simp] at h
    exact h
  · exact ba (ba (Below.refl _ _) _) _
abbrev rval (x : Rc) : Value := .agg #[.int .i64 x.key.1, .int .i64 x.key.2.1, .int .i64 x.key.2.2, .int .i64 x.at_]
abbrev RV (w : World) (v : Value) (R : List Rc) : Prop := RS 4 eenc w v R
abbrev plR (R : List Rc) (k : Ky) : Int := Srt.pl Rc.key R k
theorem key3 {p q : Ky} (h : p ≠ q) : p.1 ≠ q.1 ∨ p.1 = q.1 ∧ (p.2.1 ≠ q.2.1 ∨ p.2.1 = q.2.1 ∧ p.2.2 ≠ q.2.2) := by
  by_cases h1 : p.1 = q.1
  · by_cases h2 : p.2.1 = q.2.1
    · by_cases h3 : p.2.2 = q.2.2
      · exact absurd (ky_ext h1 h2 h3) h
      · exact .inr ⟨h1, .inr ⟨h2, h3⟩⟩
    · exact .inr ⟨h1, .inl h2⟩
  · exact .inl h1
set_option maxRecDepth 100000 in
set_option maxHeartbeats 2000000 in
theorem mfind {w : World} {v : Value} {R : List Rc} (h : RV w v R) (k : Ky) : Calls Try.prog 46 #[v, kval k] w fun e w' => e = .returned (.int .i64 (plR R k)) ∧ Below w.heap.size w w' := by
  obtain ⟨a, n, cap, rfl, hn, hc, hm, hat⟩ := h.at_
  have HA := Lib.hid hat
  unfold maxLen at hm
  have hlm : n ≤ 9223372036854775807 := by omega
  have HN := Lib.hid hn
  have HK0 := Lib.hid (RB.made w k)
  have HB0 := Lib.hid (show Below w.heap.size w (w.alloc (.cells #[.int .i64 k.1, .int .i64 k.2.1, .int .i64 k.2.2] 84)) from ba (Below.refl _ _) _)
  clear hat h hn
  go_enter Try.func46, Try.ntmps46
  go_wp2
  generalize w.alloc (.cells #[.int .i64 k.1, .int .i64 k.2.1, .int .i64 k.2.2] 84) = w1 at *
  obtain ⟨b0, hb0⟩ : ∃ b0, b0 = w.heap.size := ⟨_, rfl⟩
  rw [← hb0] at HK0 ⊢
  clear hb0
  go_loopw [5] (fun iv wr => ∃ t : Nat, t ≤ n ∧ iv = .int .i64 t ∧ Hid (∀ q ∈ R.take t, q.key ≠ k) ∧ Hid (Below w.heap.size w wr) ∧ Hid (RB wr b0 k)) (fun iv _ => n - (intOf iv).toNat)
  case atStart => exact ⟨0, Nat.zero_le _, rfl, Lib.hid fun p h => by simp at h, HB0, HK0⟩
  case round =>
    obtain ⟨t, ht, rfl, HQ, HB, HK⟩ := hrel
    obtain ⟨w2, rfl⟩ : ∃ w2, w2 = wr := ⟨_, rfl⟩
    by_cases hlt : t < n
    · have hts : (t : Int) < (n : Int) := by omega
      obtain ⟨p, hx⟩ := at_lt (l := R) (i := t) (by rw [← HN.out]; exact hlt)
      obtain ⟨b, off, rfl, hb, hcell⟩ := HA.out t p hx
      have e0 := (HB.out.cell (p := ⟨b, off + t * 4 + 0, none⟩) hb).trans (hcell 0 _ rfl)
      have e1 := (HB.out.cell (p := ⟨b, off + t * 4 + 1, none⟩) hb).trans (hcell 1 _ rfl)
      have e2 := (HB.out.cell (p := ⟨b, off + t * 4 + 2, none⟩) hb).trans (hcell 2 _ rfl)
      simp only [Nat.add_zero] at e0
      have hbb : b < w2.heap.size := Nat.lt_of_lt_of_le hb HB.out.size
      obtain ⟨x0, x1, x2⟩ := HK.out.cells
      have hbk := HK.out.lt
      have HX := Lib.hid hx
      clear hcell hx
      by_cases he : p.key = k
      · subst he
        go_wp2
        refine wp_region_pure (by kernel_rfl) (by kernel_rfl) ?_
        repeat (first | go_big_quiet_step ((fail)) | (quiet_step ((fail))))
        refine wpQuiet_nil ?_
        rintro w3 ⟨x3, hx3⟩
        have hb3 := ext_below _ x3
        rw [← hx3] at hb3
        clear hx3 x3
        have hs3 : w2.heap.size + 0 ≤ w3.heap.size := (by have h := hb3.size; first | omega | (simp at h; omega))
        obtain ⟨hc3, hf3, hl3⟩ := bcell hb3
        clear hl3
        have HB3 := Lib.hid (bt HB.out hb3)
        clear hb3 hc3 hf3
        go_wp2
        go_ret
        refine ⟨?_, HB3.out⟩
        have := Srt.pl_some (key := Rc.key) (l := R.take t) (m := R.drop (t + 1)) (x := p) rfl HQ.out
        rw [← parted_at HX.out, List.length_take, Nat.min_eq_left (by rw [← HN.out]; omega)] at this
        show _ = Ending.returned (.int .i64 (Srt.pl Rc.key R p.key))
        rw [this]; rfl
      · have HE := Lib.hid he
        clear he
        rcases key3 HE.out with h1 | ⟨h1, h2 | ⟨h2, h3⟩⟩
        · have g1 : (p.key.1 == k.1) = false := by simpa using h1
          have g1n : (p.key.1 != k.1) = true := by simpa using h1
          clear h1
          go_wp2
          refine wp_region_pure (by kernel_rfl) (by kernel_rfl) ?_
          repeat (first | go_big_quiet_step ((fail)) | (quiet_step ((fail))))
          refine wpQuiet_nil ?_
          rintro w3 ⟨x3, hx3⟩
          have hb3 := ext_below _ x3
          rw [← hx3] at hb3
          clear hx3 x3
          have hs3 : w2.heap.size + 0 ≤ w3.heap.size := (by have h := hb3.size; first | omega | (simp at h; omega))
          obtain ⟨hc3, hf3, hl3⟩ := bcell hb3
          clear hl3
          have HB3 := Lib.hid (bt HB.out hb3)
          have HK3 := Lib.hid (HK.out.below hb3)
          clear hb3 hc3 hf3
          go_wp2
          go_roundw
          case rel => exact ⟨t + 1, by omega, by go_num, Lib.hid (fun q hq => by
            rw [take_at HX.out] at hq
            rcases List.mem_append.1 hq with h | h
            · exact HQ.out q h
            · rw [List.mem_singleton.1 h]; exact HE.out), HB3, HK3⟩
          case measure => simp [intOf]; omega
        · have g1 : (p.key.1 == k.1) = true := by simpa using h1
          have g2 : (p.key.2.1 == k.2.1) = false := by simpa using h2
          have g2n : (p.key.2.1 != k.2.1) = true := by simpa using h2
          clear h1 h2
          go_wp2
          refine wp_region_pure (by kernel_rfl) (by kernel_rfl) ?_
          repeat (first | go_big_quiet_step ((fail)) | (quiet_step ((fail))))
          refine wpQuiet_nil ?_
          rintro w3 ⟨x3, hx3⟩
          have hb3 := ext_below _ x3
          rw [← hx3] at hb3
          clear hx3 x3
          have hs3 : w2.heap.size + 0 ≤ w3.heap.size := (by have h := hb3.size; first | omega | (simp at h; omega))
          obtain ⟨hc3, hf3, hl3⟩ := bcell hb3
          clear hl3
          have HB3 := Lib.hid (bt HB.out hb3)
          have HK3 := Lib.hid (HK.out.below hb3)
          clear hb3 hc3 hf3
          go_wp2
          go_roundw
          case rel => exact ⟨t + 1, by omega, by go_num, Lib.hid (fun q hq => by
            rw [take_at HX.out] at hq
            rcases List.mem_append.1 hq with h | h
            · exact HQ.out q h
            · rw [List.mem_singleton.1 h]; exact HE.out), HB3, HK3⟩
          case measure => simp [intOf]; omega
        · have g1 : (p.key.1 == k.1) = true := by simpa using h1
          have g2 : (p.key.2.1 == k.2.1) = true := by simpa using h2
          have g3 : (p.key.2.2 == k.2.2) = false := by simpa using h3
          have g3n : (p.key.2.2 != k.2.2) = true := by simpa using h3
          clear h1 h2 h3
          go_wp2
          refine wp_region_pure (by kernel_rfl) (by kernel_rfl) ?_
          repeat (first | go_big_quiet_step ((fail)) | (quiet_step ((fail))))
          refine wpQuiet_nil ?_
          rintro w3 ⟨x3, hx3⟩
          have hb3 := ext_below _ x3
          rw [← hx3] at hb3
          clear hx3 x3
          have hs3 : w2.heap.size + 0 ≤ w3.heap.size := (by have h := hb3.size; first | omega | (simp at h; omega))
          obtain ⟨hc3, hf3, hl3⟩ := bcell hb3
          clear hl3
          have HB3 := Lib.hid (bt HB.out hb3)
          have HK3 := Lib.hid (HK.out.below hb3)
          clear hb3 hc3 hf3
          go_wp2
          go_roundw
          case rel => exact ⟨t + 1, by omega, by go_num, Lib.hid (fun q hq => by
            rw [take_at HX.out] at hq
            rcases List.mem_append.1 hq with h | h
            · exact HQ.out q h
            · rw [List.mem_singleton.1 h]; exact HE.out), HB3, HK3⟩
          case measure => simp [intOf]; omega
    · obtain rfl : n = t := by omega
      go_wp2
      go_ret
      refine ⟨?_, HB.out⟩
      show _ = Ending.returned (.int .i64 (Srt.pl Rc.key R k))
      rw [Srt.pl_none fun p hp => HQ.out p (by rw [HN.out, List.take_length]; exact hp)]; rfl
end Go.Proofs.Ytajcelmnblncaaa

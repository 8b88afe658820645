/- The document's sorter: Small, At, Part, ahead. -/
import Derived.Test.YtgfjmafdfbghnaaSq1
namespace Go.Proofs.Ytgfjmafdfbghnaa
open Go.RowKit Go.Maps
attribute [local go_sem] ext_cell ext_frozen extC_cell extC_frozen Mix.calmUpon Mix.mUpon
/-- What At answers. -/
def AtD (C : List Dc) (i z : Int) : Prop := (∃ (k : Nat) (d : Dc), z = k ∧ C[k]? = some d ∧ d.id = i) ∨ (z = -1 ∧ ∀ d ∈ C, d.id ≠ i)
def RetAt (w : World) (C : List Dc) (i : Int) (e : Ending) (w' : World) : Prop := ∃ z, e = .returned (.int .i64 z) ∧ AtD C i z ∧ Below w.heap.size w w'
section
variable {w : World} {v : Value} {C : List Dc} {T : Nat → Int}
set_option maxRecDepth 100000 in
set_option maxHeartbeats 2000000 in
theorem rat9 (h : RS 7 dcenc w v C) (i : Int) : Calls Try.prog 16 #[mv9 T v, .int .i64 i] w (RetAt w C i) := by
  obtain ⟨a, n, cp, rfl, hn, hc, hm, hat⟩ := h.at_
  have hnm : n ≤ 9223372036854775807 := by unfold maxLen at hm; omega
  have HM := Lib.hid (MB9.made w T (.slice a n cp))
  have HB := Lib.hid (ba (Below.refl w.heap.size w) (.cells (mcells9 T (.slice a n cp)) 28))
  have HAT := Lib.hid hat; have HN := Lib.hid hn
  clear h hat hn hm hc
  go_enter Try.func16, Try.ntmps16
  go_wp2
  generalize w.alloc (.cells (mcells9 T (.slice a n cp)) 28) = w1 at *
  obtain ⟨b, hbq⟩ : ∃ b, b = w.heap.size := ⟨_, rfl⟩
  rw [← hbq] at HM ⊢
  clear hbq
  go_loopw [5] (fun iv wr => ∃ t : Nat, t ≤ n ∧ iv = .int .i64 t ∧ Hid (Below w1.heap.size w1 wr ∧ ∀ d ∈ C.take t, d.id ≠ i)) (fun iv _ => n - (intOf iv).toNat)
  case atStart => exact ⟨0, Nat.zero_le _, rfl, Lib.hid ⟨Below.refl _ _, by simp⟩⟩
  case round =>
    obtain ⟨t, ht, rfl, HQ⟩ := hrel
    obtain ⟨w2, rfl⟩ : ∃ w2, w2 = wr := ⟨_, rfl⟩
    have hm2 := HM.out.below HQ.out.1
    obtain ⟨m0, m1, m2, m3, m4⟩ := hm2.cells
    have ml := hm2.lt
    clear hm2 m0 m1 m2 m3
    by_cases hlt : t < n
    · have hts : (t : Int) < (n : Int) := by omega
      obtain ⟨x, hx⟩ := at_lt (l := C) (i := t) (by rw [← HN.out]; exact hlt)
      obtain ⟨bs, off, rfl, hbs, hcell⟩ := HAT.out t x hx
      have hbw : Below w.heap.size w w2 := bt HB.out HQ.out.1
      have c0 := (hbw.cell (p := ⟨bs, _, none⟩) hbs).trans (hcell 0 _ rfl)
      simp only [Nat.add_zero] at c0
      have hbs2 : bs < w2.heap.size := Nat.lt_of_lt_of_le hbs hbw.size
      have HX := Lib.hid hx
      clear hcell hx hbw hbs
      by_cases h1 : x.id = i
      · have b1 : (x.id == i) = true := by simpa using h1
        have HE := Lib.hid (show AtD C i (t : Int) from .inl ⟨t, x, rfl, HX.out, h1⟩)
        clear h1
        go_wp2
        go_ret
        exact ⟨_, rfl, HE.out, bt HB.out HQ.out.1⟩
      · have b1 : (x.id == i) = false := by simpa using h1
        have HT := Lib.hid (show ∀ d ∈ C.take (t + 1), d.id ≠ i from by
          rw [take_at HX.out]
          intro d hd
          rcases List.mem_append.1 hd with hd | hd
          · exact HQ.out.2 d hd
          · rw [List.mem_singleton.1 hd]; exact h1)
        clear h1
        go_wp2
        go_roundw
        case rel => exact ⟨t + 1, by omega, by go_num, Lib.hid ⟨HQ.out.1, HT.out⟩⟩
        case measure => simp [intOf]; omega
    · obtain rfl : n = t := by omega
      have HE := Lib.hid (show AtD C i (-1) from .inr ⟨rfl, by
        have := HQ.out.2
        rwa [List.take_of_length_le (by rw [HN.out]; exact Nat.le_refl _)] at this⟩)
      go_wp2
      go_ret
      exact ⟨_, rfl, HE.out, bt HB.out HQ.out.1⟩
end
/-- A variable that holds a fraction. -/
def FB9 (w : World) (b : Nat) (n d : Int) : Prop := w.heap[b]? = some (.cells #[.int .i64 n, .int .i64 d] 44 (0, 0))
section
variable {w w' : World} {b : Nat} {n d : Int}
theorem FB9.made (w : World) (n d : Int) : FB9 (w.alloc (.cells #[.int .i64 n, .int .i64 d] 44)) w.heap.size n d := heap_alloc_new w _
theorem FB9.lt (h : FB9 w b n d) : b < w.heap.size := (Array.getElem?_eq_some_iff.1 h).1
theorem FB9.below (h : FB9 w b n d) (hb : Below w.heap.size w w') : FB9 w' b n d := (hb.block _ h.lt).trans h
theorem FB9.cells (h : FB9 w b n d) : w.cell? ⟨b, 0, none⟩ = some (.int .i64 n) ∧ w.cell? ⟨b, 1, none⟩ = some (.int .i64 d) := by unfold FB9 at h; simp [World.cell?, h]
theorem FB9.fz (h : FB9 w b n d) (o : Nat) : w.frozen? ⟨b, o, none⟩ = false := by unfold FB9 at h; simp [World.frozen?, h]
theorem FB9.set2 (h : FB9 w b n d) (n' d' : Int) : FB9 ((w.setCell ⟨b, 0, none⟩ (.int .i64 n')).setCell ⟨b, 1, none⟩ (.int .i64 d')) b n' d' := heap_setCell_at _ (heap_setCell_at _ h)
theorem FB9.load (h : FB9 w b n d) : (loadVar 44 ⟨b, 0, none⟩).run Try.prog w = .ok (F2 n d) w := by
  obtain ⟨x0, x1⟩ := h.cells
  simp [go_sem, x0, x1]
theorem res_fr9 {fn : Func} {tmps : Array Value} {p : Nat} (h : fn.results = #[.cell p 44]) (hp : tmps.getD p undef = .pointer (some ⟨b, 0, none⟩)) (hb : FB9 w b n d) :
    (results fn tmps).run Try.prog w = .ok (F2 n d) w := by
  simp only [results, h]
  have hp' : tmps[p]?.getD undef = .pointer (some ⟨b, 0, none⟩) := by simpa [Array.getD_eq_getD_getElem?] using hp
  simp [Sem.run_bind, Result.andThen, hp', asAddr, hb.load]
end
set_option maxRecDepth 100000 in
set_option maxHeartbeats 2000000 in
theorem rpart9 (T : Nat → Int) (a : Option Addr) (m k : Nat) (d : Dc) : Pure Try.prog 18 #[mv9 T (.slice a m k), dcval d] (F2 (dpl T d).n (dpl T d).d) := by
  intro w
  obtain ⟨dk, hdk⟩ : ∃ x, (domV d.c.s T).1 = x := ⟨_, rfl⟩
  obtain ⟨pn, hpn⟩ : ∃ x, (domV d.c.s T).2.1 = x := ⟨_, rfl⟩
  obtain ⟨pd, hpd⟩ : ∃ x, (domV d.c.s T).2.2 = x := ⟨_, rfl⟩
  have HD := Lib.hid (refdominant_any d.c.s T)
  rw [show (dpl T d).n = pn from hpn, show (dpl T d).d = pd from hpd]
  rw [hdk, hpn, hpd] at HD
  clear hdk hpn hpd
  obtain ⟨w3, hw3⟩ : ∃ w3, w3 = ((w.alloc (.cells (mcells9 T (.slice a m k)) 28)).alloc (.cells (dccells d) 52)).alloc (.cells #[.int .i64 0, .int .i64 0] 44) := ⟨_, rfl⟩
  obtain ⟨b0, hb0⟩ : ∃ b, b = w.heap.size := ⟨_, rfl⟩
  obtain ⟨b1, hb1⟩ : ∃ b, b = b0 + 1 := ⟨_, rfl⟩
  obtain ⟨b2, hb2⟩ : ∃ b, b = b1 + 1 := ⟨_, rfl⟩
  have s1 : (w.alloc (.cells (mcells9 T (.slice a m k)) 28)).heap.size = b1 := by rw [hb1, hb0]; simp
  have s2 : ((w.alloc (.cells (mcells9 T (.slice a m k)) 28)).alloc (.cells (dccells d) 52)).heap.size = b2 := by rw [hb2, hb1, hb0]; simp
  have HM := Lib.hid (show MB9 w3 b0 T (.slice a m k) from by rw [hw3, hb0]; exact (MB9.made w T _).below (ba (ba (Below.refl _ _) _) _))
  have HD1 := Lib.hid (show DB9 w3 b1 d from by rw [hw3, ← s1]; exact (DB9.made _ d).below (ba (Below.refl _ _) _))
  have HF2 := Lib.hid (show FB9 w3 b2 0 0 from by rw [hw3, ← s2]; exact FB9.made _ 0 0)
  have HB := Lib.hid (show Below w.heap.size w w3 from by rw [hw3]; exact ba (ba (ba (Below.refl _ _) _) _) _)
  have HBQ := Lib.hid (And.intro hb0 (And.intro hb1 hb2))
  clear s1 s2
  obtain ⟨m0, m1, m2, m3, m4⟩ := HM.out.cells
  have ml := HM.out.lt
  obtain ⟨d0, d1, d2, d3, d4, d5, d6⟩ := HD1.out.cells
  have dl := HD1.out.lt
  go_enter Try.func18, Try.ntmps18
  go_upto_region 1 with (fail)
  rw [← hb0, ← hb1, ← hb2, ← hw3]
  clear hw3 hb0 hb1 hb2
  go_wp2_with fail
  refine (HD.out w3).mono ?_
  rintro e w4 ⟨rfl, hb4⟩
  have hf4 := HF2.out.below hb4
  have HB4 := Lib.hid (bt HB.out hb4)
  have HB34 := Lib.hid hb4
  clear hb4 m0 m1 m2 m3 m4 ml d0 d1 d2 d3 d4 d5 d6 dl
  have hb5 := ba (Below.refl w4.heap.size w4) (.cells #[.int .i64 pn, .int .i64 pd] 44)
  have HF5 := Lib.hid (hf4.below hb5)
  have HG5 := Lib.hid (FB9.made w4 pn pd)
  have HB5 := Lib.hid (bt HB4.out hb5)
  clear hf4 hb5
  go_upto_region 2 with (fail)
  generalize w4.alloc (.cells #[.int .i64 pn, .int .i64 pd] 44) = w5 at *
  generalize w4.heap.size = b4 at *
  obtain ⟨g0, g1⟩ := HG5.out.cells
  have gl := HG5.out.lt
  obtain ⟨f0, f1⟩ := HF5.out.cells
  have fl := HF5.out.lt
  have ff0 := HF5.out.fz 0; have ff1 := HF5.out.fz 1
  have HR := Lib.hid (HF5.out.set2 pn pd)
  have HB6 := Lib.hid (show Below w.heap.size w ((w5.setCell ⟨b2, 0, none⟩ (.int .i64 pn)).setCell ⟨b2, 1, none⟩ (.int .i64 pd)) from
    ((HB5.out.setCell (p := ⟨b2, 0, none⟩) (show w.heap.size ≤ b2 by have := HBQ.out; omega) _).setCell (p := ⟨b2, 1, none⟩) (show w.heap.size ≤ b2 by have := HBQ.out; omega) _))
  go_wp2
  refine bodyPost_ret (res_fr9 Try.results18 rfl HR.out) rfl ?_
  exact ⟨rfl, HB6.out⟩
set_option maxRecDepth 100000 in
set_option maxHeartbeats 2000000 in
theorem rahead9 (T : Nat → Int) (a : Option Addr) (m k : Nat) (d d' : Dc) : Pure Try.prog 34 #[mv9 T (.slice a m k), dcval d, dcval d'] (.bool (ahd T d d')) := by
  intro w
  have hp := rpart9 T a m k d
  have hp' := rpart9 T a m k d'
  have hs := rscmp_any (dpl T d).n (dpl T d).d d.c.wt (dpl T d').n (dpl T d').d d'.c.wt
  have hz := plo_lt (dpl T d) (dpl T d')
  obtain ⟨z, hzq⟩ : ∃ z, scmp (dpl T d).n (dpl T d).d d.c.wt (dpl T d').n (dpl T d').d d'.c.wt = z := ⟨_, rfl⟩
  have hz2 : plo (dpl T d) (dpl T d') < 0 ↔ z < 0 ∨ z = 0 ∧ d.id < d'.id := by rw [← hzq]; exact hz
  rw [hzq] at hs
  have hq : ahd T d d' = decide (z < 0 ∨ z = 0 ∧ d.id < d'.id) := by unfold ahd; exact decide_eq_decide.2 hz2
  rw [hq]
  clear hz hzq hz2 hq
  obtain ⟨w3, hw3⟩ : ∃ w3, w3 = ((w.alloc (.cells (mcells9 T (.slice a m k)) 28)).alloc (.cells (dccells d) 52)).alloc (.cells (dccells d') 52) := ⟨_, rfl⟩
  obtain ⟨b0, hb0⟩ : ∃ b, b = w.heap.size := ⟨_, rfl⟩
  obtain ⟨b1, hb1⟩ : ∃ b, b = b0 + 1 := ⟨_, rfl⟩
  obtain ⟨b2, hb2⟩ : ∃ b, b = b1 + 1 := ⟨_, rfl⟩
  have s1 : (w.alloc (.cells (mcells9 T (.slice a m k)) 28)).heap.size = b1 := by rw [hb1, hb0]; simp
  have s2 : ((w.alloc (.cells (mcells9 T (.slice a m k)) 28)).alloc (.cells (dccells d) 52)).heap.size = b2 := by rw [hb2, hb1, hb0]; simp
  have HM := Lib.hid (show MB9 w3 b0 T (.slice a m k) from by rw [hw3, hb0]; exact (MB9.made w T _).below (ba (ba (Below.refl _ _) _) _))
  have HD1 := Lib.hid (show DB9 w3 b1 d from by rw [hw3, ← s1]; exact (DB9.made _ d).below (ba (Below.refl _ _) _))
  have HD2 := Lib.hid (show DB9 w3 b2 d' from by rw [hw3, ← s2]; exact DB9.made _ d')
  have HB := Lib.hid (show Below w.heap.size w w3 from by rw [hw3]; exact ba (ba (ba (Below.refl _ _) _) _) _)
  clear s1 s2
  generalize (dpl T d).n = pn at *
  generalize (dpl T d).d = pd at *
  generalize (dpl T d').n = qn at *
  generalize (dpl T d').d = qd at *
  have HP := Lib.hid hp; have HP' := Lib.hid hp'; have HS := Lib.hid hs
  clear hp hp' hs
  obtain ⟨m0, m1, m2, m3, m4⟩ := HM.out.cells
  have ml := HM.out.lt
  obtain ⟨d0, d1, d2, d3, d4, d5, d6⟩ := HD1.out.cells
  have dl := HD1.out.lt
  obtain ⟨e0, e1, e2, e3, e4, e5, e6⟩ := HD2.out.cells
  have el := HD2.out.lt
  go_enter Try.func34, Try.ntmps34
  go_upto_region 1 with (fail)
  rw [← hb0, ← hb1, ← hb2, ← hw3]
  clear hw3 hb0 hb1 hb2
  refine wp_region_pure (by kernel_rfl) (by kernel_rfl) ?_
  repeat (first | go_big_quiet_step (first | (go_at_call 18; first | with_reducible exact HP.out.quiet | with_reducible exact HP'.out.quiet) | (go_at_call 56; with_reducible exact HS.out.quiet)) | (quiet_step (first | (go_at_call 18; first | with_reducible exact HP.out.quiet | with_reducible exact HP'.out.quiet) | (go_at_call 56; with_reducible exact HS.out.quiet))))
  refine wpQuiet_nil ?_
  rintro w4 ⟨x4, hx4⟩
  have hb4 := ext_below _ x4
  rw [← hx4] at hb4
  have HB4 := Lib.hid (bt HB.out hb4)
  have hd4 := HD1.out.below hb4
  have he4 := HD2.out.below hb4
  clear hx4 x4 hb4 m0 m1 m2 m3 m4 ml d0 d1 d2 d3 d4 d5 d6 dl e0 e1 e2 e3 e4 e5 e6 el
  obtain ⟨d0, d1, d2, d3, d4, d5, d6⟩ := hd4.cells
  have dl := hd4.lt
  obtain ⟨e0, e1, e2, e3, e4, e5, e6⟩ := he4.cells
  have el := he4.lt
  clear hd4 he4 d1 d2 d3 d4 d5 d6 e1 e2 e3 e4 e5 e6
  by_cases h1 : z < 0
  · have hR := Lib.hid (show decide (z < 0 ∨ z = 0 ∧ d.id < d'.id) = true from decide_eq_true (.inl h1))
    have h0 : (z == 0) = false := by simp; omega
    go_wp2
    go_ret
    exact ⟨by first | rfl | (rw [hR.out]; rfl) | (rw [decide_eq_true h1]; rfl) | (rw [decide_eq_false (show ¬ z < 0 by omega)]; rfl), HB4.out⟩
  · by_cases h2 : z = 0
    · subst h2
      by_cases h3 : d.id < d'.id
      · have hR := Lib.hid (show decide ((0 : Int) < 0 ∨ (0 : Int) = 0 ∧ d.id < d'.id) = true from decide_eq_true (.inr ⟨rfl, h3⟩))
        go_wp2
        go_ret
        exact ⟨by first | rfl | (rw [hR.out]; rfl) | (rw [decide_eq_true h1]; rfl) | (rw [decide_eq_false (show ¬ z < 0 by omega)]; rfl), HB4.out⟩
      · have hR := Lib.hid (show decide ((0 : Int) < 0 ∨ (0 : Int) = 0 ∧ d.id < d'.id) = false from decide_eq_false (by omega))
        go_wp2
        go_ret
        exact ⟨by first | rfl | simp [h3], HB4.out⟩
    · have h0 : (z == 0) = false := by simpa using h2
      have hR := Lib.hid (show decide (z < 0 ∨ z = 0 ∧ d.id < d'.id) = false from decide_eq_false (by omega))
      go_wp2
      go_ret
      exact ⟨by first | rfl | (rw [hR.out]; rfl) | (rw [decide_eq_true h1]; rfl) | (rw [decide_eq_false (show ¬ z < 0 by omega)]; rfl), HB4.out⟩
end Go.Proofs.Ytgfjmafdfbghnaa

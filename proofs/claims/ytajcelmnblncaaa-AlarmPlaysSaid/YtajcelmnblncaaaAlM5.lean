/- The document's alarms by a list: Set. -/
import Derived.Test.YtajcelmnblncaaaAlM4
namespace Go.Proofs.Ytajcelmnblncaaa
open Go.RowKit Go.Maps
attribute [local go_sem] ext_cell ext_frozen extC_cell extC_frozen Mix.calmUpon Mix.mUpon eqRy
abbrev icell (x : Rc) : Obj := .cells #[.int .i64 x.key.1, .int .i64 x.key.2.1, .int .i64 x.key.2.2, .int .i64 x.at_] 90
set_option maxRecDepth 100000 in
set_option maxHeartbeats 4000000 in
theorem mset {w : World} {v : Value} {R : List Rc} (h : RV w v R) (x : Rc) (hl : R.length < 100000) : Calls Try.prog 91 #[v, rval x] w (RetR w (pR R x)) := by
  have H := Lib.hid h
  have HB0 := Lib.hid (show Below w.heap.size w (w.alloc (icell x)) from ba (Below.refl _ _) _)
  have HI0 := Lib.hid (IB.made w x)
  clear h
  go_enter Try.func91, Try.ntmps91
  go_wp2_with fail
  generalize w.alloc (.cells #[.int .i64 x.key.1, .int .i64 x.key.2.1, .int .i64 x.key.2.2, .int .i64 x.at_] 90) = w0 at *
  obtain ⟨b0, hb0⟩ : ∃ b0, b0 = w.heap.size := ⟨_, rfl⟩
  rw [← hb0] at HI0 ⊢
  clear hb0
  refine (mdrop (H.out.below HB0.out) x.key hl).mono ?_
  rintro e w1 ⟨v1, rfl, o1, hb1⟩
  have hlR : (dK R x.key).length < 100000 := Nat.lt_of_le_of_lt (List.length_filter_le _ _) hl
  have HF := Lib.hid (show pR R x = Srt.ins ltR x (dK R x.key) from rfl)
  obtain ⟨a, n, cap, rfl, hn, hc, hm, hat⟩ := (o1.rs (fun _ => rfl)).at_
  generalize dK R x.key = S at *
  have HA := Lib.hid hat
  have hlm : n < 100000 := by omega
  have HN := Lib.hid hn
  have HI1 := Lib.hid (HI0.out.below hb1)
  have HB1 := Lib.hid (bt HB0.out hb1)
  clear hat hn o1 hb1 hl hlR
  go_wp2
  go_loopw [6, 7, 8] (fun ov dv iv wr => ∃ (t : Nat) (d : Bool) (o : List Rc), t ≤ n ∧ iv = .int .i64 t ∧ dv = .bool d ∧ Hid (Srt.PS ltR x S t d o) ∧ Hid (OR wr w1.heap.size ov o ∧ Below w1.heap.size w1 wr)) (fun _ _ iv _ => n - (intOf iv).toNat)
  case atStart => exact ⟨0, false, [], Nat.zero_le _, rfl, rfl, Lib.hid (.inl ⟨rfl, by simp, by simp⟩), Lib.hid ⟨OwnL.nil _ _ _ _ _, Below.refl _ _⟩⟩
  case round =>
    obtain ⟨t, d, o, ht, rfl, rfl, HS, HQ⟩ := hrel
    obtain ⟨w2, rfl⟩ : ∃ w2, w2 = wr := ⟨_, rfl⟩
    have HI2 := Lib.hid (HI1.out.below HQ.out.2)
    obtain ⟨x0, x1, x2, x3⟩ := HI2.out.cells
    have hbx := HI2.out.lt
    have hlo : o.length < 1000000 := by have := HS.out.len; omega
    have hs2 := HQ.out.2.size
    by_cases hlt : t < n
    · have hts : (t : Int) < (n : Int) := by omega
      obtain ⟨p, hx⟩ := at_lt (l := S) (i := t) (by rw [← HN.out]; exact hlt)
      obtain ⟨b, off, rfl, hb, hcell⟩ := HA.out t p hx
      have HCE := Lib.hid (show ∀ w3, Below w1.heap.size w1 w3 → w3.cell? ⟨b, off + t * 4, none⟩ = some (.int .i64 p.key.1) ∧ w3.cell? ⟨b, off + t * 4 + 1, none⟩ = some (.int .i64 p.key.2.1) ∧ w3.cell? ⟨b, off + t * 4 + 2, none⟩ = some (.int .i64 p.key.2.2) ∧ w3.cell? ⟨b, off + t * 4 + 3, none⟩ = some (.int .i64 p.at_) ∧ b < w3.heap.size from fun w3 h3 =>
        ⟨(h3.cell (p := ⟨b, off + t * 4 + 0, none⟩) hb).trans (hcell 0 _ rfl), (h3.cell (p := ⟨b, off + t * 4 + 1, none⟩) hb).trans (hcell 1 _ rfl), (h3.cell (p := ⟨b, off + t * 4 + 2, none⟩) hb).trans (hcell 2 _ rfl), (h3.cell (p := ⟨b, off + t * 4 + 3, none⟩) hb).trans (hcell 3 _ rfl), Nat.lt_of_lt_of_le hb h3.size⟩)
      obtain ⟨e0, e1, e2, e3, hbb⟩ := HCE.out w2 HQ.out.2
      have HX := Lib.hid (take_at hx)
      clear hcell hx hb
      cases d with
      | true =>
        have HN2 := Lib.hid (show Srt.PS ltR x S (t + 1) true (o ++ [p]) by
          rcases HS.out with ⟨h, _⟩ | ⟨_, rfl, h⟩
          · cases h
          · refine .inr ⟨rfl, ?_, ?_⟩
            · rw [HX.out, Srt.ins_app h]
            · obtain ⟨q, hq, hl⟩ := h
              exact ⟨q, by rw [HX.out]; simp [hq], hl⟩)
        go_wp2_with fail
        refine wp_region_pure (by kernel_rfl) (by kernel_rfl) ?_
        repeat (first | go_big_quiet_step ((fail)) | (quiet_step ((fail))))
        refine wpQuiet_nil ?_
        rintro w3 ⟨x3, hx3⟩
        have hb3 := ext_below _ x3
        rw [← hx3] at hb3
        clear hx3 x3
        have hs3 : w2.heap.size + 0 ≤ w3.heap.size := (by have h := hb3.size; first | omega | (simp at h; omega))
        obtain ⟨hc3, hf3, hl3⟩ := bcell hb3
        clear hl3
        have HB3 := Lib.hid hb3
        obtain ⟨v4, w4, hrun, o4, g4, _⟩ := OR.app (HQ.out.1.below (ba HB3.out (icell p))) p (b := w3.heap.size) (IB.made w3 p) hlo (by simp; have := HB3.out.size; omega)
        have HR := Lib.hid hrun
        have HB4 := Lib.hid (show Below w1.heap.size w1 w4 from (bt HQ.out.2 (ba HB3.out _)).grown g4 (by simp; have := HB3.out.size; omega) (fun j hj => (HQ.out.1.lt j hj).1))
        have O4 := Lib.hid o4
        clear hrun o4 g4 hb3 e0 e1 e2 e3 hbb hc3 hf3
        obtain ⟨e0, e1, e2, e3, hbb⟩ := HCE.out w3 (bt HQ.out.2 HB3.out)
        go_wp2_with (at_builtin; refine wpList_app_run rfl _ _ _ rfl rfl rfl HR.out ?_)
        go_roundw
        case rel => exact ⟨t + 1, true, o ++ [p], by omega, by go_num, rfl, HN2, Lib.hid ⟨O4.out, HB4.out⟩⟩
        case measure => simp [intOf]; omega
      | false =>
        have hal := mahead x p
        cases hq : ltR x p with
        | true =>
          rw [hq] at hal
          have HAL := Lib.hid hal
          have HN2 := Lib.hid (show Srt.PS ltR x S (t + 1) true (o ++ [x] ++ [p]) by
            rcases HS.out with ⟨_, rfl, h⟩ | ⟨h, _⟩
            · exact .inr ⟨rfl, by rw [HX.out, Srt.ins_here h hq], p, by rw [HX.out]; simp, hq⟩
            · cases h)
          clear hal hq
          go_wp2_with fail
          refine wp_region_pure (by kernel_rfl) (by kernel_rfl) ?_
          repeat (first | go_big_quiet_step (((go_at_call 114; with_reducible exact HAL.out.quiet))) | (quiet_step (((go_at_call 114; with_reducible exact HAL.out.quiet)))))
          refine wpQuiet_nil ?_
          rintro w3 ⟨x3, hx3⟩
          have hb3 := ext_below _ x3
          rw [← hx3] at hb3
          clear hx3 x3
          have hs3 : w2.heap.size + 0 ≤ w3.heap.size := (by have h := hb3.size; first | omega | (simp at h; omega))
          obtain ⟨hc3, hf3, hl3⟩ := bcell hb3
          clear hl3
          have HB3 := Lib.hid hb3
          have hs3 := hb3.size
          obtain ⟨v4, w4, hrun, o4, g4, _⟩ := OR.app (HQ.out.1.below (ba HB3.out (icell x))) x (b := w3.heap.size) (IB.made w3 x) hlo (by simp; omega)
          have HR := Lib.hid hrun
          have HB4 := Lib.hid (show Below w1.heap.size w1 w4 from (bt HQ.out.2 (ba HB3.out _)).grown g4 (by simp; omega) (fun j hj => (HQ.out.1.lt j hj).1))
          have O4 := Lib.hid o4
          have hs4 := HB4.out.size
          have hlo2 : (o ++ [x]).length < 1000000 := by have := HS.out.len; simp; omega
          obtain ⟨v5, w5, hrun, o5, g5, _⟩ := OR.app (O4.out.below (ba (Below.refl _ _) (icell p))) p (b := w4.heap.size) (IB.made w4 p) hlo2 (by simp; omega)
          have HR5 := Lib.hid hrun
          have HB5 := Lib.hid (show Below w1.heap.size w1 w5 from (ba HB4.out _).grown g5 (by simp; omega) (fun j hj => (O4.out.lt j hj).1))
          have O5 := Lib.hid o5
          have HI3 := Lib.hid (HI2.out.below HB3.out)
          clear hrun o4 g4 o5 g5 e0 e1 e2 e3 hbb x0 x1 x2 x3 hbx hb3 hc3 hf3
          obtain ⟨x0, x1, x2, x3⟩ := HI3.out.cells
          have hbx := HI3.out.lt
          obtain ⟨e0, e1, e2, e3, hbb⟩ := HCE.out w4 HB4.out
          have tok1 : True := trivial
          go_wp2_with (at_builtin; first | (have _t := tok1; refine wpList_app_run rfl _ _ _ rfl rfl rfl HR.out ?_; clear tok1) | (refine wpList_app_run rfl _ _ _ rfl rfl rfl HR5.out ?_))
          go_roundw
          case rel => exact ⟨t + 1, true, o ++ [x] ++ [p], by omega, by go_num, rfl, HN2, Lib.hid ⟨O5.out, HB5.out⟩⟩
          case measure => simp [intOf]; omega
        | false =>
          rw [hq] at hal
          have HAL := Lib.hid hal
          have HN2 := Lib.hid (show Srt.PS ltR x S (t + 1) false (o ++ [p]) by
            rcases HS.out with ⟨_, rfl, h⟩ | ⟨h, _⟩
            · refine .inl ⟨rfl, by rw [HX.out], fun q hq' => ?_⟩
              rw [HX.out] at hq'
              rcases List.mem_append.1 hq' with h' | h'
              · exact h q h'
              · rw [List.mem_singleton.1 h']; exact hq
            · cases h)
          clear hal hq
          go_wp2_with fail
          refine wp_region_pure (by kernel_rfl) (by kernel_rfl) ?_
          repeat (first | go_big_quiet_step (((go_at_call 114; with_reducible exact HAL.out.quiet))) | (quiet_step (((go_at_call 114; with_reducible exact HAL.out.quiet)))))
          refine wpQuiet_nil ?_
          rintro w3 ⟨x3, hx3⟩
          have hb3 := ext_below _ x3
          rw [← hx3] at hb3
          clear hx3 x3
          have hs3 : w2.heap.size + 0 ≤ w3.heap.size := (by have h := hb3.size; first | omega | (simp at h; omega))
          obtain ⟨hc3, hf3, hl3⟩ := bcell hb3
          clear hl3
          have HB3 := Lib.hid hb3
          obtain ⟨v4, w4, hrun, o4, g4, _⟩ := OR.app (HQ.out.1.below (ba HB3.out (icell p))) p (b := w3.heap.size) (IB.made w3 p) hlo (by simp; have := HB3.out.size; omega)
          have HR := Lib.hid hrun
          have HB4 := Lib.hid (show Below w1.heap.size w1 w4 from (bt HQ.out.2 (ba HB3.out _)).grown g4 (by simp; have := HB3.out.size; omega) (fun j hj => (HQ.out.1.lt j hj).1))
          have O4 := Lib.hid o4
          clear hrun o4 g4 hb3 e0 e1 e2 e3 hbb hc3 hf3
          obtain ⟨e0, e1, e2, e3, hbb⟩ := HCE.out w3 (bt HQ.out.2 HB3.out)
          go_wp2_with (at_builtin; refine wpList_app_run rfl _ _ _ rfl rfl rfl HR.out ?_)
          go_roundw
          case rel => exact ⟨t + 1, false, o ++ [p], by omega, by go_num, rfl, HN2, Lib.hid ⟨O4.out, HB4.out⟩⟩
          case measure => simp [intOf]; omega
    · obtain rfl : n = t := by omega
      have hT : S.take n = S := by rw [HN.out, List.take_length]
      have hS := HS.out
      unfold Srt.PS at hS
      rw [hT] at hS
      have HS2 := Lib.hid hS
      have hs1 := HB1.out.size
      clear hT HS hS
      cases d with
      | true =>
        go_wp2
        go_ret
        refine ⟨_, rfl, ?_, bt HB1.out HQ.out.2⟩
        rw [HF.out]
        rcases HS2.out with ⟨h, _⟩ | ⟨_, rfl, _⟩
        · cases h
        · exact OwnL.low HQ.out.1 hs1
      | false =>
        obtain ⟨v4, w4, hrun, o4, g4, _⟩ := OR.app (HQ.out.1.below (ba (Below.refl _ _) (icell x))) x (b := w2.heap.size) (IB.made w2 x) hlo (by simp; omega)
        have HR := Lib.hid hrun
        have HB4 := Lib.hid (show Below w1.heap.size w1 w4 from (ba HQ.out.2 _).grown g4 (by simp; omega) (fun j hj => (HQ.out.1.lt j hj).1))
        have O4 := Lib.hid o4
        clear hrun o4 g4
        go_wp2_with (at_builtin; refine wpList_app_run rfl _ _ _ rfl rfl rfl HR.out ?_)
        go_ret
        refine ⟨_, rfl, ?_, bt HB1.out HB4.out⟩
        rw [HF.out]
        rcases HS2.out with ⟨_, rfl, h⟩ | ⟨h, _⟩
        · rw [Srt.ins_end h]; exact OwnL.low O4.out hs1
        · cases h
end Go.Proofs.Ytajcelmnblncaaa

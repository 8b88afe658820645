/- The document's lists of keys in order: Put, Due. -/
import Derived.Test.YtajcelmnblncaaaHeapR
namespace Go.Proofs.Ytajcelmnblncaaa
open Go.RowKit Go.Maps
attribute [local go_sem] ext_cell ext_frozen extC_cell extC_frozen Mix.calmUpon Mix.mUpon
theorem lins_app {x p : It} : ∀ {L : List It}, (∃ q ∈ L, lt2 x q) → lins x (L ++ [p]) = lins x L ++ [p]
  | [], h => by simp at h
  | q :: t, h => by
    rw [List.cons_append, lins, lins]
    by_cases hq : lt2 x q
    · rw [if_pos hq, if_pos hq]; rfl
    · rw [if_neg hq, if_neg hq, lins_app]; rfl
      obtain ⟨r, hr, hl⟩ := h
      rcases List.mem_cons.1 hr with rfl | hr
      · exact absurd hl hq
      · exact ⟨r, hr, hl⟩
theorem lins_end {x : It} : ∀ {L : List It}, (∀ q ∈ L, ¬ lt2 x q) → lins x L = L ++ [x]
  | [], _ => rfl
  | q :: t, h => by rw [lins, if_neg (h q (by simp)), lins_end fun r hr => h r (by simp [hr])]; rfl
theorem lins_here {x p : It} : ∀ {L : List It}, (∀ q ∈ L, ¬ lt2 x q) → lt2 x p → lins x (L ++ [p]) = L ++ [x] ++ [p]
  | [], _, hp => by rw [List.nil_append, lins, if_pos hp]; rfl
  | q :: t, h, hp => by rw [List.cons_append, lins, if_neg (h q (by simp)), lins_here (fun r hr => h r (by simp [hr])) hp]; rfl
/-- Where Put stands. -/
def PS (x : It) (R : List It) (t : Nat) (d : Bool) (o : List It) : Prop :=
  (d = false ∧ o = R.take t ∧ ∀ q ∈ R.take t, ¬ lt2 x q) ∨ (d = true ∧ o = lins x (R.take t) ∧ ∃ q ∈ R.take t, lt2 x q)
theorem PS.len {x : It} {R : List It} {t : Nat} {d : Bool} {o : List It} (h : PS x R t d o) : o.length ≤ t + 1 := by
  have := List.length_take_le t R
  rcases h with ⟨_, rfl, _⟩ | ⟨_, rfl, _⟩
  · omega
  · rw [lins_len]; omega
set_option maxRecDepth 100000 in
set_option maxHeartbeats 2000000 in
theorem put_ref {w : World} {v : Value} {l : List It} (h : IV w v l) (x : It) (hl : l.length < 100000) : Calls Try.prog 83 #[v, itV2 x] w (RetI w (lput l x)) := by
  have H := Lib.hid h
  clear h
  go_enter Try.func83, Try.ntmps83
  go_wp2_with fail
  refine (drop_any (H.out.below (ba (Below.refl _ _) (.cells #[.int .i64 x.1, .int .i64 x.2] 61))) x.1 hl).mono ?_
  rintro e w1 ⟨v1, rfl, o1, hb1⟩
  have hlR : (ldel l x.1).length < 100000 := Nat.lt_of_le_of_lt (List.length_filter_le _ _) hl
  have HF := Lib.hid (show lput l x = lins x (ldel l x.1) from rfl)
  obtain ⟨a, n, cap, rfl, hn, hc, hm, hat⟩ := (o1.rs ienc_len).at_
  generalize ldel l x.1 = R at *
  have HA := Lib.hid hat
  unfold maxLen at hm
  have hlm : n < 100000 := by omega
  have HN := Lib.hid hn
  have x0 := hb1.cell (p := ⟨w.heap.size, 0, none⟩) (by simp)
  have x1 := hb1.cell (p := ⟨w.heap.size, 1, none⟩) (by simp)
  simp [go_sem] at x0 x1
  have X0 := Lib.hid x0; have X1 := Lib.hid x1
  have S1 := Lib.hid (show w.heap.size < w1.heap.size by have := hb1.size; simp at this; omega)
  have HB1 := Lib.hid (show Below w.heap.size w w1 from bt (ba (Below.refl _ _) _) hb1)
  clear hat hn o1 x0 x1 hb1 hl hlR
  go_wp2
  go_loopw [6, 7, 8] (fun ov dv iv wr => ∃ (t : Nat) (d : Bool) (o : List It), t ≤ n ∧ iv = .int .i64 t ∧ dv = .bool d ∧ Hid (PS x R t d o) ∧ Hid (OI wr w1.heap.size ov o ∧ Below w1.heap.size w1 wr)) (fun _ _ iv _ => n - (intOf iv).toNat)
  case atStart => exact ⟨0, false, [], Nat.zero_le _, rfl, rfl, Lib.hid (.inl ⟨rfl, by simp, by simp⟩), Lib.hid ⟨OwnL.nil _ _ _ _ _, Below.refl _ _⟩⟩
  case round =>
    obtain ⟨t, d, o, ht, rfl, rfl, HS, HQ⟩ := hrel
    obtain ⟨w2, rfl⟩ : ∃ w2, w2 = wr := ⟨_, rfl⟩
    have e2 := (HQ.out.2.cell (p := ⟨w.heap.size, 0, none⟩) S1.out).trans X0.out
    have e3 := (HQ.out.2.cell (p := ⟨w.heap.size, 1, none⟩) S1.out).trans X1.out
    have hlo : o.length < 1000000 := by have := HS.out.len; omega
    have hs2 := HQ.out.2.size
    have hsx : w.heap.size < w2.heap.size := by have := S1.out; omega
    by_cases hlt : t < n
    · have hts : (t : Int) < (n : Int) := by omega
      obtain ⟨p, hx⟩ := at_lt (l := R) (i := t) (by rw [← HN.out]; exact hlt)
      obtain ⟨b, off, rfl, hb, hcell⟩ := HA.out t p hx
      have e0 := (HQ.out.2.cell (p := ⟨b, off + t * 2, none⟩) hb).trans (hcell 0 _ rfl)
      have e1 := (HQ.out.2.cell (p := ⟨b, off + t * 2 + 1, none⟩) hb).trans (hcell 1 _ rfl)
      have hbb : b < w2.heap.size := Nat.lt_of_lt_of_le hb hs2
      have HX := Lib.hid (take_at hx)
      clear hcell hx
      cases d with
      | true =>
        have HN2 := Lib.hid (show PS x R (t + 1) true (o ++ [p]) by
          rcases HS.out with ⟨h, _⟩ | ⟨_, rfl, h⟩
          · cases h
          · refine .inr ⟨rfl, ?_, ?_⟩
            · rw [HX.out, lins_app h]
            · obtain ⟨q, hq, hl⟩ := h
              exact ⟨q, by rw [HX.out]; simp [hq], hl⟩)
        go_wp2_with fail
        refine wp_region_pure (by kernel_rfl) (by kernel_rfl) ?_
        repeat (first | go_big_quiet_step ((fail)) | (quiet_step ((fail))))
        refine wpQuiet_nil ?_
        rintro w3 ⟨x3, hx3⟩
        have hb3 := ext_below _ x3
        rw [← hx3] at hb3
        clear hx3 x3
        have hs3 : w2.heap.size + 0 ≤ w3.heap.size := (by have h := hb3.size; first | omega | (simp at h; omega))
        obtain ⟨hc3, hf3, hl3⟩ := bcell hb3
        clear hl3
        have HB3 := Lib.hid hb3
        obtain ⟨v4, w4, hrun, o4, g4, _⟩ := OI.app (HQ.out.1.below (ba HB3.out (.cells #[.int .i64 p.1, .int .i64 p.2] 61))) p (b := w3.heap.size) (by simp [go_sem]) (by simp [go_sem]) hlo (by simp; have := HB3.out.size; omega)
        have HR := Lib.hid hrun
        have HB4 := Lib.hid (show Below w1.heap.size w1 w4 from (bt HQ.out.2 (ba HB3.out _)).grown g4 (by simp; have := HB3.out.size; omega) (fun j hj => (HQ.out.1.lt j hj).1))
        have O4 := Lib.hid o4
        clear hrun o4 g4
        go_wp2_with (at_builtin; refine wpList_app_run rfl _ _ _ rfl rfl rfl HR.out ?_)
        go_roundw
        case rel => exact ⟨t + 1, true, o ++ [p], by omega, by go_num, rfl, HN2, Lib.hid ⟨O4.out, HB4.out⟩⟩
        case measure => simp [intOf]; omega
      | false =>
        have hal := ahead_any x p
        by_cases hq : lt2 x p
        · rw [decide_eq_true hq] at hal
          have HAL := Lib.hid hal
          have HN2 := Lib.hid (show PS x R (t + 1) true (o ++ [x] ++ [p]) by
            rcases HS.out with ⟨_, rfl, h⟩ | ⟨h, _⟩
            · exact .inr ⟨rfl, by rw [HX.out, lins_here h hq], p, by rw [HX.out]; simp, hq⟩
            · cases h)
          clear hal hq
          go_wp2_with fail
          refine wp_region_pure (by kernel_rfl) (by kernel_rfl) ?_
          repeat (first | go_big_quiet_step (((go_at_call 111; with_reducible exact HAL.out.quiet))) | (quiet_step (((go_at_call 111; with_reducible exact HAL.out.quiet)))))
          refine wpQuiet_nil ?_
          rintro w3 ⟨x3, hx3⟩
          have hb3 := ext_below _ x3
          rw [← hx3] at hb3
          clear hx3 x3
          have hs3 : w2.heap.size + 0 ≤ w3.heap.size := (by have h := hb3.size; first | omega | (simp at h; omega))
          obtain ⟨hc3, hf3, hl3⟩ := bcell hb3
          clear hl3
          have HB3 := Lib.hid hb3
          have hs3 := hb3.size
          obtain ⟨v4, w4, hrun, o4, g4, _⟩ := OI.app (HQ.out.1.below (ba HB3.out (.cells #[.int .i64 x.1, .int .i64 x.2] 61))) x (b := w3.heap.size) (by simp [go_sem]) (by simp [go_sem]) hlo (by simp; omega)
          have HR := Lib.hid hrun
          have HB4 := Lib.hid (show Below w1.heap.size w1 w4 from (bt HQ.out.2 (ba HB3.out _)).grown g4 (by simp; omega) (fun j hj => (HQ.out.1.lt j hj).1))
          have O4 := Lib.hid o4
          have e4 := (HB4.out.cell (p := ⟨b, off + t * 2, none⟩) hb).trans ((HQ.out.2.cell (p := ⟨b, off + t * 2, none⟩) hb).symm.trans e0)
          have e5 := (HB4.out.cell (p := ⟨b, off + t * 2 + 1, none⟩) hb).trans ((HQ.out.2.cell (p := ⟨b, off + t * 2 + 1, none⟩) hb).symm.trans e1)
          have hs4 := HB4.out.size
          have hlo2 : (o ++ [x]).length < 1000000 := by have := HS.out.len; simp; omega
          obtain ⟨v5, w5, hrun, o5, g5, _⟩ := OI.app (O4.out.below (ba (Below.refl _ _) (.cells #[.int .i64 p.1, .int .i64 p.2] 61))) p (b := w4.heap.size) (by simp [go_sem]) (by simp [go_sem]) hlo2 (by simp; omega)
          have HR5 := Lib.hid hrun
          have HB5 := Lib.hid (show Below w1.heap.size w1 w5 from (ba HB4.out _).grown g5 (by simp; omega) (fun j hj => (O4.out.lt j hj).1))
          have O5 := Lib.hid o5
          have tok1 : True := trivial
          clear hrun o4 g4 o5 g5
          go_wp2_with (at_builtin; first | (have _t := tok1; refine wpList_app_run rfl _ _ _ rfl rfl rfl HR.out ?_; clear tok1) | (refine wpList_app_run rfl _ _ _ rfl rfl rfl HR5.out ?_))
          go_roundw
          case rel => exact ⟨t + 1, true, o ++ [x] ++ [p], by omega, by go_num, rfl, HN2, Lib.hid ⟨O5.out, HB5.out⟩⟩
          case measure => simp [intOf]; omega
        · rw [decide_eq_false hq] at hal
          have HAL := Lib.hid hal
          have HN2 := Lib.hid (show PS x R (t + 1) false (o ++ [p]) by
            rcases HS.out with ⟨_, rfl, h⟩ | ⟨h, _⟩
            · refine .inl ⟨rfl, by rw [HX.out], fun q hq' => ?_⟩
              rw [HX.out] at hq'
              rcases List.mem_append.1 hq' with h' | h'
              · exact h q h'
              · rw [List.mem_singleton.1 h']; exact hq
            · cases h)
          clear hal hq
          go_wp2_with fail
          refine wp_region_pure (by kernel_rfl) (by kernel_rfl) ?_
          repeat (first | go_big_quiet_step (((go_at_call 111; with_reducible exact HAL.out.quiet))) | (quiet_step (((go_at_call 111; with_reducible exact HAL.out.quiet)))))
          refine wpQuiet_nil ?_
          rintro w3 ⟨x3, hx3⟩
          have hb3 := ext_below _ x3
          rw [← hx3] at hb3
          clear hx3 x3
          have hs3 : w2.heap.size + 0 ≤ w3.heap.size := (by have h := hb3.size; first | omega | (simp at h; omega))
          obtain ⟨hc3, hf3, hl3⟩ := bcell hb3
          clear hl3
          have HB3 := Lib.hid hb3
          obtain ⟨v4, w4, hrun, o4, g4, _⟩ := OI.app (HQ.out.1.below (ba HB3.out (.cells #[.int .i64 p.1, .int .i64 p.2] 61))) p (b := w3.heap.size) (by simp [go_sem]) (by simp [go_sem]) hlo (by simp; have := HB3.out.size; omega)
          have HR := Lib.hid hrun
          have HB4 := Lib.hid (show Below w1.heap.size w1 w4 from (bt HQ.out.2 (ba HB3.out _)).grown g4 (by simp; have := HB3.out.size; omega) (fun j hj => (HQ.out.1.lt j hj).1))
          have O4 := Lib.hid o4
          clear hrun o4 g4
          go_wp2_with (at_builtin; refine wpList_app_run rfl _ _ _ rfl rfl rfl HR.out ?_)
          go_roundw
          case rel => exact ⟨t + 1, false, o ++ [p], by omega, by go_num, rfl, HN2, Lib.hid ⟨O4.out, HB4.out⟩⟩
          case measure => simp [intOf]; omega
    · obtain rfl : n = t := by omega
      have hT : R.take n = R := by rw [HN.out, List.take_length]
      have hS := HS.out
      unfold PS at hS
      rw [hT] at hS
      have HS2 := Lib.hid hS
      clear hT HS hS
      cases d with
      | true =>
        go_wp2
        go_ret
        refine ⟨_, rfl, ?_, bt HB1.out HQ.out.2⟩
        rw [HF.out]
        rcases HS2.out with ⟨h, _⟩ | ⟨_, rfl, _⟩
        · cases h
        · exact ownsRow_base HQ.out.1 (by have := S1.out; omega)
      | false =>
        obtain ⟨v4, w4, hrun, o4, g4, _⟩ := OI.app (HQ.out.1.below (ba (Below.refl _ _) (.cells #[.int .i64 x.1, .int .i64 x.2] 61))) x (b := w2.heap.size) (by simp [go_sem]) (by simp [go_sem]) hlo (by simp; omega)
        have HR := Lib.hid hrun
        have HB4 := Lib.hid (show Below w1.heap.size w1 w4 from (ba HQ.out.2 _).grown g4 (by simp; omega) (fun j hj => (HQ.out.1.lt j hj).1))
        have O4 := Lib.hid o4
        clear hrun o4 g4
        go_wp2_with (at_builtin; refine wpList_app_run rfl _ _ _ rfl rfl rfl HR.out ?_)
        go_ret
        refine ⟨_, rfl, ?_, bt HB1.out HB4.out⟩
        rw [HF.out]
        rcases HS2.out with ⟨_, rfl, h⟩ | ⟨h, _⟩
        · rw [lins_end h]; exact ownsRow_base O4.out (by have := S1.out; omega)
        · cases h
end Go.Proofs.Ytajcelmnblncaaa

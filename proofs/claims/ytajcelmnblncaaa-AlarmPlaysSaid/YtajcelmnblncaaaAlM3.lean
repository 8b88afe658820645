/- The document's alarms by a list: Drop, Forget; lists alike. -/
import Derived.Test.YtajcelmnblncaaaAlM2
namespace Go.Proofs.Ytajcelmnblncaaa
open Go.RowKit Go.Maps
attribute [local go_sem] ext_cell ext_frozen extC_cell extC_frozen Mix.calmUpon Mix.mUpon eqRy
theorem OwnL.low {α : Type} {enc : α → List Value} {e k base base' : Nat} {w : World} {v : Value} {l : List α} (h : OwnL e k enc w base v l) (hb : base' ≤ base) : OwnL e k enc w base' v l :=
  ⟨h.1, h.2.imp_right fun ⟨b, cap, cur, h1, h2, h3⟩ => ⟨b, cap, cur, h1, Nat.le_trans hb h2, h3⟩⟩
abbrev OR (w : World) (base : Nat) (v : Value) (R : List Rc) : Prop := OwnL 90 4 eenc w base v R
theorem infoRi : (Try.prog.info? 90).map (fun i => (i.zero, i.size, i.bytes)) = some (some (.agg #[.int .i64 0, .int .i64 0, .int .i64 0, .int .i64 0]), 4, 32) := by kernel_rfl
theorem OR.app {w : World} {base : Nat} {v : Value} {l : List Rc} {b : Nat} (h : OR w base v l) (x : Rc) (hx : IB w b x) (hl : l.length < 1000000) (hb : base ≤ w.heap.size) :
    ∃ v' w', (Builtin.append_ #[75, 75] 75 #[v, .slice (some ⟨b, 0, none⟩) 1 1]).run Try.prog w = .ok v' w' ∧ OR w' base v' (l ++ [x]) ∧ w.grownBy w' v.ownBlock ∧ (v'.ownBlock = v.ownBlock ∨ v'.ownBlock = some w.heap.size) := by
  obtain ⟨i0, hi, hz0, hz1, hz2⟩ := info_parts infoRi
  obtain ⟨x0, x1, x2, x3⟩ := hx.cells
  exact OwnL.app h Try.underlying75 hi hz0 hz1 hz2 rfl (by decide) (fun _ => rfl) x (fun j u hj => by
      rcases j with _ | _ | _ | _ | j <;> simp [eenc] at hj
      · subst hj; exact x0
      · subst hj; exact x1
      · subst hj; exact x2
      · subst hj; exact x3) (fun u hu => by simp [eenc] at hu; rcases hu with rfl | rfl | rfl | rfl <;> rfl) (by omega) (by unfold maxLen; omega) hb
/-- A list that a call makes. -/
def RetR (w : World) (R : List Rc) (e : Ending) (w' : World) : Prop := ∃ v, e = .returned v ∧ OR w' w.heap.size v R ∧ Below w.heap.size w w'
set_option maxRecDepth 100000 in
set_option maxHeartbeats 4000000 in
theorem mdrop {w : World} {v : Value} {R : List Rc} (h : RV w v R) (k : Ky) (hl : R.length < 100000) : Calls Try.prog 92 #[v, kval k] w (RetR w (dK R k)) := by
  obtain ⟨a, n, cap, rfl, hn, hc, hm, hat⟩ := h.at_
  have HA := Lib.hid hat
  have hlm : n < 100000 := by omega
  have HN := Lib.hid hn
  have HK0 := Lib.hid (RB.made w k)
  have HB0 := Lib.hid (show Below w.heap.size w (w.alloc (.cells #[.int .i64 k.1, .int .i64 k.2.1, .int .i64 k.2.2] 84)) from ba (Below.refl _ _) _)
  clear hat h hn hl
  go_enter Try.func92, Try.ntmps92
  go_wp2
  generalize w.alloc (.cells #[.int .i64 k.1, .int .i64 k.2.1, .int .i64 k.2.2] 84) = w1 at *
  obtain ⟨b0, hb0⟩ : ∃ b0, b0 = w.heap.size := ⟨_, rfl⟩
  rw [← hb0] at HK0 ⊢
  clear hb0
  have HBK := Lib.hid (show b0 < w1.heap.size from HK0.out.lt)
  go_loopw [5, 6] (fun ov iv wr => ∃ t : Nat, t ≤ n ∧ iv = .int .i64 t ∧ Hid (OR wr w1.heap.size ov (dK (R.take t) k) ∧ Below w1.heap.size w1 wr) ∧ Hid (RB wr b0 k)) (fun _ iv _ => n - (intOf iv).toNat)
  case atStart => exact ⟨0, Nat.zero_le _, rfl, Lib.hid ⟨OwnL.nil _ _ _ _ _, Below.refl _ _⟩, HK0⟩
  case round =>
    obtain ⟨t, ht, rfl, HQ, HK⟩ := hrel
    obtain ⟨w2, rfl⟩ : ∃ w2, w2 = wr := ⟨_, rfl⟩
    by_cases hlt : t < n
    · have hts : (t : Int) < (n : Int) := by omega
      obtain ⟨p, hx⟩ := at_lt (l := R) (i := t) (by rw [← HN.out]; exact hlt)
      obtain ⟨b, off, rfl, hb, hcell⟩ := HA.out t p hx
      have e0 := ((bt HB0.out HQ.out.2).cell (p := ⟨b, off + t * 4 + 0, none⟩) hb).trans (hcell 0 _ rfl)
      have e1 := ((bt HB0.out HQ.out.2).cell (p := ⟨b, off + t * 4 + 1, none⟩) hb).trans (hcell 1 _ rfl)
      have e2 := ((bt HB0.out HQ.out.2).cell (p := ⟨b, off + t * 4 + 2, none⟩) hb).trans (hcell 2 _ rfl)
      have e3 := ((bt HB0.out HQ.out.2).cell (p := ⟨b, off + t * 4 + 3, none⟩) hb).trans (hcell 3 _ rfl)
      simp only [Nat.add_zero] at e0
      have hbw : b < w2.heap.size := Nat.lt_of_lt_of_le hb (bt HB0.out HQ.out.2).size
      obtain ⟨x0, x1, x2⟩ := HK.out.cells
      have hbk := HK.out.lt
      have HX := Lib.hid (take_at hx)
      have HLO := Lib.hid (show (dK (R.take t) k).length < 1000000 by
        have h1 : (dK (R.take t) k).length ≤ (R.take t).length := List.length_filter_le _ _
        have h2 := List.length_take_le t R
        omega)
      clear hcell hx
      by_cases he : p.key = k
      · have HE := Lib.hid (show dK (R.take (t + 1)) k = dK (R.take t) k by rw [HX.out]; show Srt.del Rc.key (R.take t ++ [p]) k = _; rw [Srt.del_snoc, if_pos he, List.append_nil])
        subst he
        go_wp2
        refine wp_region_pure (by kernel_rfl) (by kernel_rfl) ?_
        repeat (first | go_big_quiet_step ((fail)) | (quiet_step ((fail))))
        refine wpQuiet_nil ?_
        rintro w3 ⟨x3, hx3⟩
        have hb3 := ext_below _ x3
        rw [← hx3] at hb3
        clear hx3 x3
        have hs3 : w2.heap.size + 0 ≤ w3.heap.size := (by have h := hb3.size; first | omega | (simp at h; omega))
        obtain ⟨hc3, hf3, hl3⟩ := bcell hb3
        clear hl3
        have HQ3 := Lib.hid (show OR w3 w1.heap.size u5 (dK (R.take (t + 1)) p.key) ∧ Below w1.heap.size w1 w3 from ⟨by rw [HE.out]; exact HQ.out.1.below hb3, bt HQ.out.2 hb3⟩)
        have HK3 := Lib.hid (HK.out.below hb3)
        clear hb3 hc3 hf3
        go_wp2
        go_roundw
        case rel => exact ⟨t + 1, by omega, by go_num, HQ3, HK3⟩
        case measure => simp [intOf]; omega
      · have HE := Lib.hid (show dK (R.take (t + 1)) k = dK (R.take t) k ++ [p] by rw [HX.out]; show Srt.del Rc.key (R.take t ++ [p]) k = _; rw [Srt.del_snoc, if_neg he])
        have HNE := Lib.hid he
        clear he
        rcases key3 HNE.out with h1 | ⟨h1, h2 | ⟨h2, h3⟩⟩
        · have g1 : (p.key.1 == k.1) = false := by simpa using h1
          have g1n : (p.key.1 != k.1) = true := by simpa using h1
          clear h1
          go_wp2
          refine wp_region_pure (by kernel_rfl) (by kernel_rfl) ?_
          repeat (first | go_big_quiet_step ((fail)) | (quiet_step ((fail))))
          refine wpQuiet_nil ?_
          rintro w3 ⟨x3, hx3⟩
          have hb3 := ext_below _ x3
          rw [← hx3] at hb3
          clear hx3 x3
          have hs3 : w2.heap.size + 0 ≤ w3.heap.size := (by have h := hb3.size; first | omega | (simp at h; omega))
          obtain ⟨hc3, hf3, hl3⟩ := bcell hb3
          clear hl3
          have HB3 := Lib.hid hb3
          have HK3 := Lib.hid (HK.out.below hb3)
          have hbb : Below w3.heap.size w3 (w3.alloc (.cells #[.int .i64 p.key.1, .int .i64 p.key.2.1, .int .i64 p.key.2.2, .int .i64 p.at_] 90)) := ba (Below.refl _ _) _
          obtain ⟨v4, w4, hrun, o4, g4, _⟩ := OR.app ((HQ.out.1.below hb3).below hbb) p (IB.made w3 p) HLO.out (by simp; have := HQ.out.2.size; have := hb3.size; omega)
          have HR := Lib.hid hrun
          have hs3 := hb3.size
          have hlt4 := HQ.out.1.lt
          have HB4 := Lib.hid (show Below w1.heap.size w1 w4 from (bt (bt HQ.out.2 hb3) hbb).grown g4 (by simp; have := HQ.out.2.size; omega) (fun j hj => (hlt4 j hj).1))
          have O4 := Lib.hid (show OR w4 w1.heap.size v4 (dK (R.take (t + 1)) k) by rw [HE.out]; exact o4)
          have HK4 := Lib.hid ((HK3.out.below hbb).chg (.of_grown g4 (F := fun q => u5.ownBlock = some q) fun q e => e) fun e => by have := (hlt4 b0 e).1; have := HBK.out; omega)
          have HI := Lib.hid (show e0 = e0 from rfl)
          have e0' := (hb3.cell (p := ⟨b, off + t * 4, none⟩) hbw).trans e0
          have e1' := (hb3.cell (p := ⟨b, off + t * 4 + 1, none⟩) hbw).trans e1
          have e2' := (hb3.cell (p := ⟨b, off + t * 4 + 2, none⟩) hbw).trans e2
          have e3' := (hb3.cell (p := ⟨b, off + t * 4 + 3, none⟩) hbw).trans e3
          have hbw3 : b < w3.heap.size := by omega
          clear hrun o4 g4 hbb hlt4 hb3 hc3 hf3 e0 e1 e2 e3 HI
          go_wp2_with (at_builtin; refine wpList_app_run rfl _ _ _ rfl rfl rfl HR.out ?_)
          go_roundw
          case rel => exact ⟨t + 1, by omega, by go_num, Lib.hid ⟨O4.out, HB4.out⟩, HK4⟩
          case measure => simp [intOf]; omega
        · have g1 : (p.key.1 == k.1) = true := by simpa using h1
          have g2 : (p.key.2.1 == k.2.1) = false := by simpa using h2
          have g2n : (p.key.2.1 != k.2.1) = true := by simpa using h2
          clear h1 h2
          go_wp2
          refine wp_region_pure (by kernel_rfl) (by kernel_rfl) ?_
          repeat (first | go_big_quiet_step ((fail)) | (quiet_step ((fail))))
          refine wpQuiet_nil ?_
          rintro w3 ⟨x3, hx3⟩
          have hb3 := ext_below _ x3
          rw [← hx3] at hb3
          clear hx3 x3
          have hs3 : w2.heap.size + 0 ≤ w3.heap.size := (by have h := hb3.size; first | omega | (simp at h; omega))
          obtain ⟨hc3, hf3, hl3⟩ := bcell hb3
          clear hl3
          have HB3 := Lib.hid hb3
          have HK3 := Lib.hid (HK.out.below hb3)
          have hbb : Below w3.heap.size w3 (w3.alloc (.cells #[.int .i64 p.key.1, .int .i64 p.key.2.1, .int .i64 p.key.2.2, .int .i64 p.at_] 90)) := ba (Below.refl _ _) _
          obtain ⟨v4, w4, hrun, o4, g4, _⟩ := OR.app ((HQ.out.1.below hb3).below hbb) p (IB.made w3 p) HLO.out (by simp; have := HQ.out.2.size; have := hb3.size; omega)
          have HR := Lib.hid hrun
          have hs3 := hb3.size
          have hlt4 := HQ.out.1.lt
          have HB4 := Lib.hid (show Below w1.heap.size w1 w4 from (bt (bt HQ.out.2 hb3) hbb).grown g4 (by simp; have := HQ.out.2.size; omega) (fun j hj => (hlt4 j hj).1))
          have O4 := Lib.hid (show OR w4 w1.heap.size v4 (dK (R.take (t + 1)) k) by rw [HE.out]; exact o4)
          have HK4 := Lib.hid ((HK3.out.below hbb).chg (.of_grown g4 (F := fun q => u5.ownBlock = some q) fun q e => e) fun e => by have := (hlt4 b0 e).1; have := HBK.out; omega)
          have HI := Lib.hid (show e0 = e0 from rfl)
          have e0' := (hb3.cell (p := ⟨b, off + t * 4, none⟩) hbw).trans e0
          have e1' := (hb3.cell (p := ⟨b, off + t * 4 + 1, none⟩) hbw).trans e1
          have e2' := (hb3.cell (p := ⟨b, off + t * 4 + 2, none⟩) hbw).trans e2
          have e3' := (hb3.cell (p := ⟨b, off + t * 4 + 3, none⟩) hbw).trans e3
          have hbw3 : b < w3.heap.size := by omega
          clear hrun o4 g4 hbb hlt4 hb3 hc3 hf3 e0 e1 e2 e3 HI
          go_wp2_with (at_builtin; refine wpList_app_run rfl _ _ _ rfl rfl rfl HR.out ?_)
          go_roundw
          case rel => exact ⟨t + 1, by omega, by go_num, Lib.hid ⟨O4.out, HB4.out⟩, HK4⟩
          case measure => simp [intOf]; omega
        · have g1 : (p.key.1 == k.1) = true := by simpa using h1
          have g2 : (p.key.2.1 == k.2.1) = true := by simpa using h2
          have g3 : (p.key.2.2 == k.2.2) = false := by simpa using h3
          have g3n : (p.key.2.2 != k.2.2) = true := by simpa using h3
          clear h1 h2 h3
          go_wp2
          refine wp_region_pure (by kernel_rfl) (by kernel_rfl) ?_
          repeat (first | go_big_quiet_step ((fail)) | (quiet_step ((fail))))
          refine wpQuiet_nil ?_
          rintro w3 ⟨x3, hx3⟩
          have hb3 := ext_below _ x3
          rw [← hx3] at hb3
          clear hx3 x3
          have hs3 : w2.heap.size + 0 ≤ w3.heap.size := (by have h := hb3.size; first | omega | (simp at h; omega))
          obtain ⟨hc3, hf3, hl3⟩ := bcell hb3
          clear hl3
          have HB3 := Lib.hid hb3
          have HK3 := Lib.hid (HK.out.below hb3)
          have hbb : Below w3.heap.size w3 (w3.alloc (.cells #[.int .i64 p.key.1, .int .i64 p.key.2.1, .int .i64 p.key.2.2, .int .i64 p.at_] 90)) := ba (Below.refl _ _) _
          obtain ⟨v4, w4, hrun, o4, g4, _⟩ := OR.app ((HQ.out.1.below hb3).below hbb) p (IB.made w3 p) HLO.out (by simp; have := HQ.out.2.size; have := hb3.size; omega)
          have HR := Lib.hid hrun
          have hs3 := hb3.size
          have hlt4 := HQ.out.1.lt
          have HB4 := Lib.hid (show Below w1.heap.size w1 w4 from (bt (bt HQ.out.2 hb3) hbb).grown g4 (by simp; have := HQ.out.2.size; omega) (fun j hj => (hlt4 j hj).1))
          have O4 := Lib.hid (show OR w4 w1.heap.size v4 (dK (R.take (t + 1)) k) by rw [HE.out]; exact o4)
          have HK4 := Lib.hid ((HK3.out.below hbb).chg (.of_grown g4 (F := fun q => u5.ownBlock = some q) fun q e => e) fun e => by have := (hlt4 b0 e).1; have := HBK.out; omega)
          have HI := Lib.hid (show e0 = e0 from rfl)
          have e0' := (hb3.cell (p := ⟨b, off + t * 4, none⟩) hbw).trans e0
          have e1' := (hb3.cell (p := ⟨b, off + t * 4 + 1, none⟩) hbw).trans e1
          have e2' := (hb3.cell (p := ⟨b, off + t * 4 + 2, none⟩) hbw).trans e2
          have e3' := (hb3.cell (p := ⟨b, off + t * 4 + 3, none⟩) hbw).trans e3
          have hbw3 : b < w3.heap.size := by omega
          clear hrun o4 g4 hbb hlt4 hb3 hc3 hf3 e0 e1 e2 e3 HI
          go_wp2_with (at_builtin; refine wpList_app_run rfl _ _ _ rfl rfl rfl HR.out ?_)
          go_roundw
          case rel => exact ⟨t + 1, by omega, by go_num, Lib.hid ⟨O4.out, HB4.out⟩, HK4⟩
          case measure => simp [intOf]; omega
    · obtain rfl : n = t := by omega
      have HT := Lib.hid (show R.take n = R by rw [HN.out, List.take_length])
      go_wp2
      go_ret
      have hq := HQ.out
      rw [HT.out] at hq
      have hs0 := HB0.out.size
      exact ⟨_, rfl, OwnL.low hq.1 hs0, bt HB0.out hq.2⟩
end Go.Proofs.Ytajcelmnblncaaa

/- For any bound, any events and any number the statement QueueKeeps returns true. Condition: none. -/
import Derived.Test.YtnckjacbkhoppaaQ8
import Derived.Test.YtnckjacbkhoppaaQK0
import Derived.Test.YtnckjacbkhoppaaEv1
namespace Go.Proofs.Ytnckjacbkhoppaa
open Go.RowKit Go.Maps
attribute [local go_sem] ext_cell ext_frozen extC_cell extC_frozen Mix.calmUpon Mix.mUpon
theorem EB.rs {w : World} {b : Nat} {x : Ev} (h : EB w b x) : RS 5 evenc w (.slice (some ⟨b, 0, none⟩) 1 1) [x] := rs_made (l := [x]) (cap := 1) (e := 28) (fz := (0, 0)) evenc_len h (Nat.le_refl _) (by decide)
/-- The events of one framework. -/
def ownE (f : Int) (l : List Ev) : List Ev := l.filter fun e => decide (e.frame = f)
theorem ownE_snoc (f : Int) (l : List Ev) (e : Ev) : ownE f (l ++ [e]) = if e.frame = f then ownE f l ++ [e] else ownE f l := by
  unfold ownE
  rw [List.filter_append]
  by_cases h : e.frame = f
  · rw [if_pos h]; simp [h]
  · rw [if_neg h]; simp [h]
theorem ownE_pl (f : Int) (l : List Ev) : (ownE f l).map Ev.pl = ownF f (l.map Ev.pl) := by
  unfold ownE ownF
  rw [List.filter_map]; rfl
/-- Where putting stands. -/
structure KW (W wr : World) (qp M : Nat) (most frame : Int) (l : List Ev) (t : Nat) (ov : Value) (F V : Nat → Prop) : Prop where
  qt : QT wr W.heap.size qp M most t (putM most (openM [] frame) ((l.take t).map Ev.pl)) F V
  own : OwnO 5 evenc wr W.heap.size ov (ownE frame (l.take t))
  od : ∀ b, ov.ownBlock = some b → ¬ F b ∧ ¬ V b
  bel : Below W.heap.size W wr
  sm : ∀ x ∈ l.take t, x.ps.length ≤ 150
theorem KW.on {W wr w' : World} {qp M : Nat} {most frame : Int} {l : List Ev} {t : Nat} {ov : Value} {F V : Nat → Prop} (h : KW W wr qp M most frame l t ov F V) (hb : Below wr.heap.size wr w') : KW W w' qp M most frame l t ov F V :=
  ⟨h.qt.below hb, h.own.below hb, h.od, bt h.bel hb, h.sm⟩
set_option maxRecDepth 100000 in
set_option maxHeartbeats 8000000 in
theorem keeps28 (most : Int) (v1 : Value) (l : List Ev) (frame : Int) (W : World) (hA : EL W v1 l) (hI : ∀ x ∈ l, I64 x.frame) (ho : ∀ b, v1.ownBlock = some b → b < W.heap.size) (hmo : I64 most) (hf : I64 frame) :
    Calls Try.prog 13 #[.int .i64 most, v1, .int .i64 frame] W fun e W' => e = .returned (.bool true) ∧ Below W.heap.size W W' := by
  obtain ⟨a, n, cap, rfl, hn, hc, hm, hat⟩ := hA.rs.at_
  by_cases hbig : 200 < n
  · have hbI : (200 : Int) < (n : Int) := by omega
    clear hat hA hn ho hI
    go_enter Try.func13, Try.ntmps13
    go_wp2
    go_ret
    exact ⟨rfl, Below.refl _ _⟩
  · have hbI : (n : Int) ≤ 200 := by omega
    have hbn : n ≤ 200 := by omega
    by_cases hm1 : most < 1
    · clear hat hA hn ho hI hbig
      go_enter Try.func13, Try.ntmps13
      go_wp2
      go_ret
      exact ⟨rfl, Below.refl _ _⟩
    · have HA := Lib.hid hA; have HO := Lib.hid ho; have HI := Lib.hid hI; have HN := Lib.hid hn; have HM1 := Lib.hid (show 1 ≤ most by omega)
      have HAT := Lib.hid hat; have HMO := Lib.hid hmo
      clear hat hA hn ho hI hbig hm hmo
      go_enter Try.func13, Try.ntmps13
      go_wp2_with fail
      refine (qnew W HM1.out).mono ?_
      rintro e w1 ⟨rfl, h1, hb1⟩
      have H1 := Lib.hid h1; have HB1 := Lib.hid hb1
      clear h1 hb1
      obtain ⟨qp, hqp⟩ : ∃ qp, qp = W.heap.size + 1 := ⟨_, rfl⟩
      obtain ⟨M, hM⟩ : ∃ M, M = W.heap.size := ⟨_, rfl⟩
      have HWM := Lib.hid hM
      rw [← hqp] at H1
      rw [← hqp]
      clear hqp hM
      go_wp2_with fail
      refine (qopen H1.out HB1.out.size hf).mono ?_
      rintro e w2 ⟨rfl, hx2⟩
      have HB2 := Lib.hid (HB1.out.trans (hx2.bel H1.out HB1.out.size))
      obtain ⟨F2, V2, h2, -, -, -, -, -⟩ := hx2
      rw [← HWM.out] at h2
      have HI0 := Lib.hid (show KW W w2 qp M most frame l 0 (.slice none 0 0) F2 V2 from ⟨by rw [← HWM.out]; exact h2, OwnO.nil _ _ _ _, (fun b hb => by cases hb), HB2.out, (fun x hx => by simp at hx)⟩)
      clear h2
      go_wp2
      go_loopw [8, 9] (fun ov iv wr => ∃ (t : Nat) (F1 V1 : Nat → Prop), t ≤ n ∧ iv = .int .i64 t ∧ Hid (KW W wr qp M most frame l t ov F1 V1)) (fun ov iv _ => n - (intOf iv).toNat)
      case atStart => exact ⟨0, F2, V2, Nat.zero_le _, rfl, HI0⟩
      case round =>
        clear HI0
        obtain ⟨t, F1, V1, ht, rfl, HQ⟩ := hrel
        obtain ⟨w4, rfl⟩ : ∃ w4, w4 = wr := ⟨_, rfl⟩
        by_cases hlt : t < n
        · have hts : (t : Int) < (n : Int) := by omega
          obtain ⟨x, hx⟩ := at_lt (l := l) (i := t) (by rw [← HN.out]; exact hlt)
          obtain ⟨b, off, rfl, hb, hcell⟩ := HAT.out t x hx
          have c0 := (HQ.out.bel.cell (p := ⟨b, off + t * 5 + 0, none⟩) hb).trans (hcell 0 _ rfl)
          have c1 := (HQ.out.bel.cell (p := ⟨b, off + t * 5 + 1, none⟩) hb).trans (hcell 1 _ rfl)
          have c2 := (HQ.out.bel.cell (p := ⟨b, off + t * 5 + 2, none⟩) hb).trans (hcell 2 _ rfl)
          have c3 := (HQ.out.bel.cell (p := ⟨b, off + t * 5 + 3, none⟩) hb).trans (hcell 3 _ rfl)
          have c4 := (HQ.out.bel.cell (p := ⟨b, off + t * 5 + 4, none⟩) hb).trans (hcell 4 _ rfl)
          simp only [Nat.add_zero] at c0
          have hbw : b < w4.heap.size := Nat.lt_of_lt_of_le hb HQ.out.bel.size
          have HBW := Lib.hid hb
          have HVC := Lib.hid (HA.out.vec x (mem_at hx))
          obtain ⟨va, vc, hvv, -, -⟩ := HVC.out.form
          have HT1 := Lib.hid (show (l.take (t + 1)).map Ev.pl = (l.take t).map Ev.pl ++ [x.pl] by rw [take_at hx, List.map_append]; rfl)
          have ht2 : ownE frame (l.take (t + 1)) = if x.frame = frame then ownE frame (l.take t) ++ [x] else ownE frame (l.take t) := by rw [take_at hx, ownE_snoc]
          have HX := Lib.hid hx
          obtain ⟨x0, x1, x2, x3, xv, xs⟩ := x
          obtain ⟨vn, hvn⟩ : ∃ vn, vn = xs.length := ⟨_, rfl⟩
          simp only at hvv c0 c1 c2 c3 c4 ht2
          rw [← hvn] at hvv
          subst hvv
          clear hcell hx hb
          by_cases hv : 150 < vn
          · have hvI : (150 : Int) < (vn : Int) := by omega
            clear hvn
            go_wp2
            go_ret
            exact ⟨rfl, HQ.out.bel⟩
          · have hvI : (vn : Int) ≤ 150 := by omega
            have HXS := Lib.hid (show xs.length ≤ 150 by omega)
            clear hvn hv
            have HB4 := Lib.hid HQ.out.bel
            have HQT4 := Lib.hid HQ.out.qt
            by_cases hfr : x1 = frame
            · have hfb : (x1 == frame) = true := by simpa using hfr
              rw [if_pos hfr] at ht2
              have HT2 := Lib.hid ht2
              clear ht2 hfr
              have hba4 := ba (Below.refl w4.heap.size w4) (.cells #[.int .i64 x0, .int .i64 x1, .int .i64 x2, .int .i64 x3, .slice va vn vc] 28)
              obtain ⟨v2, wA, hra, hoA, hgA, hvA⟩ := evapp (c := 1) (HQ.out.own.below hba4) ⟨x0, x1, x2, x3, .slice va vn vc, xs⟩ (EB.made w4 ⟨x0, x1, x2, x3, .slice va vn vc, xs⟩) rfl (by
                have : (ownE frame (l.take t)).length ≤ (l.take t).length := List.length_filter_le _ _
                rw [List.length_take] at this; omega) (by have := HB4.out.size; simp; omega) 24
              have hcgA : Chg (fun k => u8.ownBlock = some k) w4 wA := (Chg.of_below _ hba4).same (.of_grown hgA fun k e => e)
              have HRA := Lib.hid hra
              have HQT4 := Lib.hid (HQ.out.qt.chg hcgA (fun k hk e => (HQ.out.od k e).1 hk) (fun k hk e => (HQ.out.od k e).2 hk))
              have HOW4 := Lib.hid hoA
              have HOD4 := Lib.hid (show ∀ b, v2.ownBlock = some b → ¬ F1 b ∧ ¬ V1 b from fun b hb => by
                rcases hvA with h' | h'
                · rw [h'] at hb; exact HQ.out.od b hb
                · rw [h'] at hb; cases hb
                  have hfb := HQ.out.qt.fb
                  exact ⟨fun hf => by have := (hfb.1 _ hf).2.1; simp at this; omega, fun hf => by have := (hfb.2 _ hf).2; simp at this; omega⟩)
              have hbW : ∀ k, u8.ownBlock = some k → W.heap.size ≤ k := fun k hk => (HQ.out.own.lt k hk).1
              have hbelA : Below W.heap.size W wA := HB4.out.trans (hcgA.below HB4.out.size hbW)
              have HB4 := Lib.hid hbelA
              have nbu : ¬ u8.ownBlock = some b := fun e => by have := hbW b e; have := HBW.out; omega
              have c0 := (hcgA.cell hbw nbu _).trans c0
              have c1 := (hcgA.cell hbw nbu _).trans c1
              have c2 := (hcgA.cell hbw nbu _).trans c2
              have c3 := (hcgA.cell hbw nbu _).trans c3
              have c4 := (hcgA.cell hbw nbu _).trans c4
              have hbwA : b < wA.heap.size := Nat.lt_of_lt_of_le hbw hcgA.size
              clear hra hoA hgA hvA hcgA hbelA hba4 nbu hbW
              go_wp2_with (at_builtin; refine wpList_app_run rfl _ _ _ rfl rfl rfl HRA.out ?_)
              -- puts the event in: wA: the world; HOW4: what own is there
              have heb := EB.made wA ⟨x0, x1, x2, x3, .slice va vn vc, xs⟩
              have hba := ba (Below.refl wA.heap.size wA) (.cells #[.int .i64 x0, .int .i64 x1, .int .i64 x2, .int .i64 x3, .slice va vn vc] 28)
              have HEL := Lib.hid (show EL (wA.alloc (.cells #[.int .i64 x0, .int .i64 x1, .int .i64 x2, .int .i64 x3, .slice va vn vc] 28)) (.slice (some ⟨wA.heap.size, 0, none⟩) 1 1) [⟨x0, x1, x2, x3, .slice va vn vc, xs⟩] from ⟨heb.rs, fun x hx => by
                obtain rfl := List.mem_singleton.1 hx
                exact (HVC.out.on (HB4.out)).on hba⟩)
              have HED := Lib.hid (show ED F1 (.slice (some ⟨wA.heap.size, 0, none⟩) 1 1) [⟨x0, x1, x2, x3, .slice va vn vc, xs⟩] from ⟨fun b hb hf => by
                cases hb
                have := (HQT4.out.fb.1 _ hf).2.1; simp at this, fun x hx => by
                obtain rfl := List.mem_singleton.1 hx
                exact HVC.out.old fun k hk => (HQT4.out.fb.1 k hk).1⟩)
              have hq := qput (HQT4.out.below hba) (by have := HB4.out.size; simp; omega) HEL.out HED.out (fun b hb => by cases hb; simp) (fun x hx => by
                obtain rfl := List.mem_singleton.1 hx
                exact HI.out _ (mem_at HX.out)) (fun x hx => by
                obtain rfl := List.mem_singleton.1 hx
                show xs.length < 1000000
                have := HXS.out; omega) (by simp only [List.length_singleton]; omega) HM1.out
              have HQ5 := Lib.hid hq
              have HB5 := Lib.hid (show Below W.heap.size W (wA.alloc (.cells #[.int .i64 x0, .int .i64 x1, .int .i64 x2, .int .i64 x3, .slice va vn vc] 28)) from bt HB4.out hba)
              have HO5 := Lib.hid (HOW4.out.below hba)
              have HSZ4 := Lib.hid (show wA.heap.size < (wA.alloc (.cells #[.int .i64 x0, .int .i64 x1, .int .i64 x2, .int .i64 x3, .slice va vn vc] 28)).heap.size from by simp)
              have HT5 := Lib.hid (HQT4.out.below hba)
              clear heb hba hq
              go_wp2_with fail
              refine HQ5.out.mono ?_
              rintro e w6 ⟨rfl, hx6⟩
              have HB6 := Lib.hid (HB5.out.trans (hx6.bel HT5.out HB5.out.size))
              obtain ⟨F6, V6, h6, hF6, hV6, hc6, -, -⟩ := hx6
              have HI6 := Lib.hid (show KW W w6 qp M most frame l (t + 1) v2 F6 V6 from ⟨by
                rw [HT1.out, putM_snoc]; exact h6, by rw [HT2.out]; exact HO5.out.chg hc6 fun b hb => (HOD4.out b hb).1, fun b hb => by
                have hlt := (HOW4.out.lt b hb).2; have hs := HSZ4.out
                refine ⟨fun hf => ?_, fun hf => ?_⟩
                · rcases hF6 b hf with h' | h'
                  · exact (HOD4.out b hb).1 h'
                  · omega
                · rcases hV6 b hf with h' | h'
                  · exact (HOD4.out b hb).2 h'
                  · omega, HB6.out, fun x hx => by
                rw [take_at HX.out] at hx
                rcases List.mem_append.1 hx with h' | h'
                · exact HQ.out.sm x h'
                · obtain rfl := List.mem_singleton.1 h'
                  show xs.length ≤ 150
                  have := HXS.out; omega⟩)
              clear h6 hF6 hV6 hc6
              go_wp2
              go_roundw
              case rel => exact ⟨t + 1, F6, V6, by omega, by go_num, HI6⟩
              case measure => simp [intOf]; omega
            · have hfb : (x1 == frame) = false := by simpa using hfr
              rw [if_neg hfr] at ht2
              have HT2 := Lib.hid ht2
              have HOW4 := Lib.hid HQ.out.own
              have HOD4 := Lib.hid HQ.out.od
              clear ht2 hfr
              -- puts the event in: w4: the world; HOW4: what own is there
              have heb := EB.made w4 ⟨x0, x1, x2, x3, .slice va vn vc, xs⟩
              have hba := ba (Below.refl w4.heap.size w4) (.cells #[.int .i64 x0, .int .i64 x1, .int .i64 x2, .int .i64 x3, .slice va vn vc] 28)
              have HEL := Lib.hid (show EL (w4.alloc (.cells #[.int .i64 x0, .int .i64 x1, .int .i64 x2, .int .i64 x3, .slice va vn vc] 28)) (.slice (some ⟨w4.heap.size, 0, none⟩) 1 1) [⟨x0, x1, x2, x3, .slice va vn vc, xs⟩] from ⟨heb.rs, fun x hx => by
                obtain rfl := List.mem_singleton.1 hx
                exact (HVC.out.on (HB4.out)).on hba⟩)
              have HED := Lib.hid (show ED F1 (.slice (some ⟨w4.heap.size, 0, none⟩) 1 1) [⟨x0, x1, x2, x3, .slice va vn vc, xs⟩] from ⟨fun b hb hf => by
                cases hb
                have := (HQT4.out.fb.1 _ hf).2.1; simp at this, fun x hx => by
                obtain rfl := List.mem_singleton.1 hx
                exact HVC.out.old fun k hk => (HQT4.out.fb.1 k hk).1⟩)
              have hq := qput (HQT4.out.below hba) (by have := HB4.out.size; simp; omega) HEL.out HED.out (fun b hb => by cases hb; simp) (fun x hx => by
                obtain rfl := List.mem_singleton.1 hx
                exact HI.out _ (mem_at HX.out)) (fun x hx => by
                obtain rfl := List.mem_singleton.1 hx
                show xs.length < 1000000
                have := HXS.out; omega) (by simp only [List.length_singleton]; omega) HM1.out
              have HQ5 := Lib.hid hq
              have HB5 := Lib.hid (show Below W.heap.size W (w4.alloc (.cells #[.int .i64 x0, .int .i64 x1, .int .i64 x2, .int .i64 x3, .slice va vn vc] 28)) from bt HB4.out hba)
              have HO5 := Lib.hid (HOW4.out.below hba)
              have HSZ4 := Lib.hid (show w4.heap.size < (w4.alloc (.cells #[.int .i64 x0, .int .i64 x1, .int .i64 x2, .int .i64 x3, .slice va vn vc] 28)).heap.size from by simp)
              have HT5 := Lib.hid (HQT4.out.below hba)
              clear heb hba hq
              go_wp2_with fail
              refine HQ5.out.mono ?_
              rintro e w6 ⟨rfl, hx6⟩
              have HB6 := Lib.hid (HB5.out.trans (hx6.bel HT5.out HB5.out.size))
              obtain ⟨F6, V6, h6, hF6, hV6, hc6, -, -⟩ := hx6
              have HI6 := Lib.hid (show KW W w6 qp M most frame l (t + 1) u8 F6 V6 from ⟨by
                rw [HT1.out, putM_snoc]; exact h6, by rw [HT2.out]; exact HO5.out.chg hc6 fun b hb => (HOD4.out b hb).1, fun b hb => by
                have hlt := (HOW4.out.lt b hb).2; have hs := HSZ4.out
                refine ⟨fun hf => ?_, fun hf => ?_⟩
                · rcases hF6 b hf with h' | h'
                  · exact (HOD4.out b hb).1 h'
                  · omega
                · rcases hV6 b hf with h' | h'
                  · exact (HOD4.out b hb).2 h'
                  · omega, HB6.out, fun x hx => by
                rw [take_at HX.out] at hx
                rcases List.mem_append.1 hx with h' | h'
                · exact HQ.out.sm x h'
                · obtain rfl := List.mem_singleton.1 h'
                  show xs.length ≤ 150
                  have := HXS.out; omega⟩)
              clear h6 hF6 hV6 hc6
              go_wp2
              go_roundw
              case rel => exact ⟨t + 1, F6, V6, by omega, by go_num, HI6⟩
              case measure => simp [intOf]; omega
        · obtain rfl : n = t := by omega
          have E1 := Lib.hid (show l.take n = l by rw [HN.out, List.take_length])
          have hQT := HQ.out.qt; have hOW := HQ.out.own; have hSM := HQ.out.sm
          have hkm := keepM HM1.out frame (l.map Ev.pl) n (by rw [List.length_map, HN.out]; exact Nat.le_refl _)
          rw [← List.map_take] at hkm
          rw [hkm] at hQT
          clear hkm
          rw [E1.out] at hQT hOW hSM
          obtain ⟨oa, om, oc, hov, hol, -, -⟩ := hOW.form
          subst hov
          have hlo : om ≤ n := by
            have : (ownE frame l).length ≤ l.length := List.length_filter_le _ _
            have := HN.out; omega
          have HQT := Lib.hid hQT; have HOW := Lib.hid hOW; have HSM := Lib.hid hSM; have HOL := Lib.hid hol; have HOD := Lib.hid HQ.out.od; have HB4 := Lib.hid HQ.out.bel
          have HPL := Lib.hid (show (ownF frame (l.map Ev.pl)).length = om by rw [← ownE_pl, List.length_map, hol])
          have hwr : IntKind.i64.wrap ((om : Int) - most) = (om : Int) - most := IntWalk.i64_in _ (by have := HM1.out; have := HMO.out.2; omega)
          obtain ⟨d, hd⟩ : ∃ d : Nat, d = om - most.toNat := ⟨_, rfl⟩
          have hmax : max 0 ((om : Int) - most) = (d : Int) := by have := HM1.out; omega
          have hdo : d ≤ om := by omega
          have hwr2 : IntKind.i64.wrap ((om : Int) - (d : Int)) = (om : Int) - (d : Int) := IntWalk.i64_in _ (by omega)
          have hk1 : kept most frame (ownF frame (l.map Ev.pl)) = ⟨frame, (ownF frame (l.map Ev.pl)).drop d, (d : Int)⟩ := by
            unfold kept
            rw [HPL.out, ← hd, hmax]
          rw [hk1] at hQT
          have HQT := Lib.hid hQT
          have hLo := qlost hQT (k := frame) hf
          rw [fnd_one, if_pos rfl] at hLo
          have HLO := Lib.hid (show ∀ w5, Below w4.heap.size w4 w5 → Calls Try.prog 71 #[ptr qp, .int .i64 frame] w5 fun e w' => e = .returned (.int .i64 (d : Int)) ∧ Below w5.heap.size w5 w' from fun w5 hb5 => by
            have h := qlost (HQT.out.below hb5) (k := frame) hf
            rw [fnd_one, if_pos rfl] at h; exact h)
          have HLG := Lib.hid (show ∀ w5, Below w4.heap.size w4 w5 → Calls Try.prog 70 #[ptr qp, .int .i64 frame] w5 fun e w' => e = .returned (.int .i64 ((om : Int) - (d : Int))) ∧ Below w5.heap.size w5 w' from fun w5 hb5 => by
            have h := qlong (HQT.out.below hb5) (k := frame) hf
            rw [fnd_one, if_pos rfl] at h
            simp only [Option.map_some, Option.getD_some] at h
            rw [List.length_drop, HPL.out, show ((om - d : Nat) : Int) = (om : Int) - (d : Int) by omega] at h
            exact h)
          have HTK := Lib.hid (show ∀ w5, Below w4.heap.size w4 w5 → Calls Try.prog 74 #[ptr qp, .int .i64 frame, .int .i64 (om : Int)] w5 (TK w5 W.heap.size qp M most n [⟨frame, (ownF frame (l.map Ev.pl)).drop d, (d : Int)⟩] (takeM [⟨frame, (ownF frame (l.map Ev.pl)).drop d, (d : Int)⟩] frame om) ((ownF frame (l.map Ev.pl)).drop d) F1 V1) from fun w5 hb5 => by
            have h := qtake (HQT.out.below hb5) (by have := HB4.out.size; have := hb5.size; omega) (k := frame) (n := (om : Int)) hf (by omega)
            rw [show gotM [⟨frame, (ownF frame (l.map Ev.pl)).drop d, (d : Int)⟩] frame (om : Int) = (ownF frame (l.map Ev.pl)).drop d from by
              unfold gotM
              rw [fnd_one, if_pos rfl]
              show List.take ((om : Int).toNat) _ = _
              rw [Int.toNat_natCast, List.take_of_length_le]
              rw [List.length_drop, HPL.out]; omega] at h
            exact h)
          have HL0 := Lib.hid (show (((fndP (takeM [⟨frame, (ownF frame (l.map Ev.pl)).drop d, (d : Int)⟩] frame (om : Int)) frame).map fun x => x.evs.length).getD 0) = 0 from by
            unfold takeM
            rw [fnd_one, if_pos rfl]
            simp only
            by_cases h0 : (om : Int) < 1
            · rw [if_pos h0, fnd_one, if_pos rfl]
              show ((ownF frame (l.map Ev.pl)).drop d).length = 0
              rw [List.length_drop, HPL.out]; omega
            · rw [if_neg h0, put_one ⟨frame, (ownF frame (l.map Ev.pl)).drop d, (d : Int)⟩ ⟨frame, ((ownF frame (l.map Ev.pl)).drop d).drop ((om : Int).toNat), (d : Int)⟩ rfl, fnd_one, if_pos rfl]
              show (((ownF frame (l.map Ev.pl)).drop d).drop ((om : Int).toNat)).length = 0
              rw [List.length_drop, List.length_drop, HPL.out, Int.toNat_natCast]; omega)
          obtain ⟨v3, hsl, ho3, hob3⟩ := HOW.out.from_ (P := Try.prog) (T := 24) (e := 28) (i := d) (fun _ => rfl) (by rw [← HOL.out]; exact hdo) Try.underlying24 infoEvI.choose_spec.1 infoEvI.choose_spec.2
          have HO3 := Lib.hid ho3; have HOB3 := Lib.hid hob3
          have HFB := Lib.hid hQT.fb
          have HVW := Lib.hid (show ∀ x ∈ ownE frame l, Vc W x.vv x.ps from fun x hx => HA.out.vec x (List.mem_filter.1 hx).1)
          clear hQT hOW hSM hol HQ hd ho3 hob3 hLo hk1
          go_wp2_with fail
          refine Mix.regionC F1 (by kernel_rfl) ?_
          intro w5 hb5
          refine Mix.take_exC _ _ 0 rfl (by kernel_rfl) (by kernel_rfl) (by kernel_rfl) (by kernel_rfl) (fun K hK => ?_)
          go_simp
          first | (refine hK _ ?_; clear hK K) | (apply Exists.intro; refine ⟨fun x => ?_, hK _ ?_⟩; (fail); clear hK K)
          refine Mix.take_exC _ _ 1 rfl (by kernel_rfl) (by kernel_rfl) (by kernel_rfl) (by kernel_rfl) (fun K hK => ?_)
          go_simp
          first | (refine hK _ ?_; clear hK K) | (apply Exists.intro; refine ⟨fun x => ?_, hK _ ?_⟩; (fail); clear hK K)
          refine Mix.take_exC _ _ 3 rfl (by kernel_rfl) (by kernel_rfl) (by kernel_rfl) (by kernel_rfl) (fun K hK => ?_)
          go_simp
          first | (refine hK _ ?_; clear hK K) | (apply Exists.intro; refine ⟨fun x => ?_, hK _ ?_⟩; (fail); clear hK K)
          refine Mix.all (rs := [2]) (by kernel_rfl) (by simp) (.of_below _ hb5) ?_
          intro i6 hi6 w6 hb6 hC6
          simp only [List.mem_cons, List.not_mem_nil, or_false] at hi6
          subst hi6
          clear hC6
          have HB6 := Lib.hid (bt hb5 hb6)
          clear hb5 hb6
          refine Mix.op rfl (by kernel_rfl) ?_
          go_simp
          refine (HLO.out w6 HB6.out).mono ?_
          rintro e w7 ⟨rfl, hb7⟩
          refine ⟨_, rfl, ?_⟩
          have HB7 := Lib.hid (bt HB6.out hb7)
          clear hb7
          refine Mix.take_exC _ _ 4 rfl (by kernel_rfl) (by kernel_rfl) (by kernel_rfl) (by kernel_rfl) (fun K hK => ?_)
          go_simp
          first | (refine hK _ ?_; clear hK K) | (apply Exists.intro; refine ⟨fun x => ?_, hK _ ?_⟩; (fail); clear hK K)
          refine Mix.take_exC _ _ 5 rfl (by kernel_rfl) (by kernel_rfl) (by kernel_rfl) (by kernel_rfl) (fun K hK => ?_)
          go_simp
          first | (refine hK _ ?_; clear hK K) | (apply Exists.intro; refine ⟨fun x => ?_, hK _ ?_⟩; (fail); clear hK K)
          refine Mix.take_exC _ _ 6 rfl (by kernel_rfl) (by kernel_rfl) (by kernel_rfl) (by kernel_rfl) (fun K hK => ?_)
          go_simp
          first | (refine hK _ ?_; clear hK K) | (apply Exists.intro; refine ⟨fun x => ?_, hK _ ?_⟩; (fail); clear hK K)
          refine Mix.take_exC _ _ 7 rfl (by kernel_rfl) (by kernel_rfl) (by kernel_rfl) (by kernel_rfl) (fun K hK => ?_)
          go_simp
          first | (refine hK _ ?_; clear hK K) | (apply Exists.intro; refine ⟨fun x => ?_, hK _ ?_⟩; (fail); clear hK K)
          refine Mix.take_exC _ _ 9 rfl (by kernel_rfl) (by kernel_rfl) (by kernel_rfl) (by kernel_rfl) (fun K hK => ?_)
          go_simp
          first | (refine hK _ ?_; clear hK K) | (apply Exists.intro; refine ⟨fun x => ?_, hK _ ?_⟩; (fail); clear hK K)
          refine Mix.take_exC _ _ 10 rfl (by kernel_rfl) (by kernel_rfl) (by kernel_rfl) (by kernel_rfl) (fun K hK => ?_)
          go_simp
          first | (refine hK _ ?_; clear hK K) | (apply Exists.intro; refine ⟨fun x => ?_, hK _ ?_⟩; (fail); clear hK K)
          refine Mix.take_exC _ _ 11 rfl (by kernel_rfl) (by kernel_rfl) (by kernel_rfl) (by kernel_rfl) (fun K hK => ?_)
          go_simp
          first | (refine hK _ ?_; clear hK K) | (apply Exists.intro; refine ⟨fun x => ?_, hK _ ?_⟩; (fail); clear hK K)
          refine Mix.take_exC _ _ 12 rfl (by kernel_rfl) (by kernel_rfl) (by kernel_rfl) (by kernel_rfl) (fun K hK => ?_)
          go_simp
          first | (refine hK _ ?_; clear hK K) | (apply Exists.intro; refine ⟨fun x => ?_, hK _ ?_⟩; (fail); clear hK K)
          refine Mix.all (rs := [8]) (by kernel_rfl) (by simp) (.of_below _ HB7.out) ?_
          intro i8 hi8 w8 hb8 hC8
          simp only [List.mem_cons, List.not_mem_nil, or_false] at hi8
          subst hi8
          clear hC8
          have HB8 := Lib.hid (bt HB7.out hb8)
          clear hb8
          refine Mix.op rfl (by kernel_rfl) ?_
          go_simp
          refine (HLG.out w8 HB8.out).mono ?_
          rintro e w9 ⟨rfl, hb9⟩
          refine ⟨_, rfl, ?_⟩
          have HB9 := Lib.hid (bt HB8.out hb9)
          clear hb9
          refine Mix.take_exC _ _ 13 rfl (by kernel_rfl) (by kernel_rfl) (by kernel_rfl) (by kernel_rfl) (fun K hK => ?_)
          go_simp
          first | (refine hK _ ?_; clear hK K) | (apply Exists.intro; refine ⟨fun x => ?_, hK _ ?_⟩; (fail); clear hK K)
          refine Mix.take_exC _ _ 14 rfl (by kernel_rfl) (by kernel_rfl) (by kernel_rfl) (by kernel_rfl) (fun K hK => ?_)
          go_simp
          first | (refine hK _ ?_; clear hK K) | (apply Exists.intro; refine ⟨fun x => ?_, hK _ ?_⟩; (fail); clear hK K)
          refine Mix.take_exC _ _ 15 rfl (by kernel_rfl) (by kernel_rfl) (by kernel_rfl) (by kernel_rfl) (fun K hK => ?_)
          go_simp
          first | (refine hK _ ?_; clear hK K) | (apply Exists.intro; refine ⟨fun x => ?_, hK _ ?_⟩; (fail); clear hK K)
          refine Mix.take_exC _ _ 16 rfl (by kernel_rfl) (by kernel_rfl) (by kernel_rfl) (by kernel_rfl) (fun K hK => ?_)
          go_simp
          first | (refine hK _ ?_; clear hK K) | (apply Exists.intro; refine ⟨fun x => ?_, hK _ ?_⟩; (fail); clear hK K)
          refine Mix.take_exC _ _ 17 rfl (by kernel_rfl) (by kernel_rfl) (by kernel_rfl) (by kernel_rfl) (fun K hK => ?_)
          go_simp
          first | (refine hK _ ?_; clear hK K) | (apply Exists.intro; refine ⟨fun x => ?_, hK _ ?_⟩; (fail); clear hK K)
          refine Mix.take_exC _ _ 18 rfl (by kernel_rfl) (by kernel_rfl) (by kernel_rfl) (by kernel_rfl) (fun K hK => ?_)
          go_simp
          first | (refine hK _ ?_; clear hK K) | (apply Exists.intro; refine ⟨fun x => ?_, hK _ ?_⟩; (fail); clear hK K)
          refine Mix.take_exC _ _ 19 rfl (by kernel_rfl) (by kernel_rfl) (by kernel_rfl) (by kernel_rfl) (fun K hK => ?_)
          go_simp
          first | (refine hK _ ?_; clear hK K) | (apply Exists.intro; refine ⟨fun x => ?_, hK _ ?_⟩; (fail); clear hK K)
          refine Mix.take_exC _ _ 21 rfl (by kernel_rfl) (by kernel_rfl) (by kernel_rfl) (by kernel_rfl) (fun K hK => ?_)
          go_simp
          first | (refine hK _ ?_; clear hK K) | (apply Exists.intro; refine ⟨fun x => ?_, hK _ ?_⟩; (fail); clear hK K)
          refine Mix.take_exC _ _ 22 rfl (by kernel_rfl) (by kernel_rfl) (by kernel_rfl) (by kernel_rfl) (fun K hK => ?_)
          go_simp
          first | (refine hK _ ?_; clear hK K) | (apply Exists.intro; refine ⟨fun x => ?_, hK _ ?_⟩; (fail); clear hK K)
          refine Mix.take_exC _ _ 23 rfl (by kernel_rfl) (by kernel_rfl) (by kernel_rfl) (by kernel_rfl) (fun K hK => ?_)
          go_simp
          first | (refine hK _ ?_; clear hK K) | (apply Exists.intro; refine ⟨fun x => ?_, hK _ ?_⟩; (fail); clear hK K)
          refine Mix.all (rs := [20]) (by kernel_rfl) (by simp) (.of_below _ HB9.out) ?_
          intro i10 hi10 w10 hb10 hC10
          simp only [List.mem_cons, List.not_mem_nil, or_false] at hi10
          subst hi10
          clear hC10
          have HB10 := Lib.hid (bt HB9.out hb10)
          clear hb10
          refine Mix.op rfl (by kernel_rfl) ?_
          go_simp
          refine (HTK.out w10 HB10.out).mono ?_
          rintro e w11 ⟨u, lu, rfl, hu, hlu, hub, hlv, hx11⟩
          refine ⟨_, rfl, ?_⟩
          obtain ⟨F', V', hQ', hF', hV', hcg, -, -⟩ := hx11
          have HC11 := Lib.hid ((Chg.of_below F1 HB10.out).same hcg)
          have HB11 := Lib.hid (show Below W.heap.size W w11 from HB4.out.trans (HC11.out.below HB4.out.size fun k hk => (HFB.out.1 k hk).1))
          have HQ11 := Lib.hid hQ'
          have HEV := Lib.hid (show EL w11 v3 ((ownE frame l).drop d) from ⟨(HO3.out.chg HC11.out fun b hb => by rw [HOB3.out] at hb; exact (HOD.out b hb).1).rs fun _ => rfl, fun x hx => (HVW.out x (List.mem_of_mem_drop hx)).on HB11.out⟩)
          have HBS := Lib.hid (show ∀ x ∈ lu, x.ps.length < 1000000000 from fun x hx => by
            have h1 : x.pl ∈ lu.map Ev.pl := List.mem_map.2 ⟨x, hx, rfl⟩
            rw [hlu, ← ownE_pl] at h1
            obtain ⟨y, hy, he⟩ := List.mem_map.1 (List.mem_of_mem_drop h1)
            have h2 := HSM.out y (List.mem_filter.1 hy).1
            rw [← (pl_same.1 he).2.2.2.2]; omega)
          have HEQ := Lib.hid (show lu.map Ev.pl = ((ownE frame l).drop d).map Ev.pl from by rw [hlu, List.map_drop, ownE_pl])
          have HEU := Lib.hid hu
          clear hu hlu hub hlv hQ' hF' hV' hcg
          refine Mix.all (rs := [24]) (by kernel_rfl) (by simp) (HC11.out) ?_
          intro i12 hi12 w12 hb12 hC12
          simp only [List.mem_cons, List.not_mem_nil, or_false] at hi12
          subst hi12
          clear hC12
          have HB12 := Lib.hid hb12
          clear hb12
          refine Mix.op rfl (by kernel_rfl) ?_
          go_simp
          refine (sev_yes u v3 lu ((ownE frame l).drop d) HBS.out HEQ.out w12 (HEU.out.below HB12.out) (HEV.out.below HB12.out)).mono ?_
          rintro e w13 ⟨rfl, hb13⟩
          refine ⟨_, rfl, ?_⟩
          have HB13 := Lib.hid (bt HB12.out hb13)
          clear hb13
          refine Mix.take_exC _ _ 25 rfl (by kernel_rfl) (by kernel_rfl) (by kernel_rfl) (by kernel_rfl) (fun K hK => ?_)
          go_simp
          first | (refine hK _ ?_; clear hK K) | (apply Exists.intro; refine ⟨fun x => ?_, hK _ ?_⟩; (fail); clear hK K)
          refine Mix.take_exC _ _ 26 rfl (by kernel_rfl) (by kernel_rfl) (by kernel_rfl) (by kernel_rfl) (fun K hK => ?_)
          go_simp
          first | (refine hK _ ?_; clear hK K) | (apply Exists.intro; refine ⟨fun x => ?_, hK _ ?_⟩; (fail); clear hK K)
          refine Mix.take_exC _ _ 27 rfl (by kernel_rfl) (by kernel_rfl) (by kernel_rfl) (by kernel_rfl) (fun K hK => ?_)
          go_simp
          first | (refine hK _ ?_; clear hK K) | (apply Exists.intro; refine ⟨fun x => ?_, hK _ ?_⟩; (fail); clear hK K)
          refine Mix.take_exC _ _ 28 rfl (by kernel_rfl) (by kernel_rfl) (by kernel_rfl) (by kernel_rfl) (fun K hK => ?_)
          go_simp
          first | (refine hK _ ?_; clear hK K) | (apply Exists.intro; refine ⟨fun x => ?_, hK _ ?_⟩; (fail); clear hK K)
          refine Mix.take_exC _ _ 29 rfl (by kernel_rfl) (by kernel_rfl) (by kernel_rfl) (by kernel_rfl) (fun K hK => ?_)
          go_simp
          first | (refine hK _ ?_; clear hK K) | (apply Exists.intro; refine ⟨fun x => ?_, hK _ ?_⟩; (fail); clear hK K)
          refine Mix.all (rs := [30]) (by kernel_rfl) (by simp) (HC11.out.then_below HB13.out) ?_
          intro i14 hi14 w14 hb14 hC14
          simp only [List.mem_cons, List.not_mem_nil, or_false] at hi14
          subst hi14
          clear hC14
          have HB14 := Lib.hid (bt HB13.out hb14)
          clear hb14
          refine Mix.op rfl (by kernel_rfl) ?_
          go_simp
          have hL9 := qlong (HQ11.out.below HB14.out) (k := frame) hf
          rw [HL0.out] at hL9
          refine hL9.mono ?_
          rintro e w15 ⟨rfl, hb15⟩
          refine ⟨_, rfl, ?_⟩
          have HB15 := Lib.hid (bt HB14.out hb15)
          clear hb15 hL9
          refine Mix.take_exC _ _ 31 rfl (by kernel_rfl) (by kernel_rfl) (by kernel_rfl) (by kernel_rfl) (fun K hK => ?_)
          go_simp
          first | (refine hK _ ?_; clear hK K) | (apply Exists.intro; refine ⟨fun x => ?_, hK _ ?_⟩; (fail); clear hK K)
          refine Mix.take_exC _ _ 32 rfl (by kernel_rfl) (by kernel_rfl) (by kernel_rfl) (by kernel_rfl) (fun K hK => ?_)
          go_simp
          first | (refine hK _ ?_; clear hK K) | (apply Exists.intro; refine ⟨fun x => ?_, hK _ ?_⟩; (fail); clear hK K)
          refine Mix.done (by kernel_rfl) (HC11.out.then_below HB15.out) ?_
          intro w16 hb16
          have HB16 := Lib.hid (show Below W.heap.size W w16 from bt HB11.out (bt HB15.out hb16))
          clear hb16
          have HPL0 := Lib.hid (show PL (w16.alloc (.cells #[.int .i64 0, .map none] 137)) w16.heap.size from heap_alloc_new w16 _)
          have HB17 := Lib.hid (ba (Below.refl w16.heap.size w16) (.cells #[.int .i64 0, .map none] 137))
          go_wp2_with fail
          refine (qopen_nil 1 _).mono ?_
          rintro e w18 ⟨rfl, hb18⟩
          have HP18 := Lib.hid (HPL0.out.below hb18)
          have HB18 := Lib.hid (bt HB16.out (bt HB17.out hb18))
          clear hb18
          go_wp2_with fail
          refine (qopen_plain HP18.out 1).mono ?_
          rintro e w19 ⟨rfl, hb19⟩
          have HP19 := Lib.hid (HP18.out.below hb19)
          have HB19 := Lib.hid (bt HB18.out hb19)
          clear hb19
          go_wp2_with fail
          refine (qput_nil (HA.out.below HB19.out) (by have := HN.out; omega)).mono ?_
          rintro e w20 ⟨rfl, hb20⟩
          have HP20 := Lib.hid (HP19.out.below hb20)
          have HB20 := Lib.hid (bt HB19.out hb20)
          clear hb20
          go_wp2_with fail
          refine (qtake_plain HP20.out (k := 1) (n := 1) ⟨by decide, by decide⟩).mono ?_
          rintro e w21 ⟨rfl, hb21⟩
          have HB21 := Lib.hid (bt HB20.out hb21)
          clear hb21
          go_wp2_with fail
          refine (qthose_nil _).mono ?_
          rintro e w22 ⟨rfl, hb22⟩
          have HB22 := Lib.hid (bt HB21.out hb22)
          clear hb22
          go_wp2_with fail
          refine (works28 _).mono ?_
          rintro e w23 ⟨rfl, hb23⟩
          have HB23 := Lib.hid (bt HB22.out hb23)
          clear hb23
          go_wp2
          go_ret
          exact ⟨rfl, HB23.out⟩
namespace QueueKeeps
open Go.ChangeShapes Go.WideShapes Go.ChangeAt Go.RowKit Go.Joins
theorem own : ownKnob Try.prog.godebug = none := by kernel_rfl
theorem laidOut : laidOutB Try.prog = true := by kernel_rfl
set_option maxRecDepth 100000 in
theorem lifted (os : Os) (started : os.Started) (H : Type) (enc : TypeId × Value → H) :
    ReturnsInHanded {} Try.checked os 13 .any (Rows.queueKeepsSpec.pre6 enc Try.prog Try.f13 Rows.queueKeepsRow.domain false) (Rows.queueKeepsSpec.post enc Try.prog Try.f13 false true false false) := by
  refine returnsInHanded_of_change (C := Try.checked) own started (by kernel_rfl) Try.func13
    (ChangeSpec.witness6 (enc := enc) (C := Try.checked) false ⟨#[], #[.int .i64 0, .slice none 0 0, .int .i64 0], []⟩ 8 (by kernel_rfl) (by kernel_rfl) (by kernel_rfl) (by kernel_rfl)) ?_
  intro W base args ds gs before hval0 hW hcnd _
  have hval : ∀ (j : Nat) t v, Try.f13.params[j]? = some t → args[j]? = some v → Value.okWide Try.prog W .any base t v := hval0
  have hW' := hW
  obtain ⟨p, q, hA0, hV, rfl, hfz, hnd⟩ := hW
  have hA : DataW.TrodAll enc Try.prog W 0 (fun _ => true) true Try.f13.params.toList args.toList ds p := hA0
  rw [Try.params13] at hA hval
  obtain ⟨v0, vs0, d0, ds0, p0, q0, hargs, rfl, rfl, h0, r0⟩ := trodAll_cons hA
  obtain ⟨v1, vs1, d1, ds1, p1, q1, rfl, rfl, rfl, h1, r1⟩ := trodAll_cons r0
  obtain ⟨v2, vs2, d2, ds2, p2, q2, rfl, rfl, rfl, h2, r2⟩ := trodAll_cons r1
  obtain ⟨rfl, rfl, rfl⟩ := trodAll_nil r2
  obtain rfl : args = #[v0, v1, v2] := by cases args; simp_all
  obtain ⟨rfl, rfl⟩ := trodVars_none hV
  have k0 := h0
  have lt0 : ∀ x ∈ p0, x.block < W.heap.size := by obtain ⟨m, hm⟩ := k0; exact DataW.trod_lt m _ _ _ hm
  have k1 := h1
  have lt1 : ∀ x ∈ p1, x.block < W.heap.size := by obtain ⟨m, hm⟩ := k1; exact DataW.trod_lt m _ _ _ hm
  have k2 := h2
  have lt2 : ∀ x ∈ p2, x.block < W.heap.size := by obtain ⟨m, hm⟩ := k2; exact DataW.trod_lt m _ _ _ hm
  obtain ⟨most, vEq0, _, _, wf_most⟩ := open_int Try.underlying3 (hval 0 3 v0 rfl rfl) k0
  subst vEq0
  obtain ⟨la, oA, iA, hA3⟩ := open_evs (hval 1 24 v1 rfl rfl) k1
  obtain ⟨frame, vEq2, _, _, wf_frame⟩ := open_int Try.underlying2 (hval 2 2 v2 rfl rfl) k2
  subst vEq2
  clear hA0 hval0
  refine (keeps28 most v1 la frame W oA (fun x hx => (iA x hx).1) hA3 (i64_wf' wf_most) (i64_wf' wf_frame)).mono fun e W' ⟨he, bel⟩ => ?_
  subst he
  exact ⟨_, rfl, _, _, _, [], _, [], hW', trodAll_mk1 (shut_bool Try.underlying4 _), (trodAll_cons_mk (Below.trod laidOut (by kernel_rfl) (of_decide_eq_true (by kernel_rfl)) k0 bel lt0) (trodAll_cons_mk (Below.trod laidOut (by kernel_rfl) (of_decide_eq_true (by kernel_rfl)) k1 bel lt1) (trodAll_cons_mk (Below.trod laidOut (by kernel_rfl) (of_decide_eq_true (by kernel_rfl)) k2 bel lt2) trodAll_mk0))), rfl, bel.frame _, fun h => by cases h⟩
theorem over : Rows.queueKeepsRow.holds Try.pinned (OpenSpec.ofChange Rows.queueKeepsSpec) :=
  OpenClaim.holds_of_wide 13 Try.f13 rfl rfl rfl rfl rfl rfl rfl ⟨rfl, rfl, rfl, rfl, rfl⟩ rfl rfl rfl rfl rfl (by kernel_rfl) Try.func13 (by kernel_rfl)
    (of_decide_eq_true (by kernel_rfl)) (by unfold Func.isWrapper; first | (rw [if_pos (by decide +kernel)]; kernel_rfl) | (rw [if_neg (by decide +kernel)]; exact ⟨rfl, rfl⟩))
    (fun os started H enc _ => lifted os started H enc)
theorem proved : Rows.QueueKeepsSaid := over
end QueueKeeps
end Go.Proofs.Ytnckjacbkhoppaa

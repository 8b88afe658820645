/- For any acts, any number and any role the statement FramesBack returns true. Condition: none. -/
import Derived.Test.YtajcelmnblncaaaFrP
namespace Go.Proofs.Ytajcelmnblncaaa
open Go.RowKit Go.Maps
attribute [local go_sem] ext_cell ext_frozen extC_cell extC_frozen Mix.calmUpon Mix.mUpon eqFr
/-- What sending away leaves of one that is there. -/
theorem gone_some {S : List Fr} {id : Int} {y : Fr} (hf : fndF S id = some y) : ∃ (S1 : List Fr) (z : Fr) (c : Int), fdis S ⟨0, id, 0, 0, 5⟩ = (S1, c) ∧ fndF S1 id = some z ∧ z.role = y.role ∧ z.weight = y.weight ∧ z.quiet = y.quiet ∧ z.up = false ∧
    (c = 0 ∧ y.up = true ∧ z.til = 5 + y.time ∨ c = 23 ∧ y.up = false) := by
  cases hup : y.up with
  | false => exact ⟨S, y, 23, by unfold fdis; rw [hf]; exact if_pos hup, hf, rfl, rfl, rfl, hup, .inr ⟨rfl, rfl⟩⟩
  | true =>
    refine ⟨putF S { y with up := false, til := 5 + y.time }, { y with up := false, til := 5 + y.time }, 0, by unfold fdis; rw [hf]; exact (if_neg (by rw [hup]; simp)).trans (if_neg (show ¬ ((5 : Int) < 0 ∨ 9007199254740992 < (5 : Int)) by omega)), ?_, rfl, rfl, rfl, rfl, .inl ⟨rfl, rfl, rfl⟩⟩
    show Srt.fnd Fr.id (Srt.put Fr.id ltF S _) id = _
    rw [Srt.fnd_put]; exact if_pos (Srt.fnd_mem hf).2
/-- What coming back does. -/
theorem back_same {S : List Fr} {id : Int} {z : Fr} (hf : fndF S id = some z) (hz : FOk z) (kind t : Int) (ht : 0 ≤ t ∧ t ≤ 9007199254740992) : fsub 40 S ⟨kind, id, z.role, z.weight, t⟩ = (putF S (fresh ⟨kind, id, z.role, z.weight, t⟩ z.quiet), false, 0) := by
  have hi := (Srt.fnd_mem hf).2
  unfold fsub
  rw [if_neg (by unfold subBad; simp only; have := hz.id0; have := hz.r0; have := hz.r1; have := hz.w0; have := hz.w1; omega)]
  simp only
  rw [hf]
  exact (if_neg (fun e => e rfl)).trans (if_neg (fun e => e rfl))
theorem back_other {S : List Fr} {id role : Int} {z : Fr} (hf : fndF S id = some z) (hr : z.role ≠ role) (kind wt t : Int) : ∃ c, fsub 40 S ⟨kind, id, role, wt, t⟩ = (S, false, c) ∧ c ≠ 0 := by
  by_cases hb : subBad ⟨kind, id, role, wt, t⟩
  · exact ⟨41, sub_bad hb, by decide⟩
  · refine ⟨21, ?_, by decide⟩
    unfold fsub
    rw [if_neg hb]
    simp only
    rw [hf]
    exact if_pos hr
set_option maxRecDepth 100000 in
set_option maxHeartbeats 4000000 in
theorem back23 (v0 : Value) (acts : List FAct) (id role : Int) (W : World) (hA : FAV W v0 acts) (hok : ∀ x ∈ acts, J64 x.id) (hid : J64 id) : Calls Try.prog 13 #[v0, .int .i64 id, .int .i64 role] W fun e W' => e = .returned (.bool true) ∧ Below W.heap.size W W' := by
  obtain ⟨a, n, cap, rfl, hn, hc, hm, hat⟩ := hA.at_
  by_cases hbig : 100 < n
  · have hbI : (100 : Int) < (n : Int) := by omega
    clear hat hA hok hn
    go_enter Try.func13, Try.ntmps13
    go_wp2
    go_ret
    exact ⟨rfl, Below.refl _ _⟩
  · have hbI : (n : Int) ≤ 100 := by omega
    have hnb : n ≤ 100 := by omega
    have HAT := Lib.hid hat; have HOK := Lib.hid hok; have HN := Lib.hid hn
    clear hat hA hok hn hbig hm
    go_enter Try.func13, Try.ntmps13
    go_wp2_with fail
    refine (fnew_any W (cap := 40) (by decide)).mono ?_
    rintro e w1 ⟨rfl, h1, hb1⟩
    have HI := Lib.hid (show FW W w1 (W.heap.size + 1) W.heap.size 40 [] 0 from ⟨h1, hb1, Nat.le_refl _⟩)
    clear h1 hb1
    obtain ⟨tp, htp⟩ : ∃ tp, tp = W.heap.size + 1 := ⟨_, rfl⟩
    obtain ⟨M, hM⟩ : ∃ M, M = W.heap.size := ⟨_, rfl⟩
    have HT := Lib.hid (show W.heap.size ≤ tp ∧ W.heap.size ≤ M from by omega)
    rw [← htp, ← hM] at HI
    rw [← htp]
    clear htp hM
    go_wp2
    go_loopw [8] (fun iv wr => ∃ (t : Nat) (S : List Fr), t ≤ n ∧ iv = .int .i64 t ∧ Hid (FW W wr tp M 40 S t)) (fun iv _ => n - (intOf iv).toNat)
    case atStart => exact ⟨0, [], Nat.zero_le _, rfl, HI⟩
    case round =>
      clear HI
      obtain ⟨t, S, ht, rfl, HQ⟩ := hrel
      obtain ⟨w2, rfl⟩ : ∃ w2, w2 = wr := ⟨_, rfl⟩
      by_cases hlt : t < n
      · have hts : (t : Int) < (n : Int) := by omega
        obtain ⟨x, hx⟩ := at_lt (l := acts) (i := t) (by rw [← HN.out]; exact hlt)
        obtain ⟨b, off, rfl, hb, hcell⟩ := HAT.out t x hx
        have hxo := HOK.out x (mem_at hx)
        obtain ⟨x0, x1, x2, x3, x4⟩ := x
        have e0 := (HQ.out.bel.cell (p := ⟨b, off + t * 5 + 0, none⟩) hb).trans (hcell 0 _ rfl)
        have e1 := (HQ.out.bel.cell (p := ⟨b, off + t * 5 + 1, none⟩) hb).trans (hcell 1 _ rfl)
        have e2 := (HQ.out.bel.cell (p := ⟨b, off + t * 5 + 2, none⟩) hb).trans (hcell 2 _ rfl)
        have e3 := (HQ.out.bel.cell (p := ⟨b, off + t * 5 + 3, none⟩) hb).trans (hcell 3 _ rfl)
        have e4 := (HQ.out.bel.cell (p := ⟨b, off + t * 5 + 4, none⟩) hb).trans (hcell 4 _ rfl)
        simp only [Nat.add_zero] at e0
        have HXO := Lib.hid hxo
        have hlen := HQ.out.len
        clear hcell hx hxo
        go_wp2_with fail
        refine (fdo HQ.out.ts (by omega) ⟨x0, x1, x2, x3, x4⟩ HXO.out).mono ?_
        intro e w3 hP
        have HI3 := Lib.hid (HQ.out.step HT.out.1 HT.out.2 hP (by have := fstep_len 40 S ⟨x0, x1, x2, x3, x4⟩; omega))
        obtain ⟨rfl, _, _⟩ := hP
        clear e0 e1 e2 e3 e4
        go_wp2
        go_roundw
        case rel => exact ⟨t + 1, _, by omega, by go_num, HI3⟩
        case measure => simp [intOf]; omega
      · obtain rfl : n = t := by omega
        go_wp2_with fail
        refine (fget (k := id) HQ.out.ts hid).mono ?_
        rintro e w3 ⟨rfl, hb3⟩
        cases hf : fndF S id with
        | none =>
          rw [show getA S id = .tuple #[fval fzero, .bool false] by unfold getA; rw [hf]]
          have H3 := Lib.hid (HQ.out.on hb3)
          clear hb3
          have E1 := Lib.hid (show fdis S ⟨0, id, 0, 0, 0⟩ = (S, 43) by unfold fdis; rw [hf])
          have HB0 := Lib.hid (show Below w3.heap.size w3 (w3.alloc (.cells #[.int .i64 0, .int .i64 0, .int .i64 0, .bool false, .bool false, .int .i64 0, .int .i64 0] 114)) from ba (Below.refl _ _) _)
          go_wp2_with fail
          refine (fdisc (k := id) (now := 0) (H3.out.on HB0.out).ts hid 0 0 0).mono ?_
          intro e w4 hP
          rw [E1.out] at hP
          have H4 := Lib.hid ((H3.out.on HB0.out).step HT.out.1 HT.out.2 hP (by have := H3.out.len; show S.length ≤ _; omega))
          obtain ⟨rfl, _, _⟩ := hP
          go_wp2_with fail
          refine (works23 _).mono ?_
          rintro e w5 ⟨rfl, hb5⟩
          go_wp2
          go_ret
          exact ⟨rfl, (H4.out.on hb5).bel⟩
        | some y =>
          rw [show getA S id = .tuple #[fval y, .bool true] by unfold getA; rw [hf]]
          have H3 := Lib.hid (HQ.out.on hb3)
          clear hb3
          obtain ⟨S1, z, c, hd, hf1, hzr, hzw, hzq, hzu, hzc⟩ := gone_some hf
          have E1 := Lib.hid hd
          have hyo := H3.out.ts.ok y (Srt.fnd_mem hf).1
          have hwr : IntKind.i64.wrap (5 + y.time) = 5 + y.time := IntWalk.i64_in _ (by have := hyo.t0; have := hyo.t1; omega)
          have HB0 := Lib.hid (show Below w3.heap.size w3 (w3.alloc (.cells #[.int .i64 y.id, .int .i64 y.role, .int .i64 y.weight, .bool y.up, .bool y.quiet, .int .i64 y.time, .int .i64 y.til] 114)) from ba (Below.refl _ _) _)
          have hl1 : S1.length ≤ n + 1 := by have := fdis_len S ⟨0, id, 0, 0, 5⟩; rw [hd] at this; have := H3.out.len; simp only at *; omega
          clear hd hyo
          go_wp2_with fail
          refine (fdisc (k := id) (now := 5) (H3.out.on HB0.out).ts hid 0 0 0).mono ?_
          intro e w4 hP
          rw [E1.out] at hP
          have H4 := Lib.hid ((H3.out.on HB0.out).step HT.out.1 HT.out.2 hP (by omega))
          have HX4 := Lib.hid ((FB.made w3 y).chg hP.2.2 (fun e => by have := H3.out.ts.lt; rcases e with e | e <;> omega))
          have hs4 : w3.heap.size < w4.heap.size := by have := hP.2.2.size; simp at this; omega
          obtain ⟨rfl, _, _⟩ := hP
          go_wp2_with fail
          refine (fget (k := id) H4.out.ts hid).mono ?_
          rintro e w5 ⟨rfl, hb5⟩
          rw [show getA S1 id = .tuple #[fval z, .bool true] by unfold getA; rw [hf1]]
          have H5 := Lib.hid (H4.out.on hb5)
          have HX5 := Lib.hid (HX4.out.below hb5)
          have hs5 : w3.heap.size < w5.heap.size := by have := hb5.size; omega
          clear hb5 hs4
          obtain ⟨x0, x1, x2, x3, x4, x5, x6⟩ := HX5.out.cells
          have HZO := Lib.hid (H5.out.ts.ok z (Srt.fnd_mem hf1).1)
          have HF1 := Lib.hid hf1
          have HZR := Lib.hid hzr; have HZW := Lib.hid hzw; have HZQ := Lib.hid hzq
          have HB5 := Lib.hid (show Below w5.heap.size w5 (w5.alloc (.cells #[.int .i64 z.id, .int .i64 z.role, .int .i64 z.weight, .bool z.up, .bool z.quiet, .int .i64 z.time, .int .i64 z.til] 114)) from ba (Below.refl _ _) _)
          have HP6 := Lib.hid (fun kind role wt t => fsubs (H5.out.on HB5.out).ts (by omega) kind id role wt t hid)
          have HY6 := Lib.hid (HX5.out.below HB5.out)
          have HZ6 := Lib.hid (FB.made w5 z)
          have hN3 := Lib.hid (show w3.heap.size ≠ tp ∧ w3.heap.size ≠ M ∧ w5.heap.size ≠ tp ∧ w5.heap.size ≠ M from by have := H3.out.ts.lt; omega)
          clear hf1 hzr hzw hzq hf
          rcases hzc with ⟨rfl, hyu, hzt⟩ | ⟨rfl, hyu⟩
          · rw [hyu] at x3
            go_wp2_with fail
            rw [show w5.alloc (.cells #[.int .i64 z.id, .int .i64 z.role, .int .i64 z.weight, .bool false, .bool z.quiet, .int .i64 z.time, .int .i64 (5 + y.time)] 114) = w5.alloc (.cells #[.int .i64 z.id, .int .i64 z.role, .int .i64 z.weight, .bool z.up, .bool z.quiet, .int .i64 z.time, .int .i64 z.til] 114) by rw [hzu, hzt]]
            have hs6 : w5.heap.size < (w5.alloc (.cells #[.int .i64 z.id, .int .i64 z.role, .int .i64 z.weight, .bool z.up, .bool z.quiet, .int .i64 z.time, .int .i64 z.til] 114)).heap.size := by simp
            generalize w5.alloc (.cells #[.int .i64 z.id, .int .i64 z.role, .int .i64 z.weight, .bool z.up, .bool z.quiet, .int .i64 z.time, .int .i64 z.til] 114) = w6 at *
            refine (HP6.out 0 role y.weight 3).mono ?_
            intro e w7 hP
            have HS7 := Lib.hid (show w5.heap.size < w7.heap.size ∧ w3.heap.size < w7.heap.size from by
              have := hP.2.2.size; omega)
            by_cases hr : role = y.role
            · have hrb : (role == y.role) = true := by simpa using hr
              have e2 := back_same HF1.out HZO.out 0 3 ⟨by omega, by omega⟩
              rw [HZR.out, HZW.out, ← hr] at e2
              have E2 := Lib.hid e2
              unfold SubPost at hP
              rw [e2] at hP
              clear e2
              have HFN := Lib.hid (show fndF (putF S1 (fresh ⟨0, id, role, y.weight, 3⟩ z.quiet)) id = some (fresh ⟨0, id, role, y.weight, 3⟩ z.quiet) from by
                show Srt.fnd Fr.id (Srt.put Fr.id ltF S1 _) id = _
                rw [Srt.fnd_put]; exact if_pos rfl)
              have H7 := Lib.hid ((H5.out.on HB5.out).step HT.out.1 HT.out.2 hP (Nat.le_trans (Srt.put_le S1 _) (by omega)))
              have HX7 := Lib.hid (HY6.out.chg hP.2.2 (fun e => by have := hN3.out; rcases e with e | e <;> omega))
              have HZ7 := Lib.hid (HZ6.out.chg hP.2.2 (fun e => by have := hN3.out; rcases e with e | e <;> omega))
              obtain ⟨rfl, _, _⟩ := hP
              clear x0 x1 x2 x3 x4 x5 x6
              go_wp2_with fail
              refine (fget (k := id) H7.out.ts hid).mono ?_
              rintro e w8 ⟨rfl, hb8⟩
              rw [show getA (putF S1 (fresh ⟨0, id, role, y.weight, 3⟩ z.quiet)) id = .tuple #[fval (fresh ⟨0, id, role, y.weight, 3⟩ z.quiet), .bool true] by unfold getA; rw [HFN.out]]
              have H8 := Lib.hid (H7.out.on hb8)
              obtain ⟨x0, x1, x2, x3, x4, x5, x6⟩ := (HX7.out.below hb8).cells
              obtain ⟨z0, z1, z2, z3, z4, z5, z6⟩ := (HZ7.out.below hb8).cells
              have hs8 : w3.heap.size < w8.heap.size := by have := hb8.size; have := HS7.out; omega
              have hs9 : w5.heap.size < w8.heap.size := by have := hb8.size; have := HS7.out; omega
              rw [← HZQ.out] at x4
              clear hb8
              go_wp2_with fail
              refine (works23 _).mono ?_
              rintro e w9 ⟨rfl, hb9⟩
              go_wp2
              go_ret
              exact ⟨rfl, bt (bt H8.out.bel (ba (Below.refl _ _) _)) hb9⟩
            · have hrb : (role == y.role) = false := by simpa using hr
              obtain ⟨cc, e2, hc0⟩ := back_other (wt := y.weight) HF1.out (by rw [HZR.out]; exact fun e => hr e.symm) 0 (t := 3)
              have hcb : (cc == 0) = false := by simpa using hc0
              have hcn : (cc != 0) = true := by simpa using hc0
              unfold SubPost at hP
              rw [e2] at hP
              have H7 := Lib.hid ((H5.out.on HB5.out).step HT.out.1 HT.out.2 hP (by show S1.length ≤ _; omega))
              have HX7 := Lib.hid (HY6.out.chg hP.2.2 (fun e => by have := hN3.out; rcases e with e | e <;> omega))
              have HZ7 := Lib.hid (HZ6.out.chg hP.2.2 (fun e => by have := hN3.out; rcases e with e | e <;> omega))
              obtain ⟨rfl, _, _⟩ := hP
              clear x0 x1 x2 x3 x4 x5 x6 hr e2
              go_wp2_with fail
              refine (fget (k := id) H7.out.ts hid).mono ?_
              rintro e w8 ⟨rfl, hb8⟩
              rw [show getA S1 id = .tuple #[fval z, .bool true] by unfold getA; rw [HF1.out]]
              have H8 := Lib.hid (H7.out.on hb8)
              obtain ⟨x0, x1, x2, x3, x4, x5, x6⟩ := (HX7.out.below hb8).cells
              obtain ⟨z0, z1, z2, z3, z4, z5, z6⟩ := (HZ7.out.below hb8).cells
              have hs8 : w3.heap.size < w8.heap.size := by have := hb8.size; have := HS7.out; omega
              have hs9 : w5.heap.size < w8.heap.size := by have := hb8.size; have := HS7.out; omega
              clear hb8
              go_wp2_with fail
              refine (works23 _).mono ?_
              rintro e w9 ⟨rfl, hb9⟩
              go_wp2
              go_ret
              exact ⟨rfl, bt (bt H8.out.bel (ba (Below.refl _ _) _)) hb9⟩
          · rw [hyu] at x3
            go_wp2_with fail
            rw [show w5.alloc (.cells #[.int .i64 z.id, .int .i64 z.role, .int .i64 z.weight, .bool false, .bool z.quiet, .int .i64 z.time, .int .i64 z.til] 114) = w5.alloc (.cells #[.int .i64 z.id, .int .i64 z.role, .int .i64 z.weight, .bool z.up, .bool z.quiet, .int .i64 z.time, .int .i64 z.til] 114) by rw [hzu]]
            have hs6 : w5.heap.size < (w5.alloc (.cells #[.int .i64 z.id, .int .i64 z.role, .int .i64 z.weight, .bool z.up, .bool z.quiet, .int .i64 z.time, .int .i64 z.til] 114)).heap.size := by simp
            generalize w5.alloc (.cells #[.int .i64 z.id, .int .i64 z.role, .int .i64 z.weight, .bool z.up, .bool z.quiet, .int .i64 z.time, .int .i64 z.til] 114) = w6 at *
            refine (HP6.out 0 role y.weight 3).mono ?_
            intro e w7 hP
            have HS7 := Lib.hid (show w5.heap.size < w7.heap.size ∧ w3.heap.size < w7.heap.size from by
              have := hP.2.2.size; omega)
            by_cases hr : role = y.role
            · have hrb : (role == y.role) = true := by simpa using hr
              have e2 := back_same HF1.out HZO.out 0 3 ⟨by omega, by omega⟩
              rw [HZR.out, HZW.out, ← hr] at e2
              have E2 := Lib.hid e2
              unfold SubPost at hP
              rw [e2] at hP
              clear e2
              have HFN := Lib.hid (show fndF (putF S1 (fresh ⟨0, id, role, y.weight, 3⟩ z.quiet)) id = some (fresh ⟨0, id, role, y.weight, 3⟩ z.quiet) from by
                show Srt.fnd Fr.id (Srt.put Fr.id ltF S1 _) id = _
                rw [Srt.fnd_put]; exact if_pos rfl)
              have H7 := Lib.hid ((H5.out.on HB5.out).step HT.out.1 HT.out.2 hP (Nat.le_trans (Srt.put_le S1 _) (by omega)))
              have HX7 := Lib.hid (HY6.out.chg hP.2.2 (fun e => by have := hN3.out; rcases e with e | e <;> omega))
              have HZ7 := Lib.hid (HZ6.out.chg hP.2.2 (fun e => by have := hN3.out; rcases e with e | e <;> omega))
              obtain ⟨rfl, _, _⟩ := hP
              clear x0 x1 x2 x3 x4 x5 x6
              go_wp2_with fail
              refine (fget (k := id) H7.out.ts hid).mono ?_
              rintro e w8 ⟨rfl, hb8⟩
              rw [show getA (putF S1 (fresh ⟨0, id, role, y.weight, 3⟩ z.quiet)) id = .tuple #[fval (fresh ⟨0, id, role, y.weight, 3⟩ z.quiet), .bool true] by unfold getA; rw [HFN.out]]
              have H8 := Lib.hid (H7.out.on hb8)
              obtain ⟨x0, x1, x2, x3, x4, x5, x6⟩ := (HX7.out.below hb8).cells
              obtain ⟨z0, z1, z2, z3, z4, z5, z6⟩ := (HZ7.out.below hb8).cells
              have hs8 : w3.heap.size < w8.heap.size := by have := hb8.size; have := HS7.out; omega
              have hs9 : w5.heap.size < w8.heap.size := by have := hb8.size; have := HS7.out; omega
              rw [← HZQ.out] at x4
              clear hb8
              go_wp2_with fail
              refine (works23 _).mono ?_
              rintro e w9 ⟨rfl, hb9⟩
              go_wp2
              go_ret
              exact ⟨rfl, bt (bt H8.out.bel (ba (Below.refl _ _) _)) hb9⟩
            · have hrb : (role == y.role) = false := by simpa using hr
              obtain ⟨cc, e2, hc0⟩ := back_other (wt := y.weight) HF1.out (by rw [HZR.out]; exact fun e => hr e.symm) 0 (t := 3)
              have hcb : (cc == 0) = false := by simpa using hc0
              have hcn : (cc != 0) = true := by simpa using hc0
              unfold SubPost at hP
              rw [e2] at hP
              have H7 := Lib.hid ((H5.out.on HB5.out).step HT.out.1 HT.out.2 hP (by show S1.length ≤ _; omega))
              have HX7 := Lib.hid (HY6.out.chg hP.2.2 (fun e => by have := hN3.out; rcases e with e | e <;> omega))
              have HZ7 := Lib.hid (HZ6.out.chg hP.2.2 (fun e => by have := hN3.out; rcases e with e | e <;> omega))
              obtain ⟨rfl, _, _⟩ := hP
              clear x0 x1 x2 x3 x4 x5 x6 hr e2
              go_wp2_with fail
              refine (fget (k := id) H7.out.ts hid).mono ?_
              rintro e w8 ⟨rfl, hb8⟩
              rw [show getA S1 id = .tuple #[fval z, .bool true] by unfold getA; rw [HF1.out]]
              have H8 := Lib.hid (H7.out.on hb8)
              obtain ⟨x0, x1, x2, x3, x4, x5, x6⟩ := (HX7.out.below hb8).cells
              obtain ⟨z0, z1, z2, z3, z4, z5, z6⟩ := (HZ7.out.below hb8).cells
              have hs8 : w3.heap.size < w8.heap.size := by have := hb8.size; have := HS7.out; omega
              have hs9 : w5.heap.size < w8.heap.size := by have := hb8.size; have := HS7.out; omega
              clear hb8
              go_wp2_with fail
              refine (works23 _).mono ?_
              rintro e w9 ⟨rfl, hb9⟩
              go_wp2
              go_ret
              exact ⟨rfl, bt (bt H8.out.bel (ba (Below.refl _ _) _)) hb9⟩
namespace FramesBack
open Go.ChangeShapes Go.WideShapes Go.ChangeAt Go.RowKit Go.Joins
theorem own : ownKnob Try.prog.godebug = none := by kernel_rfl
theorem laidOut : laidOutB Try.prog = true := by kernel_rfl
set_option maxRecDepth 100000 in
theorem lifted (os : Os) (started : os.Started) (H : Type) (enc : TypeId × Value → H) :
    ReturnsInHanded {} Try.checked os 13 .any (Rows.framesBackSpec.pre6 enc Try.prog Try.f13 Rows.framesBackRow.domain false) (Rows.framesBackSpec.post enc Try.prog Try.f13 false true false false) := by
  refine returnsInHanded_of_change (C := Try.checked) own started (by kernel_rfl) Try.func13
    (ChangeSpec.witness6 (enc := enc) (C := Try.checked) false ⟨#[], #[.slice none 0 0, .int .i64 0, .int .i64 0], []⟩ 8 (by kernel_rfl) (by kernel_rfl) (by kernel_rfl) (by kernel_rfl)) ?_
  intro W base args ds gs before hval0 hW hcnd _
  have hval : ∀ (j : Nat) t v, Try.f13.params[j]? = some t → args[j]? = some v → Value.okWide Try.prog W .any base t v := hval0
  have hW' := hW
  obtain ⟨p, q, hA0, hV, rfl, hfz, hnd⟩ := hW
  have hA : DataW.TrodAll enc Try.prog W 0 (fun _ => true) true Try.f13.params.toList args.toList ds p := hA0
  rw [Try.params13] at hA hval
  obtain ⟨v0, vs0, d0, ds0, p0, q0, hargs, rfl, rfl, h0, r0⟩ := trodAll_cons hA
  obtain ⟨v1, vs1, d1, ds1, p1, q1, rfl, rfl, rfl, h1, r1⟩ := trodAll_cons r0
  obtain ⟨v2, vs2, d2, ds2, p2, q2, rfl, rfl, rfl, h2, r2⟩ := trodAll_cons r1
  obtain ⟨rfl, rfl, rfl⟩ := trodAll_nil r2
  obtain rfl : args = #[v0, v1, v2] := by cases args; simp_all
  obtain ⟨rfl, rfl⟩ := trodVars_none hV
  have k0 := h0
  have lt0 : ∀ x ∈ p0, x.block < W.heap.size := by obtain ⟨m, hm⟩ := k0; exact DataW.trod_lt m _ _ _ hm
  have k1 := h1
  have lt1 : ∀ x ∈ p1, x.block < W.heap.size := by obtain ⟨m, hm⟩ := k1; exact DataW.trod_lt m _ _ _ hm
  have k2 := h2
  have lt2 : ∀ x ∈ p2, x.block < W.heap.size := by obtain ⟨m, hm⟩ := k2; exact DataW.trod_lt m _ _ _ hm
  obtain ⟨la, oA, iA, _⟩ := open_facts (hval 0 101 v0 rfl rfl) k0
  obtain ⟨id, vEq1, _, _, wf_id⟩ := open_int Try.underlying2 (hval 1 2 v1 rfl rfl) k1
  subst vEq1
  obtain ⟨role, vEq2, _, _, wf_role⟩ := open_int Try.underlying3 (hval 2 3 v2 rfl rfl) k2
  subst vEq2
  clear hA0 hval0
  refine (back23 v0 la id role W oA iA (lit64 wf_id)).mono fun e W' ⟨he, bel⟩ => ?_
  subst he
  exact ⟨_, rfl, _, _, _, [], _, [], hW', trodAll_mk1 (shut_bool Try.underlying4 _), (trodAll_cons_mk (Below.trod laidOut (by kernel_rfl) (of_decide_eq_true (by kernel_rfl)) k0 bel lt0) (trodAll_cons_mk (Below.trod laidOut (by kernel_rfl) (of_decide_eq_true (by kernel_rfl)) k1 bel lt1) (trodAll_cons_mk (Below.trod laidOut (by kernel_rfl) (of_decide_eq_true (by kernel_rfl)) k2 bel lt2) trodAll_mk0))), rfl, bel.frame _, fun h => by cases h⟩
theorem over : Rows.framesBackRow.holds Try.pinned (OpenSpec.ofChange Rows.framesBackSpec) :=
  OpenClaim.holds_of_wide 13 Try.f13 rfl rfl rfl rfl rfl rfl rfl ⟨rfl, rfl, rfl, rfl, rfl⟩ rfl rfl rfl rfl rfl (by kernel_rfl) Try.func13 (by kernel_rfl)
    (of_decide_eq_true (by kernel_rfl)) (by unfold Func.isWrapper; first | (rw [if_pos (by decide +kernel)]; kernel_rfl) | (rw [if_neg (by decide +kernel)]; exact ⟨rfl, rfl⟩))
    (fun os started H enc _ => lifted os started H enc)
theorem proved : Rows.FramesBackSaid := over
end FramesBack
end Go.Proofs.Ytajcelmnblncaaa

/- The document's alarms by a list: Forget; lists alike. -/
import Derived.Test.YtajcelmnblncaaaAlM3
namespace Go.Proofs.Ytajcelmnblncaaa
open Go.RowKit Go.Maps
attribute [local go_sem] ext_cell ext_frozen extC_cell extC_frozen Mix.calmUpon Mix.mUpon eqRy
theorem forget_snoc (R : List Rc) (x : Rc) (what first : Int) : forgetR (R ++ [x]) what first = forgetR R what first ++ if isF what first x.key then [] else [x] := by
  unfold forgetR
  rw [List.filter_append]
  cases h : isF what first x.key <;> simp [h]
set_option maxRecDepth 100000 in
set_option maxHeartbeats 4000000 in
theorem mforget {w : World} {v : Value} {R : List Rc} (h : RV w v R) (what first : Int) (hl : R.length < 100000) : Calls Try.prog 94 #[v, .int .i64 what, .int .i64 first] w (RetR w (forgetR R what first)) := by
  obtain ⟨a, n, cap, rfl, hn, hc, hm, hat⟩ := h.at_
  have HA := Lib.hid hat
  have hlm : n < 100000 := by omega
  have HN := Lib.hid hn
  clear hat h hn hl
  go_enter Try.func94, Try.ntmps94
  go_wp2
  go_loopw [7, 8] (fun ov iv wr => ∃ t : Nat, t ≤ n ∧ iv = .int .i64 t ∧ Hid (OR wr w.heap.size ov (forgetR (R.take t) what first) ∧ Below w.heap.size w wr)) (fun _ iv _ => n - (intOf iv).toNat)
  case atStart => exact ⟨0, Nat.zero_le _, rfl, Lib.hid ⟨OwnL.nil _ _ _ _ _, Below.refl _ _⟩⟩
  case round =>
    obtain ⟨t, ht, rfl, HQ⟩ := hrel
    obtain ⟨w2, rfl⟩ : ∃ w2, w2 = wr := ⟨_, rfl⟩
    by_cases hlt : t < n
    · have hts : (t : Int) < (n : Int) := by omega
      obtain ⟨p, hx⟩ := at_lt (l := R) (i := t) (by rw [← HN.out]; exact hlt)
      obtain ⟨b, off, rfl, hb, hcell⟩ := HA.out t p hx
      have e0 := ((HQ.out.2).cell (p := ⟨b, off + t * 4 + 0, none⟩) hb).trans (hcell 0 _ rfl)
      have e1 := ((HQ.out.2).cell (p := ⟨b, off + t * 4 + 1, none⟩) hb).trans (hcell 1 _ rfl)
      have e2 := ((HQ.out.2).cell (p := ⟨b, off + t * 4 + 2, none⟩) hb).trans (hcell 2 _ rfl)
      have e3 := ((HQ.out.2).cell (p := ⟨b, off + t * 4 + 3, none⟩) hb).trans (hcell 3 _ rfl)
      simp only [Nat.add_zero] at e0
      have hbw : b < w2.heap.size := Nat.lt_of_lt_of_le hb HQ.out.2.size
      have HX := Lib.hid (take_at hx)
      have HLO := Lib.hid (show (forgetR (R.take t) what first).length < 1000000 by
        have h1 : (forgetR (R.take t) what first).length ≤ (R.take t).length := List.length_filter_le _ _
        have h2 := List.length_take_le t R
        omega)
      have hsn : forgetR (R.take (t + 1)) what first = forgetR (R.take t) what first ++ (if isF what first p.key = true then [] else [p]) := by rw [HX.out]; exact forget_snoc (R.take t) p what first
      clear hcell hx
      cases he : isF what first p.key with
      | true =>
        rw [he, if_pos rfl, List.append_nil] at hsn
        have HE := Lib.hid hsn
        have hb1 : (p.key.1 != what) = false := by unfold isF at he; simp at he; simpa using he.1
        have hb2 : (p.key.2.1 != first) = false := by unfold isF at he; simp at he; simpa using he.2
        have HQ3 := Lib.hid (show OR w2 w.heap.size u7 (forgetR (R.take (t + 1)) what first) ∧ Below w.heap.size w w2 from ⟨by rw [HE.out]; exact HQ.out.1, HQ.out.2⟩)
        clear he hsn
        go_wp2
        go_roundw
        case rel => exact ⟨t + 1, by omega, by go_num, HQ3⟩
        case measure => simp [intOf]; omega
      | false =>
        rw [he, if_neg (by simp)] at hsn
        have HE := Lib.hid hsn
        by_cases h1 : p.key.1 = what
        · have hb1 : (p.key.1 != what) = false := by simpa using h1
          have hb2 : (p.key.2.1 != first) = true := by
            unfold isF at he
            rw [show (p.key.1 == what) = true by simpa using h1] at he
            simpa using he
          clear he hsn h1
          have hbb : Below w2.heap.size w2 (w2.alloc (.cells #[.int .i64 p.key.1, .int .i64 p.key.2.1, .int .i64 p.key.2.2, .int .i64 p.at_] 90)) := ba (Below.refl _ _) _
          obtain ⟨v4, w4, hrun, o4, g4, _⟩ := OR.app (HQ.out.1.below hbb) p (IB.made w2 p) HLO.out (by simp; have := HQ.out.2.size; omega)
          have HR := Lib.hid hrun
          have hlt4 := HQ.out.1.lt
          have HB4 := Lib.hid (show Below w.heap.size w w4 from (bt HQ.out.2 hbb).grown g4 (by simp; have := HQ.out.2.size; omega) (fun j hj => (hlt4 j hj).1))
          have O4 := Lib.hid (show OR w4 w.heap.size v4 (forgetR (R.take (t + 1)) what first) by rw [HE.out]; exact o4)
          clear hrun o4 g4 hbb hlt4
          go_wp2_with (at_builtin; refine wpList_app_run rfl _ _ _ rfl rfl rfl HR.out ?_)
          go_roundw
          case rel => exact ⟨t + 1, by omega, by go_num, Lib.hid ⟨O4.out, HB4.out⟩⟩
          case measure => simp [intOf]; omega
        · have hb1 : (p.key.1 != what) = true := by simpa using h1
          clear he hsn h1
          have hbb : Below w2.heap.size w2 (w2.alloc (.cells #[.int .i64 p.key.1, .int .i64 p.key.2.1, .int .i64 p.key.2.2, .int .i64 p.at_] 90)) := ba (Below.refl _ _) _
          obtain ⟨v4, w4, hrun, o4, g4, _⟩ := OR.app (HQ.out.1.below hbb) p (IB.made w2 p) HLO.out (by simp; have := HQ.out.2.size; omega)
          have HR := Lib.hid hrun
          have hlt4 := HQ.out.1.lt
          have HB4 := Lib.hid (show Below w.heap.size w w4 from (bt HQ.out.2 hbb).grown g4 (by simp; have := HQ.out.2.size; omega) (fun j hj => (hlt4 j hj).1))
          have O4 := Lib.hid (show OR w4 w.heap.size v4 (forgetR (R.take (t + 1)) what first) by rw [HE.out]; exact o4)
          clear hrun o4 g4 hbb hlt4
          go_wp2_with (at_builtin; refine wpList_app_run rfl _ _ _ rfl rfl rfl HR.out ?_)
          go_roundw
          case rel => exact ⟨t + 1, by omega, by go_num, Lib.hid ⟨O4.out, HB4.out⟩⟩
          case measure => simp [intOf]; omega
    · obtain rfl : n = t := by omega
      have HT := Lib.hid (show R.take n = R by rw [HN.out, List.take_length])
      go_wp2
      go_ret
      have hq := HQ.out
      rw [HT.out] at hq
      exact ⟨_, rfl, hq.1, hq.2⟩
set_option maxRecDepth 100000 in
set_option maxHeartbeats 2000000 in
/-- Keys in order, and the document's list. -/
theorem malike {w : World} {v v' : Value} {R : List Rc} (h : RS 3 kenc w v (R.map Rc.key)) (h' : RV w v' R) (hln : R.length < 100000) : Calls Try.prog 48 #[v, v'] w fun e w' => e = .returned (.bool true) ∧ Below w.heap.size w w' := by
  obtain ⟨a, n, cp, rfl, hn, hc, hm, hat⟩ := h.at_
  obtain ⟨a', n', cp', rfl, hn', hc', hm', hat'⟩ := h'.at_
  rw [List.length_map] at hn
  obtain rfl : n' = n := by omega
  have HA := Lib.hid (show ∀ i x, R[i]? = some x → ∃ b off, a = some ⟨b, off, none⟩ ∧ b < w.heap.size ∧ ∀ j u, (kenc x.key)[j]? = some u → w.cell? ⟨b, off + i * 3 + j, none⟩ = some u from fun i x hx => hat i x.key (by rw [List.getElem?_map, hx]; rfl))
  have HA' := Lib.hid hat'
  have HN := Lib.hid hn
  have hlm : n' < 100000 := by omega
  clear hat hat' h h' hn hn'
  go_enter Try.func48, Try.ntmps48
  go_wp2
  go_loopw [5] (fun iv wr => ∃ t : Nat, t ≤ n' ∧ iv = .int .i64 t ∧ Hid (Below w.heap.size w wr)) (fun iv _ => n' - (intOf iv).toNat)
  case atStart => exact ⟨0, Nat.zero_le _, rfl, Lib.hid (Below.refl _ _)⟩
  case round =>
    obtain ⟨t, ht, rfl, HQ⟩ := hrel
    obtain ⟨w2, rfl⟩ : ∃ w2, w2 = wr := ⟨_, rfl⟩
    by_cases hlt : t < n'
    · have hts : (t : Int) < (n' : Int) := by omega
      obtain ⟨x, hx⟩ := at_lt (l := R) (i := t) (by rw [← HN.out]; exact hlt)
      obtain ⟨b, off, rfl, hb, hcell⟩ := HA'.out t x hx
      obtain ⟨b', off', rfl, hb', hcell'⟩ := HA.out t x hx
      have e0 := ((HQ.out).cell (p := ⟨b, off + t * 4 + 0, none⟩) hb).trans (hcell 0 _ rfl)
      have e1 := ((HQ.out).cell (p := ⟨b, off + t * 4 + 1, none⟩) hb).trans (hcell 1 _ rfl)
      have e2 := ((HQ.out).cell (p := ⟨b, off + t * 4 + 2, none⟩) hb).trans (hcell 2 _ rfl)
      have e3 := ((HQ.out).cell (p := ⟨b, off + t * 4 + 3, none⟩) hb).trans (hcell 3 _ rfl)
      simp only [Nat.add_zero] at e0
      have f0 := (HQ.out.cell (p := ⟨b', off' + t * 3 + 0, none⟩) hb').trans (hcell' 0 _ rfl)
      have f1 := (HQ.out.cell (p := ⟨b', off' + t * 3 + 1, none⟩) hb').trans (hcell' 1 _ rfl)
      have f2 := (HQ.out.cell (p := ⟨b', off' + t * 3 + 2, none⟩) hb').trans (hcell' 2 _ rfl)
      simp only [Nat.add_zero] at f0
      have hbw : b < w2.heap.size := Nat.lt_of_lt_of_le hb HQ.out.size
      have hbw' : b' < w2.heap.size := Nat.lt_of_lt_of_le hb' HQ.out.size
      have HK := Lib.hid (mkey x.key)
      clear hcell hcell' hx
      go_wp2
      refine wp_region_pure (by kernel_rfl) (by kernel_rfl) ?_
      repeat (first | go_big_quiet_step ((go_at_call 47; with_reducible exact HK.out.quiet)) | (quiet_step ((go_at_call 47; with_reducible exact HK.out.quiet))))
      refine wpQuiet_nil ?_
      rintro w3 ⟨x3, hx3⟩
      have hb3 := ext_below _ x3
      rw [← hx3] at hb3
      clear hx3 x3
      have hs3 : w2.heap.size + 0 ≤ w3.heap.size := (by have h := hb3.size; first | omega | (simp at h; omega))
      obtain ⟨hc3, hf3, hl3⟩ := bcell hb3
      clear hl3
      have HB3 := Lib.hid (bt HQ.out hb3)
      clear hb3 hc3 hf3 e0 e1 e2 f0 f1 f2
      go_wp2
      go_roundw
      case rel => exact ⟨t + 1, by omega, by go_num, HB3⟩
      case measure => simp [intOf]; omega
    · obtain rfl : n' = t := by omega
      go_wp2
      go_ret
      exact ⟨rfl, HQ.out⟩
end Go.Proofs.Ytajcelmnblncaaa

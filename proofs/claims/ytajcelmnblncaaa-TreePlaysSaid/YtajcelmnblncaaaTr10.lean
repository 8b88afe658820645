/- tree: nil trees and plain ones; the law's same and works. -/
import Derived.Test.YtajcelmnblncaaaTr9
namespace Go.Proofs.Ytajcelmnblncaaa
open Go.RowKit
attribute [local go_sem] ext_cell ext_frozen extC_cell extC_frozen Mix.calmUpon Mix.mUpon
theorem fn_nil (w : World) : (binOp .neq 26 .nilFunc .nilFunc).run Try.prog w = .ok (.bool false) w := by
  have h : (Op.equalIn 10000 26 .nilFunc .nilFunc).run Try.prog w = .ok true w := by
    rw [show (10000 : Nat) = 9999 + 1 from rfl, Op.equalIn]
    simp only [Sem.run_bind, run_underlying Try.underlying26, Result.andThen_ok]
    simp
  simp only [binOp]
  simp [Op.equal, Op.maxDepth, h]
/-- A tree that no call made. -/
def NT (w : World) (v : Value) : Prop := v = .pointer none ∨ ∃ b, v = .pointer (some ⟨b, 0, none⟩) ∧ w.heap[b]? = some (.cells #[.nilFunc, .pointer none] 45 (0, 0))
set_option maxRecDepth 100000 in
theorem nmade {w : World} {v : Value} (h : NT w v) : Calls Try.prog 74 #[v] w fun e w' => e = .returned (.bool false) ∧ w = w' := by
  have hfn := fn_nil
  rcases h with rfl | ⟨b, rfl, hb⟩
  · go_enter Try.func74, Try.ntmps74
    go_wp2
    go_ret
    exact ⟨rfl, rfl⟩
  · have x0 := cell_hd hb 0
    simp only [List.getElem?_toArray, List.getElem?_cons_zero] at x0
    clear hb
    go_enter Try.func74, Try.ntmps74
    go_wp2
    go_ret
    exact ⟨rfl, rfl⟩
theorem nput {w : World} {v : Value} (h : NT w v) (k : Int) : Calls Try.prog 21 #[v, .int .i64 k] w fun e w' => e = .returned (.bool false) ∧ w = w' := by
  have HM := Lib.hid (nmade h)
  clear h
  go_enter Try.func21, Try.ntmps21
  go_wp2_with fail
  refine HM.out.mono ?_
  rintro e w1 ⟨rfl, rfl⟩
  go_wp2
  go_ret
  exact ⟨rfl, rfl⟩
theorem ndrop {w : World} {v : Value} (h : NT w v) (k : Int) : Calls Try.prog 19 #[v, .int .i64 k] w fun e w' => e = .returned (.bool false) ∧ w = w' := by
  have HM := Lib.hid (nmade h)
  clear h
  go_enter Try.func19, Try.ntmps19
  go_wp2_with fail
  refine HM.out.mono ?_
  rintro e w1 ⟨rfl, rfl⟩
  go_wp2
  go_ret
  exact ⟨rfl, rfl⟩
theorem ntop {w : World} {v : Value} (h : NT w v) : Calls Try.prog 77 #[v] w fun e w' => e = .returned (.pointer none) ∧ w = w' := by
  rcases h with rfl | ⟨b, rfl, hb⟩
  · go_enter Try.func77, Try.ntmps77
    go_wp2
    go_ret
    exact ⟨rfl, rfl⟩
  · have x0 := cell_hd hb 1
    simp only [List.getElem?_toArray, List.getElem?_cons_succ, List.getElem?_cons_zero] at x0
    clear hb
    go_enter Try.func77, Try.ntmps77
    go_wp2
    go_ret
    exact ⟨rfl, rfl⟩
theorem nlong {w : World} {v : Value} (h : NT w v) : Calls Try.prog 23 #[v] w fun e w' => e = .returned (.int .i64 0) ∧ w = w' := by
  have HM := Lib.hid (ntop h)
  have HL := Lib.hid (length_t (w := w) (v := .pointer none) (t := .lf) rfl)
  clear h
  go_enter Try.func23, Try.ntmps23
  go_wp2_with fail
  refine HM.out.mono ?_
  rintro e w1 ⟨rfl, rfl⟩
  go_wp2_with fail
  refine HL.out.mono ?_
  rintro e w1 ⟨rfl, rfl⟩
  go_wp2
  go_ret
  exact ⟨rfl, rfl⟩
theorem nfirst (w : World) : Calls Try.prog 26 #[.pointer none] w fun e w' => e = .returned (.tuple #[.int .i64 0, .bool false]) ∧ w = w' := by
  have HA := Lib.hid (show Calls Try.prog 25 #[.pointer none, .int .i64 0] w fun e w' => e = .returned (.tuple #[.int .i64 0, .bool false]) ∧ w = w' by
    have HM := Lib.hid (ntop (w := w) (v := .pointer none) (.inl rfl))
    go_enter Try.func25, Try.ntmps25
    go_wp2_with fail
    refine HM.out.mono ?_
    rintro e w1 ⟨rfl, rfl⟩
    go_wp2
    go_loop [6] (fun nv => nv = .pointer none) (fun _ => 0)
    case atStart => rfl
    case round =>
      obtain rfl := hrel
      go_wp2
      go_ret2
      exact ⟨rfl, rfl⟩)
  go_enter Try.func26, Try.ntmps26
  go_wp2_with fail
  refine HA.out.mono ?_
  rintro e w1 ⟨rfl, rfl⟩
  go_wp2
  go_ret2
  exact ⟨rfl, rfl⟩
set_option maxRecDepth 100000 in
theorem same8 {w : World} {v v' : Value} {L : List Int} (h : RS 1 nenc w v L) (h' : RS 1 nenc w v' L) (hln : L.length < 1000000) : Calls Try.prog 27 #[v, v'] w fun e w' => e = .returned (.bool true) ∧ Below w.heap.size w w' := by
  obtain ⟨a, n, cp, rfl, hn, hc, hm, hat⟩ := h.at_
  obtain ⟨a', n', cp', rfl, hn', hc', hm', hat'⟩ := h'.at_
  obtain rfl : n' = n := by omega
  have HA := Lib.hid hat
  have HA' := Lib.hid hat'
  have HN := Lib.hid hn
  have hlm : n' < 1000000 := by omega
  clear hat hat' h h' hn hn'
  go_enter Try.func27, Try.ntmps27
  go_wp2
  go_loopw [5] (fun iv wr => ∃ t : Nat, t ≤ n' ∧ iv = .int .i64 t ∧ Hid (Below w.heap.size w wr)) (fun iv _ => n' - (intOf iv).toNat)
  case atStart => exact ⟨0, Nat.zero_le _, rfl, Lib.hid (Below.refl _ _)⟩
  case round =>
    obtain ⟨t, ht, rfl, HQ⟩ := hrel
    obtain ⟨w2, rfl⟩ : ∃ w2, w2 = wr := ⟨_, rfl⟩
    by_cases hlt : t < n'
    · have hts : (t : Int) < (n' : Int) := by omega
      obtain ⟨x, hx⟩ := at_lt (l := L) (i := t) (by rw [← HN.out]; exact hlt)
      obtain ⟨b, off, rfl, hb, hcell⟩ := HA.out t x hx
      obtain ⟨b', off', rfl, hb', hcell'⟩ := HA'.out t x hx
      have e0 := (HQ.out.cell (p := ⟨b, off + t * 1 + 0, none⟩) hb).trans (hcell 0 _ rfl)
      have f0 := (HQ.out.cell (p := ⟨b', off' + t * 1 + 0, none⟩) hb').trans (hcell' 0 _ rfl)
      simp only [Nat.add_zero, Nat.mul_one] at e0 f0
      have hbw : b < w2.heap.size := Nat.lt_of_lt_of_le hb HQ.out.size
      have hbw' : b' < w2.heap.size := Nat.lt_of_lt_of_le hb' HQ.out.size
      clear hcell hcell' hx hb hb'
      go_wp2
      refine wp_region_pure (by kernel_rfl) (by kernel_rfl) ?_
      repeat (first | go_big_quiet_step ((fail)) | (quiet_step ((fail))))
      refine wpQuiet_nil ?_
      rintro w3 ⟨x3, hx3⟩
      have hb3 := ext_below _ x3
      rw [← hx3] at hb3
      clear hx3 x3
      have hs3 : w2.heap.size + 0 ≤ w3.heap.size := (by have h := hb3.size; first | omega | (simp at h; omega))
      obtain ⟨hc3, hf3, hl3⟩ := bcell hb3
      clear hl3
      have HB3 := Lib.hid (bt HQ.out hb3)
      clear hb3 hc3 hf3 e0 f0
      go_wp2
      go_roundw
      case rel => exact ⟨t + 1, by omega, by go_num, HB3⟩
      case measure => simp [intOf]; omega
    · obtain rfl : n' = t := by omega
      go_wp2
      go_ret
      exact ⟨rfl, HQ.out⟩
/-- A tree of the call's own. -/
structure TW (tp fn : Nat) (caps : Array Value) (C : World → Prop) (J : Int → Prop) (o : Int → Int → Int) (W w : World) (L : List Int) : Prop where
  tt : TT tp fn caps C J o w L
  bel : Below W.heap.size W w
  own : W.heap.size ≤ tp
section
variable {tp fn : Nat} {caps : Array Value} {C : World → Prop} {J : Int → Prop} {o : Int → Int → Int}
theorem TW.on (hO : OV tp fn caps C J o) {W w w' : World} {L : List Int} (h : TW tp fn caps C J o W w L) (hb : Below w.heap.size w w') : TW tp fn caps C J o W w' L := ⟨h.tt.below hO hb, bt h.bel hb, h.own⟩
theorem TW.step {W w w' : World} {L L' : List Int} (h : TW tp fn caps C J o W w L) (ht : TT tp fn caps C J o w' L') (hc : Chg (TF tp) w w') : TW tp fn caps C J o W w' L' :=
  ⟨ht, h.bel.trans (hc.below h.bel.size fun k e => by have e : k = tp := e; rw [e]; exact h.own), h.own⟩
end
/-- The order of the law's works: a difference, of small numbers. -/
def JS (x : Int) : Prop := 0 ≤ x ∧ x ≤ 9
def oS (a b : Int) : Int := a - b
theorem oaS : OA JS oS where
  zero a b ha hb := by unfold oS; omega
  anti a b ha hb := by unfold oS; omega
  trans a b c _ _ _ h1 h2 := by unfold oS at *; omega
  in64 a b ha hb := by unfold JS at ha hb; unfold oS; omega
theorem ovS (tp : Nat) : OV tp 82 #[] (fun _ => True) JS oS where
  ord := oaS
  cf a b w := by simp [go_sem]
  clo _ _ h _ := h
  call w a b _ ha hb := by
    have h0 := ha.1; have h1 := ha.2; have h2 := hb.1; have h3 := hb.2
    show Calls Try.prog 82 #[.int .i64 a, .int .i64 b] w _
    clear ha hb
    go_enter Try.func82, Try.ntmps82
    go_wp2
    go_ret
    exact ⟨rfl, Below.refl _ _⟩
set_option maxRecDepth 100000 in
set_option maxHeartbeats 2000000 in
theorem works08 (W : World) : Calls Try.prog 29 #[] W fun e w' => e = .returned (.bool true) ∧ Below W.heap.size W w' := by
  have HO := Lib.hid (ovS W.heap.size)
  have hb0 : Below W.heap.size W (W.alloc (.cells #[.func (.func 82) #[] #[], .pointer none] 45)) := ba (Below.refl _ _) _
  have H0 := Lib.hid (show TW W.heap.size 82 #[] (fun _ => True) JS oS W (W.alloc (.cells #[.func (.func 82) #[] #[], .pointer none] 45)) [] from ⟨⟨⟨none, .lf, heap_alloc_new W _, rfl, rfl⟩, trivial, SL.nil⟩, hb0, Nat.le_refl _⟩)
  clear hb0
  go_enter Try.func29, Try.ntmps29
  go_wp2_with fail
  refine (tnew W).mono ?_
  rintro e w1 ⟨rfl, rfl⟩
  generalize W.alloc (.cells #[.func (.func 82) #[] #[], .pointer none] 45) = w1 at *
  obtain ⟨tp, htp⟩ : ∃ tp, tp = W.heap.size := ⟨_, rfl⟩
  rw [← htp] at HO H0 ⊢
  clear htp
  go_wp2_with fail
  refine (tput HO.out H0.out.tt (k := 5) ⟨by decide, by decide⟩ (by decide)).mono ?_
  rintro e w2 ⟨rfl, h2, c2⟩
  have H2 := Lib.hid (show TW tp 82 #[] (fun _ => True) JS oS W w2 [5] from H0.out.step h2 c2)
  clear h2 c2
  rw [show (!hasL 5 []) = true from rfl]
  go_wp2_with fail
  refine (tput HO.out H2.out.tt (k := 5) ⟨by decide, by decide⟩ (by decide)).mono ?_
  rintro e w3 ⟨rfl, h3, c3⟩
  have H3 := Lib.hid (show TW tp 82 #[] (fun _ => True) JS oS W w3 [5] from H2.out.step h3 c3)
  clear h3 c3
  rw [show (!hasL 5 [5]) = false from rfl]
  go_wp2_with fail
  refine (tput HO.out H3.out.tt (k := 1) ⟨by decide, by decide⟩ (by decide)).mono ?_
  rintro e w4 ⟨rfl, h4, c4⟩
  have H4 := Lib.hid (show TW tp 82 #[] (fun _ => True) JS oS W w4 [1, 5] from H3.out.step h4 c4)
  clear h4 c4
  rw [show (!hasL 1 [5]) = true from rfl]
  go_wp2_with fail
  refine (tdrop HO.out H4.out.tt (k := 9) ⟨by decide, by decide⟩ (by decide)).mono ?_
  rintro e w5 ⟨rfl, h5, c5⟩
  have H5 := Lib.hid (show TW tp 82 #[] (fun _ => True) JS oS W w5 [1, 5] from H4.out.step h5 c5)
  clear h5 c5
  rw [show hasL 9 [1, 5] = false from rfl]
  go_wp2_with fail
  refine (tat H5.out.tt (i := 1) (by decide) (by decide)).mono ?_
  rintro e w6 ⟨rfl, rfl⟩
  rw [show atV (atL [1, 5] 1) = .tuple #[.int .i64 5, .bool true] from rfl]
  go_wp2_with fail
  refine (tplace HO.out H5.out.tt (k := 5) ⟨by decide, by decide⟩ (by decide)).mono ?_
  rintro e w7 ⟨rfl, hb7⟩
  have H7 := Lib.hid (H5.out.on HO.out hb7)
  clear hb7
  rw [show plL [1, 5] 5 = 1 from rfl]
  go_wp2_with fail
  refine (tlong H7.out.tt).mono ?_
  rintro e w8 ⟨rfl, rfl⟩
  rw [show (([1, 5] : List Int).length : Int) = 2 from rfl]
  go_wp2
  go_ret
  exact ⟨rfl, H7.out.bel⟩
end Go.Proofs.Ytajcelmnblncaaa

/- For any order, any acts and any place the statement TreePlays returns true. Condition: none. -/
import Derived.Test.YtajcelmnblncaaaTr12
namespace Go.Proofs.Ytajcelmnblncaaa
open Go.RowKit Go.ChangeShapes Go.WideShapes Go.ChangeAt Go.Joins Go.Deep
attribute [local go_sem] ext_cell ext_frozen extC_cell extC_frozen Mix.calmUpon Mix.mUpon
/-- An act that came in. -/
structure TAct where
  d : Bool
  k : Int
def tenc (x : TAct) : List Value := [.bool x.d, .int .i64 x.k]
theorem c2t : Try.prog.cellsOf 29 = 2 := by kernel_rfl
set_option maxRecDepth 100000 in
theorem open_tacts {H : Type} {enc : TypeId × Value → H} {W : World} {base : Nat} {sp : Nat → Bool} {held : Bool} {r : Reach} {b0 : Nat} {v : Value} {d : DataW H} {p : List MemPlace}
    (hv : Value.okWide Try.prog W r b0 22 v) (h : DataW.Trod enc Try.prog W base sp held 22 v d p) : ∃ l : List TAct, RS 2 tenc W v l ∧ (∀ x ∈ l, True) ∧ ∀ b, v.ownBlock = some b → b < W.heap.size := by
  have : Inhabited TAct := ⟨⟨false, 0⟩⟩
  refine open_rs (P := Try.prog) (k := 2) (enc := tenc) (ok := fun _ => True) Try.underlying22 c2t (fun _ => rfl) (fun m cs x hl hf => ?_) hv h
  match cs, hl with
  | [c0, c1], _ =>
    obtain ⟨y0, y1, n, _, _, h0, h1⟩ := trod_struct2 Try.underlying29 hf
    have k0 : DataW.trod enc Try.prog W base sp held n 4 [c0] = some y0 := h0
    have k1 : DataW.trod enc Try.prog W base sp held n 3 [c1] = some y1 := h1
    obtain ⟨a, ea, _⟩ := DataW.trod_bool Try.underlying4 k0
    obtain ⟨b, eb, _, _⟩ := DataW.trod_int Try.underlying3 k1
    simp at ea eb
    subst ea eb
    exact ⟨⟨a, b⟩, rfl, trivial⟩
/-- The variable that the order reads. -/
def CM (mb : Nat) (m : Int) (w : World) : Prop := mb < w.heap.size ∧ w.cell? ⟨mb, 0, none⟩ = some (.int .i64 m)
set_option maxRecDepth 100000 in
theorem ovM {m : Int} (hm : m ≤ 1000) (mb tp : Nat) (hne : mb ≠ tp) : OV tp 15 #[.pointer (some ⟨mb, 0, none⟩)] (CM mb m) J3 (oM m) where
  ord := oaM hm
  cf a b w := by simp [go_sem]
  clo w w' h hc := ⟨Nat.lt_of_lt_of_le h.1 hc.size, by rw [hc.cell h.1 (fun e => hne e)]; exact h.2⟩
  call w a b hc _ _ := by
    show Calls Try.prog 15 #[.int .i64 a, .int .i64 b, .pointer (some ⟨mb, 0, none⟩)] w _
    have h0 := hc.2
    clear hc
    go_enter Try.func15, Try.ntmps15
    go_wp2_with fail
    refine (order_any m a b w hm).mono ?_
    rintro e w1 ⟨rfl, rfl⟩
    go_wp2
    go_ret
    exact ⟨rfl, Below.refl _ _⟩
/-- Where the plays stand. -/
structure PT (tp mb : Nat) (m : Int) (W w : World) (L : List Int) (v : Value) : Prop where
  tw : TW tp 15 #[.pointer (some ⟨mb, 0, none⟩)] (CM mb m) J3 (oM m) W w L
  nv : NV w v L
  off : ∀ b, v.ownBlock = some b → b ≠ tp ∧ b < w.heap.size
theorem PT.on {tp mb : Nat} {m : Int} (hO : OV tp 15 #[.pointer (some ⟨mb, 0, none⟩)] (CM mb m) J3 (oM m)) {W w w' : World} {L : List Int} {v : Value} (h : PT tp mb m W w L v) (hb : Below w.heap.size w w') : PT tp mb m W w' L v :=
  ⟨h.tw.on hO hb, h.nv.below hb, fun b e => ⟨(h.off b e).1, Nat.lt_of_lt_of_le (h.off b e).2 hb.size⟩⟩
/-- The tree was changed, and then a new list was made. -/
theorem PT.step {tp mb : Nat} {m : Int} (hO : OV tp 15 #[.pointer (some ⟨mb, 0, none⟩)] (CM mb m) J3 (oM m)) {W w w1 w2 : World} {L L' : List Int} {v v' : Value} (h : PT tp mb m W w L v)
    (ht : TT tp 15 #[.pointer (some ⟨mb, 0, none⟩)] (CM mb m) J3 (oM m) w1 L') (hc : Chg (TF tp) w w1) (ho : ON w2 w1.heap.size v' L') (hb : Below w1.heap.size w1 w2) : PT tp mb m W w2 L' v' :=
  ⟨(h.tw.step ht hc).on hO hb, ho.rs (fun _ => rfl), fun b e => ⟨by have := (ho.lt b e).1; have h2 := ht.lt; omega, (ho.lt b e).2⟩⟩
set_option maxRecDepth 100000 in
set_option maxHeartbeats 4000000 in
theorem plays8 (v0 : Value) (acts : List TAct) (m i : Int) (hi : i ≤ 9223372036854775807) (W : World) (hA : RS 2 tenc W v0 acts) : Calls Try.prog 3 #[.int .i64 m, v0, .int .i64 i] W fun e W' => e = .returned (.bool true) ∧ Below W.heap.size W W' := by
  obtain ⟨a, n, cp, rfl, hn, hc, hm, hat⟩ := hA.at_
  by_cases hbig : 120 < n
  · have hbI : (120 : Int) < (n : Int) := by omega
    clear hat hA hn
    go_enter Try.func3, Try.ntmps3
    go_wp2
    go_ret
    exact ⟨rfl, ba (Below.refl _ _) _⟩
  have hbI : (n : Int) ≤ 120 := by omega
  by_cases hm2 : 1000 < m
  · clear hat hA hn hbig
    go_enter Try.func3, Try.ntmps3
    go_wp2
    go_ret
    exact ⟨rfl, ba (Below.refl _ _) _⟩
  have hm1 : m ≤ 1000 := by omega
  have HAT := Lib.hid hat; have HN := Lib.hid hn
  clear hat hA hn hbig hm hm2
  have hmf : ∀ (fn : Fn) (first cap : Array Value) (w : World), (Instr.makeFunc fn first cap).run Try.prog w = .ok (.func fn first cap) w := fun _ _ _ _ => rfl
  have HO := Lib.hid (ovM hm1 W.heap.size (W.heap.size + 1) (by omega))
  have hb0 : Below W.heap.size W (W.alloc (.cells #[.int .i64 m] 3)) := ba (Below.refl _ _) _
  have hb1 : Below (W.alloc (.cells #[.int .i64 m] 3)).heap.size (W.alloc (.cells #[.int .i64 m] 3)) ((W.alloc (.cells #[.int .i64 m] 3)).alloc (.cells #[.func (.func 15) #[] #[.pointer (some ⟨W.heap.size, 0, none⟩)], .pointer none] 45)) := ba (Below.refl _ _) _
  have hnew := heap_alloc_new (W.alloc (.cells #[.int .i64 m] 3)) (.cells #[.func (.func 15) #[] #[.pointer (some ⟨W.heap.size, 0, none⟩)], .pointer none] 45)
  rw [show (W.alloc (.cells #[.int .i64 m] 3)).heap.size = W.heap.size + 1 by simp] at hnew
  have H0 := Lib.hid (show PT (W.heap.size + 1) W.heap.size m W ((W.alloc (.cells #[.int .i64 m] 3)).alloc (.cells #[.func (.func 15) #[] #[.pointer (some ⟨W.heap.size, 0, none⟩)], .pointer none] 45)) [] (.slice none 0 0) from
    ⟨⟨⟨⟨none, .lf, hnew, rfl, rfl⟩, ⟨by simp; omega, (hb1.cell (p := ⟨W.heap.size, 0, none⟩) (by simp)).trans (cell_hd (heap_alloc_new W _) 0)⟩, SL.nil⟩, bt hb0 hb1, Nat.le_succ _⟩, RS.nil _ _ _, fun b e => by cases e⟩)
  have c0 : (W.alloc (.cells #[.int .i64 m] 3)).cell? ⟨W.heap.size, 0, none⟩ = some (.int .i64 m) := cell_hd (heap_alloc_new W _) 0
  clear hb0 hb1 hnew
  go_enter Try.func3, Try.ntmps3
  go_wp2_with fail
  refine (tnew _).mono ?_
  rintro e w1 ⟨rfl, rfl⟩
  clear c0
  rw [show (W.alloc (.cells #[.int .i64 m] 3)).heap.size = W.heap.size + 1 by simp]
  generalize (W.alloc (.cells #[.int .i64 m] 3)).alloc (.cells #[.func (.func 15) #[] #[.pointer (some ⟨W.heap.size, 0, none⟩)], .pointer none] 45) = w1 at *
  obtain ⟨mb, hmb⟩ : ∃ mb, mb = W.heap.size := ⟨_, rfl⟩
  rw [← hmb] at HO H0 ⊢
  clear hmb
  obtain ⟨tp, htp⟩ : ∃ tp, tp = mb + 1 := ⟨_, rfl⟩
  rw [← htp] at HO H0 ⊢
  clear htp
  go_wp2
  go_loopw [8, 9] (fun lv iv wr => ∃ (t : Nat) (L : List Int), t ≤ n ∧ iv = .int .i64 t ∧ L.length ≤ t ∧ Hid (PT tp mb m W wr L lv)) (fun _ iv _ => n - (intOf iv).toNat)
  case atStart => exact ⟨0, [], Nat.zero_le _, rfl, Nat.le_refl _, H0⟩
  case round =>
    clear H0
    obtain ⟨t, L, ht, rfl, hLl, H3⟩ := hrel
    obtain ⟨w2, rfl⟩ : ∃ w2, w2 = wr := ⟨_, rfl⟩
    obtain ⟨ao, no, co, hvo, hno, hno1, hno2, hato⟩ := H3.out.nv.at_
    subst hvo
    have HATO := Lib.hid hato
    clear hno1 hno2 hato
    by_cases hlt : t < n
    · have hts : (t : Int) < (n : Int) := by omega
      obtain ⟨x, hx⟩ := at_lt (l := acts) (i := t) (by rw [← HN.out]; exact hlt)
      obtain ⟨b, off, rfl, hb, hcell⟩ := HAT.out t x hx
      obtain ⟨d, k⟩ := x
      have HCX := Lib.hid hcell; have HBB := Lib.hid hb
      clear hcell hx hb hno HATO
      have e0 := ((H3.out.tw.bel).cell (p := ⟨b, off + t * 2 + 0, none⟩) HBB.out).trans (HCX.out 0 _ rfl)
      have e1 := ((H3.out.tw.bel).cell (p := ⟨b, off + t * 2 + 1, none⟩) HBB.out).trans (HCX.out 1 _ rfl)
      simp only [Nat.add_zero] at e0
      have qs : b < w2.heap.size := Nat.lt_of_lt_of_le HBB.out (H3.out.tw.bel).size
      obtain ⟨hml, hmc⟩ := H3.out.tw.tt.c
      have hth := plL_has L k
      generalize hpl : plL L k = pl at *
      have HPL := Lib.hid hpl
      clear hpl
      obtain ⟨q, hq⟩ : ∃ q, hasL k L = q := ⟨_, rfl⟩
      rw [hq] at hth
      have HQ := Lib.hid hq
      clear hq
      go_wp2_with fail
      refine (rplace H3.out.nv k (by omega)).mono ?_
      rintro e w9 ⟨rfl, rfl⟩
      rw [HPL.out]
      go_wp2_with fail
      refine (thas HO.out H3.out.tw.tt (k := k) trivial (by omega)).mono ?_
      rintro e w3 ⟨rfl, hb3⟩
      rw [HQ.out]
      have H3' := Lib.hid (H3.out.on HO.out hb3)
      clear hb3 e0 e1 qs hml hmc H3
      obtain ⟨H3, hH3⟩ : ∃ H3, H3 = H3' := ⟨_, rfl⟩
      clear hH3 H3'
      have e0 := ((H3.out.tw.bel).cell (p := ⟨b, off + t * 2 + 0, none⟩) HBB.out).trans (HCX.out 0 _ rfl)
      have e1 := ((H3.out.tw.bel).cell (p := ⟨b, off + t * 2 + 1, none⟩) HBB.out).trans (HCX.out 1 _ rfl)
      simp only [Nat.add_zero] at e0
      have qs : b < w3.heap.size := Nat.lt_of_lt_of_le HBB.out (H3.out.tw.bel).size
      obtain ⟨hml, hmc⟩ := H3.out.tw.tt.c
      cases q with
      | true =>
        cases d with
        | true =>
          go_wp2_with fail
          refine (tdrop HO.out H3.out.tw.tt (k := k) trivial (by omega)).mono ?_
          rintro e w4 ⟨rfl, h4, c4⟩
          rw [HQ.out]
          have HC4 := Lib.hid c4
          have HT4 := Lib.hid h4
          have HV4 := Lib.hid (H3.out.nv.chg c4 fun b e => (H3.out.off b e).1)
          clear h4 c4 e0 e1 qs
          go_wp2_with fail
          refine (rdrop HV4.out k (by omega)).mono ?_
          rintro e w6 ⟨v6, rfl, o6, hb6⟩
          have H6 := Lib.hid (H3.out.step HO.out HT4.out HC4.out o6 hb6)
          have hl6 : (delL k L).length ≤ L.length := List.length_filter_le _ _
          clear o6 hb6
          generalize delL k L = L6 at *
          go_wp2_with fail
          refine (tlong H6.out.tw.tt).mono ?_
          rintro e w7 ⟨rfl, rfl⟩
          obtain ⟨a6, n6, c6, rfl, hn6, _, _, _⟩ := H6.out.nv.at_
          have HN6 := Lib.hid hn6
          clear hn6
          rw [show (L6.length : Int) = (n6 : Int) by rw [HN6.out]]
          go_wp2_with fail
          refine (tplace HO.out H6.out.tw.tt (k := k) trivial (by omega)).mono ?_
          rintro e w8 ⟨rfl, hb8⟩
          have H8 := Lib.hid (H6.out.on HO.out hb8)
          clear hb8
          go_wp2_with fail
          refine (rplace H8.out.nv k (by omega)).mono ?_
          rintro e w9 ⟨rfl, rfl⟩
          generalize plL L6 k = pl6 at *
          go_wp2
          go_roundw
          case rel => exact ⟨t + 1, L6, by omega, by go_num, by omega, H8⟩
          case measure => simp [intOf]; omega
        | false =>
          go_wp2_with fail
          refine (tput HO.out H3.out.tw.tt (k := k) trivial (by omega)).mono ?_
          rintro e w4 ⟨rfl, h4, c4⟩
          rw [HQ.out]
          have HC4 := Lib.hid c4
          have HT4 := Lib.hid h4
          have HV4 := Lib.hid (H3.out.nv.chg c4 fun b e => (H3.out.off b e).1)
          clear e0 e1 qs hml hmc
          obtain ⟨hml, hmc⟩ := h4.c
          clear h4 c4
          go_wp2_with fail
          refine (rput HV4.out m k hm1 (by omega)).mono ?_
          rintro e w6 ⟨v6, rfl, o6, hb6⟩
          have H6 := Lib.hid (H3.out.step HO.out HT4.out HC4.out o6 hb6)
          have hl6 := insL_le (oM m) k L
          clear o6 hb6 hml hmc
          generalize insL (oM m) k L = L6 at *
          go_wp2_with fail
          refine (tlong H6.out.tw.tt).mono ?_
          rintro e w7 ⟨rfl, rfl⟩
          obtain ⟨a6, n6, c6, rfl, hn6, _, _, _⟩ := H6.out.nv.at_
          have HN6 := Lib.hid hn6
          clear hn6
          rw [show (L6.length : Int) = (n6 : Int) by rw [HN6.out]]
          go_wp2_with fail
          refine (tplace HO.out H6.out.tw.tt (k := k) trivial (by omega)).mono ?_
          rintro e w8 ⟨rfl, hb8⟩
          have H8 := Lib.hid (H6.out.on HO.out hb8)
          clear hb8
          go_wp2_with fail
          refine (rplace H8.out.nv k (by omega)).mono ?_
          rintro e w9 ⟨rfl, rfl⟩
          generalize plL L6 k = pl6 at *
          go_wp2
          go_roundw
          case rel => exact ⟨t + 1, L6, by omega, by go_num, by omega, H8⟩
          case measure => simp [intOf]; omega
      | false =>
        cases d with
        | true =>
          go_wp2_with fail
          refine (tdrop HO.out H3.out.tw.tt (k := k) trivial (by omega)).mono ?_
          rintro e w4 ⟨rfl, h4, c4⟩
          rw [HQ.out]
          have HC4 := Lib.hid c4
          have HT4 := Lib.hid h4
          have HV4 := Lib.hid (H3.out.nv.chg c4 fun b e => (H3.out.off b e).1)
          clear h4 c4 e0 e1 qs
          go_wp2_with fail
          refine (rdrop HV4.out k (by omega)).mono ?_
          rintro e w6 ⟨v6, rfl, o6, hb6⟩
          have H6 := Lib.hid (H3.out.step HO.out HT4.out HC4.out o6 hb6)
          have hl6 : (delL k L).length ≤ L.length := List.length_filter_le _ _
          clear o6 hb6
          generalize delL k L = L6 at *
          go_wp2_with fail
          refine (tlong H6.out.tw.tt).mono ?_
          rintro e w7 ⟨rfl, rfl⟩
          obtain ⟨a6, n6, c6, rfl, hn6, _, _, _⟩ := H6.out.nv.at_
          have HN6 := Lib.hid hn6
          clear hn6
          rw [show (L6.length : Int) = (n6 : Int) by rw [HN6.out]]
          go_wp2_with fail
          refine (tplace HO.out H6.out.tw.tt (k := k) trivial (by omega)).mono ?_
          rintro e w8 ⟨rfl, hb8⟩
          have H8 := Lib.hid (H6.out.on HO.out hb8)
          clear hb8
          go_wp2_with fail
          refine (rplace H8.out.nv k (by omega)).mono ?_
          rintro e w9 ⟨rfl, rfl⟩
          generalize plL L6 k = pl6 at *
          go_wp2
          go_roundw
          case rel => exact ⟨t + 1, L6, by omega, by go_num, by omega, H8⟩
          case measure => simp [intOf]; omega
        | false =>
          go_wp2_with fail
          refine (tput HO.out H3.out.tw.tt (k := k) trivial (by omega)).mono ?_
          rintro e w4 ⟨rfl, h4, c4⟩
          rw [HQ.out]
          have HC4 := Lib.hid c4
          have HT4 := Lib.hid h4
          have HV4 := Lib.hid (H3.out.nv.chg c4 fun b e => (H3.out.off b e).1)
          clear e0 e1 qs hml hmc
          obtain ⟨hml, hmc⟩ := h4.c
          clear h4 c4
          go_wp2_with fail
          refine (rput HV4.out m k hm1 (by omega)).mono ?_
          rintro e w6 ⟨v6, rfl, o6, hb6⟩
          have H6 := Lib.hid (H3.out.step HO.out HT4.out HC4.out o6 hb6)
          have hl6 := insL_le (oM m) k L
          clear o6 hb6 hml hmc
          generalize insL (oM m) k L = L6 at *
          go_wp2_with fail
          refine (tlong H6.out.tw.tt).mono ?_
          rintro e w7 ⟨rfl, rfl⟩
          obtain ⟨a6, n6, c6, rfl, hn6, _, _, _⟩ := H6.out.nv.at_
          have HN6 := Lib.hid hn6
          clear hn6
          rw [show (L6.length : Int) = (n6 : Int) by rw [HN6.out]]
          go_wp2_with fail
          refine (tplace HO.out H6.out.tw.tt (k := k) trivial (by omega)).mono ?_
          rintro e w8 ⟨rfl, hb8⟩
          have H8 := Lib.hid (H6.out.on HO.out hb8)
          clear hb8
          go_wp2_with fail
          refine (rplace H8.out.nv k (by omega)).mono ?_
          rintro e w9 ⟨rfl, rfl⟩
          generalize plL L6 k = pl6 at *
          go_wp2
          go_roundw
          case rel => exact ⟨t + 1, L6, by omega, by go_num, by omega, H8⟩
          case measure => simp [intOf]; omega
    · obtain rfl : n = t := by omega
      have hL6 : L.length < 1000000 := by omega
      go_wp2_with fail
      refine (tat H3.out.tw.tt hi hL6).mono ?_
      rintro e w4 ⟨rfl, rfl⟩
      by_cases h0 : 0 ≤ i
      · obtain ⟨j, rfl⟩ : ∃ j : Nat, i = j := ⟨i.toNat, by omega⟩
        by_cases hj : j < no
        · obtain ⟨x, hx⟩ := at_lt (l := L) (i := j) (by omega)
          obtain ⟨y, hy⟩ := at_lt (l := L) (i := 0) (by omega)
          rw [show atL L (j : Int) = some x by unfold atL; rw [if_pos (by omega)]; simpa using hx]
          rw [show atV (some x) = .tuple #[.int .i64 x, .bool true] from rfl]
          obtain ⟨b, off, rfl, hb, hcell⟩ := HATO.out j x hx
          obtain ⟨b', off', hq, _, hcell'⟩ := HATO.out 0 y hy
          cases hq
          have e0 := hcell 0 _ rfl
          have f0 := hcell' 0 _ rfl
          simp only [Nat.add_zero, Nat.mul_one, Nat.zero_mul] at e0 f0
          have hjI : (j : Int) < (no : Int) := by omega
          have hnI : (0 : Int) < (no : Int) := by omega
          have hn0 : 0 < no := by omega
          have HF := Lib.hid (show atL L 0 = some y by unfold atL; rw [if_pos (by omega)]; simpa using hy)
          clear hcell hcell' hx hy hno
          go_wp2_with fail
          refine (tfirst H3.out.tw.tt hL6).mono ?_
          rintro e w4 ⟨rfl, rfl⟩
          rw [HF.out, show atV (some y) = .tuple #[.int .i64 y, .bool true] from rfl]
          go_wp2_with fail
          refine (tall H3.out.tw.tt hL6).mono ?_
          rintro e w4 ⟨v4, rfl, o4, hb4⟩
          have H4 := Lib.hid (H3.out.on HO.out hb4)
          have HV4 := Lib.hid (o4.rs (fun _ => rfl))
          clear o4 hb4
          go_wp2_with fail
          refine (same8 HV4.out H4.out.nv hL6).mono ?_
          rintro e w5 ⟨rfl, hb5⟩
          have H5 := Lib.hid (H4.out.on HO.out hb5)
          clear hb5
          go_wp2_with fail
          refine (works08 w5).mono ?_
          rintro e w6 ⟨rfl, hb6⟩
          have HB6 := Lib.hid (bt H5.out.tw.bel hb6)
          clear hb6
          go_wp2
          go_ret
          exact ⟨rfl, HB6.out⟩
        · have hjI : (no : Int) ≤ (j : Int) := by omega
          rw [show atL L (j : Int) = none by unfold atL; rw [if_pos (by omega)]; simp; omega]
          rw [show atV none = .tuple #[.int .i64 0, .bool false] from rfl]
          by_cases hn0 : 0 < no
          · obtain ⟨y, hy⟩ := at_lt (l := L) (i := 0) (by omega)
            obtain ⟨b', off', hq, _, hcell'⟩ := HATO.out 0 y hy
            cases hq
            have f0 := hcell' 0 _ rfl
            simp only [Nat.add_zero, Nat.mul_one, Nat.zero_mul] at f0
            have hnI : (0 : Int) < (no : Int) := by omega
            have HF := Lib.hid (show atL L 0 = some y by unfold atL; rw [if_pos (by omega)]; simpa using hy)
            clear hcell' hy hno
            go_wp2_with fail
            refine (tfirst H3.out.tw.tt hL6).mono ?_
            rintro e w4 ⟨rfl, rfl⟩
            rw [HF.out, show atV (some y) = .tuple #[.int .i64 y, .bool true] from rfl]
            go_wp2_with fail
            refine (tall H3.out.tw.tt hL6).mono ?_
            rintro e w4 ⟨v4, rfl, o4, hb4⟩
            have H4 := Lib.hid (H3.out.on HO.out hb4)
            have HV4 := Lib.hid (o4.rs (fun _ => rfl))
            clear o4 hb4
            go_wp2_with fail
            refine (same8 HV4.out H4.out.nv hL6).mono ?_
            rintro e w5 ⟨rfl, hb5⟩
            have H5 := Lib.hid (H4.out.on HO.out hb5)
            clear hb5
            go_wp2_with fail
            refine (works08 w5).mono ?_
            rintro e w6 ⟨rfl, hb6⟩
            have HB6 := Lib.hid (bt H5.out.tw.bel hb6)
            clear hb6
            go_wp2
            go_ret
            exact ⟨rfl, HB6.out⟩
          · obtain rfl : no = 0 := by omega
            have HF := Lib.hid (show atL L 0 = none by rw [List.eq_nil_of_length_eq_zero hno.symm]; rfl)
            clear hno
            go_wp2_with fail
            refine (tfirst H3.out.tw.tt hL6).mono ?_
            rintro e w4 ⟨rfl, rfl⟩
            rw [HF.out, show atV none = .tuple #[.int .i64 0, .bool false] from rfl]
            go_wp2_with fail
            refine (tall H3.out.tw.tt hL6).mono ?_
            rintro e w4 ⟨v4, rfl, o4, hb4⟩
            have H4 := Lib.hid (H3.out.on HO.out hb4)
            have HV4 := Lib.hid (o4.rs (fun _ => rfl))
            clear o4 hb4
            go_wp2_with fail
            refine (same8 HV4.out H4.out.nv hL6).mono ?_
            rintro e w5 ⟨rfl, hb5⟩
            have H5 := Lib.hid (H4.out.on HO.out hb5)
            clear hb5
            go_wp2_with fail
            refine (works08 w5).mono ?_
            rintro e w6 ⟨rfl, hb6⟩
            have HB6 := Lib.hid (bt H5.out.tw.bel hb6)
            clear hb6
            go_wp2
            go_ret
            exact ⟨rfl, HB6.out⟩
      · have hneg : i < 0 := by omega
        rw [show atL L i = none by unfold atL; rw [if_neg h0]]
        rw [show atV none = .tuple #[.int .i64 0, .bool false] from rfl]
        by_cases hn0 : 0 < no
        · obtain ⟨y, hy⟩ := at_lt (l := L) (i := 0) (by omega)
          obtain ⟨b', off', hq, _, hcell'⟩ := HATO.out 0 y hy
          cases hq
          have f0 := hcell' 0 _ rfl
          simp only [Nat.add_zero, Nat.mul_one, Nat.zero_mul] at f0
          have hnI : (0 : Int) < (no : Int) := by omega
          have HF := Lib.hid (show atL L 0 = some y by unfold atL; rw [if_pos (by omega)]; simpa using hy)
          clear hcell' hy hno
          go_wp2_with fail
          refine (tfirst H3.out.tw.tt hL6).mono ?_
          rintro e w4 ⟨rfl, rfl⟩
          rw [HF.out, show atV (some y) = .tuple #[.int .i64 y, .bool true] from rfl]
          go_wp2_with fail
          refine (tall H3.out.tw.tt hL6).mono ?_
          rintro e w4 ⟨v4, rfl, o4, hb4⟩
          have H4 := Lib.hid (H3.out.on HO.out hb4)
          have HV4 := Lib.hid (o4.rs (fun _ => rfl))
          clear o4 hb4
          go_wp2_with fail
          refine (same8 HV4.out H4.out.nv hL6).mono ?_
          rintro e w5 ⟨rfl, hb5⟩
          have H5 := Lib.hid (H4.out.on HO.out hb5)
          clear hb5
          go_wp2_with fail
          refine (works08 w5).mono ?_
          rintro e w6 ⟨rfl, hb6⟩
          have HB6 := Lib.hid (bt H5.out.tw.bel hb6)
          clear hb6
          go_wp2
          go_ret
          exact ⟨rfl, HB6.out⟩
        · obtain rfl : no = 0 := by omega
          have HF := Lib.hid (show atL L 0 = none by rw [List.eq_nil_of_length_eq_zero hno.symm]; rfl)
          clear hno
          go_wp2_with fail
          refine (tfirst H3.out.tw.tt hL6).mono ?_
          rintro e w4 ⟨rfl, rfl⟩
          rw [HF.out, show atV none = .tuple #[.int .i64 0, .bool false] from rfl]
          go_wp2_with fail
          refine (tall H3.out.tw.tt hL6).mono ?_
          rintro e w4 ⟨v4, rfl, o4, hb4⟩
          have H4 := Lib.hid (H3.out.on HO.out hb4)
          have HV4 := Lib.hid (o4.rs (fun _ => rfl))
          clear o4 hb4
          go_wp2_with fail
          refine (same8 HV4.out H4.out.nv hL6).mono ?_
          rintro e w5 ⟨rfl, hb5⟩
          have H5 := Lib.hid (H4.out.on HO.out hb5)
          clear hb5
          go_wp2_with fail
          refine (works08 w5).mono ?_
          rintro e w6 ⟨rfl, hb6⟩
          have HB6 := Lib.hid (bt H5.out.tw.bel hb6)
          clear hb6
          go_wp2
          go_ret
          exact ⟨rfl, HB6.out⟩
namespace TreePlays
open Go.ChangeShapes Go.WideShapes Go.ChangeAt Go.RowKit Go.Joins
theorem own : ownKnob Try.prog.godebug = none := by kernel_rfl
theorem laidOut : laidOutB Try.prog = true := by kernel_rfl
set_option maxRecDepth 100000 in
theorem lifted (os : Os) (started : os.Started) (H : Type) (enc : TypeId × Value → H) :
    ReturnsInHanded {} Try.checked os 3 .any (Rows.treePlaysSpec.pre6 enc Try.prog Try.f3 Rows.treePlaysRow.domain false) (Rows.treePlaysSpec.post enc Try.prog Try.f3 false true false false) := by
  refine returnsInHanded_of_change (C := Try.checked) own started (by kernel_rfl) Try.func3
    (ChangeSpec.witness6 (enc := enc) (C := Try.checked) false ⟨#[], #[.int .i64 0, .slice none 0 0, .int .i64 0], []⟩ 8 (by kernel_rfl) (by kernel_rfl) (by kernel_rfl) (by kernel_rfl)) ?_
  intro W base args ds gs before hval0 hW hcnd _
  have hval : ∀ (j : Nat) t v, Try.f3.params[j]? = some t → args[j]? = some v → Value.okWide Try.prog W .any base t v := hval0
  have hW' := hW
  obtain ⟨p, q, hA0, hV, rfl, hfz, hnd⟩ := hW
  have hA : DataW.TrodAll enc Try.prog W 0 (fun _ => true) true Try.f3.params.toList args.toList ds p := hA0
  rw [Try.params3] at hA hval
  obtain ⟨v0, vs0, d0, ds0, p0, q0, hargs, rfl, rfl, h0, r0⟩ := trodAll_cons hA
  obtain ⟨v1, vs1, d1, ds1, p1, q1, rfl, rfl, rfl, h1, r1⟩ := trodAll_cons r0
  obtain ⟨v2, vs2, d2, ds2, p2, q2, rfl, rfl, rfl, h2, r2⟩ := trodAll_cons r1
  obtain ⟨rfl, rfl, rfl⟩ := trodAll_nil r2
  obtain rfl : args = #[v0, v1, v2] := by cases args; simp_all
  obtain ⟨rfl, rfl⟩ := trodVars_none hV
  have k0 := h0
  have lt0 : ∀ x ∈ p0, x.block < W.heap.size := by obtain ⟨m, hm⟩ := k0; exact DataW.trod_lt m _ _ _ hm
  have k1 := h1
  have lt1 : ∀ x ∈ p1, x.block < W.heap.size := by obtain ⟨m, hm⟩ := k1; exact DataW.trod_lt m _ _ _ hm
  have k2 := h2
  have lt2 : ∀ x ∈ p2, x.block < W.heap.size := by obtain ⟨m, hm⟩ := k2; exact DataW.trod_lt m _ _ _ hm
  obtain ⟨m, vEq0, _, _, wf_m⟩ := open_int Try.underlying3 (hval 0 3 v0 rfl rfl) k0
  subst vEq0
  obtain ⟨la, oA, _, _⟩ := open_tacts (hval 1 22 v1 rfl rfl) k1
  obtain ⟨i, vEq2, _, _, wf_i⟩ := open_int Try.underlying3 (hval 2 3 v2 rfl rfl) k2
  subst vEq2
  have hi : i ≤ 9223372036854775807 := by
    have := wf_i
    simp [Lit.wf, IntKind.min, IntKind.max, IntKind.signed, IntKind.bits] at this
    omega
  clear hA0 hval0
  refine (plays8 v1 la m i hi W oA).mono fun e W' ⟨he, bel⟩ => ?_
  subst he
  exact ⟨_, rfl, _, _, _, [], _, [], hW', trodAll_mk1 (shut_bool Try.underlying4 _), (trodAll_cons_mk (Below.trod laidOut (by kernel_rfl) (of_decide_eq_true (by kernel_rfl)) k0 bel lt0) (trodAll_cons_mk (Below.trod laidOut (by kernel_rfl) (of_decide_eq_true (by kernel_rfl)) k1 bel lt1) (trodAll_cons_mk (Below.trod laidOut (by kernel_rfl) (of_decide_eq_true (by kernel_rfl)) k2 bel lt2) trodAll_mk0))), rfl, bel.frame _, fun h => by cases h⟩
theorem over : Rows.treePlaysRow.holds Try.pinned (OpenSpec.ofChange Rows.treePlaysSpec) :=
  OpenClaim.holds_of_wide 3 Try.f3 rfl rfl rfl rfl rfl rfl rfl ⟨rfl, rfl, rfl, rfl, rfl⟩ rfl rfl rfl rfl rfl (by kernel_rfl) Try.func3 (by kernel_rfl)
    (of_decide_eq_true (by kernel_rfl)) (by unfold Func.isWrapper; first | (rw [if_pos (by decide +kernel)]; kernel_rfl) | (rw [if_neg (by decide +kernel)]; exact ⟨rfl, rfl⟩))
    (fun os started H enc _ => lifted os started H enc)
theorem proved : Rows.TreePlaysSaid := over
end TreePlays
end Go.Proofs.Ytajcelmnblncaaa

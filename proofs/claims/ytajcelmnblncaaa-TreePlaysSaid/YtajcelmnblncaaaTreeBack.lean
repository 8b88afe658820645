/- For any list and any number the statement TreeBack returns true. Condition: none. -/
import Derived.Test.YtajcelmnblncaaaTr10
import Derived.Test.YtajcelmnblncaaaOpenRS
namespace Go.Proofs.Ytajcelmnblncaaa
open Go.RowKit Go.ChangeShapes Go.WideShapes Go.ChangeAt Go.Joins Go.Deep
attribute [local go_sem] ext_cell ext_frozen extC_cell extC_frozen Mix.calmUpon Mix.mUpon
theorem c1n : Try.prog.cellsOf 3 = 1 := by kernel_rfl
set_option maxRecDepth 100000 in
theorem open_nums {H : Type} {enc : TypeId × Value → H} {W : World} {base : Nat} {sp : Nat → Bool} {held : Bool} {r : Reach} {b0 : Nat} {v : Value} {d : DataW H} {p : List MemPlace}
    (hv : Value.okWide Try.prog W r b0 27 v) (h : DataW.Trod enc Try.prog W base sp held 27 v d p) : ∃ l : List Int, RS 1 nenc W v l ∧ (∀ x ∈ l, True) ∧ ∀ b, v.ownBlock = some b → b < W.heap.size := by
  refine open_rs (P := Try.prog) (k := 1) (enc := nenc) (ok := fun _ => True) Try.underlying27 c1n (fun _ => rfl) (fun m cs x hl hf => ?_) hv h
  match cs, hl with
  | [c0], _ =>
    obtain ⟨a, ea, _, _⟩ := DataW.trod_int Try.underlying3 hf
    simp at ea
    subst ea
    exact ⟨a, rfl, trivial⟩
def J3 (_ : Int) : Prop := True
def o3 (a b : Int) : Int := if a < b then -1 else if b < a then 1 else 0
theorem oa3 : OA J3 o3 where
  zero a b _ _ := by unfold o3; split <;> (try split) <;> omega
  anti a b _ _ := by unfold o3; split <;> split <;> (try split) <;> omega
  trans a b c _ _ _ h1 h2 := by
    unfold o3 at *
    split at h1
    · split at h2
      · rw [if_pos (by omega)]; omega
      · split at h2 <;> omega
    · split at h1 <;> omega
  in64 a b _ _ := by unfold o3; split <;> (try split) <;> omega
theorem o3_lt {a b : Int} : o3 a b < 0 ↔ a < b := by unfold o3; split <;> (try split) <;> omega
theorem ov3 (tp : Nat) : OV tp 30 #[] (fun _ => True) J3 o3 where
  ord := oa3
  cf a b w := by simp [go_sem]
  clo _ _ h _ := h
  call w a b _ _ _ := by
    show Calls Try.prog 30 #[.int .i64 a, .int .i64 b] w _
    by_cases h1 : a < b
    · have HE := Lib.hid (show o3 a b = -1 from if_pos h1)
      go_enter Try.func30, Try.ntmps30
      go_wp2
      go_ret
      exact ⟨by rw [HE.out]; rfl, Below.refl _ _⟩
    · by_cases h2 : b < a
      · have HE := Lib.hid (show o3 a b = 1 by unfold o3; rw [if_neg h1, if_pos h2])
        go_enter Try.func30, Try.ntmps30
        go_wp2
        go_ret
        exact ⟨by rw [HE.out]; rfl, Below.refl _ _⟩
      · have HE := Lib.hid (show o3 a b = 0 by unfold o3; rw [if_neg h1, if_neg h2])
        go_enter Try.func30, Try.ntmps30
        go_wp2
        go_ret
        exact ⟨by rw [HE.out]; rfl, Below.refl _ _⟩
theorem del_ins {o : Int → Int → Int} {k : Int} (hz : ∀ y, o k y = 0 → k = y) : ∀ {L : List Int}, k ∉ L → delL k (insL o k L) = L
  | [], _ => by simp [insL, delL]
  | x :: t, h => by
    have hx : x ≠ k := fun e => h (by simp [e])
    have ht : k ∉ t := fun e => h (by simp [e])
    simp only [insL]
    split
    · have h1 := delL_not h
      unfold delL at *
      rw [List.filter_cons, if_neg (by simp)]
      exact h1
    · split
      · rename_i h1; exact absurd (hz x h1).symm hx
      · have := del_ins hz ht
        unfold delL at *
        rw [List.filter_cons, if_pos (by simpa using hx), this]
theorem insL_le (o : Int → Int → Int) (k : Int) (L : List Int) : (insL o k L).length ≤ L.length + 1 := insL_len o k L
theorem has_ins {o : Int → Int → Int} {k : Int} (hz : ∀ y, o k y = 0 → k = y) (L : List Int) : hasL k (insL o k L) = true := by
  unfold hasL
  exact decide_eq_true ((mem_insL hz).2 (.inl rfl))
abbrev TB8 (tp : Nat) (W w : World) (L : List Int) : Prop := TW tp 30 #[] (fun _ => True) J3 o3 W w L
set_option maxRecDepth 100000 in
set_option maxHeartbeats 4000000 in
theorem back8 (v0 : Value) (l : List Int) (k : Int) (W : World) (hA : RS 1 nenc W v0 l) : Calls Try.prog 4 #[v0, .int .i64 k] W fun e W' => e = .returned (.bool true) ∧ Below W.heap.size W W' := by
  obtain ⟨a, n, cp, rfl, hn, hc, hm, hat⟩ := hA.at_
  by_cases hbig : 120 < n
  · have hbI : (120 : Int) < (n : Int) := by omega
    clear hat hA hn
    go_enter Try.func4, Try.ntmps4
    go_wp2
    go_ret
    exact ⟨rfl, Below.refl _ _⟩
  have hbI : (n : Int) ≤ 120 := by omega
  have HAT := Lib.hid hat; have HN := Lib.hid hn
  clear hat hA hn hbig hm
  have HO := Lib.hid (ov3 W.heap.size)
  have hb0 : Below W.heap.size W (W.alloc (.cells #[.func (.func 30) #[] #[], .pointer none] 45)) := ba (Below.refl _ _) _
  have H0 := Lib.hid (show TB8 W.heap.size W (W.alloc (.cells #[.func (.func 30) #[] #[], .pointer none] 45)) [] from ⟨⟨⟨none, .lf, heap_alloc_new W _, rfl, rfl⟩, trivial, SL.nil⟩, hb0, Nat.le_refl _⟩)
  clear hb0
  go_enter Try.func4, Try.ntmps4
  go_wp2_with fail
  refine (tnew W).mono ?_
  rintro e w1 ⟨rfl, rfl⟩
  generalize W.alloc (.cells #[.func (.func 30) #[] #[], .pointer none] 45) = w1 at *
  obtain ⟨tp, htp⟩ : ∃ tp, tp = W.heap.size := ⟨_, rfl⟩
  rw [← htp] at HO H0 ⊢
  clear htp
  go_wp2
  go_loopw [6] (fun iv wr => ∃ (t : Nat) (L : List Int), t ≤ n ∧ iv = .int .i64 t ∧ L.length ≤ t ∧ Hid (TB8 tp W wr L)) (fun iv _ => n - (intOf iv).toNat)
  case atStart => exact ⟨0, [], Nat.zero_le _, rfl, Nat.le_refl _, H0⟩
  case round =>
    clear H0
    obtain ⟨t, L, ht, rfl, hLl, HQ⟩ := hrel
    obtain ⟨w2, rfl⟩ : ∃ w2, w2 = wr := ⟨_, rfl⟩
    by_cases hlt : t < n
    · have hts : (t : Int) < (n : Int) := by omega
      obtain ⟨x, hx⟩ := at_lt (l := l) (i := t) (by rw [← HN.out]; exact hlt)
      obtain ⟨b, off, rfl, hb, hcell⟩ := HAT.out t x hx
      have e0 := (HQ.out.bel.cell (p := ⟨b, off + t * 1 + 0, none⟩) hb).trans (hcell 0 _ rfl)
      simp only [Nat.add_zero, Nat.mul_one] at e0
      have hbw : b < w2.heap.size := Nat.lt_of_lt_of_le hb HQ.out.bel.size
      have hil := insL_le o3 x L
      clear hcell hx hb
      go_wp2_with fail
      refine (tput HO.out HQ.out.tt (k := x) trivial (by omega)).mono ?_
      rintro e w3 ⟨rfl, h3, c3⟩
      have H3 := Lib.hid (HQ.out.step h3 c3)
      generalize insL o3 x L = L3 at *
      clear h3 c3 e0
      go_wp2
      go_roundw
      case rel => exact ⟨t + 1, L3, by omega, by go_num, by omega, H3⟩
      case measure => simp [intOf]; omega
    · obtain rfl : n = t := by omega
      have hL6 : L.length < 1000000 := by omega
      have hL7 : L.length < 900000 := by omega
      have hil := insL_le o3 k L
      go_wp2_with fail
      refine (tall HQ.out.tt hL6).mono ?_
      rintro e w3 ⟨v3, rfl, o3', hb3⟩
      have H3 := Lib.hid (HQ.out.on HO.out hb3)
      have HV3 := Lib.hid (o3'.rs (fun _ => rfl))
      have HVB := Lib.hid (fun b e => (o3'.lt b e).1)
      have HTL := Lib.hid HQ.out.tt.lt
      obtain ⟨a3, n3, c3, rfl, hn3, _, _, hat3⟩ := HV3.out.at_
      have HAT3 := Lib.hid hat3; have HN3 := Lib.hid hn3
      have hn3s : n3 < 1000000 := by omega
      clear o3' hb3 hat3 hn3 hLl
      go_wp2
      go_loopw [8] (fun iv wr => ∃ s : Nat, iv = .int .i64 ((s : Int) + 1) ∧ (s = 0 ∨ s + 1 ≤ n3) ∧ Hid (Below w3.heap.size w3 wr)) (fun iv _ => n3 - (intOf iv).toNat)
      case atStart => exact ⟨0, rfl, .inl rfl, Lib.hid (Below.refl _ _)⟩
      case round =>
        obtain ⟨s, rfl, hs, HB⟩ := hrel
        obtain ⟨w4, rfl⟩ : ∃ w4, w4 = wr := ⟨_, rfl⟩
        by_cases hls : s + 1 < n3
        · have hlsI : (s : Int) + 1 < (n3 : Int) := by omega
          obtain ⟨x, hx⟩ := at_lt (l := L) (i := s) (by rw [← HN3.out]; omega)
          obtain ⟨y, hy⟩ := at_lt (l := L) (i := s + 1) (by rw [← HN3.out]; omega)
          have hxy : x < y := by
            obtain ⟨h1, rfl⟩ := List.getElem?_eq_some_iff.1 hx
            obtain ⟨h2, rfl⟩ := List.getElem?_eq_some_iff.1 hy
            exact o3_lt.1 ((List.pairwise_iff_getElem.1 H3.out.tt.s.2) s (s + 1) h1 h2 (by omega))
          obtain ⟨b, off, rfl, hb, hcell⟩ := HAT3.out s x hx
          obtain ⟨b', off', hq, hb', hcell'⟩ := HAT3.out (s + 1) y hy
          cases hq
          have e0 := (HB.out.cell (p := ⟨b, off + s * 1 + 0, none⟩) hb).trans (hcell 0 _ rfl)
          have f0 := (HB.out.cell (p := ⟨b, off + (s + 1) * 1 + 0, none⟩) hb).trans (hcell' 0 _ rfl)
          simp only [Nat.add_zero, Nat.mul_one] at e0 f0
          have hbw : b < w4.heap.size := Nat.lt_of_lt_of_le hb HB.out.size
          have hst : ((s : Int) + 1).toNat = s + 1 := by omega
          have hsn : (0 : Int) ≤ (s : Int) + 1 := by omega
          have hsl : (s : Int) < (n3 : Int) := by omega
          have hsl2 : s < n3 := by omega
          clear hcell hcell' hx hy hb hb'
          go_wp2
          refine wp_region_pure (by kernel_rfl) (by kernel_rfl) ?_
          repeat (first | go_big_quiet_step ((fail)) | (quiet_step ((fail))))
          refine wpQuiet_nil ?_
          rintro w5 ⟨x5, hx5⟩
          have hb5 := ext_below _ x5
          rw [← hx5] at hb5
          clear hx5 x5
          have hs5 : w4.heap.size + 0 ≤ w5.heap.size := (by have h := hb5.size; first | omega | (simp at h; omega))
          obtain ⟨hc5, hf5, hl5⟩ := bcell hb5
          clear hl5
          have HB5 := Lib.hid (bt HB.out hb5)
          clear hb5 hc5 hf5 e0 f0 hst
          go_wp2
          go_roundw
          case rel => exact ⟨s + 1, by go_num, .inr (by omega), HB5⟩
          case measure => simp [intOf]; omega
        · have hlsI : (n3 : Int) ≤ (s : Int) + 1 := by omega
          have H4 := Lib.hid (H3.out.on HO.out HB.out)
          have HV4 := Lib.hid (HV3.out.below HB.out)
          have HPQ := Lib.hid (plL_has L k)
          have HINS := Lib.hid (fun hm => insL_mem oa3 H4.out.tt.s (k := k) hm)
          have hz : ∀ y, o3 k y = 0 → k = y := fun y h => (oa3.zero k y trivial trivial).1 h
          have HDEL := Lib.hid (fun hm => del_ins hz (L := L) (k := k) hm)
          have HHI := Lib.hid (has_ins hz L)
          have hofs : ∀ b, Value.ownBlock (.slice a3 n3 c3) = some b → ¬ TF tp b := fun b e he => by
            have h1 := HVB.out b e; have h2 := HTL.out; have he : b = tp := he; omega
          have HOF := Lib.hid hofs
          clear hz hofs hs
          cases hq : hasL k L with
          | false =>
            have HQF := Lib.hid hq
            go_wp2_with fail
            refine (tput HO.out H4.out.tt (k := k) trivial (by omega)).mono ?_
            rintro e w5 ⟨rfl, h5, c5⟩
            have H5 := Lib.hid (H4.out.step h5 c5)
            have HV5 := Lib.hid (HV4.out.chg c5 HOF.out)
            clear h5 c5
            rw [HQF.out]
            go_wp2_with fail
            refine (tdrop HO.out H5.out.tt (k := k) trivial (by omega)).mono ?_
            rintro e w6 ⟨rfl, h6, c6⟩
            have H6 := Lib.hid (show TB8 tp W w6 L from by
              have := H5.out.step h6 c6
              rw [HDEL.out (by have := HQF.out; unfold hasL at this; simpa using this)] at this
              exact this)
            have HV6 := Lib.hid (HV5.out.chg c6 HOF.out)
            clear h6 c6
            rw [HHI.out]
            go_wp2_with fail
            refine (thas HO.out H6.out.tt (k := k) trivial hL6).mono ?_
            rintro e w7 ⟨rfl, hb7⟩
            have H7 := Lib.hid (H6.out.on HO.out hb7)
            have HV7 := Lib.hid (HV6.out.below hb7)
            clear hb7
            rw [HQF.out]
            go_wp2_with fail
            refine (tplace HO.out H7.out.tt (k := k) trivial hL6).mono ?_
            rintro e w8 ⟨rfl, hb8⟩
            have H8 := Lib.hid (H7.out.on HO.out hb8)
            have HV8 := Lib.hid (HV7.out.below hb8)
            clear hb8
            rw [show plL L k = -1 by unfold plL; rw [if_neg (by have := HQF.out; unfold hasL at this; simpa using this)]]
            clear hq
            go_wp2_with fail
            refine (nfirst _).mono ?_
            rintro e w9 ⟨rfl, rfl⟩
            go_wp2_with fail
            have hbp : Below w8.heap.size w8 (w8.alloc (.cells #[.nilFunc, .pointer none] 45)) := ba (Below.refl _ _) _
            have H9 := Lib.hid (H8.out.on HO.out hbp)
            have HV9 := Lib.hid (HV8.out.below hbp)
            have HN9 := Lib.hid (show NT (w8.alloc (.cells #[.nilFunc, .pointer none] 45)) (.pointer (some ⟨w8.heap.size, 0, none⟩)) from .inr ⟨_, rfl, heap_alloc_new w8 _⟩)
            clear hbp
            generalize w8.alloc (.cells #[.nilFunc, .pointer none] 45) = w9 at *
            generalize w8.heap.size = pb at *
            refine (tall H9.out.tt hL6).mono ?_
            rintro e w10 ⟨v10, rfl, o10, hb10⟩
            have H10 := Lib.hid (H9.out.on HO.out hb10)
            have HV10 := Lib.hid (HV9.out.below hb10)
            have HO10 := Lib.hid (o10.rs (fun _ => rfl))
            have HN10 := Lib.hid (show NT w10 (.pointer (some ⟨pb, 0, none⟩)) from by
              rcases HN9.out with h | ⟨b, h, hb⟩
              · cases h
              · exact .inr ⟨b, h, (hb10.block b (Array.getElem?_eq_some_iff.1 hb).1).trans hb⟩)
            clear o10 hb10
            go_wp2_with fail
            refine (same8 HO10.out HV10.out hL6).mono ?_
            rintro e w11 ⟨rfl, hb11⟩
            have H11 := Lib.hid (H10.out.on HO.out hb11)
            have HN11 := Lib.hid (show NT w11 (.pointer (some ⟨pb, 0, none⟩)) from by
              rcases HN10.out with h | ⟨b, h, hb⟩
              · cases h
              · exact .inr ⟨b, h, (hb11.block b (Array.getElem?_eq_some_iff.1 hb).1).trans hb⟩)
            clear hb11
            go_wp2_with fail
            refine (nput (.inl rfl) 1).mono ?_
            rintro e w12 ⟨rfl, rfl⟩
            go_wp2_with fail
            refine (ndrop (.inl rfl) 1).mono ?_
            rintro e w12 ⟨rfl, rfl⟩
            go_wp2_with fail
            refine (nlong (.inl rfl)).mono ?_
            rintro e w12 ⟨rfl, rfl⟩
            go_wp2_with fail
            refine (nput HN11.out 1).mono ?_
            rintro e w12 ⟨rfl, rfl⟩
            go_wp2_with fail
            refine (nlong HN11.out).mono ?_
            rintro e w12 ⟨rfl, rfl⟩
            go_wp2_with fail
            refine (works08 w11).mono ?_
            rintro e w12 ⟨rfl, hb12⟩
            have HB12 := Lib.hid (bt H11.out.bel hb12)
            clear hb12
            go_wp2
            go_ret
            exact ⟨rfl, HB12.out⟩
          | true =>
            have HQF := Lib.hid hq
            go_wp2_with fail
            refine (tput HO.out H4.out.tt (k := k) trivial (by omega)).mono ?_
            rintro e w5 ⟨rfl, h5, c5⟩
            have H5 := Lib.hid (show TB8 tp W w5 L from by
              have := H4.out.step h5 c5
              rw [HINS.out (by have := HQF.out; unfold hasL at this; simpa using this)] at this
              exact this)
            have HV5 := Lib.hid (HV4.out.chg c5 HOF.out)
            clear h5 c5
            rw [HQF.out]
            go_wp2_with fail
            refine (thas HO.out H5.out.tt (k := k) trivial hL6).mono ?_
            rintro e w8 ⟨rfl, hb7⟩
            have H8 := Lib.hid (H5.out.on HO.out hb7)
            have HV8 := Lib.hid (HV5.out.below hb7)
            clear hb7
            rw [HQF.out]
            clear hq
            go_wp2_with fail
            refine (nfirst _).mono ?_
            rintro e w9 ⟨rfl, rfl⟩
            go_wp2_with fail
            have hbp : Below w8.heap.size w8 (w8.alloc (.cells #[.nilFunc, .pointer none] 45)) := ba (Below.refl _ _) _
            have H9 := Lib.hid (H8.out.on HO.out hbp)
            have HV9 := Lib.hid (HV8.out.below hbp)
            have HN9 := Lib.hid (show NT (w8.alloc (.cells #[.nilFunc, .pointer none] 45)) (.pointer (some ⟨w8.heap.size, 0, none⟩)) from .inr ⟨_, rfl, heap_alloc_new w8 _⟩)
            clear hbp
            generalize w8.alloc (.cells #[.nilFunc, .pointer none] 45) = w9 at *
            generalize w8.heap.size = pb at *
            refine (tall H9.out.tt hL6).mono ?_
            rintro e w10 ⟨v10, rfl, o10, hb10⟩
            have H10 := Lib.hid (H9.out.on HO.out hb10)
            have HV10 := Lib.hid (HV9.out.below hb10)
            have HO10 := Lib.hid (o10.rs (fun _ => rfl))
            have HN10 := Lib.hid (show NT w10 (.pointer (some ⟨pb, 0, none⟩)) from by
              rcases HN9.out with h | ⟨b, h, hb⟩
              · cases h
              · exact .inr ⟨b, h, (hb10.block b (Array.getElem?_eq_some_iff.1 hb).1).trans hb⟩)
            clear o10 hb10
            go_wp2_with fail
            refine (same8 HO10.out HV10.out hL6).mono ?_
            rintro e w11 ⟨rfl, hb11⟩
            have H11 := Lib.hid (H10.out.on HO.out hb11)
            have HN11 := Lib.hid (show NT w11 (.pointer (some ⟨pb, 0, none⟩)) from by
              rcases HN10.out with h | ⟨b, h, hb⟩
              · cases h
              · exact .inr ⟨b, h, (hb11.block b (Array.getElem?_eq_some_iff.1 hb).1).trans hb⟩)
            clear hb11
            go_wp2_with fail
            refine (nput (.inl rfl) 1).mono ?_
            rintro e w12 ⟨rfl, rfl⟩
            go_wp2_with fail
            refine (ndrop (.inl rfl) 1).mono ?_
            rintro e w12 ⟨rfl, rfl⟩
            go_wp2_with fail
            refine (nlong (.inl rfl)).mono ?_
            rintro e w12 ⟨rfl, rfl⟩
            go_wp2_with fail
            refine (nput HN11.out 1).mono ?_
            rintro e w12 ⟨rfl, rfl⟩
            go_wp2_with fail
            refine (nlong HN11.out).mono ?_
            rintro e w12 ⟨rfl, rfl⟩
            go_wp2_with fail
            refine (works08 w11).mono ?_
            rintro e w12 ⟨rfl, hb12⟩
            have HB12 := Lib.hid (bt H11.out.bel hb12)
            clear hb12
            go_wp2
            go_ret
            exact ⟨rfl, HB12.out⟩
namespace TreeBack
open Go.ChangeShapes Go.WideShapes Go.ChangeAt Go.RowKit Go.Joins
theorem own : ownKnob Try.prog.godebug = none := by kernel_rfl
theorem laidOut : laidOutB Try.prog = true := by kernel_rfl
set_option maxRecDepth 100000 in
theorem lifted (os : Os) (started : os.Started) (H : Type) (enc : TypeId × Value → H) :
    ReturnsInHanded {} Try.checked os 4 .any (Rows.treeBackSpec.pre6 enc Try.prog Try.f4 Rows.treeBackRow.domain false) (Rows.treeBackSpec.post enc Try.prog Try.f4 false true false false) := by
  refine returnsInHanded_of_change (C := Try.checked) own started (by kernel_rfl) Try.func4
    (ChangeSpec.witness6 (enc := enc) (C := Try.checked) false ⟨#[], #[.slice none 0 0, .int .i64 0], []⟩ 8 (by kernel_rfl) (by kernel_rfl) (by kernel_rfl) (by kernel_rfl)) ?_
  intro W base args ds gs before hval0 hW hcnd _
  have hval : ∀ (j : Nat) t v, Try.f4.params[j]? = some t → args[j]? = some v → Value.okWide Try.prog W .any base t v := hval0
  have hW' := hW
  obtain ⟨p, q, hA0, hV, rfl, hfz, hnd⟩ := hW
  have hA : DataW.TrodAll enc Try.prog W 0 (fun _ => true) true Try.f4.params.toList args.toList ds p := hA0
  rw [Try.params4] at hA hval
  obtain ⟨v0, vs0, d0, ds0, p0, q0, hargs, rfl, rfl, h0, r0⟩ := trodAll_cons hA
  obtain ⟨v1, vs1, d1, ds1, p1, q1, rfl, rfl, rfl, h1, r1⟩ := trodAll_cons r0
  obtain ⟨rfl, rfl, rfl⟩ := trodAll_nil r1
  obtain rfl : args = #[v0, v1] := by cases args; simp_all
  obtain ⟨rfl, rfl⟩ := trodVars_none hV
  have k0 := h0
  have lt0 : ∀ x ∈ p0, x.block < W.heap.size := by obtain ⟨m, hm⟩ := k0; exact DataW.trod_lt m _ _ _ hm
  have k1 := h1
  have lt1 : ∀ x ∈ p1, x.block < W.heap.size := by obtain ⟨m, hm⟩ := k1; exact DataW.trod_lt m _ _ _ hm
  obtain ⟨la, oA, _, _⟩ := open_nums (hval 0 27 v0 rfl rfl) k0
  obtain ⟨k, vEq1, _, _, wf_k⟩ := open_int Try.underlying3 (hval 1 3 v1 rfl rfl) k1
  subst vEq1
  clear hA0 hval0
  refine (back8 v0 la k W oA).mono fun e W' ⟨he, bel⟩ => ?_
  subst he
  exact ⟨_, rfl, _, _, _, [], _, [], hW', trodAll_mk1 (shut_bool Try.underlying4 _), (trodAll_cons_mk (Below.trod laidOut (by kernel_rfl) (of_decide_eq_true (by kernel_rfl)) k0 bel lt0) (trodAll_cons_mk (Below.trod laidOut (by kernel_rfl) (of_decide_eq_true (by kernel_rfl)) k1 bel lt1) trodAll_mk0)), rfl, bel.frame _, fun h => by cases h⟩
theorem over : Rows.treeBackRow.holds Try.pinned (OpenSpec.ofChange Rows.treeBackSpec) :=
  OpenClaim.holds_of_wide 4 Try.f4 rfl rfl rfl rfl rfl rfl rfl ⟨rfl, rfl, rfl, rfl, rfl⟩ rfl rfl rfl rfl rfl (by kernel_rfl) Try.func4 (by kernel_rfl)
    (of_decide_eq_true (by kernel_rfl)) (by unfold Func.isWrapper; first | (rw [if_pos (by decide +kernel)]; kernel_rfl) | (rw [if_neg (by decide +kernel)]; exact ⟨rfl, rfl⟩))
    (fun os started H enc _ => lifted os started H enc)
theorem proved : Rows.TreeBackSaid := over
end TreeBack
end Go.Proofs.Ytajcelmnblncaaa

/- The document's frameworks by a list: At, Weight, Of, Roles, Same; equal lists of numbers. -/
import Derived.Test.YtajcelmnblncaaaFr8
import Derived.Test.YtajcelmnblncaaaFrR
namespace Go.Proofs.Ytajcelmnblncaaa
open Go.RowKit Go.Maps
attribute [local go_sem] ext_cell ext_frozen extC_cell extC_frozen Mix.calmUpon Mix.mUpon eqFr
abbrev FV (w : World) (v : Value) (S : List Fr) : Prop := RS 7 fenc w v S
abbrev mval (cap : Int) (v : Value) : Value := .agg #[.int .i64 cap, v]
section
variable {w : World} {v : Value} {S : List Fr} {cap : Int}
set_option maxRecDepth 100000 in
theorem mat (h : FV w v S) (k : Int) : Calls Try.prog 60 #[mval cap v, .int .i64 k] w fun e w' => e = .returned (.int .i64 (Srt.pl Fr.id S k)) ∧ Below w.heap.size w w' := by
  obtain ⟨a, n, cp, rfl, hn, hc, hm, hat⟩ := h.at_
  have HA := Lib.hid hat
  unfold maxLen at hm
  have hlm : n ≤ 9223372036854775807 := by omega
  have HN := Lib.hid hn
  have HB := Lib.hid (show Below w.heap.size w (w.alloc (.cells #[.int .i64 cap, .slice a n cp] 106)) from ba (Below.refl _ _) _)
  clear hat h hn
  go_enter Try.func60, Try.ntmps60
  go_wp2
  go_loop [5] (fun iv => ∃ t : Nat, t ≤ n ∧ iv = .int .i64 t ∧ Hid (∀ p ∈ S.take t, p.id ≠ k)) (fun iv => n - (intOf iv).toNat)
  case atStart => exact ⟨0, Nat.zero_le _, rfl, Lib.hid fun p h => by simp at h⟩
  case round =>
    obtain ⟨t, ht, rfl, HQ⟩ := hrel
    by_cases hlt : t < n
    · have hts : (t : Int) < (n : Int) := by omega
      obtain ⟨x, hx⟩ := at_lt (l := S) (i := t) (by rw [← HN.out]; exact hlt)
      obtain ⟨b, off, rfl, hb, hcell⟩ := HA.out t x hx
      have e0 := hcell 0 _ rfl
      simp only [Nat.add_zero] at e0
      have HX := Lib.hid hx
      clear hcell hx
      by_cases he : x.id = k
      · have heb : (x.id == k) = true := by simpa using he
        have HE := Lib.hid he
        clear he
        go_wp2
        go_ret
        refine ⟨?_, HB.out⟩
        have := Srt.pl_some (key := Fr.id) (l := S.take t) (m := S.drop (t + 1)) HE.out HQ.out
        rw [← parted_at HX.out, List.length_take, Nat.min_eq_left (by rw [← HN.out]; omega)] at this
        rw [this]; rfl
      · have heb : (x.id == k) = false := by simpa using he
        have HE := Lib.hid he
        clear he
        go_wp2
        go_round
        case rel => exact ⟨t + 1, by omega, by go_num, Lib.hid fun p hp => by
          rw [take_at HX.out] at hp
          rcases List.mem_append.1 hp with h | h
          · exact HQ.out p h
          · rw [List.mem_singleton.1 h]; exact HE.out⟩
        case measure => simp [intOf]; omega
    · obtain rfl : n = t := by omega
      go_wp2
      go_ret
      refine ⟨?_, HB.out⟩
      rw [Srt.pl_none fun p hp => HQ.out p (by rw [HN.out, List.take_length]; exact hp)]; rfl
theorem wtF_some {l m : List Fr} {x : Fr} {r : Int} (he : x.role = r) (hn : ∀ p ∈ l, p.role ≠ r) : wtF (l ++ x :: m) r = x.weight := by
  unfold wtF
  rw [List.find?_append, List.find?_eq_none.2 fun p hp => by simpa using hn p hp]
  simp [he]
theorem wtF_none' {l : List Fr} {r : Int} (hn : ∀ p ∈ l, p.role ≠ r) : wtF l r = 0 := by
  unfold wtF
  rw [List.find?_eq_none.2 fun p hp => by simpa using hn p hp]
set_option maxRecDepth 100000 in
theorem mweight (h : FV w v S) (r : Int) : Calls Try.prog 64 #[mval cap v, .int .i64 r] w fun e w' => e = .returned (.int .i64 (wtF S r)) ∧ Below w.heap.size w w' := by
  obtain ⟨a, n, cp, rfl, hn, hc, hm, hat⟩ := h.at_
  have HA := Lib.hid hat
  unfold maxLen at hm
  have hlm : n ≤ 9223372036854775807 := by omega
  have HN := Lib.hid hn
  have HB := Lib.hid (show Below w.heap.size w (w.alloc (.cells #[.int .i64 cap, .slice a n cp] 106)) from ba (Below.refl _ _) _)
  clear hat h hn
  go_enter Try.func64, Try.ntmps64
  go_wp2
  go_loop [5] (fun iv => ∃ t : Nat, t ≤ n ∧ iv = .int .i64 t ∧ Hid (∀ p ∈ S.take t, p.role ≠ r)) (fun iv => n - (intOf iv).toNat)
  case atStart => exact ⟨0, Nat.zero_le _, rfl, Lib.hid fun p h => by simp at h⟩
  case round =>
    obtain ⟨t, ht, rfl, HQ⟩ := hrel
    by_cases hlt : t < n
    · have hts : (t : Int) < (n : Int) := by omega
      obtain ⟨x, hx⟩ := at_lt (l := S) (i := t) (by rw [← HN.out]; exact hlt)
      obtain ⟨b, off, rfl, hb, hcell⟩ := HA.out t x hx
      have e1 := hcell 1 _ rfl
      have e2 := hcell 2 _ rfl
      have HX := Lib.hid hx
      clear hcell hx
      by_cases he : x.role = r
      · have heb : (x.role == r) = true := by simpa using he
        have HE := Lib.hid he
        clear he
        go_wp2
        go_ret
        refine ⟨?_, HB.out⟩
        have := wtF_some (l := S.take t) (m := S.drop (t + 1)) HE.out HQ.out
        rw [← parted_at HX.out] at this
        rw [this]; rfl
      · have heb : (x.role == r) = false := by simpa using he
        have HE := Lib.hid he
        clear he
        go_wp2
        go_round
        case rel => exact ⟨t + 1, by omega, by go_num, Lib.hid fun p hp => by
          rw [take_at HX.out] at hp
          rcases List.mem_append.1 hp with h | h
          · exact HQ.out p h
          · rw [List.mem_singleton.1 h]; exact HE.out⟩
        case measure => simp [intOf]; omega
    · obtain rfl : n = t := by omega
      go_wp2
      go_ret
      refine ⟨?_, HB.out⟩
      rw [wtF_none' fun p hp => HQ.out p (by rw [HN.out, List.take_length]; exact hp)]; rfl
set_option maxRecDepth 100000 in
set_option maxHeartbeats 1000000 in
theorem mof (h : FV w v S) (r : Int) (hln : S.length < 1000000) : Calls Try.prog 69 #[mval cap v, .int .i64 r] w (RetN w (ofF S r)) := by
  obtain ⟨a, n, cp, rfl, hn, hc, hm, hat⟩ := h.at_
  have HAT := Lib.hid hat
  have hnb : n < 1000000 := by omega
  have HN := Lib.hid hn
  have HB0 := Lib.hid (show Below w.heap.size w (w.alloc (.cells #[.int .i64 cap, .slice a n cp] 106)) from ba (Below.refl _ _) _)
  have hs0 : w.heap.size < (w.alloc (.cells #[.int .i64 cap, .slice a n cp] 106)).heap.size := by simp
  have hz0 : (w.alloc (.cells #[.int .i64 cap, .slice a n cp] 106)).cell? ⟨w.heap.size, 1, none⟩ = some (.slice a n cp) := by simp [go_sem]
  have HS0 := Lib.hid hs0
  have HZ0 := Lib.hid hz0
  clear hat h hn hz0
  go_enter Try.func69, Try.ntmps69
  go_wp2
  generalize w.alloc (.cells #[.int .i64 cap, .slice a n cp] 106) = w1 at *
  go_loopw [5, 6] (fun lv iv wr => ∃ t : Nat, t ≤ n ∧ iv = .int .i64 t ∧ Hid (OwnL 2 1 n1 wr w1.heap.size lv (ofF (S.take t) r) ∧ Below w1.heap.size w1 wr)) (fun _ iv _ => n - (intOf iv).toNat)
  case atStart => exact ⟨0, Nat.zero_le _, rfl, Lib.hid ⟨OwnL.nil _ _ _ _ _, Below.refl _ _⟩⟩
  case round =>
    obtain ⟨t, ht, rfl, HQ⟩ := hrel
    obtain ⟨w2, rfl⟩ : ∃ w2, w2 = wr := ⟨_, rfl⟩
    have z0 := (HQ.out.2.cell (p := ⟨w.heap.size, 1, none⟩) HS0.out).trans HZ0.out
    have hw2 : w.heap.size < w2.heap.size := Nat.lt_of_lt_of_le HS0.out HQ.out.2.size
    by_cases hlt : t < n
    · have hts : (t : Int) < (n : Int) := by omega
      obtain ⟨x, hx⟩ := at_lt (l := S) (i := t) (by rw [← HN.out]; exact hlt)
      obtain ⟨b, off, rfl, hb, hcell⟩ := HAT.out t x hx
      have hb1 : b < w1.heap.size := Nat.lt_of_lt_of_le hb HB0.out.size
      have e0 := (HQ.out.2.cell (p := ⟨b, off + t * 7 + 0, none⟩) hb1).trans ((HB0.out.cell (p := ⟨b, off + t * 7 + 0, none⟩) hb).trans (hcell 0 _ rfl))
      have e1 := (HQ.out.2.cell (p := ⟨b, off + t * 7 + 1, none⟩) hb1).trans ((HB0.out.cell (p := ⟨b, off + t * 7 + 1, none⟩) hb).trans (hcell 1 _ rfl))
      simp only [Nat.add_zero] at e0
      have HX := Lib.hid (take_at hx)
      clear hcell hx
      by_cases he : x.role = r
      · have heb : (x.role == r) = true := by simpa using he
        have HE := Lib.hid (show ofF (S.take (t + 1)) r = ofF (S.take t) r ++ [x.id] by rw [HX.out, ofF_snoc, if_pos he])
        have hle : (ofF (S.take t) r).length < 1000000 := by
          have h1 := ofF_len (S.take t) r
          have h2 := cnt_le (S.take t) r
          have h3 := List.length_take_le t S
          omega
        obtain ⟨v2, w3, hrun, o2, g2, _⟩ := app_i64 (b := w2.heap.size) (HQ.out.1.below (ba (Below.refl _ _) (.cells #[.int .i64 x.id] 2))) x.id (by simp [go_sem]) hle (by simp; have := HQ.out.2.size; omega)
        have HRA := Lib.hid hrun
        have HB := Lib.hid (show Below w1.heap.size w1 w3 from (ba HQ.out.2 _).grown g2 (by simp; have := HQ.out.2.size; omega) (fun j hj => (HQ.out.1.lt j hj).1))
        have O2 := Lib.hid o2
        clear he hrun o2 g2 hle
        go_wp2_with (at_builtin; refine wpList_app_run rfl _ _ _ rfl rfl rfl HRA.out ?_)
        go_roundw
        case rel => exact ⟨t + 1, by omega, by go_num, Lib.hid ⟨by rw [HE.out]; exact O2.out, HB.out⟩⟩
        case measure => simp [intOf]; omega
      · have heb : (x.role == r) = false := by simpa using he
        have HI := Lib.hid (show OwnL 2 1 n1 w2 w1.heap.size u5 (ofF (S.take (t + 1)) r) ∧ Below w1.heap.size w1 w2 from
          ⟨by rw [HX.out, ofF_snoc, if_neg he, List.append_nil]; exact HQ.out.1, HQ.out.2⟩)
        clear he
        go_wp2
        go_roundw
        case rel => exact ⟨t + 1, by omega, by go_num, HI⟩
        case measure => simp [intOf]; omega
    · obtain rfl : n = t := by omega
      have hT : S.take n = S := by rw [HN.out, List.take_length]
      have HQ2 := HQ.out
      rw [hT] at HQ2
      have HQ2 := Lib.hid HQ2
      clear hT HQ
      go_wp2
      go_ret
      exact ⟨u5, rfl, HQ2.out.1.rs (fun _ => rfl), fun b hb => by have := HQ2.out.1.lt b hb; have := HS0.out; omega, bt HB0.out HQ2.out.2⟩
end
end Go.Proofs.Ytajcelmnblncaaa

/- The document's Due; lists of numbers alike. -/
import Derived.Test.YtajcelmnblncaaaHeapS
namespace Go.Proofs.Ytajcelmnblncaaa
open Go.RowKit Go.Maps
attribute [local go_sem] ext_cell ext_frozen extC_cell extC_frozen Mix.calmUpon Mix.mUpon
theorem lupto_snoc (l : List It) (x : It) (t : Int) : lupto (l ++ [x]) t = lupto l t ++ (if x.2 ≤ t then [x] else []) ∧ lfrom (l ++ [x]) t = lfrom l t ++ (if x.2 ≤ t then [] else [x]) := by
  unfold lupto lfrom
  rw [List.filter_append, List.filter_append]
  by_cases h : x.2 ≤ t
  · rw [if_pos h, if_pos h, List.filter_cons, if_pos (by simpa using h), List.filter_cons, if_neg (by simpa using h)]; exact ⟨rfl, rfl⟩
  · rw [if_neg h, if_neg h, List.filter_cons, if_neg (by simpa using h), List.filter_cons, if_pos (by simpa using h)]; exact ⟨rfl, rfl⟩
/-- Where Due stands. -/
structure DR (w wr : World) (l : List It) (now : Int) (t : Nat) (dv rv : Value) : Prop where
  due : Own64 wr w.heap.size dv ((lupto (l.take t) now).map (·.1))
  rest : OI wr w.heap.size rv (lfrom (l.take t) now)
  dis : ∀ b, dv.ownBlock = some b → rv.ownBlock ≠ some b
  bel : Below w.heap.size w wr
def DueR (w : World) (l : List It) (now : Int) (e : Ending) (w' : World) : Prop :=
  ∃ dv rv, e = .returned (.tuple #[dv, rv]) ∧ Own64 w' w.heap.size dv ((lupto l now).map (·.1)) ∧ OI w' w.heap.size rv (lfrom l now) ∧ Below w.heap.size w w'
set_option maxRecDepth 100000 in
set_option maxHeartbeats 1000000 in
theorem due_ref {w : World} {v : Value} {l : List It} (h : IV w v l) (now : Int) (hl : l.length < 100000) : Calls Try.prog 85 #[v, .int .i64 now] w (DueR w l now) := by
  obtain ⟨a, n, cap, rfl, hn, hc, hm, hat⟩ := h.at_
  have HA := Lib.hid hat
  unfold maxLen at hm
  have hlm : n < 100000 := by omega
  have HN := Lib.hid hn
  clear hat h hn hl
  go_enter Try.func85, Try.ntmps85
  go_wp2
  go_loopw [6, 7, 8] (fun dv rv iv wr => ∃ t : Nat, t ≤ n ∧ iv = .int .i64 t ∧ Hid (DR w wr l now t dv rv)) (fun _ _ iv _ => n - (intOf iv).toNat)
  case atStart => exact ⟨0, Nat.zero_le _, rfl, Lib.hid ⟨World.ownsRow_nil _ _ _ _, OwnL.nil _ _ _ _ _, fun b h => (by cases h), Below.refl _ _⟩⟩
  case round =>
    obtain ⟨t, ht, rfl, HQ⟩ := hrel
    obtain ⟨w1, rfl⟩ : ∃ w1, w1 = wr := ⟨_, rfl⟩
    by_cases hlt : t < n
    · have hts : (t : Int) < (n : Int) := by omega
      obtain ⟨x, hx⟩ := at_lt (l := l) (i := t) (by rw [← HN.out]; exact hlt)
      obtain ⟨b, off, rfl, hb, hcell⟩ := HA.out t x hx
      have e0 := (HQ.out.bel.cell (p := ⟨b, off + t * 2, none⟩) hb).trans (hcell 0 _ rfl)
      have e1 := (HQ.out.bel.cell (p := ⟨b, off + t * 2 + 1, none⟩) hb).trans (hcell 1 _ rfl)
      have hs1 := HQ.out.bel.size
      have HX := Lib.hid (take_at hx)
      have ln := List.length_take_le t l
      clear hcell hx
      by_cases he : x.2 ≤ now
      · have heb : decide (x.2 ≤ now) = true := by simpa using he
        obtain ⟨s1, s2⟩ := lupto_snoc (l.take t) x now
        rw [if_pos he, ← HX.out] at s1 s2
        have E1 := Lib.hid s1; have E2 := Lib.hid s2
        have hle : ((lupto (l.take t) now).map (·.1)).length < 1000000 := by
          rw [List.length_map]
          have h1 : (lupto (l.take t) now).length ≤ (l.take t).length := List.length_filter_le _ _
          omega
        obtain ⟨v2, w2, hrun, o2, g2, b2⟩ := app64 (HQ.out.due.alloc (.cells #[.int .i64 x.1] 2)) x.1 (b := w1.heap.size) (by simp [go_sem]) hle (by simp; omega)
        have HR := Lib.hid hrun
        have HD := Lib.hid (show DR w w2 l now (t + 1) v2 u7 from ⟨by rw [E1.out, List.map_append]; exact o2,
          by rw [E2.out, List.append_nil]; exact (HQ.out.rest.below (ba (Below.refl _ _) _)).chg (F := fun k => u6.ownBlock = some k) (.of_grown g2 fun k e => e) fun b hb hb2 => HQ.out.dis b hb2 hb,
          fun b hb hb2 => by
            rcases b2 with e | e
            · exact HQ.out.dis b (by rw [← e]; exact hb) hb2
            · rw [e] at hb; cases hb
              have := (HQ.out.rest.lt _ hb2).2; simp at this; omega,
          (ba HQ.out.bel _).grown g2 (by simp; omega) (fun j hj => (World.ownsRow.lt HQ.out.due j hj).1)⟩)
        clear he hrun o2 g2 b2 hle s1 s2
        go_wp2_with (at_builtin; refine wpList_app_run rfl _ _ _ rfl rfl rfl HR.out ?_)
        go_roundw
        case rel => exact ⟨t + 1, by omega, by go_num, HD⟩
        case measure => simp [intOf]; omega
      · have heb : decide (x.2 ≤ now) = false := by simpa using he
        obtain ⟨s1, s2⟩ := lupto_snoc (l.take t) x now
        rw [if_neg he, ← HX.out] at s1 s2
        have E1 := Lib.hid s1; have E2 := Lib.hid s2
        have hle : (lfrom (l.take t) now).length < 1000000 := by
          have h1 : (lfrom (l.take t) now).length ≤ (l.take t).length := List.length_filter_le _ _
          omega
        obtain ⟨v2, w2, hrun, o2, g2, b2⟩ := OI.app (HQ.out.rest.below (ba (Below.refl _ _) (.cells #[.int .i64 x.1, .int .i64 x.2] 61))) x (b := w1.heap.size) (by simp [go_sem]) (by simp [go_sem]) hle (by simp; omega)
        have HR := Lib.hid hrun
        have HD := Lib.hid (show DR w w2 l now (t + 1) u6 v2 from ⟨by rw [E1.out, List.append_nil]; exact ownsRow_chg (HQ.out.due.alloc _) (F := fun k => u7.ownBlock = some k) (.of_grown g2 fun k e => e) fun b hb hb2 => HQ.out.dis b hb hb2,
          by rw [E2.out]; exact o2,
          fun b hb hb2 => by
            rcases b2 with e | e
            · exact HQ.out.dis b hb (by rw [← e]; exact hb2)
            · rw [e] at hb2; cases hb2
              have := (World.ownsRow.lt HQ.out.due _ hb).2; simp at this; omega,
          (ba HQ.out.bel _).grown g2 (by simp; omega) (fun j hj => (HQ.out.rest.lt j hj).1)⟩)
        clear he hrun o2 g2 b2 hle s1 s2
        go_wp2_with (at_builtin; refine wpList_app_run rfl _ _ _ rfl rfl rfl HR.out ?_)
        go_roundw
        case rel => exact ⟨t + 1, by omega, by go_num, HD⟩
        case measure => simp [intOf]; omega
    · obtain rfl : n = t := by omega
      have hT : l.take n = l := by rw [HN.out, List.take_length]
      have h2 := HQ.out.due
      have h3 := HQ.out.rest
      rw [hT] at h2 h3
      have H2 := Lib.hid h2; have H3 := Lib.hid h3
      clear hT h2 h3
      go_wp2
      go_ret2
      exact ⟨_, _, rfl, H2.out, H3.out, HQ.out.bel⟩
def nenc (x : Int) : List Value := [.int .i64 x]
abbrev NV (w : World) (v : Value) (l : List Int) : Prop := RS 1 nenc w v l
theorem flat_nenc : ∀ l : List Int, l.flatMap nenc = l.map (Value.int .i64)
  | [] => rfl
  | x :: t => by rw [List.flatMap_cons, flat_nenc t]; rfl
theorem Own64.nv {w : World} {base : Nat} {v : Value} {l : List Int} (h : Own64 w base v l) : NV w v l := by
  have : OwnL 2 1 nenc w base v l := by
    unfold OwnL
    rw [flat_nenc]
    exact h
  exact this.rs fun _ => rfl
set_option maxRecDepth 100000 in
theorem same_num {w : World} {v v' : Value} {l : List Int} (h : NV w v l) (h' : NV w v' l) (hl : l.length < 100000) : Calls Try.prog 86 #[v, v'] w fun e w' => e = .returned (.bool true) ∧ Below w.heap.size w w' := by
  obtain ⟨a, n, cap, rfl, hn, hc, hm, hat⟩ := h.at_
  obtain ⟨a', n', cap', rfl, hn', hc', hm', hat'⟩ := h'.at_
  obtain rfl : n = n' := by omega
  have HA := Lib.hid hat; have HA' := Lib.hid hat'
  have hlm : n < 100000 := by omega
  have HN := Lib.hid hn
  clear hat h hn hl hat' h' hn' hm hm'
  go_enter Try.func86, Try.ntmps86
  go_wp2
  go_loopw [5] (fun iv wr => ∃ t : Nat, t ≤ n ∧ iv = .int .i64 t ∧ Hid (Below w.heap.size w wr)) (fun iv _ => n - (intOf iv).toNat)
  case atStart => exact ⟨0, Nat.zero_le _, rfl, Lib.hid (Below.refl _ _)⟩
  case round =>
    obtain ⟨t, ht, rfl, HQ⟩ := hrel
    obtain ⟨w1, rfl⟩ : ∃ w1, w1 = wr := ⟨_, rfl⟩
    by_cases hlt : t < n
    · have hts : (t : Int) < (n : Int) := by omega
      obtain ⟨x, hx⟩ := at_lt (l := l) (i := t) (by rw [← HN.out]; exact hlt)
      obtain ⟨b, off, rfl, hb, hcell⟩ := HA.out t x hx
      obtain ⟨b', off', rfl, hb', hcell'⟩ := HA'.out t x hx
      have e0 := (HQ.out.cell (p := ⟨b, off + t * 1, none⟩) hb).trans (hcell 0 _ rfl)
      have e1 := (HQ.out.cell (p := ⟨b', off' + t * 1, none⟩) hb').trans (hcell' 0 _ rfl)
      simp only [Nat.mul_one] at e0 e1
      have hs1 := HQ.out.size
      have hbb : b < w1.heap.size := by omega
      have hbb' : b' < w1.heap.size := by omega
      clear hcell hx hcell'
      go_wp2
      refine wp_region_pure (by kernel_rfl) (by kernel_rfl) ?_
      repeat (first | go_big_quiet_step ((fail)) | (quiet_step ((fail))))
      refine wpQuiet_nil ?_
      rintro w2 ⟨x2, hx2⟩
      have hb2 := ext_below _ x2
      rw [← hx2] at hb2
      clear hx2 x2
      have hs2 : w1.heap.size + 0 ≤ w2.heap.size := (by have h := hb2.size; first | omega | (simp at h; omega))
      obtain ⟨hc2, hf2, hl2⟩ := bcell hb2
      clear hl2
      have HB2 := Lib.hid hb2
      clear hb2 hc2 hf2
      go_wp2
      go_roundw
      case rel => exact ⟨t + 1, by omega, by go_num, Lib.hid (bt HQ.out HB2.out)⟩
      case measure => simp [intOf]; omega
    · obtain rfl : n = t := by omega
      go_wp2
      go_ret
      exact ⟨rfl, HQ.out⟩
end Go.Proofs.Ytajcelmnblncaaa

/- The document's lists of keys in order: Place, Drop, ahead, Put, Due. -/
import Derived.Test.YtajcelmnblncaaaHeap11
import Derived.Test.YtajcelmnblncaaaRS
namespace Go.Proofs.Ytajcelmnblncaaa
open Go.RowKit Go.Maps
attribute [local go_sem] ext_cell ext_frozen extC_cell extC_frozen Mix.calmUpon Mix.mUpon
def ienc (p : It) : List Value := [.int .i64 p.1, .int .i64 p.2]
/-- A slice of the document's items; one of the call's own. -/
abbrev IV (w : World) (v : Value) (l : List It) : Prop := RS 2 ienc w v l
abbrev OI (w : World) (base : Nat) (v : Value) (l : List It) : Prop := OwnL 61 2 ienc w base v l
theorem ienc_len (p : It) : (ienc p).length = 2 := rfl
theorem infoIt : (Try.prog.info? 61).map (fun i => (i.zero, i.size, i.bytes)) = some (some (.agg #[.int .i64 0, .int .i64 0]), 2, 16) := by kernel_rfl
theorem OI.app {w : World} {base : Nat} {v : Value} {l : List It} {b : Nat} (h : OI w base v l) (x : It) (h0 : w.cell? ⟨b, 0, none⟩ = some (.int .i64 x.1)) (h1 : w.cell? ⟨b, 1, none⟩ = some (.int .i64 x.2)) (hl : l.length < 1000000) (hb : base ≤ w.heap.size) :
    ∃ v' w', (Builtin.append_ #[50, 50] 50 #[v, .slice (some ⟨b, 0, none⟩) 1 1]).run Try.prog w = .ok v' w' ∧ OI w' base v' (l ++ [x]) ∧ w.grownBy w' v.ownBlock ∧ (v'.ownBlock = v.ownBlock ∨ v'.ownBlock = some w.heap.size) := by
  obtain ⟨i0, hi, hz0, hz1, hz2⟩ := info_parts infoIt
  exact OwnL.app h Try.underlying50 hi hz0 hz1 hz2 rfl (by decide) ienc_len x (fun j u hj => by
      rcases j with _ | _ | j <;> simp [ienc] at hj
      · subst hj; exact h0
      · subst hj; exact h1) (fun u hu => by simp [ienc] at hu; rcases hu with rfl | rfl <;> rfl) (by omega) (by unfold maxLen; omega) hb
/-- Where a key stands, or -1. -/
def lpl : List It → Int → Int
  | [], _ => -1
  | p :: t, k => if p.1 = k then 0 else if lpl t k = -1 then -1 else lpl t k + 1
theorem lpl_ge : ∀ (l : List It) (k : Int), -1 ≤ lpl l k
  | [], _ => by simp [lpl]
  | p :: t, k => by have := lpl_ge t k; unfold lpl; split <;> (try split) <;> omega
theorem lpl_some {l m : List It} {x : It} {k : Int} (he : x.1 = k) (hn : ∀ p ∈ l, p.1 ≠ k) : lpl (l ++ x :: m) k = l.length := by
  induction l with
  | nil => simp [lpl, he]
  | cons p t ih =>
    have := ih fun q hq => hn q (by simp [hq])
    rw [List.cons_append, lpl, if_neg (hn p (by simp)), this, if_neg (by omega)]; simp
theorem lpl_none {l : List It} {k : Int} (hn : ∀ p ∈ l, p.1 ≠ k) : lpl l k = -1 := by
  induction l with
  | nil => rfl
  | cons p t ih => rw [lpl, if_neg (hn p (by simp)), ih fun q hq => hn q (by simp [hq]), if_pos rfl]
theorem place_any {w : World} {v : Value} {l : List It} (h : IV w v l) (k : Int) : Calls Try.prog 35 #[v, .int .i64 k] w fun e w' => e = .returned (.int .i64 (lpl l k)) ∧ Below w.heap.size w w' := by
  obtain ⟨a, n, cap, rfl, hn, hc, hm, hat⟩ := h.at_
  have HA := Lib.hid hat
  unfold maxLen at hm
  have hlm : n ≤ 9223372036854775807 := by omega
  have HN := Lib.hid hn
  clear hat h hn
  go_enter Try.func35, Try.ntmps35
  go_wp2
  go_loop [5] (fun iv => ∃ t : Nat, t ≤ n ∧ iv = .int .i64 t ∧ Hid (∀ p ∈ l.take t, p.1 ≠ k)) (fun iv => n - (intOf iv).toNat)
  case atStart => exact ⟨0, Nat.zero_le _, rfl, Lib.hid fun p h => by simp at h⟩
  case round =>
    obtain ⟨t, ht, rfl, HQ⟩ := hrel
    by_cases hlt : t < n
    · have hts : (t : Int) < (n : Int) := by omega
      obtain ⟨x, hx⟩ := at_lt (l := l) (i := t) (by rw [← HN.out]; exact hlt)
      obtain ⟨b, off, rfl, hb, hcell⟩ := HA.out t x hx
      have e0 := hcell 0 _ rfl
      simp only [Nat.add_zero] at e0
      have HX := Lib.hid hx
      clear hcell hx
      by_cases he : x.1 = k
      · have heb : (x.1 == k) = true := by simpa using he
        have HE := Lib.hid he
        clear he
        go_wp2
        go_ret
        refine ⟨?_, Below.refl _ _⟩
        have := lpl_some (l := l.take t) (m := l.drop (t + 1)) HE.out HQ.out
        rw [← parted_at HX.out, List.length_take, Nat.min_eq_left (by rw [← HN.out]; omega)] at this
        rw [this]; rfl
      · have heb : (x.1 == k) = false := by simpa using he
        have HE := Lib.hid he
        clear he
        go_wp2
        go_round
        case rel => exact ⟨t + 1, by omega, by go_num, Lib.hid fun p hp => by
          rw [take_at HX.out] at hp
          rcases List.mem_append.1 hp with h | h
          · exact HQ.out p h
          · rw [List.mem_singleton.1 h]; exact HE.out⟩
        case measure => simp [intOf]; omega
    · obtain rfl : n = t := by omega
      go_wp2
      go_ret
      refine ⟨?_, Below.refl _ _⟩
      rw [lpl_none fun p hp => HQ.out p (by rw [HN.out, List.take_length]; exact hp)]; rfl
theorem ldel_snoc (l : List It) (x : It) (k : Int) : ldel (l ++ [x]) k = ldel l k ++ (if x.1 = k then [] else [x]) := by
  unfold ldel
  rw [List.filter_append]
  by_cases h : x.1 = k
  · rw [if_pos h, List.filter_cons, if_neg (by simpa using h)]; rfl
  · rw [if_neg h, List.filter_cons, if_pos (by simpa using h)]; rfl
/-- A list that a call makes. -/
def RetI (w : World) (l : List It) (e : Ending) (w' : World) : Prop := ∃ v, e = .returned v ∧ OI w' w.heap.size v l ∧ Below w.heap.size w w'
set_option maxRecDepth 100000 in
theorem drop_any {w : World} {v : Value} {l : List It} (h : IV w v l) (k : Int) (hl : l.length < 100000) : Calls Try.prog 84 #[v, .int .i64 k] w (RetI w (ldel l k)) := by
  obtain ⟨a, n, cap, rfl, hn, hc, hm, hat⟩ := h.at_
  have HA := Lib.hid hat
  unfold maxLen at hm
  have hlm : n < 100000 := by omega
  have HN := Lib.hid hn
  clear hat h hn hl
  go_enter Try.func84, Try.ntmps84
  go_wp2
  go_loopw [5, 6] (fun ov iv wr => ∃ t : Nat, t ≤ n ∧ iv = .int .i64 t ∧ Hid (OI wr w.heap.size ov (ldel (l.take t) k) ∧ Below w.heap.size w wr)) (fun _ iv _ => n - (intOf iv).toNat)
  case atStart => exact ⟨0, Nat.zero_le _, rfl, Lib.hid ⟨OwnL.nil _ _ _ _ _, Below.refl _ _⟩⟩
  case round =>
    obtain ⟨t, ht, rfl, HQ⟩ := hrel
    obtain ⟨w1, rfl⟩ : ∃ w1, w1 = wr := ⟨_, rfl⟩
    by_cases hlt : t < n
    · have hts : (t : Int) < (n : Int) := by omega
      obtain ⟨x, hx⟩ := at_lt (l := l) (i := t) (by rw [← HN.out]; exact hlt)
      obtain ⟨b, off, rfl, hb, hcell⟩ := HA.out t x hx
      have e0 := (HQ.out.2.cell (p := ⟨b, off + t * 2, none⟩) hb).trans (hcell 0 _ rfl)
      have e1 := (HQ.out.2.cell (p := ⟨b, off + t * 2 + 1, none⟩) hb).trans (hcell 1 _ rfl)
      have HX := Lib.hid (take_at hx)
      clear hcell hx
      by_cases he : x.1 = k
      · have heb : (x.1 == k) = true := by simpa using he
        have HE := Lib.hid (show ldel (l.take (t + 1)) k = ldel (l.take t) k by rw [HX.out, ldel_snoc, if_pos he]; simp)
        clear he
        go_wp2
        go_roundw
        case rel => exact ⟨t + 1, by omega, by go_num, by rw [HE.out]; exact HQ⟩
        case measure => simp [intOf]; omega
      · have heb : (x.1 == k) = false := by simpa using he
        have HE := Lib.hid (show ldel (l.take (t + 1)) k = ldel (l.take t) k ++ [x] by rw [HX.out, ldel_snoc, if_neg he])
        have hle : (ldel (l.take t) k).length < 1000000 := by
          have h1 : (ldel (l.take t) k).length ≤ (l.take t).length := List.length_filter_le _ _
          have h2 := List.length_take_le t l
          omega
        obtain ⟨v2, w2, hrun, o2, g2, _⟩ := OI.app (HQ.out.1.below (ba (Below.refl _ _) (.cells #[.int .i64 x.1, .int .i64 x.2] 61))) x (b := w1.heap.size) (by simp [go_sem]) (by simp [go_sem]) hle (by simp; have := HQ.out.2.size; omega)
        have HR := Lib.hid hrun
        have HB := Lib.hid (show Below w.heap.size w w2 from (ba HQ.out.2 _).grown g2 (by simp; have := HQ.out.2.size; omega) (fun j hj => (HQ.out.1.lt j hj).1))
        have O2 := Lib.hid o2
        clear he hrun o2 g2 hle
        go_wp2_with (at_builtin; refine wpList_app_run rfl _ _ _ rfl rfl rfl HR.out ?_)
        go_roundw
        case rel => exact ⟨t + 1, by omega, by go_num, Lib.hid ⟨by rw [HE.out]; exact O2.out, HB.out⟩⟩
        case measure => simp [intOf]; omega
    · obtain rfl : n = t := by omega
      have hT : l.take n = l := by rw [HN.out, List.take_length]
      have HQ2 := HQ.out
      rw [hT] at HQ2
      have HQ2 := Lib.hid HQ2
      clear hT HQ
      go_wp2
      go_ret
      exact ⟨_, rfl, HQ2.out.1, HQ2.out.2⟩
abbrev itV2 (x : It) : Value := .agg #[.int .i64 x.1, .int .i64 x.2]
theorem ahead_any (a b : It) : Pure Try.prog 111 #[itV2 a, itV2 b] (.bool (decide (lt2 a b))) := by
  obtain ⟨a1, a2⟩ := a; obtain ⟨b1, b2⟩ := b
  intro W
  by_cases h1 : a2 < b2
  · rw [decide_eq_true (show lt2 (a1, a2) (b1, b2) from .inl h1)]
    have h1b : decide (a2 < b2) = true := by simpa using h1
    go_enter Try.func111, Try.ntmps111
    go_wp2
    go_ret
    exact ⟨rfl, ba (ba (Below.refl _ _) _) _⟩
  · have h1b : decide (a2 < b2) = false := by simpa using h1
    by_cases h2 : a2 = b2
    · subst h2
      by_cases h3 : a1 < b1
      · rw [decide_eq_true (show lt2 (a1, a2) (b1, a2) from .inr ⟨rfl, h3⟩)]
        have h3b : decide (a1 < b1) = true := by simpa using h3
        clear h1
        go_enter Try.func111, Try.ntmps111
        go_wp2
        go_ret
        exact ⟨rfl, ba (ba (Below.refl _ _) _) _⟩
      · rw [decide_eq_false (show ¬ lt2 (a1, a2) (b1, a2) from fun h => by unfold lt2 at h; simp at h; omega)]
        have h3b : decide (a1 < b1) = false := by simpa using h3
        clear h1
        go_enter Try.func111, Try.ntmps111
        go_wp2
        go_ret
        exact ⟨rfl, ba (ba (Below.refl _ _) _) _⟩
    · rw [decide_eq_false (show ¬ lt2 (a1, a2) (b1, b2) from fun h => by unfold lt2 at h; simp at h; omega)]
      have h2b : (a2 == b2) = false := by simpa using h2
      go_enter Try.func111, Try.ntmps111
      go_wp2
      go_ret
      exact ⟨rfl, ba (ba (Below.refl _ _) _) _⟩
end Go.Proofs.Ytajcelmnblncaaa

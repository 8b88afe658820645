/- life: manciplelaw30.Few, LifeOnce. -/
import Derived.Test.YtennhfkhdfalfaaLfE
namespace Go.Proofs.Ytennhfkhdfalfaa
open Go.RowKit Go.Maps
attribute [local go_sem] ext_cell ext_frozen extC_cell extC_frozen Mix.calmUpon Mix.mUpon
/-- What Few answers: nothing is asked of it but that a yes has few events. -/
def FewR (l : List Ev) (W : World) (e : Ending) (w' : World) : Prop := ∃ b : Bool, e = .returned (.bool b) ∧ (b = true → l.length ≤ 300) ∧ w' = W
set_option maxRecDepth 100000 in
set_option maxHeartbeats 4000000 in
theorem few30 (v : Value) (l : List Ev) (W : World) (hr : RS 5 evenc W v l) (hI : ∀ x ∈ l, EIn W x) :
    Calls Try.prog 48 #[v] W (FewR l W) := by
  obtain ⟨a, n, cap, rfl, hn, hc, hm, hat⟩ := hr.at_
  have HAT := Lib.hid hat; have HI := Lib.hid hI; have HN := Lib.hid hn
  have hn63 : n ≤ 9223372036854775807 := by simp only [maxLen] at hm; omega
  clear hr hat hI hn hm
  go_enter Try.func48, Try.ntmps48
  go_wp2
  go_loop [3, 4] (fun nv iv => ∃ (t : Nat) (x : Int), t ≤ n ∧ iv = .int .i64 t ∧ nv = .int .i64 x) (fun nv iv => n - (intOf iv).toNat)
  case atStart => exact ⟨0, 0, Nat.zero_le _, rfl, rfl⟩
  case round =>
    obtain ⟨t, x, ht, rfl, rfl⟩ := hrel
    by_cases hlt : t < n
    · have hts : (t : Int) < (n : Int) := by omega
      obtain ⟨y, hy⟩ := at_lt (l := l) (i := t) (by rw [← HN.out]; exact hlt)
      obtain ⟨b, off, rfl, hb, hcell⟩ := HAT.out t y hy
      have c4 := hcell 4 _ rfl
      obtain ⟨va, vc, hvv, -, -⟩ := (HI.out y (mem_at hy)).vc.form
      rw [hvv] at c4
      clear hcell hy hvv
      generalize y.ps.length = m at *
      generalize hs : IntKind.i64.wrap (x + (m : Int)) = s
      go_wp2
      go_round
      case rel => exact ⟨t + 1, s, by omega, by go_num, rfl⟩
      case measure => simp [intOf]; omega
    · obtain rfl : n = t := by omega
      by_cases h3 : n ≤ 300
      · have h3I : (n : Int) ≤ 300 := by omega
        have H3 := Lib.hid (show l.length ≤ 300 by rw [← HN.out]; exact h3)
        go_wp2
        go_ret
        exact ⟨_, rfl, fun _ => H3.out, rfl⟩
      · have h3I : ¬ (n : Int) ≤ 300 := by omega
        go_wp2
        go_ret
        exact ⟨false, rfl, (fun e => by cases e), rfl⟩
theorem count_step {α : Type} {p : α → Bool} {l : List α} {t : Nat} {x : α} (h : l[t]? = some x) : (l.take (t + 1)).countP p = (l.take t).countP p + if p x then 1 else 0 := by
  rw [take_at h, List.countP_append, List.countP_cons, List.countP_nil]; omega
theorem count_le' {α : Type} {p : α → Bool} (l : List α) (t : Nat) : (l.take t).countP p ≤ t := by
  have := List.countP_le_length (p := p) (l := l.take t)
  rw [List.length_take] at this; omega
set_option maxRecDepth 100000 in
set_option maxHeartbeats 8000000 in
theorem once30 (v : Value) (l : List Ev) (W : World) (hr : RS 5 evenc W v l) (hI : ∀ x ∈ l, EIn W x) :
    Calls Try.prog 10 #[v] W fun e w' => e = .returned (.bool true) ∧ Below W.heap.size W w' := by
  have HCH := Lib.hid (check_any v l W hr hI)
  have HR := Lib.hid hr; have HI := Lib.hid hI
  obtain ⟨va, n, vc, rfl, hn, -, -, hatE⟩ := hr.at_
  have HATE := Lib.hid hatE; have HN := Lib.hid hn
  have hcn : ((chk hs0 l).1 : Int) ≤ (n : Int) := by have := chk_le hs0 l; omega
  obtain ⟨cn, hcn'⟩ : ∃ cn, cn = (chk hs0 l).1 := ⟨_, rfl⟩
  obtain ⟨cb, hcb'⟩ : ∃ cb, cb = (chk hs0 l).2 := ⟨_, rfl⟩
  rw [← hcn', ← hcb'] at HCH
  rw [← hcn'] at hcn
  have HCB := Lib.hid hcb'
  clear hr hI hatE hn hcn' hcb'
  go_enter Try.func10, Try.ntmps10
  go_wp2_with fail
  refine HCH.out.mono ?_
  rintro e w1 ⟨rfl, hb1⟩
  have HB1 := Lib.hid hb1
  have HR1 := Lib.hid (HR.out.below hb1)
  have HI1 := Lib.hid (show ∀ x ∈ l, EIn w1 x from fun x hx => by
    have h := HI.out x hx
    exact ⟨h.vc.on hb1, h.fr, h.id, h.ag⟩)
  clear hb1
  go_wp2_with fail
  refine (few30 _ l w1 HR1.out HI1.out).mono ?_
  rintro e w2 ⟨b, rfl, hb300, hw2⟩
  rw [hw2]
  clear hw2 w2
  by_cases hgo : b = true ∧ cb = true
  · obtain ⟨rfl, rfl⟩ := hgo
    have HL3 := Lib.hid (hb300 rfl)
    have HOF := Lib.hid (of_any _ l w1 HR1.out HI1.out HL3.out)
    have HRISE := Lib.hid (lvs_rise l hs0 0 HCB.out.symm).2
    have HTO := Lib.hid (lvs_to l 0)
    have HCE := Lib.hid (closes_ends HCB.out.symm)
    have HLL := Lib.hid (Nat.le_trans (lvs_len l 0) HL3.out)
    have HOP := Lib.hid (fun w (hb : Below w1.heap.size w1 w) => open_any _ l w (HR1.out.below hb) (fun x hx => ⟨(HI1.out x hx).vc.on hb, (HI1.out x hx).fr, (HI1.out x hx).id, (HI1.out x hx).ag⟩) HL3.out)
    obtain ⟨L, hL⟩ : ∃ L, L = lvs l 0 := ⟨_, rfl⟩
    rw [← hL] at HOF HRISE HTO HCE HLL HOP
    clear hL hb300
    go_wp2_with fail
    refine HOF.out.mono ?_
    rintro e w3 ⟨u, rfl, hu, hb3⟩
    obtain ⟨ua, m, uc, rfl, hm, -, -, hat⟩ := hu.at_
    have HAT := Lib.hid hat; have HM := Lib.hid hm; have HB3 := Lib.hid hb3
    have hm3 : m ≤ 300 := by have := HLL.out; omega
    have hn3 : n ≤ 300 := by have := HL3.out; have := HN.out; omega
    have HI0 := Lib.hid (Below.refl w3.heap.size w3)
    clear hu hb3 hat hm
    go_wp2
    go_loopw [6, 7] (fun nv iv wr => ∃ (t c : Nat), t ≤ m ∧ iv = .int .i64 t ∧ nv = .int .i64 c ∧ c ≤ t ∧ Hid (Below w3.heap.size w3 wr ∧ c = (L.take t).countP endB)) (fun nv iv _ => m - (intOf iv).toNat)
    case atStart => exact ⟨0, 0, Nat.zero_le _, rfl, rfl, Nat.le_refl _, Lib.hid ⟨HI0.out, by rw [List.take_zero]; rfl⟩⟩
    case round =>
      clear HI0
      obtain ⟨t, c, ht, rfl, rfl, hct, HQ0⟩ := hrel
      have HQ := Lib.hid HQ0.out.1; have HCT := Lib.hid HQ0.out.2
      clear HQ0
      obtain ⟨w4, rfl⟩ : ∃ w4, w4 = wr := ⟨_, rfl⟩
      by_cases hlt : t < m
      · have hts : (t : Int) < (m : Int) := by omega
        obtain ⟨x, hx⟩ := at_lt (l := L) (i := t) (by rw [← HM.out]; omega)
        have HX := Lib.hid hx
        have HTX := Lib.hid (HTO.out x (mem_at hx))
        obtain ⟨b, off, rfl, hb, hcell⟩ := HAT.out t x hx
        have hbw := HQ.out
        have d0 := (hbw.cell (p := ⟨b, off + t * 6 + 0, none⟩) hb).trans (hcell 0 _ rfl)
        have d3 := (hbw.cell (p := ⟨b, off + t * 6 + 3, none⟩) hb).trans (hcell 3 _ rfl)
        have d4 := (hbw.cell (p := ⟨b, off + t * 6 + 4, none⟩) hb).trans (hcell 4 _ rfl)
        simp only [Nat.add_zero] at d0
        have hbl : b < w4.heap.size := Nat.lt_of_lt_of_le hb hbw.size
        obtain ⟨xid, xf, xa, xfr, xto, xh⟩ := x
        simp only at d0 d3 d4 HTX
        clear hcell hx hbw
        by_cases ht0 : t = 0
        · subst ht0
          -- behind the test of one life: does it end?
          have HB5 := Lib.hid (bd HQ.out)
          cases hto : decide (0 ≤ xto) with
          | true =>
            have h0 : 0 ≤ xto := of_decide_eq_true hto
            have hgt : ¬ xto ≤ xfr := by have := HTX.out h0; omega
            have HC := Lib.hid (show (L.take (0 + 1)).countP endB = (L.take 0).countP endB + 1 from by rw [count_step HX.out, if_pos (by unfold endB; exact hto)])
            go_wp2
            go_region
            go_wp2
            go_roundw
            case rel => exact ⟨0 + 1, c + 1, by omega, by go_num, by go_num, by omega, Lib.hid ⟨HB5.out, by rw [HC.out, ← HCT.out]⟩⟩
            case measure => simp [intOf]; omega
          | false =>
            have h0 : ¬ 0 ≤ xto := of_decide_eq_false hto
            have HC := Lib.hid (show (L.take (0 + 1)).countP endB = (L.take 0).countP endB from by rw [count_step HX.out, if_neg (by unfold endB; rw [hto]; simp)]; rfl)
            go_wp2
            go_region
            go_wp2
            go_roundw
            case rel => exact ⟨0 + 1, c, by omega, by go_num, rfl, by omega, Lib.hid ⟨HB5.out, by rw [HC.out, ← HCT.out]⟩⟩
            case measure => simp [intOf]; omega
        · obtain ⟨u, hu⟩ : ∃ u, t = u + 1 := ⟨t - 1, by omega⟩
          obtain ⟨y, hy⟩ := at_lt (l := L) (i := u) (by rw [← HM.out]; omega)
          obtain ⟨b', off', hbe, hb', hcell'⟩ := HAT.out u y hy
          cases hbe
          have e0 := (HQ.out.cell (p := ⟨b, off + u * 6 + 0, none⟩) hb').trans (hcell' 0 _ rfl)
          simp only [Nat.add_zero] at e0
          have hri : ¬ xid ≤ y.id := by
            obtain ⟨h1, h2⟩ := List.getElem?_eq_some_iff.1 HX.out
            obtain ⟨h3, h4⟩ := List.getElem?_eq_some_iff.1 hy
            have := List.pairwise_iff_getElem.1 HRISE.out u t h3 h1 (by omega)
            rw [h2, h4] at this
            simp only at this; omega
          have hus : (u : Int) < (m : Int) := by omega
          have hwu : IntKind.i64.wrap ((t : Int) - 1) = (u : Int) := by rw [show (t : Int) - 1 = u by omega]; exact IntWalk.i64_in _ (by omega)
          have hg1 : decide (0 < (t : Int)) = true := decide_eq_true (by omega)
          have hg2 : (0 : Int) < (t : Int) := by omega
          have hg3 : 0 < t := by omega
          have hg4 : decide (0 < t) = true := decide_eq_true hg3
          generalize y.id = yid at *
          have hrd : decide (xid ≤ yid) = false := decide_eq_false hri
          clear hcell' hy hb' hu ht0
          have HB5 := Lib.hid HQ.out
          cases hto : decide (0 ≤ xto) with
          | true =>
            have h0 : 0 ≤ xto := of_decide_eq_true hto
            have hgt : ¬ xto ≤ xfr := by have := HTX.out h0; omega
            have hgd : decide (xto ≤ xfr) = false := decide_eq_false hgt
            have HC := Lib.hid (show (L.take (t + 1)).countP endB = (L.take t).countP endB + 1 from by rw [count_step HX.out, if_pos (by unfold endB; exact hto)])
            go_wp2
            refine Mix.regionC (fun _ => False) (by kernel_rfl) ?_
            intro w5 hb5
            refine Mix.take_exC _ _ 0 rfl (by kernel_rfl) (by kernel_rfl) (by kernel_rfl) (by kernel_rfl) (fun K hK => ?_)
            go_simp
            first | (refine hK _ ?_; clear hK K) | (apply Exists.intro; refine ⟨fun x => ?_, hK _ ?_⟩; (fail); clear hK K)
            refine Mix.take_exC _ _ 1 rfl (by kernel_rfl) (by kernel_rfl) (by kernel_rfl) (by kernel_rfl) (fun K hK => ?_)
            go_simp
            first | (refine hK _ ?_; clear hK K) | (apply Exists.intro; refine ⟨fun x => ?_, hK _ ?_⟩; (fail); clear hK K)
            refine Mix.take_exC _ _ 2 rfl (by kernel_rfl) (by kernel_rfl) (by kernel_rfl) (by kernel_rfl) (fun K hK => ?_)
            go_simp
            first | (refine hK _ ?_; clear hK K) | (apply Exists.intro; refine ⟨fun x => ?_, hK _ ?_⟩; (fail); clear hK K)
            refine Mix.take_exC _ _ 3 rfl (by kernel_rfl) (by kernel_rfl) (by kernel_rfl) (by kernel_rfl) (fun K hK => ?_)
            go_simp
            first | (refine hK _ ?_; clear hK K) | (apply Exists.intro; refine ⟨fun x => ?_, hK _ ?_⟩; (fail); clear hK K)
            refine Mix.take_exC _ _ 4 rfl (by kernel_rfl) (by kernel_rfl) (by kernel_rfl) (by kernel_rfl) (fun K hK => ?_)
            go_simp
            first | (refine hK _ ?_; clear hK K) | (apply Exists.intro; refine ⟨fun x => ?_, hK _ ?_⟩; (fail); clear hK K)
            refine Mix.take_exC _ _ 5 rfl (by kernel_rfl) (by kernel_rfl) (by kernel_rfl) (by kernel_rfl) (fun K hK => ?_)
            go_simp
            first | (refine hK _ ?_; clear hK K) | (apply Exists.intro; refine ⟨fun x => ?_, hK _ ?_⟩; (fail); clear hK K)
            refine Mix.take_exC _ _ 6 rfl (by kernel_rfl) (by kernel_rfl) (by kernel_rfl) (by kernel_rfl) (fun K hK => ?_)
            go_simp
            first | (refine hK _ ?_; clear hK K) | (apply Exists.intro; refine ⟨fun x => ?_, hK _ ?_⟩; (fail); clear hK K)
            refine Mix.take_exC _ _ 7 rfl (by kernel_rfl) (by kernel_rfl) (by kernel_rfl) (by kernel_rfl) (fun K hK => ?_)
            go_simp
            first | (refine hK _ ?_; clear hK K) | (apply Exists.intro; refine ⟨fun x => ?_, hK _ ?_⟩; (fail); clear hK K)
            refine Mix.take_exC _ _ 8 rfl (by kernel_rfl) (by kernel_rfl) (by kernel_rfl) (by kernel_rfl) (fun K hK => ?_)
            go_simp
            first | (refine hK _ ?_; clear hK K) | (apply Exists.intro; refine ⟨fun x => ?_, hK _ ?_⟩; (fail); clear hK K)
            refine Mix.take_exC _ _ 9 rfl (by kernel_rfl) (by kernel_rfl) (by kernel_rfl) (by kernel_rfl) (fun K hK => ?_)
            go_simp
            first | (refine hK _ ?_; clear hK K) | (apply Exists.intro; refine ⟨fun x => ?_, hK _ ?_⟩; (fail); clear hK K)
            refine Mix.take_exC _ _ 10 rfl (by kernel_rfl) (by kernel_rfl) (by kernel_rfl) (by kernel_rfl) (fun K hK => ?_)
            go_simp
            first | (refine hK _ ?_; clear hK K) | (apply Exists.intro; refine ⟨fun x => ?_, hK _ ?_⟩; (fail); clear hK K)
            refine Mix.take_exC _ _ 11 rfl (by kernel_rfl) (by kernel_rfl) (by kernel_rfl) (by kernel_rfl) (fun K hK => ?_)
            go_simp
            first | (refine hK _ ?_; clear hK K) | (apply Exists.intro; refine ⟨fun x => ?_, hK _ ?_⟩; (fail); clear hK K)
            refine Mix.take_exC _ _ 12 rfl (by kernel_rfl) (by kernel_rfl) (by kernel_rfl) (by kernel_rfl) (fun K hK => ?_)
            go_simp
            first | (refine hK _ ?_; clear hK K) | (apply Exists.intro; refine ⟨fun x => ?_, hK _ ?_⟩; (fail); clear hK K)
            refine Mix.take_exC _ _ 13 rfl (by kernel_rfl) (by kernel_rfl) (by kernel_rfl) (by kernel_rfl) (fun K hK => ?_)
            go_simp
            first | (refine hK _ ?_; clear hK K) | (apply Exists.intro; refine ⟨fun x => ?_, hK _ ?_⟩; (fail); clear hK K)
            refine Mix.take_exC _ _ 14 rfl (by kernel_rfl) (by kernel_rfl) (by kernel_rfl) (by kernel_rfl) (fun K hK => ?_)
            go_simp
            first | (refine hK _ ?_; clear hK K) | (apply Exists.intro; refine ⟨fun x => ?_, hK _ ?_⟩; (fail); clear hK K)
            refine Mix.take_exC _ _ 15 rfl (by kernel_rfl) (by kernel_rfl) (by kernel_rfl) (by kernel_rfl) (fun K hK => ?_)
            go_simp
            first | (refine hK _ ?_; clear hK K) | (apply Exists.intro; refine ⟨fun x => ?_, hK _ ?_⟩; (fail); clear hK K)
            refine Mix.take_exC _ _ 16 rfl (by kernel_rfl) (by kernel_rfl) (by kernel_rfl) (by kernel_rfl) (fun K hK => ?_)
            go_simp
            first | (refine hK _ ?_; clear hK K) | (apply Exists.intro; refine ⟨fun x => ?_, hK _ ?_⟩; (fail); clear hK K)
            refine Mix.take_exC _ _ 17 rfl (by kernel_rfl) (by kernel_rfl) (by kernel_rfl) (by kernel_rfl) (fun K hK => ?_)
            go_simp
            first | (refine hK _ ?_; clear hK K) | (apply Exists.intro; refine ⟨fun x => ?_, hK _ ?_⟩; (fail); clear hK K)
            refine Mix.take_exC _ _ 18 rfl (by kernel_rfl) (by kernel_rfl) (by kernel_rfl) (by kernel_rfl) (fun K hK => ?_)
            go_simp
            first | (refine hK _ ?_; clear hK K) | (apply Exists.intro; refine ⟨fun x => ?_, hK _ ?_⟩; (fail); clear hK K)
            refine Mix.take_exC _ _ 19 rfl (by kernel_rfl) (by kernel_rfl) (by kernel_rfl) (by kernel_rfl) (fun K hK => ?_)
            go_simp
            first | (refine hK _ ?_; clear hK K) | (apply Exists.intro; refine ⟨fun x => ?_, hK _ ?_⟩; (fail); clear hK K)
            refine Mix.take_exC _ _ 20 rfl (by kernel_rfl) (by kernel_rfl) (by kernel_rfl) (by kernel_rfl) (fun K hK => ?_)
            go_simp
            first | (refine hK _ ?_; clear hK K) | (apply Exists.intro; refine ⟨fun x => ?_, hK _ ?_⟩; (fail); clear hK K)
            refine Mix.take_exC _ _ 21 rfl (by kernel_rfl) (by kernel_rfl) (by kernel_rfl) (by kernel_rfl) (fun K hK => ?_)
            go_simp
            first | (refine hK _ ?_; clear hK K) | (apply Exists.intro; refine ⟨fun x => ?_, hK _ ?_⟩; (fail); clear hK K)
            refine Mix.take_exC _ _ 22 rfl (by kernel_rfl) (by kernel_rfl) (by kernel_rfl) (by kernel_rfl) (fun K hK => ?_)
            go_simp
            first | (refine hK _ ?_; clear hK K) | (apply Exists.intro; refine ⟨fun x => ?_, hK _ ?_⟩; (fail); clear hK K)
            refine Mix.take_exC _ _ 23 rfl (by kernel_rfl) (by kernel_rfl) (by kernel_rfl) (by kernel_rfl) (fun K hK => ?_)
            go_simp
            first | (refine hK _ ?_; clear hK K) | (apply Exists.intro; refine ⟨fun x => ?_, hK _ ?_⟩; (fail); clear hK K)
            refine Mix.take_exC _ _ 24 rfl (by kernel_rfl) (by kernel_rfl) (by kernel_rfl) (by kernel_rfl) (fun K hK => ?_)
            go_simp
            first | (refine hK _ ?_; clear hK K) | (apply Exists.intro; refine ⟨fun x => ?_, hK _ ?_⟩; (fail); clear hK K)
            refine Mix.take_exC _ _ 25 rfl (by kernel_rfl) (by kernel_rfl) (by kernel_rfl) (by kernel_rfl) (fun K hK => ?_)
            go_simp
            first | (refine hK _ ?_; clear hK K) | (apply Exists.intro; refine ⟨fun x => ?_, hK _ ?_⟩; (fail); clear hK K)
            refine Mix.take_exC _ _ 26 rfl (by kernel_rfl) (by kernel_rfl) (by kernel_rfl) (by kernel_rfl) (fun K hK => ?_)
            go_simp
            first | (refine hK _ ?_; clear hK K) | (apply Exists.intro; refine ⟨fun x => ?_, hK _ ?_⟩; (fail); clear hK K)
            refine Mix.take_exC _ _ 27 rfl (by kernel_rfl) (by kernel_rfl) (by kernel_rfl) (by kernel_rfl) (fun K hK => ?_)
            go_simp
            first | (refine hK _ ?_; clear hK K) | (apply Exists.intro; refine ⟨fun x => ?_, hK _ ?_⟩; (fail); clear hK K)
            refine Mix.take_exC _ _ 28 rfl (by kernel_rfl) (by kernel_rfl) (by kernel_rfl) (by kernel_rfl) (fun K hK => ?_)
            go_simp
            first | (refine hK _ ?_; clear hK K) | (apply Exists.intro; refine ⟨fun x => ?_, hK _ ?_⟩; (fail); clear hK K)
            refine Mix.take_exC _ _ 29 rfl (by kernel_rfl) (by kernel_rfl) (by kernel_rfl) (by kernel_rfl) (fun K hK => ?_)
            go_simp
            first | (refine hK _ ?_; clear hK K) | (apply Exists.intro; refine ⟨fun x => ?_, hK _ ?_⟩; (fail); clear hK K)
            refine Mix.take_exC _ _ 30 rfl (by kernel_rfl) (by kernel_rfl) (by kernel_rfl) (by kernel_rfl) (fun K hK => ?_)
            go_simp
            first | (refine hK _ ?_; clear hK K) | (apply Exists.intro; refine ⟨fun x => ?_, hK _ ?_⟩; (fail); clear hK K)
            refine Mix.take_exC _ _ 31 rfl (by kernel_rfl) (by kernel_rfl) (by kernel_rfl) (by kernel_rfl) (fun K hK => ?_)
            go_simp
            first | (refine hK _ ?_; clear hK K) | (apply Exists.intro; refine ⟨fun x => ?_, hK _ ?_⟩; (fail); clear hK K)
            refine Mix.take_exC _ _ 32 rfl (by kernel_rfl) (by kernel_rfl) (by kernel_rfl) (by kernel_rfl) (fun K hK => ?_)
            go_simp
            first | (refine hK _ ?_; clear hK K) | (apply Exists.intro; refine ⟨fun x => ?_, hK _ ?_⟩; (fail); clear hK K)
            refine Mix.take_exC _ _ 33 rfl (by kernel_rfl) (by kernel_rfl) (by kernel_rfl) (by kernel_rfl) (fun K hK => ?_)
            go_simp
            first | (refine hK _ ?_; clear hK K) | (apply Exists.intro; refine ⟨fun x => ?_, hK _ ?_⟩; (fail); clear hK K)
            refine Mix.take_exC _ _ 34 rfl (by kernel_rfl) (by kernel_rfl) (by kernel_rfl) (by kernel_rfl) (fun K hK => ?_)
            go_simp
            first | (refine hK _ ?_; clear hK K) | (apply Exists.intro; refine ⟨fun x => ?_, hK _ ?_⟩; (fail); clear hK K)
            refine Mix.take_exC _ _ 35 rfl (by kernel_rfl) (by kernel_rfl) (by kernel_rfl) (by kernel_rfl) (fun K hK => ?_)
            go_simp
            first | (refine hK _ ?_; clear hK K) | (apply Exists.intro; refine ⟨fun x => ?_, hK _ ?_⟩; (fail); clear hK K)
            refine Mix.take_exC _ _ 36 rfl (by kernel_rfl) (by kernel_rfl) (by kernel_rfl) (by kernel_rfl) (fun K hK => ?_)
            go_simp
            first | (refine hK _ ?_; clear hK K) | (apply Exists.intro; refine ⟨fun x => ?_, hK _ ?_⟩; (fail); clear hK K)
            refine Mix.done (by kernel_rfl) (.of_below _ hb5) ?_
            intro w6 hb6
            have HB6 := Lib.hid (bt HB5.out (bt hb5 hb6))
            have d4 := ((bt hb5 hb6).cell (p := ⟨b, off + t * 6 + 4, none⟩) hbl).trans d4
            have hbl := Nat.lt_of_lt_of_le hbl (bt hb5 hb6).size
            clear hb5 hb6 d0 d3 e0
            go_wp2
            go_roundw
            case rel => exact ⟨t + 1, c + 1, by omega, by go_num, by go_num, by omega, Lib.hid ⟨HB6.out, by rw [HC.out, ← HCT.out]⟩⟩
            case measure => simp [intOf]; omega
          | false =>
            have h0 : ¬ 0 ≤ xto := of_decide_eq_false hto
            have HC := Lib.hid (show (L.take (t + 1)).countP endB = (L.take t).countP endB from by rw [count_step HX.out, if_neg (by unfold endB; rw [hto]; simp)]; rfl)
            go_wp2
            refine Mix.regionC (fun _ => False) (by kernel_rfl) ?_
            intro w5 hb5
            refine Mix.take_exC _ _ 0 rfl (by kernel_rfl) (by kernel_rfl) (by kernel_rfl) (by kernel_rfl) (fun K hK => ?_)
            go_simp
            first | (refine hK _ ?_; clear hK K) | (apply Exists.intro; refine ⟨fun x => ?_, hK _ ?_⟩; (fail); clear hK K)
            refine Mix.take_exC _ _ 1 rfl (by kernel_rfl) (by kernel_rfl) (by kernel_rfl) (by kernel_rfl) (fun K hK => ?_)
            go_simp
            first | (refine hK _ ?_; clear hK K) | (apply Exists.intro; refine ⟨fun x => ?_, hK _ ?_⟩; (fail); clear hK K)
            refine Mix.take_exC _ _ 2 rfl (by kernel_rfl) (by kernel_rfl) (by kernel_rfl) (by kernel_rfl) (fun K hK => ?_)
            go_simp
            first | (refine hK _ ?_; clear hK K) | (apply Exists.intro; refine ⟨fun x => ?_, hK _ ?_⟩; (fail); clear hK K)
            refine Mix.take_exC _ _ 3 rfl (by kernel_rfl) (by kernel_rfl) (by kernel_rfl) (by kernel_rfl) (fun K hK => ?_)
            go_simp
            first | (refine hK _ ?_; clear hK K) | (apply Exists.intro; refine ⟨fun x => ?_, hK _ ?_⟩; (fail); clear hK K)
            refine Mix.take_exC _ _ 4 rfl (by kernel_rfl) (by kernel_rfl) (by kernel_rfl) (by kernel_rfl) (fun K hK => ?_)
            go_simp
            first | (refine hK _ ?_; clear hK K) | (apply Exists.intro; refine ⟨fun x => ?_, hK _ ?_⟩; (fail); clear hK K)
            refine Mix.take_exC _ _ 5 rfl (by kernel_rfl) (by kernel_rfl) (by kernel_rfl) (by kernel_rfl) (fun K hK => ?_)
            go_simp
            first | (refine hK _ ?_; clear hK K) | (apply Exists.intro; refine ⟨fun x => ?_, hK _ ?_⟩; (fail); clear hK K)
            refine Mix.take_exC _ _ 6 rfl (by kernel_rfl) (by kernel_rfl) (by kernel_rfl) (by kernel_rfl) (fun K hK => ?_)
            go_simp
            first | (refine hK _ ?_; clear hK K) | (apply Exists.intro; refine ⟨fun x => ?_, hK _ ?_⟩; (fail); clear hK K)
            refine Mix.take_exC _ _ 7 rfl (by kernel_rfl) (by kernel_rfl) (by kernel_rfl) (by kernel_rfl) (fun K hK => ?_)
            go_simp
            first | (refine hK _ ?_; clear hK K) | (apply Exists.intro; refine ⟨fun x => ?_, hK _ ?_⟩; (fail); clear hK K)
            refine Mix.take_exC _ _ 8 rfl (by kernel_rfl) (by kernel_rfl) (by kernel_rfl) (by kernel_rfl) (fun K hK => ?_)
            go_simp
            first | (refine hK _ ?_; clear hK K) | (apply Exists.intro; refine ⟨fun x => ?_, hK _ ?_⟩; (fail); clear hK K)
            refine Mix.take_exC _ _ 9 rfl (by kernel_rfl) (by kernel_rfl) (by kernel_rfl) (by kernel_rfl) (fun K hK => ?_)
            go_simp
            first | (refine hK _ ?_; clear hK K) | (apply Exists.intro; refine ⟨fun x => ?_, hK _ ?_⟩; (fail); clear hK K)
            refine Mix.take_exC _ _ 10 rfl (by kernel_rfl) (by kernel_rfl) (by kernel_rfl) (by kernel_rfl) (fun K hK => ?_)
            go_simp
            first | (refine hK _ ?_; clear hK K) | (apply Exists.intro; refine ⟨fun x => ?_, hK _ ?_⟩; (fail); clear hK K)
            refine Mix.take_exC _ _ 11 rfl (by kernel_rfl) (by kernel_rfl) (by kernel_rfl) (by kernel_rfl) (fun K hK => ?_)
            go_simp
            first | (refine hK _ ?_; clear hK K) | (apply Exists.intro; refine ⟨fun x => ?_, hK _ ?_⟩; (fail); clear hK K)
            refine Mix.take_exC _ _ 12 rfl (by kernel_rfl) (by kernel_rfl) (by kernel_rfl) (by kernel_rfl) (fun K hK => ?_)
            go_simp
            first | (refine hK _ ?_; clear hK K) | (apply Exists.intro; refine ⟨fun x => ?_, hK _ ?_⟩; (fail); clear hK K)
            refine Mix.take_exC _ _ 13 rfl (by kernel_rfl) (by kernel_rfl) (by kernel_rfl) (by kernel_rfl) (fun K hK => ?_)
            go_simp
            first | (refine hK _ ?_; clear hK K) | (apply Exists.intro; refine ⟨fun x => ?_, hK _ ?_⟩; (fail); clear hK K)
            refine Mix.take_exC _ _ 14 rfl (by kernel_rfl) (by kernel_rfl) (by kernel_rfl) (by kernel_rfl) (fun K hK => ?_)
            go_simp
            first | (refine hK _ ?_; clear hK K) | (apply Exists.intro; refine ⟨fun x => ?_, hK _ ?_⟩; (fail); clear hK K)
            refine Mix.take_exC _ _ 15 rfl (by kernel_rfl) (by kernel_rfl) (by kernel_rfl) (by kernel_rfl) (fun K hK => ?_)
            go_simp
            first | (refine hK _ ?_; clear hK K) | (apply Exists.intro; refine ⟨fun x => ?_, hK _ ?_⟩; (fail); clear hK K)
            refine Mix.take_exC _ _ 16 rfl (by kernel_rfl) (by kernel_rfl) (by kernel_rfl) (by kernel_rfl) (fun K hK => ?_)
            go_simp
            first | (refine hK _ ?_; clear hK K) | (apply Exists.intro; refine ⟨fun x => ?_, hK _ ?_⟩; (fail); clear hK K)
            refine Mix.take_exC _ _ 17 rfl (by kernel_rfl) (by kernel_rfl) (by kernel_rfl) (by kernel_rfl) (fun K hK => ?_)
            go_simp
            first | (refine hK _ ?_; clear hK K) | (apply Exists.intro; refine ⟨fun x => ?_, hK _ ?_⟩; (fail); clear hK K)
            refine Mix.take_exC _ _ 18 rfl (by kernel_rfl) (by kernel_rfl) (by kernel_rfl) (by kernel_rfl) (fun K hK => ?_)
            go_simp
            first | (refine hK _ ?_; clear hK K) | (apply Exists.intro; refine ⟨fun x => ?_, hK _ ?_⟩; (fail); clear hK K)
            refine Mix.take_exC _ _ 19 rfl (by kernel_rfl) (by kernel_rfl) (by kernel_rfl) (by kernel_rfl) (fun K hK => ?_)
            go_simp
            first | (refine hK _ ?_; clear hK K) | (apply Exists.intro; refine ⟨fun x => ?_, hK _ ?_⟩; (fail); clear hK K)
            refine Mix.take_exC _ _ 20 rfl (by kernel_rfl) (by kernel_rfl) (by kernel_rfl) (by kernel_rfl) (fun K hK => ?_)
            go_simp
            first | (refine hK _ ?_; clear hK K) | (apply Exists.intro; refine ⟨fun x => ?_, hK _ ?_⟩; (fail); clear hK K)
            refine Mix.take_exC _ _ 21 rfl (by kernel_rfl) (by kernel_rfl) (by kernel_rfl) (by kernel_rfl) (fun K hK => ?_)
            go_simp
            first | (refine hK _ ?_; clear hK K) | (apply Exists.intro; refine ⟨fun x => ?_, hK _ ?_⟩; (fail); clear hK K)
            refine Mix.take_exC _ _ 22 rfl (by kernel_rfl) (by kernel_rfl) (by kernel_rfl) (by kernel_rfl) (fun K hK => ?_)
            go_simp
            first | (refine hK _ ?_; clear hK K) | (apply Exists.intro; refine ⟨fun x => ?_, hK _ ?_⟩; (fail); clear hK K)
            refine Mix.take_exC _ _ 23 rfl (by kernel_rfl) (by kernel_rfl) (by kernel_rfl) (by kernel_rfl) (fun K hK => ?_)
            go_simp
            first | (refine hK _ ?_; clear hK K) | (apply Exists.intro; refine ⟨fun x => ?_, hK _ ?_⟩; (fail); clear hK K)
            refine Mix.skip_C _ _ 24 rfl (by kernel_rfl) (by kernel_rfl) (by kernel_rfl) (by kernel_rfl) ?_
            go_simp
            refine Mix.skip_C _ _ 25 rfl (by kernel_rfl) (by kernel_rfl) (by kernel_rfl) (by kernel_rfl) ?_
            go_simp
            refine Mix.skip_C _ _ 26 rfl (by kernel_rfl) (by kernel_rfl) (by kernel_rfl) (by kernel_rfl) ?_
            go_simp
            refine Mix.skip_C _ _ 27 rfl (by kernel_rfl) (by kernel_rfl) (by kernel_rfl) (by kernel_rfl) ?_
            go_simp
            refine Mix.skip_C _ _ 28 rfl (by kernel_rfl) (by kernel_rfl) (by kernel_rfl) (by kernel_rfl) ?_
            go_simp
            refine Mix.skip_C _ _ 29 rfl (by kernel_rfl) (by kernel_rfl) (by kernel_rfl) (by kernel_rfl) ?_
            go_simp
            refine Mix.skip_C _ _ 30 rfl (by kernel_rfl) (by kernel_rfl) (by kernel_rfl) (by kernel_rfl) ?_
            go_simp
            refine Mix.skip_C _ _ 31 rfl (by kernel_rfl) (by kernel_rfl) (by kernel_rfl) (by kernel_rfl) ?_
            go_simp
            refine Mix.skip_C _ _ 32 rfl (by kernel_rfl) (by kernel_rfl) (by kernel_rfl) (by kernel_rfl) ?_
            go_simp
            refine Mix.skip_C _ _ 33 rfl (by kernel_rfl) (by kernel_rfl) (by kernel_rfl) (by kernel_rfl) ?_
            go_simp
            refine Mix.skip_C _ _ 34 rfl (by kernel_rfl) (by kernel_rfl) (by kernel_rfl) (by kernel_rfl) ?_
            go_simp
            refine Mix.take_exC _ _ 35 rfl (by kernel_rfl) (by kernel_rfl) (by kernel_rfl) (by kernel_rfl) (fun K hK => ?_)
            go_simp
            first | (refine hK _ ?_; clear hK K) | (apply Exists.intro; refine ⟨fun x => ?_, hK _ ?_⟩; (fail); clear hK K)
            refine Mix.take_exC _ _ 36 rfl (by kernel_rfl) (by kernel_rfl) (by kernel_rfl) (by kernel_rfl) (fun K hK => ?_)
            go_simp
            first | (refine hK _ ?_; clear hK K) | (apply Exists.intro; refine ⟨fun x => ?_, hK _ ?_⟩; (fail); clear hK K)
            refine Mix.done (by kernel_rfl) (.of_below _ hb5) ?_
            intro w6 hb6
            have HB6 := Lib.hid (bt HB5.out (bt hb5 hb6))
            have d4 := ((bt hb5 hb6).cell (p := ⟨b, off + t * 6 + 4, none⟩) hbl).trans d4
            have hbl := Nat.lt_of_lt_of_le hbl (bt hb5 hb6).size
            clear hb5 hb6 d0 d3 e0
            go_wp2
            go_roundw
            case rel => exact ⟨t + 1, c, by omega, by go_num, rfl, by omega, Lib.hid ⟨HB6.out, by rw [HC.out, ← HCT.out]⟩⟩
            case measure => simp [intOf]; omega
      · obtain rfl : m = t := by omega
        have HCT := Lib.hid (show c = L.countP endB by have h := HCT.out; rw [HM.out, List.take_length] at h; exact h)
        have HB04 := Lib.hid (show Below W.heap.size W w4 from bt HB1.out (bt HB3.out HQ.out))
        clear hlt
        go_wp2
        go_loop [8, 9] (fun nv iv => ∃ (t d : Nat), t ≤ n ∧ iv = .int .i64 t ∧ nv = .int .i64 d ∧ d ≤ t ∧ Hid (d = (l.take t).countP fun e => cloK e.kind)) (fun nv iv => n - (intOf iv).toNat)
        case atStart => exact ⟨0, 0, Nat.zero_le _, rfl, rfl, Nat.le_refl _, Lib.hid (by rw [List.take_zero]; rfl)⟩
        case round =>
          obtain ⟨t, d, ht, rfl, rfl, hdt, HD⟩ := hrel
          by_cases hlt : t < n
          · have hts : (t : Int) < (n : Int) := by omega
            obtain ⟨x, hx⟩ := at_lt (l := l) (i := t) (by rw [← HN.out]; omega)
            obtain ⟨b, off, rfl, hb, hcell⟩ := HATE.out t x hx
            have c0 := (HB04.out.cell (p := ⟨b, off + t * 5 + 0, none⟩) hb).trans (hcell 0 _ rfl)
            simp only [Nat.add_zero] at c0
            have hbl : b < w4.heap.size := Nat.lt_of_lt_of_le hb HB04.out.size
            have HST := Lib.hid (count_step (p := fun e : Ev => cloK e.kind) hx)
            generalize x.kind = k at *
            clear hcell hx hb
            cases hck : cloK k with
            | true =>
              have hk : 7 ≤ k ∧ k ≤ 12 := of_decide_eq_true hck
              have hk1 : 7 ≤ k := hk.1
              have hk2 : k ≤ 12 := hk.2
              have HC := Lib.hid (show ((l.take (t + 1)).countP fun e => cloK e.kind) = d + 1 by rw [HST.out, if_pos hck, HD.out])
              clear hk
              go_wp2
              go_round
              case rel => exact ⟨t + 1, d + 1, by omega, by go_num, by go_num, by omega, Lib.hid HC.out.symm⟩
              case measure => simp [intOf]; omega
            | false =>
              have hk : ¬ (7 ≤ k ∧ k ≤ 12) := of_decide_eq_false hck
              have HC := Lib.hid (show ((l.take (t + 1)).countP fun e => cloK e.kind) = d by rw [HST.out, if_neg (by rw [hck]; simp), HD.out]; rfl)
              by_cases hk1 : 7 ≤ k
              · have hk2 : ¬ k ≤ 12 := fun h => hk ⟨hk1, h⟩
                clear hk
                go_wp2
                go_round
                case rel => exact ⟨t + 1, d, by omega, by go_num, rfl, by omega, Lib.hid HC.out.symm⟩
                case measure => simp [intOf]; omega
              · clear hk
                go_wp2
                go_round
                case rel => exact ⟨t + 1, d, by omega, by go_num, rfl, by omega, Lib.hid HC.out.symm⟩
                case measure => simp [intOf]; omega
          · obtain rfl : n = t := by omega
            obtain rfl : d = c := by
              have h := HD.out
              rw [HN.out, List.take_length] at h
              rw [h, HCT.out]; exact HCE.out
            have HOW := Lib.hid (HOP.out w4 (bt HB3.out HQ.out))
            have HLN := Lib.hid (opn_count L)
            go_wp2_with fail
            refine HOW.out.mono ?_
            rintro e w5 ⟨u5, rfl, hu5, hb5⟩
            obtain ⟨ua5, k5, uc5, rfl, hk5, -, -, -⟩ := hu5.at_
            have hkm : ((m : Int) - (d : Int)) = (k5 : Int) := by
              have h1 := HLN.out; have h2 := HCT.out; have h3 := HM.out; omega
            have hwk : IntKind.i64.wrap ((m : Int) - (d : Int)) = (k5 : Int) := by rw [hkm]; exact IntWalk.i64_in _ (by omega)
            have HB5 := Lib.hid (bt HB04.out hb5)
            clear hu5 hb5 hk5 hkm
            go_wp2_with fail
            refine (works30 _).mono ?_
            rintro e w6 ⟨rfl, hb6⟩
            have HB6 := Lib.hid (bt HB5.out hb6)
            clear hb6
            go_wp2
            go_ret
            exact ⟨rfl, HB6.out⟩
  · cases b with
    | false =>
      go_wp2_with fail
      refine (works30 _).mono ?_
      rintro e w6 ⟨rfl, hb6⟩
      have HB6 := Lib.hid (bt HB1.out hb6)
      clear hb6
      go_wp2
      go_ret
      exact ⟨rfl, HB6.out⟩
    | true =>
      cases cb with
      | true => exact absurd ⟨rfl, rfl⟩ hgo
      | false =>
        go_wp2_with fail
        refine (works30 _).mono ?_
        rintro e w6 ⟨rfl, hb6⟩
        have HB6 := Lib.hid (bt HB1.out hb6)
        clear hb6
        go_wp2
        go_ret
        exact ⟨rfl, HB6.out⟩
end Go.Proofs.Ytennhfkhdfalfaa

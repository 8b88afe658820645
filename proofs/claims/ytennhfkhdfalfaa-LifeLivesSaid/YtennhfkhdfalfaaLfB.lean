/- life: Open at any few events. -/
import Derived.Test.YtennhfkhdfalfaaLfA
namespace Go.Proofs.Ytennhfkhdfalfaa
open Go.RowKit Go.Maps
attribute [local go_sem] ext_cell ext_frozen extC_cell extC_frozen Mix.calmUpon Mix.mUpon
def ienc (x : Int) : List Value := [.int .i64 x]
theorem ienc_len (x : Int) : (ienc x).length = 1 := rfl
theorem infoI64 : (Try.prog.info? 2).map (fun i => (i.zero, i.size, i.bytes)) = some (some (.int .i64 0), 1, 8) := by kernel_rfl
theorem iapp {w : World} {base : Nat} {v : Value} {l : List Int} {b : Nat} (h : OwnL 2 1 ienc w base v l) (x : Int) (hx : w.cell? ⟨b, 0, none⟩ = some (.int .i64 x)) (hl : l.length < 1000000) (hb : base ≤ w.heap.size) :
    ∃ v' w', (Builtin.append_ #[98, 98] 98 #[v, .slice (some ⟨b, 0, none⟩) 1 1]).run Try.prog w = .ok v' w' ∧ OwnL 2 1 ienc w' base v' (l ++ [x]) ∧ w.grownBy w' v.ownBlock ∧ (v'.ownBlock = v.ownBlock ∨ v'.ownBlock = some w.heap.size) := by
  obtain ⟨i0, hi, hz0, hz1, hz2⟩ := info_parts infoI64
  exact OwnL.app h Try.underlying98 hi hz0 hz1 hz2 rfl (by decide) ienc_len x (fun j u hj => by
    rcases j with _ | j <;> simp [ienc] at hj
    subst hj; exact hx) (fun u hu => by simp [ienc] at hu; rw [hu]; rfl) (by omega) (by unfold maxLen; omega) hb
/-- The numbers of the lives that do not end. -/
def opn (L : List Lf) : List Int := (L.filter fun x => decide (x.to < 0)).map Lf.id
theorem opn_snoc (L : List Lf) (x : Lf) : opn (L ++ [x]) = if x.to < 0 then opn L ++ [x.id] else opn L := by
  unfold opn
  rw [List.filter_append]
  by_cases h : x.to < 0
  · rw [if_pos h]; simp [h]
  · rw [if_neg h]; simp [h]
theorem opn_len (L : List Lf) : (opn L).length ≤ L.length := by
  unfold opn; rw [List.length_map]; exact List.length_filter_le _ _
set_option maxRecDepth 100000 in
set_option maxHeartbeats 8000000 in
theorem open_any (v : Value) (l : List Ev) (W : World) (hr : RS 5 evenc W v l) (hI : ∀ x ∈ l, EIn W x) (hl : l.length ≤ 300) :
    Calls Try.prog 50 #[v] W fun e w' => ∃ u, e = .returned u ∧ RS 1 ienc w' u (opn (lvs l 0)) ∧ Below W.heap.size W w' := by
  have HO := Lib.hid (of_any v l W hr hI hl)
  have HLL := Lib.hid (Nat.le_trans (lvs_len l 0) hl)
  obtain ⟨va, vn, vc, rfl, -, -, -, -⟩ := hr.at_
  clear hr hI hl
  obtain ⟨L, hL⟩ : ∃ L, L = lvs l 0 := ⟨_, rfl⟩
  rw [← hL] at HO HLL ⊢
  clear hL
  go_enter Try.func50, Try.ntmps50
  go_wp2_with fail
  refine HO.out.mono ?_
  rintro e w1 ⟨u, rfl, hu, hb1⟩
  obtain ⟨a, m, cap, rfl, hm, hc, hmx, hat⟩ := hu.at_
  have HAT := Lib.hid hat; have HM := Lib.hid hm; have HB1 := Lib.hid hb1
  have hm3 : m ≤ 300 := by have := HLL.out; omega
  have HI0 := Lib.hid (show OwnL 2 1 ienc w1 w1.heap.size (.slice none 0 0) (opn (L.take 0)) ∧ Below w1.heap.size w1 w1 from ⟨by rw [List.take_zero]; exact OwnL.nil _ _ _ _ _, Below.refl _ _⟩)
  clear hu hb1 hat hm hmx
  go_wp2
  go_loopw [3, 9] (fun ov iv wr => ∃ (t : Nat), t ≤ m ∧ iv = .int .i64 t ∧ Hid (OwnL 2 1 ienc wr w1.heap.size ov (opn (L.take t)) ∧ Below w1.heap.size w1 wr)) (fun ov iv _ => m - (intOf iv).toNat)
  case atStart => exact ⟨0, Nat.zero_le _, rfl, HI0⟩
  case round =>
    clear HI0
    obtain ⟨t, ht, rfl, HQ⟩ := hrel
    obtain ⟨w4, rfl⟩ : ∃ w4, w4 = wr := ⟨_, rfl⟩
    by_cases hlt : t < m
    · have hts : (t : Int) < (m : Int) := by omega
      obtain ⟨x, hx⟩ := at_lt (l := L) (i := t) (by rw [← HM.out]; omega)
      obtain ⟨b, off, rfl, hb, hcell⟩ := HAT.out t x hx
      have hbw := HQ.out.2
      have c0 := (hbw.cell (p := ⟨b, off + t * 6 + 0, none⟩) hb).trans (hcell 0 _ rfl)
      have c1 := (hbw.cell (p := ⟨b, off + t * 6 + 1, none⟩) hb).trans (hcell 1 _ rfl)
      have c2 := (hbw.cell (p := ⟨b, off + t * 6 + 2, none⟩) hb).trans (hcell 2 _ rfl)
      have c3 := (hbw.cell (p := ⟨b, off + t * 6 + 3, none⟩) hb).trans (hcell 3 _ rfl)
      have c4 := (hbw.cell (p := ⟨b, off + t * 6 + 4, none⟩) hb).trans (hcell 4 _ rfl)
      have c5 := (hbw.cell (p := ⟨b, off + t * 6 + 5, none⟩) hb).trans (hcell 5 _ rfl)
      simp only [Nat.add_zero] at c0
      have hbl : b < w4.heap.size := Nat.lt_of_lt_of_le hb hbw.size
      have HSN := Lib.hid (show opn (L.take (t + 1)) = if x.to < 0 then opn (L.take t) ++ [x.id] else opn (L.take t) from by rw [take_at hx, opn_snoc])
      have hLB := ba (Below.refl w4.heap.size w4) (.cells #[.int .i64 x.id, .int .i64 x.frame, .int .i64 x.agent, .int .i64 x.fr, .int .i64 x.to, .int .i64 x.how] 107)
      obtain ⟨x0, x1, x2, x3, x4, x5⟩ := x
      simp only at c0 c1 c2 c3 c4 c5 HSN hLB
      have hq5 : OwnL 2 1 ienc (w4.alloc (.cells #[.int .i64 x0, .int .i64 x1, .int .i64 x2, .int .i64 x3, .int .i64 x4, .int .i64 x5] 107)) w1.heap.size u3 (opn (L.take t)) ∧ Below w1.heap.size w1 _ := ⟨HQ.out.1.below hLB, bt HQ.out.2 hLB⟩
      have HQ5 := Lib.hid hq5
      clear hcell hx hb hbw hq5
      by_cases h4 : x4 < 0
      · have hba := ba (Below.refl (w4.alloc (.cells #[.int .i64 x0, .int .i64 x1, .int .i64 x2, .int .i64 x3, .int .i64 x4, .int .i64 x5] 107)).heap.size _) (.cells #[.int .i64 x0] 2)
        have hk := heap_alloc_new (w4.alloc (.cells #[.int .i64 x0, .int .i64 x1, .int .i64 x2, .int .i64 x3, .int .i64 x4, .int .i64 x5] 107)) (.cells #[.int .i64 x0] 2)
        rw [show (w4.alloc (.cells #[.int .i64 x0, .int .i64 x1, .int .i64 x2, .int .i64 x3, .int .i64 x4, .int .i64 x5] 107)).heap.size = w4.heap.size + 1 by simp] at hk
        have HQ6 := Lib.hid (show OwnL 2 1 ienc _ w1.heap.size u3 (opn (L.take t)) ∧ Below w1.heap.size w1 _ from ⟨HQ5.out.1.below hba, bt HQ5.out.2 hba⟩)
        have HK := Lib.hid hk
        have HLEN := Lib.hid (show (opn (L.take t)).length < 1000000 by
          have := opn_len (L.take t)
          rw [List.length_take] at this; omega)
        have HSN' := Lib.hid (HSN.out.trans (if_pos h4))
        clear hba hk hLB
        go_wp2_with (at_builtin; (generalize (w4.alloc (.cells #[.int .i64 x0, .int .i64 x1, .int .i64 x2, .int .i64 x3, .int .i64 x4, .int .i64 x5] 107)).alloc (.cells #[.int .i64 x0] 2) = w9 at *; obtain ⟨v2, wA, hra, hoA, hgA, hvA⟩ := iapp (b := w4.heap.size + 1) HQ6.out.1 x0 (by simp [World.cell?, HK.out]) HLEN.out HQ6.out.2.size; refine wpList_app_run rfl _ _ _ rfl rfl rfl hra ?_; have HAPP := Lib.hid (And.intro hoA (And.intro hgA hvA)); clear hra hoA hgA hvA))
        have HQ7 := Lib.hid (show OwnL 2 1 ienc wA w1.heap.size v2 (opn (L.take (t + 1))) ∧ Below w1.heap.size w1 wA from ⟨by rw [HSN'.out]; exact HAPP.out.1, HQ6.out.2.trans ((Chg.of_grown (F := fun k => u3.ownBlock = some k) HAPP.out.2.1 fun k e => e).below HQ6.out.2.size fun k hk => (HQ6.out.1.lt k hk).1)⟩)
        go_roundw
        case rel => exact ⟨t + 1, by omega, by go_num, HQ7⟩
        case measure => simp [intOf]; omega
      · have HSN' := Lib.hid (HSN.out.trans (if_neg h4))
        go_wp2
        have HQ7 := Lib.hid (show OwnL 2 1 ienc (w4.alloc (.cells #[.int .i64 x0, .int .i64 x1, .int .i64 x2, .int .i64 x3, .int .i64 x4, .int .i64 x5] 107)) w1.heap.size u3 (opn (L.take (t + 1))) ∧ Below w1.heap.size w1 _ from ⟨by rw [HSN'.out]; exact HQ5.out.1, HQ5.out.2⟩)
        go_roundw
        case rel => exact ⟨t + 1, by omega, by go_num, HQ7⟩
        case measure => simp [intOf]; omega
    · obtain rfl : m = t := by omega
      have HF := Lib.hid (show OwnL 2 1 ienc w4 w1.heap.size u3 (opn L) from by
        have h := HQ.out.1
        rw [HM.out, List.take_length] at h; exact h)
      go_wp2
      go_ret
      exact ⟨_, rfl, HF.out.rs ienc_len, bt HB1.out HQ.out.2⟩
end Go.Proofs.Ytennhfkhdfalfaa

/- alarm: the sort; inOrder. -/
import Derived.Test.YtajcelmnblncaaaAl4
namespace Go.Proofs.Ytajcelmnblncaaa
open Go.RowKit Go.Maps
abbrev kenc (k : Ky) : List Value := [.int .i64 k.1, .int .i64 k.2.1, .int .i64 k.2.2]
open Go.Sort Go.Shelf in
set_option maxHeartbeats 1000000 in
/-- slices.SortFunc in the order of alarms. -/
theorem esort {w : World} {base : Nat} {v : Value} {l S : List Rc} (h : OwnL 156 4 eenc w base v l) (hS : SR S) (hp : l.Perm S) (hln : l.length < 1000000) : Calls Try.prog 115 #[v, .func (.func 116) #[] #[]] w fun e w' => e = .returned (.tuple #[]) ∧ RS 4 eenc w' v S ∧ Chg (fun b => v.ownBlock = some b) w w' := by
  by_cases hl : l = []
  · subst hl
    obtain rfl : S = [] := by simpa using hp.symm
    obtain ⟨p, cap, rfl⟩ : ∃ p cap, v = .slice p 0 cap := by
      rcases h.2 with ⟨rfl, _⟩ | ⟨g, cap, cur, rfl, _⟩
      · exact ⟨_, _, rfl⟩
      · exact ⟨_, _, rfl⟩
    have hcon := AnyF.slices_SortFunc_none Lb.Try.sortE p cap (.func (.func 116) #[] #[]) w
    change Calls Try.prog 115 _ _ _ at hcon
    refine hcon.mono ?_
    rintro e w' ⟨rfl, rfl⟩
    exact ⟨rfl, h.rs (fun _ => rfl), Chg.refl _ _⟩
  · obtain ⟨blk, cap, rfl, h1, h2, _, hb, hH⟩ := own_holds h (fun _ => rfl) hl
    have eg : ∀ args w, (callFunc 116 args).run Try.prog w = .ok (.enter 116 args) w := enters_of Try.func116 (by kernel_rfl) rfl
    have hcmp : CmpLays Try.prog 116 #[] eenc 4 cmpE blk 0 l.toArray.size w := fun _ _ _ _ x y => ecmp x y _
    have hm : l.length < 4611686018427387904 := by omega
    have hcon := AnyQ.slices_SortFunc Lb.Try.sortE 4 Try.isAgg156 Try.sizeOf156 eenc (fun _ => rfl) (fun x u hu => by simp [eenc] at hu; rcases hu with rfl | rfl | rfl | rfl <;> rfl) cmpE swoE 116 #[] blk 0 cap l.toArray w eg hcmp hH hb (by simpa using hm)
    change Calls Try.prog 115 _ _ _ at hcon
    refine hcon.mono ?_
    rintro e w' ⟨rfl, d', n, os, hpm, hso, rfl⟩
    have hso' : SortedIn ltR 0 l.toArray.size d' := by
      have := hso
      unfold SortedIn at this ⊢
      simpa only [ltE] using this
    have hd := sorted_srt ordR hS hp hpm hso'
    have hsz : d'.size = l.toArray.size := hpm.1
    have hr := holds_rs (cap := cap) (holdsK_sortWorldK_c eenc 4 w blk 0 l.toArray d' n os hH hb hsz) (fun _ => rfl) (by rw [hsz]; simpa using h1) h2 (Nat.lt_of_lt_of_le hb (chg_sortWorldK blk 0 n d' os).size)
    rw [hd, hsz] at hr
    exact ⟨rfl, hr, (chg_sortWorldK blk 0 n d' os).mono fun k e => by rw [e]; rfl⟩
theorem infoEn : (Try.prog.info? 156).map (fun i => (i.zero, i.size, i.bytes)) = some (some (.agg #[.int .i64 0, .int .i64 0, .int .i64 0, .int .i64 0]), 4, 32) := by kernel_rfl
theorem infoKy : (Try.prog.info? 79).map (fun i => (i.zero, i.size, i.bytes)) = some (some (.agg #[.int .i64 0, .int .i64 0, .int .i64 0]), 3, 24) := by kernel_rfl
theorem own_appK {w : World} {base : Nat} {v : Value} {l : List Ky} {b : Nat} (h : OwnL 79 3 kenc w base v l) (x : Ky) (hx : KB w b x) (hl : l.length < 1000000) (hb : base ≤ w.heap.size) :
    ∃ v' w', (Builtin.append_ #[87, 87] 87 #[v, .slice (some ⟨b, 0, none⟩) 1 1]).run Try.prog w = .ok v' w' ∧ OwnL 79 3 kenc w' base v' (l ++ [x]) ∧ w.grownBy w' v.ownBlock ∧ (v'.ownBlock = v.ownBlock ∨ v'.ownBlock = some w.heap.size) := by
  obtain ⟨i0, hi, hz0, hz1, hz2⟩ := info_parts infoKy
  obtain ⟨x0, x1, x2⟩ := hx.cells
  exact OwnL.app h Try.underlying87 hi hz0 hz1 hz2 rfl (by decide) (fun _ => rfl) x (fun j u hj => by
      rcases j with _ | _ | _ | j <;> simp [kenc] at hj
      · subst hj; exact x0
      · subst hj; exact x1
      · subst hj; exact x2) (fun u hu => by simp [kenc] at hu; rcases hu with rfl | rfl | rfl <;> rfl) (by omega) (by unfold maxLen; omega) hb
theorem own_appE {w : World} {base : Nat} {v : Value} {l : List Rc} {b : Nat} (h : OwnL 156 4 eenc w base v l) (x : Rc) (hx : EB w b x) (hl : l.length < 1000000) (hb : base ≤ w.heap.size) :
    ∃ v' w', (Builtin.append_ #[154, 154] 154 #[v, .slice (some ⟨b, 0, none⟩) 1 1]).run Try.prog w = .ok v' w' ∧ OwnL 156 4 eenc w' base v' (l ++ [x]) ∧ w.grownBy w' v.ownBlock ∧ (v'.ownBlock = v.ownBlock ∨ v'.ownBlock = some w.heap.size) := by
  obtain ⟨i0, hi, hz0, hz1, hz2⟩ := info_parts infoEn
  obtain ⟨x0, x1, x2, x3⟩ := hx.cells
  exact OwnL.app h Try.underlying154 hi hz0 hz1 hz2 rfl (by decide) (fun _ => rfl) x (fun j u hj => by
      rcases j with _ | _ | _ | _ | j <;> simp [eenc] at hj
      · subst hj; exact x0
      · subst hj; exact x1
      · subst hj; exact x2
      · subst hj; exact x3) (fun u hu => by simp [eenc] at hu; rcases hu with rfl | rfl | rfl | rfl <;> rfl) (by omega) (by unfold maxLen; omega) hb
/-- A list of keys that a call answers, in new memory; the blocks F may have changed. -/
def RetK (F : Nat → Prop) (w : World) (L : List Ky) (e : Ending) (w' : World) : Prop := ∃ v, e = .returned v ∧ RS 3 kenc w' v L ∧ (∀ b, v.ownBlock = some b → w.heap.size ≤ b) ∧ Chg F w w'
set_option maxRecDepth 100000 in
set_option maxHeartbeats 1000000 in
theorem einorder {w : World} {base : Nat} {v : Value} {l S : List Rc} (h : OwnL 156 4 eenc w base v l) (hS : SR S) (hp : l.Perm S) (hln : l.length < 100000) : Calls Try.prog 96 #[v] w (RetK (fun b => v.ownBlock = some b) w (S.map Rc.key)) := by
  have HSRT := Lib.hid (esort h hS hp (by omega))
  have hlS : S.length < 100000 := by have := hp.length_eq; omega
  have HLS := Lib.hid hlS
  clear h hS hp hln hlS
  go_enter Try.func96, Try.ntmps96
  go_wp2_with fail
  refine HSRT.out.mono ?_
  rintro e w1 ⟨rfl, hrs, hc1⟩
  obtain ⟨a, n, cp, rfl, hn, hc, hm, hat⟩ := hrs.at_
  have HAT := Lib.hid hat
  have HN := Lib.hid hn
  have HC1 := Lib.hid hc1
  obtain ⟨i0, hi, hz0, hz1, hz2⟩ := info_parts infoKy
  obtain ⟨w2, hmk, hown, hgr⟩ := run_makeSlice_owned (P := Try.prog) (w := w1) w1.heap.size 87 79 i0 _ 3 Try.underlying87 hi hz0 hz1 .i64 .i64 n (by have := HLS.out; omega) (by rw [hz2]; have := HLS.out; omega) (by unfold maxLen; have := HLS.out; omega) (Nat.le_refl _)
  have HQ0 := Lib.hid (show OwnL 79 3 kenc w2 w1.heap.size (.slice (some ⟨w1.heap.size, 0, none⟩) 0 n) [] ∧ Below w1.heap.size w1 w2 from ⟨hown, (Below.refl _ _).grown hgr (Nat.le_refl _) (by simp)⟩)
  clear hrs hc1 hat hn hown hgr hi hz0 hz1 hz2 HSRT
  go_wp2
  go_loopw [3, 13] (fun lv iv wr => ∃ t : Nat, t ≤ n ∧ iv = .int .i64 t ∧ Hid (OwnL 79 3 kenc wr w1.heap.size lv ((S.take t).map Rc.key) ∧ Below w1.heap.size w1 wr)) (fun _ iv _ => n - (intOf iv).toNat)
  case atStart => exact ⟨0, Nat.zero_le _, rfl, HQ0⟩
  case round =>
    clear hmk HQ0
    obtain ⟨t, ht, rfl, HQ⟩ := hrel
    obtain ⟨w3, rfl⟩ : ∃ w3, w3 = wr := ⟨_, rfl⟩
    by_cases hlt : t < n
    · have hts : (t : Int) < (n : Int) := by omega
      have hn5 : n < 100000 := by have := HLS.out; have := HN.out; omega
      obtain ⟨x, hx⟩ := at_lt (l := S) (i := t) (by rw [← HN.out]; exact hlt)
      obtain ⟨b, off, rfl, hb, hcell⟩ := HAT.out t x hx
      have e0 := (HQ.out.2.cell (p := ⟨b, off + t * 4 + 0, none⟩) hb).trans (hcell 0 _ rfl)
      have e1 := (HQ.out.2.cell (p := ⟨b, off + t * 4 + 1, none⟩) hb).trans (hcell 1 _ rfl)
      have e2 := (HQ.out.2.cell (p := ⟨b, off + t * 4 + 2, none⟩) hb).trans (hcell 2 _ rfl)
      have e3 := (HQ.out.2.cell (p := ⟨b, off + t * 4 + 3, none⟩) hb).trans (hcell 3 _ rfl)
      simp only [Nat.add_zero] at e0
      have hbw : b < w3.heap.size := Nat.lt_of_lt_of_le hb HQ.out.2.size
      have hKB := KB.made (w3.alloc (.cells #[.int .i64 x.key.1, .int .i64 x.key.2.1, .int .i64 x.key.2.2, .int .i64 x.at_] 156)) x.key
      rw [show (w3.alloc (.cells #[.int .i64 x.key.1, .int .i64 x.key.2.1, .int .i64 x.key.2.2, .int .i64 x.at_] 156)).heap.size = w3.heap.size + 1 by simp] at hKB
      have hbb : Below w3.heap.size w3 ((w3.alloc (.cells #[.int .i64 x.key.1, .int .i64 x.key.2.1, .int .i64 x.key.2.2, .int .i64 x.at_] 156)).alloc (.cells #[.int .i64 x.key.1, .int .i64 x.key.2.1, .int .i64 x.key.2.2] 79)) := ba (ba (Below.refl _ _) _) _
      obtain ⟨v2, w4, hrun, o2, g2, _⟩ := own_appK (b := w3.heap.size + 1) (HQ.out.1.below hbb) x.key hKB (by simp; have := HLS.out; have := HN.out; omega) (by simp; have := HQ.out.2.size; omega)
      have HRA := Lib.hid hrun
      have HT := Lib.hid (show (S.take (t + 1)).map Rc.key = (S.take t).map Rc.key ++ [x.key] by rw [take_at hx, List.map_append]; rfl)
      have HI := Lib.hid (show OwnL 79 3 kenc w4 w1.heap.size v2 ((S.take (t + 1)).map Rc.key) ∧ Below w1.heap.size w1 w4 from ⟨by rw [HT.out]; exact o2, (bt HQ.out.2 hbb).grown g2 (by simp; have := HQ.out.2.size; omega) (fun j hj => (HQ.out.1.lt j hj).1)⟩)
      clear hrun o2 g2 hx hcell hKB hbb
      go_wp2_with (at_builtin; refine wpList_app_run rfl _ _ _ rfl rfl rfl HRA.out ?_)
      go_roundw
      case rel => exact ⟨t + 1, by omega, by go_num, HI⟩
      case measure => simp [intOf]; omega
    · obtain rfl : n = t := by omega
      have HT := Lib.hid (show S.take n = S by rw [HN.out, List.take_length])
      go_wp2
      go_ret
      refine ⟨u3, rfl, by have := HQ.out.1.rs (fun _ => rfl); rw [HT.out] at this; exact this, fun b hb => by have := (HQ.out.1.lt b hb).1; have := HC1.out.size; omega, HC1.out.then_below HQ.out.2⟩
end Go.Proofs.Ytajcelmnblncaaa

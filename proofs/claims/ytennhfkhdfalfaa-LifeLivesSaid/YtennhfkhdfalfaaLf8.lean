/- life: Check at any events. -/
import Derived.Test.YtennhfkhdfalfaaLf7
namespace Go.Proofs.Ytennhfkhdfalfaa
open Go.RowKit Go.Maps
attribute [local go_sem] ext_cell ext_frozen extC_cell extC_frozen Mix.calmUpon Mix.mUpon
theorem makeA (w : World) : (Instr.makeMap 146 none).run Try.prog w = .ok (.map (some w.heap.size)) (w.alloc (.map #[] 0)) := by kernel_rfl
theorem makeF (w : World) : (Instr.makeMap 154 none).run Try.prog w = .ok (.map (some w.heap.size)) (w.alloc (.map #[] 0)) := by kernel_rfl
theorem makeO (w : World) : (Instr.makeMap 155 none).run Try.prog w = .ok (.map (some w.heap.size)) (w.alloc (.map #[] 0)) := by kernel_rfl
theorem makeT (w : World) : (Instr.makeMap 156 none).run Try.prog w = .ok (.map (some w.heap.size)) (w.alloc (.map #[] 0)) := by kernel_rfl
theorem HT.made (W : World) : HT W (((((W.alloc (.map #[] 0)).alloc (.map #[] 0)).alloc (.map #[] 0)).alloc (.map #[] 0)).alloc (.cells #[.int .i64 0, .map (some W.heap.size), .map (some (W.heap.size + 1)), .map (some (W.heap.size + 2)), .map (some (W.heap.size + 3))] 158))
    (W.heap.size + 4) W.heap.size (W.heap.size + 1) (W.heap.size + 2) (W.heap.size + 3) hs0 := by
  have s1 : (W.alloc (.map #[] 0)).heap.size = W.heap.size + 1 := by simp
  have s2 : ((W.alloc (.map #[] 0)).alloc (.map #[] 0)).heap.size = W.heap.size + 2 := by simp
  have s3 : (((W.alloc (.map #[] 0)).alloc (.map #[] 0)).alloc (.map #[] 0)).heap.size = W.heap.size + 3 := by simp
  have s4 : ((((W.alloc (.map #[] 0)).alloc (.map #[] 0)).alloc (.map #[] 0)).alloc (.map #[] 0)).heap.size = W.heap.size + 4 := by simp
  have mA : MapF K64 (W.alloc (.map #[] 0)) W.heap.size (fun _ => none) (fun x : Int => .int .i64 x) := MapF.made W
  have mF : MapF K64 ((W.alloc (.map #[] 0)).alloc (.map #[] 0)) (W.heap.size + 1) (fun _ => none) fmval := by have := MapF.made (E := K64) (enc := fmval) (W.alloc (.map #[] 0)); rwa [s1] at this
  have mO : MapF K64 (((W.alloc (.map #[] 0)).alloc (.map #[] 0)).alloc (.map #[] 0)) (W.heap.size + 2) (fun _ => none) thval := by have := MapF.made (E := K64) (enc := thval) ((W.alloc (.map #[] 0)).alloc (.map #[] 0)); rwa [s2] at this
  have mT : MapF KP ((((W.alloc (.map #[] 0)).alloc (.map #[] 0)).alloc (.map #[] 0)).alloc (.map #[] 0)) (W.heap.size + 3) (fun _ => none) thval := by have := MapF.made (E := KP) (enc := thval) (((W.alloc (.map #[] 0)).alloc (.map #[] 0)).alloc (.map #[] 0)); rwa [s3] at this
  have b1 := ba (Below.refl (W.alloc (.map #[] 0)).heap.size _) (.map #[] 0)
  have b2 := ba (Below.refl ((W.alloc (.map #[] 0)).alloc (.map #[] 0)).heap.size _) (.map #[] 0)
  have b3 := ba (Below.refl (((W.alloc (.map #[] 0)).alloc (.map #[] 0)).alloc (.map #[] 0)).heap.size _) (.map #[] 0)
  have b4 := ba (Below.refl ((((W.alloc (.map #[] 0)).alloc (.map #[] 0)).alloc (.map #[] 0)).alloc (.map #[] 0)).heap.size _) (.cells #[.int .i64 0, .map (some W.heap.size), .map (some (W.heap.size + 1)), .map (some (W.heap.size + 2)), .map (some (W.heap.size + 3))] 158)
  have c : ∀ {w w' : World}, Below w.heap.size w w' → Chg (fun _ => False) w w' := fun h => .of_below _ h
  refine ⟨?_, mA.chg (c (bt b1 (bt b2 (bt b3 b4)))) id, mF.chg (c (bt b2 (bt b3 b4))) id, mO.chg (c (bt b3 b4)) id, mT.chg (c b4) id, ?_, ⟨by omega, by omega, by omega, by omega, by omega⟩, ⟨⟨by omega, by omega, by omega, by omega⟩, ⟨by omega, by omega, by omega⟩, ⟨by omega, by omega⟩, by omega⟩, (fun k x h => by cases h), fun k x h => by cases h⟩
  · have := heap_alloc_new ((((W.alloc (.map #[] 0)).alloc (.map #[] 0)).alloc (.map #[] 0)).alloc (.map #[] 0)) (.cells #[.int .i64 0, .map (some W.heap.size), .map (some (W.heap.size + 1)), .map (some (W.heap.size + 2)), .map (some (W.heap.size + 3))] 158)
    rw [s4] at this
    exact this
  · exact bt (ba (Below.refl _ _) _) (bt b1 (bt b2 (bt b3 b4)))
theorem chk_cons {s : HS} {l : List Ev} {t : Nat} {x : Ev} (h : l[t]? = some x) : chk s (l.drop t) = if fit s x then ((chk (nxt s x) (l.drop (t + 1))).1 + 1, (chk (nxt s x) (l.drop (t + 1))).2) else (0, false) := by
  obtain ⟨hi, rfl⟩ := List.getElem?_eq_some_iff.1 h
  rw [List.drop_eq_getElem_cons hi]; rfl
set_option maxRecDepth 100000 in
set_option maxHeartbeats 4000000 in
theorem check_any (v : Value) (l : List Ev) (W : World) (hr : RS 5 evenc W v l) (hI : ∀ x ∈ l, EIn W x) :
    Calls Try.prog 55 #[v] W fun e w' => e = .returned (.tuple #[.int .i64 (chk hs0 l).1, .bool (chk hs0 l).2]) ∧ Below W.heap.size W w' := by
  obtain ⟨a, n, cap, rfl, hn, hc, hm, hat⟩ := hr.at_
  have HAT := Lib.hid hat; have HI := Lib.hid hI; have HN := Lib.hid hn
  have hn63 : n ≤ 9223372036854775807 := by simp only [maxLen] at hm; omega
  clear hr hat hI hn hm
  have hmA := makeA; have hmF := makeF; have hmO := makeO; have hmT := makeT
  have HM := Lib.hid (HT.made W)
  obtain ⟨cn, hcn⟩ : ∃ cn, cn = (chk hs0 l).1 := ⟨_, rfl⟩
  obtain ⟨cb, hcb⟩ : ∃ cb, cb = (chk hs0 l).2 := ⟨_, rfl⟩
  rw [← hcn, ← hcb]
  have HCN := Lib.hid hcn; have HCB := Lib.hid hcb
  clear hcn hcb
  go_enter Try.func55, Try.ntmps55
  go_wp2
  generalize ((((W.alloc (.map #[] 0)).alloc (.map #[] 0)).alloc (.map #[] 0)).alloc (.map #[] 0)).alloc (.cells #[.int .i64 0, .map (some W.heap.size), .map (some (W.heap.size + 1)), .map (some (W.heap.size + 2)), .map (some (W.heap.size + 3))] 158) = w1 at *
  obtain ⟨hp, hhp⟩ : ∃ hp, hp = W.heap.size + 4 := ⟨_, rfl⟩
  rw [← hhp] at HM ⊢
  clear hhp
  obtain ⟨A, F, O, T, HM⟩ : ∃ A F O T, Hid (HT W w1 hp A F O T hs0 ∧ chk hs0 l = ((chk hs0 (l.drop 0)).1 + 0, (chk hs0 (l.drop 0)).2)) := ⟨_, _, _, _, Lib.hid ⟨HM.out, rfl⟩⟩
  clear hmA hmF hmO hmT
  go_loopw [15] (fun iv wr => ∃ (t : Nat) (s : HS), t ≤ n ∧ iv = .int .i64 t ∧ Hid (HT W wr hp A F O T s ∧ chk hs0 l = ((chk s (l.drop t)).1 + t, (chk s (l.drop t)).2))) (fun iv _ => n - (intOf iv).toNat)
  case atStart => exact ⟨0, hs0, Nat.zero_le _, rfl, HM⟩
  case round =>
    clear HM
    obtain ⟨t, s, ht, rfl, HQ⟩ := hrel
    obtain ⟨w4, rfl⟩ : ∃ w4, w4 = wr := ⟨_, rfl⟩
    by_cases hlt : t < n
    · have hts : (t : Int) < (n : Int) := by omega
      obtain ⟨x, hx⟩ := at_lt (l := l) (i := t) (by rw [← HN.out]; exact hlt)
      obtain ⟨b, off, rfl, hb, hcell⟩ := HAT.out t x hx
      have hbw := HQ.out.1.bel
      have c0 := (hbw.cell (p := ⟨b, off + t * 5 + 0, none⟩) hb).trans (hcell 0 _ rfl)
      have c1 := (hbw.cell (p := ⟨b, off + t * 5 + 1, none⟩) hb).trans (hcell 1 _ rfl)
      have c2 := (hbw.cell (p := ⟨b, off + t * 5 + 2, none⟩) hb).trans (hcell 2 _ rfl)
      have c3 := (hbw.cell (p := ⟨b, off + t * 5 + 3, none⟩) hb).trans (hcell 3 _ rfl)
      have c4 := (hbw.cell (p := ⟨b, off + t * 5 + 4, none⟩) hb).trans (hcell 4 _ rfl)
      simp only [Nat.add_zero] at c0
      have hbl : b < w4.heap.size := Nat.lt_of_lt_of_le hb hbw.size
      have HE := Lib.hid (HI.out x (mem_at hx))
      have HCH := Lib.hid (chk_cons (s := s) hx)
      obtain ⟨va, vc, hvv, -, -⟩ := HE.out.vc.form
      have hba := ba (Below.refl w4.heap.size w4) (.cells #[.int .i64 x.kind, .int .i64 x.frame, .int .i64 x.id, .int .i64 x.agent, x.vv] 103)
      have HT5 := Lib.hid (htake (HQ.out.1.below hba) x HE.out)
      obtain ⟨x0, x1, x2, x3, xv, xs⟩ := x
      simp only at hvv c0 c1 c2 c3 c4
      subst hvv
      generalize hxn : xs.length = xn at *
      clear hcell hx hb hbw hba
      simp only at HT5
      go_wp2_with fail
      refine HT5.out.mono ?_
      rintro e w6 ⟨rfl, h6, hb6⟩
      have H6 := Lib.hid h6; have HB6 := Lib.hid hb6
      clear h6 hb6
      have hq := HQ.out.2
      rw [HCH.out] at hq
      cases hf : fit s ⟨x0, x1, x2, x3, .slice va xn vc, xs⟩ with
      | false =>
        rw [hf] at hq
        have HCQ := Lib.hid (show cn = t ∧ cb = false from by
          rw [HCN.out, HCB.out, hq]; simp)
        clear hq hf
        go_wp2
        go_ret2
        refine ⟨?_, HB6.out⟩
        rw [HCQ.out.1, HCQ.out.2]; rfl
      | true =>
        rw [hf] at hq
        have HCQ := Lib.hid (show chk hs0 l = ((chk (nxt s ⟨x0, x1, x2, x3, .slice va xn vc, xs⟩) (l.drop (t + 1))).1 + (t + 1), (chk (nxt s ⟨x0, x1, x2, x3, .slice va xn vc, xs⟩) (l.drop (t + 1))).2) from by
          rw [hq]; simp only [if_true]; rw [show ∀ a : Nat, a + 1 + t = a + (t + 1) from fun a => by omega])
        have H7 := Lib.hid (H6.out hf)
        clear hq hf
        go_wp2
        go_roundw
        case rel => exact ⟨t + 1, _, by omega, by go_num, Lib.hid ⟨H7.out, HCQ.out⟩⟩
        case measure => simp [intOf]; omega
    · obtain rfl : n = t := by omega
      have HCQ := Lib.hid (show cn = n ∧ cb = true from by
        have hq := HQ.out.2
        rw [List.drop_eq_nil_of_le (by rw [HN.out]; exact Nat.le_refl _)] at hq
        rw [HCN.out, HCB.out, hq]; simp [chk])
      go_wp2
      go_ret2
      refine ⟨?_, HQ.out.1.bel⟩
      rw [HCQ.out.1, HCQ.out.2]; rfl
end Go.Proofs.Ytennhfkhdfalfaa

/- filters: slices.DeleteFunc at filters. -/
import Derived.Test.YtennhfkhdfalfaaFi9
namespace Go.Proofs.Ytennhfkhdfalfaa
open Go.RowKit Go.Maps
attribute [local go_sem] ext_cell ext_frozen extC_cell extC_frozen Mix.calmUpon Mix.mUpon
section
variable {q n c i : Nat}
theorem addr0 (q i : Nat) : (⟨q, 0, none⟩ : Addr).add (i * 4) = ⟨q, i * 4, none⟩ := by
  unfold Addr.add; split <;> simp_all
theorem cut_from (hi : i < n) (hn : n ≤ c) (w0 : World) : (Instr.slice 68 (.slice (some ⟨q, 0, none⟩) n c) (some (.int .i64 (i : Int))) none none).run Try.prog w0 = .ok (.slice (some ⟨q, i * 4, none⟩) (n - i) (c - i)) w0 := by
  obtain ⟨i0, hinf, _, hsz, _⟩ := info_parts infoFl
  have h1 : i ≤ n := by omega
  have h2 : ¬ c = i := by omega
  simp [Instr.slice, Instr.sliceBounds, Instr.sliceBound, asIntOf, run_underlying Try.underlying68, sizeOf, typeInfo, hinf, hsz, Result.andThen, h1, h2, hn, addr0]
theorem cut_upto (hi : i ≤ n) (hn : n ≤ c) (w0 : World) : (Instr.slice 68 (.slice (some ⟨q, 0, none⟩) n c) none (some (.int .i64 (i : Int))) none).run Try.prog w0 = .ok (.slice (some ⟨q, 0, none⟩) i c) w0 := by
  obtain ⟨i0, hinf, _, hsz, _⟩ := info_parts infoFl
  have h1 : i ≤ c := by omega
  simp [Instr.slice, Instr.sliceBounds, Instr.sliceBound, asIntOf, run_underlying Try.underlying68, sizeOf, typeInfo, hinf, hsz, Result.andThen, h1, hn, hi, Addr.add]
end
set_option maxRecDepth 100000 in
set_option maxHeartbeats 4000000 in
theorem fdelete {w : World} {base q c : Nat} {l : List Fl} (h : OwnL 72 4 flenc w base (.slice (some ⟨q, 0, none⟩) l.length c) l) (hne : l ≠ []) (hv : ∀ x ∈ l, ∃ a n c, x.vv = .slice a n c) (p : Fl → Bool) (g : Nat) (lb : Array Value) (eg : ∀ args w, (callFunc g args).run Try.prog w = .ok (.enter g args) w)
    (hp : ∀ (W : World) (x : Fl), x ∈ l → Chg (fun k => k = q) w W → Calls Try.prog g (#[flval x] ++ lb) W fun e w' => e = .returned (.bool (p x)) ∧ Below W.heap.size W w') :
    Calls Try.prog 125 #[.slice (some ⟨q, 0, none⟩) l.length c, .func (.func g) #[] lb] w fun e w' => e = .returned (.slice (some ⟨q, 0, none⟩) (l.filter fun x => !p x).length c) ∧ OwnL 72 4 flenc w' base (.slice (some ⟨q, 0, none⟩) (l.filter fun x => !p x).length c) (l.filter fun x => !p x) ∧ Chg (fun k => k = q) w w' := by
  obtain ⟨hbq, cur0, hrw⟩ := RW.of h
  have HIX := Lib.hid (findex (own_rs h) hne p g lb eg fun W x hx hb => (hp W x hx (Chg.of_below _ hb)).mono fun e w' ⟨h1, h2⟩ => ⟨h1, bt hb h2⟩)
  have hnc := hrw.le
  obtain ⟨n, hn⟩ : ∃ n, n = l.length := ⟨_, rfl⟩
  rw [← hn] at HIX hnc ⊢
  have hnm : n ≤ 9223372036854775807 := by unfold maxLen at hnc; omega
  have HN := Lib.hid hn; have HP := Lib.hid hp; have HV := Lib.hid hv; have HBQ := Lib.hid hbq; have HRW := Lib.hid hrw; have HNC := Lib.hid hnc
  have HOW := Lib.hid h
  have hev := eg
  clear hp hv hbq hrw h hn eg hne hnc
  go_enter Try.func125, Try.ntmps125
  go_wp2_with fail
  refine HIX.out.mono ?_
  rintro e w1 ⟨⟨k, rfl, hk1, hk2⟩, hb1⟩
  have HB1 := Lib.hid hb1
  clear hb1
  rcases idx_first (l := l) p with ⟨i0, x0, hx0, hpx, hno⟩ | hno
  · have hk := hk1 i0 x0 hx0 hpx hno
    subst hk
    clear hk1 hk2
    have hi0 : i0 < n := by rw [HN.out]; exact (List.getElem?_eq_some_iff.1 hx0).1
    have hm1 : (((i0 : Nat) : Int) == -1) = false := by simp <;> omega
    have hwr : IntKind.i64.wrap ((i0 : Int) + 1) = (i0 : Int) + 1 := IntWalk.i64_in _ (by omega)
    have HI := Lib.hid (show RW w1 q c l cur0 ∧ l.length = n ∧ i0 < i0 + 1 ∧ l.take i0 = (l.take (i0 + 1)).filter (fun x => !p x) ∧ Chg (fun k => k = q) w w1 from
      ⟨HRW.out.below HB1.out, HN.out.symm, by omega, by
        rw [take_at hx0, List.filter_append]
        have h1 : (l.take i0).filter (fun x => !p x) = l.take i0 := List.filter_eq_self.2 fun y hy => by simp [hno y hy]
        rw [h1]; simp [hpx], Chg.of_below _ HB1.out⟩)
    clear hx0 hpx hno
    go_wp2
    go_loopw [5, 6, 7] (fun iv jv _ wr => ∃ (i j : Nat) (d : List Fl) (cur : Array Value), j ≤ n ∧ iv = .int .i64 i ∧ jv = .int .i64 j ∧ Hid (RW wr q c d cur ∧ d.length = n ∧ i < j ∧ d.take i = (l.take j).filter (fun x => !p x) ∧ d.drop j = l.drop j ∧ Chg (fun k => k = q) w wr)) (fun _ jv _ _ => n - (intOf jv).toNat)
    case atStart => exact ⟨i0, i0 + 1, l, cur0, by omega, rfl, by go_num, Lib.hid ⟨HI.out.1, HI.out.2.1, HI.out.2.2.1, HI.out.2.2.2.1, rfl, HI.out.2.2.2.2⟩⟩
    case round =>
      clear HI hwr hm1
      obtain ⟨i, j, d, cur, hj, rfl, rfl, HQ⟩ := hrel
      obtain ⟨w2, rfl⟩ : ∃ w2, w2 = wr := ⟨_, rfl⟩
      have hij := HQ.out.2.2.1
      by_cases hlt : j < n
      · have hts : (j : Int) < (n : Int) := by omega
        obtain ⟨x, hx⟩ := at_lt (l := l) (i := j) (by rw [← HN.out]; exact hlt)
        have hdx : d[j]? = some x := by
          have h1 := congrArg (fun l : List Fl => l[0]?) HQ.out.2.2.2.2.1
          simp only [List.getElem?_drop, Nat.add_zero] at h1
          rw [h1, hx]
        obtain ⟨xa, xn, xc, hxv⟩ := HV.out x (mem_at hx)
        obtain ⟨r0, r1, r2, r3⟩ := HQ.out.1.cells hdx
        have rl : q < w2.heap.size := (Array.getElem?_eq_some_iff.1 HQ.out.1.obj).1
        obtain ⟨y, hdy⟩ := at_lt (l := d) (i := i) (by rw [HQ.out.2.1]; omega)
        have HX := Lib.hid hx; have HDY := Lib.hid hdy
        have hb3 := ba (Below.refl w2.heap.size w2) (.cells #[.int .i64 x.fr, .int .i64 x.ag, .int .i64 x.ti, x.vv] 72)
        have HF3 := Lib.hid (FB.made w2 x.fr x.ag x.ti x.vv)
        have HC := Lib.hid (HP.out _ x (mem_at hx) (HQ.out.2.2.2.2.2.then_below hb3))
        have HB3 := Lib.hid hb3
        obtain ⟨xi, xg, xt, xv, xp⟩ := x
        simp only at hxv r0 r1 r2 r3 HF3 HC HB3
        subst hxv
        clear hx hdx hdy hb3
        obtain ⟨f0, f1, f2, f3⟩ := HF3.out.cells
        have f4 := HF3.out.lt
        go_wp2_with fail
        clear f0 f1 f2 f3 f4 r0 r1 r2 r3 rl
        refine HC.out.mono ?_
        rintro e w4 ⟨rfl, hb4⟩
        have HF4 := Lib.hid (HF3.out.below hb4)
        have HB4 := Lib.hid (bt HB3.out hb4)
        have HR4 := Lib.hid (HQ.out.1.below HB4.out)
        have HC4 := Lib.hid (HQ.out.2.2.2.2.2.then_below HB4.out)
        clear hb4 HF3 HC HB3
        obtain ⟨fb, hfb⟩ : ∃ b, b = w2.heap.size := ⟨_, rfl⟩
        rw [← hfb] at HF4 ⊢
        have HNE := Lib.hid (show q ≠ fb from by rw [hfb]; have := (Array.getElem?_eq_some_iff.1 HQ.out.1.obj).1; omega)
        clear hfb
        have htk := take_at HX.out
        cases hpx : p ⟨xi, xg, xt, .slice xa xn xc, xp⟩ with
        | true =>
          have HT := Lib.hid (show d.take i = (l.take (j + 1)).filter (fun x => !p x) from by
            rw [htk, List.filter_append, ← HQ.out.2.2.2.1]; simp [hpx])
          have HD := Lib.hid (show d.drop (j + 1) = l.drop (j + 1) from by
            have := congrArg (List.drop 1) HQ.out.2.2.2.2.1
            rwa [List.drop_drop, List.drop_drop] at this)
          clear htk hpx
          go_wp2
          go_roundw
          case rel => exact ⟨i, j + 1, d, cur, by omega, rfl, by go_num, Lib.hid ⟨HR4.out, HQ.out.2.1, by omega, HT.out, HD.out, HC4.out⟩⟩
          case measure => simp [intOf]; omega
        | false =>
          obtain ⟨cur', hrw'⟩ := HR4.out.set (i := i) (by rw [HQ.out.2.1]; omega) ⟨xi, xg, xt, .slice xa xn xc, xp⟩
          have HRW' := Lib.hid hrw'
          have HCW := Lib.hid (show Chg (fun k => k = q) w ((((w4.setCell ⟨q, i * 4, none⟩ (.int .i64 xi)).setCell ⟨q, i * 4 + 1, none⟩ (.int .i64 xg)).setCell ⟨q, i * 4 + 2, none⟩ (.int .i64 xt)).setCell ⟨q, i * 4 + 3, none⟩ (.slice xa xn xc)) from
            (((HC4.out.setCell (p := ⟨q, i * 4, none⟩) (.inl rfl) _).setCell (p := ⟨q, i * 4 + 1, none⟩) (.inl rfl) _).setCell (p := ⟨q, i * 4 + 2, none⟩) (.inl rfl) _).setCell (p := ⟨q, i * 4 + 3, none⟩) (.inl rfl) _)
          have HT := Lib.hid (show (d.set i ⟨xi, xg, xt, .slice xa xn xc, xp⟩).take (i + 1) = (l.take (j + 1)).filter (fun x => !p x) from by
            have hi : i < d.length := by rw [HQ.out.2.1]; omega
            rw [htk, List.filter_append, ← HQ.out.2.2.2.1]
            have h1 : (d.set i ⟨xi, xg, xt, .slice xa xn xc, xp⟩)[i]? = some ⟨xi, xg, xt, .slice xa xn xc, xp⟩ := by rw [List.getElem?_set_self hi]
            rw [take_at h1, List.take_set_of_le (Nat.le_refl i)]
            simp [hpx])
          have HD := Lib.hid (show (d.set i ⟨xi, xg, xt, .slice xa xn xc, xp⟩).drop (j + 1) = l.drop (j + 1) from by
            rw [List.drop_set_of_lt (by omega)]
            have := congrArg (List.drop 1) HQ.out.2.2.2.2.1
            rwa [List.drop_drop, List.drop_drop] at this)
          obtain ⟨f0, f1, f2, f3⟩ := HF4.out.cells
          have f4 := HF4.out.lt
          obtain ⟨r0, r1, r2, r3⟩ := HR4.out.cells HDY.out
          have rl : q < w4.heap.size := (Array.getElem?_eq_some_iff.1 HR4.out.obj).1
          have z0 := HR4.out.fz (i * 4); have z1 := HR4.out.fz (i * 4 + 1); have z2 := HR4.out.fz (i * 4 + 2); have z3 := HR4.out.fz (i * 4 + 3)
          have hil : i < n := by omega
          have hils : (i : Int) < (n : Int) := by omega
          clear htk hpx hrw'
          go_wp2
          go_roundw
          case rel => exact ⟨i + 1, j + 1, d.set i ⟨xi, xg, xt, .slice xa xn xc, xp⟩, cur', by omega, by go_num, by go_num, Lib.hid ⟨HRW'.out, by rw [List.length_set]; exact HQ.out.2.1, by omega, HT.out, HD.out, HCW.out⟩⟩
          case measure => simp [intOf]; omega
      · obtain rfl : n = j := by omega
        have hin : i < n := hij
        have hs1 := cut_from (q := q) hin HNC.out.1
        have hs2 := cut_upto (q := q) (Nat.le_of_lt hin) HNC.out.1
        obtain ⟨w5, cur5, hcl, hr5, hc5⟩ := HQ.out.1.clear (i := i) (n := n - i) (k := c - i) (by rw [HQ.out.2.1]; omega) (by omega)
        have HF := Lib.hid (show d.take i = l.filter (fun x => !p x) from by
          have := HQ.out.2.2.2.1
          have e : l.take n = l := List.take_of_length_le (by rw [← HN.out]; exact Nat.le_refl _)
          rw [e] at this
          exact this)
        have HL := Lib.hid (show (l.filter fun x => !p x).length = i from by
          rw [← HF.out, List.length_take, HQ.out.2.1]; omega)
        have HR5 := Lib.hid hr5
        have HC5 := Lib.hid (HQ.out.2.2.2.2.2.same hc5)
        have hcl2 := hcl
        clear hr5 hc5 hlt hj
        go_wp2
        go_ret
        rw [HL.out]
        refine ⟨rfl, ?_, HC5.out⟩
        have h1 := HR5.out
        rw [HF.out] at h1
        have h2 := h1.own HBQ.out
        rw [HL.out] at h2
        exact h2
  · have hk := hk2 hno
    subst hk
    clear hk1 hk2
    have HE := Lib.hid (show (l.filter fun x => !p x) = l from List.filter_eq_self.2 fun y hy => by simp [hno y hy])
    clear hno
    go_wp2
    go_ret
    rw [HE.out, ← HN.out]
    exact ⟨rfl, by have := HOW.out.below HB1.out; rw [← HN.out] at this; exact this, Chg.of_below _ HB1.out⟩
end Go.Proofs.Ytennhfkhdfalfaa

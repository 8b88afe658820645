/- pool: Moved, Tasks. -/
import Derived.Test.YtnckjacbkhoppaaPo4
import Derived.Test.YtnckjacbkhoppaaRS
namespace Go.Proofs.Ytnckjacbkhoppaa
open Go.RowKit Go.Maps
attribute [local go_sem] ext_cell ext_frozen extC_cell extC_frozen Mix.calmUpon Mix.mUpon
theorem infoOp : (Try.prog.info? 40).map (fun i => (i.zero, i.size, i.bytes)) = some (some (.agg #[.int .i64 0, .int .i64 0, .slice none 0 0]), 3, 40) := by kernel_rfl
theorem own_appP {w : World} {base : Nat} {v : Value} {l : List Po} {b : Nat} (h : OwnL 40 3 poenc w base v l) (x : Po) (hx : PB w b x.kind x.id x.vv) (hv : x.vv.oneCell' = true) (hl : l.length < 1000000) (hb : base ≤ w.heap.size) :
    ∃ v' w', (Builtin.append_ #[22, 22] 22 #[v, .slice (some ⟨b, 0, none⟩) 1 1]).run Try.prog w = .ok v' w' ∧ OwnL 40 3 poenc w' base v' (l ++ [x]) ∧ w.grownBy w' v.ownBlock ∧ (v'.ownBlock = v.ownBlock ∨ v'.ownBlock = some w.heap.size) := by
  obtain ⟨i0, hi, hz0, hz1, hz2⟩ := info_parts infoOp
  obtain ⟨x0, x1, x2⟩ := hx.cells
  exact OwnL.app h Try.underlying22 hi hz0 hz1 hz2 rfl (by decide) (fun _ => rfl) x (fun j u hj => by
      rcases j with _ | _ | _ | j <;> simp [poenc] at hj
      · subst hj; exact x0
      · subst hj; exact x1
      · subst hj; exact x2) (fun u hu => by simp [poenc] at hu; rcases hu with rfl | rfl | rfl <;> first | rfl | exact hv) (by omega) (by unfold maxLen; omega) hb
/-- What Moved answers. -/
def movS (P : List Pt) (role : Int) (l : List Qo) : List Pt × Int := if chkE P role l = 0 then exS role P (l.filter fun o => o.1 != 1) else ([], chkE P role l)
set_option maxRecDepth 100000 in
set_option maxHeartbeats 4000000 in
theorem Moved_any {W : World} {pv ov : Value} {P : List Pt} {l : List Po} (role : Int) (hP : P.length < 1000000) (hA : Vc W pv P) (hO : OL W ov l) (hG : OG l) (hl : l.length < 900000) :
    Calls Try.prog 22 #[pv, .int .i64 role, ov] W (RetS W (movS P role (l.map Po.pl))) := by
  have HC := Lib.hid (check_any role hP hA hO hG)
  have HE := Lib.hid fun w v (C : List Po) (hb : Below W.heap.size W w) (hC : OL w v C) (hg : OG C) => execute_any role hP (hA.on hb) hC hg
  have HOG := Lib.hid hG; have HVV := Lib.hid hO.vec
  obtain ⟨a, n, c, rfl, hn, hc, hm, hat⟩ := hO.rs.at_
  have hn9 : n ≤ 9223372036854775807 := by unfold maxLen at hm; omega
  have HN := Lib.hid hn; have HAT := Lib.hid hat; have HLL := Lib.hid hl
  clear hA hO hG hP hn hat hm hc hl
  by_cases h0 : chkE P role (l.map Po.pl) = 0
  · have HW := Lib.hid (show movS P role (l.map Po.pl) = exS role P ((l.map Po.pl).filter fun o => o.1 != 1) from if_pos h0)
    rw [h0] at HC
    clear h0
    go_enter Try.func22, Try.ntmps22
    go_wp2_with fail
    refine HC.out.mono ?_
    rintro e w0 ⟨rfl, hb1⟩
    have HI := Lib.hid (show Below W.heap.size W w0 ∧ OwnL 40 3 poenc w0 W.heap.size (.slice none 0 0) [] ∧ ([] : List Po) = (l.take 0).filter (fun x => x.kind != 1) from ⟨hb1, OwnL.nil _ _ _ _ _, rfl⟩)
    clear hb1
    go_wp2
    go_loopw [9, 21] (fun lv iv wr => ∃ (t : Nat) (C : List Po), t ≤ n ∧ iv = .int .i64 t ∧ Hid (Below W.heap.size W wr ∧ OwnL 40 3 poenc wr W.heap.size lv C ∧ C = (l.take t).filter (fun x => x.kind != 1))) (fun _ iv _ => n - (intOf iv).toNat)
    case atStart => exact ⟨0, [], Nat.zero_le _, rfl, HI⟩
    case round =>
      clear HI
      obtain ⟨t, C, ht, rfl, HQ⟩ := hrel
      obtain ⟨w1, rfl⟩ : ∃ w1, w1 = wr := ⟨_, rfl⟩
      by_cases hlt : t < n
      · have hts : (t : Int) < (n : Int) := by omega
        obtain ⟨x, hx⟩ := at_lt (l := l) (i := t) (by rw [← HN.out]; exact hlt)
        have HT := Lib.hid (show (l.take (t + 1)).filter (fun x => x.kind != 1) = C ++ (if (x.kind != 1) = true then [x] else []) from by
          rw [take_at hx, List.filter_append, ← HQ.out.2.2, List.filter_cons, List.filter_nil])
        have HCL := Lib.hid (show C.length < 900000 from by
          rw [HQ.out.2.2]
          have h1 := List.length_filter_le (fun x : Po => x.kind != 1) (l.take t)
          have h2 := List.length_take_le t l
          have h3 := HN.out; have h4 := HLL.out
          omega)
        obtain ⟨b, off, rfl, hb, hcell⟩ := HAT.out t x hx
        have d0 := (HQ.out.1.cell (p := ⟨b, _, none⟩) hb).trans (hcell 0 _ rfl)
        have d1 := (HQ.out.1.cell (p := ⟨b, _, none⟩) hb).trans (hcell 1 _ rfl)
        have d2 := (HQ.out.1.cell (p := ⟨b, _, none⟩) hb).trans (hcell 2 _ rfl)
        simp only [Nat.add_zero] at d0
        have q0 : b < w1.heap.size := Nat.lt_of_lt_of_le hb HQ.out.1.size
        have hv := HVV.out x (mem_at hx)
        obtain ⟨xk, xi, xv, xs⟩ := x
        obtain ⟨va, vc, hvv, -, -⟩ := hv.form
        simp only at hvv d0 d1 d2 hv
        subst hvv
        generalize xs.length = xn at *
        clear hcell hx hb hv
        have hb1 := ba (Below.refl w1.heap.size w1) (.cells #[.int .i64 xk, .int .i64 xi, .slice va xn vc] 40)
        by_cases hk : xk = 1
        · have hkb : (xk != 1) = false := by simp [hk]
          have HI := Lib.hid (show Below W.heap.size W _ ∧ OwnL 40 3 poenc _ W.heap.size u9 C ∧ C = (l.take (t + 1)).filter (fun x => x.kind != 1) from ⟨HQ.out.1.trans (hb1.mono HQ.out.1.size), HQ.out.2.1.below hb1, by rw [HT.out, if_neg (by show ¬ (xk != 1) = true; rw [hkb]; simp), List.append_nil]⟩)
          clear hk hb1
          go_wp2
          go_roundw
          case rel => exact ⟨t + 1, C, by omega, by go_num, HI⟩
          case measure => simp [intOf]; omega
        · have hkb : (xk != 1) = true := by simpa using hk
          have e1 : (w1.alloc (.cells #[.int .i64 xk, .int .i64 xi, .slice va xn vc] 40)).heap.size = w1.heap.size + 1 := by simp
          have hb2 := ba hb1 (.cells #[.int .i64 xk, .int .i64 xi, .slice va xn vc] 40)
          have hpb := PB.made (w1.alloc (.cells #[.int .i64 xk, .int .i64 xi, .slice va xn vc] 40)) xk xi (.slice va xn vc)
          rw [e1] at hpb
          obtain ⟨v2, w6, hra, o6, g6, b6⟩ := own_appP (HQ.out.2.1.below hb2) ⟨xk, xi, .slice va xn vc, xs⟩ hpb rfl (by have := HCL.out; omega) (by have h1 := HQ.out.1.size; have h2 := hb2.size; omega)
          have hol := HQ.out.2.1.lt
          have hcg : Chg (fun k => u9.ownBlock = some k) w1 w6 := (Chg.of_below _ hb2).same (.of_grown g6 fun k e => e)
          have HI := Lib.hid (show Below W.heap.size W w6 ∧ OwnL 40 3 poenc w6 W.heap.size v2 (C ++ [⟨xk, xi, .slice va xn vc, xs⟩]) ∧ (C ++ [⟨xk, xi, .slice va xn vc, xs⟩]) = (l.take (t + 1)).filter (fun x => x.kind != 1) from ⟨HQ.out.1.trans (hcg.below HQ.out.1.size fun k e => (hol k e).1), o6, by rw [HT.out, if_pos (by exact hkb)]⟩)
          have HRA := Lib.hid hra
          clear hk hb1 hb2 e1 hpb hra o6 g6 b6 hol hcg
          go_wp2_with (at_builtin; refine wpList_app_run rfl _ _ _ rfl rfl rfl HRA.out ?_)
          go_roundw
          case rel => exact ⟨t + 1, _, by omega, by go_num, HI⟩
          case measure => simp [intOf]; omega
      · obtain rfl : n = t := by omega
        have hC : C = l.filter (fun x => x.kind != 1) := by rw [HQ.out.2.2, HN.out, List.take_length]
        have hex := HE.out w1 u9 C HQ.out.1 ⟨HQ.out.2.1.rs (fun _ => rfl), fun x hx => (HVV.out x (List.mem_filter.1 (by rw [← hC]; exact hx)).1).on HQ.out.1⟩ (fun x hx => HOG.out x (List.mem_filter.1 (by rw [← hC]; exact hx)).1)
        have hmp : C.map Po.pl = (l.map Po.pl).filter fun o => o.1 != 1 := by rw [hC, List.filter_map]; rfl
        rw [hmp] at hex
        have HEX := Lib.hid hex
        clear hC hex hmp
        go_wp2_with fail
        refine HEX.out.mono ?_
        rintro e w2 ⟨v2, rfl, hv2, hb2⟩
        have HR := Lib.hid (show RetS W (movS P role (l.map Po.pl)) (.returned (.tuple #[v2, .int .i64 (exS role P ((l.map Po.pl).filter fun o => o.1 != 1)).2])) w2 from by
          rw [HW.out]; exact ⟨_, rfl, hv2, bt HQ.out.1 hb2⟩)
        clear hv2 hb2 HEX
        generalize (exS role P ((l.map Po.pl).filter fun o => o.1 != 1)).2 = er at *
        go_wp2
        refine bodyPost_ret (res_2 Try.results22) rfl ?_
        exact HR.out
  · have HW := Lib.hid (show movS P role (l.map Po.pl) = ([], chkE P role (l.map Po.pl)) from if_neg h0)
    have hb0 : (chkE P role (l.map Po.pl) != 0) = true := by simpa using h0
    clear h0
    go_enter Try.func22, Try.ntmps22
    go_wp2_with fail
    refine HC.out.mono ?_
    rintro e w1 ⟨rfl, hb1⟩
    have HR := Lib.hid (show RetS W (movS P role (l.map Po.pl)) (.returned (.tuple #[.slice none 0 0, .int .i64 (chkE P role (l.map Po.pl))])) w1 from by
      rw [HW.out]; exact ⟨_, rfl, Vc.nil _, hb1⟩)
    clear hb1 HW HC
    generalize chkE P role (l.map Po.pl) = er at *
    go_wp2
    refine bodyPost_ret (res_2 Try.results22) rfl ?_
    exact HR.out
/-- How many launch something. -/
def cntL (l : List Qo) : Nat := (l.filter fun o => o.1 == 1).length
set_option maxRecDepth 100000 in
set_option maxHeartbeats 4000000 in
theorem Tasks_any {W : World} {ov : Value} {l : List Po} (hO : OL W ov l) : Calls Try.prog 19 #[ov] W fun e w' => e = .returned (.int .i64 (cntL (l.map Po.pl) : Nat)) ∧ Below W.heap.size W w' := by
  have HVV := Lib.hid hO.vec
  obtain ⟨a, n, c, rfl, hn, hc, hm, hat⟩ := hO.rs.at_
  have hn9 : n ≤ 9223372036854775807 := by unfold maxLen at hm; omega
  have HN := Lib.hid hn; have HAT := Lib.hid hat
  clear hO hn hat hm hc
  go_enter Try.func19, Try.ntmps19
  go_wp2
  go_loopw [3, 8] (fun sv iv wr => ∃ (t q : Nat), t ≤ n ∧ iv = .int .i64 t ∧ sv = .int .i64 q ∧ q ≤ t ∧ Hid (Below W.heap.size W wr ∧ q = ((l.take t).filter fun x => x.kind == 1).length)) (fun _ iv _ => n - (intOf iv).toNat)
  case atStart => exact ⟨0, 0, Nat.zero_le _, rfl, rfl, Nat.le_refl _, Lib.hid ⟨Below.refl _ _, rfl⟩⟩
  case round =>
    obtain ⟨t, q, ht, rfl, rfl, hqt, HQ⟩ := hrel
    obtain ⟨w1, rfl⟩ : ∃ w1, w1 = wr := ⟨_, rfl⟩
    by_cases hlt : t < n
    · have hts : (t : Int) < (n : Int) := by omega
      obtain ⟨x, hx⟩ := at_lt (l := l) (i := t) (by rw [← HN.out]; exact hlt)
      have HT := Lib.hid (show ((l.take (t + 1)).filter fun x => x.kind == 1).length = q + (if (x.kind == 1) = true then 1 else 0) from by
        rw [take_at hx, List.filter_append, List.length_append, ← HQ.out.2, List.filter_cons, List.filter_nil]
        split <;> rfl)
      obtain ⟨b, off, rfl, hb, hcell⟩ := HAT.out t x hx
      have d0 := (HQ.out.1.cell (p := ⟨b, _, none⟩) hb).trans (hcell 0 _ rfl)
      have d1 := (HQ.out.1.cell (p := ⟨b, _, none⟩) hb).trans (hcell 1 _ rfl)
      have d2 := (HQ.out.1.cell (p := ⟨b, _, none⟩) hb).trans (hcell 2 _ rfl)
      simp only [Nat.add_zero] at d0
      have q0 : b < w1.heap.size := Nat.lt_of_lt_of_le hb HQ.out.1.size
      have hv := HVV.out x (mem_at hx)
      obtain ⟨xk, xi, xv, xs⟩ := x
      obtain ⟨va, vc, hvv, -, -⟩ := hv.form
      simp only at hvv d0 d1 d2 hv
      subst hvv
      generalize xs.length = xn at *
      clear hcell hx hb hv
      have HB1 := Lib.hid (HQ.out.1.trans ((ba (Below.refl w1.heap.size w1) (.cells #[.int .i64 xk, .int .i64 xi, .slice va xn vc] 40)).mono HQ.out.1.size))
      by_cases hk : xk = 1
      · have hkb : (xk == 1) = true := by simp [hk]
        have HI := Lib.hid (show q + 1 = ((l.take (t + 1)).filter fun x => x.kind == 1).length from by rw [HT.out, if_pos (by exact hkb)])
        clear hk
        go_wp2
        go_roundw
        case rel => exact ⟨t + 1, q + 1, by omega, by go_num, by go_num, by omega, Lib.hid ⟨HB1.out, HI.out⟩⟩
        case measure => simp [intOf]; omega
      · have hkb : (xk == 1) = false := by simp [hk]
        have HI := Lib.hid (show q = ((l.take (t + 1)).filter fun x => x.kind == 1).length from by rw [HT.out, if_neg (by show ¬ (xk == 1) = true; rw [hkb]; simp)]; rfl)
        clear hk
        go_wp2
        go_roundw
        case rel => exact ⟨t + 1, q, by omega, by go_num, rfl, by omega, Lib.hid ⟨HB1.out, HI.out⟩⟩
        case measure => simp [intOf]; omega
    · obtain rfl : n = t := by omega
      have HC := Lib.hid (show q = cntL (l.map Po.pl) from by rw [HQ.out.2, HN.out, List.take_length]; unfold cntL; rw [List.filter_map, List.length_map]; rfl)
      go_wp2
      go_ret
      exact ⟨by rw [← HC.out]; rfl, HQ.out.1⟩
end Go.Proofs.Ytnckjacbkhoppaa

/- filters: the walk of FiltersPlays. -/
import Derived.Test.YtennhfkhdfalfaaRfB
import Derived.Test.YtennhfkhdfalfaaFik
namespace Go.Proofs.Ytennhfkhdfalfaa
open Go.RowKit Go.Maps
attribute [local go_sem] ext_cell ext_frozen extC_cell extC_frozen Mix.calmUpon Mix.mUpon
theorem FlIn.on3 {W w : World} {x : Fl} (h : FlIn W x) (hb : Below W.heap.size W w) : FlIn w x := ⟨h.i1, h.i2, h.i3, h.vc.on hb, h.vi, h.vl⟩
theorem AB.chg {w w' : World} {G : Nat → Prop} {b : Nat} {k n i g t : Int} {v : Value} (h : AB w b k n i g t v) (hc : Chg G w w') (hn : ¬ G b) : AB w' b k n i g t v := (hc.block b h.lt hn).trans h
theorem AB.below {w w' : World} {b : Nat} {k n i g t : Int} {v : Value} (h : AB w b k n i g t v) (hb : Below w.heap.size w w') : AB w' b k n i g t v := h.chg (.of_below (fun _ => False) hb) id
theorem kindw (kd : Int) (h0 : kd ≠ 0) : ∃ mk ak : Int, min 3 kd = mk ∧ max 1 mk = ak ∧ (ak = 1 ∨ ak = 2 ∨ ak = 3) ∧ (0 ≤ kd → ak = whatF kd) := by
  refine ⟨_, _, rfl, rfl, by omega, fun h => ?_⟩
  unfold whatF
  split
  · omega
  · split <;> omega
-- behind an act: HP9 is the state at w9, ab holds the act
-- the record's block mb gets the list of the block nb, at the world w8
-- behind Without: the record in nb at the world w8 holds what stays
set_option maxRecDepth 100000 in
set_option maxHeartbeats 16000000 in
theorem plays26 (cap : Int) (v : Value) (l : List Fa) (u : Value) (us : List Pt) (W : World) (hcap : cap ≤ 9223372036854775807) (hr : RS 6 faenc W v l) (ha : ∀ x ∈ l, FlIn W x.f) (hu : Vc W u us) :
    Calls Try.prog 6 #[.int .i64 cap, v, u] W fun e w' => e = .returned (.bool true) ∧ Below W.heap.size W w' := by
  have HFW := Lib.hid (few26 v l W hr ha)
  have HR := Lib.hid hr; have HA := Lib.hid ha
  obtain ⟨a, n, c, rfl, hn, -, -, -⟩ := hr.at_
  have HN := Lib.hid hn
  obtain ⟨ua, uc, rfl, -, -⟩ := hu.form
  obtain ⟨un, hun⟩ : ∃ un, un = us.length := ⟨_, rfl⟩
  rw [← hun] at hu ⊢
  have HUNE := Lib.hid hun
  have HU := Lib.hid hu
  clear ha hr hn hu hun
  by_cases hfew : l.length ≤ 100 ∧ (l.map faW).sum ≤ 400
  case neg =>
    have HFT := Lib.hid (show decide (l.length ≤ 100 ∧ (l.map faW).sum ≤ 400) = false from decide_eq_false hfew)
    clear hfew
    go_enter Try.func6, Try.ntmps6
    go_wp2_with fail
    refine HFW.out.mono ?_
    rintro e w1 ⟨rfl, hb1⟩
    rw [HFT.out]
    have HB1 := Lib.hid hb1
    clear hb1
    go_wp2
    go_ret
    exact ⟨rfl, HB1.out⟩
  have HFT := Lib.hid (show decide (l.length ≤ 100 ∧ (l.map faW).sum ≤ 400) = true from decide_eq_true hfew)
  have HLE := Lib.hid (few_each hfew.2)
  have hn100 : n ≤ 100 := by rw [HN.out]; exact hfew.1
  clear hfew
  by_cases k1 : 150 < un
  · have k1i : (150 : Int) < (un : Int) := by omega
    go_enter Try.func6, Try.ntmps6
    go_wp2_with fail
    refine HFW.out.mono ?_
    rintro e w1 ⟨rfl, hb1⟩
    rw [HFT.out]
    have HB1 := Lib.hid hb1
    clear hb1
    go_wp2
    go_ret
    exact ⟨rfl, HB1.out⟩
  have k1i : ¬ (150 : Int) < (un : Int) := by omega
  have HUN := Lib.hid (show us.length ≤ 150 by have := HUNE.out; omega)
  go_enter Try.func6, Try.ntmps6
  go_wp2_with fail
  refine HFW.out.mono ?_
  rintro e w1 ⟨rfl, hb1⟩
  rw [HFT.out]
  have HB1 := Lib.hid hb1
  have HAT : Hid (∀ i x, l[i]? = some x → ∃ b off, a = some ⟨b, off, none⟩ ∧ b < w1.heap.size ∧ ∀ j u, (faenc x)[j]? = some u → w1.cell? ⟨b, off + i * 6 + j, none⟩ = some u) := Lib.hid (by
    obtain ⟨a', n', c', he, _, _, _, h⟩ := (HR.out.below hb1).at_
    cases he; exact h)
  have HA1 := Lib.hid (show ∀ x ∈ l, FlIn w1 x.f from fun x hx => (HA.out x hx).on3 hb1)
  have HU1 := Lib.hid (HU.out.on hb1)
  clear hb1 HR HA HFW HU k1
  by_cases hc1 : cap < 1
  · go_wp2_with fail
    refine (fnew_none w1 hc1).mono ?_
    rintro e w2 ⟨rfl, rfl⟩
    go_wp2_with fail
    refine (works26 w2).mono ?_
    rintro e w3 ⟨rfl, hb3⟩
    have HB3 := Lib.hid hb3
    clear hb3
    go_wp2
    go_ret
    exact ⟨rfl, bt HB1.out HB3.out⟩
  have hc1i : 1 ≤ cap := by omega
  go_wp2_with fail
  refine (fnew w1 w1 (Below.refl _ _) (cap := cap) ⟨hc1i, hcap⟩).mono ?_
  rintro e w2 ⟨rfl, h2, hb2⟩
  obtain ⟨tp, htp⟩ : ∃ tp, tp = w1.heap.size + 1 := ⟨_, rfl⟩
  obtain ⟨M, hM⟩ : ∃ M, M = w1.heap.size := ⟨_, rfl⟩
  have h2 : FT w1 w2 tp M cap (fun _ => none) [] := by rw [htp, hM]; exact h2
  rw [← htp]
  have hb3 := ba (Below.refl w2.heap.size w2) (.cells #[.int .i64 cap, .slice none 0 0] 70)
  have HI := Lib.hid (show PS6 w1 (w2.alloc (.cells #[.int .i64 cap, .slice none 0 0] 70)) tp M cap w2.heap.size (fun _ => none) [] [] (.slice none 0 0) [] ∧ ([] : List Pf).length ≤ 0 from
    ⟨⟨h2.below hb3, Srt.In.nil, .refl _, MB6.made w2 cap _, OwnL.nil _ _ _ _ _, rfl, (fun x hx => by cases hx), (fun q hq => by cases hq), fun e => Nat.lt_irrefl _ (h2.tbLt _ e), h2.bel.size, fun q hq => by cases hq⟩, Nat.le_refl _⟩)
  clear h2 htp hM hb2 hb3
  go_upto_region 8 with (fail)
  generalize w2.alloc (.cells #[.int .i64 cap, .slice none 0 0] 70) = w3 at *
  obtain ⟨mb, hmb⟩ : ∃ mb, mb = w2.heap.size := ⟨_, rfl⟩
  rw [← hmb] at HI ⊢
  clear hmb hc1 k1i
  go_loopw [9] (fun iv wr => ∃ (k : Nat) (F : K2 → Option Fx) (S P : List Pf) (mv : Value) (C : List Fo), k ≤ n ∧ iv = .int .i64 k ∧ Hid (PS6 w1 wr tp M cap mb F S P mv C ∧ S.length ≤ k)) (fun iv _ => n - (intOf iv).toNat)
  case atStart => exact ⟨0, _, _, _, _, _, Nat.zero_le _, rfl, HI⟩
  case round =>
    clear HI
    obtain ⟨k, F, S, P, mv, C, hk, rfl, HQ⟩ := hrel
    obtain ⟨w4, rfl⟩ : ∃ w4, w4 = wr := ⟨_, rfl⟩
    have HP4 := Lib.hid HQ.out.1
    have hsl : S.length ≤ k := HQ.out.2
    obtain ⟨ma, mn, mc, hmv⟩ : ∃ ma mn mc, mv = .slice ma mn mc := by
      rcases HP4.out.own.2 with ⟨hv, h0⟩ | ⟨g', cap', cur', hv, _⟩
      · exact ⟨_, _, _, hv⟩
      · exact ⟨_, _, _, hv⟩
    subst hmv
    clear HQ
    by_cases hlt : k < n
    · have hts : (k : Int) < (n : Int) := by omega
      obtain ⟨x, hx⟩ := at_lt (l := l) (i := k) (by rw [← HN.out]; exact hlt)
      obtain ⟨bs, off, rfl, hbs, hcell⟩ := HAT.out k x hx
      have hxi := HA1.out x (mem_at hx)
      have hxl := HLE.out x (mem_at hx)
      have hbw := HP4.out.ft.bel
      have c0 := (hbw.cell (p := ⟨bs, _, none⟩) hbs).trans (hcell 0 _ rfl)
      have c1 := (hbw.cell (p := ⟨bs, _, none⟩) hbs).trans (hcell 1 _ rfl)
      have c2 := (hbw.cell (p := ⟨bs, _, none⟩) hbs).trans (hcell 2 _ rfl)
      have c3 := (hbw.cell (p := ⟨bs, _, none⟩) hbs).trans (hcell 3 _ rfl)
      have c4 := (hbw.cell (p := ⟨bs, _, none⟩) hbs).trans (hcell 4 _ rfl)
      have c5 := (hbw.cell (p := ⟨bs, _, none⟩) hbs).trans (hcell 5 _ rfl)
      simp only [Nat.add_zero] at c0
      have hbs4 : bs < w4.heap.size := Nat.lt_of_lt_of_le hbs hbw.size
      have HDL := Lib.hid (show (dofP cap S x).length ≤ S.length + 1 from dof_len' x)
      obtain ⟨xk, xn, ⟨xi, xg, xt, xv, xs⟩⟩ := x
      obtain ⟨va, vc, hvv, -, -⟩ := hxi.vc.form
      simp only at hvv c0 c1 c2 c3 c4 c5 hxl
      subst hvv
      have HI64 := Lib.hid (And.intro hxi.i1 hxi.i2)
      have HXV := Lib.hid hxi.vc
      have hI3 := And.intro hxi.i1 (And.intro hxi.i2 hxi.i3)
      have hb5 := ba (Below.refl w4.heap.size w4) (.cells #[.int .i64 xk, .int .i64 xn, .int .i64 xi, .int .i64 xg, .int .i64 xt, .slice va xs.length vc] 74)
      have ha5 := AB.made w4 xk xn xi xg xt (.slice va xs.length vc)
      have hdo := fdoB (HP4.out.on hb5).ft ⟨xk, xn, ⟨xi, xg, xt, .slice va xs.length vc, xs⟩⟩ (((HXV.out).on HP4.out.ft.bel).on hb5) hxl (by omega) hI3
      have HDO := Lib.hid hdo; have HP5 := Lib.hid (HP4.out.on hb5); have HA5 := Lib.hid ha5
      have HTL := Lib.hid fun q e => HP4.out.ft.tbLt q e
      have HMBL := Lib.hid HP4.out.m.lt
      have HOWL := Lib.hid HP4.out.own.lt
      have HXL := Lib.hid hxl
      clear hcell hx hbw hbs hb5 ha5 hdo hxi hI3 hxl
      obtain ⟨vn, hvn⟩ : ∃ vn, vn = xs.length := ⟨_, rfl⟩
      rw [← hvn] at HDO HP5 HA5 HXV c5
      have HVN := Lib.hid hvn
      clear hvn
      go_upto_region 11 with (fail)
      clear c0 c1 c2 c3 c4 c5 hbs4
      generalize w4.alloc (.cells #[.int .i64 xk, .int .i64 xn, .int .i64 xi, .int .i64 xg, .int .i64 xt, .slice va vn vc] 74) = w5 at *
      obtain ⟨ab, hab⟩ : ∃ b, b = w4.heap.size := ⟨_, rfl⟩
      rw [← hab] at HA5 ⊢
      have HABQ := Lib.hid hab
      clear hab
      obtain ⟨z0, z1, z2, z3, z4, z5⟩ := HA5.out.cells
      have zl := HA5.out.lt
      go_wp2_with fail
      clear z0 z1 z2 z3 z4 z5 zl
      refine HDO.out.mono ?_
      rintro e w6 ⟨rfl, F6, h6, ht6, hc6⟩
      have hab6 : ¬ TB tp M F ab := fun e => by have := HTL.out ab e; have := HABQ.out; omega
      have HA6 := Lib.hid (HA5.out.chg hc6 hab6)
      have HT6 := Lib.hid h6
      have HM6 := Lib.hid (HP5.out.m.chg hc6 HP5.out.nb)
      have HO6 := Lib.hid (HP5.out.own.chg hc6 fun b hb => HP5.out.off b hb)
      have HOF6 := Lib.hid (show ∀ q, (Value.slice ma mn mc).ownBlock = some q → ¬ TB tp M F6 q from fun q hq e => by
        rcases ht6 q e with e | e
        · exact HP5.out.off q hq e
        · have := (HP5.out.own.lt q hq).2; omega)
      have HNB6 := Lib.hid (show ¬ TB tp M F6 mb from fun e => by
        rcases ht6 mb e with e | e
        · exact HP5.out.nb e
        · have := HP5.out.m.lt; omega)
      have HABM := Lib.hid (show ab ≠ mb by have := HMBL.out; have := HABQ.out; omega)
      have HS9 := Lib.hid (show (dofP cap S ⟨xk, xn, ⟨xi, xg, xt, .slice va vn vc, xs⟩⟩).length ≤ k + 1 from by have := HDL.out; rw [← HVN.out] at this; omega)
      clear h6 ht6 hc6 hab6 HDO HDL
      by_cases hk0 : xk = 0
      · have hdE : dofE cap S ⟨xk, xn, ⟨xi, xg, xt, .slice va vn vc, xs⟩⟩ = putE cap S (xi, xg, xt, xs) := by unfold dofE; rw [if_pos hk0]
        have hdP : dofP cap S ⟨xk, xn, ⟨xi, xg, xt, .slice va vn vc, xs⟩⟩ = putP cap S (xi, xg, xt, xs) := by unfold dofP; rw [if_pos hk0]
        rw [hdP] at HT6 HS9
        rw [hdE]
        have kb : (xk == 0) = true := by simpa using hk0
        have hput := rput (cap := cap) HO6.out (HT6.out.bel.size) (fun x hx => (HP5.out.cv x hx).on HT6.out.bel) HP5.out.short (by rw [HP5.out.len]; omega) ⟨xi, xg, xt, va, vn, vc, xs⟩ (HXV.out.on HT6.out.bel) (by have := HXL.out; show xs.length < 1000000000; omega)
        unfold RetP6 at hput
        rw [HP5.out.pl] at hput
        have hpe : putE cap P (Fo.pl ⟨xi, xg, xt, va, vn, vc, xs⟩) = putE cap S (xi, xg, xt, xs) := putE_perm HP5.out.pm _
        rw [hpe] at hput
        obtain ⟨E, hE⟩ : ∃ E, E = putE cap S (xi, xg, xt, xs) := ⟨_, rfl⟩
        rw [← hE] at hput ⊢
        have HPUT := Lib.hid hput
        clear hput hpe hE hdE hdP hk0
        obtain ⟨z0, z1, z2, z3, z4, z5⟩ := HA6.out.cells
        have zl := HA6.out.lt
        obtain ⟨m0, m1⟩ := HM6.out.cells
        have ml := HM6.out.lt
        go_wp2_with fail
        clear z0 z1 z2 z3 z4 z5 zl m0 m1 ml
        refine HPUT.out.mono ?_
        rintro e w7 ⟨mv9, C9, rfl, ho7, hpl7, hme7, hof7, hb7⟩
        obtain ⟨na, nn, nc, hnv⟩ : ∃ na nn nc, mv9 = .slice na nn nc := by
          rcases ho7.2 with ⟨hv, h0⟩ | ⟨g', cap', cur', hv, _⟩
          · exact ⟨_, _, _, hv⟩
          · exact ⟨_, _, _, hv⟩
        subst hnv
        have hb8 := ba (Below.refl w7.heap.size w7) (.cells #[.int .i64 cap, .slice na nn nc] 70)
        have HN8 := Lib.hid (MB6.made w7 cap (.slice na nn nc))
        have HO8 := Lib.hid (show OwnL 72 4 foenc (w7.alloc (.cells #[.int .i64 cap, .slice na nn nc] 70)) w1.heap.size (.slice na nn nc) C9 from ho7.below hb8)
        have HB68 := Lib.hid (bt hb7 hb8)
        have HPL9 := Lib.hid (show C9.map Fo.pl = putM cap P (xi, xg, xt, xs) from hpl7)
        have HCV9 := Lib.hid (show ∀ x ∈ C9, Vc w1 (.slice x.a x.n x.c) x.ps from fun z hz => by
          rcases hme7 z hz with h | h
          · exact HP5.out.cv z h
          · rw [h]; exact HXV.out)
        have HOF9 := Lib.hid (show ∀ q, (Value.slice na nn nc).ownBlock = some q → ¬ TB tp M F6 q ∧ q ≠ mb from fun q hq => by
          rcases hof7 q hq with h | h
          · exact ⟨HOF6.out q h, HP5.out.mo q h⟩
          · exact ⟨fun e => by have := HT6.out.tbLt q e; omega, fun e => by have := HM6.out.lt; omega⟩)
        have HSP := Lib.hid (And.intro (putM_in (cap := cap) HP5.out.srt (xi, xg, xt, xs)) (putM_perm (cap := cap) HP5.out.pm (xi, xg, xt, xs)))
        clear ho7 hpl7 hme7 hof7 hb7 hb8 HPUT
        go_upto_region 16 with (fail)
        generalize w7.alloc (.cells #[.int .i64 cap, .slice na nn nc] 70) = w8 at *
        obtain ⟨nb, hnb⟩ : ∃ b, b = w7.heap.size := ⟨_, rfl⟩
        rw [← hnb] at HN8 ⊢
        have HNBQ := Lib.hid hnb
        clear hnb
        have hm8 := HM6.out.below HB68.out
        have hst := ((Chg.refl (fun k => k = mb) w8).setCell (p := ⟨mb, 0, none⟩) (.inl rfl) (.int .i64 cap)).setCell (p := ⟨mb, 1, none⟩) (.inl rfl) (.slice na nn nc)
        have HP9 := Lib.hid (show PS6 w1 ((w8.setCell ⟨mb, 0, none⟩ (.int .i64 cap)).setCell ⟨mb, 1, none⟩ (.slice na nn nc)) tp M cap mb F6 (putP cap S (xi, xg, xt, xs)) (putM cap P (xi, xg, xt, xs)) (.slice na nn nc) C9 from
          ⟨(HT6.out.below HB68.out).var (q := mb) (show w8.heap[mb]? = some (.cells #[.int .i64 cap, .slice ma mn mc] 70 (0, 0)) from hm8) (by decide) (by decide) (by decide) (by decide) hst HP5.out.mbn, HSP.out.1, HSP.out.2, hm8.set2 cap _, HO8.out.chg hst fun q hq e => (HOF9.out q hq).2 e, HPL9.out, HCV9.out, fun q hq => (HOF9.out q hq).1, HNB6.out, HP5.out.mbn, fun q hq => (HOF9.out q hq).2⟩)
        have HA9 := Lib.hid ((HA6.out.below HB68.out).chg hst HABM.out)
        obtain ⟨n0', n1'⟩ := HN8.out.cells
        have nl' := HN8.out.lt
        obtain ⟨m0, m1⟩ := hm8.cells
        have m2 := hm8.fz 0
        have m3 := hm8.fz 1
        have ml := hm8.lt
        clear hm8 hst
        go_upto_region 23 with (fail)
        clear n0' n1' nl' m0 m1 m2 m3 ml
        generalize (w8.setCell ⟨mb, 0, none⟩ (.int .i64 cap)).setCell ⟨mb, 1, none⟩ (.slice na nn nc) = w9 at *
        obtain ⟨S9, hS9⟩ : ∃ S9, S9 = (putP cap S (xi, xg, xt, xs)) := ⟨_, rfl⟩
        obtain ⟨P9, hP9⟩ : ∃ P9, P9 = (putM cap P (xi, xg, xt, xs)) := ⟨_, rfl⟩
        rw [← hS9, ← hP9] at HP9
        rw [← hS9] at HS9
        clear hS9 hP9
        clear HO8 HB68 HN8
        obtain ⟨N, hN⟩ : ∃ N, N = mU (P9.map untilF) := ⟨_, rfl⟩
        obtain ⟨B, hB⟩ : ∃ B, B = decide (0 < P9.length) := ⟨_, rfl⟩
        have hnx := fnext HP9.out.ft (by have := HS9.out; omega) (HP9.out.pm.nodup_iff.1 (in_nodup HP9.out.srt)) HP9.out.srt HP9.out.pm
        rw [← hN, ← hB] at hnx
        have HNX := Lib.hid hnx
        have hrn := fun w' => rnext (cap := cap) (w := w') (v := .slice na nn nc) (l := C9)
        have hl9 : C9.length = P9.length := by rw [← HP9.out.pl, List.length_map]
        have hu9 : C9.map Fo.ti = P9.map untilF := by rw [← HP9.out.pl, List.map_map]; rfl
        rw [hl9, hu9, ← hN, ← hB] at hrn
        have HRN := Lib.hid hrn
        have hmn : nn = S9.length := by
          obtain ⟨_, _, _, e, e2, _⟩ := (HP9.out.own.rs (fun _ => rfl)).at_
          simp only [Value.slice.injEq] at e
          rw [e.2.1, e2, HP9.out.len]
        have HMN := Lib.hid hmn
        clear hnx hrn hl9 hu9 hN hB hmn
        go_wp2_with fail
        refine HNX.out.mono ?_
        rintro e w10 ⟨rfl, hb10⟩
        have HP10 := Lib.hid (HP9.out.on hb10)
        have HA10 := Lib.hid (HA9.out.below hb10)
        clear hb10
        obtain ⟨m0, m1⟩ := HP10.out.m.cells
        have ml := HP10.out.m.lt
        go_wp2_with fail
        refine (HRN.out w10 (HP10.out.own.rs (fun _ => rfl))).mono ?_
        rintro e w11 ⟨rfl, hb11⟩
        have HP11 := Lib.hid (HP10.out.on hb11)
        have HA11 := Lib.hid (HA10.out.below hb11)
        clear hb11 m0 m1 ml HNX HRN
        obtain ⟨z0, z1, z2, z3, z4, z5⟩ := HA11.out.cells
        have zl := HA11.out.lt
        have hb12 := ba (Below.refl w11.heap.size w11) (.cells #[.int .i64 xi, .int .i64 xg, .int .i64 xt, .slice va vn vc] 72)
        have HF12 := Lib.hid (FB.made w11 xi xg xt (.slice va vn vc))
        have HP12 := Lib.hid (HP11.out.on hb12)
        clear hb12
        go_upto_region 26 with (fail)
        clear z0 z1 z2 z3 z4 z5 zl
        generalize w11.alloc (.cells #[.int .i64 xi, .int .i64 xg, .int .i64 xt, .slice va vn vc] 72) = w12 at *
        obtain ⟨fb, hfb⟩ : ∃ b, b = w11.heap.size := ⟨_, rfl⟩
        rw [← hfb] at HF12 ⊢
        clear hfb
        obtain ⟨c0, c1, c2, c3⟩ := HF12.out.cells
        have c4 := HF12.out.lt
        obtain ⟨m0, m1⟩ := HP12.out.m.cells
        have ml := HP12.out.m.lt
        obtain ⟨bk, hbk⟩ : ∃ bk, bk = blk S9 xi xg us := ⟨_, rfl⟩
        have h1 := fun z : Ext w12 => quiet_extG z (fblocks (HP12.out.ft.below (ext_below _ z)) HI64.out.1 HI64.out.2 ((HU1.out.on HP12.out.ft.bel).on (ext_below _ z)) (by have := HUN.out; omega))
        have h2 := fun z : Ext w12 => quiet_extG z (rblocks (cap := cap) ((HP12.out.own.rs (fun _ => rfl)).below (ext_below _ z)) (fun x hx => ((HP12.out.cv x hx).on HP12.out.ft.bel).on (ext_below _ z)) HP12.out.short xi xg (.slice ua un uc) us ((HU1.out.on HP12.out.ft.bel).on (ext_below _ z)) (by have := HUN.out; omega))
        have h3 := fun z : Ext w12 => quiet_extG z ((flong (HP12.out.ft.below (ext_below _ z)).toFQ).mono fun e w' h => ⟨h.1, by rw [h.2]; exact Below.refl _ _⟩)
        rw [HP12.out.pl, blkM_eq HP12.out.pm, ← hbk] at h2
        rw [← hbk] at h1
        rw [← HMN.out] at h3
        have HC1 := Lib.hid h1; have HC2 := Lib.hid h2; have HC3 := Lib.hid h3
        clear h1 h2 h3 hbk
        go_wp2_with fail
        refine wp_region_pure (by kernel_rfl) (by kernel_rfl) ?_
        repeat (first | go_big_quiet_step (first | (go_at_call 38; with_reducible exact HC1.out _) | (go_at_call 39; with_reducible exact HC2.out _) | (go_at_call 40; with_reducible exact HC3.out _)) | (quiet_step (first | (go_at_call 38; with_reducible exact HC1.out _) | (go_at_call 39; with_reducible exact HC2.out _) | (go_at_call 40; with_reducible exact HC3.out _))))
        refine wpQuiet_nil ?_
        rintro w13 ⟨x13, hx13⟩
        have hb13 := ext_below _ x13
        rw [← hx13] at hb13
        have HP13 := Lib.hid (HP12.out.on hb13)
        clear hx13 x13 hb13 c0 c1 c2 c3 c4 m0 m1 ml HC1 HC2 HC3
        go_wp2
        go_roundw
        case rel => exact ⟨k + 1, _, _, _, _, _, by omega, by go_num, Lib.hid ⟨HP13.out, HS9.out⟩⟩
        case measure => simp [intOf]; omega
      · have hdE : dofE cap S ⟨xk, xn, ⟨xi, xg, xt, .slice va vn vc, xs⟩⟩ = (S.length : Int) - ((S.filter fun f => !unwW (whatF xk) xn f).length : Int) := by
          unfold dofE; rw [if_neg hk0, what_unw]
        have hdP : dofP cap S ⟨xk, xn, ⟨xi, xg, xt, .slice va vn vc, xs⟩⟩ = S.filter fun f => !unwW (whatF xk) xn f := by
          unfold dofP; rw [if_neg hk0, what_unw]
        rw [hdP] at HT6 HS9
        rw [hdE]
        have kb : (xk == 0) = false := by simpa using hk0
        obtain ⟨mk, ak, hmk, hak, hak3, hwh⟩ := kindw xk hk0
        have hmn : mn = S.length := by
          obtain ⟨_, _, _, e, e2, _⟩ := (HP5.out.own.rs (fun _ => rfl)).at_
          simp only [Value.slice.injEq] at e
          rw [e.2.1, e2, HP5.out.len]
        have HMN0 := Lib.hid hmn
        rw [← hmn]
        obtain ⟨D, hD⟩ : ∃ D, D = (S.filter fun f => !unwW (whatF xk) xn f).length := ⟨_, rfl⟩
        rw [← hD]
        have HD := Lib.hid hD
        have hDle : D ≤ mn := by rw [hD, hmn]; exact List.length_filter_le _ _
        have hmn9 : mn < 900000 := by rw [hmn]; omega
        have hwr : IntKind.i64.wrap ((mn : Int) - (D : Int)) = (mn : Int) - (D : Int) := IntWalk.i64_in _ (by omega)
        have HAK3 := Lib.hid hak3; have HWH := Lib.hid hwh
        have hln6 : C.length < 900000 := by rw [HP5.out.len]; omega
        have HRW := Lib.hid fun k' (hk' : k' = 1 ∨ k' = 2 ∨ k' = 3) => fun w' hr' => rwithout (w := w') (cap := cap) (v := .slice ma mn mc) (l := C) hr' hln6 hk' xn
        clear hdE hdP hmn hD hak3 hwh hln6
        obtain ⟨z0, z1, z2, z3, z4, z5⟩ := HA6.out.cells
        have zl := HA6.out.lt
        obtain ⟨m0, m1⟩ := HM6.out.cells
        have ml := HM6.out.lt
        go_wp2_with fail
        clear z0 z1 z2 z3 z4 z5 zl m0 m1 ml
        refine (HRW.out ak HAK3.out w6 (HO6.out.rs (fun _ => rfl))).mono ?_
        rintro e w7 ⟨mv9, C9, rfl, ho7, hpl7, hb7⟩
        obtain ⟨na, nn, nc, hnv⟩ : ∃ na nn nc, mv9 = .slice na nn nc := by
          rcases ho7.2 with ⟨hv, h0⟩ | ⟨g', cap', cur', hv, _⟩
          · exact ⟨_, _, _, hv⟩
          · exact ⟨_, _, _, hv⟩
        subst hnv
        have hb8 := ba (Below.refl w7.heap.size w7) (.cells #[.int .i64 cap, .slice na nn nc] 70)
        have HN8 := Lib.hid (MB6.made w7 cap (.slice na nn nc))
        have HOW7 := Lib.hid ho7
        have HB68 := Lib.hid (bt hb7 hb8)
        have HB67 := Lib.hid hb7
        have HC7 := Lib.hid hpl7
        have HM8 := Lib.hid (HM6.out.below HB68.out)
        have HA8 := Lib.hid (HA6.out.below HB68.out)
        have HB78 := Lib.hid hb8
        clear ho7 hpl7 hb7 hb8
        obtain ⟨z0, z1, z2, z3, z4, z5⟩ := HA8.out.cells
        have zl := HA8.out.lt
        go_upto_region 18 with (fail)
        clear hmk hak
        generalize w7.alloc (.cells #[.int .i64 cap, .slice na nn nc] 70) = w8 at *
        obtain ⟨nb, hnb⟩ : ∃ b, b = w7.heap.size := ⟨_, rfl⟩
        rw [← hnb] at HN8 ⊢
        have HNBQ := Lib.hid hnb
        clear hnb
        have HNB8 := Lib.hid (show w6.heap.size ≤ nb by have := HNBQ.out; have := HB67.out.size; omega)
        by_cases hneg : xk < 0
        · have kw : whatF xk = 3 := by unfold whatF; rw [if_neg (by omega), if_neg (by omega)]
          obtain ⟨m0, m1⟩ := HM8.out.cells
          have ml := HM8.out.lt
          go_wp2_with fail
          clear z0 z1 z2 z3 z4 z5 zl m0 m1 ml
          refine (HRW.out 3 (.inr (.inr rfl)) w8 ((HO6.out.below HB68.out).rs (fun _ => rfl))).mono ?_
          clear HOW7 HC7
          rintro e w7' ⟨mv9', C9, rfl, ho7, hpl7, hb7⟩
          obtain ⟨na, nn, nc, hnv⟩ : ∃ na nn nc, mv9' = .slice na nn nc := by
            rcases ho7.2 with ⟨hv, h0⟩ | ⟨g', cap', cur', hv, _⟩
            · exact ⟨_, _, _, hv⟩
            · exact ⟨_, _, _, hv⟩
          subst hnv
          have hn8 := HN8.out.below hb7
          have HN9 := Lib.hid (hn8.set2 cap (.slice na nn nc))
          have hst := ((Chg.refl (fun k => k = nb) w7').setCell (p := ⟨nb, 0, none⟩) (.inl rfl) (.int .i64 cap)).setCell (p := ⟨nb, 1, none⟩) (.inl rfl) (.slice na nn nc)
          have hsz8 := HN8.out.lt
          have HOW8 := Lib.hid (show OwnL 72 4 foenc ((w7'.setCell ⟨nb, 0, none⟩ (.int .i64 cap)).setCell ⟨nb, 1, none⟩ (.slice na nn nc)) w6.heap.size (.slice na nn nc) C9 from ownsRow_base (ho7.chg hst fun q hq e => by have := (ho7.lt q hq).1; have e : q = nb := e; omega) HB68.out.size)
          have HB68 := Lib.hid ((bt HB68.out hb7).trans (hst.below (by have := HB68.out.size; have := hb7.size; omega) fun k e => by have e : k = nb := e; rw [e]; exact HNB8.out))
          have HC8 := Lib.hid (show C9 = C.filter (fun o => !unwW (whatF xk) xn o.pl) from by rw [kw]; exact hpl7)
          obtain ⟨n0', n1'⟩ := hn8.cells
          have n2' := hn8.fz 0
          have n3' := hn8.fz 1
          have nl' := hn8.lt
          clear hn8 hst hsz8 ho7 hpl7 hb7 HM8 HA8 kw hneg
          go_upto_region 20 with (fail)
          clear n0' n1' n2' n3' nl'
          generalize (w7'.setCell ⟨nb, 0, none⟩ (.int .i64 cap)).setCell ⟨nb, 1, none⟩ (.slice na nn nc) = w8' at *
          have hnn : nn = D := by
            obtain ⟨_, _, _, e, e2, _⟩ := (HOW8.out.rs (fun _ => rfl)).at_
            simp only [Value.slice.injEq] at e
            rw [e.2.1, e2, HC8.out, HD.out]
            have h1 := congrArg (fun L : List Pf => (L.filter fun f => !unwW (whatF xk) xn f).length) HP5.out.pl
            simp only [List.filter_map, List.length_map] at h1
            rw [show (C.filter fun o => !unwW (whatF xk) xn o.pl) = C.filter ((fun f => !unwW (whatF xk) xn f) ∘ Fo.pl) from rfl, h1]
            exact (HP5.out.pm.filter _).length_eq
          subst hnn
          have HO8 := Lib.hid (show OwnL 72 4 foenc w8' w1.heap.size (.slice na nn nc) C9 from ownsRow_base HOW8.out HT6.out.bel.size)
          have HPL9 := Lib.hid (show C9.map Fo.pl = P.filter (fun f => !unwW (whatF xk) xn f) from by
            rw [HC8.out, ← HP5.out.pl, List.filter_map]; rfl)
          have HCV9 := Lib.hid (show ∀ x ∈ C9, Vc w1 (.slice x.a x.n x.c) x.ps from fun z hz => by
            rw [HC8.out] at hz
            exact HP5.out.cv z (List.mem_filter.1 hz).1)
          have HOF9 := Lib.hid (show ∀ q, (Value.slice na nn nc).ownBlock = some q → ¬ TB tp M F6 q ∧ q ≠ mb from fun q hq => by
            have h := (HOW8.out.lt q hq).1
            exact ⟨fun e => by have := HT6.out.tbLt q e; omega, fun e => by have := HM6.out.lt; omega⟩)
          have HSP := Lib.hid (And.intro (show Srt.In (fun f : Pf => f) flt (P.filter fun f => !unwW (whatF xk) xn f) from List.Pairwise.filter _ HP5.out.srt) (HP5.out.pm.filter fun f => !unwW (whatF xk) xn f))
          have hm8 := HM6.out.below HB68.out
          obtain ⟨n0', n1'⟩ := HN9.out.cells
          have nl' := HN9.out.lt
          obtain ⟨m0, m1⟩ := hm8.cells
          have ml := hm8.lt
          clear hm8
          go_upto_region 22 with (fail)
          clear n0' n1' nl' m0 m1 ml hwr
          have hm8 := HM6.out.below HB68.out
          have hst := ((Chg.refl (fun k => k = mb) w8').setCell (p := ⟨mb, 0, none⟩) (.inl rfl) (.int .i64 cap)).setCell (p := ⟨mb, 1, none⟩) (.inl rfl) (.slice na nn nc)
          have HP9 := Lib.hid (show PS6 w1 ((w8'.setCell ⟨mb, 0, none⟩ (.int .i64 cap)).setCell ⟨mb, 1, none⟩ (.slice na nn nc)) tp M cap mb F6 (S.filter fun f => !unwW (whatF xk) xn f) (P.filter fun f => !unwW (whatF xk) xn f) (.slice na nn nc) C9 from
            ⟨(HT6.out.below HB68.out).var (q := mb) (show w8'.heap[mb]? = some (.cells #[.int .i64 cap, .slice ma mn mc] 70 (0, 0)) from hm8) (by decide) (by decide) (by decide) (by decide) hst HP5.out.mbn, HSP.out.1, HSP.out.2, hm8.set2 cap _, HO8.out.chg hst fun q hq e => (HOF9.out q hq).2 e, HPL9.out, HCV9.out, fun q hq => (HOF9.out q hq).1, HNB6.out, HP5.out.mbn, fun q hq => (HOF9.out q hq).2⟩)
          have HA9 := Lib.hid ((HA6.out.below HB68.out).chg hst HABM.out)
          obtain ⟨n0', n1'⟩ := HN9.out.cells
          have nl' := HN9.out.lt
          obtain ⟨m0, m1⟩ := hm8.cells
          have m2 := hm8.fz 0
          have m3 := hm8.fz 1
          have ml := hm8.lt
          clear hm8 hst
          go_upto_region 23 with (fail)
          clear n0' n1' nl' m0 m1 m2 m3 ml
          generalize (w8'.setCell ⟨mb, 0, none⟩ (.int .i64 cap)).setCell ⟨mb, 1, none⟩ (.slice na nn nc) = w9 at *
          obtain ⟨S9, hS9⟩ : ∃ S9, S9 = (S.filter fun f => !unwW (whatF xk) xn f) := ⟨_, rfl⟩
          obtain ⟨P9, hP9⟩ : ∃ P9, P9 = (P.filter fun f => !unwW (whatF xk) xn f) := ⟨_, rfl⟩
          rw [← hS9, ← hP9] at HP9
          rw [← hS9] at HS9
          clear hS9 hP9
          obtain ⟨N, hN⟩ : ∃ N, N = mU (P9.map untilF) := ⟨_, rfl⟩
          obtain ⟨B, hB⟩ : ∃ B, B = decide (0 < P9.length) := ⟨_, rfl⟩
          have hnx := fnext HP9.out.ft (by have := HS9.out; omega) (HP9.out.pm.nodup_iff.1 (in_nodup HP9.out.srt)) HP9.out.srt HP9.out.pm
          rw [← hN, ← hB] at hnx
          have HNX := Lib.hid hnx
          have hrn := fun w' => rnext (cap := cap) (w := w') (v := .slice na nn nc) (l := C9)
          have hl9 : C9.length = P9.length := by rw [← HP9.out.pl, List.length_map]
          have hu9 : C9.map Fo.ti = P9.map untilF := by rw [← HP9.out.pl, List.map_map]; rfl
          rw [hl9, hu9, ← hN, ← hB] at hrn
          have HRN := Lib.hid hrn
          have hmn : nn = S9.length := by
            obtain ⟨_, _, _, e, e2, _⟩ := (HP9.out.own.rs (fun _ => rfl)).at_
            simp only [Value.slice.injEq] at e
            rw [e.2.1, e2, HP9.out.len]
          have HMN := Lib.hid hmn
          clear hnx hrn hl9 hu9 hN hB hmn
          go_wp2_with fail
          refine HNX.out.mono ?_
          rintro e w10 ⟨rfl, hb10⟩
          have HP10 := Lib.hid (HP9.out.on hb10)
          have HA10 := Lib.hid (HA9.out.below hb10)
          clear hb10
          obtain ⟨m0, m1⟩ := HP10.out.m.cells
          have ml := HP10.out.m.lt
          go_wp2_with fail
          refine (HRN.out w10 (HP10.out.own.rs (fun _ => rfl))).mono ?_
          rintro e w11 ⟨rfl, hb11⟩
          have HP11 := Lib.hid (HP10.out.on hb11)
          have HA11 := Lib.hid (HA10.out.below hb11)
          clear hb11 m0 m1 ml HNX HRN
          obtain ⟨z0, z1, z2, z3, z4, z5⟩ := HA11.out.cells
          have zl := HA11.out.lt
          have hb12 := ba (Below.refl w11.heap.size w11) (.cells #[.int .i64 xi, .int .i64 xg, .int .i64 xt, .slice va vn vc] 72)
          have HF12 := Lib.hid (FB.made w11 xi xg xt (.slice va vn vc))
          have HP12 := Lib.hid (HP11.out.on hb12)
          clear hb12
          go_upto_region 26 with (fail)
          clear z0 z1 z2 z3 z4 z5 zl
          generalize w11.alloc (.cells #[.int .i64 xi, .int .i64 xg, .int .i64 xt, .slice va vn vc] 72) = w12 at *
          obtain ⟨fb, hfb⟩ : ∃ b, b = w11.heap.size := ⟨_, rfl⟩
          rw [← hfb] at HF12 ⊢
          clear hfb
          obtain ⟨c0, c1, c2, c3⟩ := HF12.out.cells
          have c4 := HF12.out.lt
          obtain ⟨m0, m1⟩ := HP12.out.m.cells
          have ml := HP12.out.m.lt
          obtain ⟨bk, hbk⟩ : ∃ bk, bk = blk S9 xi xg us := ⟨_, rfl⟩
          have h1 := fun z : Ext w12 => quiet_extG z (fblocks (HP12.out.ft.below (ext_below _ z)) HI64.out.1 HI64.out.2 ((HU1.out.on HP12.out.ft.bel).on (ext_below _ z)) (by have := HUN.out; omega))
          have h2 := fun z : Ext w12 => quiet_extG z (rblocks (cap := cap) ((HP12.out.own.rs (fun _ => rfl)).below (ext_below _ z)) (fun x hx => ((HP12.out.cv x hx).on HP12.out.ft.bel).on (ext_below _ z)) HP12.out.short xi xg (.slice ua un uc) us ((HU1.out.on HP12.out.ft.bel).on (ext_below _ z)) (by have := HUN.out; omega))
          have h3 := fun z : Ext w12 => quiet_extG z ((flong (HP12.out.ft.below (ext_below _ z)).toFQ).mono fun e w' h => ⟨h.1, by rw [h.2]; exact Below.refl _ _⟩)
          rw [HP12.out.pl, blkM_eq HP12.out.pm, ← hbk] at h2
          rw [← hbk] at h1
          rw [← HMN.out] at h3
          have HC1 := Lib.hid h1; have HC2 := Lib.hid h2; have HC3 := Lib.hid h3
          clear h1 h2 h3 hbk
          go_wp2_with fail
          refine wp_region_pure (by kernel_rfl) (by kernel_rfl) ?_
          repeat (first | go_big_quiet_step (first | (go_at_call 38; with_reducible exact HC1.out _) | (go_at_call 39; with_reducible exact HC2.out _) | (go_at_call 40; with_reducible exact HC3.out _)) | (quiet_step (first | (go_at_call 38; with_reducible exact HC1.out _) | (go_at_call 39; with_reducible exact HC2.out _) | (go_at_call 40; with_reducible exact HC3.out _))))
          refine wpQuiet_nil ?_
          rintro w13 ⟨x13, hx13⟩
          have hb13 := ext_below _ x13
          rw [← hx13] at hb13
          have HP13 := Lib.hid (HP12.out.on hb13)
          clear hx13 x13 hb13 c0 c1 c2 c3 c4 m0 m1 ml HC1 HC2 HC3
          go_wp2
          go_roundw
          case rel => exact ⟨k + 1, _, _, _, _, _, by omega, by go_num, Lib.hid ⟨HP13.out, HS9.out⟩⟩
          case measure => simp [intOf]; omega
        · have kw : ak = whatF xk := HWH.out (by omega)
          have HOW8 := Lib.hid (HOW7.out.below HB78.out)
          have HC8 := Lib.hid (show C9 = C.filter (fun o => !unwW (whatF xk) xn o.pl) from by rw [← kw]; exact HC7.out)
          clear kw HOW7 HC7
          go_upto_region 20 with (fail)
          clear z0 z1 z2 z3 z4 z5 zl hneg HM8 HA8
          have hnn : nn = D := by
            obtain ⟨_, _, _, e, e2, _⟩ := (HOW8.out.rs (fun _ => rfl)).at_
            simp only [Value.slice.injEq] at e
            rw [e.2.1, e2, HC8.out, HD.out]
            have h1 := congrArg (fun L : List Pf => (L.filter fun f => !unwW (whatF xk) xn f).length) HP5.out.pl
            simp only [List.filter_map, List.length_map] at h1
            rw [show (C.filter fun o => !unwW (whatF xk) xn o.pl) = C.filter ((fun f => !unwW (whatF xk) xn f) ∘ Fo.pl) from rfl, h1]
            exact (HP5.out.pm.filter _).length_eq
          subst hnn
          have HO8 := Lib.hid (show OwnL 72 4 foenc w8 w1.heap.size (.slice na nn nc) C9 from ownsRow_base HOW8.out HT6.out.bel.size)
          have HPL9 := Lib.hid (show C9.map Fo.pl = P.filter (fun f => !unwW (whatF xk) xn f) from by
            rw [HC8.out, ← HP5.out.pl, List.filter_map]; rfl)
          have HCV9 := Lib.hid (show ∀ x ∈ C9, Vc w1 (.slice x.a x.n x.c) x.ps from fun z hz => by
            rw [HC8.out] at hz
            exact HP5.out.cv z (List.mem_filter.1 hz).1)
          have HOF9 := Lib.hid (show ∀ q, (Value.slice na nn nc).ownBlock = some q → ¬ TB tp M F6 q ∧ q ≠ mb from fun q hq => by
            have h := (HOW8.out.lt q hq).1
            exact ⟨fun e => by have := HT6.out.tbLt q e; omega, fun e => by have := HM6.out.lt; omega⟩)
          have HSP := Lib.hid (And.intro (show Srt.In (fun f : Pf => f) flt (P.filter fun f => !unwW (whatF xk) xn f) from List.Pairwise.filter _ HP5.out.srt) (HP5.out.pm.filter fun f => !unwW (whatF xk) xn f))
          have hm8 := HM6.out.below HB68.out
          obtain ⟨n0', n1'⟩ := HN8.out.cells
          have nl' := HN8.out.lt
          obtain ⟨m0, m1⟩ := hm8.cells
          have ml := hm8.lt
          clear hm8
          go_upto_region 22 with (fail)
          clear n0' n1' nl' m0 m1 ml hwr
          have hm8 := HM6.out.below HB68.out
          have hst := ((Chg.refl (fun k => k = mb) w8).setCell (p := ⟨mb, 0, none⟩) (.inl rfl) (.int .i64 cap)).setCell (p := ⟨mb, 1, none⟩) (.inl rfl) (.slice na nn nc)
          have HP9 := Lib.hid (show PS6 w1 ((w8.setCell ⟨mb, 0, none⟩ (.int .i64 cap)).setCell ⟨mb, 1, none⟩ (.slice na nn nc)) tp M cap mb F6 (S.filter fun f => !unwW (whatF xk) xn f) (P.filter fun f => !unwW (whatF xk) xn f) (.slice na nn nc) C9 from
            ⟨(HT6.out.below HB68.out).var (q := mb) (show w8.heap[mb]? = some (.cells #[.int .i64 cap, .slice ma mn mc] 70 (0, 0)) from hm8) (by decide) (by decide) (by decide) (by decide) hst HP5.out.mbn, HSP.out.1, HSP.out.2, hm8.set2 cap _, HO8.out.chg hst fun q hq e => (HOF9.out q hq).2 e, HPL9.out, HCV9.out, fun q hq => (HOF9.out q hq).1, HNB6.out, HP5.out.mbn, fun q hq => (HOF9.out q hq).2⟩)
          have HA9 := Lib.hid ((HA6.out.below HB68.out).chg hst HABM.out)
          obtain ⟨n0', n1'⟩ := HN8.out.cells
          have nl' := HN8.out.lt
          obtain ⟨m0, m1⟩ := hm8.cells
          have m2 := hm8.fz 0
          have m3 := hm8.fz 1
          have ml := hm8.lt
          clear hm8 hst
          go_upto_region 23 with (fail)
          clear n0' n1' nl' m0 m1 m2 m3 ml
          generalize (w8.setCell ⟨mb, 0, none⟩ (.int .i64 cap)).setCell ⟨mb, 1, none⟩ (.slice na nn nc) = w9 at *
          obtain ⟨S9, hS9⟩ : ∃ S9, S9 = (S.filter fun f => !unwW (whatF xk) xn f) := ⟨_, rfl⟩
          obtain ⟨P9, hP9⟩ : ∃ P9, P9 = (P.filter fun f => !unwW (whatF xk) xn f) := ⟨_, rfl⟩
          rw [← hS9, ← hP9] at HP9
          rw [← hS9] at HS9
          clear hS9 hP9
          obtain ⟨N, hN⟩ : ∃ N, N = mU (P9.map untilF) := ⟨_, rfl⟩
          obtain ⟨B, hB⟩ : ∃ B, B = decide (0 < P9.length) := ⟨_, rfl⟩
          have hnx := fnext HP9.out.ft (by have := HS9.out; omega) (HP9.out.pm.nodup_iff.1 (in_nodup HP9.out.srt)) HP9.out.srt HP9.out.pm
          rw [← hN, ← hB] at hnx
          have HNX := Lib.hid hnx
          have hrn := fun w' => rnext (cap := cap) (w := w') (v := .slice na nn nc) (l := C9)
          have hl9 : C9.length = P9.length := by rw [← HP9.out.pl, List.length_map]
          have hu9 : C9.map Fo.ti = P9.map untilF := by rw [← HP9.out.pl, List.map_map]; rfl
          rw [hl9, hu9, ← hN, ← hB] at hrn
          have HRN := Lib.hid hrn
          have hmn : nn = S9.length := by
            obtain ⟨_, _, _, e, e2, _⟩ := (HP9.out.own.rs (fun _ => rfl)).at_
            simp only [Value.slice.injEq] at e
            rw [e.2.1, e2, HP9.out.len]
          have HMN := Lib.hid hmn
          clear hnx hrn hl9 hu9 hN hB hmn
          go_wp2_with fail
          refine HNX.out.mono ?_
          rintro e w10 ⟨rfl, hb10⟩
          have HP10 := Lib.hid (HP9.out.on hb10)
          have HA10 := Lib.hid (HA9.out.below hb10)
          clear hb10
          obtain ⟨m0, m1⟩ := HP10.out.m.cells
          have ml := HP10.out.m.lt
          go_wp2_with fail
          refine (HRN.out w10 (HP10.out.own.rs (fun _ => rfl))).mono ?_
          rintro e w11 ⟨rfl, hb11⟩
          have HP11 := Lib.hid (HP10.out.on hb11)
          have HA11 := Lib.hid (HA10.out.below hb11)
          clear hb11 m0 m1 ml HNX HRN
          obtain ⟨z0, z1, z2, z3, z4, z5⟩ := HA11.out.cells
          have zl := HA11.out.lt
          have hb12 := ba (Below.refl w11.heap.size w11) (.cells #[.int .i64 xi, .int .i64 xg, .int .i64 xt, .slice va vn vc] 72)
          have HF12 := Lib.hid (FB.made w11 xi xg xt (.slice va vn vc))
          have HP12 := Lib.hid (HP11.out.on hb12)
          clear hb12
          go_upto_region 26 with (fail)
          clear z0 z1 z2 z3 z4 z5 zl
          generalize w11.alloc (.cells #[.int .i64 xi, .int .i64 xg, .int .i64 xt, .slice va vn vc] 72) = w12 at *
          obtain ⟨fb, hfb⟩ : ∃ b, b = w11.heap.size := ⟨_, rfl⟩
          rw [← hfb] at HF12 ⊢
          clear hfb
          obtain ⟨c0, c1, c2, c3⟩ := HF12.out.cells
          have c4 := HF12.out.lt
          obtain ⟨m0, m1⟩ := HP12.out.m.cells
          have ml := HP12.out.m.lt
          obtain ⟨bk, hbk⟩ : ∃ bk, bk = blk S9 xi xg us := ⟨_, rfl⟩
          have h1 := fun z : Ext w12 => quiet_extG z (fblocks (HP12.out.ft.below (ext_below _ z)) HI64.out.1 HI64.out.2 ((HU1.out.on HP12.out.ft.bel).on (ext_below _ z)) (by have := HUN.out; omega))
          have h2 := fun z : Ext w12 => quiet_extG z (rblocks (cap := cap) ((HP12.out.own.rs (fun _ => rfl)).below (ext_below _ z)) (fun x hx => ((HP12.out.cv x hx).on HP12.out.ft.bel).on (ext_below _ z)) HP12.out.short xi xg (.slice ua un uc) us ((HU1.out.on HP12.out.ft.bel).on (ext_below _ z)) (by have := HUN.out; omega))
          have h3 := fun z : Ext w12 => quiet_extG z ((flong (HP12.out.ft.below (ext_below _ z)).toFQ).mono fun e w' h => ⟨h.1, by rw [h.2]; exact Below.refl _ _⟩)
          rw [HP12.out.pl, blkM_eq HP12.out.pm, ← hbk] at h2
          rw [← hbk] at h1
          rw [← HMN.out] at h3
          have HC1 := Lib.hid h1; have HC2 := Lib.hid h2; have HC3 := Lib.hid h3
          clear h1 h2 h3 hbk
          go_wp2_with fail
          refine wp_region_pure (by kernel_rfl) (by kernel_rfl) ?_
          repeat (first | go_big_quiet_step (first | (go_at_call 38; with_reducible exact HC1.out _) | (go_at_call 39; with_reducible exact HC2.out _) | (go_at_call 40; with_reducible exact HC3.out _)) | (quiet_step (first | (go_at_call 38; with_reducible exact HC1.out _) | (go_at_call 39; with_reducible exact HC2.out _) | (go_at_call 40; with_reducible exact HC3.out _))))
          refine wpQuiet_nil ?_
          rintro w13 ⟨x13, hx13⟩
          have hb13 := ext_below _ x13
          rw [← hx13] at hb13
          have HP13 := Lib.hid (HP12.out.on hb13)
          clear hx13 x13 hb13 c0 c1 c2 c3 c4 m0 m1 ml HC1 HC2 HC3
          go_wp2
          go_roundw
          case rel => exact ⟨k + 1, _, _, _, _, _, by omega, by go_num, Lib.hid ⟨HP13.out, HS9.out⟩⟩
          case measure => simp [intOf]; omega
    · obtain rfl : n = k := by omega
      obtain ⟨m0, m1⟩ := HP4.out.m.cells
      have ml := HP4.out.m.lt
      go_wp2_with fail
      refine Mix.regionC (fun _ => False) (by kernel_rfl) ?_
      intro w30 hb30
      refine Mix.take_exC _ _ 0 rfl (by kernel_rfl) (by kernel_rfl) (by kernel_rfl) (by kernel_rfl) (fun K hK => ?_)
      go_simp
      first | (refine hK _ ?_; clear hK K) | (apply Exists.intro; refine ⟨fun x => ?_, hK _ ?_⟩; (fail); clear hK K)
      refine Mix.take_exC _ _ 2 rfl (by kernel_rfl) (by kernel_rfl) (by kernel_rfl) (by kernel_rfl) (fun K hK => ?_)
      go_simp
      first | (refine hK _ ?_; clear hK K) | (apply Exists.intro; refine ⟨fun x => ?_, hK _ ?_⟩; (fail); clear hK K)
      refine Mix.take_exC _ _ 3 rfl (by kernel_rfl) (by kernel_rfl) (by kernel_rfl) (by kernel_rfl) (fun K hK => ?_)
      go_simp
      first | (refine hK _ ?_; clear hK K) | (apply Exists.intro; refine ⟨fun x => ?_, hK _ ?_⟩; (fail); clear hK K)
      refine Mix.all (rs := [1]) (by kernel_rfl) (by simp) (.of_below _ hb30) ?_
      intro i31 hi31 w31 hb31 hC31
      simp only [List.mem_cons, List.not_mem_nil, or_false] at hi31
      subst hi31
      have HB31 := Lib.hid (bt hb30 hb31)
      clear hC31 hb30 hb31
      refine Mix.op rfl (by kernel_rfl) ?_
      go_simp
      refine (fall (HP4.out.ft.below HB31.out) (by omega) (HP4.out.pm.nodup_iff.1 (in_nodup HP4.out.srt))).mono ?_
      rintro e w32 ⟨va2, la2, rfl, hr2, hv2, hin2, hpm2, -, hb32⟩
      refine ⟨_, rfl, ?_⟩
      have HB32 := Lib.hid (bt HB31.out hb32)
      have HL2 := Lib.hid (show RS 4 flenc w32 va2 la2 ∧ (∀ x ∈ la2, Vc w32 x.vv x.ps) ∧ la2.map Fl.pl = C.map Fo.pl from
        ⟨hr2, fun x hx => (hv2 x hx).vc, by rw [HP4.out.pl]; exact Srt.In.ext ordF hin2 HP4.out.srt fun z => by rw [hpm2.mem_iff, HP4.out.pm.mem_iff]⟩)
      have HLX := Lib.hid (show ∀ x ∈ la2, x.ps.length < 1000000000 from fun x hx => by
        have h1 : x.pl ∈ S := hpm2.subset (List.mem_map.2 ⟨x, hx, rfl⟩)
        exact Nat.lt_of_le_of_lt (vr_len (HP4.out.ft.ok _ h1).vr) (by decide))
      clear hr2 hv2 hin2 hpm2 hb32
      refine Mix.all (rs := [4]) (by kernel_rfl) (by simp) (.of_below _ HB32.out) ?_
      intro i33 hi33 w33 hb33 hC33
      simp only [List.mem_cons, List.not_mem_nil, or_false] at hi33
      subst hi33
      have HB33 := Lib.hid (bt HB32.out hb33)
      have HSM := Lib.hid (rsameL (HL2.out.1.below hb33) (fun x hx => (HL2.out.2.1 x hx).on hb33) ((HP4.out.own.below HB33.out).rs (fun _ => rfl)) (fun x hx => (HP4.out.cv x hx).on (HP4.out.on HB33.out).ft.bel) HL2.out.2.2 HLX.out)
      clear hC33 hb33
      refine Mix.op rfl (by kernel_rfl) ?_
      go_simp
      refine HSM.out.mono ?_
      rintro e w34 ⟨rfl, hb34⟩
      refine ⟨_, rfl, ?_⟩
      have HB34 := Lib.hid (bt HB33.out hb34)
      clear hb34
      refine Mix.take_exC _ _ 5 rfl (by kernel_rfl) (by kernel_rfl) (by kernel_rfl) (by kernel_rfl) (fun K hK => ?_)
      go_simp
      first | (refine hK _ ?_; clear hK K) | (apply Exists.intro; refine ⟨fun x => ?_, hK _ ?_⟩; (fail); clear hK K)
      refine Mix.take_exC _ _ 6 rfl (by kernel_rfl) (by kernel_rfl) (by kernel_rfl) (by kernel_rfl) (fun K hK => ?_)
      go_simp
      first | (refine hK _ ?_; clear hK K) | (apply Exists.intro; refine ⟨fun x => ?_, hK _ ?_⟩; (exact works26 _); clear hK K)
      refine Mix.take_exC _ _ 7 rfl (by kernel_rfl) (by kernel_rfl) (by kernel_rfl) (by kernel_rfl) (fun K hK => ?_)
      go_simp
      first | (refine hK _ ?_; clear hK K) | (apply Exists.intro; refine ⟨fun x => ?_, hK _ ?_⟩; (fail); clear hK K)
      refine Mix.take_exC _ _ 8 rfl (by kernel_rfl) (by kernel_rfl) (by kernel_rfl) (by kernel_rfl) (fun K hK => ?_)
      go_simp
      first | (refine hK _ ?_; clear hK K) | (apply Exists.intro; refine ⟨fun x => ?_, hK _ ?_⟩; (fail); clear hK K)
      refine Mix.done (by kernel_rfl) (.of_below _ HB34.out) ?_
      intro w36 hb36
      have HB36 := Lib.hid (bt HB34.out hb36)
      clear hb36 m0 m1 ml
      go_wp2
      go_ret
      exact ⟨rfl, HB1.out.trans ((HP4.out.ft.bel.trans (HB36.out.mono HP4.out.ft.bel.size)).mono HB1.out.size)⟩
end Go.Proofs.Ytennhfkhdfalfaa

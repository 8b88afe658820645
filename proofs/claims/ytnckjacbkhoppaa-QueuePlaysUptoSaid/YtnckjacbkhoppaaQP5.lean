/- manciplelaw28.QueuePlays, where what came in is short enough to be counted. -/
import Derived.Test.YtnckjacbkhoppaaQP4
import Derived.Test.YtnckjacbkhoppaaQ6
import Derived.Test.YtnckjacbkhoppaaQ7
namespace Go.Proofs.Ytnckjacbkhoppaa
open Go.RowKit Go.Maps
attribute [local go_sem] ext_cell ext_frozen extC_cell extC_frozen Mix.calmUpon Mix.mUpon
section
variable {W w : World} {qp M : Nat} {most : Int} {N L : Nat} {v : Value} {S : List On} {F V : Nat → Prop}
theorem JS.vn (h : JS W w qp M most N L v S F V) {o : On} (ho : o ∈ S) : o.vn = o.l.length := by
  obtain ⟨a, n, c, he, hn, -, -, -⟩ := (h.ml.ev o ho).rs.at_
  cases he
  exact hn
theorem JS.find (h : JS W w qp M most N L v S F V) {o : On} (ho : o ∈ S) : fndP (S.map On.pl) o.frame = some o.pl := by
  rw [plo_fnd, show fndO S o.frame = some o from Srt.In.fnd h.ml.srt ho]; rfl
theorem JS.long (h : JS W w qp M most N L v S F V) {o : On} (ho : o ∈ S) : Calls Try.prog 70 #[ptr qp, .int .i64 o.frame] w fun e w' => e = .returned (.int .i64 (o.vn : Nat)) ∧ Below w.heap.size w w' := by
  have h1 := qlong h.qt (h.i64 o ho)
  rw [h.find ho] at h1
  have h2 : (((some o.pl).map fun x : Pq => x.evs.length).getD 0) = o.vn := by
    rw [h.vn ho]; show (o.l.map Ev.pl).length = _; rw [List.length_map]
  rw [h2] at h1
  exact h1
theorem JS.lost (h : JS W w qp M most N L v S F V) {o : On} (ho : o ∈ S) : Calls Try.prog 71 #[ptr qp, .int .i64 o.frame] w fun e w' => e = .returned (.int .i64 o.lost) ∧ Below w.heap.size w w' := by
  have h1 := qlost h.qt (h.i64 o ho)
  rw [h.find ho] at h1
  exact h1
end
set_option maxRecDepth 100000 in
set_option maxHeartbeats 8000000 in
theorem qplays28 (most : Int) (v1 : Value) (l : List Ac) (W : World) (hr : RS 4 acenc W v1 l) (ha : ∀ x ∈ l, AOk W x) (hl : l.length < 1000000000) (hs : (l.map aW).sum < 1000000000) (hmo : I64 most) :
    Calls Try.prog 12 #[.int .i64 most, v1] W fun e W' => e = .returned (.bool true) ∧ Below W.heap.size W W' := by
  have HFW := Lib.hid (few28 v1 l W hr ha hl hs)
  obtain ⟨a, n, cp, rfl, hn, hc, hm, hat⟩ := hr.at_
  by_cases hq : l.length ≤ 100 ∧ (l.map aW).sum ≤ 600
  case neg =>
    have h1 := HFW.out
    rw [decide_eq_false hq] at h1
    have H1 := Lib.hid h1
    clear hat hr ha hl hs hn h1 HFW
    go_enter Try.func12, Try.ntmps12
    go_wp2_with fail
    refine H1.out.mono ?_
    rintro e w1 ⟨rfl, rfl⟩
    go_wp2
    go_ret
    exact ⟨rfl, Below.refl _ _⟩
  have h1 := HFW.out
  rw [decide_eq_true hq] at h1
  have H1 := Lib.hid h1
  have HQ := Lib.hid hq
  have HA := Lib.hid ha; have HAT := Lib.hid hat; have HN := Lib.hid hn; have HMO := Lib.hid hmo
  have hn100 : n ≤ 100 := by omega
  clear hat hr ha hl hs hn h1 HFW hq hmo hm
  by_cases hcp : most < 1
  · go_enter Try.func12, Try.ntmps12
    go_wp2_with fail
    refine H1.out.mono ?_
    rintro e w1 ⟨rfl, rfl⟩
    go_wp2_with fail
    refine (qnew_none w1 hcp).mono ?_
    rintro e w2 ⟨rfl, rfl⟩
    go_wp2_with fail
    refine (works28 _).mono ?_
    rintro e w3 ⟨rfl, hb3⟩
    go_wp2
    go_ret
    exact ⟨rfl, hb3⟩
  have hcap1 : 1 ≤ most := by omega
  go_enter Try.func12, Try.ntmps12
  go_wp2_with fail
  refine H1.out.mono ?_
  rintro e w0 ⟨rfl, rfl⟩
  go_wp2_with fail
  refine (qnew w0 hcap1).mono ?_
  rintro e w1 ⟨rfl, h1, hb1⟩
  have hs1 : w1.heap.size < (w1.alloc (.cells #[.int .i64 most, .slice none 0 0] 123)).heap.size := by simp
  have hs0 := hb1.size
  have HI := Lib.hid (show PN w0 (w1.alloc (.cells #[.int .i64 most, .slice none 0 0] 123)) (w0.heap.size + 1) w0.heap.size w1.heap.size most 0 0 (.slice none 0 0) (.slice none 0 0) [] (fun k => k = w0.heap.size) (fun k => k = w0.heap.size + 1) from
    ⟨(JS.start h1 hb1).below (ba (Below.refl _ _) _), MB.made w1 most _, ⟨fun b hb => (by cases hb), fun o ho => (by cases ho)⟩, hs0, fun e => by have := (h1.fb.1 _ e).2.1; omega, fun e => by have := (h1.fb.2 _ e).2; omega⟩)
  clear h1 hb1 hs0
  obtain ⟨qp, hqp⟩ : ∃ qp, qp = w0.heap.size + 1 := ⟨_, rfl⟩
  obtain ⟨M, hM⟩ : ∃ M, M = w0.heap.size := ⟨_, rfl⟩
  rw [← hqp] at HI ⊢
  have HI0 := Lib.hid (show ∃ F V, PN w0 (w1.alloc (.cells #[.int .i64 most, .slice none 0 0] 123)) qp M w1.heap.size most 0 0 (.slice none 0 0) (.slice none 0 0) [] F V from ⟨_, _, by rw [hM]; exact HI.out⟩)
  clear hqp hM HI
  go_wp2
  generalize w1.alloc (.cells #[.int .i64 most, .slice none 0 0] 123) = w2 at *
  generalize w1.heap.size = bm at *
  obtain ⟨F0, V0, hI0⟩ := HI0.out
  have HI := Lib.hid hI0
  clear hI0 HI0
  go_loopw [7] (fun iv wr => ∃ (t N : Nat) (v : Value) (S : List On) (F V : Nat → Prop), t ≤ n ∧ iv = .int .i64 t ∧ Hid (N = ((l.take t).map aL).sum) ∧ Hid (PN w0 wr qp M bm most N t v v S F V)) (fun iv _ => n - (intOf iv).toNat)
  case atStart => exact ⟨0, 0, _, [], F0, V0, Nat.zero_le _, rfl, Lib.hid rfl, HI⟩
  case round =>
    clear HI hs1
    obtain ⟨t, N, v, S, F, V, ht, rfl, HNT0, HP⟩ := hrel
    obtain ⟨w2, rfl⟩ : ∃ w2, w2 = wr := ⟨_, rfl⟩
    by_cases hlt : t < n
    · have hts : (t : Int) < (n : Int) := by omega
      obtain ⟨ao, mo, co, rfl, -, -, -, -⟩ := HP.out.js.ml.rs.at_
      obtain ⟨x, hx⟩ := at_lt (l := l) (i := t) (by rw [← HN.out]; exact hlt)
      obtain ⟨b, off, rfl, hb, hcell⟩ := HAT.out t x hx
      have hNT : N + aL x = ((l.take (t + 1)).map aL).sum := by rw [take_sum hx, HNT0.out]
      have HNT := Lib.hid hNT
      have hN6 : N + aL x ≤ 600 := by
        have h1 := sum_take_le l aL (t + 1); have h2 := lens_le l; have h3 := HQ.out.2; omega
      have HACT := Lib.hid (fun w' (hb' : Below w2.heap.size w2 w') => PN.act HP.out hb' (by omega) x (HA.out x (mem_at hx)) (fun y hy => by have h1 := vec_le (mem_at hx) hy; have h2 := HQ.out.2; omega) (by have h9 : x.l.length = aL x := rfl; omega) hcap1)
      have hxl : x.l.length = aL x := rfl
      rw [hxl] at HACT
      generalize aL x = ln at *
      obtain ⟨x0, x1, x2, xa, xn, xc, xl⟩ := x
      have HCX := Lib.hid hcell
      have HBB := Lib.hid hb
      have e0 := (HP.out.js.bel.cell (p := ⟨b, off + t * 4 + 0, none⟩) hb).trans (hcell 0 _ rfl)
      have e1 := (HP.out.js.bel.cell (p := ⟨b, off + t * 4 + 1, none⟩) hb).trans (hcell 1 _ rfl)
      have e2 := (HP.out.js.bel.cell (p := ⟨b, off + t * 4 + 2, none⟩) hb).trans (hcell 2 _ rfl)
      have e3 := (HP.out.js.bel.cell (p := ⟨b, off + t * 4 + 3, none⟩) hb).trans (hcell 3 _ rfl)
      simp only [Nat.add_zero] at e0 e1 e2 e3
      have qs : b < w2.heap.size := Nat.lt_of_lt_of_le hb HP.out.js.bel.size
      obtain ⟨y0, y1⟩ := HP.out.mb.cells
      have q3 := HP.out.mb.lt
      have nfb : ¬ F b := fun e => by have := (HP.out.js.qt.fb.1 b e).1; omega
      have nfm : ¬ F bm := HP.out.nf.2.1
      have HFS := Lib.hid (show ∀ k, F k → k < w2.heap.size from fun k e => (HP.out.js.qt.fb.1 k e).2.1)
      clear hcell hx hb hNT hxl
      go_wp2
      refine Mix.regionC F (by kernel_rfl) ?_
      intro w3 hb3
      refine Mix.take_exC _ _ 0 rfl (by kernel_rfl) (by kernel_rfl) (by kernel_rfl) (by kernel_rfl) (fun K hK => ?_)
      go_simp
      first | (refine hK _ ?_; clear hK K) | (apply Exists.intro; refine ⟨fun x => ?_, hK _ ?_⟩; (fail); clear hK K)
      refine Mix.take_exC _ _ 1 rfl (by kernel_rfl) (by kernel_rfl) (by kernel_rfl) (by kernel_rfl) (fun K hK => ?_)
      go_simp
      first | (refine hK _ ?_; clear hK K) | (apply Exists.intro; refine ⟨fun x => ?_, hK _ ?_⟩; (fail); clear hK K)
      refine Mix.take_exC _ _ 2 rfl (by kernel_rfl) (by kernel_rfl) (by kernel_rfl) (by kernel_rfl) (fun K hK => ?_)
      go_simp
      first | (refine hK _ ?_; clear hK K) | (apply Exists.intro; refine ⟨fun x => ?_, hK _ ?_⟩; (fail); clear hK K)
      refine Mix.take_exC _ _ 3 rfl (by kernel_rfl) (by kernel_rfl) (by kernel_rfl) (by kernel_rfl) (fun K hK => ?_)
      go_simp
      first | (refine hK _ ?_; clear hK K) | (apply Exists.intro; refine ⟨fun x => ?_, hK _ ?_⟩; (fail); clear hK K)
      refine Mix.take_exC _ _ 4 rfl (by kernel_rfl) (by kernel_rfl) (by kernel_rfl) (by kernel_rfl) (fun K hK => ?_)
      go_simp
      first | (refine hK _ ?_; clear hK K) | (apply Exists.intro; refine ⟨fun x => ?_, hK _ ?_⟩; (fail); clear hK K)
      refine Mix.take_exC _ _ 5 rfl (by kernel_rfl) (by kernel_rfl) (by kernel_rfl) (by kernel_rfl) (fun K hK => ?_)
      go_simp
      first | (refine hK _ ?_; clear hK K) | (apply Exists.intro; refine ⟨fun x => ?_, hK _ ?_⟩; (fail); clear hK K)
      refine Mix.all (rs := [6, 10]) (by kernel_rfl) (by simp) (.of_below _ hb3) ?_
      intro i4 hi4 w4 hb4 hC4
      simp only [List.mem_cons, List.not_mem_nil, or_false] at hi4
      rcases hi4 with rfl | rfl
      · have HB4 := Lib.hid (bt hb3 hb4)
        clear hb3 hb4 hC4
        refine Mix.op rfl (by kernel_rfl) ?_
        go_simp
        refine (HACT.out w4 HB4.out).mono ?_
        rintro e w5 ⟨v5, S', F', V', rfl, hp5, hc5, -⟩
        refine ⟨_, rfl, ?_⟩
        obtain ⟨a5, n5, c5, rfl, -, -, -, -⟩ := hp5.js.ml.rs.at_
        have HP5 := Lib.hid hp5
        have HC5 := Lib.hid ((Chg.of_below F HB4.out).same hc5)
        clear hp5 hc5
        refine Mix.take_exC _ _ 7 rfl (by kernel_rfl) (by kernel_rfl) (by kernel_rfl) (by kernel_rfl) (fun K hK => ?_)
        go_simp
        first | (refine hK _ ?_; clear hK K) | (apply Exists.intro; refine ⟨fun x => ?_, hK _ ?_⟩; (fail); clear hK K)
        refine Mix.take_exC _ _ 8 rfl (by kernel_rfl) (by kernel_rfl) (by kernel_rfl) (by kernel_rfl) (fun K hK => ?_)
        go_simp
        first | (refine hK _ ?_; clear hK K) | (apply Exists.intro; refine ⟨fun x => ?_, hK _ ?_⟩; (fail); clear hK K)
        refine Mix.take_exC _ _ 9 rfl (by kernel_rfl) (by kernel_rfl) (by kernel_rfl) (by kernel_rfl) (fun K hK => ?_)
        go_simp
        first | (refine hK _ ?_; clear hK K) | (apply Exists.intro; refine ⟨fun x => ?_, hK _ ?_⟩; (fail); clear hK K)
        refine Mix.all (rs := [10]) (by kernel_rfl) (by simp) (HC5.out) ?_
        intro i6 hi6 w6 hb6 hC6
        simp only [List.mem_cons, List.not_mem_nil, or_false] at hi6
        subst hi6
        have HP6 := Lib.hid (HP5.out.on hb6)
        have HC6 := Lib.hid (HC5.out.then_below hb6)
        clear hC6 hb6
        refine Mix.op rfl (by kernel_rfl) ?_
        go_simp
        have HB67 := Lib.hid (ba (Below.refl w6.heap.size w6) (.cells #[.int .i64 0, .slice none 0 0] 123))
        have HM60 := Lib.hid (MB.made w6 0 (.slice none 0 0))
        obtain ⟨b10, hb10⟩ : ∃ b10, b10 = w6.heap.size := ⟨_, rfl⟩
        have HFR := Lib.hid (show FR w0 bm (.slice a5 n5 c5) S' F' V' b10 from HP6.out.new (by omega))
        have HG10 := Lib.hid (show w2.heap.size ≤ b10 by rw [hb10]; exact HC6.out.size)
        rw [← hb10] at HM60 ⊢
        clear hb10
        generalize w6.alloc (.cells #[.int .i64 0, .slice none 0 0] 123) = w60 at *
        refine Mix.all (rs := [11]) (by kernel_rfl) (by simp) (HC6.out.then_below HB67.out) ?_
        intro i7 hi7 w7 hb7 hC7
        simp only [List.mem_cons, List.not_mem_nil, or_false] at hi7
        subst hi7
        have HP7 := Lib.hid (HP6.out.on (bt HB67.out hb7))
        have HC7 := Lib.hid (HC6.out.then_below (bt HB67.out hb7))
        have HM7 := Lib.hid (HM60.out.below hb7)
        clear hC7 hb7
        obtain ⟨m0, m1⟩ := HM7.out.cells
        have m2 := HM7.out.fz 0; have m3 := HM7.out.fz 1
        have m4 := HM7.out.lt
        refine Mix.op rfl (by kernel_rfl) ?_
        go_simp
        have HX8 := Lib.hid (HM7.out.set2 most (.slice a5 n5 c5))
        have HST := Lib.hid (show Chg (fun k => k = b10) w7 ((w7.setCell ⟨b10, 0, none⟩ (.int .i64 most)).setCell ⟨b10, 1, none⟩ (.slice a5 n5 c5)) from ((Chg.refl (fun k => k = b10) w7).setCell (p := ⟨b10, 0, none⟩) (.inl rfl) _).setCell (p := ⟨b10, 1, none⟩) (.inl rfl) _)
        clear m0 m1 m2 m3 m4
        generalize (w7.setCell ⟨b10, 0, none⟩ (.int .i64 most)).setCell ⟨b10, 1, none⟩ (.slice a5 n5 c5) = w8 at *
        have HP8 := Lib.hid (HP7.out.other HFR.out (fun k e => e) HST.out)
        refine Mix.take_exC _ _ 12 rfl (by kernel_rfl) (by kernel_rfl) (by kernel_rfl) (by kernel_rfl) (fun K hK => ?_)
        go_simp
        first | (refine hK _ ?_; clear hK K) | (apply Exists.intro; refine ⟨fun x => ?_, hK _ ?_⟩; (fail); clear hK K)
        refine Mix.done (by kernel_rfl) (HC7.out.trans HST.out fun k e => .inr (by have e : k = b10 := e; have := HG10.out; omega)) ?_
        intro w9 hb9
        have HP9 := Lib.hid (HP8.out.on hb9)
        have HX9 := Lib.hid (HX8.out.below hb9)
        clear hb9 e0 e1 e2 e3 qs y0 y1 q3 nfb nfm
        obtain ⟨g0, g1⟩ := HX9.out.cells
        have g3 := HX9.out.lt
        obtain ⟨y0, y1⟩ := HP9.out.mb.cells
        have y2 := HP9.out.mb.fz 0; have y3 := HP9.out.mb.fz 1
        have q3 := HP9.out.mb.lt
        have HP11 := Lib.hid HP9.out.store
        go_wp2_with fail
        clear y0 y1 y2 y3 q3 g0 g1 g3
        generalize (w9.setCell ⟨bm, 0, none⟩ (.int .i64 most)).setCell ⟨bm, 1, none⟩ (.slice a5 n5 c5) = w11 at *
        refine (qthose HP11.out.js.qt (by rw [List.length_map]; have := HP11.out.js.len; omega)).mono ?_
        rintro e w12 ⟨u, rfl, hu, -, hb12⟩
        have HP12 := Lib.hid (HP11.out.on hb12)
        obtain ⟨ua, un, uc, rfl, hun, -, -, hat12⟩ := hu.at_
        obtain ⟨a5', n5', c5', hv5, hn5, -, -, hat5⟩ := HP12.out.js.ml.rs.at_
        cases hv5
        rw [List.map_map, List.length_map] at hun
        obtain rfl : un = n5 := by omega
        have HU := Lib.hid hat12; have HA5 := Lib.hid hat5; have HN5 := Lib.hid hn5
        have hn52 : un < 800000 := by have := HP12.out.js.len; omega
        clear hu hb12 hat12 hat5 hn5 hun
        obtain ⟨y0, y1⟩ := HP12.out.mb.cells
        have q3 := HP12.out.mb.lt
        go_wp2
        clear y0 y1 q3
        go_loopw [11] (fun iv wr => ∃ k : Nat, k ≤ un ∧ iv = .int .i64 k ∧ Hid (Below w12.heap.size w12 wr)) (fun iv _ => un - (intOf iv).toNat)
        case atStart => exact ⟨0, Nat.zero_le _, rfl, Lib.hid (Below.refl _ _)⟩
        case round =>
          obtain ⟨k, hk, rfl, HB13⟩ := hrel
          obtain ⟨w13, rfl⟩ : ∃ w13, w13 = wr := ⟨_, rfl⟩
          have HP13 := Lib.hid (HP12.out.on HB13.out)
          obtain ⟨y0, y1⟩ := HP13.out.mb.cells
          have q3 := HP13.out.mb.lt
          by_cases hlk : k < un
          · have hks : (k : Int) < (un : Int) := by omega
            obtain ⟨o, ho⟩ := at_lt (l := S') (i := k) (by rw [← HN5.out]; exact hlk)
            obtain ⟨b5, off5, hp5, hb5, hcell5⟩ := HA5.out k o ho
            subst hp5
            have hu1 : ((S'.map On.pl).map Pq.frame)[k]? = some o.frame := by rw [List.map_map, List.getElem?_map, ho]; rfl
            obtain ⟨b6, off6, hp6, hb6, hcell6⟩ := HU.out k o.frame hu1
            subst hp6
            have e0 := (HB13.out.cell (p := ⟨b5, off5 + k * 3 + 0, none⟩) hb5).trans (hcell5 0 _ rfl)
            have e1 := (HB13.out.cell (p := ⟨b5, off5 + k * 3 + 1, none⟩) hb5).trans (hcell5 1 _ rfl)
            have e2 := (HB13.out.cell (p := ⟨b5, off5 + k * 3 + 2, none⟩) hb5).trans (hcell5 2 _ rfl)
            have f0 := hcell6 0 _ rfl
            simp only [Nat.add_zero, Nat.mul_one] at e0 f0
            have qs : b5 < w13.heap.size := Nat.lt_of_lt_of_le hb5 HB13.out.size
            have HF0 := Lib.hid (And.intro hb6 f0)
            have HOM := Lib.hid (mem_at ho)
            have HB14 := Lib.hid (bt HB13.out (ba (Below.refl _ _) (.cells #[.int .i64 o.frame, .slice o.va o.vn o.vc, .int .i64 o.lost] 130)))
            have HO14 := Lib.hid (OB1.made w13 o)
            have hs14 : w13.heap.size < (w13.alloc (.cells #[.int .i64 o.frame, .slice o.va o.vn o.vc, .int .i64 o.lost] 130)).heap.size := by simp
            clear ho hu1 hcell5 hcell6 hb5 hb6 f0
            go_wp2
            generalize w13.alloc (.cells #[.int .i64 o.frame, .slice o.va o.vn o.vc, .int .i64 o.lost] 130) = w14 at *
            clear e0 e1 e2 qs y0 y1 q3
            generalize w13.heap.size = b14 at *
            have f0 := (HB14.out.cell (p := ⟨b6, off6 + k, none⟩) HF0.out.1).trans HF0.out.2
            have qf : b6 < w14.heap.size := Nat.lt_of_lt_of_le HF0.out.1 HB14.out.size
            have HP14 := Lib.hid (HP12.out.on HB14.out)
            have hcs : w14.cell? ⟨b14, 0, none⟩ = some (.int .i64 o.frame) ∧ w14.cell? ⟨b14, 1, none⟩ = some (.slice o.va o.vn o.vc) ∧ w14.cell? ⟨b14, 2, none⟩ = some (.int .i64 o.lost) := by
              have h := HO14.out; unfold OB1 at h; simp [World.cell?, h]
            obtain ⟨c0, c1, c2⟩ := hcs
            refine Mix.regionC (fun _ => False) (by kernel_rfl) ?_
            intro w15 hb15
            refine Mix.take_exC _ _ 0 rfl (by kernel_rfl) (by kernel_rfl) (by kernel_rfl) (by kernel_rfl) (fun K hK => ?_)
            go_simp
            first | (refine hK _ ?_; clear hK K) | (apply Exists.intro; refine ⟨fun x => ?_, hK _ ?_⟩; (fail); clear hK K)
            refine Mix.take_exC _ _ 1 rfl (by kernel_rfl) (by kernel_rfl) (by kernel_rfl) (by kernel_rfl) (fun K hK => ?_)
            go_simp
            first | (refine hK _ ?_; clear hK K) | (apply Exists.intro; refine ⟨fun x => ?_, hK _ ?_⟩; (fail); clear hK K)
            refine Mix.take_exC _ _ 2 rfl (by kernel_rfl) (by kernel_rfl) (by kernel_rfl) (by kernel_rfl) (fun K hK => ?_)
            go_simp
            first | (refine hK _ ?_; clear hK K) | (apply Exists.intro; refine ⟨fun x => ?_, hK _ ?_⟩; (fail); clear hK K)
            refine Mix.take_exC _ _ 3 rfl (by kernel_rfl) (by kernel_rfl) (by kernel_rfl) (by kernel_rfl) (fun K hK => ?_)
            go_simp
            first | (refine hK _ ?_; clear hK K) | (apply Exists.intro; refine ⟨fun x => ?_, hK _ ?_⟩; (fail); clear hK K)
            refine Mix.take_exC _ _ 4 rfl (by kernel_rfl) (by kernel_rfl) (by kernel_rfl) (by kernel_rfl) (fun K hK => ?_)
            go_simp
            first | (refine hK _ ?_; clear hK K) | (apply Exists.intro; refine ⟨fun x => ?_, hK _ ?_⟩; (fail); clear hK K)
            refine Mix.take_exC _ _ 5 rfl (by kernel_rfl) (by kernel_rfl) (by kernel_rfl) (by kernel_rfl) (fun K hK => ?_)
            go_simp
            first | (refine hK _ ?_; clear hK K) | (apply Exists.intro; refine ⟨fun x => ?_, hK _ ?_⟩; (fail); clear hK K)
            refine Mix.take_exC _ _ 6 rfl (by kernel_rfl) (by kernel_rfl) (by kernel_rfl) (by kernel_rfl) (fun K hK => ?_)
            go_simp
            first | (refine hK _ ?_; clear hK K) | (apply Exists.intro; refine ⟨fun x => ?_, hK _ ?_⟩; (fail); clear hK K)
            refine Mix.take_exC _ _ 7 rfl (by kernel_rfl) (by kernel_rfl) (by kernel_rfl) (by kernel_rfl) (fun K hK => ?_)
            go_simp
            first | (refine hK _ ?_; clear hK K) | (apply Exists.intro; refine ⟨fun x => ?_, hK _ ?_⟩; (fail); clear hK K)
            refine Mix.take_exC _ _ 8 rfl (by kernel_rfl) (by kernel_rfl) (by kernel_rfl) (by kernel_rfl) (fun K hK => ?_)
            go_simp
            first | (refine hK _ ?_; clear hK K) | (apply Exists.intro; refine ⟨fun x => ?_, hK _ ?_⟩; (fail); clear hK K)
            refine Mix.take_exC _ _ 9 rfl (by kernel_rfl) (by kernel_rfl) (by kernel_rfl) (by kernel_rfl) (fun K hK => ?_)
            go_simp
            first | (refine hK _ ?_; clear hK K) | (apply Exists.intro; refine ⟨fun x => ?_, hK _ ?_⟩; (fail); clear hK K)
            refine Mix.take_exC _ _ 10 rfl (by kernel_rfl) (by kernel_rfl) (by kernel_rfl) (by kernel_rfl) (fun K hK => ?_)
            go_simp
            first | (refine hK _ ?_; clear hK K) | (apply Exists.intro; refine ⟨fun x => ?_, hK _ ?_⟩; (fail); clear hK K)
            refine Mix.take_exC _ _ 12 rfl (by kernel_rfl) (by kernel_rfl) (by kernel_rfl) (by kernel_rfl) (fun K hK => ?_)
            go_simp
            first | (refine hK _ ?_; clear hK K) | (apply Exists.intro; refine ⟨fun x => ?_, hK _ ?_⟩; (fail); clear hK K)
            refine Mix.take_exC _ _ 13 rfl (by kernel_rfl) (by kernel_rfl) (by kernel_rfl) (by kernel_rfl) (fun K hK => ?_)
            go_simp
            first | (refine hK _ ?_; clear hK K) | (apply Exists.intro; refine ⟨fun x => ?_, hK _ ?_⟩; (fail); clear hK K)
            refine Mix.take_exC _ _ 14 rfl (by kernel_rfl) (by kernel_rfl) (by kernel_rfl) (by kernel_rfl) (fun K hK => ?_)
            go_simp
            first | (refine hK _ ?_; clear hK K) | (apply Exists.intro; refine ⟨fun x => ?_, hK _ ?_⟩; (fail); clear hK K)
            refine Mix.all (rs := [11]) (by kernel_rfl) (by simp) (.of_below _ hb15) ?_
            intro i16 hi16 w16 hb16 hC16
            simp only [List.mem_cons, List.not_mem_nil, or_false] at hi16
            subst hi16
            have HB16 := Lib.hid (bt hb15 hb16)
            clear hC16 hb15 hb16
            refine Mix.op rfl (by kernel_rfl) ?_
            go_simp
            refine ((HP14.out.on HB16.out).js.long HOM.out).mono ?_
            rintro e w17 ⟨rfl, hb17⟩
            refine ⟨_, rfl, ?_⟩
            have HB17 := Lib.hid (bt HB16.out hb17)
            clear hb17
            refine Mix.take_exC _ _ 15 rfl (by kernel_rfl) (by kernel_rfl) (by kernel_rfl) (by kernel_rfl) (fun K hK => ?_)
            go_simp
            first | (refine hK _ ?_; clear hK K) | (apply Exists.intro; refine ⟨fun x => ?_, hK _ ?_⟩; (fail); clear hK K)
            refine Mix.take_exC _ _ 16 rfl (by kernel_rfl) (by kernel_rfl) (by kernel_rfl) (by kernel_rfl) (fun K hK => ?_)
            go_simp
            first | (refine hK _ ?_; clear hK K) | (apply Exists.intro; refine ⟨fun x => ?_, hK _ ?_⟩; (fail); clear hK K)
            refine Mix.take_exC _ _ 17 rfl (by kernel_rfl) (by kernel_rfl) (by kernel_rfl) (by kernel_rfl) (fun K hK => ?_)
            go_simp
            first | (refine hK _ ?_; clear hK K) | (apply Exists.intro; refine ⟨fun x => ?_, hK _ ?_⟩; (fail); clear hK K)
            refine Mix.take_exC _ _ 18 rfl (by kernel_rfl) (by kernel_rfl) (by kernel_rfl) (by kernel_rfl) (fun K hK => ?_)
            go_simp
            first | (refine hK _ ?_; clear hK K) | (apply Exists.intro; refine ⟨fun x => ?_, hK _ ?_⟩; (fail); clear hK K)
            refine Mix.take_exC _ _ 19 rfl (by kernel_rfl) (by kernel_rfl) (by kernel_rfl) (by kernel_rfl) (fun K hK => ?_)
            go_simp
            first | (refine hK _ ?_; clear hK K) | (apply Exists.intro; refine ⟨fun x => ?_, hK _ ?_⟩; (fail); clear hK K)
            refine Mix.take_exC _ _ 20 rfl (by kernel_rfl) (by kernel_rfl) (by kernel_rfl) (by kernel_rfl) (fun K hK => ?_)
            go_simp
            first | (refine hK _ ?_; clear hK K) | (apply Exists.intro; refine ⟨fun x => ?_, hK _ ?_⟩; (fail); clear hK K)
            refine Mix.take_exC _ _ 22 rfl (by kernel_rfl) (by kernel_rfl) (by kernel_rfl) (by kernel_rfl) (fun K hK => ?_)
            go_simp
            first | (refine hK _ ?_; clear hK K) | (apply Exists.intro; refine ⟨fun x => ?_, hK _ ?_⟩; (fail); clear hK K)
            refine Mix.take_exC _ _ 23 rfl (by kernel_rfl) (by kernel_rfl) (by kernel_rfl) (by kernel_rfl) (fun K hK => ?_)
            go_simp
            first | (refine hK _ ?_; clear hK K) | (apply Exists.intro; refine ⟨fun x => ?_, hK _ ?_⟩; (fail); clear hK K)
            refine Mix.all (rs := [21]) (by kernel_rfl) (by simp) (.of_below _ HB17.out) ?_
            intro i18 hi18 w18 hb18 hC18
            simp only [List.mem_cons, List.not_mem_nil, or_false] at hi18
            subst hi18
            have HB18 := Lib.hid (bt HB17.out hb18)
            clear hC18 hb18
            refine Mix.op rfl (by kernel_rfl) ?_
            go_simp
            refine ((HP14.out.on HB18.out).js.lost HOM.out).mono ?_
            rintro e w19 ⟨rfl, hb19⟩
            refine ⟨_, rfl, ?_⟩
            have HB19 := Lib.hid (bt HB18.out hb19)
            clear hb19
            refine Mix.take_exC _ _ 24 rfl (by kernel_rfl) (by kernel_rfl) (by kernel_rfl) (by kernel_rfl) (fun K hK => ?_)
            go_simp
            first | (refine hK _ ?_; clear hK K) | (apply Exists.intro; refine ⟨fun x => ?_, hK _ ?_⟩; (fail); clear hK K)
            refine Mix.take_exC _ _ 25 rfl (by kernel_rfl) (by kernel_rfl) (by kernel_rfl) (by kernel_rfl) (fun K hK => ?_)
            go_simp
            first | (refine hK _ ?_; clear hK K) | (apply Exists.intro; refine ⟨fun x => ?_, hK _ ?_⟩; (fail); clear hK K)
            refine Mix.done (by kernel_rfl) (.of_below _ HB19.out) ?_
            intro w20 hb20
            have HB20 := Lib.hid (bt HB14.out (bt HB19.out hb20))
            clear hb20 c0 c1 c2 f0 qf hs14
            go_wp2
            go_roundw
            case rel => exact ⟨k + 1, by omega, by go_num, HB20⟩
            case measure => simp [intOf]; omega
          · obtain rfl : un = k := by omega
            go_wp2
            go_roundw
            case rel => exact ⟨t + 1, _, _, S', F', V', by omega, by go_num, HNT, HP13⟩
            case measure => simp [intOf]; omega
      · have HB4 := Lib.hid (bt hb3 hb4)
        clear hb3 hb4 hC4
        refine Mix.op rfl (by kernel_rfl) ?_
        go_simp
        have HM40 := Lib.hid (MB.made w4 0 (.slice none 0 0))
        have HB40 := Lib.hid (ba HB4.out (.cells #[.int .i64 0, .slice none 0 0] 123))
        obtain ⟨b10, hb10⟩ : ∃ b10, b10 = w4.heap.size := ⟨_, rfl⟩
        have HG10 := Lib.hid (show w2.heap.size ≤ b10 by rw [hb10]; exact HB4.out.size)
        rw [← hb10] at HM40 ⊢
        clear hb10
        generalize w4.alloc (.cells #[.int .i64 0, .slice none 0 0] 123) = w40 at *
        refine Mix.all (rs := [6]) (by kernel_rfl) (by simp) (.of_below _ HB40.out) ?_
        intro i41 hi41 w41 hb41 hC41
        simp only [List.mem_cons, List.not_mem_nil, or_false] at hi41
        subst hi41
        have HM41 := Lib.hid (HM40.out.below hb41)
        have HB41 := Lib.hid (bt HB40.out hb41)
        clear hC41 hb41
        refine Mix.op rfl (by kernel_rfl) ?_
        go_simp
        refine (HACT.out w41 HB41.out).mono ?_
        rintro e w5 ⟨v5, S', F', V', rfl, hp5, hc5, hfr5⟩
        refine ⟨_, rfl, ?_⟩
        obtain ⟨a5, n5, c5, rfl, -, -, -, -⟩ := hp5.js.ml.rs.at_
        have HP5 := Lib.hid hp5
        have HC5 := Lib.hid ((Chg.of_below F HB41.out).same hc5)
        have HFR := Lib.hid (hfr5 b10 HG10.out HM41.out.lt)
        have HM5 := Lib.hid (HM41.out.chg hc5 fun e => by have h1 := HFS.out b10 e; have h2 := HG10.out; omega)
        clear hp5 hc5 hfr5
        refine Mix.take_exC _ _ 7 rfl (by kernel_rfl) (by kernel_rfl) (by kernel_rfl) (by kernel_rfl) (fun K hK => ?_)
        go_simp
        first | (refine hK _ ?_; clear hK K) | (apply Exists.intro; refine ⟨fun x => ?_, hK _ ?_⟩; (fail); clear hK K)
        refine Mix.take_exC _ _ 8 rfl (by kernel_rfl) (by kernel_rfl) (by kernel_rfl) (by kernel_rfl) (fun K hK => ?_)
        go_simp
        first | (refine hK _ ?_; clear hK K) | (apply Exists.intro; refine ⟨fun x => ?_, hK _ ?_⟩; (fail); clear hK K)
        refine Mix.take_exC _ _ 9 rfl (by kernel_rfl) (by kernel_rfl) (by kernel_rfl) (by kernel_rfl) (fun K hK => ?_)
        go_simp
        first | (refine hK _ ?_; clear hK K) | (apply Exists.intro; refine ⟨fun x => ?_, hK _ ?_⟩; (fail); clear hK K)
        refine Mix.all (rs := [11]) (by kernel_rfl) (by simp) (HC5.out) ?_
        intro i7 hi7 w7 hb7 hC7
        simp only [List.mem_cons, List.not_mem_nil, or_false] at hi7
        subst hi7
        have HP7 := Lib.hid (HP5.out.on hb7)
        have HC7 := Lib.hid (HC5.out.then_below hb7)
        have HM7 := Lib.hid (HM5.out.below hb7)
        clear hC7 hb7
        obtain ⟨m0, m1⟩ := HM7.out.cells
        have m2 := HM7.out.fz 0; have m3 := HM7.out.fz 1
        have m4 := HM7.out.lt
        refine Mix.op rfl (by kernel_rfl) ?_
        go_simp
        have HX8 := Lib.hid (HM7.out.set2 most (.slice a5 n5 c5))
        have HST := Lib.hid (show Chg (fun k => k = b10) w7 ((w7.setCell ⟨b10, 0, none⟩ (.int .i64 most)).setCell ⟨b10, 1, none⟩ (.slice a5 n5 c5)) from ((Chg.refl (fun k => k = b10) w7).setCell (p := ⟨b10, 0, none⟩) (.inl rfl) _).setCell (p := ⟨b10, 1, none⟩) (.inl rfl) _)
        clear m0 m1 m2 m3 m4
        generalize (w7.setCell ⟨b10, 0, none⟩ (.int .i64 most)).setCell ⟨b10, 1, none⟩ (.slice a5 n5 c5) = w8 at *
        have HP8 := Lib.hid (HP7.out.other HFR.out (fun k e => e) HST.out)
        refine Mix.take_exC _ _ 12 rfl (by kernel_rfl) (by kernel_rfl) (by kernel_rfl) (by kernel_rfl) (fun K hK => ?_)
        go_simp
        first | (refine hK _ ?_; clear hK K) | (apply Exists.intro; refine ⟨fun x => ?_, hK _ ?_⟩; (fail); clear hK K)
        refine Mix.done (by kernel_rfl) (HC7.out.trans HST.out fun k e => .inr (by have e : k = b10 := e; have := HG10.out; omega)) ?_
        intro w9 hb9
        have HP9 := Lib.hid (HP8.out.on hb9)
        have HX9 := Lib.hid (HX8.out.below hb9)
        clear hb9 e0 e1 e2 e3 qs y0 y1 q3 nfb nfm
        obtain ⟨g0, g1⟩ := HX9.out.cells
        have g3 := HX9.out.lt
        obtain ⟨y0, y1⟩ := HP9.out.mb.cells
        have y2 := HP9.out.mb.fz 0; have y3 := HP9.out.mb.fz 1
        have q3 := HP9.out.mb.lt
        have HP11 := Lib.hid HP9.out.store
        go_wp2_with fail
        clear y0 y1 y2 y3 q3 g0 g1 g3
        generalize (w9.setCell ⟨bm, 0, none⟩ (.int .i64 most)).setCell ⟨bm, 1, none⟩ (.slice a5 n5 c5) = w11 at *
        refine (qthose HP11.out.js.qt (by rw [List.length_map]; have := HP11.out.js.len; omega)).mono ?_
        rintro e w12 ⟨u, rfl, hu, -, hb12⟩
        have HP12 := Lib.hid (HP11.out.on hb12)
        obtain ⟨ua, un, uc, rfl, hun, -, -, hat12⟩ := hu.at_
        obtain ⟨a5', n5', c5', hv5, hn5, -, -, hat5⟩ := HP12.out.js.ml.rs.at_
        cases hv5
        rw [List.map_map, List.length_map] at hun
        obtain rfl : un = n5 := by omega
        have HU := Lib.hid hat12; have HA5 := Lib.hid hat5; have HN5 := Lib.hid hn5
        have hn52 : un < 800000 := by have := HP12.out.js.len; omega
        clear hu hb12 hat12 hat5 hn5 hun
        obtain ⟨y0, y1⟩ := HP12.out.mb.cells
        have q3 := HP12.out.mb.lt
        go_wp2
        clear y0 y1 q3
        go_loopw [11] (fun iv wr => ∃ k : Nat, k ≤ un ∧ iv = .int .i64 k ∧ Hid (Below w12.heap.size w12 wr)) (fun iv _ => un - (intOf iv).toNat)
        case atStart => exact ⟨0, Nat.zero_le _, rfl, Lib.hid (Below.refl _ _)⟩
        case round =>
          obtain ⟨k, hk, rfl, HB13⟩ := hrel
          obtain ⟨w13, rfl⟩ : ∃ w13, w13 = wr := ⟨_, rfl⟩
          have HP13 := Lib.hid (HP12.out.on HB13.out)
          obtain ⟨y0, y1⟩ := HP13.out.mb.cells
          have q3 := HP13.out.mb.lt
          by_cases hlk : k < un
          · have hks : (k : Int) < (un : Int) := by omega
            obtain ⟨o, ho⟩ := at_lt (l := S') (i := k) (by rw [← HN5.out]; exact hlk)
            obtain ⟨b5, off5, hp5, hb5, hcell5⟩ := HA5.out k o ho
            subst hp5
            have hu1 : ((S'.map On.pl).map Pq.frame)[k]? = some o.frame := by rw [List.map_map, List.getElem?_map, ho]; rfl
            obtain ⟨b6, off6, hp6, hb6, hcell6⟩ := HU.out k o.frame hu1
            subst hp6
            have e0 := (HB13.out.cell (p := ⟨b5, off5 + k * 3 + 0, none⟩) hb5).trans (hcell5 0 _ rfl)
            have e1 := (HB13.out.cell (p := ⟨b5, off5 + k * 3 + 1, none⟩) hb5).trans (hcell5 1 _ rfl)
            have e2 := (HB13.out.cell (p := ⟨b5, off5 + k * 3 + 2, none⟩) hb5).trans (hcell5 2 _ rfl)
            have f0 := hcell6 0 _ rfl
            simp only [Nat.add_zero, Nat.mul_one] at e0 f0
            have qs : b5 < w13.heap.size := Nat.lt_of_lt_of_le hb5 HB13.out.size
            have HF0 := Lib.hid (And.intro hb6 f0)
            have HOM := Lib.hid (mem_at ho)
            have HB14 := Lib.hid (bt HB13.out (ba (Below.refl _ _) (.cells #[.int .i64 o.frame, .slice o.va o.vn o.vc, .int .i64 o.lost] 130)))
            have HO14 := Lib.hid (OB1.made w13 o)
            have hs14 : w13.heap.size < (w13.alloc (.cells #[.int .i64 o.frame, .slice o.va o.vn o.vc, .int .i64 o.lost] 130)).heap.size := by simp
            clear ho hu1 hcell5 hcell6 hb5 hb6 f0
            go_wp2
            generalize w13.alloc (.cells #[.int .i64 o.frame, .slice o.va o.vn o.vc, .int .i64 o.lost] 130) = w14 at *
            clear e0 e1 e2 qs y0 y1 q3
            generalize w13.heap.size = b14 at *
            have f0 := (HB14.out.cell (p := ⟨b6, off6 + k, none⟩) HF0.out.1).trans HF0.out.2
            have qf : b6 < w14.heap.size := Nat.lt_of_lt_of_le HF0.out.1 HB14.out.size
            have HP14 := Lib.hid (HP12.out.on HB14.out)
            have hcs : w14.cell? ⟨b14, 0, none⟩ = some (.int .i64 o.frame) ∧ w14.cell? ⟨b14, 1, none⟩ = some (.slice o.va o.vn o.vc) ∧ w14.cell? ⟨b14, 2, none⟩ = some (.int .i64 o.lost) := by
              have h := HO14.out; unfold OB1 at h; simp [World.cell?, h]
            obtain ⟨c0, c1, c2⟩ := hcs
            refine Mix.regionC (fun _ => False) (by kernel_rfl) ?_
            intro w15 hb15
            refine Mix.take_exC _ _ 0 rfl (by kernel_rfl) (by kernel_rfl) (by kernel_rfl) (by kernel_rfl) (fun K hK => ?_)
            go_simp
            first | (refine hK _ ?_; clear hK K) | (apply Exists.intro; refine ⟨fun x => ?_, hK _ ?_⟩; (fail); clear hK K)
            refine Mix.take_exC _ _ 1 rfl (by kernel_rfl) (by kernel_rfl) (by kernel_rfl) (by kernel_rfl) (fun K hK => ?_)
            go_simp
            first | (refine hK _ ?_; clear hK K) | (apply Exists.intro; refine ⟨fun x => ?_, hK _ ?_⟩; (fail); clear hK K)
            refine Mix.take_exC _ _ 2 rfl (by kernel_rfl) (by kernel_rfl) (by kernel_rfl) (by kernel_rfl) (fun K hK => ?_)
            go_simp
            first | (refine hK _ ?_; clear hK K) | (apply Exists.intro; refine ⟨fun x => ?_, hK _ ?_⟩; (fail); clear hK K)
            refine Mix.take_exC _ _ 3 rfl (by kernel_rfl) (by kernel_rfl) (by kernel_rfl) (by kernel_rfl) (fun K hK => ?_)
            go_simp
            first | (refine hK _ ?_; clear hK K) | (apply Exists.intro; refine ⟨fun x => ?_, hK _ ?_⟩; (fail); clear hK K)
            refine Mix.take_exC _ _ 4 rfl (by kernel_rfl) (by kernel_rfl) (by kernel_rfl) (by kernel_rfl) (fun K hK => ?_)
            go_simp
            first | (refine hK _ ?_; clear hK K) | (apply Exists.intro; refine ⟨fun x => ?_, hK _ ?_⟩; (fail); clear hK K)
            refine Mix.take_exC _ _ 5 rfl (by kernel_rfl) (by kernel_rfl) (by kernel_rfl) (by kernel_rfl) (fun K hK => ?_)
            go_simp
            first | (refine hK _ ?_; clear hK K) | (apply Exists.intro; refine ⟨fun x => ?_, hK _ ?_⟩; (fail); clear hK K)
            refine Mix.take_exC _ _ 6 rfl (by kernel_rfl) (by kernel_rfl) (by kernel_rfl) (by kernel_rfl) (fun K hK => ?_)
            go_simp
            first | (refine hK _ ?_; clear hK K) | (apply Exists.intro; refine ⟨fun x => ?_, hK _ ?_⟩; (fail); clear hK K)
            refine Mix.take_exC _ _ 7 rfl (by kernel_rfl) (by kernel_rfl) (by kernel_rfl) (by kernel_rfl) (fun K hK => ?_)
            go_simp
            first | (refine hK _ ?_; clear hK K) | (apply Exists.intro; refine ⟨fun x => ?_, hK _ ?_⟩; (fail); clear hK K)
            refine Mix.take_exC _ _ 8 rfl (by kernel_rfl) (by kernel_rfl) (by kernel_rfl) (by kernel_rfl) (fun K hK => ?_)
            go_simp
            first | (refine hK _ ?_; clear hK K) | (apply Exists.intro; refine ⟨fun x => ?_, hK _ ?_⟩; (fail); clear hK K)
            refine Mix.take_exC _ _ 9 rfl (by kernel_rfl) (by kernel_rfl) (by kernel_rfl) (by kernel_rfl) (fun K hK => ?_)
            go_simp
            first | (refine hK _ ?_; clear hK K) | (apply Exists.intro; refine ⟨fun x => ?_, hK _ ?_⟩; (fail); clear hK K)
            refine Mix.take_exC _ _ 10 rfl (by kernel_rfl) (by kernel_rfl) (by kernel_rfl) (by kernel_rfl) (fun K hK => ?_)
            go_simp
            first | (refine hK _ ?_; clear hK K) | (apply Exists.intro; refine ⟨fun x => ?_, hK _ ?_⟩; (fail); clear hK K)
            refine Mix.take_exC _ _ 12 rfl (by kernel_rfl) (by kernel_rfl) (by kernel_rfl) (by kernel_rfl) (fun K hK => ?_)
            go_simp
            first | (refine hK _ ?_; clear hK K) | (apply Exists.intro; refine ⟨fun x => ?_, hK _ ?_⟩; (fail); clear hK K)
            refine Mix.take_exC _ _ 13 rfl (by kernel_rfl) (by kernel_rfl) (by kernel_rfl) (by kernel_rfl) (fun K hK => ?_)
            go_simp
            first | (refine hK _ ?_; clear hK K) | (apply Exists.intro; refine ⟨fun x => ?_, hK _ ?_⟩; (fail); clear hK K)
            refine Mix.take_exC _ _ 14 rfl (by kernel_rfl) (by kernel_rfl) (by kernel_rfl) (by kernel_rfl) (fun K hK => ?_)
            go_simp
            first | (refine hK _ ?_; clear hK K) | (apply Exists.intro; refine ⟨fun x => ?_, hK _ ?_⟩; (fail); clear hK K)
            refine Mix.all (rs := [11]) (by kernel_rfl) (by simp) (.of_below _ hb15) ?_
            intro i16 hi16 w16 hb16 hC16
            simp only [List.mem_cons, List.not_mem_nil, or_false] at hi16
            subst hi16
            have HB16 := Lib.hid (bt hb15 hb16)
            clear hC16 hb15 hb16
            refine Mix.op rfl (by kernel_rfl) ?_
            go_simp
            refine ((HP14.out.on HB16.out).js.long HOM.out).mono ?_
            rintro e w17 ⟨rfl, hb17⟩
            refine ⟨_, rfl, ?_⟩
            have HB17 := Lib.hid (bt HB16.out hb17)
            clear hb17
            refine Mix.take_exC _ _ 15 rfl (by kernel_rfl) (by kernel_rfl) (by kernel_rfl) (by kernel_rfl) (fun K hK => ?_)
            go_simp
            first | (refine hK _ ?_; clear hK K) | (apply Exists.intro; refine ⟨fun x => ?_, hK _ ?_⟩; (fail); clear hK K)
            refine Mix.take_exC _ _ 16 rfl (by kernel_rfl) (by kernel_rfl) (by kernel_rfl) (by kernel_rfl) (fun K hK => ?_)
            go_simp
            first | (refine hK _ ?_; clear hK K) | (apply Exists.intro; refine ⟨fun x => ?_, hK _ ?_⟩; (fail); clear hK K)
            refine Mix.take_exC _ _ 17 rfl (by kernel_rfl) (by kernel_rfl) (by kernel_rfl) (by kernel_rfl) (fun K hK => ?_)
            go_simp
            first | (refine hK _ ?_; clear hK K) | (apply Exists.intro; refine ⟨fun x => ?_, hK _ ?_⟩; (fail); clear hK K)
            refine Mix.take_exC _ _ 18 rfl (by kernel_rfl) (by kernel_rfl) (by kernel_rfl) (by kernel_rfl) (fun K hK => ?_)
            go_simp
            first | (refine hK _ ?_; clear hK K) | (apply Exists.intro; refine ⟨fun x => ?_, hK _ ?_⟩; (fail); clear hK K)
            refine Mix.take_exC _ _ 19 rfl (by kernel_rfl) (by kernel_rfl) (by kernel_rfl) (by kernel_rfl) (fun K hK => ?_)
            go_simp
            first | (refine hK _ ?_; clear hK K) | (apply Exists.intro; refine ⟨fun x => ?_, hK _ ?_⟩; (fail); clear hK K)
            refine Mix.take_exC _ _ 20 rfl (by kernel_rfl) (by kernel_rfl) (by kernel_rfl) (by kernel_rfl) (fun K hK => ?_)
            go_simp
            first | (refine hK _ ?_; clear hK K) | (apply Exists.intro; refine ⟨fun x => ?_, hK _ ?_⟩; (fail); clear hK K)
            refine Mix.take_exC _ _ 22 rfl (by kernel_rfl) (by kernel_rfl) (by kernel_rfl) (by kernel_rfl) (fun K hK => ?_)
            go_simp
            first | (refine hK _ ?_; clear hK K) | (apply Exists.intro; refine ⟨fun x => ?_, hK _ ?_⟩; (fail); clear hK K)
            refine Mix.take_exC _ _ 23 rfl (by kernel_rfl) (by kernel_rfl) (by kernel_rfl) (by kernel_rfl) (fun K hK => ?_)
            go_simp
            first | (refine hK _ ?_; clear hK K) | (apply Exists.intro; refine ⟨fun x => ?_, hK _ ?_⟩; (fail); clear hK K)
            refine Mix.all (rs := [21]) (by kernel_rfl) (by simp) (.of_below _ HB17.out) ?_
            intro i18 hi18 w18 hb18 hC18
            simp only [List.mem_cons, List.not_mem_nil, or_false] at hi18
            subst hi18
            have HB18 := Lib.hid (bt HB17.out hb18)
            clear hC18 hb18
            refine Mix.op rfl (by kernel_rfl) ?_
            go_simp
            refine ((HP14.out.on HB18.out).js.lost HOM.out).mono ?_
            rintro e w19 ⟨rfl, hb19⟩
            refine ⟨_, rfl, ?_⟩
            have HB19 := Lib.hid (bt HB18.out hb19)
            clear hb19
            refine Mix.take_exC _ _ 24 rfl (by kernel_rfl) (by kernel_rfl) (by kernel_rfl) (by kernel_rfl) (fun K hK => ?_)
            go_simp
            first | (refine hK _ ?_; clear hK K) | (apply Exists.intro; refine ⟨fun x => ?_, hK _ ?_⟩; (fail); clear hK K)
            refine Mix.take_exC _ _ 25 rfl (by kernel_rfl) (by kernel_rfl) (by kernel_rfl) (by kernel_rfl) (fun K hK => ?_)
            go_simp
            first | (refine hK _ ?_; clear hK K) | (apply Exists.intro; refine ⟨fun x => ?_, hK _ ?_⟩; (fail); clear hK K)
            refine Mix.done (by kernel_rfl) (.of_below _ HB19.out) ?_
            intro w20 hb20
            have HB20 := Lib.hid (bt HB14.out (bt HB19.out hb20))
            clear hb20 c0 c1 c2 f0 qf hs14
            go_wp2
            go_roundw
            case rel => exact ⟨k + 1, by omega, by go_num, HB20⟩
            case measure => simp [intOf]; omega
          · obtain rfl : un = k := by omega
            go_wp2
            go_roundw
            case rel => exact ⟨t + 1, _, _, S', F', V', by omega, by go_num, HNT, HP13⟩
            case measure => simp [intOf]; omega
    · obtain rfl : n = t := by omega
      go_wp2_with fail
      refine (works28 _).mono ?_
      rintro e w3 ⟨rfl, hb3⟩
      have HB3 := Lib.hid hb3
      clear hb3
      go_wp2
      go_ret
      exact ⟨rfl, bt HP.out.js.bel HB3.out⟩
end Go.Proofs.Ytnckjacbkhoppaa

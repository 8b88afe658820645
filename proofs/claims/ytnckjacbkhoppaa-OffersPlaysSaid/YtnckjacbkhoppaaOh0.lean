/- offers: acts; the walk of OffersOnce. -/
import Derived.Test.YtnckjacbkhoppaaOg1
import Derived.Test.YtnckjacbkhoppaaOa9
namespace Go.Proofs.Ytnckjacbkhoppaa
open Go.RowKit Go.Maps
attribute [local go_sem] ext_cell ext_frozen extC_cell extC_frozen Mix.calmUpon Mix.mUpon
/-- What an act leaves. -/
def actL (great last : Int) (a : Oa) : Int := if a.close then last else issL great last a.o.pl
def actP (great last : Int) (P : List Pf) (a : Oa) : List Pf := if a.close then delP P a.o.id else issP great last P a.o.pl
theorem actP_len {great last : Int} {P : List Pf} {a : Oa} : (actP great last P a).length ≤ P.length + 1 := by
  unfold actP; split
  · exact Nat.le_trans delP_len (Nat.le_succ _)
  · exact issP_len
theorem OIn.go {W w : World} {tp : Nat} {x : Ofr} (h : OIn W x) (hb : Below W.heap.size W w) (hl : x.ps.length < 1000000) (ht : W.heap.size ≤ tp) : OGo w tp x := ⟨h.vc.on hb, h.vc.old fun k e => by rw [e]; exact ht, hl, h.fr, h.ag, h.til⟩
theorem few_eachO {l : List Oa} (h : (l.map oaW).sum ≤ 400) : ∀ x ∈ l, x.o.ps.length < 1000000 := by
  have key : ∀ (l : List Oa) x, x ∈ l → oaW x ≤ (l.map oaW).sum := by
    intro l
    induction l with
    | nil => intro x hx; cases hx
    | cons a l ih =>
      intro x hx
      rw [List.map_cons, List.sum_cons]
      rcases List.mem_cons.1 hx with rfl | hx
      · omega
      · have := ih x hx; omega
  intro x hx
  have h1 := key l x hx
  have h2 : x.o.ps.length ≤ (l.map oaW).sum := h1
  omega
/-- Where acts on a table stand. -/
structure OS (W wr : World) (tp : Nat) (great last : Int) (P : List Pf) (K : Nat → Prop) (t : Nat) : Prop where
  ov : OV wr W.heap.size tp great last P K
  bel : Below W.heap.size W wr
  len : P.length ≤ t
section
variable {W wr w' : World} {tp : Nat} {great last : Int} {P : List Pf} {K : Nat → Prop} {t : Nat}
theorem OS.on (h : OS W wr tp great last P K t) (hb : Below wr.heap.size wr w') : OS W w' tp great last P K t := ⟨h.ov.below hb, h.bel.trans (hb.mono h.bel.size), h.len⟩
theorem OS.act (h : OS W wr tp great last P K t) {K' : Nat → Prop} {a : Oa} (h2 : OV w' W.heap.size tp great (actL great last a) (actP great last P a) K') (hc : Chg K wr w') : OS W w' tp great (actL great last a) (actP great last P a) K' (t + 1) :=
  ⟨h2, h.bel.trans (hc.below h.bel.size fun k e => (h.ov.hK k e).1), Nat.le_trans actP_len (Nat.succ_le_succ h.len)⟩
end
set_option maxRecDepth 100000 in
set_option maxHeartbeats 8000000 in
theorem once24 (great : Int) (v : Value) (l : List Oa) (W : World) (hr : RS 6 oaenc W v l) (ha : ∀ x ∈ l, OIn W x.o) :
    Calls Try.prog 7 #[.int .i64 great, v] W fun e w' => e = .returned (.bool true) ∧ Below W.heap.size W w' := by
  have HF := Lib.hid (few24 v l W hr ha)
  obtain ⟨a, n, c, rfl, hn, hc, hm, hat⟩ := hr.at_
  have HN := Lib.hid hn; have HAT := Lib.hid hat; have HA := Lib.hid ha
  clear hr hn hat ha hm hc
  by_cases hfew : l.length ≤ 100 ∧ (l.map oaW).sum ≤ 400
  · have hFT : decide (l.length ≤ 100 ∧ (l.map oaW).sum ≤ 400) = true := decide_eq_true hfew
    have HFT := Lib.hid hFT
    have HLE := Lib.hid (few_eachO hfew.2)
    have hn100 : n ≤ 100 := by rw [HN.out]; exact hfew.1
    clear hfew hFT
    by_cases h0 : great < 0
    · go_enter Try.func7, Try.ntmps7
      go_wp2_with fail
      refine HF.out.mono ?_
      rintro e w1 ⟨rfl, rfl⟩
      rw [HFT.out]
      go_wp2
      go_ret
      exact ⟨rfl, Below.refl _ _⟩
    by_cases h9 : 9007199254740992 < great
    · go_enter Try.func7, Try.ntmps7
      go_wp2_with fail
      refine HF.out.mono ?_
      rintro e w1 ⟨rfl, rfl⟩
      rw [HFT.out]
      go_wp2
      go_ret
      exact ⟨rfl, Below.refl _ _⟩
    have HGR := Lib.hid (show 0 ≤ great ∧ great ≤ 9007199254740992 by omega)
    go_enter Try.func7, Try.ntmps7
    go_wp2_with fail
    refine HF.out.mono ?_
    rintro e w1 ⟨rfl, rfl⟩
    rw [HFT.out]
    go_wp2_with fail
    refine (vonew w1 HGR.out.1 HGR.out.2).mono ?_
    rintro e w2 ⟨rfl, h2, hb2⟩
    have HI := Lib.hid (show OS w1 w2 (w1.heap.size + 3) great 0 [] (fun b => w1.heap.size ≤ b ∧ b < w2.heap.size) 0 from ⟨h2, hb2, Nat.le_refl _⟩)
    clear h2 hb2 h0 h9
    obtain ⟨tp, htp⟩ : ∃ tp, tp = w1.heap.size + 3 := ⟨_, rfl⟩
    rw [← htp] at HI ⊢
    have HTP := Lib.hid (show w1.heap.size ≤ tp by omega)
    clear htp
    generalize (fun b => w1.heap.size ≤ b ∧ b < w2.heap.size) = K0 at *
    go_wp2
    go_loopw [6, 7] (fun sv iv wr => ∃ (t : Nat) (last : Int) (P : List Pf) (K : Nat → Prop), t ≤ n ∧ iv = .int .i64 t ∧ sv = .int .i64 last ∧ Hid (OS w1 wr tp great last P K t)) (fun _ iv _ => n - (intOf iv).toNat)
    case atStart => exact ⟨0, 0, [], K0, Nat.zero_le _, rfl, rfl, HI⟩
    case round =>
      clear HI
      obtain ⟨t, last, P, K, ht, rfl, rfl, HQ⟩ := hrel
      obtain ⟨w4, rfl⟩ : ∃ w4, w4 = wr := ⟨_, rfl⟩
      by_cases hlt : t < n
      · have hts : (t : Int) < (n : Int) := by omega
        obtain ⟨x, hx⟩ := at_lt (l := l) (i := t) (by rw [← HN.out]; exact hlt)
        obtain ⟨bs, off, rfl, hbs, hcell⟩ := HAT.out t x hx
        have hxi := HA.out x (mem_at hx)
        have hxl := HLE.out x (mem_at hx)
        have hbw := HQ.out.bel
        have c0 := (hbw.cell (p := ⟨bs, _, none⟩) hbs).trans (hcell 0 _ rfl)
        have c1 := (hbw.cell (p := ⟨bs, _, none⟩) hbs).trans (hcell 1 _ rfl)
        have c2 := (hbw.cell (p := ⟨bs, _, none⟩) hbs).trans (hcell 2 _ rfl)
        have c3 := (hbw.cell (p := ⟨bs, _, none⟩) hbs).trans (hcell 3 _ rfl)
        have c4 := (hbw.cell (p := ⟨bs, _, none⟩) hbs).trans (hcell 4 _ rfl)
        have c5 := (hbw.cell (p := ⟨bs, _, none⟩) hbs).trans (hcell 5 _ rfl)
        simp only [Nat.add_zero] at c0
        have hbs4 : bs < w4.heap.size := Nat.lt_of_lt_of_le hbs hbw.size
        have hnK : ¬ K bs := fun e => by have := (HQ.out.ov.hK bs e).1; omega
        have HGO := Lib.hid (hxi.go hbw hxl HTP.out)
        have HID := Lib.hid hxi.id
        obtain ⟨xe, ⟨xi, xf, xa, xv, xs, xu⟩⟩ := x
        obtain ⟨va, vc, hvv, -, -⟩ := hxi.vc.form
        simp only at hvv HID c0 c1 c2 c3 c4 c5
        subst hvv
        have HPL := Lib.hid (show P.length < 1000000 from by have := HQ.out.len; omega)
        clear hcell hx hxi hxl hbw hbs
        cases xe with
        | true =>
          go_wp2_with fail
          refine (voclose HQ.out.ov HPL.out HID.out).mono ?_
          rintro e w5 ⟨⟨z, rfl, -, -, -⟩, h5, hc5⟩
          have HI := Lib.hid (HQ.out.act (a := ⟨true, ⟨xi, xf, xa, .slice va xs.length vc, xs, xu⟩⟩) h5 hc5)
          clear h5 hc5
          clear c0 c1 c2 c3 c4 c5 hbs4 hnK
          go_wp2
          go_roundw
          case rel => exact ⟨t + 1, _, _, _, by omega, by go_num, rfl, HI⟩
          case measure => simp [intOf]; omega
        | false =>
          go_wp2
          refine Mix.regionC K (by kernel_rfl) ?_
          intro w5 hb5
          refine Mix.take_exC _ _ 0 rfl (by kernel_rfl) (by kernel_rfl) (by kernel_rfl) (by kernel_rfl) (fun K hK => ?_)
          go_simp
          first | (refine hK _ ?_; clear hK K) | (apply Exists.intro; refine ⟨fun x => ?_, hK _ ?_⟩; (fail); clear hK K)
          refine Mix.take_exC _ _ 1 rfl (by kernel_rfl) (by kernel_rfl) (by kernel_rfl) (by kernel_rfl) (fun K hK => ?_)
          go_simp
          first | (refine hK _ ?_; clear hK K) | (apply Exists.intro; refine ⟨fun x => ?_, hK _ ?_⟩; (fail); clear hK K)
          refine Mix.take_exC _ _ 2 rfl (by kernel_rfl) (by kernel_rfl) (by kernel_rfl) (by kernel_rfl) (fun K hK => ?_)
          go_simp
          first | (refine hK _ ?_; clear hK K) | (apply Exists.intro; refine ⟨fun x => ?_, hK _ ?_⟩; (fail); clear hK K)
          refine Mix.take_exC _ _ 3 rfl (by kernel_rfl) (by kernel_rfl) (by kernel_rfl) (by kernel_rfl) (fun K hK => ?_)
          go_simp
          first | (refine hK _ ?_; clear hK K) | (apply Exists.intro; refine ⟨fun x => ?_, hK _ ?_⟩; (fail); clear hK K)
          refine Mix.take_exC _ _ 4 rfl (by kernel_rfl) (by kernel_rfl) (by kernel_rfl) (by kernel_rfl) (fun K hK => ?_)
          go_simp
          first | (refine hK _ ?_; clear hK K) | (apply Exists.intro; refine ⟨fun x => ?_, hK _ ?_⟩; (fail); clear hK K)
          refine Mix.take_exC _ _ 5 rfl (by kernel_rfl) (by kernel_rfl) (by kernel_rfl) (by kernel_rfl) (fun K hK => ?_)
          go_simp
          first | (refine hK _ ?_; clear hK K) | (apply Exists.intro; refine ⟨fun x => ?_, hK _ ?_⟩; (fail); clear hK K)
          refine Mix.take_exC _ _ 6 rfl (by kernel_rfl) (by kernel_rfl) (by kernel_rfl) (by kernel_rfl) (fun K hK => ?_)
          go_simp
          first | (refine hK _ ?_; clear hK K) | (apply Exists.intro; refine ⟨fun x => ?_, hK _ ?_⟩; (fail); clear hK K)
          refine Mix.take_exC _ _ 7 rfl (by kernel_rfl) (by kernel_rfl) (by kernel_rfl) (by kernel_rfl) (fun K hK => ?_)
          go_simp
          first | (refine hK _ ?_; clear hK K) | (apply Exists.intro; refine ⟨fun x => ?_, hK _ ?_⟩; (fail); clear hK K)
          refine Mix.take_exC _ _ 8 rfl (by kernel_rfl) (by kernel_rfl) (by kernel_rfl) (by kernel_rfl) (fun K hK => ?_)
          go_simp
          first | (refine hK _ ?_; clear hK K) | (apply Exists.intro; refine ⟨fun x => ?_, hK _ ?_⟩; (fail); clear hK K)
          refine Mix.take_exC _ _ 9 rfl (by kernel_rfl) (by kernel_rfl) (by kernel_rfl) (by kernel_rfl) (fun K hK => ?_)
          go_simp
          first | (refine hK _ ?_; clear hK K) | (apply Exists.intro; refine ⟨fun x => ?_, hK _ ?_⟩; (fail); clear hK K)
          refine Mix.take_exC _ _ 10 rfl (by kernel_rfl) (by kernel_rfl) (by kernel_rfl) (by kernel_rfl) (fun K hK => ?_)
          go_simp
          first | (refine hK _ ?_; clear hK K) | (apply Exists.intro; refine ⟨fun x => ?_, hK _ ?_⟩; (fail); clear hK K)
          refine Mix.take_exC _ _ 11 rfl (by kernel_rfl) (by kernel_rfl) (by kernel_rfl) (by kernel_rfl) (fun K hK => ?_)
          go_simp
          first | (refine hK _ ?_; clear hK K) | (apply Exists.intro; refine ⟨fun x => ?_, hK _ ?_⟩; (fail); clear hK K)
          refine Mix.take_exC _ _ 12 rfl (by kernel_rfl) (by kernel_rfl) (by kernel_rfl) (by kernel_rfl) (fun K hK => ?_)
          go_simp
          first | (refine hK _ ?_; clear hK K) | (apply Exists.intro; refine ⟨fun x => ?_, hK _ ?_⟩; (fail); clear hK K)
          refine Mix.take_exC _ _ 13 rfl (by kernel_rfl) (by kernel_rfl) (by kernel_rfl) (by kernel_rfl) (fun K hK => ?_)
          go_simp
          first | (refine hK _ ?_; clear hK K) | (apply Exists.intro; refine ⟨fun x => ?_, hK _ ?_⟩; (fail); clear hK K)
          refine Mix.take_exC _ _ 14 rfl (by kernel_rfl) (by kernel_rfl) (by kernel_rfl) (by kernel_rfl) (fun K hK => ?_)
          go_simp
          first | (refine hK _ ?_; clear hK K) | (apply Exists.intro; refine ⟨fun x => ?_, hK _ ?_⟩; (fail); clear hK K)
          refine Mix.take_exC _ _ 15 rfl (by kernel_rfl) (by kernel_rfl) (by kernel_rfl) (by kernel_rfl) (fun K hK => ?_)
          go_simp
          first | (refine hK _ ?_; clear hK K) | (apply Exists.intro; refine ⟨fun x => ?_, hK _ ?_⟩; (fail); clear hK K)
          refine Mix.take_exC _ _ 16 rfl (by kernel_rfl) (by kernel_rfl) (by kernel_rfl) (by kernel_rfl) (fun K hK => ?_)
          go_simp
          first | (refine hK _ ?_; clear hK K) | (apply Exists.intro; refine ⟨fun x => ?_, hK _ ?_⟩; (fail); clear hK K)
          refine Mix.take_exC _ _ 17 rfl (by kernel_rfl) (by kernel_rfl) (by kernel_rfl) (by kernel_rfl) (fun K hK => ?_)
          go_simp
          first | (refine hK _ ?_; clear hK K) | (apply Exists.intro; refine ⟨fun x => ?_, hK _ ?_⟩; (fail); clear hK K)
          refine Mix.take_exC _ _ 18 rfl (by kernel_rfl) (by kernel_rfl) (by kernel_rfl) (by kernel_rfl) (fun K hK => ?_)
          go_simp
          first | (refine hK _ ?_; clear hK K) | (apply Exists.intro; refine ⟨fun x => ?_, hK _ ?_⟩; (fail); clear hK K)
          refine Mix.take_exC _ _ 19 rfl (by kernel_rfl) (by kernel_rfl) (by kernel_rfl) (by kernel_rfl) (fun K hK => ?_)
          go_simp
          first | (refine hK _ ?_; clear hK K) | (apply Exists.intro; refine ⟨fun x => ?_, hK _ ?_⟩; (fail); clear hK K)
          refine Mix.take_exC _ _ 20 rfl (by kernel_rfl) (by kernel_rfl) (by kernel_rfl) (by kernel_rfl) (fun K hK => ?_)
          go_simp
          first | (refine hK _ ?_; clear hK K) | (apply Exists.intro; refine ⟨fun x => ?_, hK _ ?_⟩; (fail); clear hK K)
          refine Mix.all (rs := [21]) (by kernel_rfl) (by simp) (.of_below _ hb5) ?_
          intro i6 hi6 w6 hb6 hC6
          simp only [List.mem_cons, List.not_mem_nil, or_false] at hi6
          subst hi6
          have HB6 := Lib.hid (bt hb5 hb6)
          clear hC6 hb5 hb6
          refine Mix.op rfl (by kernel_rfl) ?_
          go_simp
          refine (voissue (HQ.out.ov.below HB6.out) (Nat.le_trans HQ.out.bel.size HB6.out.size) ⟨xi, xf, xa, .slice va xs.length vc, xs, xu⟩ (HGO.out.on HB6.out)).mono ?_
          rintro e w7 ⟨rfl, K', h7, hc7, -⟩
          refine ⟨_, rfl, ?_⟩
          have HC7 := Lib.hid ((Chg.of_below K HB6.out).same hc7)
          have H7 := Lib.hid h7
          clear h7 hc7
          refine Mix.take_exC _ _ 22 rfl (by kernel_rfl) (by kernel_rfl) (by kernel_rfl) (by kernel_rfl) (fun K hK => ?_)
          go_simp
          first | (refine hK _ ?_; clear hK K) | (apply Exists.intro; refine ⟨fun x => ?_, hK _ ?_⟩; (fail); clear hK K)
          refine Mix.take_exC _ _ 23 rfl (by kernel_rfl) (by kernel_rfl) (by kernel_rfl) (by kernel_rfl) (fun K hK => ?_)
          go_simp
          first | (refine hK _ ?_; clear hK K) | (apply Exists.intro; refine ⟨fun x => ?_, hK _ ?_⟩; (fail); clear hK K)
          refine Mix.take_exC _ _ 24 rfl (by kernel_rfl) (by kernel_rfl) (by kernel_rfl) (by kernel_rfl) (fun K hK => ?_)
          go_simp
          first | (refine hK _ ?_; clear hK K) | (apply Exists.intro; refine ⟨fun x => ?_, hK _ ?_⟩; (fail); clear hK K)
          refine Mix.take_exC _ _ 25 rfl (by kernel_rfl) (by kernel_rfl) (by kernel_rfl) (by kernel_rfl) (fun K hK => ?_)
          go_simp
          first | (refine hK _ ?_; clear hK K) | (apply Exists.intro; refine ⟨fun x => ?_, hK _ ?_⟩; (fail); clear hK K)
          refine Mix.take_exC _ _ 26 rfl (by kernel_rfl) (by kernel_rfl) (by kernel_rfl) (by kernel_rfl) (fun K hK => ?_)
          go_simp
          first | (refine hK _ ?_; clear hK K) | (apply Exists.intro; refine ⟨fun x => ?_, hK _ ?_⟩; (fail); clear hK K)
          refine Mix.done (by kernel_rfl) HC7.out ?_
          intro w8 hb8
          have HI := Lib.hid (HQ.out.act (a := ⟨false, ⟨xi, xf, xa, .slice va xs.length vc, xs, xu⟩⟩) (H7.out.below hb8) (HC7.out.then_below hb8))
          have HCN := Lib.hid HQ.out.ov.cnt
          clear hb8 H7 HC7
          have hl0 := HCN.out.1; have hl1 := HCN.out.2.1; have hl2 := HCN.out.2.2
          have hwr : IntKind.i64.wrap (last + 1) = last + 1 := IntWalk.i64_in _ (by omega)
          by_cases hok : PfOk (Ofr.pl ⟨xi, xf, xa, .slice va xs.length vc, xs, xu⟩)
          · by_cases hlg : last < great
            · have e1 : issN great last (Ofr.pl ⟨xi, xf, xa, .slice va xs.length vc, xs, xu⟩) = last + 1 := if_pos ⟨hok, hlg⟩
              have e2 : issE great last (Ofr.pl ⟨xi, xf, xa, .slice va xs.length vc, xs, xu⟩) = 0 := by unfold issE; rw [if_pos hok, if_pos hlg]
              have e3 : actL great last ⟨false, ⟨xi, xf, xa, .slice va xs.length vc, xs, xu⟩⟩ = last + 1 := (show issL great last _ = last + 1 from if_pos ⟨hok, hlg⟩)
              rw [e1, e2]
              rw [e3] at HI
              have hng : ¬ great < last + 1 := by omega
              have hb1 : (last + 1 != last + 1) = false := by simp
              clear e1 e2 e3 hok hlg
              clear c0 c1 c2 c3 c4 c5 hbs4 hnK
              go_wp2
              go_roundw
              case rel => exact ⟨t + 1, _, _, _, by omega, by go_num, rfl, HI⟩
              case measure => simp [intOf]; omega
            · have e1 : issN great last (Ofr.pl ⟨xi, xf, xa, .slice va xs.length vc, xs, xu⟩) = 0 := if_neg fun h => hlg h.2
              have e2 : issE great last (Ofr.pl ⟨xi, xf, xa, .slice va xs.length vc, xs, xu⟩) = 34 := by unfold issE; rw [if_pos hok, if_neg hlg]
              have e3 : actL great last ⟨false, ⟨xi, xf, xa, .slice va xs.length vc, xs, xu⟩⟩ = last := (show issL great last _ = last from if_neg fun h => hlg h.2)
              rw [e1, e2]
              rw [e3] at HI
              clear e1 e2 e3 hok hlg
              clear c0 c1 c2 c3 c4 c5 hbs4 hnK
              go_wp2
              go_roundw
              case rel => exact ⟨t + 1, _, _, _, by omega, by go_num, rfl, HI⟩
              case measure => simp [intOf]; omega
          · have e1 : issN great last (Ofr.pl ⟨xi, xf, xa, .slice va xs.length vc, xs, xu⟩) = 0 := if_neg fun h => hok h.1
            have e2 : issE great last (Ofr.pl ⟨xi, xf, xa, .slice va xs.length vc, xs, xu⟩) = 41 := by unfold issE; rw [if_neg hok]
            have e3 : actL great last ⟨false, ⟨xi, xf, xa, .slice va xs.length vc, xs, xu⟩⟩ = last := (show issL great last _ = last from if_neg fun h => hok h.1)
            rw [e1, e2]
            rw [e3] at HI
            clear e1 e2 e3 hok
            clear c0 c1 c2 c3 c4 c5 hbs4 hnK
            go_wp2
            go_roundw
            case rel => exact ⟨t + 1, _, _, _, by omega, by go_num, rfl, HI⟩
            case measure => simp [intOf]; omega
      · obtain rfl : n = t := by omega
        go_wp2_with fail
        refine (volast HQ.out.ov).mono ?_
        rintro e w5 ⟨rfl, rfl⟩
        go_wp2_with fail
        refine (works24 w5).mono ?_
        rintro e w6 ⟨rfl, hb6⟩
        have HB := Lib.hid (HQ.out.bel.trans (hb6.mono HQ.out.bel.size))
        clear hb6
        go_wp2
        go_ret
        exact ⟨rfl, HB.out⟩
  · have hFF : decide (l.length ≤ 100 ∧ (l.map oaW).sum ≤ 400) = false := decide_eq_false hfew
    go_enter Try.func7, Try.ntmps7
    go_wp2_with fail
    refine HF.out.mono ?_
    rintro e w1 ⟨rfl, rfl⟩
    rw [hFF]
    clear hfew
    go_wp2
    go_ret
    exact ⟨rfl, Below.refl _ _⟩
end Go.Proofs.Ytnckjacbkhoppaa

/- offers: the walk of OffersShared: acts, and what is out then. -/
import Derived.Test.YtnckjacbkhoppaaOh0
namespace Go.Proofs.Ytnckjacbkhoppaa
open Go.RowKit Go.Maps
attribute [local go_sem] ext_cell ext_frozen extC_cell extC_frozen Mix.calmUpon Mix.mUpon eq4
theorem cnt_at {α : Type} {P : List α} {q : α → Bool} {t : Nat} {y : α} (hy : P[t]? = some y) : ((P.take (t + 1)).filter q).length = ((P.take t).filter q).length + (if q y = true then 1 else 0) := by
  rw [take_at hy, List.filter_append, List.length_append, List.filter_cons]
  split <;> rfl
theorem cnt_one {l : List Int} (hs : l.Pairwise (· < ·)) {i : Int} (hi : i ∈ l) : (l.filter fun x => x == i).length = 1 := by
  induction l with
  | nil => cases hi
  | cons a t ih =>
    obtain ⟨h1, h2⟩ := List.pairwise_cons.1 hs
    rcases List.mem_cons.1 hi with rfl | hi
    · rw [List.filter_cons, if_pos (by simp), List.filter_eq_nil_iff.2 fun x hx => by have := h1 x hx; simp; omega]; rfl
    · have := h1 i hi
      rw [List.filter_cons, if_neg (by simp; omega)]
      exact ih h2 hi
theorem fnd_in {P : List Pf} (hs : (P.map (·.1)).Pairwise (· < ·)) {p : Pf} (hp : p ∈ P) : fndP P p.1 = some p :=
  Srt.In.fnd (key := fun x : Pf => x.1) (lt := fun a b => decide (a.1 < b.1)) ((List.pairwise_map.1 hs).imp fun {a b} h => ⟨by simpa using h, fun e => by have e : a.1 = b.1 := e; omega⟩) hp
theorem ids_sorted {P : List Pf} (hs : (P.map (·.1)).Pairwise (· < ·)) (q : Pf → Bool) : ((P.filter q).map (·.1)).Pairwise (· < ·) :=
  List.pairwise_map.2 ((List.pairwise_map.1 hs).filter q)
theorem sorted_nx {l : List Int} (hs : l.Pairwise (· < ·)) {k : Nat} {a b : Int} (ha : l[k]? = some a) (hb : l[k + 1]? = some b) : a < b := by
  obtain ⟨h1, rfl⟩ := List.getElem?_eq_some_iff.1 ha
  obtain ⟨h2, rfl⟩ := List.getElem?_eq_some_iff.1 hb
  exact List.pairwise_iff_getElem.1 hs k (k + 1) h1 h2 (by omega)
set_option maxRecDepth 100000 in
set_option maxHeartbeats 8000000 in
theorem shared24 (v : Value) (l : List Oa) (W : World) (hr : RS 6 oaenc W v l) (ha : ∀ x ∈ l, OIn W x.o) :
    Calls Try.prog 8 #[v] W fun e w' => e = .returned (.bool true) ∧ Below W.heap.size W w' := by
  have HF := Lib.hid (few24 v l W hr ha)
  obtain ⟨a, n, c, rfl, hn, hc, hm, hat⟩ := hr.at_
  have HN := Lib.hid hn; have HAT := Lib.hid hat; have HA := Lib.hid ha
  clear hr hn hat ha hm hc
  by_cases hfew : l.length ≤ 100 ∧ (l.map oaW).sum ≤ 400
  · have hFT : decide (l.length ≤ 100 ∧ (l.map oaW).sum ≤ 400) = true := decide_eq_true hfew
    have HFT := Lib.hid hFT
    have HLE := Lib.hid (few_eachO hfew.2)
    have hn100 : n ≤ 100 := by rw [HN.out]; exact hfew.1
    clear hfew hFT
    go_enter Try.func8, Try.ntmps8
    go_wp2_with fail
    refine HF.out.mono ?_
    rintro e w1 ⟨rfl, rfl⟩
    rw [HFT.out]
    go_wp2_with fail
    refine (vonew w1 (last := 9007199254740992) (by decide) (by decide)).mono ?_
    rintro e w2 ⟨rfl, h2, hb2⟩
    have HI := Lib.hid (show OS w1 w2 (w1.heap.size + 3) 9007199254740992 0 [] (fun b => w1.heap.size ≤ b ∧ b < w2.heap.size) 0 from ⟨h2, hb2, Nat.le_refl _⟩)
    clear h2 hb2
    obtain ⟨tp, htp⟩ : ∃ tp, tp = w1.heap.size + 3 := ⟨_, rfl⟩
    rw [← htp] at HI ⊢
    have HTP := Lib.hid (show w1.heap.size ≤ tp by omega)
    clear htp
    generalize (fun b => w1.heap.size ≤ b ∧ b < w2.heap.size) = K0 at *
    go_wp2
    go_loopw [4] (fun iv wr => ∃ (t : Nat) (last : Int) (P : List Pf) (K : Nat → Prop), t ≤ n ∧ iv = .int .i64 t ∧ Hid (OS w1 wr tp 9007199254740992 last P K t)) (fun iv _ => n - (intOf iv).toNat)
    case atStart => exact ⟨0, 0, [], K0, Nat.zero_le _, rfl, HI⟩
    case round =>
      clear HI
      obtain ⟨t, last, P, K, ht, rfl, HQ⟩ := hrel
      obtain ⟨w4, rfl⟩ : ∃ w4, w4 = wr := ⟨_, rfl⟩
      by_cases hlt : t < n
      · have hts : (t : Int) < (n : Int) := by omega
        obtain ⟨x, hx⟩ := at_lt (l := l) (i := t) (by rw [← HN.out]; exact hlt)
        obtain ⟨bs, off, rfl, hbs, hcell⟩ := HAT.out t x hx
        have hxi := HA.out x (mem_at hx)
        have hxl := HLE.out x (mem_at hx)
        have hbw := HQ.out.bel
        have c0 := (hbw.cell (p := ⟨bs, _, none⟩) hbs).trans (hcell 0 _ rfl)
        have c1 := (hbw.cell (p := ⟨bs, _, none⟩) hbs).trans (hcell 1 _ rfl)
        have c2 := (hbw.cell (p := ⟨bs, _, none⟩) hbs).trans (hcell 2 _ rfl)
        have c3 := (hbw.cell (p := ⟨bs, _, none⟩) hbs).trans (hcell 3 _ rfl)
        have c4 := (hbw.cell (p := ⟨bs, _, none⟩) hbs).trans (hcell 4 _ rfl)
        have c5 := (hbw.cell (p := ⟨bs, _, none⟩) hbs).trans (hcell 5 _ rfl)
        simp only [Nat.add_zero] at c0
        have hbs4 : bs < w4.heap.size := Nat.lt_of_lt_of_le hbs hbw.size
        have hnK : ¬ K bs := fun e => by have := (HQ.out.ov.hK bs e).1; omega
        have HGO := Lib.hid (hxi.go hbw hxl HTP.out)
        have HID := Lib.hid hxi.id
        obtain ⟨xe, ⟨xi, xf, xa, xv, xs, xu⟩⟩ := x
        obtain ⟨va, vc, hvv, -, -⟩ := hxi.vc.form
        simp only at hvv HID c0 c1 c2 c3 c4 c5
        subst hvv
        have HPL := Lib.hid (show P.length < 1000000 from by have := HQ.out.len; omega)
        clear hcell hx hxi hxl hbw hbs
        cases xe with
        | true =>
          go_wp2_with fail
          refine (voclose HQ.out.ov HPL.out HID.out).mono ?_
          rintro e w5 ⟨⟨z, rfl, -, -, -⟩, h5, hc5⟩
          have HI := Lib.hid (HQ.out.act (a := ⟨true, ⟨xi, xf, xa, .slice va xs.length vc, xs, xu⟩⟩) h5 hc5)
          clear h5 hc5
          clear c0 c1 c2 c3 c4 c5 hbs4 hnK
          go_wp2
          go_roundw
          case rel => exact ⟨t + 1, _, _, _, by omega, by go_num, HI⟩
          case measure => simp [intOf]; omega
        | false =>
          go_wp2
          refine Mix.regionC K (by kernel_rfl) ?_
          intro w5 hb5
          refine Mix.take_exC _ _ 0 rfl (by kernel_rfl) (by kernel_rfl) (by kernel_rfl) (by kernel_rfl) (fun K hK => ?_)
          go_simp
          first | (refine hK _ ?_; clear hK K) | (apply Exists.intro; refine ⟨fun x => ?_, hK _ ?_⟩; (fail); clear hK K)
          refine Mix.take_exC _ _ 1 rfl (by kernel_rfl) (by kernel_rfl) (by kernel_rfl) (by kernel_rfl) (fun K hK => ?_)
          go_simp
          first | (refine hK _ ?_; clear hK K) | (apply Exists.intro; refine ⟨fun x => ?_, hK _ ?_⟩; (fail); clear hK K)
          refine Mix.take_exC _ _ 2 rfl (by kernel_rfl) (by kernel_rfl) (by kernel_rfl) (by kernel_rfl) (fun K hK => ?_)
          go_simp
          first | (refine hK _ ?_; clear hK K) | (apply Exists.intro; refine ⟨fun x => ?_, hK _ ?_⟩; (fail); clear hK K)
          refine Mix.take_exC _ _ 3 rfl (by kernel_rfl) (by kernel_rfl) (by kernel_rfl) (by kernel_rfl) (fun K hK => ?_)
          go_simp
          first | (refine hK _ ?_; clear hK K) | (apply Exists.intro; refine ⟨fun x => ?_, hK _ ?_⟩; (fail); clear hK K)
          refine Mix.take_exC _ _ 4 rfl (by kernel_rfl) (by kernel_rfl) (by kernel_rfl) (by kernel_rfl) (fun K hK => ?_)
          go_simp
          first | (refine hK _ ?_; clear hK K) | (apply Exists.intro; refine ⟨fun x => ?_, hK _ ?_⟩; (fail); clear hK K)
          refine Mix.take_exC _ _ 5 rfl (by kernel_rfl) (by kernel_rfl) (by kernel_rfl) (by kernel_rfl) (fun K hK => ?_)
          go_simp
          first | (refine hK _ ?_; clear hK K) | (apply Exists.intro; refine ⟨fun x => ?_, hK _ ?_⟩; (fail); clear hK K)
          refine Mix.take_exC _ _ 6 rfl (by kernel_rfl) (by kernel_rfl) (by kernel_rfl) (by kernel_rfl) (fun K hK => ?_)
          go_simp
          first | (refine hK _ ?_; clear hK K) | (apply Exists.intro; refine ⟨fun x => ?_, hK _ ?_⟩; (fail); clear hK K)
          refine Mix.take_exC _ _ 7 rfl (by kernel_rfl) (by kernel_rfl) (by kernel_rfl) (by kernel_rfl) (fun K hK => ?_)
          go_simp
          first | (refine hK _ ?_; clear hK K) | (apply Exists.intro; refine ⟨fun x => ?_, hK _ ?_⟩; (fail); clear hK K)
          refine Mix.take_exC _ _ 8 rfl (by kernel_rfl) (by kernel_rfl) (by kernel_rfl) (by kernel_rfl) (fun K hK => ?_)
          go_simp
          first | (refine hK _ ?_; clear hK K) | (apply Exists.intro; refine ⟨fun x => ?_, hK _ ?_⟩; (fail); clear hK K)
          refine Mix.take_exC _ _ 9 rfl (by kernel_rfl) (by kernel_rfl) (by kernel_rfl) (by kernel_rfl) (fun K hK => ?_)
          go_simp
          first | (refine hK _ ?_; clear hK K) | (apply Exists.intro; refine ⟨fun x => ?_, hK _ ?_⟩; (fail); clear hK K)
          refine Mix.take_exC _ _ 10 rfl (by kernel_rfl) (by kernel_rfl) (by kernel_rfl) (by kernel_rfl) (fun K hK => ?_)
          go_simp
          first | (refine hK _ ?_; clear hK K) | (apply Exists.intro; refine ⟨fun x => ?_, hK _ ?_⟩; (fail); clear hK K)
          refine Mix.take_exC _ _ 11 rfl (by kernel_rfl) (by kernel_rfl) (by kernel_rfl) (by kernel_rfl) (fun K hK => ?_)
          go_simp
          first | (refine hK _ ?_; clear hK K) | (apply Exists.intro; refine ⟨fun x => ?_, hK _ ?_⟩; (fail); clear hK K)
          refine Mix.take_exC _ _ 12 rfl (by kernel_rfl) (by kernel_rfl) (by kernel_rfl) (by kernel_rfl) (fun K hK => ?_)
          go_simp
          first | (refine hK _ ?_; clear hK K) | (apply Exists.intro; refine ⟨fun x => ?_, hK _ ?_⟩; (fail); clear hK K)
          refine Mix.take_exC _ _ 13 rfl (by kernel_rfl) (by kernel_rfl) (by kernel_rfl) (by kernel_rfl) (fun K hK => ?_)
          go_simp
          first | (refine hK _ ?_; clear hK K) | (apply Exists.intro; refine ⟨fun x => ?_, hK _ ?_⟩; (fail); clear hK K)
          refine Mix.take_exC _ _ 14 rfl (by kernel_rfl) (by kernel_rfl) (by kernel_rfl) (by kernel_rfl) (fun K hK => ?_)
          go_simp
          first | (refine hK _ ?_; clear hK K) | (apply Exists.intro; refine ⟨fun x => ?_, hK _ ?_⟩; (fail); clear hK K)
          refine Mix.take_exC _ _ 15 rfl (by kernel_rfl) (by kernel_rfl) (by kernel_rfl) (by kernel_rfl) (fun K hK => ?_)
          go_simp
          first | (refine hK _ ?_; clear hK K) | (apply Exists.intro; refine ⟨fun x => ?_, hK _ ?_⟩; (fail); clear hK K)
          refine Mix.take_exC _ _ 16 rfl (by kernel_rfl) (by kernel_rfl) (by kernel_rfl) (by kernel_rfl) (fun K hK => ?_)
          go_simp
          first | (refine hK _ ?_; clear hK K) | (apply Exists.intro; refine ⟨fun x => ?_, hK _ ?_⟩; (fail); clear hK K)
          refine Mix.take_exC _ _ 17 rfl (by kernel_rfl) (by kernel_rfl) (by kernel_rfl) (by kernel_rfl) (fun K hK => ?_)
          go_simp
          first | (refine hK _ ?_; clear hK K) | (apply Exists.intro; refine ⟨fun x => ?_, hK _ ?_⟩; (fail); clear hK K)
          refine Mix.take_exC _ _ 18 rfl (by kernel_rfl) (by kernel_rfl) (by kernel_rfl) (by kernel_rfl) (fun K hK => ?_)
          go_simp
          first | (refine hK _ ?_; clear hK K) | (apply Exists.intro; refine ⟨fun x => ?_, hK _ ?_⟩; (fail); clear hK K)
          refine Mix.take_exC _ _ 19 rfl (by kernel_rfl) (by kernel_rfl) (by kernel_rfl) (by kernel_rfl) (fun K hK => ?_)
          go_simp
          first | (refine hK _ ?_; clear hK K) | (apply Exists.intro; refine ⟨fun x => ?_, hK _ ?_⟩; (fail); clear hK K)
          refine Mix.take_exC _ _ 20 rfl (by kernel_rfl) (by kernel_rfl) (by kernel_rfl) (by kernel_rfl) (fun K hK => ?_)
          go_simp
          first | (refine hK _ ?_; clear hK K) | (apply Exists.intro; refine ⟨fun x => ?_, hK _ ?_⟩; (fail); clear hK K)
          refine Mix.all (rs := [21]) (by kernel_rfl) (by simp) (.of_below _ hb5) ?_
          intro i6 hi6 w6 hb6 hC6
          simp only [List.mem_cons, List.not_mem_nil, or_false] at hi6
          subst hi6
          have HB6 := Lib.hid (bt hb5 hb6)
          clear hC6 hb5 hb6
          refine Mix.op rfl (by kernel_rfl) ?_
          go_simp
          refine (voissue (HQ.out.ov.below HB6.out) (Nat.le_trans HQ.out.bel.size HB6.out.size) ⟨xi, xf, xa, .slice va xs.length vc, xs, xu⟩ (HGO.out.on HB6.out)).mono ?_
          rintro e w7 ⟨rfl, K', h7, hc7, -⟩
          refine ⟨_, rfl, ?_⟩
          have HC7 := Lib.hid ((Chg.of_below K HB6.out).same hc7)
          have H7 := Lib.hid h7
          clear h7 hc7
          refine Mix.done (by kernel_rfl) HC7.out ?_
          intro w8 hb8
          have HI := Lib.hid (HQ.out.act (a := ⟨false, ⟨xi, xf, xa, .slice va xs.length vc, xs, xu⟩⟩) (H7.out.below hb8) (HC7.out.then_below hb8))
          clear hb8 H7 HC7
          clear c0 c1 c2 c3 c4 c5 hbs4 hnK
          go_wp2
          go_roundw
          case rel => exact ⟨t + 1, _, _, _, by omega, by go_num, HI⟩
          case measure => simp [intOf]; omega
      · obtain rfl : n = t := by omega
        have hPl : P.length < 1000000 := by have := HQ.out.len; omega
        have hPl9 : P.length ≤ 100 := by have := HQ.out.len; omega
        clear hlt ht
        go_wp2_with fail
        refine (voall HQ.out.ov hPl).mono ?_
        rintro e w5 ⟨va, la, rfl, hla, hpa, -, -, hb5⟩
        have HQ5 := Lib.hid (HQ.out.on hb5)
        have HLA := Lib.hid hla; have HPA := Lib.hid hpa
        clear hb5 hla hpa
        obtain ⟨aa, m, ca, rfl, hmm, -, hmx, hata⟩ := HLA.out.rs.at_
        have HMP := Lib.hid (show m = P.length from by rw [hmm, ← HPA.out, List.length_map])
        have HMM := Lib.hid hmm; have HATA := Lib.hid hata
        have hm9 : m ≤ 100 := by have := HMP.out; omega
        clear hmm hata hmx
        have HS := Lib.hid HQ5.out.ov.srt
        go_wp2
        go_loopw [6] (fun iv wr => ∃ t : Nat, t ≤ m ∧ iv = .int .i64 t ∧ Hid (Below w5.heap.size w5 wr)) (fun iv _ => m - (intOf iv).toNat)
        case atStart => exact ⟨0, Nat.zero_le _, rfl, Lib.hid (Below.refl _ _)⟩
        case round =>
          obtain ⟨t, ht, rfl, HB⟩ := hrel
          obtain ⟨w6, rfl⟩ : ∃ w6, w6 = wr := ⟨_, rfl⟩
          by_cases hlt : t < m
          · have hts : (t : Int) < (m : Int) := by omega
            obtain ⟨x, hx⟩ := at_lt (l := la) (i := t) (by rw [← HMM.out]; exact hlt)
            obtain ⟨bs, off, rfl, hbs, hcell⟩ := HATA.out t x hx
            have HXP := Lib.hid (show x.pl ∈ P from by rw [← HPA.out]; exact List.mem_map_of_mem (mem_at hx))
            have HXN := Lib.hid (HQ5.out.ov.num _ HXP.out)
            have HBS := Lib.hid hbs
            obtain ⟨xi, xf, xa, xv, xs, xu⟩ := x
            have HD := Lib.hid (show w5.cell? ⟨bs, off + t * 5, none⟩ = some (.int .i64 xi) ∧ w5.cell? ⟨bs, off + t * 5 + 1, none⟩ = some (.int .i64 xf) ∧ w5.cell? ⟨bs, off + t * 5 + 2, none⟩ = some (.int .i64 xa) from ⟨hcell 0 _ rfl, hcell 1 _ rfl, hcell 2 _ rfl⟩)
            clear hcell hx hbs
            have d1 := (HB.out.cell (p := ⟨bs, _, none⟩) HBS.out).trans HD.out.2.1
            have d2 := (HB.out.cell (p := ⟨bs, _, none⟩) HBS.out).trans HD.out.2.2
            have dl : bs < w6.heap.size := Nat.lt_of_lt_of_le HBS.out HB.out.size
            go_wp2
            refine Mix.regionC (fun _ => False) (by kernel_rfl) ?_
            intro w7 hb7
            refine Mix.take_exC _ _ 0 rfl (by kernel_rfl) (by kernel_rfl) (by kernel_rfl) (by kernel_rfl) (fun K hK => ?_)
            go_simp
            first | (refine hK _ ?_; clear hK K) | (apply Exists.intro; refine ⟨fun x => ?_, hK _ ?_⟩; (fail); clear hK K)
            refine Mix.take_exC _ _ 1 rfl (by kernel_rfl) (by kernel_rfl) (by kernel_rfl) (by kernel_rfl) (fun K hK => ?_)
            go_simp
            first | (refine hK _ ?_; clear hK K) | (apply Exists.intro; refine ⟨fun x => ?_, hK _ ?_⟩; (fail); clear hK K)
            refine Mix.take_exC _ _ 2 rfl (by kernel_rfl) (by kernel_rfl) (by kernel_rfl) (by kernel_rfl) (fun K hK => ?_)
            go_simp
            first | (refine hK _ ?_; clear hK K) | (apply Exists.intro; refine ⟨fun x => ?_, hK _ ?_⟩; (fail); clear hK K)
            refine Mix.take_exC _ _ 3 rfl (by kernel_rfl) (by kernel_rfl) (by kernel_rfl) (by kernel_rfl) (fun K hK => ?_)
            go_simp
            first | (refine hK _ ?_; clear hK K) | (apply Exists.intro; refine ⟨fun x => ?_, hK _ ?_⟩; (fail); clear hK K)
            refine Mix.take_exC _ _ 4 rfl (by kernel_rfl) (by kernel_rfl) (by kernel_rfl) (by kernel_rfl) (fun K hK => ?_)
            go_simp
            first | (refine hK _ ?_; clear hK K) | (apply Exists.intro; refine ⟨fun x => ?_, hK _ ?_⟩; (fail); clear hK K)
            refine Mix.take_exC _ _ 5 rfl (by kernel_rfl) (by kernel_rfl) (by kernel_rfl) (by kernel_rfl) (fun K hK => ?_)
            go_simp
            first | (refine hK _ ?_; clear hK K) | (apply Exists.intro; refine ⟨fun x => ?_, hK _ ?_⟩; (fail); clear hK K)
            refine Mix.take_exC _ _ 7 rfl (by kernel_rfl) (by kernel_rfl) (by kernel_rfl) (by kernel_rfl) (fun K hK => ?_)
            go_simp
            first | (refine hK _ ?_; clear hK K) | (apply Exists.intro; refine ⟨fun x => ?_, hK _ ?_⟩; (fail); clear hK K)
            refine Mix.take_exC _ _ 8 rfl (by kernel_rfl) (by kernel_rfl) (by kernel_rfl) (by kernel_rfl) (fun K hK => ?_)
            go_simp
            first | (refine hK _ ?_; clear hK K) | (apply Exists.intro; refine ⟨fun x => ?_, hK _ ?_⟩; (fail); clear hK K)
            refine Mix.take_exC _ _ 9 rfl (by kernel_rfl) (by kernel_rfl) (by kernel_rfl) (by kernel_rfl) (fun K hK => ?_)
            go_simp
            first | (refine hK _ ?_; clear hK K) | (apply Exists.intro; refine ⟨fun x => ?_, hK _ ?_⟩; (fail); clear hK K)
            refine Mix.take_exC _ _ 10 rfl (by kernel_rfl) (by kernel_rfl) (by kernel_rfl) (by kernel_rfl) (fun K hK => ?_)
            go_simp
            first | (refine hK _ ?_; clear hK K) | (apply Exists.intro; refine ⟨fun x => ?_, hK _ ?_⟩; (fail); clear hK K)
            refine Mix.take_exC _ _ 11 rfl (by kernel_rfl) (by kernel_rfl) (by kernel_rfl) (by kernel_rfl) (fun K hK => ?_)
            go_simp
            first | (refine hK _ ?_; clear hK K) | (apply Exists.intro; refine ⟨fun x => ?_, hK _ ?_⟩; (fail); clear hK K)
            refine Mix.take_exC _ _ 12 rfl (by kernel_rfl) (by kernel_rfl) (by kernel_rfl) (by kernel_rfl) (fun K hK => ?_)
            go_simp
            first | (refine hK _ ?_; clear hK K) | (apply Exists.intro; refine ⟨fun x => ?_, hK _ ?_⟩; (fail); clear hK K)
            refine Mix.all (rs := [6]) (by kernel_rfl) (by simp) (.of_below _ hb7) ?_
            intro i8 hi8 w8 hb8 hC8
            simp only [List.mem_cons, List.not_mem_nil, or_false] at hi8
            subst hi8
            have HB8 := Lib.hid (bt hb7 hb8)
            clear hC8 hb7 hb8
            refine Mix.op rfl (by kernel_rfl) ?_
            go_simp
            refine (voof (HQ5.out.on (HB.out.trans (HB8.out.mono HB.out.size))).ov hPl (f := xf) HXN.out.2.1.2).mono ?_
            rintro e w9 ⟨vx, rfl, hrx, -, hb9⟩
            refine ⟨_, rfl, ?_⟩
            have HRX := Lib.hid hrx
            have HB9 := Lib.hid (bt HB8.out hb9)
            clear hrx hb9
            refine Mix.all (rs := [13]) (by kernel_rfl) (by simp) (.of_below _ HB9.out) ?_
            intro i10 hi10 w10 hb10 hC10
            simp only [List.mem_cons, List.not_mem_nil, or_false] at hi10
            subst hi10
            have HB10 := Lib.hid (bt HB9.out hb10)
            have HRX := Lib.hid (HRX.out.below hb10)
            clear hC10 hb10
            refine Mix.op rfl (by kernel_rfl) ?_
            go_simp
            refine (voon (HQ5.out.on (HB.out.trans (HB10.out.mono HB.out.size))).ov hPl (f := xa) HXN.out.2.2.1.2).mono ?_
            rintro e w11 ⟨vy, rfl, hry, -, hb11⟩
            refine ⟨_, rfl, ?_⟩
            have HB11 := Lib.hid (bt HB10.out hb11)
            have HRX := Lib.hid (HRX.out.below hb11)
            have HRY := Lib.hid hry
            clear hb11 hry
            refine Mix.take_exC _ _ 14 rfl (by kernel_rfl) (by kernel_rfl) (by kernel_rfl) (by kernel_rfl) (fun K hK => ?_)
            go_simp
            first | (refine hK _ ?_; clear hK K) | (apply Exists.intro; refine ⟨fun x => ?_, hK _ ?_⟩; (fail); clear hK K)
            refine Mix.take_exC _ _ 15 rfl (by kernel_rfl) (by kernel_rfl) (by kernel_rfl) (by kernel_rfl) (fun K hK => ?_)
            go_simp
            first | (refine hK _ ?_; clear hK K) | (apply Exists.intro; refine ⟨fun x => ?_, hK _ ?_⟩; (fail); clear hK K)
            refine Mix.done (by kernel_rfl) (.of_below _ HB11.out) ?_
            intro w12 hb12
            have HB12 := Lib.hid (HB.out.trans ((bt HB11.out hb12).mono HB.out.size))
            have HRX := Lib.hid (HRX.out.below hb12)
            have HRY := Lib.hid (HRY.out.below hb12)
            clear hb12 d1 d2 dl
            obtain ⟨ax, nx, cx, rfl, hnx, -, hmx1, hatx⟩ := HRX.out.at_
            obtain ⟨ay, ny, cy, rfl, hny, -, hmy1, haty⟩ := HRY.out.at_
            have hnx9 : nx ≤ 100 := by
              rw [hnx, List.length_map]; exact Nat.le_trans (List.length_filter_le _ _) hPl9
            have hny9 : ny ≤ 100 := by
              rw [hny, List.length_map]; exact Nat.le_trans (List.length_filter_le _ _) hPl9
            have HNX := Lib.hid hnx; have HNY := Lib.hid hny; have HATX := Lib.hid hatx; have HATY := Lib.hid haty
            have HSX := Lib.hid (ids_sorted HS.out fun x => x.2.1 == xf)
            have HSY := Lib.hid (ids_sorted HS.out fun x => x.2.2.1 == xa)
            have HX1 := Lib.hid (cnt_one HSX.out (i := xi) (List.mem_map.2 ⟨_, List.mem_filter.2 ⟨HXP.out, by show (xf == xf) = true; simp⟩, rfl⟩))
            have HY1 := Lib.hid (cnt_one HSY.out (i := xi) (List.mem_map.2 ⟨_, List.mem_filter.2 ⟨HXP.out, by show (xa == xa) = true; simp⟩, rfl⟩))
            have HYA := Lib.hid (show ∀ i ∈ (P.filter fun x => x.2.2.1 == xa).map (·.1), ∃ p : Pf, fndP P i = some p ∧ p.2.2.1 = xa ∧ I64 i from fun i hi => by
              obtain ⟨p, hp, rfl⟩ := List.mem_map.1 hi
              obtain ⟨hp1, hp2⟩ := List.mem_filter.1 hp
              have h1 := (HQ5.out.ov.num p hp1).1
              have h2 := HQ5.out.ov.cnt
              exact ⟨p, fnd_in HS.out hp1, by simpa using hp2, ⟨by omega, by omega⟩⟩)
            generalize (P.filter fun x => x.2.1 == xf).map (·.1) = X at *
            generalize (P.filter fun x => x.2.2.1 == xa).map (·.1) = Y at *
            have HDL := Lib.hid (show bs < w12.heap.size from Nat.lt_of_lt_of_le HBS.out HB12.out.size)
            clear hnx hny hatx haty hmx1 hmy1
            go_wp2
            go_loopw [7, 11] (fun sv iv wr => ∃ k : Nat, k ≤ nx ∧ iv = .int .i64 k ∧ sv = .int .i64 (((X.take k).filter fun x => x == xi).length : Nat) ∧ Hid (Below w12.heap.size w12 wr)) (fun _ iv _ => nx - (intOf iv).toNat)
            case atStart => exact ⟨0, Nat.zero_le _, rfl, by simp, Lib.hid (Below.refl _ _)⟩
            case round =>
              obtain ⟨k, hk, rfl, rfl, HBK⟩ := hrel
              obtain ⟨w13, rfl⟩ : ∃ w13, w13 = wr := ⟨_, rfl⟩
              have hle : ((X.take k).filter fun x => x == xi).length ≤ 100 := by
                have h1 := List.length_filter_le (fun x => x == xi) (X.take k)
                have h2 := List.length_take_le k X
                omega
              by_cases hlt : k < nx
              · have hks : (k : Int) < (nx : Int) := by omega
                obtain ⟨y, hy⟩ := at_lt (l := X) (i := k) (by rw [← HNX.out]; exact hlt)
                obtain ⟨bx, ox, rfl, hbx, hcx⟩ := HATX.out k y hy
                have e0 := (HBK.out.cell (p := ⟨bx, _, none⟩) hbx).trans (hcx 0 _ rfl)
                simp only [Nat.add_zero, Nat.mul_one] at e0
                have el : bx < w13.heap.size := Nat.lt_of_lt_of_le hbx HBK.out.size
                have e1 := ((HB12.out.trans (HBK.out.mono HB12.out.size)).cell (p := ⟨bs, _, none⟩) HBS.out).trans HD.out.1
                have e2 : bs < w13.heap.size := Nat.lt_of_lt_of_le HDL.out HBK.out.size
                have HCN := Lib.hid (cnt_at (q := fun x => x == xi) hy)
                clear hcx hy hbx
                go_wp2
                refine Mix.regionC (fun _ => False) (by kernel_rfl) ?_
                intro w14 hb14
                refine Mix.take_exC _ _ 0 rfl (by kernel_rfl) (by kernel_rfl) (by kernel_rfl) (by kernel_rfl) (fun K hK => ?_)
                go_simp
                first | (refine hK _ ?_; clear hK K) | (apply Exists.intro; refine ⟨fun x => ?_, hK _ ?_⟩; (fail); clear hK K)
                refine Mix.take_exC _ _ 1 rfl (by kernel_rfl) (by kernel_rfl) (by kernel_rfl) (by kernel_rfl) (fun K hK => ?_)
                go_simp
                first | (refine hK _ ?_; clear hK K) | (apply Exists.intro; refine ⟨fun x => ?_, hK _ ?_⟩; (fail); clear hK K)
                refine Mix.take_exC _ _ 2 rfl (by kernel_rfl) (by kernel_rfl) (by kernel_rfl) (by kernel_rfl) (fun K hK => ?_)
                go_simp
                first | (refine hK _ ?_; clear hK K) | (apply Exists.intro; refine ⟨fun x => ?_, hK _ ?_⟩; (fail); clear hK K)
                refine Mix.take_exC _ _ 3 rfl (by kernel_rfl) (by kernel_rfl) (by kernel_rfl) (by kernel_rfl) (fun K hK => ?_)
                go_simp
                first | (refine hK _ ?_; clear hK K) | (apply Exists.intro; refine ⟨fun x => ?_, hK _ ?_⟩; (fail); clear hK K)
                refine Mix.take_exC _ _ 4 rfl (by kernel_rfl) (by kernel_rfl) (by kernel_rfl) (by kernel_rfl) (fun K hK => ?_)
                go_simp
                first | (refine hK _ ?_; clear hK K) | (apply Exists.intro; refine ⟨fun x => ?_, hK _ ?_⟩; (fail); clear hK K)
                refine Mix.take_exC _ _ 5 rfl (by kernel_rfl) (by kernel_rfl) (by kernel_rfl) (by kernel_rfl) (fun K hK => ?_)
                go_simp
                first | (refine hK _ ?_; clear hK K) | (apply Exists.intro; refine ⟨fun x => ?_, hK _ ?_⟩; (fail); clear hK K)
                refine Mix.take_exC _ _ 6 rfl (by kernel_rfl) (by kernel_rfl) (by kernel_rfl) (by kernel_rfl) (fun K hK => ?_)
                go_simp
                first | (refine hK _ ?_; clear hK K) | (apply Exists.intro; refine ⟨fun x => ?_, hK _ ?_⟩; (fail); clear hK K)
                refine Mix.take_exC _ _ 7 rfl (by kernel_rfl) (by kernel_rfl) (by kernel_rfl) (by kernel_rfl) (fun K hK => ?_)
                go_simp
                first | (refine hK _ ?_; clear hK K) | (apply Exists.intro; refine ⟨fun x => ?_, hK _ ?_⟩; (fail); clear hK K)
                refine Mix.take_exC _ _ 8 rfl (by kernel_rfl) (by kernel_rfl) (by kernel_rfl) (by kernel_rfl) (fun K hK => ?_)
                go_simp
                first | (refine hK _ ?_; clear hK K) | (apply Exists.intro; refine ⟨fun x => ?_, hK _ ?_⟩; (fail); clear hK K)
                refine Mix.take_exC _ _ 9 rfl (by kernel_rfl) (by kernel_rfl) (by kernel_rfl) (by kernel_rfl) (fun K hK => ?_)
                go_simp
                first | (refine hK _ ?_; clear hK K) | (apply Exists.intro; refine ⟨fun x => ?_, hK _ ?_⟩; (fail); clear hK K)
                refine Mix.done (by kernel_rfl) (.of_below _ hb14) ?_
                intro w15 hb15
                have HB15 := Lib.hid (HBK.out.trans ((bt hb14 hb15).mono HBK.out.size))
                clear hb14 hb15 e0 e1 el e2
                generalize ((X.take k).filter fun x => x == xi).length = s at *
                by_cases hyx : y = xi
                · have hyb : (y == xi) = true := by simpa using hyx
                  have hc : ((X.take (k + 1)).filter fun x => x == xi).length = s + 1 := by have := HCN.out; rw [hyb] at this; exact this
                  have HC := Lib.hid hc
                  clear hyx hc
                  go_wp2
                  go_roundw
                  case rel => exact ⟨k + 1, by omega, by go_num, by rw [HC.out]; go_num, HB15⟩
                  case measure => simp [intOf]; omega
                · have hyb : (y == xi) = false := by simpa using hyx
                  have hc : ((X.take (k + 1)).filter fun x => x == xi).length = s := by have := HCN.out; rw [hyb] at this; exact this
                  have HC := Lib.hid hc
                  clear hyx hc
                  go_wp2
                  go_roundw
                  case rel => exact ⟨k + 1, by omega, by go_num, by rw [HC.out], HB15⟩
                  case measure => simp [intOf]; omega
              · obtain rfl : nx = k := by omega
                have hq1 : ((((X.take nx).filter fun x => x == xi).length : Nat) : Int) = 1 := by
                  rw [HNX.out, List.take_length, HX1.out]; rfl
                rw [hq1]
                have HB13 := Lib.hid (show Below w5.heap.size w5 w13 from HB12.out.trans (HBK.out.mono HB12.out.size))
                have HBA := Lib.hid HBK.out
                clear hle hq1 hlt hk
                go_wp2
                go_loopw [8, 12] (fun sv iv wr => ∃ k : Nat, k ≤ ny ∧ iv = .int .i64 k ∧ sv = .int .i64 (((Y.take k).filter fun x => x == xi).length : Nat) ∧ Hid (Below w13.heap.size w13 wr)) (fun _ iv _ => ny - (intOf iv).toNat)
                case atStart => exact ⟨0, Nat.zero_le _, rfl, by simp, Lib.hid (Below.refl _ _)⟩
                case round =>
                  obtain ⟨k, hk, rfl, rfl, HBK⟩ := hrel
                  obtain ⟨w14, rfl⟩ : ∃ w14, w14 = wr := ⟨_, rfl⟩
                  have hle : ((Y.take k).filter fun x => x == xi).length ≤ 100 := by
                    have h1 := List.length_filter_le (fun x => x == xi) (Y.take k)
                    have h2 := List.length_take_le k Y
                    omega
                  by_cases hlt : k < ny
                  · have hks : (k : Int) < (ny : Int) := by omega
                    obtain ⟨y, hy⟩ := at_lt (l := Y) (i := k) (by rw [← HNY.out]; exact hlt)
                    obtain ⟨bx, ox, rfl, hbx, hcx⟩ := HATY.out k y hy
                    have HBX := Lib.hid (show bx < w13.heap.size from Nat.lt_of_lt_of_le hbx HBA.out.size)
                    have hE0 : w14.cell? ⟨bx, ox + k, none⟩ = some (.int .i64 y) := by
                      have h1 := ((HBA.out.trans (HBK.out.mono HBA.out.size)).cell (p := ⟨bx, _, none⟩) hbx).trans (hcx 0 _ rfl)
                      simpa using h1
                    have HE0 := Lib.hid hE0
                    have HCN := Lib.hid (cnt_at (q := fun x => x == xi) hy)
                    have HPREV := Lib.hid (show ∀ j, k = j + 1 → ∃ z, z < y ∧ w14.cell? ⟨bx, ox + j, none⟩ = some (.int .i64 z) from fun j hj => by
                      subst hj
                      obtain ⟨z, hz⟩ := at_lt (l := Y) (i := j) (by rw [← HNY.out]; omega)
                      obtain ⟨bx2, ox2, he, hbx2, hcx2⟩ := HATY.out j z hz
                      cases he
                      refine ⟨z, sorted_nx HSY.out hz hy, ?_⟩
                      have h1 := ((HBA.out.trans (HBK.out.mono HBA.out.size)).cell (p := ⟨bx, _, none⟩) hbx).trans (hcx2 0 _ rfl)
                      simpa using h1)
                    obtain ⟨p, hpf, hpa, hpi⟩ := HYA.out y (mem_at hy)
                    have e0 := hE0
                    have el : bx < w14.heap.size := Nat.lt_of_lt_of_le HBX.out HBK.out.size
                    have HPF := Lib.hid hpf; have HPA2 := Lib.hid hpa
                    have hget := voget (HQ5.out.on (HB13.out.trans (HBK.out.mono HB13.out.size))).ov hpi
                    have HGET := Lib.hid hget
                    clear hcx hy hbx hE0 hpf hpa hget hpi
                    go_wp2_with fail
                    refine HGET.out.mono ?_
                    rintro e w15 ⟨⟨z, rfl, hz, hzv, -⟩, hb15⟩
                    rw [HPF.out] at hz ⊢
                    obtain ⟨zi, zf, za, zv, zs, zu⟩ := z
                    obtain ⟨zva, zvc, hzq, -, -⟩ := hzv.form
                    simp only at hzq
                    subst hzq
                    have hza : xa = za := by
                      have : za = p.2.2.1 := congrArg (fun q : Pf => q.2.2.1) hz
                      rw [this, HPA2.out]
                    subst hza
                    have hb16 := ba (Below.refl w15.heap.size w15) (.cells #[.int .i64 zi, .int .i64 zf, .int .i64 xa, .slice zva zs.length zvc, .int .i64 zu] 61)
                    have HK16 := Lib.hid (OfB.made w15 zi zf xa (.slice zva zs.length zvc) zu)
                    have HB16 := Lib.hid (HBK.out.trans ((bt hb15 hb16).mono HBK.out.size))
                    have HB1416 := Lib.hid (bt hb15 hb16)
                    have e0 := (HB1416.out.cell (p := ⟨bx, ox + k, none⟩) el).trans HE0.out
                    have hprev : ∀ j, k = j + 1 → ∃ z, z < y ∧ (w15.alloc (.cells #[.int .i64 zi, .int .i64 zf, .int .i64 xa, .slice zva zs.length zvc, .int .i64 zu] 61)).cell? ⟨bx, ox + j, none⟩ = some (.int .i64 z) := fun j hj => by
                      obtain ⟨z, h1, h2⟩ := HPREV.out j hj
                      exact ⟨z, h1, (HB1416.out.cell (p := ⟨bx, ox + j, none⟩) el).trans h2⟩
                    have HB516 := Lib.hid (show Below w5.heap.size w5 _ from HB13.out.trans (HB16.out.mono HB13.out.size))
                    clear hz hzv hb15 hb16 e0
                    go_wp2
                    generalize w15.alloc (.cells #[.int .i64 zi, .int .i64 zf, .int .i64 xa, .slice zva zs.length zvc, .int .i64 zu] 61) = w16 at *
                    obtain ⟨o, ho⟩ : ∃ o, o = w15.heap.size := ⟨_, rfl⟩
                    rw [← ho] at HK16 ⊢
                    clear ho
                    have e0 := (HB1416.out.cell (p := ⟨bx, ox + k, none⟩) el).trans HE0.out
                    have el16 := Nat.lt_of_lt_of_le el HB1416.out.size
                    clear el
                    have k2 := HK16.out.cells.2.2.1
                    have kl := HK16.out.lt
                    have d2 := (HB516.out.cell (p := ⟨bs, _, none⟩) HBS.out).trans HD.out.2.2
                    have dl : bs < w16.heap.size := Nat.lt_of_lt_of_le HBS.out HB516.out.size
                    have HPV := Lib.hid hprev
                    clear hprev
                    by_cases hk0 : k = 0
                    · have hkd : ¬ (0 : Int) < (k : Int) := by omega
                      have hkf : decide ((0 : Int) < (k : Int)) = false := decide_eq_false hkd
                      have hkn : ¬ 0 < k := by omega
                      have hkg : decide (0 < k) = false := decide_eq_false hkn
                      clear hk0
                      refine Mix.regionC (fun _ => False) (by kernel_rfl) ?_
                      intro w17 hb17
                      refine Mix.take_exC _ _ 0 rfl (by kernel_rfl) (by kernel_rfl) (by kernel_rfl) (by kernel_rfl) (fun K hK => ?_)
                      go_simp
                      first | (refine hK _ ?_; clear hK K) | (apply Exists.intro; refine ⟨fun x => ?_, hK _ ?_⟩; (fail); clear hK K)
                      refine Mix.take_exC _ _ 1 rfl (by kernel_rfl) (by kernel_rfl) (by kernel_rfl) (by kernel_rfl) (fun K hK => ?_)
                      go_simp
                      first | (refine hK _ ?_; clear hK K) | (apply Exists.intro; refine ⟨fun x => ?_, hK _ ?_⟩; (fail); clear hK K)
                      refine Mix.take_exC _ _ 2 rfl (by kernel_rfl) (by kernel_rfl) (by kernel_rfl) (by kernel_rfl) (fun K hK => ?_)
                      go_simp
                      first | (refine hK _ ?_; clear hK K) | (apply Exists.intro; refine ⟨fun x => ?_, hK _ ?_⟩; (fail); clear hK K)
                      refine Mix.take_exC _ _ 3 rfl (by kernel_rfl) (by kernel_rfl) (by kernel_rfl) (by kernel_rfl) (fun K hK => ?_)
                      go_simp
                      first | (refine hK _ ?_; clear hK K) | (apply Exists.intro; refine ⟨fun x => ?_, hK _ ?_⟩; (fail); clear hK K)
                      refine Mix.take_exC _ _ 4 rfl (by kernel_rfl) (by kernel_rfl) (by kernel_rfl) (by kernel_rfl) (fun K hK => ?_)
                      go_simp
                      first | (refine hK _ ?_; clear hK K) | (apply Exists.intro; refine ⟨fun x => ?_, hK _ ?_⟩; (fail); clear hK K)
                      refine Mix.take_exC _ _ 5 rfl (by kernel_rfl) (by kernel_rfl) (by kernel_rfl) (by kernel_rfl) (fun K hK => ?_)
                      go_simp
                      first | (refine hK _ ?_; clear hK K) | (apply Exists.intro; refine ⟨fun x => ?_, hK _ ?_⟩; (fail); clear hK K)
                      refine Mix.take_exC _ _ 6 rfl (by kernel_rfl) (by kernel_rfl) (by kernel_rfl) (by kernel_rfl) (fun K hK => ?_)
                      go_simp
                      first | (refine hK _ ?_; clear hK K) | (apply Exists.intro; refine ⟨fun x => ?_, hK _ ?_⟩; (fail); clear hK K)
                      refine Mix.take_exC _ _ 7 rfl (by kernel_rfl) (by kernel_rfl) (by kernel_rfl) (by kernel_rfl) (fun K hK => ?_)
                      go_simp
                      first | (refine hK _ ?_; clear hK K) | (apply Exists.intro; refine ⟨fun x => ?_, hK _ ?_⟩; (fail); clear hK K)
                      refine Mix.take_exC _ _ 8 rfl (by kernel_rfl) (by kernel_rfl) (by kernel_rfl) (by kernel_rfl) (fun K hK => ?_)
                      go_simp
                      first | (refine hK _ ?_; clear hK K) | (apply Exists.intro; refine ⟨fun x => ?_, hK _ ?_⟩; (fail); clear hK K)
                      refine Mix.take_exC _ _ 9 rfl (by kernel_rfl) (by kernel_rfl) (by kernel_rfl) (by kernel_rfl) (fun K hK => ?_)
                      go_simp
                      first | (refine hK _ ?_; clear hK K) | (apply Exists.intro; refine ⟨fun x => ?_, hK _ ?_⟩; (fail); clear hK K)
                      refine Mix.take_exC _ _ 10 rfl (by kernel_rfl) (by kernel_rfl) (by kernel_rfl) (by kernel_rfl) (fun K hK => ?_)
                      go_simp
                      first | (refine hK _ ?_; clear hK K) | (apply Exists.intro; refine ⟨fun x => ?_, hK _ ?_⟩; (fail); clear hK K)
                      refine Mix.take_exC _ _ 11 rfl (by kernel_rfl) (by kernel_rfl) (by kernel_rfl) (by kernel_rfl) (fun K hK => ?_)
                      go_simp
                      first | (refine hK _ ?_; clear hK K) | (apply Exists.intro; refine ⟨fun x => ?_, hK _ ?_⟩; (fail); clear hK K)
                      refine Mix.take_exC _ _ 12 rfl (by kernel_rfl) (by kernel_rfl) (by kernel_rfl) (by kernel_rfl) (fun K hK => ?_)
                      go_simp
                      first | (refine hK _ ?_; clear hK K) | (apply Exists.intro; refine ⟨fun x => ?_, hK _ ?_⟩; (fail); clear hK K)
                      refine Mix.take_exC _ _ 13 rfl (by kernel_rfl) (by kernel_rfl) (by kernel_rfl) (by kernel_rfl) (fun K hK => ?_)
                      go_simp
                      first | (refine hK _ ?_; clear hK K) | (apply Exists.intro; refine ⟨fun x => ?_, hK _ ?_⟩; (fail); clear hK K)
                      refine Mix.take_exC _ _ 14 rfl (by kernel_rfl) (by kernel_rfl) (by kernel_rfl) (by kernel_rfl) (fun K hK => ?_)
                      go_simp
                      first | (refine hK _ ?_; clear hK K) | (apply Exists.intro; refine ⟨fun x => ?_, hK _ ?_⟩; (fail); clear hK K)
                      refine Mix.take_exC _ _ 15 rfl (by kernel_rfl) (by kernel_rfl) (by kernel_rfl) (by kernel_rfl) (fun K hK => ?_)
                      go_simp
                      first | (refine hK _ ?_; clear hK K) | (apply Exists.intro; refine ⟨fun x => ?_, hK _ ?_⟩; (fail); clear hK K)
                      refine Mix.skip_C _ _ 16 rfl (by kernel_rfl) (by kernel_rfl) (by kernel_rfl) (by kernel_rfl) ?_
                      go_simp
                      refine Mix.skip_C _ _ 17 rfl (by kernel_rfl) (by kernel_rfl) (by kernel_rfl) (by kernel_rfl) ?_
                      go_simp
                      refine Mix.skip_C _ _ 18 rfl (by kernel_rfl) (by kernel_rfl) (by kernel_rfl) (by kernel_rfl) ?_
                      go_simp
                      refine Mix.skip_C _ _ 19 rfl (by kernel_rfl) (by kernel_rfl) (by kernel_rfl) (by kernel_rfl) ?_
                      go_simp
                      refine Mix.skip_C _ _ 20 rfl (by kernel_rfl) (by kernel_rfl) (by kernel_rfl) (by kernel_rfl) ?_
                      go_simp
                      refine Mix.skip_C _ _ 21 rfl (by kernel_rfl) (by kernel_rfl) (by kernel_rfl) (by kernel_rfl) ?_
                      go_simp
                      refine Mix.skip_C _ _ 22 rfl (by kernel_rfl) (by kernel_rfl) (by kernel_rfl) (by kernel_rfl) ?_
                      go_simp
                      refine Mix.skip_C _ _ 23 rfl (by kernel_rfl) (by kernel_rfl) (by kernel_rfl) (by kernel_rfl) ?_
                      go_simp
                      refine Mix.skip_C _ _ 24 rfl (by kernel_rfl) (by kernel_rfl) (by kernel_rfl) (by kernel_rfl) ?_
                      go_simp
                      refine Mix.skip_C _ _ 25 rfl (by kernel_rfl) (by kernel_rfl) (by kernel_rfl) (by kernel_rfl) ?_
                      go_simp
                      refine Mix.take_exC _ _ 26 rfl (by kernel_rfl) (by kernel_rfl) (by kernel_rfl) (by kernel_rfl) (fun K hK => ?_)
                      go_simp
                      first | (refine hK _ ?_; clear hK K) | (apply Exists.intro; refine ⟨fun x => ?_, hK _ ?_⟩; (fail); clear hK K)
                      refine Mix.take_exC _ _ 27 rfl (by kernel_rfl) (by kernel_rfl) (by kernel_rfl) (by kernel_rfl) (fun K hK => ?_)
                      go_simp
                      first | (refine hK _ ?_; clear hK K) | (apply Exists.intro; refine ⟨fun x => ?_, hK _ ?_⟩; (fail); clear hK K)
                      refine Mix.done (by kernel_rfl) (.of_below _ hb17) ?_
                      intro w18 hb18
                      have HB18 := Lib.hid (HB16.out.trans ((bt hb17 hb18).mono HB16.out.size))
                      have HB1618 := Lib.hid (bt hb17 hb18)
                      clear hb17 hb18
                      have e0 := (HB1618.out.cell (p := ⟨bx, _, none⟩) el16).trans e0
                      have el18 := Nat.lt_of_lt_of_le el16 HB1618.out.size
                      have d0 := ((HB516.out.trans (HB1618.out.mono HB516.out.size)).cell (p := ⟨bs, _, none⟩) HBS.out).trans HD.out.1
                      have dl18 : bs < w18.heap.size := Nat.lt_of_lt_of_le dl HB1618.out.size
                      clear k2 kl d2 dl el16
                      go_wp2
                      refine Mix.regionC (fun _ => False) (by kernel_rfl) ?_
                      intro w19 hb19
                      refine Mix.take_exC _ _ 0 rfl (by kernel_rfl) (by kernel_rfl) (by kernel_rfl) (by kernel_rfl) (fun K hK => ?_)
                      go_simp
                      first | (refine hK _ ?_; clear hK K) | (apply Exists.intro; refine ⟨fun x => ?_, hK _ ?_⟩; (fail); clear hK K)
                      refine Mix.take_exC _ _ 1 rfl (by kernel_rfl) (by kernel_rfl) (by kernel_rfl) (by kernel_rfl) (fun K hK => ?_)
                      go_simp
                      first | (refine hK _ ?_; clear hK K) | (apply Exists.intro; refine ⟨fun x => ?_, hK _ ?_⟩; (fail); clear hK K)
                      refine Mix.take_exC _ _ 2 rfl (by kernel_rfl) (by kernel_rfl) (by kernel_rfl) (by kernel_rfl) (fun K hK => ?_)
                      go_simp
                      first | (refine hK _ ?_; clear hK K) | (apply Exists.intro; refine ⟨fun x => ?_, hK _ ?_⟩; (fail); clear hK K)
                      refine Mix.take_exC _ _ 3 rfl (by kernel_rfl) (by kernel_rfl) (by kernel_rfl) (by kernel_rfl) (fun K hK => ?_)
                      go_simp
                      first | (refine hK _ ?_; clear hK K) | (apply Exists.intro; refine ⟨fun x => ?_, hK _ ?_⟩; (fail); clear hK K)
                      refine Mix.take_exC _ _ 4 rfl (by kernel_rfl) (by kernel_rfl) (by kernel_rfl) (by kernel_rfl) (fun K hK => ?_)
                      go_simp
                      first | (refine hK _ ?_; clear hK K) | (apply Exists.intro; refine ⟨fun x => ?_, hK _ ?_⟩; (fail); clear hK K)
                      refine Mix.take_exC _ _ 5 rfl (by kernel_rfl) (by kernel_rfl) (by kernel_rfl) (by kernel_rfl) (fun K hK => ?_)
                      go_simp
                      first | (refine hK _ ?_; clear hK K) | (apply Exists.intro; refine ⟨fun x => ?_, hK _ ?_⟩; (fail); clear hK K)
                      refine Mix.take_exC _ _ 6 rfl (by kernel_rfl) (by kernel_rfl) (by kernel_rfl) (by kernel_rfl) (fun K hK => ?_)
                      go_simp
                      first | (refine hK _ ?_; clear hK K) | (apply Exists.intro; refine ⟨fun x => ?_, hK _ ?_⟩; (fail); clear hK K)
                      refine Mix.take_exC _ _ 7 rfl (by kernel_rfl) (by kernel_rfl) (by kernel_rfl) (by kernel_rfl) (fun K hK => ?_)
                      go_simp
                      first | (refine hK _ ?_; clear hK K) | (apply Exists.intro; refine ⟨fun x => ?_, hK _ ?_⟩; (fail); clear hK K)
                      refine Mix.take_exC _ _ 8 rfl (by kernel_rfl) (by kernel_rfl) (by kernel_rfl) (by kernel_rfl) (fun K hK => ?_)
                      go_simp
                      first | (refine hK _ ?_; clear hK K) | (apply Exists.intro; refine ⟨fun x => ?_, hK _ ?_⟩; (fail); clear hK K)
                      refine Mix.take_exC _ _ 9 rfl (by kernel_rfl) (by kernel_rfl) (by kernel_rfl) (by kernel_rfl) (fun K hK => ?_)
                      go_simp
                      first | (refine hK _ ?_; clear hK K) | (apply Exists.intro; refine ⟨fun x => ?_, hK _ ?_⟩; (fail); clear hK K)
                      refine Mix.done (by kernel_rfl) (.of_below _ hb19) ?_
                      intro w20 hb20
                      have HB20 := Lib.hid (HB18.out.trans ((bt hb19 hb20).mono HB18.out.size))
                      clear hb19 hb20 e0 el18 d0 dl18
                      generalize hsq : ((Y.take k).filter fun x => x == xi).length = s at *
                      by_cases hyx : y = xi
                      · have hyb : (y == xi) = true := by simpa using hyx
                        have hc : ((Y.take (k + 1)).filter fun x => x == xi).length = s + 1 := by have := HCN.out; rw [hyb] at this; exact this
                        have HC := Lib.hid hc
                        clear hyx hc hsq
                        go_wp2
                        go_roundw
                        case rel => exact ⟨k + 1, by omega, by go_num, by rw [HC.out]; go_num, HB20⟩
                        case measure => simp [intOf]; omega
                      · have hyb : (y == xi) = false := by simpa using hyx
                        have hc : ((Y.take (k + 1)).filter fun x => x == xi).length = s := by have := HCN.out; rw [hyb] at this; exact this
                        have HC := Lib.hid hc
                        clear hyx hc hsq
                        go_wp2
                        go_roundw
                        case rel => exact ⟨k + 1, by omega, by go_num, by rw [HC.out], HB20⟩
                        case measure => simp [intOf]; omega
                    · obtain ⟨j, hkj⟩ : ∃ j, k = j + 1 := ⟨k - 1, by omega⟩
                      obtain ⟨z, hz1, hz2⟩ := HPV.out j hkj
                      have hzn : ¬ y ≤ z := by omega
                      have hzd : decide (y ≤ z) = false := decide_eq_false hzn
                      have hkd : (0 : Int) < (k : Int) := by omega
                      have hkf : decide ((0 : Int) < (k : Int)) = true := decide_eq_true hkd
                      have hkn : 0 < k := by omega
                      have hkg : decide (0 < k) = true := decide_eq_true hkn
                      have hj1 : IntKind.i64.wrap ((k : Int) - 1) = (j : Int) := by rw [IntWalk.i64_in _ (by omega)]; omega
                      have hj2 : (j : Int) < (ny : Int) := by omega
                      clear hk0 hz1 hkj
                      refine Mix.regionC (fun _ => False) (by kernel_rfl) ?_
                      intro w17 hb17
                      refine Mix.take_exC _ _ 0 rfl (by kernel_rfl) (by kernel_rfl) (by kernel_rfl) (by kernel_rfl) (fun K hK => ?_)
                      go_simp
                      first | (refine hK _ ?_; clear hK K) | (apply Exists.intro; refine ⟨fun x => ?_, hK _ ?_⟩; (fail); clear hK K)
                      refine Mix.take_exC _ _ 1 rfl (by kernel_rfl) (by kernel_rfl) (by kernel_rfl) (by kernel_rfl) (fun K hK => ?_)
                      go_simp
                      first | (refine hK _ ?_; clear hK K) | (apply Exists.intro; refine ⟨fun x => ?_, hK _ ?_⟩; (fail); clear hK K)
                      refine Mix.take_exC _ _ 2 rfl (by kernel_rfl) (by kernel_rfl) (by kernel_rfl) (by kernel_rfl) (fun K hK => ?_)
                      go_simp
                      first | (refine hK _ ?_; clear hK K) | (apply Exists.intro; refine ⟨fun x => ?_, hK _ ?_⟩; (fail); clear hK K)
                      refine Mix.take_exC _ _ 3 rfl (by kernel_rfl) (by kernel_rfl) (by kernel_rfl) (by kernel_rfl) (fun K hK => ?_)
                      go_simp
                      first | (refine hK _ ?_; clear hK K) | (apply Exists.intro; refine ⟨fun x => ?_, hK _ ?_⟩; (fail); clear hK K)
                      refine Mix.take_exC _ _ 4 rfl (by kernel_rfl) (by kernel_rfl) (by kernel_rfl) (by kernel_rfl) (fun K hK => ?_)
                      go_simp
                      first | (refine hK _ ?_; clear hK K) | (apply Exists.intro; refine ⟨fun x => ?_, hK _ ?_⟩; (fail); clear hK K)
                      refine Mix.take_exC _ _ 5 rfl (by kernel_rfl) (by kernel_rfl) (by kernel_rfl) (by kernel_rfl) (fun K hK => ?_)
                      go_simp
                      first | (refine hK _ ?_; clear hK K) | (apply Exists.intro; refine ⟨fun x => ?_, hK _ ?_⟩; (fail); clear hK K)
                      refine Mix.take_exC _ _ 6 rfl (by kernel_rfl) (by kernel_rfl) (by kernel_rfl) (by kernel_rfl) (fun K hK => ?_)
                      go_simp
                      first | (refine hK _ ?_; clear hK K) | (apply Exists.intro; refine ⟨fun x => ?_, hK _ ?_⟩; (fail); clear hK K)
                      refine Mix.take_exC _ _ 7 rfl (by kernel_rfl) (by kernel_rfl) (by kernel_rfl) (by kernel_rfl) (fun K hK => ?_)
                      go_simp
                      first | (refine hK _ ?_; clear hK K) | (apply Exists.intro; refine ⟨fun x => ?_, hK _ ?_⟩; (fail); clear hK K)
                      refine Mix.take_exC _ _ 8 rfl (by kernel_rfl) (by kernel_rfl) (by kernel_rfl) (by kernel_rfl) (fun K hK => ?_)
                      go_simp
                      first | (refine hK _ ?_; clear hK K) | (apply Exists.intro; refine ⟨fun x => ?_, hK _ ?_⟩; (fail); clear hK K)
                      refine Mix.take_exC _ _ 9 rfl (by kernel_rfl) (by kernel_rfl) (by kernel_rfl) (by kernel_rfl) (fun K hK => ?_)
                      go_simp
                      first | (refine hK _ ?_; clear hK K) | (apply Exists.intro; refine ⟨fun x => ?_, hK _ ?_⟩; (fail); clear hK K)
                      refine Mix.take_exC _ _ 10 rfl (by kernel_rfl) (by kernel_rfl) (by kernel_rfl) (by kernel_rfl) (fun K hK => ?_)
                      go_simp
                      first | (refine hK _ ?_; clear hK K) | (apply Exists.intro; refine ⟨fun x => ?_, hK _ ?_⟩; (fail); clear hK K)
                      refine Mix.take_exC _ _ 11 rfl (by kernel_rfl) (by kernel_rfl) (by kernel_rfl) (by kernel_rfl) (fun K hK => ?_)
                      go_simp
                      first | (refine hK _ ?_; clear hK K) | (apply Exists.intro; refine ⟨fun x => ?_, hK _ ?_⟩; (fail); clear hK K)
                      refine Mix.take_exC _ _ 12 rfl (by kernel_rfl) (by kernel_rfl) (by kernel_rfl) (by kernel_rfl) (fun K hK => ?_)
                      go_simp
                      first | (refine hK _ ?_; clear hK K) | (apply Exists.intro; refine ⟨fun x => ?_, hK _ ?_⟩; (fail); clear hK K)
                      refine Mix.take_exC _ _ 13 rfl (by kernel_rfl) (by kernel_rfl) (by kernel_rfl) (by kernel_rfl) (fun K hK => ?_)
                      go_simp
                      first | (refine hK _ ?_; clear hK K) | (apply Exists.intro; refine ⟨fun x => ?_, hK _ ?_⟩; (fail); clear hK K)
                      refine Mix.take_exC _ _ 14 rfl (by kernel_rfl) (by kernel_rfl) (by kernel_rfl) (by kernel_rfl) (fun K hK => ?_)
                      go_simp
                      first | (refine hK _ ?_; clear hK K) | (apply Exists.intro; refine ⟨fun x => ?_, hK _ ?_⟩; (fail); clear hK K)
                      refine Mix.take_exC _ _ 15 rfl (by kernel_rfl) (by kernel_rfl) (by kernel_rfl) (by kernel_rfl) (fun K hK => ?_)
                      go_simp
                      first | (refine hK _ ?_; clear hK K) | (apply Exists.intro; refine ⟨fun x => ?_, hK _ ?_⟩; (fail); clear hK K)
                      refine Mix.take_exC _ _ 16 rfl (by kernel_rfl) (by kernel_rfl) (by kernel_rfl) (by kernel_rfl) (fun K hK => ?_)
                      go_simp
                      first | (refine hK _ ?_; clear hK K) | (apply Exists.intro; refine ⟨fun x => ?_, hK _ ?_⟩; (fail); clear hK K)
                      refine Mix.take_exC _ _ 17 rfl (by kernel_rfl) (by kernel_rfl) (by kernel_rfl) (by kernel_rfl) (fun K hK => ?_)
                      go_simp
                      first | (refine hK _ ?_; clear hK K) | (apply Exists.intro; refine ⟨fun x => ?_, hK _ ?_⟩; (fail); clear hK K)
                      refine Mix.take_exC _ _ 18 rfl (by kernel_rfl) (by kernel_rfl) (by kernel_rfl) (by kernel_rfl) (fun K hK => ?_)
                      go_simp
                      first | (refine hK _ ?_; clear hK K) | (apply Exists.intro; refine ⟨fun x => ?_, hK _ ?_⟩; (fail); clear hK K)
                      refine Mix.take_exC _ _ 19 rfl (by kernel_rfl) (by kernel_rfl) (by kernel_rfl) (by kernel_rfl) (fun K hK => ?_)
                      go_simp
                      first | (refine hK _ ?_; clear hK K) | (apply Exists.intro; refine ⟨fun x => ?_, hK _ ?_⟩; (fail); clear hK K)
                      refine Mix.take_exC _ _ 20 rfl (by kernel_rfl) (by kernel_rfl) (by kernel_rfl) (by kernel_rfl) (fun K hK => ?_)
                      go_simp
                      first | (refine hK _ ?_; clear hK K) | (apply Exists.intro; refine ⟨fun x => ?_, hK _ ?_⟩; (fail); clear hK K)
                      refine Mix.take_exC _ _ 21 rfl (by kernel_rfl) (by kernel_rfl) (by kernel_rfl) (by kernel_rfl) (fun K hK => ?_)
                      go_simp
                      first | (refine hK _ ?_; clear hK K) | (apply Exists.intro; refine ⟨fun x => ?_, hK _ ?_⟩; (fail); clear hK K)
                      refine Mix.take_exC _ _ 22 rfl (by kernel_rfl) (by kernel_rfl) (by kernel_rfl) (by kernel_rfl) (fun K hK => ?_)
                      go_simp
                      first | (refine hK _ ?_; clear hK K) | (apply Exists.intro; refine ⟨fun x => ?_, hK _ ?_⟩; (fail); clear hK K)
                      refine Mix.take_exC _ _ 23 rfl (by kernel_rfl) (by kernel_rfl) (by kernel_rfl) (by kernel_rfl) (fun K hK => ?_)
                      go_simp
                      first | (refine hK _ ?_; clear hK K) | (apply Exists.intro; refine ⟨fun x => ?_, hK _ ?_⟩; (fail); clear hK K)
                      refine Mix.take_exC _ _ 24 rfl (by kernel_rfl) (by kernel_rfl) (by kernel_rfl) (by kernel_rfl) (fun K hK => ?_)
                      go_simp
                      first | (refine hK _ ?_; clear hK K) | (apply Exists.intro; refine ⟨fun x => ?_, hK _ ?_⟩; (fail); clear hK K)
                      refine Mix.take_exC _ _ 25 rfl (by kernel_rfl) (by kernel_rfl) (by kernel_rfl) (by kernel_rfl) (fun K hK => ?_)
                      go_simp
                      first | (refine hK _ ?_; clear hK K) | (apply Exists.intro; refine ⟨fun x => ?_, hK _ ?_⟩; (fail); clear hK K)
                      refine Mix.take_exC _ _ 26 rfl (by kernel_rfl) (by kernel_rfl) (by kernel_rfl) (by kernel_rfl) (fun K hK => ?_)
                      go_simp
                      first | (refine hK _ ?_; clear hK K) | (apply Exists.intro; refine ⟨fun x => ?_, hK _ ?_⟩; (fail); clear hK K)
                      refine Mix.take_exC _ _ 27 rfl (by kernel_rfl) (by kernel_rfl) (by kernel_rfl) (by kernel_rfl) (fun K hK => ?_)
                      go_simp
                      first | (refine hK _ ?_; clear hK K) | (apply Exists.intro; refine ⟨fun x => ?_, hK _ ?_⟩; (fail); clear hK K)
                      refine Mix.done (by kernel_rfl) (.of_below _ hb17) ?_
                      intro w18 hb18
                      have HB18 := Lib.hid (HB16.out.trans ((bt hb17 hb18).mono HB16.out.size))
                      have HB1618 := Lib.hid (bt hb17 hb18)
                      clear hb17 hb18 hz2 hj1 hj2
                      have e0 := (HB1618.out.cell (p := ⟨bx, _, none⟩) el16).trans e0
                      have el18 := Nat.lt_of_lt_of_le el16 HB1618.out.size
                      have d0 := ((HB516.out.trans (HB1618.out.mono HB516.out.size)).cell (p := ⟨bs, _, none⟩) HBS.out).trans HD.out.1
                      have dl18 : bs < w18.heap.size := Nat.lt_of_lt_of_le dl HB1618.out.size
                      clear k2 kl d2 dl el16
                      go_wp2
                      refine Mix.regionC (fun _ => False) (by kernel_rfl) ?_
                      intro w19 hb19
                      refine Mix.take_exC _ _ 0 rfl (by kernel_rfl) (by kernel_rfl) (by kernel_rfl) (by kernel_rfl) (fun K hK => ?_)
                      go_simp
                      first | (refine hK _ ?_; clear hK K) | (apply Exists.intro; refine ⟨fun x => ?_, hK _ ?_⟩; (fail); clear hK K)
                      refine Mix.take_exC _ _ 1 rfl (by kernel_rfl) (by kernel_rfl) (by kernel_rfl) (by kernel_rfl) (fun K hK => ?_)
                      go_simp
                      first | (refine hK _ ?_; clear hK K) | (apply Exists.intro; refine ⟨fun x => ?_, hK _ ?_⟩; (fail); clear hK K)
                      refine Mix.take_exC _ _ 2 rfl (by kernel_rfl) (by kernel_rfl) (by kernel_rfl) (by kernel_rfl) (fun K hK => ?_)
                      go_simp
                      first | (refine hK _ ?_; clear hK K) | (apply Exists.intro; refine ⟨fun x => ?_, hK _ ?_⟩; (fail); clear hK K)
                      refine Mix.take_exC _ _ 3 rfl (by kernel_rfl) (by kernel_rfl) (by kernel_rfl) (by kernel_rfl) (fun K hK => ?_)
                      go_simp
                      first | (refine hK _ ?_; clear hK K) | (apply Exists.intro; refine ⟨fun x => ?_, hK _ ?_⟩; (fail); clear hK K)
                      refine Mix.take_exC _ _ 4 rfl (by kernel_rfl) (by kernel_rfl) (by kernel_rfl) (by kernel_rfl) (fun K hK => ?_)
                      go_simp
                      first | (refine hK _ ?_; clear hK K) | (apply Exists.intro; refine ⟨fun x => ?_, hK _ ?_⟩; (fail); clear hK K)
                      refine Mix.take_exC _ _ 5 rfl (by kernel_rfl) (by kernel_rfl) (by kernel_rfl) (by kernel_rfl) (fun K hK => ?_)
                      go_simp
                      first | (refine hK _ ?_; clear hK K) | (apply Exists.intro; refine ⟨fun x => ?_, hK _ ?_⟩; (fail); clear hK K)
                      refine Mix.take_exC _ _ 6 rfl (by kernel_rfl) (by kernel_rfl) (by kernel_rfl) (by kernel_rfl) (fun K hK => ?_)
                      go_simp
                      first | (refine hK _ ?_; clear hK K) | (apply Exists.intro; refine ⟨fun x => ?_, hK _ ?_⟩; (fail); clear hK K)
                      refine Mix.take_exC _ _ 7 rfl (by kernel_rfl) (by kernel_rfl) (by kernel_rfl) (by kernel_rfl) (fun K hK => ?_)
                      go_simp
                      first | (refine hK _ ?_; clear hK K) | (apply Exists.intro; refine ⟨fun x => ?_, hK _ ?_⟩; (fail); clear hK K)
                      refine Mix.take_exC _ _ 8 rfl (by kernel_rfl) (by kernel_rfl) (by kernel_rfl) (by kernel_rfl) (fun K hK => ?_)
                      go_simp
                      first | (refine hK _ ?_; clear hK K) | (apply Exists.intro; refine ⟨fun x => ?_, hK _ ?_⟩; (fail); clear hK K)
                      refine Mix.take_exC _ _ 9 rfl (by kernel_rfl) (by kernel_rfl) (by kernel_rfl) (by kernel_rfl) (fun K hK => ?_)
                      go_simp
                      first | (refine hK _ ?_; clear hK K) | (apply Exists.intro; refine ⟨fun x => ?_, hK _ ?_⟩; (fail); clear hK K)
                      refine Mix.done (by kernel_rfl) (.of_below _ hb19) ?_
                      intro w20 hb20
                      have HB20 := Lib.hid (HB18.out.trans ((bt hb19 hb20).mono HB18.out.size))
                      clear hb19 hb20 e0 el18 d0 dl18
                      generalize hsq : ((Y.take k).filter fun x => x == xi).length = s at *
                      by_cases hyx : y = xi
                      · have hyb : (y == xi) = true := by simpa using hyx
                        have hc : ((Y.take (k + 1)).filter fun x => x == xi).length = s + 1 := by have := HCN.out; rw [hyb] at this; exact this
                        have HC := Lib.hid hc
                        clear hyx hc hsq
                        go_wp2
                        go_roundw
                        case rel => exact ⟨k + 1, by omega, by go_num, by rw [HC.out]; go_num, HB20⟩
                        case measure => simp [intOf]; omega
                      · have hyb : (y == xi) = false := by simpa using hyx
                        have hc : ((Y.take (k + 1)).filter fun x => x == xi).length = s := by have := HCN.out; rw [hyb] at this; exact this
                        have HC := Lib.hid hc
                        clear hyx hc hsq
                        go_wp2
                        go_roundw
                        case rel => exact ⟨k + 1, by omega, by go_num, by rw [HC.out], HB20⟩
                        case measure => simp [intOf]; omega
                  · obtain rfl : ny = k := by omega
                    have hq1 : ((((Y.take ny).filter fun x => x == xi).length : Nat) : Int) = 1 := by
                      rw [HNY.out, List.take_length, HY1.out]; rfl
                    rw [hq1]
                    have HB14 := Lib.hid (show Below w5.heap.size w5 w14 from HB13.out.trans (HBK.out.mono HB13.out.size))
                    clear hle hq1 hlt hk
                    go_wp2
                    go_roundw
                    case rel => exact ⟨t + 1, by omega, by go_num, HB14⟩
                    case measure => simp [intOf]; omega
          · obtain rfl : m = t := by omega
            have HQ6 := Lib.hid (HQ5.out.on HB.out)
            clear hlt ht
            have hb1 := ba (Below.refl w6.heap.size w6) (.cells #[.int .i64 0, .int .i64 0, .map none, .map none, .map none] 84)
            have hp1 : OPL (w6.alloc (.cells #[.int .i64 0, .int .i64 0, .map none, .map none, .map none] 84)) w6.heap.size := heap_alloc_new w6 _
            have hb2 := ba hb1 (.cells #[.int .i64 0, .int .i64 0, .int .i64 1] 86)
            have hp2 := hp1.below (ba (Below.refl _ _) (.cells #[.int .i64 0, .int .i64 0, .int .i64 1] 86))
            have HP7 := Lib.hid hp2; have HB7 := Lib.hid hb2
            clear hb1 hp1 hb2 hp2
            go_wp2_with fail
            generalize (w6.alloc (.cells #[.int .i64 0, .int .i64 0, .map none, .map none, .map none] 84)).alloc (.cells #[.int .i64 0, .int .i64 0, .int .i64 1] 86) = w7 at *
            obtain ⟨pb, hpb⟩ : ∃ b, b = w6.heap.size := ⟨_, rfl⟩
            rw [← hpb] at HP7 ⊢
            clear hpb
            refine (noissue (noO_nil w7) 1 1 0 _).mono ?_
            rintro e w8 ⟨rfl, hb8⟩
            have hb9 := ba hb8 (.cells #[.int .i64 0, .int .i64 0, .int .i64 1] 86)
            have HB9 := Lib.hid hb9
            clear hb8 hb9
            go_wp2_with fail
            generalize w8.alloc (.cells #[.int .i64 0, .int .i64 0, .int .i64 1] 86) = w9 at *
            refine (noissue ((noO_plain HP7.out).on HB9.out) 1 1 0 _).mono ?_
            rintro e w10 ⟨rfl, hb10⟩
            have HB10 := Lib.hid (bt HB9.out hb10)
            clear hb10
            go_wp2_with fail
            refine (noclose (noO_nil w10) 1).mono ?_
            rintro e w11 ⟨rfl, hb11⟩
            have hb12 := ba hb11 (.cells #[.int .i64 0, .int .i64 0, .int .i64 0, .slice none 0 0, .int .i64 0] 61)
            have HB12 := Lib.hid (bt HB10.out hb12)
            clear hb11 hb12
            go_wp2_with fail
            generalize w11.alloc (.cells #[.int .i64 0, .int .i64 0, .int .i64 0, .slice none 0 0, .int .i64 0] 61) = w12 at *
            refine (noall ((noO_plain HP7.out).on HB12.out)).mono ?_
            rintro e w13 ⟨rfl, hb13⟩
            have HB13 := Lib.hid (bt HB12.out hb13)
            clear hb13
            go_wp2_with fail
            refine (nosum (noO_nil w13) 1).mono ?_
            rintro e w14 ⟨rfl, hb14⟩
            have HB14 := Lib.hid (bt HB13.out hb14)
            clear hb14
            go_wp2_with fail
            refine (works24 w14).mono ?_
            rintro e w15 ⟨rfl, hb15⟩
            have HBF := Lib.hid (HQ6.out.bel.trans ((HB7.out.trans ((bt HB14.out hb15).mono HB7.out.size)).mono HQ6.out.bel.size))
            clear hb15
            go_wp2
            go_ret
            exact ⟨rfl, HBF.out⟩
  · have hFF : decide (l.length ≤ 100 ∧ (l.map oaW).sum ≤ 400) = false := decide_eq_false hfew
    go_enter Try.func8, Try.ntmps8
    go_wp2_with fail
    refine HF.out.mono ?_
    rintro e w1 ⟨rfl, rfl⟩
    rw [hFF]
    clear hfew
    go_wp2
    go_ret
    exact ⟨rfl, Below.refl _ _⟩
end Go.Proofs.Ytnckjacbkhoppaa

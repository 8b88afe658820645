/- offers: All, Of, On. -/
import Derived.Test.YtnckjacbkhoppaaOf7
import Derived.Test.YtnckjacbkhoppaaOfS
namespace Go.Proofs.Ytnckjacbkhoppaa
open Go.RowKit Go.Maps Go.MapKept
attribute [local go_sem] ext_cell ext_frozen extC_cell extC_frozen Mix.calmUpon Mix.mUpon
theorem infoOf : (Try.prog.info? 61).map (fun i => (i.zero, i.size, i.bytes)) = some (some ofzero, 5, 56) := by kernel_rfl
theorem ofenc_len (x : Ofr) : (ofenc x).length = 5 := rfl
theorem own_appO {w : World} {base : Nat} {v : Value} {l : List Ofr} {b : Nat} (h : OwnL 61 5 ofenc w base v l) (x : Ofr) (hx : OfB w b x.id x.frame x.agent x.vv x.til) (hv : x.vv.oneCell' = true) (hl : l.length < 1000000) (hb : base ≤ w.heap.size) :
    ∃ v' w', (Builtin.append_ #[54, 54] 54 #[v, .slice (some ⟨b, 0, none⟩) 1 1]).run Try.prog w = .ok v' w' ∧ OwnL 61 5 ofenc w' base v' (l ++ [x]) ∧ w.grownBy w' v.ownBlock ∧ (v'.ownBlock = v.ownBlock ∨ v'.ownBlock = some w.heap.size) := by
  obtain ⟨i0, hi, hz0, hz1, hz2⟩ := info_parts infoOf
  obtain ⟨x0, x1, x2, x3, x4⟩ := hx.cells
  exact OwnL.app h Try.underlying54 hi hz0 hz1 hz2 rfl (by decide) ofenc_len x (fun j u hj => by
      rcases j with _ | _ | _ | _ | _ | j <;> simp [ofenc] at hj
      · subst hj; exact x0
      · subst hj; exact x1
      · subst hj; exact x2
      · subst hj; exact x3
      · subst hj; exact x4) (fun u hu => by simp [ofenc] at hu; rcases hu with rfl | rfl | rfl | rfl | rfl <;> first | rfl | exact hv) (by omega) (by unfold maxLen; omega) hb
theorem beq_iff (f a : Int) : (a == f) = decide (a = f) := by by_cases h : a = f <;> simp [h]
/-- What All answers. -/
def RetO (w : World) (P : List Pf) (e : Ending) (w' : World) : Prop := ∃ v l, e = .returned v ∧ FL w' v l ∧ l.map Ofr.pl = P ∧ (∀ b, v.ownBlock = some b → w.heap.size ≤ b) ∧ (∀ x ∈ l, ∀ b, x.vv.ownBlock = some b → w.heap.size ≤ b) ∧ Below w.heap.size w w'
/-- What Of and On answer. -/
def RetI (w : World) (L : List Int) (e : Ending) (w' : World) : Prop := ∃ v, e = .returned v ∧ RS 1 ienc w' v L ∧ (∀ b, v.ownBlock = some b → w.heap.size ≤ b ∧ b < w'.heap.size) ∧ Below w.heap.size w w'
theorem OT.keys {w : World} {B tp Mo Mf Ma : Nat} {great last : Int} {S : List Ofr} {L : List (Int × Value)} {F A : Nat → Prop} (h : OT w B tp Mo Mf Ma great last S L F A) : (L.map (·.1)).Perm (S.map Ofr.id) ∧ (S.map Ofr.id).Pairwise (· < ·) := by
  have hS : (S.map Ofr.id).Pairwise (· < ·) := List.pairwise_map.2 (h.srt.imp fun e => by simpa using e.1)
  refine ⟨(List.perm_ext_iff_of_nodup h.map.nodup (hS.imp fun h e => by omega)).2 fun k => ?_, hS⟩
  constructor
  · intro hk
    obtain ⟨p, hp, rfl⟩ := List.mem_map.1 hk
    have h1 := look_of_mem h.map.nodup (x := p.1) (v := p.2) hp
    rw [h.look] at h1
    cases hf : fndO S p.1 with
    | none => rw [hf] at h1; cases h1
    | some x => exact List.mem_map.2 ⟨x, (Srt.fnd_mem hf).1, (Srt.fnd_mem hf).2⟩
  · intro hk
    obtain ⟨x, hx, rfl⟩ := List.mem_map.1 hk
    have h1 : L.lookup x.id = some (ofval x) := by rw [h.look, show fndO S x.id = some x from h.srt.fnd hx]; rfl
    exact List.mem_map.2 ⟨_, look_mem h1, rfl⟩
/-- Where building the list of all stands. -/
structure AG (W wr : World) (lv : Value) (C : List Ofr) : Prop where
  own : OwnL 61 5 ofenc wr W.heap.size lv C
  vec : ∀ x ∈ C, OwnP wr W.heap.size x.vv x.ps
  vb : ∀ x ∈ C, ∀ b, x.vv.ownBlock = some b → lv.ownBlock ≠ some b
  bel : Below W.heap.size W wr
theorem AG.on {W wr w' : World} {lv : Value} {C : List Ofr} (h : AG W wr lv C) (hb : Below wr.heap.size wr w') : AG W w' lv C :=
  ⟨h.own.below hb, fun x hx => ownsRow_chg (h.vec x hx) (.of_below (fun _ => False) hb) fun _ _ => id, h.vb, h.bel.trans (hb.mono h.bel.size)⟩
theorem AG.add {W wr : World} {lv : Value} {C : List Ofr} (h : AG W wr lv C) (hln : C.length < 1000000) {x : Ofr} {q : Nat} (hx : OfB wr q x.id x.frame x.agent x.vv x.til) (h1 : x.vv.oneCell' = true) (hv : OwnP wr W.heap.size x.vv x.ps) (hvb : ∀ b, x.vv.ownBlock = some b → lv.ownBlock ≠ some b) :
    ∃ v' w', (Builtin.append_ #[54, 54] 54 #[lv, .slice (some ⟨q, 0, none⟩) 1 1]).run Try.prog wr = .ok v' w' ∧ AG W w' v' (C ++ [x]) := by
  obtain ⟨v', w', hrun, o2, g2, hv2⟩ := own_appO h.own x hx h1 hln h.bel.size
  have hc : Chg (fun k => lv.ownBlock = some k) wr w' := .of_grown g2 fun k e => e
  have hvec : ∀ y ∈ C ++ [x], OwnP wr W.heap.size y.vv y.ps ∧ ∀ b, y.vv.ownBlock = some b → lv.ownBlock ≠ some b := fun y hy => by
    rcases List.mem_append.1 hy with hy | hy
    · exact ⟨h.vec y hy, h.vb y hy⟩
    · rw [List.mem_singleton.1 hy]; exact ⟨hv, hvb⟩
  refine ⟨v', w', hrun, o2, fun y hy => ownsRow_chg (hvec y hy).1 hc fun b hb => (hvec y hy).2 b hb, fun y hy b hb e => ?_, h.bel.trans (hc.below h.bel.size fun k e => (h.own.lt k e).1)⟩
  rcases hv2 with e2 | e2
  · rw [e2] at e; exact (hvec y hy).2 b hb e
  · rw [e2] at e
    have h3 := ((hvec y hy).1.lt b hb).2
    injection e with e
    omega
section
variable {w : World} {B tp : Nat} {great last : Int} {P : List Pf} {K : Nat → Prop}
set_option maxRecDepth 100000 in
set_option maxHeartbeats 4000000 in
theorem voall (h : OV w B tp great last P K) (hln : P.length < 1000000) : Calls Try.prog 39 #[ptr tp] w (RetO w P) := by
  obtain ⟨Mo, Mf, Ma, S, L, F, A, h1, rfl, h3⟩ := h.ot
  rw [List.length_map] at hln
  have hk := h1.keys
  have H := Lib.hid h1
  have HKS := Lib.hid (sortedO h1.map hk.1 hk.2 (by rw [List.length_map]; exact hln))
  have HLN := Lib.hid hln
  clear h h1 h3 hk hln
  go_enter Try.func39, Try.ntmps39
  go_wp2_with fail
  refine (omade H.out).mono ?_
  rintro e w1 ⟨rfl, rfl⟩
  obtain ⟨c0, c1, c2, c3, c4⟩ := H.out.cells
  have hl := H.out.lt.1
  go_wp2_with fail
  refine HKS.out.mono ?_
  rintro e w2 ⟨kv, rfl, hrs, hkb, hb2⟩
  obtain ⟨a, n, cp, rfl, hn, hc, hm, hat⟩ := hrs.at_
  rw [List.length_map] at hn
  have hnm : n ≤ 9223372036854775807 := by unfold maxLen at hm; omega
  have HN := Lib.hid hn
  have HAT := Lib.hid hat
  have HB2 := Lib.hid hb2
  have H2 := Lib.hid (H.out.below hb2)
  clear hat hn hrs hkb hb2 hm c0 c1 c2 c3 c4 hl
  go_wp2
  have HI := Lib.hid (show AG w2 w2 (.slice none 0 0) [] from ⟨OwnL.nil _ _ _ _ _, (fun x hx => by cases hx), (fun x hx => by cases hx), Below.refl _ _⟩)
  go_loopw [3, 17] (fun lv iv wr => ∃ (t : Nat) (C : List Ofr), t ≤ n ∧ iv = .int .i64 t ∧ Hid (AG w2 wr lv C) ∧ Hid (C.map Ofr.pl = (S.map Ofr.pl).take t)) (fun _ iv _ => n - (intOf iv).toNat)
  case atStart => exact ⟨0, [], Nat.zero_le _, rfl, HI, Lib.hid (by simp)⟩
  case round =>
    clear HI
    obtain ⟨t, C, ht, rfl, HG, HC⟩ := hrel
    obtain ⟨w4, rfl⟩ : ∃ w4, w4 = wr := ⟨_, rfl⟩
    by_cases hlt : t < n
    · have hts : (t : Int) < (n : Int) := by omega
      obtain ⟨x, hx⟩ := at_lt (l := S) (i := t) (by rw [← HN.out]; exact hlt)
      obtain ⟨bs, off, rfl, hbs, hcell⟩ := HAT.out t x.id (by rw [List.getElem?_map, hx]; rfl)
      have d0 := (HG.out.bel.cell (p := ⟨bs, _, none⟩) hbs).trans (hcell 0 _ rfl)
      have hbs4 : bs < w4.heap.size := Nat.lt_of_lt_of_le hbs HG.out.bel.size
      have hxm := mem_at hx
      have H4 := Lib.hid (H2.out.below HG.out.bel)
      have HF := Lib.hid (show fndO S x.id = some x from H2.out.srt.fnd hxm)
      have HXI := Lib.hid (show I64 x.id from by have h1 := (H2.out.num x hxm).1; have h2 := H2.out.cnt; exact ⟨by omega, by omega⟩)
      have HCL := Lib.hid (show C.length < 1000000 from by
        have h1 := congrArg List.length HC.out
        simp only [List.length_map, List.length_take] at h1
        have := HLN.out; omega)
      have HNX := Lib.hid (show ∀ z : Ofr, z.pl = x.pl → (C ++ [z]).map Ofr.pl = (S.map Ofr.pl).take (t + 1) from fun z hz => by
        rw [List.map_append, HC.out, take_at (l := S.map Ofr.pl) (x := x.pl) (by rw [List.getElem?_map, hx]; rfl)]
        simp [hz])
      simp only [Nat.add_zero, Nat.mul_one] at d0
      clear hcell hx hxm hbs
      obtain ⟨xi, xf, xa, xv, xs, xu⟩ := x
      simp only at d0 HXI HF
      go_wp2_with fail
      refine (oget_some H4.out HXI.out HF.out).mono ?_
      rintro e w5 ⟨u, rfl, hu, hb5⟩
      obtain ⟨ua, uc, rfl, -, -⟩ := hu.vc.form
      simp only at hu
      have HNY := Lib.hid (HNX.out ⟨xi, xf, xa, .slice ua xs.length uc, xs, xu⟩ rfl)
      generalize hm : xs.length = m at *
      have hb6 := ba (Below.refl w5.heap.size w5) (.cells #[.int .i64 xi, .int .i64 xf, .int .i64 xa, .slice ua m uc, .int .i64 xu] 61)
      have hk6 := OfB.made w5 xi xf xa (.slice ua m uc) xu
      obtain ⟨k0, k1, k2, k3, k4⟩ := hk6.cells
      have k5 := hk6.lt
      have hb7 := ba (Below.refl _ (w5.alloc (.cells #[.int .i64 xi, .int .i64 xf, .int .i64 xa, .slice ua m uc, .int .i64 xu] 61))) (.cells #[.int .i64 xi, .int .i64 xf, .int .i64 xa, .slice ua m uc, .int .i64 xu] 61)
      have hk7 := OfB.made (w5.alloc (.cells #[.int .i64 xi, .int .i64 xf, .int .i64 xa, .slice ua m uc, .int .i64 xu] 61)) xi xf xa (.slice ua m uc) xu
      rw [size_all'] at hk7
      have hs4 := HG.out.bel.size
      obtain ⟨v', w8, hra, hG8⟩ := (HG.out.on (bt hb5 (bt hb6 hb7))).add HCL.out (x := ⟨xi, xf, xa, .slice ua m uc, xs, xu⟩) hk7 rfl (ownsRow_base (ownsRow_chg (ownsRow_chg hu (.of_below (fun _ => False) hb6) fun _ _ => id) (.of_below (fun _ => False) hb7) fun _ _ => id) hs4) (fun b hb e => by have h1 := (hu.lt b hb).1; have h2 := (HG.out.own.lt b e).2; omega)
      have HRA := Lib.hid hra; have HG8 := Lib.hid hG8
      clear hra hG8 hu hb5 hb6 hb7 hk6 hk7 hs4 hm
      go_wp2_with (at_builtin; refine wpList_app_run rfl _ _ _ rfl rfl rfl HRA.out ?_)
      go_roundw
      case rel => exact ⟨t + 1, _, by omega, by go_num, HG8, HNY⟩
      case measure => simp [intOf]; omega
    · obtain rfl : n = t := by omega
      have HE := Lib.hid (show C.map Ofr.pl = S.map Ofr.pl from by rw [HC.out, HN.out, ← List.length_map (f := Ofr.pl), List.take_length])
      go_wp2
      go_ret
      have hs := HB2.out.size
      exact ⟨_, C, rfl, ⟨HG.out.own.rs ofenc_len, fun x hx => (HG.out.vec x hx).vc⟩, HE.out, fun b hb => Nat.le_trans hs (HG.out.own.lt b hb).1, fun x hx b hb => Nat.le_trans hs ((HG.out.vec x hx).lt b hb).1, HB2.out.trans (HG.out.bel.mono hs)⟩
set_option maxRecDepth 100000 in
theorem voof (h : OV w B tp great last P K) (hln : P.length < 1000000) {f : Int} (hf : I64 f) : Calls Try.prog 42 #[ptr tp, .int .i64 f] w (RetI w ((P.filter fun x => x.2.1 == f).map (·.1))) := by
  obtain ⟨Mo, Mf, Ma, S, L, F, A, h1, rfl, h3⟩ := h.ot
  rw [List.length_map] at hln
  have hgf : gF S f = (((S.map Ofr.pl).filter fun x => x.2.1 == f).map (·.1)) := by
    unfold gF
    rw [List.filter_map, List.map_map]
    exact congrArg (List.map Ofr.id) (List.filter_congr fun x hx => by
      show decide (_ = f) = (_ == f)
      exact (beq_iff f _).symm)
  rw [← hgf]
  have H := Lib.hid h1
  have HW := Lib.hid h1.fr
  have HS := Lib.hid (show (gF S f).Pairwise (· < ·) from g_nodup h1.srt _)
  have HL := Lib.hid (show (gF S f).length < 1000000 from by unfold gF; rw [List.length_map]; exact Nat.lt_of_le_of_lt (List.length_filter_le _ _) hln)
  clear h h1 h3 hln hgf
  generalize gF S = g at *
  obtain ⟨Fm, blk, hss⟩ := HW.out
  have hlook := hss.find hf
  by_cases hg : g f = []
  · rw [if_pos hg] at hlook
    have HG := Lib.hid hg
    clear hg hss hf
    go_enter Try.func42, Try.ntmps42
    go_wp2_with fail
    refine (omade H.out).mono ?_
    rintro e w1 ⟨rfl, rfl⟩
    obtain ⟨c0, c1, c2, c3, c4⟩ := H.out.cells
    have hl := H.out.lt.1
    go_wp2_with fail
    refine (sortedN w1).mono ?_
    rintro e w2 ⟨u, rfl, h1, h2, h3⟩
    have HR := Lib.hid (And.intro h1 (And.intro h2 h3))
    clear h1 h2 h3
    go_wp2
    go_ret
    exact ⟨_, rfl, by rw [HG.out]; exact HR.out.1, HR.out.2⟩
  · rw [if_neg hg] at hlook
    obtain ⟨T, hT, hp⟩ := hss.inn f hg
    have HT := Lib.hid (sortedU hT hp HS.out HL.out)
    obtain ⟨bk, hbk⟩ : ∃ b, blk f = b := ⟨_, rfl⟩
    rw [hbk] at hlook HT
    clear hg hss hf hT hp hbk
    go_enter Try.func42, Try.ntmps42
    go_wp2_with fail
    refine (omade H.out).mono ?_
    rintro e w1 ⟨rfl, rfl⟩
    obtain ⟨c0, c1, c2, c3, c4⟩ := H.out.cells
    have hl := H.out.lt.1
    go_wp2_with fail
    refine HT.out.mono ?_
    rintro e w2 ⟨u, rfl, h1, h2, h3⟩
    have HR := Lib.hid (And.intro h1 (And.intro h2 h3))
    clear h1 h2 h3
    go_wp2
    go_ret
    exact ⟨_, rfl, HR.out.1, HR.out.2⟩
set_option maxRecDepth 100000 in
theorem voon (h : OV w B tp great last P K) (hln : P.length < 1000000) {f : Int} (hf : I64 f) : Calls Try.prog 44 #[ptr tp, .int .i64 f] w (RetI w ((P.filter fun x => x.2.2.1 == f).map (·.1))) := by
  obtain ⟨Mo, Mf, Ma, S, L, F, A, h1, rfl, h3⟩ := h.ot
  rw [List.length_map] at hln
  have hga : gA S f = (((S.map Ofr.pl).filter fun x => x.2.2.1 == f).map (·.1)) := by
    unfold gA
    rw [List.filter_map, List.map_map]
    exact congrArg (List.map Ofr.id) (List.filter_congr fun x hx => by
      show decide (_ = f) = (_ == f)
      exact (beq_iff f _).symm)
  rw [← hga]
  have H := Lib.hid h1
  have HW := Lib.hid h1.ag
  have HS := Lib.hid (show (gA S f).Pairwise (· < ·) from g_nodup h1.srt _)
  have HL := Lib.hid (show (gA S f).length < 1000000 from by unfold gA; rw [List.length_map]; exact Nat.lt_of_le_of_lt (List.length_filter_le _ _) hln)
  clear h h1 h3 hln hga
  generalize gA S = g at *
  obtain ⟨Fm, blk, hss⟩ := HW.out
  have hlook := hss.find hf
  by_cases hg : g f = []
  · rw [if_pos hg] at hlook
    have HG := Lib.hid hg
    clear hg hss hf
    go_enter Try.func44, Try.ntmps44
    go_wp2_with fail
    refine (omade H.out).mono ?_
    rintro e w1 ⟨rfl, rfl⟩
    obtain ⟨c0, c1, c2, c3, c4⟩ := H.out.cells
    have hl := H.out.lt.1
    go_wp2_with fail
    refine (sortedN w1).mono ?_
    rintro e w2 ⟨u, rfl, h1, h2, h3⟩
    have HR := Lib.hid (And.intro h1 (And.intro h2 h3))
    clear h1 h2 h3
    go_wp2
    go_ret
    exact ⟨_, rfl, by rw [HG.out]; exact HR.out.1, HR.out.2⟩
  · rw [if_neg hg] at hlook
    obtain ⟨T, hT, hp⟩ := hss.inn f hg
    have HT := Lib.hid (sortedU hT hp HS.out HL.out)
    obtain ⟨bk, hbk⟩ : ∃ b, blk f = b := ⟨_, rfl⟩
    rw [hbk] at hlook HT
    clear hg hss hf hT hp hbk
    go_enter Try.func44, Try.ntmps44
    go_wp2_with fail
    refine (omade H.out).mono ?_
    rintro e w1 ⟨rfl, rfl⟩
    obtain ⟨c0, c1, c2, c3, c4⟩ := H.out.cells
    have hl := H.out.lt.1
    go_wp2_with fail
    refine HT.out.mono ?_
    rintro e w2 ⟨u, rfl, h1, h2, h3⟩
    have HR := Lib.hid (And.intro h1 (And.intro h2 h3))
    clear h1 h2 h3
    go_wp2
    go_ret
    exact ⟨_, rfl, HR.out.1, HR.out.2⟩
end
end Go.Proofs.Ytnckjacbkhoppaa

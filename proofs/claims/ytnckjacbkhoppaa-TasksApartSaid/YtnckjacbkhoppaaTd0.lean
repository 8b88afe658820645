/- tasks: the walk of TasksApart. -/
import Derived.Test.YtnckjacbkhoppaaTc0
namespace Go.Proofs.Ytnckjacbkhoppaa
open Go.RowKit Go.Maps
attribute [local go_sem] ext_cell ext_frozen extC_cell extC_frozen Mix.calmUpon Mix.mUpon eq4
abbrev ofF (f : Int) (P : List Pk) : List Pk := P.filter fun x => x.1 == f
theorem fnd_of {P : List Pk} {k : K2} {f : Int} (hk : k.a = f) : fndK (ofF f P) k = fndK P k := by
  unfold fndK Srt.fnd ofF
  rw [List.find?_filter]
  congr 1
  funext a
  by_cases h : pkey a = k
  · have h2 : a.1 = f := by rw [← hk, ← h]
    simp [h, h2]
  · simp [h]
theorem del_of {P : List Pk} {k : K2} {f : Int} : ofF f (delK P k) = if k.a = f then delK (ofF f P) k else ofF f P := by
  unfold delK Srt.del ofF
  split
  · rw [List.filter_filter, List.filter_filter]
    congr 1
    funext a
    exact Bool.and_comm _ _
  · rename_i h
    rw [List.filter_filter]
    refine List.filter_congr fun a _ => ?_
    by_cases h1 : a.1 = f
    · have h2 : pkey a ≠ k := fun e => h (by rw [← e]; exact h1)
      simp [h1, h2]
    · simp [h1]
theorem PIn.of {P : List Pk} (h : PIn P) (f : Int) : PIn (ofF f P) := ⟨h.srt.filter _, fun x hx => h.ok x (List.mem_filter.1 hx).1⟩
theorem put_of {P : List Pk} (h : PIn P) {x : Pk} {f : Int} : ofF f (putK P x) = if x.1 = f then putK (ofF f P) x else ofF f P := by
  have hp : Srt.In pkey ltK (putK P x) := h.srt.put ordK x
  split
  · rename_i hx
    refine Srt.In.ext ordK (hp.filter _) ((h.of f).srt.put ordK x) fun y => ?_
    rw [show putK (ofF f P) x = Srt.put pkey ltK (ofF f P) x from rfl, Srt.mem_put, List.mem_filter, Srt.mem_put, List.mem_filter]
    constructor
    · rintro ⟨rfl | ⟨h1, h2⟩, h3⟩
      · exact .inl rfl
      · exact .inr ⟨⟨h1, h3⟩, h2⟩
    · rintro (rfl | ⟨⟨h1, h3⟩, h2⟩)
      · exact ⟨.inl rfl, by simpa using hx⟩
      · exact ⟨.inr ⟨h1, h2⟩, h3⟩
  · rename_i hx
    refine Srt.In.ext ordK (hp.filter _) (h.of f).srt fun y => ?_
    rw [List.mem_filter, Srt.mem_put, List.mem_filter]
    constructor
    · rintro ⟨rfl | ⟨h1, h2⟩, h3⟩
      · exact absurd (by simpa using h3) hx
      · exact ⟨h1, h3⟩
    · rintro ⟨h1, h3⟩
      refine ⟨.inr ⟨h1, fun e => hx ?_⟩, h3⟩
      have h4 : y.1 = x.1 := congrArg K2.a e
      rw [← h4]; simpa using h3
theorem act_of {P : List Pk} (h : PIn P) (hl : P.length < 1000) {a : Ta} {f : Int} : ofF f (actT 1000 P a) = if a.tk.frame = f then actT 1000 (ofF f P) a else ofF f P := by
  have hl2 : (ofF f P).length < 1000 := Nat.lt_of_le_of_lt (List.length_filter_le _ _) hl
  unfold actT
  by_cases he : a.end_ = true
  · rw [if_pos he, if_pos he]; exact del_of
  · rw [if_neg he, if_neg he]
    unfold lauP
    have n1 : ¬ (1000 : Int) ≤ (P.length : Nat) := by omega
    have n2 : ¬ (1000 : Int) ≤ ((ofF f P).length : Nat) := by omega
    by_cases hok : PkOk a.tk.pl
    · rw [if_pos hok, if_pos hok]
      by_cases hf : a.tk.frame = f
      · rw [if_pos hf, fnd_of (k := pkey a.tk.pl) hf]
        split
        · rfl
        · exact (put_of h).trans (if_pos hf)
      · rw [if_neg hf]
        split
        · rfl
        · exact (put_of h).trans (if_neg hf)
    · rw [if_neg hok, if_neg hok]
      split <;> rfl
/-- Two tables side by side: one of all tasks, one of a framework's alone. -/
structure TW (w1 wr : World) (B tp M B2 tp2 M2 : Nat) (f : Int) (P : List Pk) (t : Nat) : Prop where
  a : TV wr B tp M 1000 P (fun b => b ≠ M2)
  b : TV wr B2 tp2 M2 1000 (ofF f P) (fun b => b ≠ M)
  bel : Below w1.heap.size w1 wr
  len : P.length ≤ t
  hM : w1.heap.size ≤ M ∧ w1.heap.size ≤ M2 ∧ M ≠ M2 ∧ tp ≠ M2 ∧ tp2 ≠ M
  hB : B ≤ wr.heap.size ∧ B2 ≤ wr.heap.size
section
variable {w1 wr w' : World} {B tp M B2 tp2 M2 : Nat} {f : Int} {P : List Pk} {t : Nat}
theorem TW.on (h : TW w1 wr B tp M B2 tp2 M2 f P t) (hb : Below wr.heap.size wr w') : TW w1 w' B tp M B2 tp2 M2 f P t :=
  ⟨h.a.below hb, h.b.below hb, h.bel.trans (hb.mono h.bel.size), h.len, h.hM, Nat.le_trans h.hB.1 hb.size, Nat.le_trans h.hB.2 hb.size⟩
/-- Behind an act on the first. -/
theorem TW.fst (h : TW w1 wr B tp M B2 tp2 M2 f P t) {a : Ta} {V : Nat → Prop} (ht : TV w' B tp M 1000 (actT 1000 P a) V) (hV : ∀ b, V b → b ≠ M2) (hc : Chg (fun k => k = M) wr w') (hl : t < 1000) (hne : a.tk.frame ≠ f) : TW w1 w' B tp M B2 tp2 M2 f (actT 1000 P a) (t + 1) :=
  ⟨ht.mono hV, by rw [act_of h.a.pin (by have := h.len; omega), if_neg hne]; exact h.b.chg hc h.hM.2.2.2.2 (fun e => h.hM.2.2.1 e.symm) (fun b hb _ => hb), h.bel.trans (hc.below h.bel.size fun k e => by rw [e]; exact h.hM.1), Nat.le_trans actT_len (Nat.succ_le_succ h.len), h.hM, Nat.le_trans h.hB.1 hc.size, Nat.le_trans h.hB.2 hc.size⟩
/-- Behind an act on both. -/
theorem TW.both (h : TW w1 wr B tp M B2 tp2 M2 f P t) {a : Ta} {V V2 : Nat → Prop} {w2 : World} (ht : TV w' B tp M 1000 (actT 1000 P a) V) (hV : ∀ b, V b → b ≠ M2) (hc : Chg (fun k => k = M) wr w')
    {w3 : World} (hb : Below w'.heap.size w' w2) (ht2 : TV w3 B2 tp2 M2 1000 (actT 1000 (ofF f P) a) V2) (hV2 : ∀ b, V2 b → b ≠ M) (hc2 : Chg (fun k => k = M2) w2 w3) (hl : t < 1000) (he : a.tk.frame = f) : TW w1 w3 B tp M B2 tp2 M2 f (actT 1000 P a) (t + 1) :=
  ⟨((ht.below hb).mono hV).chg hc2 h.hM.2.2.2.1 h.hM.2.2.1 (fun b hb _ => hb), by rw [act_of h.a.pin (by have := h.len; omega), if_pos he]; exact ht2.mono hV2,
    ((h.bel.trans (hc.below h.bel.size fun k e => by rw [e]; exact h.hM.1)).trans (hb.mono (by have := h.bel.size; have := hc.size; omega))).trans (hc2.below (by have := h.bel.size; have := hc.size; have := hb.size; omega) fun k e => by rw [e]; exact h.hM.2.1),
    Nat.le_trans actT_len (Nat.succ_le_succ h.len), h.hM, by have := h.hB.1; have := hc.size; have := hb.size; have := hc2.size; omega, by have := h.hB.2; have := hc.size; have := hb.size; have := hc2.size; omega⟩
end
set_option maxRecDepth 100000 in
set_option maxHeartbeats 8000000 in
theorem apart25 (v : Value) (l : List Ta) (f : Int) (W : World) (hr : RS 5 taenc W v l) (ha : ∀ x ∈ l, TIn W x.tk) :
    Calls Try.prog 10 #[v, .int .i64 f] W fun e w' => e = .returned (.bool true) ∧ Below W.heap.size W w' := by
  have HF := Lib.hid (few25 v l W hr ha)
  obtain ⟨a, n, c, rfl, hn, hc, hm, hat⟩ := hr.at_
  have HN := Lib.hid hn; have HAT := Lib.hid hat; have HA := Lib.hid ha
  clear hr hn hat ha hm hc
  by_cases hfew : l.length ≤ 100 ∧ (l.map taW).sum ≤ 400
  · have hFT : decide (l.length ≤ 100 ∧ (l.map taW).sum ≤ 400) = true := decide_eq_true hfew
    have HFT := Lib.hid hFT
    have HLE := Lib.hid (few_each hfew.2)
    have hn100 : n ≤ 100 := by rw [HN.out]; exact hfew.1
    clear hfew hFT
    go_enter Try.func10, Try.ntmps10
    go_wp2_with fail
    refine HF.out.mono ?_
    rintro e w1 ⟨rfl, rfl⟩
    rw [HFT.out]
    go_wp2_with fail
    refine (vnew w1 (cap := 1000) (by decide)).mono ?_
    rintro e w2 ⟨rfl, h2, hb2⟩
    have H2 := Lib.hid h2; have HB2 := Lib.hid hb2
    clear h2 hb2
    go_wp2_with fail
    refine (vnew w2 (cap := 1000) (by decide)).mono ?_
    rintro e w3 ⟨rfl, h3, hb3⟩
    obtain ⟨tp, htp⟩ : ∃ tp, tp = w1.heap.size + 1 := ⟨_, rfl⟩
    obtain ⟨tp2, htp2⟩ : ∃ tp, tp = w2.heap.size + 1 := ⟨_, rfl⟩
    obtain ⟨M, hM⟩ : ∃ M, M = w1.heap.size := ⟨_, rfl⟩
    obtain ⟨M2, hM2⟩ : ∃ M, M = w2.heap.size := ⟨_, rfl⟩
    have HI := Lib.hid (show TW w1 w3 w1.heap.size tp M w2.heap.size tp2 M2 f [] 0 from by
      have hl2 := H2.out.lt; have hs2 := HB2.out.size; have hs3 := hb3.size
      rw [htp, hM, htp2, hM2]
      exact ⟨(H2.out.below hb3).mono fun _ h => h.elim, h3.mono fun _ h => h.elim, bt HB2.out hb3, Nat.le_refl _, ⟨by omega, by omega, by omega, by omega, by omega⟩, ⟨by omega, by omega⟩⟩)
    rw [← htp, ← htp2]
    have HMQ := Lib.hid hM
    clear htp htp2 hM hM2 h3 hb3 H2
    go_wp2
    go_loopw [7] (fun iv wr => ∃ (t : Nat) (P : List Pk), t ≤ n ∧ iv = .int .i64 t ∧ Hid (TW w1 wr w1.heap.size tp M w2.heap.size tp2 M2 f P t)) (fun iv _ => n - (intOf iv).toNat)
    case atStart => exact ⟨0, [], Nat.zero_le _, rfl, HI⟩
    case round =>
      clear HI
      obtain ⟨t, P, ht, rfl, HQ⟩ := hrel
      obtain ⟨w4, rfl⟩ : ∃ w4, w4 = wr := ⟨_, rfl⟩
      by_cases hlt : t < n
      · have hts : (t : Int) < (n : Int) := by omega
        have ht9 : t < 1000 := by omega
        obtain ⟨x, hx⟩ := at_lt (l := l) (i := t) (by rw [← HN.out]; exact hlt)
        obtain ⟨bs, off, rfl, hbs, hcell⟩ := HAT.out t x hx
        have hxi := HA.out x (mem_at hx)
        have hxl := HLE.out x (mem_at hx)
        have hbw := HQ.out.bel
        obtain ⟨xe, ⟨xf, xi, xa, xv, xs⟩⟩ := x
        obtain ⟨va, vc, hvv, -, -⟩ := hxi.vc.form
        simp only at hvv
        subst hvv
        have c0 := (hbw.cell (p := ⟨bs, _, none⟩) hbs).trans (hcell 0 _ rfl)
        have c1 := (hbw.cell (p := ⟨bs, _, none⟩) hbs).trans (hcell 1 _ rfl)
        have c2 := (hbw.cell (p := ⟨bs, _, none⟩) hbs).trans (hcell 2 _ rfl)
        have c3 := (hbw.cell (p := ⟨bs, _, none⟩) hbs).trans (hcell 3 _ rfl)
        have c4 := (hbw.cell (p := ⟨bs, _, none⟩) hbs).trans (hcell 4 _ rfl)
        simp only [Nat.add_zero] at c0
        have hbs4 : bs < w4.heap.size := Nat.lt_of_lt_of_le hbs hbw.size
        have hb45 := ba (Below.refl w4.heap.size w4) (.cells #[.int .i64 xf, .int .i64 xi, .int .i64 xa, .slice va xs.length vc] 95)
        have HQ5 := Lib.hid (HQ.out.on hb45)
        have HK5 := Lib.hid (KB.made w4 xf xi xa (.slice va xs.length vc))
        have HGO := Lib.hid ((hxi.go hbw hxl).on hb45)
        have hC0 := (hb45.cell (p := ⟨bs, _, none⟩) hbs4).trans c0
        have HC0 := Lib.hid hC0
        have HLT5 := Lib.hid (show bs < w1.heap.size ∧ w1.heap.size ≤ w4.heap.size ∧ M < w4.heap.size ∧ M2 < w4.heap.size ∧ w1.heap.size ≤ M ∧ w1.heap.size ≤ M2 from ⟨hbs, hbw.size, HQ.out.a.lt.2.1, HQ.out.b.lt.2.1, HQ.out.hM.1, HQ.out.hM.2.1⟩)
        have HVK := Lib.hid (hxi.vc.old (F := fun k => k = M) fun k e => by have e : k = M := e; rw [e]; exact HQ.out.hM.1)
        clear hcell hx hxi hxl hbw hbs hb45 hC0
        cases xe with
        | true =>
          go_wp2_with fail
          generalize w4.alloc (.cells #[.int .i64 xf, .int .i64 xi, .int .i64 xa, .slice va xs.length vc] 95) = w5 at *
          obtain ⟨bx, hbx⟩ : ∃ b, b = w4.heap.size := ⟨_, rfl⟩
          rw [← hbx] at HK5 ⊢
          have HBX := Lib.hid hbx
          clear hbx
          refine (vend HQ5.out.a HGO.out.fr HGO.out.id).mono ?_
          rintro e w6 ⟨⟨z, rfl, -, -⟩, h6, hc6⟩
          have HK6 := Lib.hid (HK5.out.chg hc6 (by have := HLT5.out; have := HBX.out; show ¬ bx = M; omega))
          have c6 := (hc6.cell (b := bs) (by have := HLT5.out; have := HK5.out.lt; have := HBX.out; omega) (by have := HLT5.out; show ¬ bs = M; omega) _).trans HC0.out
          have hbs6 : bs < w6.heap.size := by have := HLT5.out; have := HK6.out.lt; have := HBX.out; omega
          obtain ⟨m0, m1, m2, m3⟩ := HK6.out.cells
          have m4 := HK6.out.lt
          have H6 := Lib.hid h6; have HC6 := Lib.hid hc6
          have HB6 := Lib.hid (HQ5.out.b.chg hc6 HQ5.out.hM.2.2.2.2 (fun e => HQ5.out.hM.2.2.1 e.symm) (fun b hb _ => hb))
          clear h6 hc6 c0 c1 c2 c3 c4 hbs4
          by_cases hf : xf = f
          · have hfb : (xf == f) = true := by simpa using hf
            have HFQ := Lib.hid hf
            clear hf
            go_wp2_with fail
            refine (vend HB6.out HGO.out.fr HGO.out.id).mono ?_
            rintro e w7 ⟨⟨z2, rfl, -, -⟩, h7, hc7⟩
            have HI := Lib.hid (HQ5.out.both (a := ⟨true, ⟨xf, xi, xa, .slice va xs.length vc, xs⟩⟩) H6.out (fun b hb => hb) HC6.out (Below.refl _ _) h7 (fun b hb => hb) hc7 ht9 HFQ.out)
            have hfr7 : (w7.cell? ⟨bx, 0, none⟩ = some (.int .i64 xf)) ∧ bx < w7.heap.size := ⟨(hc7.cell (b := bx) m4 (by have := HLT5.out; have := HBX.out; show ¬ bx = M2; omega) 0).trans m0, Nat.lt_of_lt_of_le m4 hc7.size⟩
            clear h7 hc7 c6 hbs6 m0 m1 m2 m3 m4
            go_wp2
            go_roundw
            case rel => exact ⟨t + 1, _, by omega, by go_num, HI⟩
            case measure => simp [intOf]; omega
          · have hfb : (xf == f) = false := by simpa using hf
            have HI := Lib.hid (HQ5.out.fst (a := ⟨true, ⟨xf, xi, xa, .slice va xs.length vc, xs⟩⟩) H6.out (fun _ h => h) HC6.out ht9 hf)
            clear hf
            go_wp2
            go_roundw
            case rel => exact ⟨t + 1, _, by omega, by go_num, HI⟩
            case measure => simp [intOf]; omega
        | false =>
          go_wp2_with fail
          generalize w4.alloc (.cells #[.int .i64 xf, .int .i64 xi, .int .i64 xa, .slice va xs.length vc] 95) = w5 at *
          obtain ⟨bx, hbx⟩ : ∃ b, b = w4.heap.size := ⟨_, rfl⟩
          rw [← hbx] at HK5 ⊢
          have HBX := Lib.hid hbx
          clear hbx
          refine (vlaunch HQ5.out.a HQ5.out.hB.1 ⟨xf, xi, xa, .slice va xs.length vc, xs⟩ HGO.out).mono ?_
          rintro e w6 ⟨rfl, h6, hc6⟩
          have HV6 := Lib.hid (show ∀ b, (b ≠ M2 ∨ w5.heap.size ≤ b) → b ≠ M2 from fun b hb e => by
            rcases hb with h | h
            · exact h e
            · have := HLT5.out; have := HK5.out.lt; have := HBX.out; omega)
          have HG6 := Lib.hid (show TGo w6 ⟨xf, xi, xa, .slice va xs.length vc, xs⟩ from ⟨HGO.out.vc.keep hc6 HVK.out, HGO.out.len, HGO.out.fr, HGO.out.id, HGO.out.ag, HGO.out.i64⟩)
          have HK6 := Lib.hid (HK5.out.chg hc6 (by have := HLT5.out; have := HBX.out; show ¬ bx = M; omega))
          have c6 := (hc6.cell (b := bs) (by have := HLT5.out; have := HK5.out.lt; have := HBX.out; omega) (by have := HLT5.out; show ¬ bs = M; omega) _).trans HC0.out
          have hbs6 : bs < w6.heap.size := by have := HLT5.out; have := HK6.out.lt; have := HBX.out; omega
          obtain ⟨m0, m1, m2, m3⟩ := HK6.out.cells
          have m4 := HK6.out.lt
          have H6 := Lib.hid h6; have HC6 := Lib.hid hc6
          have HB6 := Lib.hid (HQ5.out.b.chg hc6 HQ5.out.hM.2.2.2.2 (fun e => HQ5.out.hM.2.2.1 e.symm) (fun b hb _ => hb))
          clear h6 hc6 c0 c1 c2 c3 c4 hbs4
          by_cases hf : xf = f
          · have hfb : (xf == f) = true := by simpa using hf
            have HFQ := Lib.hid hf
            clear hf
            go_wp2_with fail
            refine (vlaunch HB6.out (Nat.le_trans HQ5.out.hB.2 HC6.out.size) ⟨xf, xi, xa, .slice va xs.length vc, xs⟩ HG6.out).mono ?_
            rintro e w7 ⟨rfl, h7, hc7⟩
            have HI := Lib.hid (HQ5.out.both (a := ⟨false, ⟨xf, xi, xa, .slice va xs.length vc, xs⟩⟩) H6.out HV6.out HC6.out (Below.refl _ _) h7 (fun b hb e => by
              rcases hb with h | h
              · exact h e
              · have := HLT5.out; have := HK6.out.lt; have := HBX.out; omega) hc7 ht9 HFQ.out)
            clear h7 hc7 c6 hbs6 m0 m1 m2 m3 m4
            go_wp2
            go_roundw
            case rel => exact ⟨t + 1, _, by omega, by go_num, HI⟩
            case measure => simp [intOf]; omega
          · have hfb : (xf == f) = false := by simpa using hf
            have HI := Lib.hid (HQ5.out.fst (a := ⟨false, ⟨xf, xi, xa, .slice va xs.length vc, xs⟩⟩) H6.out HV6.out HC6.out ht9 hf)
            clear hf
            go_wp2
            go_roundw
            case rel => exact ⟨t + 1, _, by omega, by go_num, HI⟩
            case measure => simp [intOf]; omega
      · obtain rfl : n = t := by omega
        have hPl : P.length < 1000000 := by have := HQ.out.len; omega
        have hPl2 : (ofF f P).length < 1000000 := Nat.lt_of_le_of_lt (List.length_filter_le _ _) hPl
        have e1 : (w4.alloc (.cells #[.int .i64 0, .map none] 114)).heap.size = w4.heap.size + 1 := by simp
        have hb1 := ba (Below.refl w4.heap.size w4) (.cells #[.int .i64 0, .map none] 114)
        have hp1 : TPL (w4.alloc (.cells #[.int .i64 0, .map none] 114)) w4.heap.size := heap_alloc_new w4 _
        have e2 : ((w4.alloc (.cells #[.int .i64 0, .map none] 114)).alloc (.cells #[.int .i64 0, .int .i64 0, .int .i64 1] 86)).heap.size = w4.heap.size + 2 := by simp
        have hb2 := ba hb1 (.cells #[.int .i64 0, .int .i64 0, .int .i64 1] 86)
        have hp2 := hp1.below (ba (Below.refl _ _) (.cells #[.int .i64 0, .int .i64 0, .int .i64 1] 86))
        have hk := KB.made ((w4.alloc (.cells #[.int .i64 0, .map none] 114)).alloc (.cells #[.int .i64 0, .int .i64 0, .int .i64 1] 86)) 1 1 1 (.slice (some ⟨w4.heap.size + 1, 0, none⟩) 1 1)
        rw [e2] at hk
        have hb3 := ba hb2 (.cells #[.int .i64 1, .int .i64 1, .int .i64 1, .slice (some ⟨w4.heap.size + 1, 0, none⟩) 1 1] 95)
        have hp3 := hp2.below (ba (Below.refl _ _) (.cells #[.int .i64 1, .int .i64 1, .int .i64 1, .slice (some ⟨w4.heap.size + 1, 0, none⟩) 1 1] 95))
        have HQ5 := Lib.hid (HQ.out.on hb3)
        have HK5 := Lib.hid hk; have HP5 := Lib.hid hp3
        clear e1 e2 hb1 hp1 hb2 hp2 hk hb3 hp3
        go_wp2_with fail
        generalize ((w4.alloc (.cells #[.int .i64 0, .map none] 114)).alloc (.cells #[.int .i64 0, .int .i64 0, .int .i64 1] 86)).alloc (.cells #[.int .i64 1, .int .i64 1, .int .i64 1, .slice (some ⟨w4.heap.size + 1, 0, none⟩) 1 1] 95) = w5 at *
        generalize w4.heap.size = pb at *
        refine (nend (no_plain HP5.out) 1 1).mono ?_
        rintro e w6 ⟨rfl, hb6⟩
        have hb67 := ba (Below.refl w6.heap.size w6) (.cells #[.int .i64 0, .int .i64 0, .int .i64 0, .slice none 0 0] 95)
        have HB7 := Lib.hid (bt hb6 hb67)
        clear hb6 hb67
        go_wp2_with fail
        generalize w6.alloc (.cells #[.int .i64 0, .int .i64 0, .int .i64 0, .slice none 0 0] 95) = w7 at *
        generalize w6.heap.size = zb at *
        refine (vof (HQ5.out.a.below HB7.out) hPl f).mono ?_
        rintro e w8 ⟨v1, l1, rfl, hl1, hp1, -, -, hb8⟩
        have HB8 := Lib.hid (bt HB7.out hb8)
        have HL1 := Lib.hid hl1; have HP1 := Lib.hid hp1
        clear hl1 hp1 hb8
        go_wp2_with fail
        refine (vall (HQ5.out.b.below HB8.out) hPl2).mono ?_
        rintro e w9 ⟨v2, l2, rfl, hl2, hp2, -, -, hb9⟩
        have HB9 := Lib.hid (bt HB8.out hb9)
        have HSM := Lib.hid (sameT_yes v1 v2 l1 l2 (fun x hx => by
          have h1 : x.pl ∈ P.filter (fun x => x.1 == f) := by rw [← HP1.out]; exact List.mem_map.2 ⟨x, hx, rfl⟩
          have h2 := (HQ5.out.a.pin.ok _ (List.mem_filter.1 h1).1).1.2.2.2.2
          have h3 : x.ps.length ≤ 132 := vr_len h2
          omega) (by rw [HP1.out, hp2]) w9 (HL1.out.below hb9) hl2)
        clear hl2 hp2 hb9
        go_wp2_with fail
        refine HSM.out.mono ?_
        rintro e w10 ⟨rfl, hb10⟩
        have HB10 := Lib.hid (bt HB9.out hb10)
        clear hb10
        go_wp2_with fail
        refine (vsum (HQ5.out.a.below HB10.out) hPl f).mono ?_
        rintro e w11 ⟨rfl, hb11⟩
        have HB11 := Lib.hid (bt HB10.out hb11)
        clear hb11
        have hss : sumP (ofF f P) f = sumP P f := by unfold sumP ofF; rw [List.filter_filter]; simp
        have HSS := Lib.hid hss
        clear hss
        go_wp2_with fail
        refine (vsum (HQ5.out.b.below HB11.out) hPl2 f).mono ?_
        rintro e w12 ⟨rfl, hb12⟩
        rw [HSS.out]
        have HB12 := Lib.hid (bt HB11.out hb12)
        clear hb12
        generalize sumP P f = g at *
        have hk12 := HK5.out.below HB12.out
        obtain ⟨m0, m1, m2, m3⟩ := hk12.cells
        have m4 := hk12.lt
        clear hk12
        go_wp2_with fail
        refine (nlaunch (no_nil w12) ⟨1, 1, 1, .slice (some ⟨pb + 1, 0, none⟩) 1 1, []⟩).mono ?_
        rintro e w13 ⟨rfl, hb13⟩
        have HB13 := Lib.hid (bt HB12.out hb13)
        clear hb13 m0 m1 m2 m3 m4
        have hk13 := HK5.out.below HB13.out
        obtain ⟨m0, m1, m2, m3⟩ := hk13.cells
        have m4 := hk13.lt
        clear hk13
        go_wp2_with fail
        refine (nlaunch ((no_plain HP5.out).on HB13.out) ⟨1, 1, 1, .slice (some ⟨pb + 1, 0, none⟩) 1 1, []⟩).mono ?_
        rintro e w14 ⟨rfl, hb14⟩
        have HB14 := Lib.hid (bt HB13.out hb14)
        clear hb14 m0 m1 m2 m3 m4
        go_wp2_with fail
        refine (nlong (no_nil w14)).mono ?_
        rintro e w15 ⟨rfl, hb15⟩
        have HB15 := Lib.hid (bt HB14.out hb15)
        clear hb15
        go_wp2_with fail
        refine (nsum (no_nil w15) 1).mono ?_
        rintro e w16 ⟨rfl, hb16⟩
        have HB16 := Lib.hid (bt HB15.out hb16)
        clear hb16
        go_wp2_with fail
        refine (works25 w16).mono ?_
        rintro e w17 ⟨rfl, hb17⟩
        have HB17 := Lib.hid (bt HB16.out hb17)
        clear hb17
        go_wp2
        go_ret
        exact ⟨rfl, HQ5.out.bel.trans (HB17.out.mono HQ5.out.bel.size)⟩
  · have hFF : decide (l.length ≤ 100 ∧ (l.map taW).sum ≤ 400) = false := decide_eq_false hfew
    go_enter Try.func10, Try.ntmps10
    go_wp2_with fail
    refine HF.out.mono ?_
    rintro e w1 ⟨rfl, rfl⟩
    rw [hFF]
    clear hfew
    go_wp2
    go_ret
    exact ⟨rfl, Below.refl _ _⟩
end Go.Proofs.Ytnckjacbkhoppaa

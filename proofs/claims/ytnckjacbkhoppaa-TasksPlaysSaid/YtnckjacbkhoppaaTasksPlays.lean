/- For any cap, any acts and any two numbers the statement TasksPlays returns true. Condition: none. -/
import Derived.Test.YtnckjacbkhoppaaTn2
import Derived.OpenShut
namespace Go.Proofs.Ytnckjacbkhoppaa
open Go.RowKit Go.Maps
attribute [local go_sem] ext_cell ext_frozen extC_cell extC_frozen Mix.calmUpon Mix.mUpon eq4
theorem mlaunch {w : World} {v : Value} {S : List Tk} {cap : Int} (h : TL w v S) (hS : Srt.In tkey ltT S) (hln : S.length < 900000) (x : Tk) (hx : TGo w x) : Calls Try.prog 56 #[mval cap v, tkval x] w (RetL w cap v (lauT cap S x) (lauE cap (S.map Tk.pl) x.pl)) := by
  rw [lauE_T]
  unfold lauT
  by_cases hok : PkOk x.pl
  · rw [if_pos hok, if_pos hok]
    by_cases hf : (fndT S (tkey x)).isSome = true
    · rw [if_pos hf, if_pos hf]
      exact mlaunch_there h.rs x hx hok hf
    · have hf' : (fndT S (tkey x)).isSome = false := by simpa using hf
      rw [if_neg hf, if_neg hf]
      by_cases hc : cap ≤ (S.length : Nat)
      · rw [if_pos hc, if_pos hc]; exact mlaunch_cap h.rs x hx hok hf' hc
      · rw [if_neg hc, if_neg hc]; exact mlaunch_ok h.rs hS h.vec hln x hx hok hf' hc
  · rw [if_neg hok, if_neg hok]; exact mlaunch_arg h.rs x hx hok
theorem in_of_pin {S : List Tk} (h : PIn (S.map Tk.pl)) : Srt.In tkey ltT S := List.pairwise_map.1 h.srt
/-- A slice of one task, made of a block that holds it. -/
theorem TL.made {w : World} {q : Nat} {x : Tk} (hk : KB w q x.frame x.id x.agent x.vv) (hv : Vc w x.vv x.ps) : TL w (.slice (some ⟨q, 0, none⟩) 1 1) [x] := by
  refine ⟨⟨some ⟨q, 0, none⟩, 1, rfl, Nat.le_refl _, by decide, fun _ => ⟨q, 0, rfl, hk.lt, fun i hi j u hu => ?_⟩⟩, fun y hy => by rw [List.mem_singleton.1 hy]; exact hv⟩
  obtain rfl : i = 0 := by simpa using hi
  obtain ⟨h0, h1, h2, h3⟩ := hk.cells
  rcases j with _ | _ | _ | _ | j <;> simp [tkenc] at hu
  · subst hu; exact h0
  · subst hu; exact h1
  · subst hu; exact h2
  · subst hu; exact h3
/-- one. -/
theorem one_any {w : World} {x : Tk} (q : Bool) (hv : Vc w x.vv x.ps) : Calls Try.prog 54 #[tkval x, .bool q] w fun e w' => ∃ u, e = .returned u ∧ TL w' u (if q then [x] else []) ∧ Below w.heap.size w w' := by
  obtain ⟨f, i, g, xv, xs⟩ := x
  obtain ⟨va, vc, hvv, -, -⟩ := hv.form
  simp only at hvv
  subst hvv
  have HV := Lib.hid hv
  generalize xs.length = xn at *
  have hb1 := ba (Below.refl w.heap.size w) (.cells #[.int .i64 f, .int .i64 i, .int .i64 g, .slice va xn vc] 95)
  have hb2 := ba hb1 (.cells #[.int .i64 f, .int .i64 i, .int .i64 g, .slice va xn vc] 95)
  have HB1 := Lib.hid hb1; have HB2 := Lib.hid hb2
  have HK := Lib.hid (KB.made (w.alloc (.cells #[.int .i64 f, .int .i64 i, .int .i64 g, .slice va xn vc] 95)) f i g (.slice va xn vc))
  clear hv hb1 hb2
  cases q with
  | true =>
    go_enter Try.func54, Try.ntmps54
    go_wp2
    go_ret
    refine ⟨_, rfl, ?_, HB2.out⟩
    have h := TL.made (x := ⟨f, i, g, .slice va xn vc, xs⟩) HK.out (HV.out.on HB2.out)
    simpa using h
  | false =>
    go_enter Try.func54, Try.ntmps54
    go_wp2
    go_ret
    exact ⟨_, rfl, ⟨RS.nil _ _ _, fun x hx => by cases hx⟩, HB1.out⟩
/-- The table and the document's list, after t acts. -/
structure PSt (w1 wr : World) (tp M mb : Nat) (cap : Int) (P : List Pk) (vm : Value) (L : List Tk) (t : Nat) : Prop where
  tv : TV wr w1.heap.size tp M cap P (fun b => b ≠ mb)
  m : MB wr mb cap vm
  ml : RS 4 tkenc wr vm L
  pl : L.map Tk.pl = P
  vec : ∀ x ∈ L, Vc w1 x.vv x.ps
  own : ∀ b, vm.ownBlock = some b → mb < b
  bel : Below w1.heap.size w1 wr
  len : P.length ≤ t
  hM : w1.heap.size ≤ M ∧ M < mb ∧ tp < mb
section
variable {w1 wr w' : World} {tp M mb : Nat} {cap : Int} {P : List Pk} {vm : Value} {L : List Tk} {t : Nat}
theorem PSt.on (h : PSt w1 wr tp M mb cap P vm L t) (hb : Below wr.heap.size wr w') : PSt w1 w' tp M mb cap P vm L t :=
  ⟨h.tv.below hb, h.m.below hb, h.ml.below hb, h.pl, h.vec, h.own, h.bel.trans (hb.mono h.bel.size), h.len, h.hM⟩
theorem PSt.tl (h : PSt w1 wr tp M mb cap P vm L t) : TL wr vm L := ⟨h.ml, fun x hx => (h.vec x hx).on h.bel⟩
theorem PSt.form (h : PSt w1 wr tp M mb cap P vm L t) : ∃ a n c, vm = .slice a n c := by obtain ⟨a, n, c, rfl, _⟩ := h.ml.at_; exact ⟨a, n, c, rfl⟩
theorem PSt.llen (h : PSt w1 wr tp M mb cap P vm L t) : L.length ≤ t := by have := h.len; have := congrArg List.length h.pl; rw [List.length_map] at this; omega
theorem PSt.srt (h : PSt w1 wr tp M mb cap P vm L t) : Srt.In tkey ltT L := in_of_pin (by rw [h.pl]; exact h.tv.pin)
theorem PSt.fnd (h : PSt w1 wr tp M mb cap P vm L t) (k : K2) : fndK P k = (fndT L k).map Tk.pl := by rw [← h.pl]; exact pl_fndT L k
theorem PSt.look (h : PSt w1 wr tp M mb cap P vm L t) (k : K2) : decide (0 ≤ Srt.pl tkey L k) = (fndK P k).isSome := by rw [Srt.pl_fnd, h.fnd, Option.isSome_map]
/-- Behind an act on the table, the list as it was. -/
theorem PSt.act (h : PSt w1 wr tp M mb cap P vm L t) (hc : Chg (fun k => k = M) wr w') : MB w' mb cap vm ∧ RS 4 tkenc w' vm L ∧ Below w1.heap.size w1 w' :=
  ⟨h.m.chg hc (by have := h.hM; show ¬ mb = M; omega), h.ml.chg hc (fun b hb e => by have := h.own b hb; have := h.hM; have e : b = M := e; omega), h.bel.trans (hc.below h.bel.size fun k e => by rw [e]; exact h.hM.1)⟩
/-- .. and the list turned with it. -/
theorem PSt.both (h : PSt w1 wr tp M mb cap P vm L t) {P' : List Pk} {v' : Value} {L' : List Tk} {w2 : World} (ht : TV w2 w1.heap.size tp M cap P' (fun b => b ≠ mb)) (hm : MB w2 mb cap vm) (hl : RS 4 tkenc w2 v' L') (hpl : L'.map Tk.pl = P') (hvec : ∀ x ∈ L', Vc w1 x.vv x.ps) (hown : ∀ b, v'.ownBlock = some b → mb < b)
    (hbel : Below w1.heap.size w1 w2) (hlen : P'.length ≤ t + 1) : PSt w1 ((w2.setCell ⟨mb, 0, none⟩ (.int .i64 cap)).setCell ⟨mb, 1, none⟩ v') tp M mb cap P' v' L' (t + 1) := by
  have hc := mb_chg w2 mb (.int .i64 cap) v'
  have hM := h.hM
  exact ⟨ht.chg hc (by show ¬ tp = mb; omega) (by show ¬ M = mb; omega) (fun b hb _ e => hb e), hm.set2 cap v', hl.chg hc (fun b hb e => by have := hown b hb; have e : b = mb := e; omega), hpl, hvec, hown, hbel.trans (hc.below hbel.size fun k e => by rw [e]; omega), hlen, hM⟩
end
theorem vget2 {w : World} {B tp M : Nat} {cap : Int} {P : List Pk} {V : Nat → Prop} (h : TV w B tp M cap P V) {f i : Int} (hf : I64 f) (hi : I64 i) : Calls Try.prog 51 #[ptr tp, .int .i64 f, .int .i64 i] w fun e w' => (∃ z : Tk, e = .returned (.tuple #[tkval z, .bool (fndK P ⟨f, i⟩).isSome]) ∧ z.pl = (fndK P ⟨f, i⟩).getD (0, 0, 0, []) ∧ Vc w' z.vv z.ps ∧ ∀ b, z.vv.ownBlock = some b → w.heap.size ≤ b) ∧ Below w.heap.size w w' := by
  obtain ⟨S, L, h, hp, _, hv⟩ := h
  have hq : fndK P ⟨f, i⟩ = (fndT S ⟨f, i⟩).map Tk.pl := by rw [← hp]; exact pl_fndT S _
  rw [hq]
  cases hy : fndT S ⟨f, i⟩ with
  | none =>
    refine (tget_none h hf hi hy).mono ?_
    rintro e w' ⟨rfl, hb⟩
    exact ⟨⟨⟨0, 0, 0, .slice none 0 0, []⟩, rfl, rfl, Vc.nil _, fun b hb => by cases hb⟩, hb⟩
  | some y =>
    refine (tget_some h hf hi hy).mono ?_
    rintro e w' ⟨u, rfl, hu, hb⟩
    exact ⟨⟨⟨y.frame, y.id, y.agent, u, y.ps⟩, rfl, rfl, hu.vc, fun b hb => (hu.lt b hb).1⟩, hb⟩
set_option maxRecDepth 100000 in
set_option maxHeartbeats 16000000 in
theorem plays25 (cap : Int) (v : Value) (l : List Ta) (i0 i1 : Int) (W : World) (hr : RS 5 taenc W v l) (ha : ∀ x ∈ l, TIn W x.tk) :
    Calls Try.prog 9 #[.int .i64 cap, v, .agg #[.int .i64 i0, .int .i64 i1]] W fun e w' => e = .returned (.bool true) ∧ Below W.heap.size W w' := by
  have hbI := ba (Below.refl W.heap.size W) (.cells #[.int .i64 i0, .int .i64 i1] 50)
  have hcI := heap_alloc_new W (.cells #[.int .i64 i0, .int .i64 i1] 50)
  have HF := Lib.hid (few25 v l (W.alloc (.cells #[.int .i64 i0, .int .i64 i1] 50)) (hr.below hbI) (fun x hx => ⟨(ha x hx).fr, (ha x hx).id, (ha x hx).ag, (ha x hx).vc.on hbI, (ha x hx).i64, (ha x hx).len⟩))
  have hr1 := hr.below hbI
  have HA := Lib.hid (show ∀ x ∈ l, TIn (W.alloc (.cells #[.int .i64 i0, .int .i64 i1] 50)) x.tk from fun x hx => ⟨(ha x hx).fr, (ha x hx).id, (ha x hx).ag, (ha x hx).vc.on hbI, (ha x hx).i64, (ha x hx).len⟩)
  obtain ⟨a, n, c, rfl, hn, hc, hm, hat⟩ := hr1.at_
  have HN := Lib.hid hn; have HAT := Lib.hid hat; have HBI := Lib.hid hbI
  have HCI := Lib.hid hcI
  have HIB := Lib.hid (show W.heap.size < (W.alloc (.cells #[.int .i64 i0, .int .i64 i1] 50)).heap.size by simp)
  clear hr hn hat ha hm hc hr1 hbI hcI
  by_cases hfew : l.length ≤ 100 ∧ (l.map taW).sum ≤ 400
  · have hFT : decide (l.length ≤ 100 ∧ (l.map taW).sum ≤ 400) = true := decide_eq_true hfew
    have HFT := Lib.hid hFT
    have HLE := Lib.hid (few_each hfew.2)
    have hn100 : n ≤ 100 := by rw [HN.out]; exact hfew.1
    clear hfew hFT
    go_enter Try.func9, Try.ntmps9
    go_wp2_with fail
    generalize W.alloc (.cells #[.int .i64 i0, .int .i64 i1] 50) = w1 at *
    obtain ⟨ib, hib⟩ : ∃ k, k = W.heap.size := ⟨_, rfl⟩
    rw [← hib] at HIB HCI HBI ⊢
    have HIQ := Lib.hid hib
    clear hib
    refine HF.out.mono ?_
    rintro e w2 ⟨rfl, rfl⟩
    rw [HFT.out]
    by_cases hcap : cap < 1
    · have hc1 : decide (cap < 1) = true := decide_eq_true hcap
      go_wp2_with fail
      refine (tnew_none w2 hcap).mono ?_
      rintro e w3 ⟨rfl, rfl⟩
      go_wp2_with fail
      refine (works25 w3).mono ?_
      rintro e w4 ⟨rfl, hb4⟩
      have HB4 := Lib.hid hb4
      clear hb4
      go_wp2
      go_ret
      exact ⟨rfl, by rw [← HIQ.out]; exact HBI.out.trans (HB4.out.mono (Nat.le_of_lt HIB.out))⟩
    · have hc1 : decide (cap < 1) = false := decide_eq_false hcap
      go_wp2_with fail
      refine (vnew w2 (cap := cap) (by omega)).mono ?_
      rintro e w3 ⟨rfl, h3, hb3⟩
      have H3 := Lib.hid h3; have HB3 := Lib.hid hb3
      have hb34 := ba (Below.refl w3.heap.size w3) (.cells #[.int .i64 cap, .slice none 0 0] 93)
      have HM4 := Lib.hid (MB.made w3 cap (.slice none 0 0))
      have HB34 := Lib.hid hb34
      clear h3 hb3 hb34
      go_wp2
      obtain ⟨tp, htp⟩ : ∃ tp, tp = w2.heap.size + 1 := ⟨_, rfl⟩
      obtain ⟨M, hM⟩ : ∃ M, M = w2.heap.size := ⟨_, rfl⟩
      obtain ⟨mb, hmb⟩ : ∃ k, k = w3.heap.size := ⟨_, rfl⟩
      have HI := Lib.hid (show PSt w2 (w3.alloc (.cells #[.int .i64 cap, .slice none 0 0] 93)) tp M mb cap [] (.slice none 0 0) [] 0 from by
        have hl := H3.out.lt
        rw [htp, hM, hmb]
        exact ⟨(H3.out.below HB34.out).mono fun _ h => h.elim, HM4.out, RS.nil _ _ _, rfl, (fun x hx => by cases hx), (fun b hb => by cases hb), bt HB3.out HB34.out, Nat.le_refl _, ⟨Nat.le_refl _, by omega, by omega⟩⟩)
      rw [← htp, ← hmb]
      clear htp hM hmb H3 HB3 HM4 HB34
      generalize w3.alloc (.cells #[.int .i64 cap, .slice none 0 0] 93) = w4 at *
      go_loopw [9] (fun iv wr => ∃ (t : Nat) (P : List Pk) (vm : Value) (L : List Tk), t ≤ n ∧ iv = .int .i64 t ∧ Hid (PSt w2 wr tp M mb cap P vm L t)) (fun iv _ => n - (intOf iv).toNat)
      case atStart => exact ⟨0, [], _, [], Nat.zero_le _, rfl, HI⟩
      case round =>
        clear HI
        obtain ⟨t, P, vm, L, ht, rfl, HQ⟩ := hrel
        obtain ⟨w5, rfl⟩ : ∃ w5, w5 = wr := ⟨_, rfl⟩
        obtain ⟨ma, mn, mc, rfl⟩ := HQ.out.form
        by_cases hlt : t < n
        · have hts : (t : Int) < (n : Int) := by omega
          obtain ⟨x, hx⟩ := at_lt (l := l) (i := t) (by rw [← HN.out]; exact hlt)
          obtain ⟨bs, off, rfl, hbs, hcell⟩ := HAT.out t x hx
          have hxi := HA.out x (mem_at hx)
          have hxl := HLE.out x (mem_at hx)
          have hbw := HQ.out.bel
          obtain ⟨xe, ⟨xf, xi, xa, xv, xs⟩⟩ := x
          obtain ⟨va, vc, hvv, -, -⟩ := hxi.vc.form
          simp only at hvv
          subst hvv
          have c0 := (hbw.cell (p := ⟨bs, _, none⟩) hbs).trans (hcell 0 _ rfl)
          have c1 := (hbw.cell (p := ⟨bs, _, none⟩) hbs).trans (hcell 1 _ rfl)
          have c2 := (hbw.cell (p := ⟨bs, _, none⟩) hbs).trans (hcell 2 _ rfl)
          have c3 := (hbw.cell (p := ⟨bs, _, none⟩) hbs).trans (hcell 3 _ rfl)
          have c4 := (hbw.cell (p := ⟨bs, _, none⟩) hbs).trans (hcell 4 _ rfl)
          simp only [Nat.add_zero] at c0
          have hbs4 : bs < w5.heap.size := Nat.lt_of_lt_of_le hbs hbw.size
          have hb56 := ba (Below.refl w5.heap.size w5) (.cells #[.int .i64 xf, .int .i64 xi, .int .i64 xa, .slice va xs.length vc] 95)
          have HQ6 := Lib.hid (HQ.out.on hb56)
          have HK6 := Lib.hid (KB.made w5 xf xi xa (.slice va xs.length vc))
          have HGO := Lib.hid ((hxi.go hbw hxl).on hb56)
          have HXV := Lib.hid (show Vc w2 (.slice va xs.length vc) xs from hxi.vc)
          have HC0 := Lib.hid ((hb56.cell (p := ⟨bs, _, none⟩) hbs4).trans c0)
          have HLT := Lib.hid (show bs < w2.heap.size ∧ w2.heap.size ≤ w5.heap.size ∧ mb < w5.heap.size from ⟨hbs, hbw.size, HQ.out.m.lt⟩)
          obtain ⟨z0, z1⟩ := HQ.out.m.cells
          have z2 := HQ.out.m.lt
          clear hcell hx hxi hxl hbw hbs hb56
          go_wp2_with fail
          generalize w5.alloc (.cells #[.int .i64 xf, .int .i64 xi, .int .i64 xa, .slice va xs.length vc] 95) = w6 at *
          obtain ⟨bx, hbx⟩ : ∃ k, k = w5.heap.size := ⟨_, rfl⟩
          rw [← hbx] at HK6 ⊢
          have HBX := Lib.hid hbx
          clear hbx c0 c1 c2 c3 c4 hbs4 z0 z1 z2
          have HLOOK := Lib.hid (HQ.out.look ⟨xf, xi⟩)
          refine (mat HQ6.out.ml xf xi).mono ?_
          rintro e w7 ⟨rfl, hb7⟩
          have HB7 := Lib.hid hb7
          obtain ⟨k0, k1, k2, k3⟩ := (HK6.out.below hb7).cells
          have k4 := (HK6.out.below hb7).lt
          clear hb7
          go_wp2_with fail
          refine (vget2 (HQ6.out.on HB7.out).tv HGO.out.fr HGO.out.id).mono ?_
          rintro e w8 ⟨⟨z, rfl, hz, hzv, hzo⟩, hb8⟩
          have HB8 := Lib.hid (bt HB7.out hb8)
          obtain ⟨zf, zi, za, zv, zs⟩ := z
          obtain ⟨zva, zvc, hzq, -, -⟩ := hzv.form
          simp only at hzq hzv hzo
          subst hzq
          have HZ := Lib.hid hz; have HZV := Lib.hid hzv
          have HZO := Lib.hid (show ∀ b, Value.ownBlock (.slice zva zs.length zvc) = some b → mb < b from fun b hb => by have := hzo b hb; have := HB7.out.size; have := HK6.out.lt; have := HBX.out; have := HLT.out; omega)
          clear hzo
          have hb89 := ba (Below.refl w8.heap.size w8) (.cells #[.int .i64 zf, .int .i64 zi, .int .i64 za, .slice zva zs.length zvc] 95)
          have HKY := Lib.hid (KB.made w8 zf zi za (.slice zva zs.length zvc))
          have HB9 := Lib.hid (bt HB8.out hb89)
          have HB89 := Lib.hid hb89
          obtain ⟨yb, hyb⟩ : ∃ k, k = w8.heap.size := ⟨_, rfl⟩
          rw [← hyb] at HKY
          have HYQ := Lib.hid (show mb < yb from by rw [hyb]; have := HLT.out; have := HB8.out.size; have := HK6.out.lt; have := HBX.out; omega)
          have HYB := Lib.hid hyb
          clear k0 k1 k2 k3 k4 hb8 hz hzv hb89 hyb
          cases ho : fndK P ⟨xf, xi⟩ with
          | none =>
            have hr0 : decide (0 ≤ Srt.pl tkey L ⟨xf, xi⟩) = false := by rw [HLOOK.out, ho]; rfl
            have HO := Lib.hid ho
            clear ho
            generalize Srt.pl tkey L ⟨xf, xi⟩ = r at *
            have hr1 : (0 ≤ r) = False := eq_false (of_decide_eq_false hr0)
            go_wp2_with fail
            generalize w8.alloc (.cells #[.int .i64 zf, .int .i64 zi, .int .i64 za, .slice zva zs.length zvc] 95) = w9 at *
            rw [← HYB.out]
            refine wp_region_pure (by kernel_rfl) (by kernel_rfl) ?_
            repeat (first | go_big_quiet_step ((fail)) | (quiet_step ((fail))))
            refine wpQuiet_nil ?_
            rintro w10 ⟨x10, hx10⟩
            have hb10 := ext_below _ x10
            rw [← hx10] at hb10
            clear hx10 x10
            have hs10 : w9.heap.size + 0 ≤ w10.heap.size := (by have h := hb10.size; first | omega | (simp at h; omega))
            obtain ⟨hc10, hf10, hl10⟩ := bcell hb10
            clear hl10
            have HB910 := Lib.hid hb10
            have HQ10 := Lib.hid (HQ6.out.on (bt HB9.out hb10))
            have HKX10 := Lib.hid (HK6.out.below (bt HB9.out hb10))
            have HKY10 := Lib.hid (HKY.out.below hb10)
            have HZV10 := Lib.hid (HZV.out.on (bt HB89.out hb10))
            have HC10 := Lib.hid (((bt HB9.out hb10).cell (p := ⟨bs, _, none⟩) (by have := HLT.out; have := HK6.out.lt; have := HBX.out; show bs < w6.heap.size; omega)).trans HC0.out)
            clear hb10
            have c10 := HC10.out
            have c11 : bs < w10.heap.size := by have := HLT.out; have := HKX10.out.lt; have := HBX.out; omega
            obtain ⟨k0, k1, k2, k3⟩ := HKX10.out.cells
            have k4 := HKX10.out.lt
            cases xe with
            | true =>
              go_wp2_with fail
              refine (vend HQ10.out.tv HGO.out.fr HGO.out.id).mono ?_
              rintro e w11 ⟨⟨z2, rfl, hz2, hzv2⟩, h11, hc11⟩
              obtain ⟨gf, gi, ga, gv, gs⟩ := z2
              obtain ⟨gva, gvc, hgq, -, -⟩ := hzv2.form
              simp only at hgq hzv2
              subst hgq
              rw [HO.out] at hz2 ⊢
              have HACT := Lib.hid (HQ10.out.act hc11)
              have HKX11 := Lib.hid (HKX10.out.chg hc11 (by have := HLT.out; have := HBX.out; have := HQ10.out.hM; show ¬ bx = M; omega))
              have HKY11 := Lib.hid (HKY10.out.chg hc11 (by have := HLT.out; have := HYQ.out; have := HQ10.out.hM; show ¬ yb = M; omega))
              have HZV11 := Lib.hid (show Vc w11 (.slice zva zs.length zvc) zs from HZV10.out.keep hc11 (.inr fun b hb e => by have := HZO.out b hb; have := HQ10.out.hM; have e : b = M := e; omega))
              have HG2 := Lib.hid hzv2
              have hb12 := ba (Below.refl w11.heap.size w11) (.cells #[.int .i64 gf, .int .i64 gi, .int .i64 ga, .slice gva gs.length gvc] 95)
              have HKG := Lib.hid (KB.made w11 gf gi ga (.slice gva gs.length gvc))
              have HB12 := Lib.hid hb12
              have HGP := Lib.hid hz2
              have HTV := Lib.hid (show TV w11 w2.heap.size tp M cap (delK P ⟨xf, xi⟩) (fun b => b ≠ mb) from h11)
              clear hzv2 hb12 hz2 h11 hc11 c10 c11 k0 k1 k2 k3 k4
              have hk12 := HKY11.out.below HB12.out
              go_wp2_with fail
              generalize w11.alloc (.cells #[.int .i64 gf, .int .i64 gi, .int .i64 ga, .slice gva gs.length gvc] 95) = w12 at *
              obtain ⟨zb, hzb⟩ : ∃ k, k = w11.heap.size := ⟨_, rfl⟩
              rw [← hzb] at HKG ⊢
              clear hzb
              obtain ⟨m0, m1, m2, m3⟩ := HKG.out.cells
              have m4 := HKG.out.lt
              obtain ⟨k0, k1, k2, k3⟩ := hk12.cells
              have k4 := hk12.lt
              clear hk12
              refine Mix.regionC (fun _ => False) (by kernel_rfl) ?_
              intro w13 hb13
              refine Mix.take_exC _ _ 0 rfl (by kernel_rfl) (by kernel_rfl) (by kernel_rfl) (by kernel_rfl) (fun K hK => ?_)
              go_simp
              first | (refine hK _ ?_; clear hK K) | (apply Exists.intro; refine ⟨fun x => ?_, hK _ ?_⟩; (fail); clear hK K)
              refine Mix.take_exC _ _ 1 rfl (by kernel_rfl) (by kernel_rfl) (by kernel_rfl) (by kernel_rfl) (fun K hK => ?_)
              go_simp
              first | (refine hK _ ?_; clear hK K) | (apply Exists.intro; refine ⟨fun x => ?_, hK _ ?_⟩; (fail); clear hK K)
              refine Mix.take_exC _ _ 2 rfl (by kernel_rfl) (by kernel_rfl) (by kernel_rfl) (by kernel_rfl) (fun K hK => ?_)
              go_simp
              first | (refine hK _ ?_; clear hK K) | (apply Exists.intro; refine ⟨fun x => ?_, hK _ ?_⟩; (fail); clear hK K)
              refine Mix.take_exC _ _ 3 rfl (by kernel_rfl) (by kernel_rfl) (by kernel_rfl) (by kernel_rfl) (fun K hK => ?_)
              go_simp
              first | (refine hK _ ?_; clear hK K) | (apply Exists.intro; refine ⟨fun x => ?_, hK _ ?_⟩; (fail); clear hK K)
              refine Mix.take_exC _ _ 4 rfl (by kernel_rfl) (by kernel_rfl) (by kernel_rfl) (by kernel_rfl) (fun K hK => ?_)
              go_simp
              first | (refine hK _ ?_; clear hK K) | (apply Exists.intro; refine ⟨fun x => ?_, hK _ ?_⟩; (fail); clear hK K)
              refine Mix.take_exC _ _ 5 rfl (by kernel_rfl) (by kernel_rfl) (by kernel_rfl) (by kernel_rfl) (fun K hK => ?_)
              go_simp
              first | (refine hK _ ?_; clear hK K) | (apply Exists.intro; refine ⟨fun x => ?_, hK _ ?_⟩; (fail); clear hK K)
              refine Mix.take_exC _ _ 7 rfl (by kernel_rfl) (by kernel_rfl) (by kernel_rfl) (by kernel_rfl) (fun K hK => ?_)
              go_simp
              first | (refine hK _ ?_; clear hK K) | (apply Exists.intro; refine ⟨fun x => ?_, hK _ ?_⟩; (fail); clear hK K)
              refine Mix.take_exC _ _ 8 rfl (by kernel_rfl) (by kernel_rfl) (by kernel_rfl) (by kernel_rfl) (fun K hK => ?_)
              go_simp
              first | (refine hK _ ?_; clear hK K) | (apply Exists.intro; refine ⟨fun x => ?_, hK _ ?_⟩; (fail); clear hK K)
              refine Mix.all (rs := [6]) (by kernel_rfl) (by simp) (.of_below _ hb13) ?_
              intro i14 hi14 w14 hb14 hC14
              simp only [List.mem_cons, List.not_mem_nil, or_false] at hi14
              subst hi14
              have HB14 := Lib.hid (bt hb13 hb14)
              clear hC14 hb13 hb14
              refine Mix.op rfl (by kernel_rfl) ?_
              go_simp
              refine (one_any (x := ⟨gf, gi, ga, .slice gva gs.length gvc, gs⟩) false (HG2.out.on (bt HB12.out HB14.out))).mono ?_
              rintro e w15 ⟨u1x, rfl, hu1, hb15⟩
              refine ⟨_, rfl, ?_⟩
              have HU1 := Lib.hid hu1
              have HB15 := Lib.hid (bt HB14.out hb15)
              clear hu1 hb15
              refine Mix.all (rs := [9]) (by kernel_rfl) (by simp) (.of_below _ HB15.out) ?_
              intro i16 hi16 w16 hb16 hC16
              simp only [List.mem_cons, List.not_mem_nil, or_false] at hi16
              subst hi16
              have HB16 := Lib.hid (bt HB15.out hb16)
              have HU1' := Lib.hid (HU1.out.below hb16)
              clear hC16 hb16
              refine Mix.op rfl (by kernel_rfl) ?_
              go_simp
              refine (one_any (x := ⟨zf, zi, za, .slice zva zs.length zvc, zs⟩) false (HZV11.out.on (bt HB12.out HB16.out))).mono ?_
              rintro e w17 ⟨u2x, rfl, hu2, hb17⟩
              refine ⟨_, rfl, ?_⟩
              have HU1 := Lib.hid (HU1'.out.below hb17)
              have HU2 := Lib.hid hu2
              have HB17 := Lib.hid (bt HB16.out hb17)
              clear hu2 hb17 HU1'
              refine Mix.all (rs := [10]) (by kernel_rfl) (by simp) (.of_below _ HB17.out) ?_
              intro i18 hi18 w18 hb18 hC18
              simp only [List.mem_cons, List.not_mem_nil, or_false] at hi18
              subst hi18
              have HB18 := Lib.hid (bt HB17.out hb18)
              have HSM := Lib.hid (sameT_yes u1x u2x _ _ (fun y hy => by cases hy) (by have h1 := HGP.out; have h2 := HZ.out; rw [HO.out] at h2; simp only [Bool.false_eq_true, if_false, if_true, List.map_cons, List.map_nil]; try rw [h1, h2]) w18 (HU1.out.below hb18) (HU2.out.below hb18))
              clear hC18 hb18
              refine Mix.op rfl (by kernel_rfl) ?_
              go_simp
              refine HSM.out.mono ?_
              rintro e w19 ⟨rfl, hb19⟩
              refine ⟨_, rfl, ?_⟩
              have HB19 := Lib.hid (bt HB18.out hb19)
              clear hb19 m0 m1 m2 m3 m4 k0 k1 k2 k3 k4
              refine Mix.take_exC _ _ 11 rfl (by kernel_rfl) (by kernel_rfl) (by kernel_rfl) (by kernel_rfl) (fun K hK => ?_)
              go_simp
              first | (refine hK _ ?_; clear hK K) | (apply Exists.intro; refine ⟨fun x => ?_, hK _ ?_⟩; (fail); clear hK K)
              refine Mix.take_exC _ _ 12 rfl (by kernel_rfl) (by kernel_rfl) (by kernel_rfl) (by kernel_rfl) (fun K hK => ?_)
              go_simp
              first | (refine hK _ ?_; clear hK K) | (apply Exists.intro; refine ⟨fun x => ?_, hK _ ?_⟩; (fail); clear hK K)
              refine Mix.done (by kernel_rfl) (.of_below _ HB19.out) ?_
              intro w20 hb20
              have HBF := Lib.hid (bt HB12.out (bt HB19.out hb20))
              clear hb20
              have hmb := HACT.out.1.below HBF.out
              have hml := HACT.out.2.1.below HBF.out
              obtain ⟨z0, z1⟩ := hmb.cells
              have z2 := hmb.lt
              have hkx := HKX11.out.below HBF.out
              obtain ⟨k0, k1, k2, k3⟩ := hkx.cells
              have k4 := hkx.lt
              have HMB := Lib.hid hmb; have HML := Lib.hid hml
              clear hmb hml hkx
              go_wp2_with fail
              refine (mend HML.out (fun y hy => (HQ10.out.vec y hy).on (HACT.out.2.2.trans (HBF.out.mono HACT.out.2.2.size))) (by have := HQ10.out.llen; omega) xf xi).mono ?_
              rintro e w21 ⟨v', rfl, hq⟩
              obtain ⟨na, nn, nc, rfl, -, -, -, -⟩ := hq.rs.at_
              have hmb := HMB.out.below hq.bel
              have HI := Lib.hid (HQ10.out.both (v' := .slice na nn nc) (L' := delT L ⟨xf, xi⟩) ((HTV.out.below HBF.out).below hq.bel) hmb hq.rs (by rw [pl_delT, HQ10.out.pl]) (fun y hy => HQ10.out.vec y (Srt.mem_del.1 hy).1) (fun b hb => by have := (hq.own b hb).1; have := HMB.out.lt; omega) (HACT.out.2.2.trans ((HBF.out.mono HACT.out.2.2.size).trans (hq.bel.mono (Nat.le_trans HACT.out.2.2.size HBF.out.size)))) (Nat.le_trans delK_len (Nat.le_succ_of_le HQ10.out.len)))
              obtain ⟨y0, y1⟩ := hmb.cells
              have y2 := hmb.lt
              have y3 := hmb.fz 0; have y4 := hmb.fz 1
              clear hmb hq z0 z1 z2 k0 k1 k2 k3 k4
              go_wp2
              go_roundw
              case rel => exact ⟨t + 1, _, _, _, by omega, by go_num, HI⟩
              case measure => simp [intOf]; omega
            | false =>
              have HTL := Lib.hid HQ10.out.tl
              obtain ⟨z0, z1⟩ := HQ10.out.m.cells
              have z2 := HQ10.out.m.lt
              have HG10 := Lib.hid (HGO.out.on (bt HB9.out HB910.out))
              go_wp2_with fail
              refine (mlaunch HTL.out HQ10.out.srt (by have := HQ10.out.llen; omega) ⟨xf, xi, xa, .slice va xs.length vc, xs⟩ HG10.out).mono ?_
              rintro e w11 ⟨v', rfl, hrs, hown, hb11⟩
              rw [HQ10.out.pl]
              obtain ⟨na, nn, nc, rfl, -, -, -, -⟩ := hrs.at_
              have hb12 := ba (Below.refl w11.heap.size w11) (.cells #[.int .i64 cap, .slice na nn nc] 93)
              have HMN := Lib.hid (MB.made w11 cap (.slice na nn nc))
              have HB12 := Lib.hid (bt hb11 hb12)
              have HRS12 := Lib.hid (hrs.below hb12)
              have HOWN := Lib.hid hown
              have HS11 := Lib.hid hb11.size
              have hk12 := HKX10.out.below HB12.out
              clear c10 c11 k0 k1 k2 k3 k4 z0 z1 z2 hrs hown hb11 hb12
              obtain ⟨k0, k1, k2, k3⟩ := hk12.cells
              have k4 := hk12.lt
              clear hk12
              go_wp2_with fail
              generalize w11.alloc (.cells #[.int .i64 cap, .slice na nn nc] 93) = w12 at *
              obtain ⟨nb, hnb⟩ : ∃ k, k = w11.heap.size := ⟨_, rfl⟩
              rw [← hnb] at HMN HS11 ⊢
              clear hnb
              refine (vlaunch (HQ10.out.on HB12.out).tv (HQ10.out.on HB12.out).bel.size ⟨xf, xi, xa, .slice va xs.length vc, xs⟩ (HG10.out.on HB12.out)).mono ?_
              rintro e w13 ⟨rfl, h13, hc13⟩
              have hM := HQ10.out.hM
              have hmlt := HQ10.out.m.lt
              have hact := (HQ10.out.on HB12.out).act hc13
              have hMN := HMN.out.chg hc13 (by have := HS11.out; show ¬ nb = M; omega)
              have HI := Lib.hid ((HQ10.out.on HB12.out).both (v' := .slice na nn nc) (L' := lauT cap L ⟨xf, xi, xa, .slice va xs.length vc, xs⟩) (h13.mono fun b hb e => by
                  rcases hb with h | h
                  · exact h e
                  · have := HB12.out.size; omega) hact.1 (HRS12.out.chg hc13 (fun b hb e => by
                  have e : b = M := e
                  rcases (HOWN.out b hb).1 with h | h
                  · have := HQ10.out.own b h; omega
                  · omega)) (by rw [lauT_pl, HQ10.out.pl]) (fun y hy => by
                  have hcase : y = ⟨xf, xi, xa, .slice va xs.length vc, xs⟩ ∨ y ∈ L := by
                    unfold lauT at hy
                    split at hy
                    · split at hy
                      · exact .inr hy
                      · split at hy
                        · exact .inr hy
                        · rcases Srt.mem_put.1 hy with h | ⟨h, _⟩
                          · exact .inl h
                          · exact .inr h
                    · exact .inr hy
                  rcases hcase with rfl | h
                  · exact HXV.out
                  · exact HQ10.out.vec y h) (fun b hb => by
                  rcases (HOWN.out b hb).1 with h | h
                  · exact HQ10.out.own b h
                  · omega) hact.2.2 (Nat.le_trans lauP_len (Nat.succ_le_succ HQ10.out.len)))
              obtain ⟨y0, y1⟩ := hMN.cells
              have y2 := hMN.lt
              obtain ⟨z0, z1⟩ := hact.1.cells
              have z2 := hact.1.lt
              have z3 := hact.1.fz 0; have z4 := hact.1.fz 1
              clear h13 hc13 hact hMN hM hmlt k0 k1 k2 k3 k4
              generalize lauE cap P (Tk.pl ⟨xf, xi, xa, .slice va xs.length vc, xs⟩) = er at *
              go_wp2
              go_roundw
              case rel => exact ⟨t + 1, _, _, _, by omega, by go_num, HI⟩
              case measure => simp [intOf]; omega
          | some yk =>
            have HO := Lib.hid ho
            have hfn : (fndT L ⟨xf, xi⟩).map Tk.pl = some yk := by rw [← HQ.out.fnd, ho]
            obtain ⟨y', hy', hyp⟩ : ∃ y', fndT L ⟨xf, xi⟩ = some y' ∧ y'.pl = yk := by
              cases h : fndT L ⟨xf, xi⟩ with
              | none => rw [h] at hfn; cases hfn
              | some y' => rw [h] at hfn; exact ⟨y', rfl, Option.some.inj hfn⟩
            obtain ⟨ki, hki, hLk⟩ := Srt.pl_at hy'
            have hykl : yk.2.2.2.length < 1000000000 := by
              have h1 := (HQ.out.tv.pin.ok yk (Srt.fnd_mem ho).1).1.2.2.2.2
              have h2 := vr_len h1
              omega
            have HYL := Lib.hid hykl
            have HYP := Lib.hid hyp
            have hkn : ki < 1000 := by have := HQ.out.llen; have := (List.getElem?_eq_some_iff.1 hLk).1; omega
            obtain ⟨v1, hr1, ht1⟩ := (HQ6.out.on HB9.out).tl.one hLk (q := (ki : Int) + 1) (by simp)
            have HT1 := Lib.hid ht1
            have hk9 : IntKind.i64.wrap ((ki : Int) + 1) = (ki : Int) + 1 := IntWalk.i64_in _ (by omega)
            have hk0 : decide (0 ≤ (ki : Int)) = true := decide_eq_true (by omega)
            obtain ⟨z0, z1⟩ := (HQ6.out.on HB9.out).m.cells
            have z2 := (HQ6.out.on HB9.out).m.lt
            clear ho hfn hy' hyp hLk hykl ht1
            rw [hki]
            clear hki
            go_wp2_with fail
            generalize w8.alloc (.cells #[.int .i64 zf, .int .i64 zi, .int .i64 za, .slice zva zs.length zvc] 95) = w9 at *
            rw [← HYB.out]
            obtain ⟨k0, k1, k2, k3⟩ := HKY.out.cells
            have k4 := HKY.out.lt
            refine Mix.regionC (fun _ => False) (by kernel_rfl) ?_
            intro w30 hb30
            refine Mix.take_exC _ _ 0 rfl (by kernel_rfl) (by kernel_rfl) (by kernel_rfl) (by kernel_rfl) (fun K hK => ?_)
            go_simp
            first | (refine hK _ ?_; clear hK K) | (apply Exists.intro; refine ⟨fun x => ?_, hK _ ?_⟩; (fail); clear hK K)
            refine Mix.take_exC _ _ 1 rfl (by kernel_rfl) (by kernel_rfl) (by kernel_rfl) (by kernel_rfl) (fun K hK => ?_)
            go_simp
            first | (refine hK _ ?_; clear hK K) | (apply Exists.intro; refine ⟨fun x => ?_, hK _ ?_⟩; (fail); clear hK K)
            refine Mix.take_exC _ _ 2 rfl (by kernel_rfl) (by kernel_rfl) (by kernel_rfl) (by kernel_rfl) (fun K hK => ?_)
            go_simp
            first | (refine hK _ ?_; clear hK K) | (apply Exists.intro; refine ⟨fun x => ?_, hK _ ?_⟩; (fail); clear hK K)
            refine Mix.take_exC _ _ 3 rfl (by kernel_rfl) (by kernel_rfl) (by kernel_rfl) (by kernel_rfl) (fun K hK => ?_)
            go_simp
            first | (refine hK _ ?_; clear hK K) | (apply Exists.intro; refine ⟨fun x => ?_, hK _ ?_⟩; (fail); clear hK K)
            refine Mix.take_exC _ _ 4 rfl (by kernel_rfl) (by kernel_rfl) (by kernel_rfl) (by kernel_rfl) (fun K hK => ?_)
            go_simp
            first | (refine hK _ ?_; clear hK K) | (apply Exists.intro; refine ⟨fun x => ?_, hK _ ?_⟩; (fail); clear hK K)
            refine Mix.take_exC _ _ 5 rfl (by kernel_rfl) (by kernel_rfl) (by kernel_rfl) (by kernel_rfl) (fun K hK => ?_)
            go_simp
            first | (refine hK _ ?_; clear hK K) | (apply Exists.intro; refine ⟨fun x => ?_, hK _ ?_⟩; (fail); clear hK K)
            refine Mix.take_exC _ _ 6 rfl (by kernel_rfl) (by kernel_rfl) (by kernel_rfl) (by kernel_rfl) (fun K hK => ?_)
            go_simp
            first | (refine hK _ ?_; clear hK K) | (apply Exists.intro; refine ⟨fun x => ?_, hK _ ?_⟩; (fail); clear hK K)
            refine Mix.take_exC _ _ 7 rfl (by kernel_rfl) (by kernel_rfl) (by kernel_rfl) (by kernel_rfl) (fun K hK => ?_)
            go_simp
            first | (refine hK _ ?_; clear hK K) | (apply Exists.intro; refine ⟨fun x => ?_, hK _ ?_⟩; (fail); clear hK K)
            refine Mix.take_exC _ _ 9 rfl (by kernel_rfl) (by kernel_rfl) (by kernel_rfl) (by kernel_rfl) (fun K hK => ?_)
            go_simp
            first | (refine hK _ ?_; clear hK K) | (apply Exists.intro; refine ⟨fun x => ?_, hK _ ?_⟩; (fail); clear hK K)
            refine Mix.take_exC _ _ 10 rfl (by kernel_rfl) (by kernel_rfl) (by kernel_rfl) (by kernel_rfl) (fun K hK => ?_)
            go_simp
            first | (refine hK _ ?_; clear hK K) | (apply Exists.intro; refine ⟨fun x => ?_, hK _ ?_⟩; (fail); clear hK K)
            refine Mix.take_exC _ _ 11 rfl (by kernel_rfl) (by kernel_rfl) (by kernel_rfl) (by kernel_rfl) (fun K hK => ?_)
            go_simp
            first | (refine hK _ ?_; clear hK K) | (apply Exists.intro; refine ⟨fun x => ?_, hK _ ?_⟩; (fail); clear hK K)
            refine Mix.take_exC _ _ 12 rfl (by kernel_rfl) (by kernel_rfl) (by kernel_rfl) (by kernel_rfl) (fun K hK => ?_)
            go_simp
            first | (refine hK _ ?_; clear hK K) | (apply Exists.intro; refine ⟨fun x => ?_, hK _ ?_⟩; (fail); clear hK K)
            refine Mix.take_exC _ _ 13 rfl (by kernel_rfl) (by kernel_rfl) (by kernel_rfl) (by kernel_rfl) (fun K hK => ?_)
            go_simp
            first | (refine hK _ ?_; clear hK K) | (apply Exists.intro; refine ⟨fun x => ?_, hK _ ?_⟩; (fail); clear hK K)
            refine Mix.take_exC _ _ 14 rfl (by kernel_rfl) (by kernel_rfl) (by kernel_rfl) (by kernel_rfl) (fun K hK => ?_)
            go_simp
            first | (refine hK _ ?_; clear hK K) | (apply Exists.intro; refine ⟨fun x => ?_, hK _ ?_⟩; (fail); clear hK K)
            refine Mix.all (rs := [8]) (by kernel_rfl) (by simp) (.of_below _ hb30) ?_
            intro i31 hi31 w31 hb31 hC31
            simp only [List.mem_cons, List.not_mem_nil, or_false] at hi31
            subst hi31
            have HB31 := Lib.hid (bt hb30 hb31)
            clear hC31 hb30 hb31
            refine Mix.op rfl (by kernel_rfl) ?_
            go_simp
            have hb32 := ba HB31.out (.cells #[.int .i64 zf, .int .i64 zi, .int .i64 za, .slice zva zs.length zvc] 95)
            have HK32 := Lib.hid (KB.made w31 zf zi za (.slice zva zs.length zvc))
            have HB32 := Lib.hid hb32
            clear hb32
            generalize w31.alloc (.cells #[.int .i64 zf, .int .i64 zi, .int .i64 za, .slice zva zs.length zvc] 95) = w32 at *
            generalize w31.heap.size = q32 at *
            refine Mix.all (rs := [15]) (by kernel_rfl) (by simp) (.of_below _ HB32.out) ?_
            intro i33 hi33 w33 hb33 hC33
            simp only [List.mem_cons, List.not_mem_nil, or_false] at hi33
            subst hi33
            have HSM := Lib.hid (sameT_yes (.slice (some ⟨q32, 0, none⟩) 1 1) v1 [⟨zf, zi, za, .slice zva zs.length zvc, zs⟩] [y'] (fun y hy => by
              rw [List.mem_singleton.1 hy]
              have h2 := HZ.out
              rw [HO.out] at h2
              have h3 : (zf, zi, za, zs) = yk := h2
              have h4 : zs = yk.2.2.2 := congrArg (fun p : Pk => p.2.2.2) h3
              show zs.length < 1000000000
              rw [h4]; exact HYL.out) (by
              simp only [List.map_cons, List.map_nil]
              rw [HYP.out]
              have h2 := HZ.out
              rw [HO.out] at h2
              exact congrArg (fun p => [p]) h2) w33 (TL.made (x := ⟨zf, zi, za, .slice zva zs.length zvc, zs⟩) (HK32.out.below hb33) (HZV.out.on (bt HB89.out (bt HB32.out hb33)))) (HT1.out.below (bt HB32.out hb33)))
            have HB33 := Lib.hid (bt HB32.out hb33)
            clear hC33 hb33
            refine Mix.op rfl (by kernel_rfl) ?_
            go_simp
            refine HSM.out.mono ?_
            rintro e w34 ⟨rfl, hb34⟩
            refine ⟨_, rfl, ?_⟩
            have HB34 := Lib.hid (bt HB33.out hb34)
            clear hb34
            refine Mix.take_exC _ _ 16 rfl (by kernel_rfl) (by kernel_rfl) (by kernel_rfl) (by kernel_rfl) (fun K hK => ?_)
            go_simp
            first | (refine hK _ ?_; clear hK K) | (apply Exists.intro; refine ⟨fun x => ?_, hK _ ?_⟩; (fail); clear hK K)
            refine Mix.take_exC _ _ 17 rfl (by kernel_rfl) (by kernel_rfl) (by kernel_rfl) (by kernel_rfl) (fun K hK => ?_)
            go_simp
            first | (refine hK _ ?_; clear hK K) | (apply Exists.intro; refine ⟨fun x => ?_, hK _ ?_⟩; (fail); clear hK K)
            refine Mix.take_exC _ _ 18 rfl (by kernel_rfl) (by kernel_rfl) (by kernel_rfl) (by kernel_rfl) (fun K hK => ?_)
            go_simp
            first | (refine hK _ ?_; clear hK K) | (apply Exists.intro; refine ⟨fun x => ?_, hK _ ?_⟩; (fail); clear hK K)
            refine Mix.done (by kernel_rfl) (.of_below _ HB34.out) ?_
            intro w10 hb35
            have hb10 : Below w9.heap.size w9 w10 := bt HB34.out hb35
            clear hb35 z0 z1 z2 k0 k1 k2 k3 k4 hr1 hk9 hk0 hkn
            have HB910 := Lib.hid hb10
            have HQ10 := Lib.hid (HQ6.out.on (bt HB9.out hb10))
            have HKX10 := Lib.hid (HK6.out.below (bt HB9.out hb10))
            have HKY10 := Lib.hid (HKY.out.below hb10)
            have HZV10 := Lib.hid (HZV.out.on (bt HB89.out hb10))
            have HC10 := Lib.hid (((bt HB9.out hb10).cell (p := ⟨bs, _, none⟩) (by have := HLT.out; have := HK6.out.lt; have := HBX.out; show bs < w6.heap.size; omega)).trans HC0.out)
            clear hb10
            have c10 := HC10.out
            have c11 : bs < w10.heap.size := by have := HLT.out; have := HKX10.out.lt; have := HBX.out; omega
            obtain ⟨k0, k1, k2, k3⟩ := HKX10.out.cells
            have k4 := HKX10.out.lt
            cases xe with
            | true =>
              go_wp2_with fail
              refine (vend HQ10.out.tv HGO.out.fr HGO.out.id).mono ?_
              rintro e w11 ⟨⟨z2, rfl, hz2, hzv2⟩, h11, hc11⟩
              obtain ⟨gf, gi, ga, gv, gs⟩ := z2
              obtain ⟨gva, gvc, hgq, -, -⟩ := hzv2.form
              simp only at hgq hzv2
              subst hgq
              rw [HO.out] at hz2 ⊢
              have HACT := Lib.hid (HQ10.out.act hc11)
              have HKX11 := Lib.hid (HKX10.out.chg hc11 (by have := HLT.out; have := HBX.out; have := HQ10.out.hM; show ¬ bx = M; omega))
              have HKY11 := Lib.hid (HKY10.out.chg hc11 (by have := HLT.out; have := HYQ.out; have := HQ10.out.hM; show ¬ yb = M; omega))
              have HZV11 := Lib.hid (show Vc w11 (.slice zva zs.length zvc) zs from HZV10.out.keep hc11 (.inr fun b hb e => by have := HZO.out b hb; have := HQ10.out.hM; have e : b = M := e; omega))
              have HG2 := Lib.hid hzv2
              have hb12 := ba (Below.refl w11.heap.size w11) (.cells #[.int .i64 gf, .int .i64 gi, .int .i64 ga, .slice gva gs.length gvc] 95)
              have HKG := Lib.hid (KB.made w11 gf gi ga (.slice gva gs.length gvc))
              have HB12 := Lib.hid hb12
              have HGP := Lib.hid hz2
              have HTV := Lib.hid (show TV w11 w2.heap.size tp M cap (delK P ⟨xf, xi⟩) (fun b => b ≠ mb) from h11)
              clear hzv2 hb12 hz2 h11 hc11 c10 c11 k0 k1 k2 k3 k4
              have hk12 := HKY11.out.below HB12.out
              go_wp2_with fail
              generalize w11.alloc (.cells #[.int .i64 gf, .int .i64 gi, .int .i64 ga, .slice gva gs.length gvc] 95) = w12 at *
              obtain ⟨zb, hzb⟩ : ∃ k, k = w11.heap.size := ⟨_, rfl⟩
              rw [← hzb] at HKG ⊢
              clear hzb
              obtain ⟨m0, m1, m2, m3⟩ := HKG.out.cells
              have m4 := HKG.out.lt
              obtain ⟨k0, k1, k2, k3⟩ := hk12.cells
              have k4 := hk12.lt
              clear hk12
              refine Mix.regionC (fun _ => False) (by kernel_rfl) ?_
              intro w13 hb13
              refine Mix.take_exC _ _ 0 rfl (by kernel_rfl) (by kernel_rfl) (by kernel_rfl) (by kernel_rfl) (fun K hK => ?_)
              go_simp
              first | (refine hK _ ?_; clear hK K) | (apply Exists.intro; refine ⟨fun x => ?_, hK _ ?_⟩; (fail); clear hK K)
              refine Mix.take_exC _ _ 1 rfl (by kernel_rfl) (by kernel_rfl) (by kernel_rfl) (by kernel_rfl) (fun K hK => ?_)
              go_simp
              first | (refine hK _ ?_; clear hK K) | (apply Exists.intro; refine ⟨fun x => ?_, hK _ ?_⟩; (fail); clear hK K)
              refine Mix.take_exC _ _ 2 rfl (by kernel_rfl) (by kernel_rfl) (by kernel_rfl) (by kernel_rfl) (fun K hK => ?_)
              go_simp
              first | (refine hK _ ?_; clear hK K) | (apply Exists.intro; refine ⟨fun x => ?_, hK _ ?_⟩; (fail); clear hK K)
              refine Mix.take_exC _ _ 3 rfl (by kernel_rfl) (by kernel_rfl) (by kernel_rfl) (by kernel_rfl) (fun K hK => ?_)
              go_simp
              first | (refine hK _ ?_; clear hK K) | (apply Exists.intro; refine ⟨fun x => ?_, hK _ ?_⟩; (fail); clear hK K)
              refine Mix.take_exC _ _ 4 rfl (by kernel_rfl) (by kernel_rfl) (by kernel_rfl) (by kernel_rfl) (fun K hK => ?_)
              go_simp
              first | (refine hK _ ?_; clear hK K) | (apply Exists.intro; refine ⟨fun x => ?_, hK _ ?_⟩; (fail); clear hK K)
              refine Mix.take_exC _ _ 5 rfl (by kernel_rfl) (by kernel_rfl) (by kernel_rfl) (by kernel_rfl) (fun K hK => ?_)
              go_simp
              first | (refine hK _ ?_; clear hK K) | (apply Exists.intro; refine ⟨fun x => ?_, hK _ ?_⟩; (fail); clear hK K)
              refine Mix.take_exC _ _ 7 rfl (by kernel_rfl) (by kernel_rfl) (by kernel_rfl) (by kernel_rfl) (fun K hK => ?_)
              go_simp
              first | (refine hK _ ?_; clear hK K) | (apply Exists.intro; refine ⟨fun x => ?_, hK _ ?_⟩; (fail); clear hK K)
              refine Mix.take_exC _ _ 8 rfl (by kernel_rfl) (by kernel_rfl) (by kernel_rfl) (by kernel_rfl) (fun K hK => ?_)
              go_simp
              first | (refine hK _ ?_; clear hK K) | (apply Exists.intro; refine ⟨fun x => ?_, hK _ ?_⟩; (fail); clear hK K)
              refine Mix.all (rs := [6]) (by kernel_rfl) (by simp) (.of_below _ hb13) ?_
              intro i14 hi14 w14 hb14 hC14
              simp only [List.mem_cons, List.not_mem_nil, or_false] at hi14
              subst hi14
              have HB14 := Lib.hid (bt hb13 hb14)
              clear hC14 hb13 hb14
              refine Mix.op rfl (by kernel_rfl) ?_
              go_simp
              refine (one_any (x := ⟨gf, gi, ga, .slice gva gs.length gvc, gs⟩) true (HG2.out.on (bt HB12.out HB14.out))).mono ?_
              rintro e w15 ⟨u1x, rfl, hu1, hb15⟩
              refine ⟨_, rfl, ?_⟩
              have HU1 := Lib.hid hu1
              have HB15 := Lib.hid (bt HB14.out hb15)
              clear hu1 hb15
              refine Mix.all (rs := [9]) (by kernel_rfl) (by simp) (.of_below _ HB15.out) ?_
              intro i16 hi16 w16 hb16 hC16
              simp only [List.mem_cons, List.not_mem_nil, or_false] at hi16
              subst hi16
              have HB16 := Lib.hid (bt HB15.out hb16)
              have HU1' := Lib.hid (HU1.out.below hb16)
              clear hC16 hb16
              refine Mix.op rfl (by kernel_rfl) ?_
              go_simp
              refine (one_any (x := ⟨zf, zi, za, .slice zva zs.length zvc, zs⟩) true (HZV11.out.on (bt HB12.out HB16.out))).mono ?_
              rintro e w17 ⟨u2x, rfl, hu2, hb17⟩
              refine ⟨_, rfl, ?_⟩
              have HU1 := Lib.hid (HU1'.out.below hb17)
              have HU2 := Lib.hid hu2
              have HB17 := Lib.hid (bt HB16.out hb17)
              clear hu2 hb17 HU1'
              refine Mix.all (rs := [10]) (by kernel_rfl) (by simp) (.of_below _ HB17.out) ?_
              intro i18 hi18 w18 hb18 hC18
              simp only [List.mem_cons, List.not_mem_nil, or_false] at hi18
              subst hi18
              have HB18 := Lib.hid (bt HB17.out hb18)
              have HSM := Lib.hid (sameT_yes u1x u2x _ _ (fun y hy => by rw [show y = ⟨gf, gi, ga, .slice gva gs.length gvc, gs⟩ from by simpa using hy]; show gs.length < 1000000000; rw [show gs = yk.2.2.2 from congrArg (fun p : Pk => p.2.2.2) (show (gf, gi, ga, gs) = yk from HGP.out)]; exact HYL.out) (by have h1 := HGP.out; have h2 := HZ.out; rw [HO.out] at h2; simp only [Bool.false_eq_true, if_false, if_true, List.map_cons, List.map_nil]; try rw [h1, h2]) w18 (HU1.out.below hb18) (HU2.out.below hb18))
              clear hC18 hb18
              refine Mix.op rfl (by kernel_rfl) ?_
              go_simp
              refine HSM.out.mono ?_
              rintro e w19 ⟨rfl, hb19⟩
              refine ⟨_, rfl, ?_⟩
              have HB19 := Lib.hid (bt HB18.out hb19)
              clear hb19 m0 m1 m2 m3 m4 k0 k1 k2 k3 k4
              refine Mix.take_exC _ _ 11 rfl (by kernel_rfl) (by kernel_rfl) (by kernel_rfl) (by kernel_rfl) (fun K hK => ?_)
              go_simp
              first | (refine hK _ ?_; clear hK K) | (apply Exists.intro; refine ⟨fun x => ?_, hK _ ?_⟩; (fail); clear hK K)
              refine Mix.take_exC _ _ 12 rfl (by kernel_rfl) (by kernel_rfl) (by kernel_rfl) (by kernel_rfl) (fun K hK => ?_)
              go_simp
              first | (refine hK _ ?_; clear hK K) | (apply Exists.intro; refine ⟨fun x => ?_, hK _ ?_⟩; (fail); clear hK K)
              refine Mix.done (by kernel_rfl) (.of_below _ HB19.out) ?_
              intro w20 hb20
              have HBF := Lib.hid (bt HB12.out (bt HB19.out hb20))
              clear hb20
              have hmb := HACT.out.1.below HBF.out
              have hml := HACT.out.2.1.below HBF.out
              obtain ⟨z0, z1⟩ := hmb.cells
              have z2 := hmb.lt
              have hkx := HKX11.out.below HBF.out
              obtain ⟨k0, k1, k2, k3⟩ := hkx.cells
              have k4 := hkx.lt
              have HMB := Lib.hid hmb; have HML := Lib.hid hml
              clear hmb hml hkx
              go_wp2_with fail
              refine (mend HML.out (fun y hy => (HQ10.out.vec y hy).on (HACT.out.2.2.trans (HBF.out.mono HACT.out.2.2.size))) (by have := HQ10.out.llen; omega) xf xi).mono ?_
              rintro e w21 ⟨v', rfl, hq⟩
              obtain ⟨na, nn, nc, rfl, -, -, -, -⟩ := hq.rs.at_
              have hmb := HMB.out.below hq.bel
              have HI := Lib.hid (HQ10.out.both (v' := .slice na nn nc) (L' := delT L ⟨xf, xi⟩) ((HTV.out.below HBF.out).below hq.bel) hmb hq.rs (by rw [pl_delT, HQ10.out.pl]) (fun y hy => HQ10.out.vec y (Srt.mem_del.1 hy).1) (fun b hb => by have := (hq.own b hb).1; have := HMB.out.lt; omega) (HACT.out.2.2.trans ((HBF.out.mono HACT.out.2.2.size).trans (hq.bel.mono (Nat.le_trans HACT.out.2.2.size HBF.out.size)))) (Nat.le_trans delK_len (Nat.le_succ_of_le HQ10.out.len)))
              obtain ⟨y0, y1⟩ := hmb.cells
              have y2 := hmb.lt
              have y3 := hmb.fz 0; have y4 := hmb.fz 1
              clear hmb hq z0 z1 z2 k0 k1 k2 k3 k4
              go_wp2
              go_roundw
              case rel => exact ⟨t + 1, _, _, _, by omega, by go_num, HI⟩
              case measure => simp [intOf]; omega
            | false =>
              have HTL := Lib.hid HQ10.out.tl
              obtain ⟨z0, z1⟩ := HQ10.out.m.cells
              have z2 := HQ10.out.m.lt
              have HG10 := Lib.hid (HGO.out.on (bt HB9.out HB910.out))
              go_wp2_with fail
              refine (mlaunch HTL.out HQ10.out.srt (by have := HQ10.out.llen; omega) ⟨xf, xi, xa, .slice va xs.length vc, xs⟩ HG10.out).mono ?_
              rintro e w11 ⟨v', rfl, hrs, hown, hb11⟩
              rw [HQ10.out.pl]
              obtain ⟨na, nn, nc, rfl, -, -, -, -⟩ := hrs.at_
              have hb12 := ba (Below.refl w11.heap.size w11) (.cells #[.int .i64 cap, .slice na nn nc] 93)
              have HMN := Lib.hid (MB.made w11 cap (.slice na nn nc))
              have HB12 := Lib.hid (bt hb11 hb12)
              have HRS12 := Lib.hid (hrs.below hb12)
              have HOWN := Lib.hid hown
              have HS11 := Lib.hid hb11.size
              have hk12 := HKX10.out.below HB12.out
              clear c10 c11 k0 k1 k2 k3 k4 z0 z1 z2 hrs hown hb11 hb12
              obtain ⟨k0, k1, k2, k3⟩ := hk12.cells
              have k4 := hk12.lt
              clear hk12
              go_wp2_with fail
              generalize w11.alloc (.cells #[.int .i64 cap, .slice na nn nc] 93) = w12 at *
              obtain ⟨nb, hnb⟩ : ∃ k, k = w11.heap.size := ⟨_, rfl⟩
              rw [← hnb] at HMN HS11 ⊢
              clear hnb
              refine (vlaunch (HQ10.out.on HB12.out).tv (HQ10.out.on HB12.out).bel.size ⟨xf, xi, xa, .slice va xs.length vc, xs⟩ (HG10.out.on HB12.out)).mono ?_
              rintro e w13 ⟨rfl, h13, hc13⟩
              have hM := HQ10.out.hM
              have hmlt := HQ10.out.m.lt
              have hact := (HQ10.out.on HB12.out).act hc13
              have hMN := HMN.out.chg hc13 (by have := HS11.out; show ¬ nb = M; omega)
              have HI := Lib.hid ((HQ10.out.on HB12.out).both (v' := .slice na nn nc) (L' := lauT cap L ⟨xf, xi, xa, .slice va xs.length vc, xs⟩) (h13.mono fun b hb e => by
                  rcases hb with h | h
                  · exact h e
                  · have := HB12.out.size; omega) hact.1 (HRS12.out.chg hc13 (fun b hb e => by
                  have e : b = M := e
                  rcases (HOWN.out b hb).1 with h | h
                  · have := HQ10.out.own b h; omega
                  · omega)) (by rw [lauT_pl, HQ10.out.pl]) (fun y hy => by
                  have hcase : y = ⟨xf, xi, xa, .slice va xs.length vc, xs⟩ ∨ y ∈ L := by
                    unfold lauT at hy
                    split at hy
                    · split at hy
                      · exact .inr hy
                      · split at hy
                        · exact .inr hy
                        · rcases Srt.mem_put.1 hy with h | ⟨h, _⟩
                          · exact .inl h
                          · exact .inr h
                    · exact .inr hy
                  rcases hcase with rfl | h
                  · exact HXV.out
                  · exact HQ10.out.vec y h) (fun b hb => by
                  rcases (HOWN.out b hb).1 with h | h
                  · exact HQ10.out.own b h
                  · omega) hact.2.2 (Nat.le_trans lauP_len (Nat.succ_le_succ HQ10.out.len)))
              obtain ⟨y0, y1⟩ := hMN.cells
              have y2 := hMN.lt
              obtain ⟨z0, z1⟩ := hact.1.cells
              have z2 := hact.1.lt
              have z3 := hact.1.fz 0; have z4 := hact.1.fz 1
              clear h13 hc13 hact hMN hM hmlt k0 k1 k2 k3 k4
              generalize lauE cap P (Tk.pl ⟨xf, xi, xa, .slice va xs.length vc, xs⟩) = er at *
              go_wp2
              go_roundw
              case rel => exact ⟨t + 1, _, _, _, by omega, by go_num, HI⟩
              case measure => simp [intOf]; omega
        · obtain rfl : n = t := by omega
          have hPl : P.length < 1000000 := by have := HQ.out.len; omega
          have hbigA : ∀ (la : List Tk), (∀ y ∈ la, y.pl ∈ P) → ∀ y ∈ la, y.ps.length < 1000000000 := fun la h y hy => by
            have h1 := (HQ.out.tv.pin.ok _ (h y hy)).1.2.2.2.2
            have h2 : y.ps.length ≤ 132 := vr_len h1
            omega
          have HBIG := Lib.hid hbigA
          clear hbigA
          have hmn : mn = P.length := by
            obtain ⟨_, n', _, he, hn', _⟩ := HQ.out.ml.at_
            cases he
            rw [hn', ← HQ.out.pl, List.length_map]
          have hmb : (((P.length : Nat) : Int) != (mn : Int)) = false := by simp [hmn]
          have HLG := Lib.hid fun x : ExtC w5 (fun _ => False) => (vlong (HQ.out.on ((extC_chg w5 _ x).below (Nat.le_refl _) fun k h => h.elim)).tv).mono (fun e w' ⟨h1, h2⟩ => (⟨h1, by rw [h2]; exact Below.refl _ _⟩ : e = Ending.returned (.int .i64 (P.length : Nat)) ∧ Below (extC w5 (fun _ => False) x).heap.size (extC w5 (fun _ => False) x) w'))
          obtain ⟨z0, z1⟩ := HQ.out.m.cells
          have z2 := HQ.out.m.lt
          have HIB5 := Lib.hid (show ib < w5.heap.size from by have := HIB.out; have := HQ.out.bel.size; omega)
          have HI0 := Lib.hid (show w5.cell? ⟨ib, 0, none⟩ = some (.int .i64 i0) ∧ w5.cell? ⟨ib, 1, none⟩ = some (.int .i64 i1) from by
            have h := (HQ.out.bel.block ib HIB.out).trans HCI.out
            exact ⟨by simp [World.cell?, h], by simp [World.cell?, h]⟩)
          clear hmn
          go_wp2_with fail
          refine Mix.regionC (fun _ => False) (by kernel_rfl) ?_
          intro w30 hb30
          refine Mix.take_exC _ _ 0 rfl (by kernel_rfl) (by kernel_rfl) (by kernel_rfl) (by kernel_rfl) (fun K hK => ?_)
          go_simp
          first | (refine hK _ ?_; clear hK K) | (apply Exists.intro; refine ⟨fun x => ?_, hK _ ?_⟩; (fail); clear hK K)
          refine Mix.take_exC _ _ 2 rfl (by kernel_rfl) (by kernel_rfl) (by kernel_rfl) (by kernel_rfl) (fun K hK => ?_)
          go_simp
          first | (refine hK _ ?_; clear hK K) | (apply Exists.intro; refine ⟨fun x => ?_, hK _ ?_⟩; (fail); clear hK K)
          refine Mix.take_exC _ _ 3 rfl (by kernel_rfl) (by kernel_rfl) (by kernel_rfl) (by kernel_rfl) (fun K hK => ?_)
          go_simp
          first | (refine hK _ ?_; clear hK K) | (apply Exists.intro; refine ⟨fun x => ?_, hK _ ?_⟩; (fail); clear hK K)
          refine Mix.all (rs := [1]) (by kernel_rfl) (by simp) (.of_below _ hb30) ?_
          intro i31 hi31 w31 hb31 hC31
          simp only [List.mem_cons, List.not_mem_nil, or_false] at hi31
          subst hi31
          have HB31 := Lib.hid (bt hb30 hb31)
          clear hC31 hb30 hb31
          refine Mix.op rfl (by kernel_rfl) ?_
          go_simp
          refine (vall (HQ.out.on HB31.out).tv hPl).mono ?_
          rintro e w32 ⟨va2, la, rfl, hla, hpa, -, -, hb32⟩
          refine ⟨_, rfl, ?_⟩
          have HLA := Lib.hid hla; have HPA := Lib.hid hpa
          have HB32 := Lib.hid (bt HB31.out hb32)
          clear hla hpa hb32
          refine Mix.all (rs := [4]) (by kernel_rfl) (by simp) (.of_below _ HB32.out) ?_
          intro i33 hi33 w33 hb33 hC33
          simp only [List.mem_cons, List.not_mem_nil, or_false] at hi33
          subst hi33
          have HB33 := Lib.hid (bt HB32.out hb33)
          have HSM := Lib.hid (sameT_yes va2 (.slice ma mn mc) la L (HBIG.out la fun y hy => by rw [← HPA.out]; exact List.mem_map.2 ⟨y, hy, rfl⟩) (by rw [HPA.out, HQ.out.pl]) w33 (HLA.out.below hb33) (HQ.out.on HB33.out).tl)
          clear hC33 hb33
          refine Mix.op rfl (by kernel_rfl) ?_
          go_simp
          refine HSM.out.mono ?_
          rintro e w34 ⟨rfl, hb34⟩
          refine ⟨_, rfl, ?_⟩
          have HB34 := Lib.hid (bt HB33.out hb34)
          clear hb34
          refine Mix.take_exC _ _ 5 rfl (by kernel_rfl) (by kernel_rfl) (by kernel_rfl) (by kernel_rfl) (fun K hK => ?_)
          go_simp
          first | (refine hK _ ?_; clear hK K) | (apply Exists.intro; refine ⟨fun x => ?_, hK _ ?_⟩; (fail); clear hK K)
          refine Mix.take_exC _ _ 6 rfl (by kernel_rfl) (by kernel_rfl) (by kernel_rfl) (by kernel_rfl) (fun K hK => ?_)
          go_simp
          first | (refine hK _ ?_; clear hK K) | (apply Exists.intro; refine ⟨fun x => ?_, hK _ ?_⟩; (fail); clear hK K)
          refine Mix.take_exC _ _ 7 rfl (by kernel_rfl) (by kernel_rfl) (by kernel_rfl) (by kernel_rfl) (fun K hK => ?_)
          go_simp
          first | (refine hK _ ?_; clear hK K) | (apply Exists.intro; refine ⟨fun x => ?_, hK _ ?_⟩; (fail); clear hK K)
          refine Mix.take_exC _ _ 8 rfl (by kernel_rfl) (by kernel_rfl) (by kernel_rfl) (by kernel_rfl) (fun K hK => ?_)
          go_simp
          first | (refine hK _ ?_; clear hK K) | (apply Exists.intro; refine ⟨fun x => ?_, hK _ ?_⟩; (((go_at_call 59; with_reducible exact HLG.out _))); clear hK K)
          refine Mix.take_exC _ _ 9 rfl (by kernel_rfl) (by kernel_rfl) (by kernel_rfl) (by kernel_rfl) (fun K hK => ?_)
          go_simp
          first | (refine hK _ ?_; clear hK K) | (apply Exists.intro; refine ⟨fun x => ?_, hK _ ?_⟩; (fail); clear hK K)
          refine Mix.take_exC _ _ 10 rfl (by kernel_rfl) (by kernel_rfl) (by kernel_rfl) (by kernel_rfl) (fun K hK => ?_)
          go_simp
          first | (refine hK _ ?_; clear hK K) | (apply Exists.intro; refine ⟨fun x => ?_, hK _ ?_⟩; (fail); clear hK K)
          refine Mix.take_exC _ _ 11 rfl (by kernel_rfl) (by kernel_rfl) (by kernel_rfl) (by kernel_rfl) (fun K hK => ?_)
          go_simp
          first | (refine hK _ ?_; clear hK K) | (apply Exists.intro; refine ⟨fun x => ?_, hK _ ?_⟩; (fail); clear hK K)
          refine Mix.take_exC _ _ 12 rfl (by kernel_rfl) (by kernel_rfl) (by kernel_rfl) (by kernel_rfl) (fun K hK => ?_)
          go_simp
          first | (refine hK _ ?_; clear hK K) | (apply Exists.intro; refine ⟨fun x => ?_, hK _ ?_⟩; (fail); clear hK K)
          refine Mix.take_exC _ _ 13 rfl (by kernel_rfl) (by kernel_rfl) (by kernel_rfl) (by kernel_rfl) (fun K hK => ?_)
          go_simp
          first | (refine hK _ ?_; clear hK K) | (apply Exists.intro; refine ⟨fun x => ?_, hK _ ?_⟩; (fail); clear hK K)
          refine Mix.done (by kernel_rfl) (.of_below _ HB34.out) ?_
          intro w36 hb36
          have HB36 := Lib.hid (bt HB34.out hb36)
          clear hb36 z0 z1 z2 hmb
          have HQ36 := Lib.hid (HQ.out.on HB36.out)
          have i0c := (HB36.out.cell (p := ⟨ib, 0, none⟩) HIB5.out).trans HI0.out.1
          have i1c := (HB36.out.cell (p := ⟨ib, 1, none⟩) HIB5.out).trans HI0.out.2
          have ilt : ib < w36.heap.size := Nat.lt_of_lt_of_le HIB5.out HB36.out.size
          have HFIN := Lib.hid (show ∀ w', Below w36.heap.size w36 w' → Below W.heap.size W w' from fun w' hb => by
            rw [← HIQ.out]
            exact HBI.out.trans ((HQ36.out.bel.trans (hb.mono HQ36.out.bel.size)).mono (Nat.le_of_lt HIB.out)))
          by_cases hg : i0 < 1 ∨ i1 < 1
          · have hgg : (decide (i0 < 1) = true) ∨ (decide (i0 < 1) = false ∧ decide (i1 < 1) = true) := by
              by_cases h0 : i0 < 1
              · exact .inl (decide_eq_true h0)
              · exact .inr ⟨decide_eq_false h0, decide_eq_true (by omega)⟩
            have hno : (P.filter fun x => x.1 == (0 : Int)) = [] := List.filter_eq_nil_iff.2 fun x hx => by
              have := (HQ36.out.tv.pin.ok x hx).1.1
              simp; omega
            have HNO := Lib.hid hno
            clear hno hg
            rcases hgg with hg0 | ⟨hg0, hg1⟩
            · skip
              go_wp2_with fail
              refine (vof HQ36.out.tv hPl 0).mono ?_
              rintro e w37 ⟨v3, l3, rfl, hl3, hp3, -, -, hb37⟩
              rw [HNO.out] at hp3
              obtain ⟨a3, n3, c3, rfl, hn3, -, -, -⟩ := hl3.rs.at_
              obtain rfl : n3 = 0 := by rw [hn3]; have := congrArg List.length hp3; simpa using this
              have HB37 := Lib.hid hb37
              clear hl3 hp3 hn3 hb37
              go_wp2_with fail
              refine (works25 w37).mono ?_
              rintro e w38 ⟨rfl, hb38⟩
              have HB38 := Lib.hid (bt HB37.out hb38)
              clear hb38
              go_wp2
              go_ret
              exact ⟨rfl, HFIN.out _ HB38.out⟩
            · skip
              go_wp2_with fail
              refine (vof HQ36.out.tv hPl 0).mono ?_
              rintro e w37 ⟨v3, l3, rfl, hl3, hp3, -, -, hb37⟩
              rw [HNO.out] at hp3
              obtain ⟨a3, n3, c3, rfl, hn3, -, -, -⟩ := hl3.rs.at_
              obtain rfl : n3 = 0 := by rw [hn3]; have := congrArg List.length hp3; simpa using this
              have HB37 := Lib.hid hb37
              clear hl3 hp3 hn3 hb37
              go_wp2_with fail
              refine (works25 w37).mono ?_
              rintro e w38 ⟨rfl, hb38⟩
              have HB38 := Lib.hid (bt HB37.out hb38)
              clear hb38
              go_wp2
              go_ret
              exact ⟨rfl, HFIN.out _ HB38.out⟩
          · have hg0 : decide (i0 < 1) = false := decide_eq_false (by omega)
            have hg1 : decide (i1 < 1) = false := decide_eq_false (by omega)
            clear hg
            have hf1 : (P.filter fun x => x.1 == i0 || x.2.2.1 == (0 : Int)) = P.filter fun x => x.1 == i0 := List.filter_congr fun x hx => by
              have h1 := (HQ36.out.tv.pin.ok x hx).1.2.2.1
              have h2 : (x.2.2.1 == (0 : Int)) = false := by simp; omega
              rw [h2, Bool.or_false]
            have hf2 : (P.filter fun x => x.1 == (0 : Int) || x.2.2.1 == i1) = P.filter fun x => x.2.2.1 == i1 := List.filter_congr fun x hx => by
              have h1 := (HQ36.out.tv.pin.ok x hx).1.1
              have h2 : (x.1 == (0 : Int)) = false := by simp; omega
              rw [h2, Bool.false_or]
            have HF1 := Lib.hid hf1; have HF2 := Lib.hid hf2
            have HOKL := Lib.hid (show ∀ x ∈ L, VR x.ps ∧ x.ps ≠ [] from fun x hx => by
              have h1 := (HQ36.out.tv.pin.ok x.pl (by rw [← HQ36.out.pl]; exact List.mem_map.2 ⟨x, hx, rfl⟩)).1
              exact ⟨h1.2.2.2.2, h1.2.2.2.1⟩)
            have hLL : L.length < 900000 := by have := HQ36.out.llen; omega
            obtain ⟨z0, z1⟩ := HQ36.out.m.cells
            have z2 := HQ36.out.m.lt
            have HSU := Lib.hid fun x : ExtC w36 (fun _ => False) => vsum (HQ36.out.on ((extC_chg w36 _ x).below (Nat.le_refl _) fun k h => h.elim)).tv hPl i0
            have hms := fun x : ExtC w36 (fun _ => False) => msum (cap := cap) (HQ36.out.on ((extC_chg w36 _ x).below (Nat.le_refl _) fun k h => h.elim)).tl HOKL.out i0
            rw [HQ36.out.pl] at hms
            have HMS := Lib.hid hms
            generalize sumP P i0 = g at *
            clear hf1 hf2 hms
            go_wp2_with fail
            refine Mix.regionC (fun _ => False) (by kernel_rfl) ?_
            intro w40 hb40
            refine Mix.take_exC _ _ 0 rfl (by kernel_rfl) (by kernel_rfl) (by kernel_rfl) (by kernel_rfl) (fun K hK => ?_)
            go_simp
            first | (refine hK _ ?_; clear hK K) | (apply Exists.intro; refine ⟨fun x => ?_, hK _ ?_⟩; (fail); clear hK K)
            refine Mix.take_exC _ _ 1 rfl (by kernel_rfl) (by kernel_rfl) (by kernel_rfl) (by kernel_rfl) (fun K hK => ?_)
            go_simp
            first | (refine hK _ ?_; clear hK K) | (apply Exists.intro; refine ⟨fun x => ?_, hK _ ?_⟩; (fail); clear hK K)
            refine Mix.take_exC _ _ 2 rfl (by kernel_rfl) (by kernel_rfl) (by kernel_rfl) (by kernel_rfl) (fun K hK => ?_)
            go_simp
            first | (refine hK _ ?_; clear hK K) | (apply Exists.intro; refine ⟨fun x => ?_, hK _ ?_⟩; (fail); clear hK K)
            refine Mix.take_exC _ _ 4 rfl (by kernel_rfl) (by kernel_rfl) (by kernel_rfl) (by kernel_rfl) (fun K hK => ?_)
            go_simp
            first | (refine hK _ ?_; clear hK K) | (apply Exists.intro; refine ⟨fun x => ?_, hK _ ?_⟩; (fail); clear hK K)
            refine Mix.take_exC _ _ 5 rfl (by kernel_rfl) (by kernel_rfl) (by kernel_rfl) (by kernel_rfl) (fun K hK => ?_)
            go_simp
            first | (refine hK _ ?_; clear hK K) | (apply Exists.intro; refine ⟨fun x => ?_, hK _ ?_⟩; (fail); clear hK K)
            refine Mix.take_exC _ _ 6 rfl (by kernel_rfl) (by kernel_rfl) (by kernel_rfl) (by kernel_rfl) (fun K hK => ?_)
            go_simp
            first | (refine hK _ ?_; clear hK K) | (apply Exists.intro; refine ⟨fun x => ?_, hK _ ?_⟩; (fail); clear hK K)
            refine Mix.all (rs := [3]) (by kernel_rfl) (by simp) (.of_below _ hb40) ?_
            intro i41 hi41 w41 hb41 hC41
            simp only [List.mem_cons, List.not_mem_nil, or_false] at hi41
            subst hi41
            have HB41 := Lib.hid (bt hb40 hb41)
            clear hC41 hb40 hb41
            refine Mix.op rfl (by kernel_rfl) ?_
            go_simp
            refine (vof (HQ36.out.on HB41.out).tv hPl i0).mono ?_
            rintro e w42 ⟨v3, l3, rfl, hl3, hp3, -, -, hb42⟩
            refine ⟨_, rfl, ?_⟩
            have HL3 := Lib.hid hl3; have HP3 := Lib.hid hp3
            have HB42 := Lib.hid (bt HB41.out hb42)
            clear hl3 hp3 hb42
            refine Mix.all (rs := [7]) (by kernel_rfl) (by simp) (.of_below _ HB42.out) ?_
            intro i43 hi43 w43 hb43 hC43
            simp only [List.mem_cons, List.not_mem_nil, or_false] at hi43
            subst hi43
            have HB43 := Lib.hid (bt HB42.out hb43)
            have HL3' := Lib.hid (HL3.out.below hb43)
            clear hC43 hb43
            refine Mix.op rfl (by kernel_rfl) ?_
            go_simp
            refine (mof (cap := cap) (HQ36.out.on HB43.out).tl hLL i0 0).mono ?_
            rintro e w44 ⟨v4, l4, rfl, hl4, hp4, hb44⟩
            refine ⟨_, rfl, ?_⟩
            rw [HQ36.out.pl, HF1.out] at hp4
            have HL3 := Lib.hid (HL3'.out.below hb44)
            have HL4 := Lib.hid hl4; have HP4 := Lib.hid hp4
            have HB44 := Lib.hid (bt HB43.out hb44)
            clear hl4 hp4 hb44 HL3'
            refine Mix.all (rs := [8]) (by kernel_rfl) (by simp) (.of_below _ HB44.out) ?_
            intro i45 hi45 w45 hb45 hC45
            simp only [List.mem_cons, List.not_mem_nil, or_false] at hi45
            subst hi45
            have HB45 := Lib.hid (bt HB44.out hb45)
            have HSM := Lib.hid (sameT_yes v3 v4 l3 l4 (HBIG.out l3 fun y hy => (List.mem_filter.1 (by rw [← HP3.out]; exact List.mem_map.2 ⟨y, hy, rfl⟩ : y.pl ∈ P.filter fun x => x.1 == i0)).1) (by rw [HP3.out, HP4.out]) w45 (HL3.out.below hb45) (HL4.out.below hb45))
            clear hC45 hb45
            refine Mix.op rfl (by kernel_rfl) ?_
            go_simp
            refine HSM.out.mono ?_
            rintro e w46 ⟨rfl, hb46⟩
            refine ⟨_, rfl, ?_⟩
            have HB46 := Lib.hid (bt HB45.out hb46)
            clear hb46 HSM HL3 HL4 HP3 HP4
            refine Mix.take_exC _ _ 9 rfl (by kernel_rfl) (by kernel_rfl) (by kernel_rfl) (by kernel_rfl) (fun K hK => ?_)
            go_simp
            first | (refine hK _ ?_; clear hK K) | (apply Exists.intro; refine ⟨fun x => ?_, hK _ ?_⟩; (fail); clear hK K)
            refine Mix.take_exC _ _ 10 rfl (by kernel_rfl) (by kernel_rfl) (by kernel_rfl) (by kernel_rfl) (fun K hK => ?_)
            go_simp
            first | (refine hK _ ?_; clear hK K) | (apply Exists.intro; refine ⟨fun x => ?_, hK _ ?_⟩; (fail); clear hK K)
            refine Mix.take_exC _ _ 11 rfl (by kernel_rfl) (by kernel_rfl) (by kernel_rfl) (by kernel_rfl) (fun K hK => ?_)
            go_simp
            first | (refine hK _ ?_; clear hK K) | (apply Exists.intro; refine ⟨fun x => ?_, hK _ ?_⟩; (fail); clear hK K)
            refine Mix.take_exC _ _ 12 rfl (by kernel_rfl) (by kernel_rfl) (by kernel_rfl) (by kernel_rfl) (fun K hK => ?_)
            go_simp
            first | (refine hK _ ?_; clear hK K) | (apply Exists.intro; refine ⟨fun x => ?_, hK _ ?_⟩; (fail); clear hK K)
            refine Mix.take_exC _ _ 14 rfl (by kernel_rfl) (by kernel_rfl) (by kernel_rfl) (by kernel_rfl) (fun K hK => ?_)
            go_simp
            first | (refine hK _ ?_; clear hK K) | (apply Exists.intro; refine ⟨fun x => ?_, hK _ ?_⟩; (fail); clear hK K)
            refine Mix.take_exC _ _ 15 rfl (by kernel_rfl) (by kernel_rfl) (by kernel_rfl) (by kernel_rfl) (fun K hK => ?_)
            go_simp
            first | (refine hK _ ?_; clear hK K) | (apply Exists.intro; refine ⟨fun x => ?_, hK _ ?_⟩; (fail); clear hK K)
            refine Mix.take_exC _ _ 16 rfl (by kernel_rfl) (by kernel_rfl) (by kernel_rfl) (by kernel_rfl) (fun K hK => ?_)
            go_simp
            first | (refine hK _ ?_; clear hK K) | (apply Exists.intro; refine ⟨fun x => ?_, hK _ ?_⟩; (fail); clear hK K)
            refine Mix.all (rs := [13]) (by kernel_rfl) (by simp) (.of_below _ HB46.out) ?_
            intro i47 hi47 w47 hb47 hC47
            simp only [List.mem_cons, List.not_mem_nil, or_false] at hi47
            subst hi47
            have HB47 := Lib.hid (bt HB46.out hb47)
            clear hC47 hb47
            refine Mix.op rfl (by kernel_rfl) ?_
            go_simp
            refine (von (HQ36.out.on HB47.out).tv hPl i1).mono ?_
            rintro e w48 ⟨v5, l5, rfl, hl5, hp5, -, -, hb48⟩
            refine ⟨_, rfl, ?_⟩
            have HL5 := Lib.hid hl5; have HP5 := Lib.hid hp5
            have HB48 := Lib.hid (bt HB47.out hb48)
            clear hl5 hp5 hb48
            refine Mix.all (rs := [17]) (by kernel_rfl) (by simp) (.of_below _ HB48.out) ?_
            intro i49 hi49 w49 hb49 hC49
            simp only [List.mem_cons, List.not_mem_nil, or_false] at hi49
            subst hi49
            have HB49 := Lib.hid (bt HB48.out hb49)
            have HL5' := Lib.hid (HL5.out.below hb49)
            clear hC49 hb49
            refine Mix.op rfl (by kernel_rfl) ?_
            go_simp
            refine (mof (cap := cap) (HQ36.out.on HB49.out).tl hLL 0 i1).mono ?_
            rintro e w50 ⟨v6, l6, rfl, hl6, hp6, hb50⟩
            refine ⟨_, rfl, ?_⟩
            rw [HQ36.out.pl, HF2.out] at hp6
            have HL5 := Lib.hid (HL5'.out.below hb50)
            have HL6 := Lib.hid hl6; have HP6 := Lib.hid hp6
            have HB50 := Lib.hid (bt HB49.out hb50)
            clear hl6 hp6 hb50 HL5'
            refine Mix.all (rs := [18]) (by kernel_rfl) (by simp) (.of_below _ HB50.out) ?_
            intro i51 hi51 w51 hb51 hC51
            simp only [List.mem_cons, List.not_mem_nil, or_false] at hi51
            subst hi51
            have HB51 := Lib.hid (bt HB50.out hb51)
            have HSM := Lib.hid (sameT_yes v5 v6 l5 l6 (HBIG.out l5 fun y hy => (List.mem_filter.1 (by rw [← HP5.out]; exact List.mem_map.2 ⟨y, hy, rfl⟩ : y.pl ∈ P.filter fun x => x.2.2.1 == i1)).1) (by rw [HP5.out, HP6.out]) w51 (HL5.out.below hb51) (HL6.out.below hb51))
            clear hC51 hb51
            refine Mix.op rfl (by kernel_rfl) ?_
            go_simp
            refine HSM.out.mono ?_
            rintro e w52 ⟨rfl, hb52⟩
            refine ⟨_, rfl, ?_⟩
            have HB52 := Lib.hid (bt HB51.out hb52)
            clear hb52 HSM HL5 HL6 HP5 HP6
            refine Mix.take_exC _ _ 19 rfl (by kernel_rfl) (by kernel_rfl) (by kernel_rfl) (by kernel_rfl) (fun K hK => ?_)
            go_simp
            first | (refine hK _ ?_; clear hK K) | (apply Exists.intro; refine ⟨fun x => ?_, hK _ ?_⟩; (fail); clear hK K)
            refine Mix.take_exC _ _ 20 rfl (by kernel_rfl) (by kernel_rfl) (by kernel_rfl) (by kernel_rfl) (fun K hK => ?_)
            go_simp
            first | (refine hK _ ?_; clear hK K) | (apply Exists.intro; refine ⟨fun x => ?_, hK _ ?_⟩; (fail); clear hK K)
            refine Mix.take_exC _ _ 21 rfl (by kernel_rfl) (by kernel_rfl) (by kernel_rfl) (by kernel_rfl) (fun K hK => ?_)
            go_simp
            first | (refine hK _ ?_; clear hK K) | (apply Exists.intro; refine ⟨fun x => ?_, hK _ ?_⟩; (fail); clear hK K)
            refine Mix.take_exC _ _ 22 rfl (by kernel_rfl) (by kernel_rfl) (by kernel_rfl) (by kernel_rfl) (fun K hK => ?_)
            go_simp
            first | (refine hK _ ?_; clear hK K) | (apply Exists.intro; refine ⟨fun x => ?_, hK _ ?_⟩; (fail); clear hK K)
            refine Mix.take_exC _ _ 23 rfl (by kernel_rfl) (by kernel_rfl) (by kernel_rfl) (by kernel_rfl) (fun K hK => ?_)
            go_simp
            first | (refine hK _ ?_; clear hK K) | (apply Exists.intro; refine ⟨fun x => ?_, hK _ ?_⟩; (fail); clear hK K)
            refine Mix.take_exC _ _ 25 rfl (by kernel_rfl) (by kernel_rfl) (by kernel_rfl) (by kernel_rfl) (fun K hK => ?_)
            go_simp
            first | (refine hK _ ?_; clear hK K) | (apply Exists.intro; refine ⟨fun x => ?_, hK _ ?_⟩; (fail); clear hK K)
            refine Mix.take_exC _ _ 26 rfl (by kernel_rfl) (by kernel_rfl) (by kernel_rfl) (by kernel_rfl) (fun K hK => ?_)
            go_simp
            first | (refine hK _ ?_; clear hK K) | (apply Exists.intro; refine ⟨fun x => ?_, hK _ ?_⟩; (fail); clear hK K)
            refine Mix.take_exC _ _ 27 rfl (by kernel_rfl) (by kernel_rfl) (by kernel_rfl) (by kernel_rfl) (fun K hK => ?_)
            go_simp
            first | (refine hK _ ?_; clear hK K) | (apply Exists.intro; refine ⟨fun x => ?_, hK _ ?_⟩; (fail); clear hK K)
            refine Mix.take_exC _ _ 24 rfl (by kernel_rfl) (by kernel_rfl) (by kernel_rfl) (by kernel_rfl) (fun K hK => ?_)
            go_simp
            first | (refine hK _ ?_; clear hK K) | (apply Exists.intro; refine ⟨fun x => ?_, hK _ ?_⟩; (((go_at_call 63; with_reducible exact HSU.out _))); clear hK K)
            refine Mix.take_exC _ _ 28 rfl (by kernel_rfl) (by kernel_rfl) (by kernel_rfl) (by kernel_rfl) (fun K hK => ?_)
            go_simp
            first | (refine hK _ ?_; clear hK K) | (apply Exists.intro; refine ⟨fun x => ?_, hK _ ?_⟩; (((go_at_call 64; with_reducible exact HMS.out _))); clear hK K)
            refine Mix.take_exC _ _ 29 rfl (by kernel_rfl) (by kernel_rfl) (by kernel_rfl) (by kernel_rfl) (fun K hK => ?_)
            go_simp
            first | (refine hK _ ?_; clear hK K) | (apply Exists.intro; refine ⟨fun x => ?_, hK _ ?_⟩; (fail); clear hK K)
            refine Mix.take_exC _ _ 30 rfl (by kernel_rfl) (by kernel_rfl) (by kernel_rfl) (by kernel_rfl) (fun K hK => ?_)
            go_simp
            first | (refine hK _ ?_; clear hK K) | (apply Exists.intro; refine ⟨fun x => ?_, hK _ ?_⟩; (fail); clear hK K)
            refine Mix.take_exC _ _ 31 rfl (by kernel_rfl) (by kernel_rfl) (by kernel_rfl) (by kernel_rfl) (fun K hK => ?_)
            go_simp
            first | (refine hK _ ?_; clear hK K) | (apply Exists.intro; refine ⟨fun x => ?_, hK _ ?_⟩; (fail); clear hK K)
            refine Mix.take_exC _ _ 32 rfl (by kernel_rfl) (by kernel_rfl) (by kernel_rfl) (by kernel_rfl) (fun K hK => ?_)
            go_simp
            first | (refine hK _ ?_; clear hK K) | (apply Exists.intro; refine ⟨fun x => ?_, hK _ ?_⟩; (((go_at_call 49; with_reducible exact works25 _))); clear hK K)
            refine Mix.take_exC _ _ 33 rfl (by kernel_rfl) (by kernel_rfl) (by kernel_rfl) (by kernel_rfl) (fun K hK => ?_)
            go_simp
            first | (refine hK _ ?_; clear hK K) | (apply Exists.intro; refine ⟨fun x => ?_, hK _ ?_⟩; (fail); clear hK K)
            refine Mix.take_exC _ _ 34 rfl (by kernel_rfl) (by kernel_rfl) (by kernel_rfl) (by kernel_rfl) (fun K hK => ?_)
            go_simp
            first | (refine hK _ ?_; clear hK K) | (apply Exists.intro; refine ⟨fun x => ?_, hK _ ?_⟩; (fail); clear hK K)
            refine Mix.done (by kernel_rfl) (.of_below _ HB52.out) ?_
            intro w54 hb54
            have HB54 := Lib.hid (bt HB52.out hb54)
            clear hb54 z0 z1 z2
            go_wp2
            go_ret
            exact ⟨rfl, HFIN.out _ HB54.out⟩
  · have hFF : decide (l.length ≤ 100 ∧ (l.map taW).sum ≤ 400) = false := decide_eq_false hfew
    go_enter Try.func9, Try.ntmps9
    go_wp2_with fail
    refine HF.out.mono ?_
    rintro e w1 ⟨rfl, rfl⟩
    rw [hFF]
    clear hfew
    go_wp2
    go_ret
    exact ⟨rfl, HBI.out⟩
end Go.Proofs.Ytnckjacbkhoppaa
namespace Go.Proofs.Ytnckjacbkhoppaa
open Go.RowKit Go.Maps Go.ChangeShapes Go.WideShapes Go.ChangeAt Go.Joins Go.Deep
attribute [local go_sem] ext_cell ext_frozen extC_cell extC_frozen Mix.calmUpon Mix.mUpon
theorem c2ids : Try.prog.cellsOf 50 = 2 := by kernel_rfl
theorem c1ids : Try.prog.cellsOf 2 = 1 := by kernel_rfl
set_option maxRecDepth 100000 in
/-- Two numbers that came in. -/
theorem open_ids {H : Type} {enc : TypeId × Value → H} {W : World} {base : Nat} {sp : Nat → Bool} {held : Bool} {r : Reach} {b0 : Nat} {v : Value} {d : DataW H} {p : List MemPlace}
    (hv : Value.okWide Try.prog W r b0 50 v) (h : DataW.Trod enc Try.prog W base sp held 50 v d p) : ∃ a b : Int, v = .agg #[.int .i64 a, .int .i64 b] := by
  simp only [Value.okWide, Try.underlying50] at hv
  obtain ⟨cs, rfl, hsz, _⟩ := hv
  have hsz2 : cs.toList.length = 2 := by simpa using hsz.trans c2ids
  obtain ⟨c0, c1, hcs⟩ : ∃ c0 c1, cs.toList = [c0, c1] := by
    match h : cs.toList, hsz2 with
    | [a, b], _ => exact ⟨a, b, rfl⟩
  obtain rfl : cs = #[c0, c1] := by apply Array.ext'; simpa using hcs
  obtain ⟨fuel, hf⟩ := h
  obtain ⟨xs, m, _, _, _, hlen, hff⟩ := DataW.trod_array Try.underlying50 hf
  match xs, hlen with
  | [y0, y1], _ =>
    have h0 : DataW.trod enc Try.prog W base sp held m 2 [c0] = some y0 := by
      have := hff 0 (by omega)
      rw [c1ids] at this
      exact this
    have h1 : DataW.trod enc Try.prog W base sp held m 2 [c1] = some y1 := by
      have := hff 1 (by omega)
      rw [c1ids] at this
      exact this
    obtain ⟨a, ea, _, wa⟩ := DataW.trod_int Try.underlying2 h0
    obtain ⟨b, eb, _, wb⟩ := DataW.trod_int Try.underlying2 h1
    simp at ea eb
    subst ea eb
    exact ⟨a, b, rfl⟩
namespace TasksPlays
open Go.ChangeShapes Go.WideShapes Go.ChangeAt Go.RowKit Go.Joins
theorem own : ownKnob Try.prog.godebug = none := by kernel_rfl
theorem laidOut : laidOutB Try.prog = true := by kernel_rfl
set_option maxRecDepth 100000 in
theorem lifted (os : Os) (started : os.Started) (H : Type) (enc : TypeId × Value → H) :
    ReturnsInHanded {} Try.checked os 9 .any (Rows.tasksPlaysSpec.pre6 enc Try.prog Try.f9 Rows.tasksPlaysRow.domain false) (Rows.tasksPlaysSpec.post enc Try.prog Try.f9 false true false false) := by
  refine returnsInHanded_of_change_sized (C := Try.checked) own started (by kernel_rfl) Try.func9
    (ChangeSpec.witness6 (enc := enc) (C := Try.checked) false ⟨#[], #[.int .i64 0, .slice none 0 0, .agg #[.int .i64 0, .int .i64 0]], []⟩ 8 (by kernel_rfl) (by kernel_rfl) (by kernel_rfl) (by kernel_rfl)) ?_
  intro W base args ds gs before hval0 hW hcnd hsz0 _
  have hval : ∀ (j : Nat) t v, Try.f9.params[j]? = some t → args[j]? = some v → Value.okWide Try.prog W .any base t v := hval0
  have hsz : (DataW.weightsEach Try.prog (Try.f9.params.toList ++ Rows.tasksPlaysSpec.plain.varTypes Try.prog) (ds ++ gs)).all (· ≤ reachBytes) = true := hsz0
  have hW' := hW
  obtain ⟨p, q, hA0, hV, rfl, hfz, hnd⟩ := hW
  have hA : DataW.TrodAll enc Try.prog W 0 (fun _ => true) true Try.f9.params.toList args.toList ds p := hA0
  rw [Try.params9] at hA hval hsz
  obtain ⟨v0, vs0, d0, ds0, p0, q0, hargs, rfl, rfl, h0, r0⟩ := trodAll_cons hA
  obtain ⟨v1, vs1, d1, ds1, p1, q1, rfl, rfl, rfl, h1, r1⟩ := trodAll_cons r0
  obtain ⟨v2, vs2, d2, ds2, p2, q2, rfl, rfl, rfl, h2, r2⟩ := trodAll_cons r1
  obtain ⟨rfl, rfl, rfl⟩ := trodAll_nil r2
  obtain rfl : args = #[v0, v1, v2] := by cases args; simp_all
  obtain ⟨rfl, rfl⟩ := trodVars_none hV
  have HZ := hsz
  have k0 := h0
  have lt0 : ∀ x ∈ p0, x.block < W.heap.size := by obtain ⟨m, hm⟩ := k0; exact DataW.trod_lt m _ _ _ hm
  have k1 := h1
  have lt1 : ∀ x ∈ p1, x.block < W.heap.size := by obtain ⟨m, hm⟩ := k1; exact DataW.trod_lt m _ _ _ hm
  have k2 := h2
  have lt2 : ∀ x ∈ p2, x.block < W.heap.size := by obtain ⟨m, hm⟩ := k2; exact DataW.trod_lt m _ _ _ hm
  obtain ⟨cap, vEq0, _, _, wf_cap⟩ := open_int Try.underlying3 (hval 0 3 v0 rfl rfl) k0
  subst vEq0
  obtain ⟨l, hr, ha, _⟩ := open_tacts (hval 1 87 v1 rfl rfl) k1 (WB.arg HZ (j := 1) rfl rfl)
  obtain ⟨i0, i1, rfl⟩ := open_ids (hval 2 50 v2 rfl rfl) k2
  clear hA0 hval0
  refine (plays25 cap v1 l i0 i1 W hr ha).mono fun e W' ⟨he, bel⟩ => ?_
  subst he
  exact ⟨_, rfl, _, _, _, [], _, [], hW', trodAll_mk1 (shut_bool Try.underlying4 _), (trodAll_cons_mk (Below.trod laidOut (by kernel_rfl) (of_decide_eq_true (by kernel_rfl)) k0 bel lt0) (trodAll_cons_mk (Below.trod laidOut (by kernel_rfl) (of_decide_eq_true (by kernel_rfl)) k1 bel lt1) (trodAll_cons_mk (Below.trod laidOut (by kernel_rfl) (of_decide_eq_true (by kernel_rfl)) k2 bel lt2) trodAll_mk0))), rfl, bel.frame _, fun h => by cases h⟩
theorem over : Rows.tasksPlaysRow.holds Try.pinned (OpenSpec.ofChange Rows.tasksPlaysSpec) :=
  OpenClaim.holds_of_wide 9 Try.f9 rfl rfl rfl rfl rfl rfl rfl ⟨rfl, rfl, rfl, rfl, rfl⟩ rfl rfl rfl rfl rfl (by kernel_rfl) Try.func9 (by kernel_rfl)
    (of_decide_eq_true (by kernel_rfl)) (by unfold Func.isWrapper; first | (rw [if_pos (by decide +kernel)]; kernel_rfl) | (rw [if_neg (by decide +kernel)]; exact ⟨rfl, rfl⟩))
    (fun os started H enc _ => lifted os started H enc)
theorem proved : Rows.TasksPlaysSaid := over
end TasksPlays
end Go.Proofs.Ytnckjacbkhoppaa

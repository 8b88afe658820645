/- tasks: acts; the walk of TasksSorted. -/
import Derived.Test.YtnckjacbkhoppaaTb6
import Derived.Test.YtnckjacbkhoppaaTa9
import Derived.Test.YtnckjacbkhoppaaRSo
namespace Go.Proofs.Ytnckjacbkhoppaa
open Go.RowKit Go.Maps
attribute [local go_sem] ext_cell ext_frozen extC_cell extC_frozen Mix.calmUpon Mix.mUpon
/-- What an act leaves. -/
def actT (cap : Int) (P : List Pk) (a : Ta) : List Pk := if a.end_ then delK P (tkey a.tk) else lauP cap P a.tk.pl
theorem actT_len {cap : Int} {P : List Pk} {a : Ta} : (actT cap P a).length ≤ P.length + 1 := by
  unfold actT; split
  · exact Nat.le_trans delK_len (Nat.le_succ _)
  · exact lauP_len
theorem actT_cap {cap : Int} {P : List Pk} {a : Ta} (h : (P.length : Int) ≤ cap) : ((actT cap P a).length : Int) ≤ cap := by
  unfold actT; split
  · have := delK_len (P := P) (k := tkey a.tk); omega
  · unfold lauP
    split
    · split
      · exact h
      · split
        · exact h
        · rename_i hf hc
          have h2 : (putK P a.tk.pl).length = P.length + 1 := Srt.put_len_new (by simpa using hf)
          rw [h2]; omega
    · exact h
theorem TIn.go {W w : World} {x : Tk} (h : TIn W x) (hb : Below W.heap.size W w) (hl : x.ps.length < 1000000) : TGo w x := ⟨h.vc.on hb, hl, h.fr, h.id, h.ag, h.i64⟩
theorem few_each {l : List Ta} (h : (l.map taW).sum ≤ 400) : ∀ x ∈ l, x.tk.ps.length < 1000000 := by
  have key : ∀ (l : List Ta) x, x ∈ l → taW x ≤ (l.map taW).sum := by
    intro l
    induction l with
    | nil => intro x hx; cases hx
    | cons a l ih =>
      intro x hx
      rw [List.map_cons, List.sum_cons]
      rcases List.mem_cons.1 hx with rfl | hx
      · omega
      · have := ih x hx; omega
  intro x hx
  have h1 := key l x hx
  unfold taW at h1
  have h2 : x.tk.ps.length ≤ (l.map taW).sum := h1
  omega
theorem infoTk' : (Try.prog.info? 95).map (fun i => (i.zero, i.size, i.bytes)) = some (some tkzero, 4, 48) := infoTk
/-- Where reading the sorted tasks stands. -/
theorem count_at {P : List Pk} {q : Pk → Bool} {t : Nat} {y : Pk} (hy : P[t]? = some y) : (q y = true → (P.filter q)[((P.take t).filter q).length]? = some y ∧ ((P.take (t + 1)).filter q).length = ((P.take t).filter q).length + 1) ∧ (q y = false → ((P.take (t + 1)).filter q).length = ((P.take t).filter q).length) := by
  have h1 : P.filter q = (P.take t).filter q ++ ((y :: P.drop (t + 1)).filter q) := by
    rw [← List.filter_append, ← parted_at hy]
  refine ⟨fun hq => ⟨?_, ?_⟩, fun hq => ?_⟩
  · rw [h1, List.filter_cons, if_pos hq, List.getElem?_append_right (Nat.le_refl _), Nat.sub_self]; rfl
  · rw [take_at hy, List.filter_append, List.length_append, List.filter_cons, if_pos hq]; rfl
  · rw [take_at hy, List.filter_append, List.length_append, List.filter_cons, if_neg (by simp [hq])]; rfl
theorem sorted_at {P : List Pk} (hP : PIn P) {t : Nat} {x y : Pk} (hx : P[t]? = some x) (hy : P[t + 1]? = some y) : x.1 < y.1 ∨ (x.1 = y.1 ∧ x.2.1 < y.2.1) := by
  obtain ⟨h1, rfl⟩ := List.getElem?_eq_some_iff.1 hx
  obtain ⟨h2, rfl⟩ := List.getElem?_eq_some_iff.1 hy
  have h := (List.pairwise_iff_getElem.1 hP.srt t (t + 1) h1 h2 (by omega)).1
  simpa [ltK, ltI] using h
theorem TL.below {w w' : World} {v : Value} {l : List Tk} (h : TL w v l) (hb : Below w.heap.size w w') : TL w' v l := ⟨h.rs.below hb, fun x hx => (h.vec x hx).on hb⟩
theorem TL.one {w : World} {v : Value} {l : List Tk} (h : TL w v l) {i : Nat} {x : Tk} (hx : l[i]? = some x) {q : Int} (hq : q = ((i + 1 : Nat) : Int)) :
    ∃ v', (∀ w0, (Instr.slice 91 v (some (.int .i64 (i : Int))) (some (.int .i64 q)) none).run Try.prog w0 = .ok v' w0) ∧ TL w v' [x] := by
  obtain ⟨i0, hi, _, hz1, _⟩ := info_parts infoTk
  obtain ⟨v', h1, h2⟩ := h.rs.one hx hq Try.underlying91 hi hz1
  exact ⟨v', h1, h2 w h.rs, fun y hy => by rw [List.mem_singleton.1 hy]; exact h.vec x (mem_at hx)⟩
theorem quiet_of {P : Program} {f : Nat} {args : Array Value} {v : Value} {W : World} (x : Ext W) (h : Calls P f args (ext W x) fun e w' => e = .returned v ∧ Below (ext W x).heap.size (ext W x) w') : Calls P f args (ext W x) fun e w'' => e = .returned v ∧ ∃ y, w'' = ext W y :=
  h.mono fun _ _ ⟨h1, h2⟩ => ⟨h1, ext_of (bt (ext_below _ x) h2)⟩
set_option maxRecDepth 100000 in
set_option maxHeartbeats 8000000 in
theorem sorted25 (cap : Int) (v : Value) (l : List Ta) (agent : Int) (W : World) (hr : RS 5 taenc W v l) (ha : ∀ x ∈ l, TIn W x.tk) :
    Calls Try.prog 11 #[.int .i64 cap, v, .int .i64 agent] W fun e w' => e = .returned (.bool true) ∧ Below W.heap.size W w' := by
  have HF := Lib.hid (few25 v l W hr ha)
  obtain ⟨a, n, c, rfl, hn, hc, hm, hat⟩ := hr.at_
  have HN := Lib.hid hn; have HAT := Lib.hid hat; have HA := Lib.hid ha
  clear hr hn hat ha hm hc
  by_cases hfew : l.length ≤ 100 ∧ (l.map taW).sum ≤ 400
  · have hFT : decide (l.length ≤ 100 ∧ (l.map taW).sum ≤ 400) = true := decide_eq_true hfew
    have HFT := Lib.hid hFT
    have HLE := Lib.hid (few_each hfew.2)
    have hn100 : n ≤ 100 := by rw [HN.out]; exact hfew.1
    clear hfew hFT
    by_cases hcap : cap < 1
    · go_enter Try.func11, Try.ntmps11
      go_wp2_with fail
      refine HF.out.mono ?_
      rintro e w1 ⟨rfl, rfl⟩
      rw [HFT.out]
      go_wp2
      go_ret
      exact ⟨rfl, Below.refl _ _⟩
    · have hcap' : (cap < 1) = False := eq_false hcap
      have HCAP := Lib.hid (show 1 ≤ cap by omega)
      go_enter Try.func11, Try.ntmps11
      go_wp2_with fail
      refine HF.out.mono ?_
      rintro e w1 ⟨rfl, rfl⟩
      rw [HFT.out]
      go_wp2_with fail
      refine (vnew w1 HCAP.out).mono ?_
      rintro e w2 ⟨rfl, h2, hb2⟩
      have HI := Lib.hid (show TV w2 w1.heap.size (w1.heap.size + 1) w1.heap.size cap [] (fun _ => True) ∧ Below w1.heap.size w1 w2 ∧ ([] : List Pk).length ≤ 0 ∧ (([] : List Pk).length : Int) ≤ cap from ⟨h2.mono fun _ h => trivial, hb2, Nat.le_refl _, by have := HCAP.out; simp; omega⟩)
      clear h2 hb2 hcap hcap'
      obtain ⟨tp, htp⟩ : ∃ tp, tp = w1.heap.size + 1 := ⟨_, rfl⟩
      rw [← htp] at HI ⊢
      clear htp
      obtain ⟨M, hM⟩ : ∃ M, M = w1.heap.size := ⟨_, rfl⟩
      rw [show TV w2 w1.heap.size tp w1.heap.size cap [] (fun _ => True) = TV w2 w1.heap.size tp M cap [] (fun _ => True) by rw [hM]] at HI
      have HM := Lib.hid hM
      clear hM
      go_wp2
      go_loopw [8] (fun iv wr => ∃ (t : Nat) (P : List Pk), t ≤ n ∧ iv = .int .i64 t ∧ Hid (TV wr w1.heap.size tp M cap P (fun _ => True) ∧ Below w1.heap.size w1 wr ∧ P.length ≤ t ∧ (P.length : Int) ≤ cap)) (fun iv _ => n - (intOf iv).toNat)
      case atStart => exact ⟨0, [], Nat.zero_le _, rfl, HI⟩
      case round =>
        clear HI
        obtain ⟨t, P, ht, rfl, HQ⟩ := hrel
        obtain ⟨w4, rfl⟩ : ∃ w4, w4 = wr := ⟨_, rfl⟩
        by_cases hlt : t < n
        · have hts : (t : Int) < (n : Int) := by omega
          obtain ⟨x, hx⟩ := at_lt (l := l) (i := t) (by rw [← HN.out]; exact hlt)
          have HAL := Lib.hid (actT_len (cap := cap) (P := P) (a := x))
          have HAC := Lib.hid (actT_cap (a := x) HQ.out.2.2.2)
          obtain ⟨bs, off, rfl, hbs, hcell⟩ := HAT.out t x hx
          have hxi := HA.out x (mem_at hx)
          have hxl := HLE.out x (mem_at hx)
          have hbw := HQ.out.2.1
          have c0 := (hbw.cell (p := ⟨bs, _, none⟩) hbs).trans (hcell 0 _ rfl)
          have c1 := (hbw.cell (p := ⟨bs, _, none⟩) hbs).trans (hcell 1 _ rfl)
          have c2 := (hbw.cell (p := ⟨bs, _, none⟩) hbs).trans (hcell 2 _ rfl)
          have c3 := (hbw.cell (p := ⟨bs, _, none⟩) hbs).trans (hcell 3 _ rfl)
          have c4 := (hbw.cell (p := ⟨bs, _, none⟩) hbs).trans (hcell 4 _ rfl)
          simp only [Nat.add_zero] at c0
          have hbs4 : bs < w4.heap.size := Nat.lt_of_lt_of_le hbs hbw.size
          have HGO := Lib.hid (hxi.go hbw hxl)
          obtain ⟨xe, ⟨xf, xi, xa, xv, xs⟩⟩ := x
          obtain ⟨va, vc, hvv, -, -⟩ := hxi.vc.form
          simp only at hvv
          subst hvv
          have hnM : ¬ bs = M := by have := HM.out; omega
          clear hcell hx hxi hxl hbw hbs
          have hsz := HQ.out.2.1.size
          cases xe with
          | true =>
            go_wp2
            refine Mix.regionC (fun k => k = M) (by kernel_rfl) ?_
            intro w5 hb5
            refine Mix.take_exC _ _ 0 rfl (by kernel_rfl) (by kernel_rfl) (by kernel_rfl) (by kernel_rfl) (fun K hK => ?_)
            go_simp
            first | (refine hK _ ?_; clear hK K) | (apply Exists.intro; refine ⟨fun x => ?_, hK _ ?_⟩; (fail); clear hK K)
            refine Mix.take_exC _ _ 1 rfl (by kernel_rfl) (by kernel_rfl) (by kernel_rfl) (by kernel_rfl) (fun K hK => ?_)
            go_simp
            first | (refine hK _ ?_; clear hK K) | (apply Exists.intro; refine ⟨fun x => ?_, hK _ ?_⟩; (fail); clear hK K)
            refine Mix.take_exC _ _ 2 rfl (by kernel_rfl) (by kernel_rfl) (by kernel_rfl) (by kernel_rfl) (fun K hK => ?_)
            go_simp
            first | (refine hK _ ?_; clear hK K) | (apply Exists.intro; refine ⟨fun x => ?_, hK _ ?_⟩; (fail); clear hK K)
            refine Mix.take_exC _ _ 3 rfl (by kernel_rfl) (by kernel_rfl) (by kernel_rfl) (by kernel_rfl) (fun K hK => ?_)
            go_simp
            first | (refine hK _ ?_; clear hK K) | (apply Exists.intro; refine ⟨fun x => ?_, hK _ ?_⟩; (fail); clear hK K)
            refine Mix.take_exC _ _ 4 rfl (by kernel_rfl) (by kernel_rfl) (by kernel_rfl) (by kernel_rfl) (fun K hK => ?_)
            go_simp
            first | (refine hK _ ?_; clear hK K) | (apply Exists.intro; refine ⟨fun x => ?_, hK _ ?_⟩; (fail); clear hK K)
            refine Mix.take_exC _ _ 5 rfl (by kernel_rfl) (by kernel_rfl) (by kernel_rfl) (by kernel_rfl) (fun K hK => ?_)
            go_simp
            first | (refine hK _ ?_; clear hK K) | (apply Exists.intro; refine ⟨fun x => ?_, hK _ ?_⟩; (fail); clear hK K)
            refine Mix.take_exC _ _ 6 rfl (by kernel_rfl) (by kernel_rfl) (by kernel_rfl) (by kernel_rfl) (fun K hK => ?_)
            go_simp
            first | (refine hK _ ?_; clear hK K) | (apply Exists.intro; refine ⟨fun x => ?_, hK _ ?_⟩; (fail); clear hK K)
            refine Mix.take_exC _ _ 7 rfl (by kernel_rfl) (by kernel_rfl) (by kernel_rfl) (by kernel_rfl) (fun K hK => ?_)
            go_simp
            first | (refine hK _ ?_; clear hK K) | (apply Exists.intro; refine ⟨fun x => ?_, hK _ ?_⟩; (fail); clear hK K)
            refine Mix.take_exC _ _ 8 rfl (by kernel_rfl) (by kernel_rfl) (by kernel_rfl) (by kernel_rfl) (fun K hK => ?_)
            go_simp
            first | (refine hK _ ?_; clear hK K) | (apply Exists.intro; refine ⟨fun x => ?_, hK _ ?_⟩; (fail); clear hK K)
            refine Mix.take_exC _ _ 9 rfl (by kernel_rfl) (by kernel_rfl) (by kernel_rfl) (by kernel_rfl) (fun K hK => ?_)
            go_simp
            first | (refine hK _ ?_; clear hK K) | (apply Exists.intro; refine ⟨fun x => ?_, hK _ ?_⟩; (fail); clear hK K)
            refine Mix.take_exC _ _ 10 rfl (by kernel_rfl) (by kernel_rfl) (by kernel_rfl) (by kernel_rfl) (fun K hK => ?_)
            go_simp
            first | (refine hK _ ?_; clear hK K) | (apply Exists.intro; refine ⟨fun x => ?_, hK _ ?_⟩; (fail); clear hK K)
            refine Mix.take_exC _ _ 11 rfl (by kernel_rfl) (by kernel_rfl) (by kernel_rfl) (by kernel_rfl) (fun K hK => ?_)
            go_simp
            first | (refine hK _ ?_; clear hK K) | (apply Exists.intro; refine ⟨fun x => ?_, hK _ ?_⟩; (fail); clear hK K)
            refine Mix.take_exC _ _ 12 rfl (by kernel_rfl) (by kernel_rfl) (by kernel_rfl) (by kernel_rfl) (fun K hK => ?_)
            go_simp
            first | (refine hK _ ?_; clear hK K) | (apply Exists.intro; refine ⟨fun x => ?_, hK _ ?_⟩; (fail); clear hK K)
            refine Mix.all (rs := [13]) (by kernel_rfl) (by simp) (.of_below _ hb5) ?_
            intro i6 hi6 w6 hb6 hC6
            simp only [List.mem_cons, List.not_mem_nil, or_false] at hi6
            subst hi6
            have HB6 := Lib.hid (bt hb5 hb6)
            clear hC6 hb5 hb6
            refine Mix.op rfl (by kernel_rfl) ?_
            go_simp
            refine (vend (HQ.out.1.below HB6.out) HGO.out.fr HGO.out.id).mono ?_
            rintro e w7 ⟨⟨z, rfl, -, -⟩, h7, hc7⟩
            refine ⟨_, rfl, ?_⟩
            have HC7 := Lib.hid ((Chg.of_below (fun k => k = M) HB6.out).same hc7)
            have H7 := Lib.hid h7
            clear h7 hc7
            refine Mix.done (by kernel_rfl) HC7.out ?_
            intro w8 hb8
            have HI := Lib.hid (show TV w8 w1.heap.size tp M cap (actT cap P ⟨true, ⟨xf, xi, xa, .slice va xs.length vc, xs⟩⟩) (fun _ => True) ∧ Below w1.heap.size w1 w8 from ⟨H7.out.below hb8, HQ.out.2.1.trans ((HC7.out.then_below hb8).below HQ.out.2.1.size fun k e => by rw [e, HM.out]; exact Nat.le_refl _)⟩)
            clear hb8 c0 c1 c2 c3 c4 hbs4
            go_wp2
            go_roundw
            case rel => exact ⟨t + 1, _, by omega, by go_num, Lib.hid ⟨HI.out.1, HI.out.2, by have := HAL.out; have := HQ.out.2.2.1; omega, HAC.out⟩⟩
            case measure => simp [intOf]; omega
          | false =>
            go_wp2_with fail
            refine (vlaunch HQ.out.1 HQ.out.2.1.size ⟨xf, xi, xa, .slice va xs.length vc, xs⟩ HGO.out).mono ?_
            rintro e w5 ⟨rfl, h5, hc5⟩
            have HI := Lib.hid (show TV w5 w1.heap.size tp M cap (actT cap P ⟨false, ⟨xf, xi, xa, .slice va xs.length vc, xs⟩⟩) (fun _ => True) ∧ Below w1.heap.size w1 w5 from ⟨h5.mono fun _ _ => trivial, HQ.out.2.1.trans (hc5.below HQ.out.2.1.size fun k e => by rw [e, HM.out]; exact Nat.le_refl _)⟩)
            clear h5 hc5 c0 c1 c2 c3 c4 hbs4
            go_wp2
            go_roundw
            case rel => exact ⟨t + 1, _, by omega, by go_num, Lib.hid ⟨HI.out.1, HI.out.2, by have := HAL.out; have := HQ.out.2.2.1; omega, HAC.out⟩⟩
            case measure => simp [intOf]; omega
        · obtain rfl : n = t := by omega
          have hPl : P.length < 1000000 := by have := HQ.out.2.2.1; omega
          go_wp2_with fail
          refine (vall HQ.out.1 hPl).mono ?_
          rintro e w5 ⟨va, la, rfl, hla, hpa, -, -, hb5⟩
          have HT5 := Lib.hid (HQ.out.1.below hb5)
          have HB5 := Lib.hid (HQ.out.2.1.trans (hb5.mono HQ.out.2.1.size))
          have HLA5 := Lib.hid hla; have HPA := Lib.hid hpa
          clear hb5 hla hpa
          go_wp2_with fail
          refine (von HT5.out hPl agent).mono ?_
          rintro e w6 ⟨vo, lo, rfl, hlo, hpo, -, -, hb6⟩
          have HT6 := Lib.hid (HT5.out.below hb6)
          have HB6 := Lib.hid (HB5.out.trans (hb6.mono HB5.out.size))
          have HLA := Lib.hid (HLA5.out.below hb6)
          have HLO := Lib.hid hlo; have HPO := Lib.hid hpo
          have HPI := Lib.hid HQ.out.1.pin
          clear hb6 hlo hpo HLA5
          obtain ⟨aa', m, cc', rfl, hmm, -, hmx, hata⟩ := HLA.out.rs.at_
          obtain ⟨ao, mo, co, rfl, hmo, -, hmox, -⟩ := HLO.out.rs.at_
          have hmP : m = P.length := by rw [hmm, ← HPA.out, List.length_map]
          have hmoP : mo = (P.filter fun x => x.2.2.1 == agent).length := by rw [hmo, ← HPO.out, List.length_map]
          have hm100 : m ≤ 100 := by have := HQ.out.2.2.1; omega
          have hmo100 : mo ≤ 100 := by
            have : (P.filter fun x => x.2.2.1 == agent).length ≤ P.length := List.length_filter_le _ _
            omega
          have HMP := Lib.hid hmP; have HMM := Lib.hid hmm; have HMO := Lib.hid hmo; have HMOP := Lib.hid hmoP; have HATA := Lib.hid hata
          have HMB := Lib.hid (And.intro hm100 hmo100)
          clear hmP hmm hmo hmoP hata hmx hmox hm100 hmo100 hPl hlt ht
          go_wp2
          go_loopw [11, 12] (fun nv iv wr => ∃ (t c2 : Nat), t ≤ m ∧ iv = .int .i64 t ∧ nv = .int .i64 c2 ∧ Hid (c2 = ((P.take t).filter fun x => x.2.2.1 == agent).length) ∧ Below w6.heap.size w6 wr) (fun _ iv _ => m - (intOf iv).toNat)
          case atStart => exact ⟨0, 0, Nat.zero_le _, rfl, rfl, Lib.hid (by simp), by (repeat (first | assumption | exact Below.refl _ _ | refine ba ?_ _ | refine bd ?_ | refine bdn ?_ _ | refine bs ?_ (by first | omega | (simp; done) | (simp; omega)) _ | refine bt ?_ (by assumption)))⟩
          case round =>
            obtain ⟨t2, c2, ht2, rfl, rfl, HC, hb20⟩ := hrel
            obtain ⟨w20, rfl⟩ : ∃ w20, w20 = wr := ⟨_, rfl⟩
            have HB20 := Lib.hid hb20
            have hs20 : w6.heap.size + 0 ≤ w20.heap.size := (by have h := hb20.size; first | omega | (simp at h; omega))
            obtain ⟨hc20, hf20, hl20⟩ := bcell hb20
            clear hl20
            have hm9 : (m : Int) ≤ 100 := by have := HMB.out; omega
            by_cases hlt2 : t2 < m
            · have hts2 : (t2 : Int) < (m : Int) := by omega
              obtain ⟨y, hy⟩ := at_lt (l := la) (i := t2) (by rw [← HMM.out]; exact hlt2)
              obtain ⟨bs, off, rfl, hbs, hcell⟩ := HATA.out t2 y hy
              have d0 := hcell 0 _ rfl; have d1 := hcell 1 _ rfl; have d2 := hcell 2 _ rfl; have d3 := hcell 3 _ rfl
              simp only [Nat.add_zero] at d0
              have hbl : bs < w20.heap.size := Nat.lt_of_lt_of_le hbs hb20.size
              have hyP : P[t2]? = some y.pl := by rw [← HPA.out, List.getElem?_map, hy]; rfl
              have hyl : y.ps.length < 1000000000 := by
                have h1 := (HPI.out.ok y.pl (List.mem_of_getElem? hyP)).1.2.2.2.2
                have h2 : y.ps.length ≤ 132 := vr_len h1
                omega
              have HY := Lib.hid (And.intro hy (And.intro hyl hyP))
              clear hcell hy hyl hyP
              obtain ⟨yf, yi, ya, yv, ys⟩ := y
              simp only at d0 d1 d2 d3
              have HD := Lib.hid (And.intro d0 (And.intro d1 (And.intro d2 d3)))
              have HBS := Lib.hid hbs
              by_cases h0 : t2 = 0
              · have hg1 : decide ((0 : Int) < (t2 : Int)) = false := decide_eq_false (by omega)
                have hg2 : decide (0 < t2) = false := decide_eq_false (by omega)
                have hg3 : ((0 : Int) < (t2 : Int)) = False := eq_false (by omega)
                have HT0 := Lib.hid h0
                clear h0
                go_wp2_with fail
                refine wp_region_pure (by kernel_rfl) (by kernel_rfl) ?_
                repeat (first | go_big_quiet_step ((fail)) | (quiet_step ((fail))))
                refine wpQuiet_nil ?_
                rintro w21 ⟨x21, hx21⟩
                have hb21 := ext_below _ x21
                rw [← hx21] at hb21
                clear hx21 x21
                have hs21 : w20.heap.size + 0 ≤ w21.heap.size := (by have h := hb21.size; first | omega | (simp at h; omega))
                have hb20_21 := bel hb20 hb21 (by (repeat (first | assumption | exact Below.refl _ _ | refine ba ?_ _ | refine bd ?_ | refine bdn ?_ _ | refine bs ?_ (by first | omega | (simp; done) | (simp; omega)) _ | refine bt ?_ (by assumption))))
                clear hc20 hf20
                obtain ⟨hc21, hf21, hl21⟩ := bcell hb21
                clear hl21
                clear hg1 hg2 hg3
                have HB21 := Lib.hid (bt HB20.out hb21)
                have hbl21 : bs < w21.heap.size := Nat.lt_of_lt_of_le HBS.out HB21.out.size
                have f2 := (HB20.out.cell (p := ⟨bs, _, none⟩) HBS.out).trans HD.out.2.2.1
                have hbl20 : bs < w20.heap.size := Nat.lt_of_lt_of_le HBS.out HB20.out.size
                have e2 := (HB21.out.cell (p := ⟨bs, _, none⟩) HBS.out).trans HD.out.2.2.1
                by_cases hag : ya = agent
                · have hagb : (ya == agent) = true := by simpa using hag
                  obtain ⟨hc1, hc2⟩ := (count_at (q := fun x => x.2.2.1 == agent) HY.out.2.2).1 (by show (ya == agent) = true; exact hagb)
                  rw [← HC.out] at hc1
                  rw [← HPO.out, List.getElem?_map] at hc1
                  obtain ⟨o, ho⟩ : ∃ o, lo[c2]? = some o := by
                    cases h : lo[c2]? with
                    | none => rw [h] at hc1; cases hc1
                    | some o => exact ⟨o, rfl⟩
                  rw [ho] at hc1
                  have hop : o.pl = ⟨yf, yi, ya, ys⟩ := Option.some.inj hc1
                  have hcl : c2 < mo := by rw [HMO.out]; exact (List.getElem?_eq_some_iff.1 ho).1
                  have hgf : ((mo : Int) ≤ (c2 : Int)) = False := eq_false (by omega)
                  have hgd : decide ((mo : Int) ≤ (c2 : Int)) = false := decide_eq_false (by omega)
                  obtain ⟨v1, hr1, ht1⟩ := HLO.out.one ho (q := (c2 : Int) + 1) (by simp)
                  obtain ⟨v2, hr2, ht2⟩ := HLA.out.one HY.out.1 (q := (t2 : Int) + 1) (by simp)
                  have hos : o.ps = ys := congrArg (fun p : Pk => p.2.2.2) hop
                  have HSM := Lib.hid fun z : Ext w21 => quiet_of z (sameT_yes v1 v2 [o] [⟨yf, yi, ya, yv, ys⟩] (fun x hx => by
                    rw [List.mem_singleton.1 hx, hos]; exact HY.out.2.1) (by simp only [List.map_cons, List.map_nil]; rw [hop]; rfl) (ext w21 z) (ht1.below (bt HB21.out (ext_below _ z))) (ht2.below (bt HB21.out (ext_below _ z))))
                  have HC2 := Lib.hid hc2
                  have hc9 : (c2 : Int) + 1 < 9223372036854775807 := by have := HMB.out; omega
                  clear hag hc1 hc2 ho hop ht1 ht2 hos
                  go_wp2_with fail
                  refine wp_region_pure (by kernel_rfl) (by kernel_rfl) ?_
                  repeat (first | go_big_quiet_step (((go_at_call 52; with_reducible exact HSM.out _))) | (quiet_step (((go_at_call 52; with_reducible exact HSM.out _)))))
                  refine wpQuiet_nil ?_
                  rintro w22 ⟨x22, hx22⟩
                  have hb22 := ext_below _ x22
                  rw [← hx22] at hb22
                  clear hx22 x22
                  have hs22 : w21.heap.size + 0 ≤ w22.heap.size := (by have h := hb22.size; first | omega | (simp at h; omega))
                  have hb20_22 := bel hb20_21 hb22 (by (repeat (first | assumption | exact Below.refl _ _ | refine ba ?_ _ | refine bd ?_ | refine bdn ?_ _ | refine bs ?_ (by first | omega | (simp; done) | (simp; omega)) _ | refine bt ?_ (by assumption))))
                  have hb21_22 := bel hb21 hb22 (by (repeat (first | assumption | exact Below.refl _ _ | refine ba ?_ _ | refine bd ?_ | refine bdn ?_ _ | refine bs ?_ (by first | omega | (simp; done) | (simp; omega)) _ | refine bt ?_ (by assumption))))
                  clear hc21 hf21
                  obtain ⟨hc22, hf22, hl22⟩ := bcell hb22
                  clear hl22
                  go_wp2
                  go_roundw
                  case rel => exact ⟨t2 + 1, c2 + 1, by omega, by go_num, by go_num, Lib.hid (by rw [HC.out]; exact HC2.out.symm), by (repeat (first | assumption | exact Below.refl _ _ | refine ba ?_ _ | refine bd ?_ | refine bdn ?_ _ | refine bs ?_ (by first | omega | (simp; done) | (simp; omega)) _ | refine bt ?_ (by assumption)))⟩
                  case measure => simp [intOf]; omega
                · have hagb : (ya == agent) = false := by simpa using hag
                  have hc2 := (count_at (q := fun x => x.2.2.1 == agent) HY.out.2.2).2 (by show (ya == agent) = false; exact hagb)
                  have HC2 := Lib.hid hc2
                  clear hag hc2
                  go_wp2
                  go_roundw
                  case rel => exact ⟨t2 + 1, c2, by omega, by go_num, rfl, Lib.hid (by rw [HC.out]; exact HC2.out.symm), by (repeat (first | assumption | exact Below.refl _ _ | refine ba ?_ _ | refine bd ?_ | refine bdn ?_ _ | refine bs ?_ (by first | omega | (simp; done) | (simp; omega)) _ | refine bt ?_ (by assumption)))⟩
                  case measure => simp [intOf]; omega
              · obtain ⟨u, hu⟩ : ∃ u, t2 = u + 1 := ⟨t2 - 1, by omega⟩
                obtain ⟨z, hz⟩ := at_lt (l := la) (i := u) (by rw [← HMM.out]; omega)
                obtain ⟨bz, oz, hez, hbz, hzc⟩ := HATA.out u z hz
                cases hez
                have k0 := hzc 0 _ rfl; have k1 := hzc 1 _ rfl
                simp only [Nat.add_zero] at k0
                have hzP : P[u]? = some z.pl := by rw [← HPA.out, List.getElem?_map, hz]; rfl
                have hsr := sorted_at HPI.out hzP (by rw [← hu]; exact HY.out.2.2)
                obtain ⟨zf, zi, za, zv, zs⟩ := z
                have hsr' : zf < yf ∨ (zf = yf ∧ zi < yi) := hsr
                simp only at k0 k1
                have wq : IntKind.i64.wrap ((t2 : Int) - 1) = (u : Int) := by rw [IntWalk.i64_in _ (by omega)]; omega
                have us : (u : Int) < (m : Int) := by omega
                have uN : u < m := by omega
                have hg1 : decide ((0 : Int) < (t2 : Int)) = true := decide_eq_true (by omega)
                have hg2 : decide (0 < t2) = true := decide_eq_true (by omega)
                have hg3 : ((0 : Int) < (t2 : Int)) = True := eq_true (by omega)
                have q1 : (yf < zf) = False := eq_false (by omega)
                have q1d : decide (yf < zf) = false := decide_eq_false (by omega)
                have HT0 := Lib.hid hu
                by_cases hfr : yf = zf
                · have q2 : (yf == zf) = true := by simpa using hfr
                  have q3 : (yi ≤ zi) = False := eq_false (by omega)
                  have q3d : decide (yi ≤ zi) = false := decide_eq_false (by omega)
                  clear h0 hu hz hzc hbz hzP hsr hsr' hfr
                  go_wp2_with fail
                  refine wp_region_pure (by kernel_rfl) (by kernel_rfl) ?_
                  repeat (first | go_big_quiet_step ((fail)) | (quiet_step ((fail))))
                  refine wpQuiet_nil ?_
                  rintro w21 ⟨x21, hx21⟩
                  have hb21 := ext_below _ x21
                  rw [← hx21] at hb21
                  clear hx21 x21
                  have hs21 : w20.heap.size + 0 ≤ w21.heap.size := (by have h := hb21.size; first | omega | (simp at h; omega))
                  have hb20_21 := bel hb20 hb21 (by (repeat (first | assumption | exact Below.refl _ _ | refine ba ?_ _ | refine bd ?_ | refine bdn ?_ _ | refine bs ?_ (by first | omega | (simp; done) | (simp; omega)) _ | refine bt ?_ (by assumption))))
                  clear hc20 hf20
                  obtain ⟨hc21, hf21, hl21⟩ := bcell hb21
                  clear hl21
                  clear hg1 hg2 hg3 q1 q1d q2 q3 q3d wq us uN k0 k1
                  have HB21 := Lib.hid (bt HB20.out hb21)
                  have hbl21 : bs < w21.heap.size := Nat.lt_of_lt_of_le HBS.out HB21.out.size
                  have f2 := (HB20.out.cell (p := ⟨bs, _, none⟩) HBS.out).trans HD.out.2.2.1
                  have hbl20 : bs < w20.heap.size := Nat.lt_of_lt_of_le HBS.out HB20.out.size
                  have e2 := (HB21.out.cell (p := ⟨bs, _, none⟩) HBS.out).trans HD.out.2.2.1
                  by_cases hag : ya = agent
                  · have hagb : (ya == agent) = true := by simpa using hag
                    obtain ⟨hc1, hc2⟩ := (count_at (q := fun x => x.2.2.1 == agent) HY.out.2.2).1 (by show (ya == agent) = true; exact hagb)
                    rw [← HC.out] at hc1
                    rw [← HPO.out, List.getElem?_map] at hc1
                    obtain ⟨o, ho⟩ : ∃ o, lo[c2]? = some o := by
                      cases h : lo[c2]? with
                      | none => rw [h] at hc1; cases hc1
                      | some o => exact ⟨o, rfl⟩
                    rw [ho] at hc1
                    have hop : o.pl = ⟨yf, yi, ya, ys⟩ := Option.some.inj hc1
                    have hcl : c2 < mo := by rw [HMO.out]; exact (List.getElem?_eq_some_iff.1 ho).1
                    have hgf : ((mo : Int) ≤ (c2 : Int)) = False := eq_false (by omega)
                    have hgd : decide ((mo : Int) ≤ (c2 : Int)) = false := decide_eq_false (by omega)
                    obtain ⟨v1, hr1, ht1⟩ := HLO.out.one ho (q := (c2 : Int) + 1) (by simp)
                    obtain ⟨v2, hr2, ht2⟩ := HLA.out.one HY.out.1 (q := (t2 : Int) + 1) (by simp)
                    have hos : o.ps = ys := congrArg (fun p : Pk => p.2.2.2) hop
                    have HSM := Lib.hid fun z : Ext w21 => quiet_of z (sameT_yes v1 v2 [o] [⟨yf, yi, ya, yv, ys⟩] (fun x hx => by
                      rw [List.mem_singleton.1 hx, hos]; exact HY.out.2.1) (by simp only [List.map_cons, List.map_nil]; rw [hop]; rfl) (ext w21 z) (ht1.below (bt HB21.out (ext_below _ z))) (ht2.below (bt HB21.out (ext_below _ z))))
                    have HC2 := Lib.hid hc2
                    have hc9 : (c2 : Int) + 1 < 9223372036854775807 := by have := HMB.out; omega
                    clear hag hc1 hc2 ho hop ht1 ht2 hos
                    go_wp2_with fail
                    refine wp_region_pure (by kernel_rfl) (by kernel_rfl) ?_
                    repeat (first | go_big_quiet_step (((go_at_call 52; with_reducible exact HSM.out _))) | (quiet_step (((go_at_call 52; with_reducible exact HSM.out _)))))
                    refine wpQuiet_nil ?_
                    rintro w22 ⟨x22, hx22⟩
                    have hb22 := ext_below _ x22
                    rw [← hx22] at hb22
                    clear hx22 x22
                    have hs22 : w21.heap.size + 0 ≤ w22.heap.size := (by have h := hb22.size; first | omega | (simp at h; omega))
                    have hb20_22 := bel hb20_21 hb22 (by (repeat (first | assumption | exact Below.refl _ _ | refine ba ?_ _ | refine bd ?_ | refine bdn ?_ _ | refine bs ?_ (by first | omega | (simp; done) | (simp; omega)) _ | refine bt ?_ (by assumption))))
                    have hb21_22 := bel hb21 hb22 (by (repeat (first | assumption | exact Below.refl _ _ | refine ba ?_ _ | refine bd ?_ | refine bdn ?_ _ | refine bs ?_ (by first | omega | (simp; done) | (simp; omega)) _ | refine bt ?_ (by assumption))))
                    clear hc21 hf21
                    obtain ⟨hc22, hf22, hl22⟩ := bcell hb22
                    clear hl22
                    go_wp2
                    go_roundw
                    case rel => exact ⟨t2 + 1, c2 + 1, by omega, by go_num, by go_num, Lib.hid (by rw [HC.out]; exact HC2.out.symm), by (repeat (first | assumption | exact Below.refl _ _ | refine ba ?_ _ | refine bd ?_ | refine bdn ?_ _ | refine bs ?_ (by first | omega | (simp; done) | (simp; omega)) _ | refine bt ?_ (by assumption)))⟩
                    case measure => simp [intOf]; omega
                  · have hagb : (ya == agent) = false := by simpa using hag
                    have hc2 := (count_at (q := fun x => x.2.2.1 == agent) HY.out.2.2).2 (by show (ya == agent) = false; exact hagb)
                    have HC2 := Lib.hid hc2
                    clear hag hc2
                    go_wp2
                    go_roundw
                    case rel => exact ⟨t2 + 1, c2, by omega, by go_num, rfl, Lib.hid (by rw [HC.out]; exact HC2.out.symm), by (repeat (first | assumption | exact Below.refl _ _ | refine ba ?_ _ | refine bd ?_ | refine bdn ?_ _ | refine bs ?_ (by first | omega | (simp; done) | (simp; omega)) _ | refine bt ?_ (by assumption)))⟩
                    case measure => simp [intOf]; omega
                · have q2 : (yf == zf) = false := by simpa using hfr
                  clear h0 hu hz hzc hbz hzP hsr hsr' hfr
                  go_wp2_with fail
                  refine wp_region_pure (by kernel_rfl) (by kernel_rfl) ?_
                  repeat (first | go_big_quiet_step ((fail)) | (quiet_step ((fail))))
                  refine wpQuiet_nil ?_
                  rintro w21 ⟨x21, hx21⟩
                  have hb21 := ext_below _ x21
                  rw [← hx21] at hb21
                  clear hx21 x21
                  have hs21 : w20.heap.size + 0 ≤ w21.heap.size := (by have h := hb21.size; first | omega | (simp at h; omega))
                  have hb20_21 := bel hb20 hb21 (by (repeat (first | assumption | exact Below.refl _ _ | refine ba ?_ _ | refine bd ?_ | refine bdn ?_ _ | refine bs ?_ (by first | omega | (simp; done) | (simp; omega)) _ | refine bt ?_ (by assumption))))
                  clear hc20 hf20
                  obtain ⟨hc21, hf21, hl21⟩ := bcell hb21
                  clear hl21
                  clear hg1 hg2 hg3 q1 q1d q2 wq us uN k0 k1
                  have HB21 := Lib.hid (bt HB20.out hb21)
                  have hbl21 : bs < w21.heap.size := Nat.lt_of_lt_of_le HBS.out HB21.out.size
                  have f2 := (HB20.out.cell (p := ⟨bs, _, none⟩) HBS.out).trans HD.out.2.2.1
                  have hbl20 : bs < w20.heap.size := Nat.lt_of_lt_of_le HBS.out HB20.out.size
                  have e2 := (HB21.out.cell (p := ⟨bs, _, none⟩) HBS.out).trans HD.out.2.2.1
                  by_cases hag : ya = agent
                  · have hagb : (ya == agent) = true := by simpa using hag
                    obtain ⟨hc1, hc2⟩ := (count_at (q := fun x => x.2.2.1 == agent) HY.out.2.2).1 (by show (ya == agent) = true; exact hagb)
                    rw [← HC.out] at hc1
                    rw [← HPO.out, List.getElem?_map] at hc1
                    obtain ⟨o, ho⟩ : ∃ o, lo[c2]? = some o := by
                      cases h : lo[c2]? with
                      | none => rw [h] at hc1; cases hc1
                      | some o => exact ⟨o, rfl⟩
                    rw [ho] at hc1
                    have hop : o.pl = ⟨yf, yi, ya, ys⟩ := Option.some.inj hc1
                    have hcl : c2 < mo := by rw [HMO.out]; exact (List.getElem?_eq_some_iff.1 ho).1
                    have hgf : ((mo : Int) ≤ (c2 : Int)) = False := eq_false (by omega)
                    have hgd : decide ((mo : Int) ≤ (c2 : Int)) = false := decide_eq_false (by omega)
                    obtain ⟨v1, hr1, ht1⟩ := HLO.out.one ho (q := (c2 : Int) + 1) (by simp)
                    obtain ⟨v2, hr2, ht2⟩ := HLA.out.one HY.out.1 (q := (t2 : Int) + 1) (by simp)
                    have hos : o.ps = ys := congrArg (fun p : Pk => p.2.2.2) hop
                    have HSM := Lib.hid fun z : Ext w21 => quiet_of z (sameT_yes v1 v2 [o] [⟨yf, yi, ya, yv, ys⟩] (fun x hx => by
                      rw [List.mem_singleton.1 hx, hos]; exact HY.out.2.1) (by simp only [List.map_cons, List.map_nil]; rw [hop]; rfl) (ext w21 z) (ht1.below (bt HB21.out (ext_below _ z))) (ht2.below (bt HB21.out (ext_below _ z))))
                    have HC2 := Lib.hid hc2
                    have hc9 : (c2 : Int) + 1 < 9223372036854775807 := by have := HMB.out; omega
                    clear hag hc1 hc2 ho hop ht1 ht2 hos
                    go_wp2_with fail
                    refine wp_region_pure (by kernel_rfl) (by kernel_rfl) ?_
                    repeat (first | go_big_quiet_step (((go_at_call 52; with_reducible exact HSM.out _))) | (quiet_step (((go_at_call 52; with_reducible exact HSM.out _)))))
                    refine wpQuiet_nil ?_
                    rintro w22 ⟨x22, hx22⟩
                    have hb22 := ext_below _ x22
                    rw [← hx22] at hb22
                    clear hx22 x22
                    have hs22 : w21.heap.size + 0 ≤ w22.heap.size := (by have h := hb22.size; first | omega | (simp at h; omega))
                    have hb20_22 := bel hb20_21 hb22 (by (repeat (first | assumption | exact Below.refl _ _ | refine ba ?_ _ | refine bd ?_ | refine bdn ?_ _ | refine bs ?_ (by first | omega | (simp; done) | (simp; omega)) _ | refine bt ?_ (by assumption))))
                    have hb21_22 := bel hb21 hb22 (by (repeat (first | assumption | exact Below.refl _ _ | refine ba ?_ _ | refine bd ?_ | refine bdn ?_ _ | refine bs ?_ (by first | omega | (simp; done) | (simp; omega)) _ | refine bt ?_ (by assumption))))
                    clear hc21 hf21
                    obtain ⟨hc22, hf22, hl22⟩ := bcell hb22
                    clear hl22
                    go_wp2
                    go_roundw
                    case rel => exact ⟨t2 + 1, c2 + 1, by omega, by go_num, by go_num, Lib.hid (by rw [HC.out]; exact HC2.out.symm), by (repeat (first | assumption | exact Below.refl _ _ | refine ba ?_ _ | refine bd ?_ | refine bdn ?_ _ | refine bs ?_ (by first | omega | (simp; done) | (simp; omega)) _ | refine bt ?_ (by assumption)))⟩
                    case measure => simp [intOf]; omega
                  · have hagb : (ya == agent) = false := by simpa using hag
                    have hc2 := (count_at (q := fun x => x.2.2.1 == agent) HY.out.2.2).2 (by show (ya == agent) = false; exact hagb)
                    have HC2 := Lib.hid hc2
                    clear hag hc2
                    go_wp2
                    go_roundw
                    case rel => exact ⟨t2 + 1, c2, by omega, by go_num, rfl, Lib.hid (by rw [HC.out]; exact HC2.out.symm), by (repeat (first | assumption | exact Below.refl _ _ | refine ba ?_ _ | refine bd ?_ | refine bdn ?_ _ | refine bs ?_ (by first | omega | (simp; done) | (simp; omega)) _ | refine bt ?_ (by assumption)))⟩
                    case measure => simp [intOf]; omega
            · obtain rfl : m = t2 := by omega
              have hcq : c2 = mo := by rw [HC.out, HMOP.out, HMP.out, List.take_length]
              have hcb : ((c2 : Int) == (mo : Int)) = true := by simp [hcq]
              have hmc : ((m : Int) ≤ cap) = True := eq_true (by have := HQ.out.2.2.2; have := HMP.out; omega)
              have hmcd : decide ((m : Int) ≤ cap) = true := decide_eq_true (by have := HQ.out.2.2.2; have := HMP.out; omega)
              have HLG := Lib.hid (vlong (HT6.out.below HB20.out))
              have HCQ := Lib.hid hcq
              rw [← HMP.out] at HLG
              clear hcq
              go_wp2_with fail
              refine HLG.out.mono ?_
              rintro e w21 ⟨rfl, rfl⟩
              go_wp2_with fail
              refine (works25 _).mono ?_
              rintro e w22 ⟨rfl, hb22⟩
              have HB22 := Lib.hid (HB6.out.trans ((bt HB20.out hb22).mono HB6.out.size))
              clear hb22
              go_wp2
              go_ret
              exact ⟨rfl, HB22.out⟩
  · have hFF : decide (l.length ≤ 100 ∧ (l.map taW).sum ≤ 400) = false := decide_eq_false hfew
    go_enter Try.func11, Try.ntmps11
    go_wp2_with fail
    refine HF.out.mono ?_
    rintro e w1 ⟨rfl, rfl⟩
    rw [hFF]
    clear hfew
    go_wp2
    go_ret
    exact ⟨rfl, Below.refl _ _⟩
end Go.Proofs.Ytnckjacbkhoppaa

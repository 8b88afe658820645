/- life: Running at any few events. -/
import Derived.Test.YtennhfkhdfalfaaLgA
namespace Go.Proofs.Ytennhfkhdfalfaa
open Go.RowKit Go.Maps
attribute [local go_sem] ext_cell ext_frozen extC_cell extC_frozen Mix.calmUpon Mix.mUpon
def kenc (x : K2) : List Value := [.int .i64 x.a, .int .i64 x.b]
theorem kenc_len (x : K2) : (kenc x).length = 2 := rfl
instance : Inhabited K2 := ⟨⟨0, 0⟩⟩
def runL : List Ev → List K2
  | [] => []
  | e :: t => if e.kind = 13 ∧ endedB t e.frame e.id = false then ekey e :: runL t else runL t
theorem runL_cons {l : List Ev} {t : Nat} {x : Ev} (h : l[t]? = some x) : runL (l.drop t) = if x.kind = 13 ∧ endedB (l.drop (t + 1)) x.frame x.id = false then ekey x :: runL (l.drop (t + 1)) else runL (l.drop (t + 1)) := by
  obtain ⟨hi, rfl⟩ := List.getElem?_eq_some_iff.1 h
  rw [List.drop_eq_getElem_cons hi]; rfl
theorem runL_len : ∀ (l : List Ev), (runL l).length ≤ l.length
  | [] => Nat.le_refl _
  | e :: t => by
    unfold runL
    have := runL_len t
    split <;> simp only [List.length_cons] <;> omega
theorem infoK2 : (Try.prog.info? 109).map (fun i => (i.zero, i.size, i.bytes)) = some (some (.agg #[.int .i64 0, .int .i64 0]), 2, 16) := by kernel_rfl
theorem own_appK {w : World} {base : Nat} {v : Value} {l : List K2} {b : Nat} (h : OwnL 109 2 kenc w base v l) (x : K2) (hx : PB w b x) (hl : l.length < 1000000) (hb : base ≤ w.heap.size) :
    ∃ v' w', (Builtin.append_ #[100, 100] 100 #[v, .slice (some ⟨b, 0, none⟩) 1 1]).run Try.prog w = .ok v' w' ∧ OwnL 109 2 kenc w' base v' (l ++ [x]) ∧ w.grownBy w' v.ownBlock ∧ (v'.ownBlock = v.ownBlock ∨ v'.ownBlock = some w.heap.size) := by
  obtain ⟨i0, hi, hz0, hz1, hz2⟩ := info_parts infoK2
  obtain ⟨x0, x1⟩ := hx.cells
  exact OwnL.app h Try.underlying100 hi hz0 hz1 hz2 rfl (by decide) kenc_len x (fun j u hj => by
      rcases j with _ | _ | j <;> simp [kenc] at hj
      · subst hj; exact x0
      · subst hj; exact x1) (fun u hu => by simp [kenc] at hu; rcases hu with rfl | rfl <;> rfl) (by omega) (by unfold maxLen; omega) hb
theorem revK_any {w : World} {base : Nat} {v : Value} {l : List K2} (h : OwnL 109 2 kenc w base v l) (hl : l.length ≤ 9223372036854775807) :
    Calls Try.prog 99 #[v] w fun e w' => e = .returned (.tuple #[]) ∧ RS 2 kenc w' v l.reverse ∧ Chg (fun b => v.ownBlock = some b) w w' := by
  have aE : ∀ w, (isAgg 109).run Try.prog w = .ok true w := Try.isAgg109
  have zE : ∀ w, (Go.sizeOf 109).run Try.prog w = .ok 2 w := Try.sizeOf109
  refine rev_own kenc_len h hl (fun blk cap d hH hs => ?_) (fun a cap => ?_)
  · have := Go.Proofs.AnyQ.slices_Reverse Lb.Try.revA 2 aE zE kenc kenc_len (fun x v hv => by simp [kenc] at hv; rcases hv with rfl | rfl <;> rfl) blk 0 cap d w hH hs
    exact this
  · exact Go.Proofs.AnyQ.slices_Reverse_empty Lb.Try.revA a cap w
theorem makeS (w : World) : (Instr.makeMap 149 none).run Try.prog w = .ok (.map (some w.heap.size)) (w.alloc (.map #[] 0)) := by kernel_rfl
abbrev unitV (_ : Unit) : Value := .agg #[]
theorem setS_store {w : World} {M : Nat} {f : K2 → Option Unit} (h : MapF KP w M f unitV) {k : K2} (hk : I64 k.a ∧ I64 k.b) :
    ∃ w', (Instr.mapUpdate 149 (.map (some M)) (pval k) (.agg #[])).run Try.prog w = .ok () w' ∧ MapF KP w' M (upd f k (some ())) unitV ∧ Chg (fun k => k = M) w w' :=
  h.store keyP Try.underlying149 (x := k) hk ()
theorem setS_look {w : World} {M : Nat} {f : K2 → Option Unit} (h : MapF KP w M f unitV) {k : K2} (hk : I64 k.a ∧ I64 k.b) :
    (Instr.lookup 149 (.map (some M)) (pval k) true).run Try.prog w = .ok (.tuple #[.agg #[], .bool (f k).isSome]) w := by
  have hz : (zeroValue 150).run Try.prog w = .ok (.agg #[]) w := Try.zeroValue150 w
  have := h.look keyP Try.underlying149 hz (x := k) hk true
  rw [show ((f k).map unitV).getD (.agg #[]) = .agg #[] by cases f k <;> rfl] at this
  exact this
def enF (l : List Ev) (k : K2) : Option Unit := if endedB l k.a k.b = true then some () else none
theorem enF_some (l : List Ev) (k : K2) : (enF l k).isSome = endedB l k.a k.b := by unfold enF; cases endedB l k.a k.b <;> rfl
/-- Where Running stands. -/
structure RuS (W wr : World) (M : Nat) (l : List Ev) (t : Nat) (ov : Value) : Prop where
  map : MapF KP wr M (enF (l.drop t)) unitV
  own : OwnL 109 2 kenc wr W.heap.size ov (runL (l.drop t)).reverse
  ob : ∀ b, ov.ownBlock = some b → b ≠ M
  bel : Below W.heap.size W wr
  mn : W.heap.size ≤ M
theorem RuS.below {W wr w' : World} {M t : Nat} {l : List Ev} {ov : Value} (h : RuS W wr M l t ov) (hb : Below wr.heap.size wr w') : RuS W w' M l t ov :=
  ⟨h.map.chg (.of_below (fun _ => False) hb) id, h.own.below hb, h.ob, bt h.bel hb, h.mn⟩
theorem PB.set2 {w : World} {b : Nat} {x : K2} (h : PB w b x) (y : K2) : PB ((w.setCell ⟨b, 0, none⟩ (.int .i64 y.a)).setCell ⟨b, 1, none⟩ (.int .i64 y.b)) b y := heap_setCell_at _ (heap_setCell_at _ h)
theorem PB.fz {w : World} {b : Nat} {x : K2} (h : PB w b x) (o : Nat) : w.frozen? ⟨b, o, none⟩ = false := by unfold PB at h; simp [World.frozen?, h]
set_option maxRecDepth 100000 in
set_option maxHeartbeats 8000000 in
theorem running_any (v : Value) (l : List Ev) (W : World) (hr : RS 5 evenc W v l) (hI : ∀ x ∈ l, EIn W x) (hl : l.length ≤ 300) :
    Calls Try.prog 51 #[v] W fun e w' => ∃ u, e = .returned u ∧ RS 2 kenc w' u (runL l) ∧ Below W.heap.size W w' := by
  obtain ⟨a, n, cap, rfl, hn, hc, hm, hat⟩ := hr.at_
  have HAT := Lib.hid hat; have HI := Lib.hid hI; have HN := Lib.hid hn
  have hn3 : n ≤ 300 := by omega
  clear hr hat hI hn hm hl
  have hmA := makeS
  have hw1 : IntKind.i64.wrap ((n : Int) - 1) = (n : Int) - 1 := IntWalk.i64_in _ (by omega)
  have hS := Lib.hid (show RuS W (W.alloc (.map #[] 0)) W.heap.size l n (.slice none 0 0) from ⟨by
      rw [HN.out, List.drop_length]; exact MapF.made W, by
      rw [HN.out, List.drop_length]; exact OwnL.nil _ _ _ _ _, (fun b hb => by cases hb), ba (Below.refl _ _) _, Nat.le_refl _⟩)
  go_enter Try.func51, Try.ntmps51
  go_wp2
  generalize W.alloc (.map #[] 0) = w1 at *
  obtain ⟨M, hM⟩ : ∃ M, M = W.heap.size := ⟨_, rfl⟩
  have HMQ := Lib.hid hM
  rw [← hM]
  have HI0 : Hid (RuS W w1 M l n (.slice none 0 0)) := Lib.hid (by rw [hM]; exact hS.out)
  clear hM hS hmA hw1
  go_loopw [3, 5] (fun ov iv wr => ∃ (t : Nat), t ≤ n ∧ iv = .int .i64 ((t : Int) - 1) ∧ Hid (RuS W wr M l t ov)) (fun ov iv _ => (intOf iv + 1).toNat)
  case atStart => exact ⟨n, Nat.le_refl _, rfl, HI0⟩
  case round =>
    clear HI0
    obtain ⟨t', ht, rfl, HQ⟩ := hrel
    obtain ⟨w4, rfl⟩ : ∃ w4, w4 = wr := ⟨_, rfl⟩
    cases t' with
    | zero =>
      have hd : decide ((0 : Int) ≤ ((0 : Nat) : Int) - 1) = false := decide_eq_false (by omega)
      have hR := revK_any HQ.out.own (by rw [List.length_reverse]; have := runL_len (l.drop 0); rw [List.drop_zero] at *; have := HN.out; omega)
      rw [List.reverse_reverse, List.drop_zero] at hR
      have HR := Lib.hid hR
      clear hR
      go_wp2_with fail
      refine HR.out.mono ?_
      rintro e w5 ⟨rfl, hr5, hc5⟩
      have HR5 := Lib.hid hr5
      have HB5 := Lib.hid (HQ.out.bel.trans (hc5.below HQ.out.bel.size fun b hb => (HQ.out.own.lt b hb).1))
      clear hr5 hc5
      go_wp2
      go_ret
      exact ⟨_, rfl, HR5.out, HB5.out⟩
    | succ t =>
      have hd : decide ((0 : Int) ≤ (t : Int)) = true := decide_eq_true (by omega)
      rw [show ((t + 1 : Nat) : Int) - 1 = (t : Int) by omega]
      have hts : (t : Int) < (n : Int) := by omega
      obtain ⟨x, hx⟩ := at_lt (l := l) (i := t) (by rw [← HN.out]; omega)
      obtain ⟨b, off, rfl, hb, hcell⟩ := HAT.out t x hx
      have hbw := HQ.out.bel
      have c0 := (hbw.cell (p := ⟨b, off + t * 5 + 0, none⟩) hb).trans (hcell 0 _ rfl)
      have c1 := (hbw.cell (p := ⟨b, off + t * 5 + 1, none⟩) hb).trans (hcell 1 _ rfl)
      have c2 := (hbw.cell (p := ⟨b, off + t * 5 + 2, none⟩) hb).trans (hcell 2 _ rfl)
      simp only [Nat.add_zero] at c0
      have hbl : b < w4.heap.size := Nat.lt_of_lt_of_le hb hbw.size
      have HC0 := Lib.hid (show W.cell? ⟨b, off + t * 5, none⟩ = some (.int .i64 x.kind) from hcell 0 _ rfl)
      have HBW := Lib.hid hb
      have HE := Lib.hid (HI.out x (mem_at hx))
      have HF := Lib.hid (fun f k => endedB_cons hx f k)
      have HL := Lib.hid (runL_cons hx)
      have hw1 : IntKind.i64.wrap ((t : Int) - 1) = (t : Int) - 1 := IntWalk.i64_in _ (by omega)
      have HEF := Lib.hid HE.out.fr; have HEI := Lib.hid HE.out.id
      clear HE
      rw [show ekey x = ⟨x.frame, x.id⟩ from rfl] at HL
      generalize x.kind = k at *
      generalize x.frame = f at *
      generalize x.id = i at *
      clear hcell hx hbw hb
      go_wp2
      refine Mix.regionC (fun _ => False) (by kernel_rfl) ?_
      intro w5 hb5
      refine Mix.take_exC _ _ 0 rfl (by kernel_rfl) (by kernel_rfl) (by kernel_rfl) (by kernel_rfl) (fun K hK => ?_)
      go_simp
      first | (refine hK _ ?_; clear hK K) | (apply Exists.intro; refine ⟨fun x => ?_, hK _ ?_⟩; (fail); clear hK K)
      refine Mix.take_exC _ _ 1 rfl (by kernel_rfl) (by kernel_rfl) (by kernel_rfl) (by kernel_rfl) (fun K hK => ?_)
      go_simp
      first | (refine hK _ ?_; clear hK K) | (apply Exists.intro; refine ⟨fun x => ?_, hK _ ?_⟩; (fail); clear hK K)
      refine Mix.take_exC _ _ 2 rfl (by kernel_rfl) (by kernel_rfl) (by kernel_rfl) (by kernel_rfl) (fun K hK => ?_)
      go_simp
      first | (refine hK _ ?_; clear hK K) | (apply Exists.intro; refine ⟨fun x => ?_, hK _ ?_⟩; (fail); clear hK K)
      refine Mix.take_exC _ _ 3 rfl (by kernel_rfl) (by kernel_rfl) (by kernel_rfl) (by kernel_rfl) (fun K hK => ?_)
      go_simp
      first | (refine hK _ ?_; clear hK K) | (apply Exists.intro; refine ⟨fun x => ?_, hK _ ?_⟩; (fail); clear hK K)
      refine Mix.take_exC _ _ 4 rfl (by kernel_rfl) (by kernel_rfl) (by kernel_rfl) (by kernel_rfl) (fun K hK => ?_)
      go_simp
      first | (refine hK _ ?_; clear hK K) | (apply Exists.intro; refine ⟨fun x => ?_, hK _ ?_⟩; (fail); clear hK K)
      refine Mix.take_exC _ _ 5 rfl (by kernel_rfl) (by kernel_rfl) (by kernel_rfl) (by kernel_rfl) (fun K hK => ?_)
      go_simp
      first | (refine hK _ ?_; clear hK K) | (apply Exists.intro; refine ⟨fun x => ?_, hK _ ?_⟩; (fail); clear hK K)
      refine Mix.take_exC _ _ 6 rfl (by kernel_rfl) (by kernel_rfl) (by kernel_rfl) (by kernel_rfl) (fun K hK => ?_)
      go_simp
      first | (refine hK _ ?_; clear hK K) | (apply Exists.intro; refine ⟨fun x => ?_, hK _ ?_⟩; (fail); clear hK K)
      refine Mix.take_exC _ _ 7 rfl (by kernel_rfl) (by kernel_rfl) (by kernel_rfl) (by kernel_rfl) (fun K hK => ?_)
      go_simp
      first | (refine hK _ ?_; clear hK K) | (apply Exists.intro; refine ⟨fun x => ?_, hK _ ?_⟩; (fail); clear hK K)
      refine Mix.take_exC _ _ 8 rfl (by kernel_rfl) (by kernel_rfl) (by kernel_rfl) (by kernel_rfl) (fun K hK => ?_)
      go_simp
      first | (refine hK _ ?_; clear hK K) | (apply Exists.intro; refine ⟨fun x => ?_, hK _ ?_⟩; (fail); clear hK K)
      refine Mix.take_exC _ _ 9 rfl (by kernel_rfl) (by kernel_rfl) (by kernel_rfl) (by kernel_rfl) (fun K hK => ?_)
      go_simp
      first | (refine hK _ ?_; clear hK K) | (apply Exists.intro; refine ⟨fun x => ?_, hK _ ?_⟩; (fail); clear hK K)
      refine Mix.take_exC _ _ 10 rfl (by kernel_rfl) (by kernel_rfl) (by kernel_rfl) (by kernel_rfl) (fun K hK => ?_)
      go_simp
      first | (refine hK _ ?_; clear hK K) | (apply Exists.intro; refine ⟨fun x => ?_, hK _ ?_⟩; (fail); clear hK K)
      refine Mix.all (rs := [11]) (by kernel_rfl) (by simp) (.of_below _ hb5) ?_
      intro i6 hi6 w6 hb6 hC6
      simp only [List.mem_cons, List.not_mem_nil, or_false] at hi6
      subst hi6
      have HB6 := Lib.hid (bt hb5 hb6)
      clear hC6 hb5 hb6
      refine Mix.op rfl (by kernel_rfl) ?_
      go_simp
      have hz6 := PB.made w6 ⟨0, 0⟩
      have hb67 := ba HB6.out (.cells #[.int .i64 0, .int .i64 0] 109)
      generalize w6.alloc (.cells #[.int .i64 0, .int .i64 0] 109) = w7 at *
      obtain ⟨b6, hb6q⟩ : ∃ b6, b6 = w6.heap.size := ⟨_, rfl⟩
      rw [← hb6q] at hz6 ⊢
      have HG6 := Lib.hid (show w4.heap.size ≤ b6 by rw [hb6q]; exact HB6.out.size)
      have HZ7 := Lib.hid hz6; have HB7 := Lib.hid hb67
      clear hz6 hb67 hb6q
      refine Mix.all (rs := [12]) (by kernel_rfl) (by simp) (.of_below _ HB7.out) ?_
      intro i8 hi8 w8 hb8 hC8
      simp only [List.mem_cons, List.not_mem_nil, or_false] at hi8
      subst hi8
      have HB8 := Lib.hid (bt HB7.out hb8)
      have hz8 := HZ7.out.below hb8
      clear hC8 hb8
      obtain ⟨m0, m1⟩ := hz8.cells
      have o0 := hz8.fz 0; have o1 := hz8.fz 1
      have m4 := hz8.lt
      have HST := Lib.hid (show Chg (fun k => k = b6) w8 ((w8.setCell ⟨b6, 0, none⟩ (.int .i64 f)).setCell ⟨b6, 1, none⟩ (.int .i64 i)) from ((Chg.refl (fun k => k = b6) w8).setCell (p := ⟨b6, 0, none⟩) (.inl rfl) _).setCell (p := ⟨b6, 1, none⟩) (.inl rfl) _)
      have HK9 := Lib.hid (hz8.set2 ⟨f, i⟩)
      clear hz8
      refine Mix.op rfl (by kernel_rfl) ?_
      go_simp
      clear m0 m1 m4 o0 o1
      generalize (w8.setCell ⟨b6, 0, none⟩ (.int .i64 f)).setCell ⟨b6, 1, none⟩ (.int .i64 i) = w9 at *
      have HB9 := Lib.hid (show Below w4.heap.size w4 w9 from HB8.out.trans (HST.out.below HB8.out.size fun k e => by have e : k = b6 := e; have := HG6.out; omega))
      refine Mix.done (by kernel_rfl) (.of_below _ HB9.out) ?_
      intro w10 hb10
      have HB10 := Lib.hid (bt HB9.out hb10)
      have HK10 := Lib.hid (HK9.out.below hb10)
      have HQ10 := Lib.hid (HQ.out.below HB10.out)
      have HNM := Lib.hid (show ¬ b6 = M by have := HQ.out.map.lt; have := HG6.out; omega)
      have c0 := (HB10.out.cell (p := ⟨b, off + t * 5, none⟩) hbl).trans c0
      have hbl := Nat.lt_of_lt_of_le hbl HB10.out.size
      clear hb10 HB9 HST HB8 HZ7 HB7 HK9 c1 c2
      go_wp2_with fail
      refine (ends_any k _).mono ?_
      rintro e w0 ⟨rfl, hw0⟩
      rw [hw0]
      clear hw0 w0
      obtain ⟨k0, k1⟩ := HK10.out.cells
      have kl := HK10.out.lt
      have hlm := HQ10.out.map.lt
      simp only at k0 k1
      cases hek : endK k with
      | true =>
        have k13 : ¬ k = 13 := by have := of_decide_eq_true hek; omega
        have kb13 : (k == 13) = false := by simpa using k13
        obtain ⟨w11, hst, hm11, hc11⟩ := setS_store HQ10.out.map (k := ⟨f, i⟩) ⟨HEF.out, HEI.out⟩
        have la := setS_look hm11 (k := ⟨f, i⟩) ⟨HEF.out, HEI.out⟩
        rw [show (upd (enF (l.drop (t + 1))) ⟨f, i⟩ (some ()) ⟨f, i⟩).isSome = true by unfold upd; rw [if_pos rfl]; rfl] at la
        simp only [pval] at hst la
        have hB11 := hc11.below HQ10.out.bel.size fun k e => by rw [e]; exact HQ10.out.mn
        have HBW11 := Lib.hid (HQ10.out.bel.trans hB11)
        have hk11 := HK10.out.chg hc11 HNM.out
        obtain ⟨g0, g1⟩ := hk11.cells
        have gl := hk11.lt
        have hlm11 := hm11.lt
        simp only at g0 g1
        have c11 := (HBW11.out.cell (p := ⟨b, off + t * 5, none⟩) HBW.out).trans HC0.out
        have hbl11 := Nat.lt_of_lt_of_le HBW.out HBW11.out.size
        have HQ7 := Lib.hid (show RuS W w11 M l t u3 from ⟨by
          have hf : upd (enF (l.drop (t + 1))) ⟨f, i⟩ (some ()) = enF (l.drop t) := by
            funext key
            unfold upd enF
            rw [HF.out key.a key.b, hek, Bool.true_and]
            by_cases hk : key = ⟨f, i⟩
            · rw [if_pos hk, hk]; simp
            · rw [if_neg hk]
              have : (decide (i = key.b) && decide (f = key.a)) = false := by
                rw [Bool.eq_false_iff]
                intro h
                have h := Bool.and_eq_true_iff.1 h
                apply hk
                obtain ⟨ka, kb⟩ := key
                have h1 := of_decide_eq_true h.1; have h2 := of_decide_eq_true h.2
                simp only at h1 h2
                rw [h1, h2]
              rw [this, Bool.false_or]
          rw [← hf]; exact hm11, by
          rw [HL.out, if_neg fun h => k13 h.1]
          exact HQ10.out.own.chg hc11 HQ10.out.ob, HQ10.out.ob, HBW11.out, HQ10.out.mn⟩)
        have HQ8 := Lib.hid (HQ7.out.below (ba (Below.refl w11.heap.size w11) (.cells #[] 150)))
        clear hm11 hc11 hB11 hk11 hek
        go_wp2
        go_roundw
        case rel => exact ⟨t, by omega, by go_num, HQ8⟩
        case measure => simp [intOf]
      | false =>
        have HMP := Lib.hid (show MapF KP w10 M (enF (l.drop t)) unitV by
          have hf : enF (l.drop (t + 1)) = enF (l.drop t) := by
            funext key
            unfold enF
            rw [HF.out key.a key.b, hek, Bool.false_and, Bool.false_or]
          rw [← hf]; exact HQ10.out.map)
        have la := setS_look HQ10.out.map (k := ⟨f, i⟩) ⟨HEF.out, HEI.out⟩
        rw [enF_some] at la
        simp only [pval] at la
        have HEK := Lib.hid hek
        clear hek
        by_cases k13 : k = 13
        · subst k13
          obtain ⟨ov, hov⟩ : ∃ ov, ov = endedB (l.drop (t + 1)) f i := ⟨_, rfl⟩
          rw [← hov] at la
          have HOV := Lib.hid hov
          clear hov
          cases ov with
          | true =>
            have HQ7 := Lib.hid (show RuS W w10 M l t u3 from ⟨HMP.out, by
              rw [HL.out, if_neg fun h => by have h := h.2; rw [← HOV.out] at h; cases h]
              exact HQ10.out.own, HQ10.out.ob, HQ10.out.bel, HQ10.out.mn⟩)
            have HQ8 := Lib.hid (HQ7.out.below (ba (Below.refl w10.heap.size w10) (.cells #[] 150)))
            go_wp2
            go_roundw
            case rel => exact ⟨t, by omega, by go_num, HQ8⟩
            case measure => simp [intOf]
          | false =>
            have hba1 := ba (Below.refl w10.heap.size w10) (.cells #[] 150)
            have hba2 := ba (Below.refl (w10.alloc (.cells #[] 150)).heap.size _) (.cells #[.int .i64 f, .int .i64 i] 109)
            have HQ8 := Lib.hid ((HQ10.out.below hba1).below hba2)
            have hp8 := PB.made (w10.alloc (.cells #[] 150)) ⟨f, i⟩
            rw [show (w10.alloc (.cells #[] 150)).heap.size = w10.heap.size + 1 by simp] at hp8
            have HP8 := Lib.hid (show PB ((w10.alloc (.cells #[] 150)).alloc (.cells #[.int .i64 f, .int .i64 i] 109)) (w10.heap.size + 1) ⟨f, i⟩ from hp8)
            have HM8 := Lib.hid (HMP.out.chg (.of_below (fun _ => False) (bt hba1 hba2)) id)
            clear hba1 hba2 hp8
            have HLV := Lib.hid (show runL (l.drop t) = ⟨f, i⟩ :: runL (l.drop (t + 1)) by rw [HL.out, if_pos ⟨rfl, HOV.out.symm⟩])
            have HLEN := Lib.hid (show (runL (l.drop (t + 1))).reverse.length < 1000000 by
              rw [List.length_reverse]
              have := runL_len (l.drop (t + 1))
              rw [List.length_drop] at this
              have := HN.out; omega)
            go_wp2_with (at_builtin; (generalize (w10.alloc (.cells #[] 150)).alloc (.cells #[.int .i64 f, .int .i64 i] 109) = w12 at *; obtain ⟨v2, wA, hra, hoA, hgA, hvA⟩ := own_appK HQ8.out.own ⟨f, i⟩ HP8.out HLEN.out HQ8.out.bel.size; refine wpList_app_run rfl _ _ _ rfl rfl rfl hra ?_; have HAPP := Lib.hid (And.intro hoA (And.intro hgA hvA)); clear hra hoA hgA hvA))
            obtain ⟨hoA, hgA, hvA⟩ := HAPP.out
            have hcgA : Chg (fun k => u3.ownBlock = some k) w12 wA := .of_grown hgA fun k e => e
            have HQ9 := Lib.hid (show RuS W wA M l t v2 from ⟨HM8.out.chg hcgA (fun e => HQ8.out.ob _ e rfl), by
              rw [HLV.out, List.reverse_cons]
              exact hoA, (fun k hk e => by
                rcases hvA with h' | h'
                · rw [h'] at hk; exact HQ8.out.ob k hk e
                · rw [h'] at hk; cases hk
                  have := HQ8.out.map.lt
                  omega), HQ8.out.bel.trans (hcgA.below HQ8.out.bel.size fun k hk => (HQ8.out.own.lt k hk).1), HQ8.out.mn⟩)
            clear hoA hgA hvA hcgA
            go_roundw
            case rel => exact ⟨t, by omega, by go_num, HQ9⟩
            case measure => simp [intOf]
        · have kb13 : (k == 13) = false := by simpa using k13
          have HQ7 := Lib.hid (show RuS W w10 M l t u3 from ⟨HMP.out, by
            rw [HL.out, if_neg fun h => k13 h.1]
            exact HQ10.out.own, HQ10.out.ob, HQ10.out.bel, HQ10.out.mn⟩)
          have HQ8 := Lib.hid (HQ7.out.below (ba (Below.refl w10.heap.size w10) (.cells #[] 150)))
          generalize endedB (l.drop (t + 1)) f i = ov at *
          go_wp2
          go_roundw
          case rel => exact ⟨t, by omega, by go_num, HQ8⟩
          case measure => simp [intOf]
end Go.Proofs.Ytennhfkhdfalfaa

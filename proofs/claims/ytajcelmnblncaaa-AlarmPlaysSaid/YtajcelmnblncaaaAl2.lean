/- alarm: Set. -/
import Derived.Test.YtajcelmnblncaaaAl1
namespace Go.Proofs.Ytajcelmnblncaaa
open Go.RowKit Go.Maps Go.WideMaps
open Go.ChangeMaps (setBlock)
attribute [local go_sem] ext_cell ext_frozen extC_cell extC_frozen Mix.calmUpon Mix.mUpon
section
variable {w w' : World} {ap hp Mn Mk : Nat} {last : Int} {Ln : List (Ky × Value)} {Lk : List (Int × Value)} {F F' : Nat → Prop} {l : List It} {s s' : Int} {R : List Rc} {G : Nat → Prop} {c : Nat}
theorem AO.fresh (h : AO w ap hp Mn Mk last Ln Lk F l s R) : fN R (last + 1) = none := Srt.fnd_none.2 fun p hp e => by have := (h.rng p hp).2.1; omega
theorem AO.set_new (h : AO w ap hp Mn Mk last Ln Lk F l s R) {k : Ky} {at_ : Int} (hk : fK R k = none) (hko : KOk k) (hat : J64 at_) (hl0 : 0 ≤ last)
    (obj : w'.heap[ap]? = some (.cells #[ptr hp, .map (some Mn), .map (some Mk), .int .i64 (last + 1)] 99 (0, 0))) (nm : MapK K3 w' Mn (mput Ln k (.int .i64 (last + 1)))) (km : MapK K64 w' Mk (mput Lk (last + 1) (kval k)))
    (hl : HL w' hp F' (lput l (last + 1, at_)) s') (nf : ¬ F' ap ∧ ¬ F' Mn ∧ ¬ F' Mk) :
    AO w' ap hp Mn Mk (last + 1) (mput Ln k (.int .i64 (last + 1))) (mput Lk (last + 1) (kval k)) F' (lput l (last + 1, at_)) s' (pR R ⟨k, last + 1, at_⟩) := by
  have hn := h.fresh
  have hlo : Lof l (last + 1) = none := by rw [h.lo, hn]; rfl
  refine ⟨obj, nm, km, hl, fun k' => ?_, fun n => ?_, fun n => ?_, ?_, h.ri.new (x := ⟨k, last + 1, at_⟩) hk hn, fun x hx => ?_, h.ds, nf⟩
  · have e1 : lkK (mput Ln k (.int .i64 (last + 1))) k' = if k' = k then some (.int .i64 (last + 1)) else lkK Ln k' := look_mput Ln k k' _
    rw [e1, h.ln, show fK (pR R ⟨k, last + 1, at_⟩) k' = _ from Srt.fnd_put R ⟨k, last + 1, at_⟩ k']
    by_cases e : k' = k
    · rw [if_pos e, if_pos e.symm]; rfl
    · rw [if_neg e, if_neg fun e' => e e'.symm]
  · rw [look_mput, h.lk, RI.fn_new (x := ⟨k, last + 1, at_⟩) hk hn n]
    by_cases e : n = last + 1
    · rw [if_pos e, if_pos e.symm]; rfl
    · rw [if_neg e, if_neg fun e' => e e'.symm]
  · rw [lof_put, h.lo, RI.fn_new (x := ⟨k, last + 1, at_⟩) hk hn n]
    by_cases e : n = last + 1
    · rw [if_pos e, if_pos e.symm]; rfl
    · rw [if_neg e, if_neg fun e' => e e'.symm]
  · rw [lput_len_new (x := (last + 1, at_)) hlo, h.len]; exact (Srt.put_len_new (x := (⟨k, last + 1, at_⟩ : Rc)) hk).symm
  · rcases Srt.mem_put.1 hx with rfl | ⟨hx, _⟩
    · exact ⟨by show 1 ≤ last + 1; omega, Int.le_refl _, hko, hat⟩
    · have := h.rng x hx; exact ⟨this.1, by omega, this.2.2⟩
theorem AO.set_old (h : AO w ap hp Mn Mk last Ln Lk F l s R) {k : Ky} {at_ : Int} {y : Rc} (hk : fK R k = some y) (hat : J64 at_)
    (obj : w'.heap[ap]? = some (.cells #[ptr hp, .map (some Mn), .map (some Mk), .int .i64 last] 99 (0, 0))) (nm : MapK K3 w' Mn Ln) (km : MapK K64 w' Mk Lk)
    (hl : HL w' hp F' (lput l (y.num, at_)) s') (nf : ¬ F' ap ∧ ¬ F' Mn ∧ ¬ F' Mk) :
    AO w' ap hp Mn Mk last Ln Lk F' (lput l (y.num, at_)) s' (pR R ⟨k, y.num, at_⟩) := by
  obtain ⟨hym, hyk⟩ := Srt.fnd_mem hk
  have hfn := h.ri.fnum hym
  have hlo : Lof l y.num = some y.at_ := by rw [h.lo, hfn]; rfl
  refine ⟨obj, nm, km, hl, fun k' => ?_, fun n => ?_, fun n => ?_, ?_, h.ri.over (x := ⟨k, y.num, at_⟩) hk rfl, fun x hx => ?_, h.ds, nf⟩
  · rw [h.ln, show fK (pR R ⟨k, y.num, at_⟩) k' = _ from Srt.fnd_put R ⟨k, y.num, at_⟩ k']
    by_cases e : k = k'
    · rw [if_pos e, ← e, hk]; rfl
    · rw [if_neg e]
  · rw [h.lk, h.ri.fn_over (x := ⟨k, y.num, at_⟩) hk rfl n]
    by_cases e : y.num = n
    · rw [if_pos e, ← e, hfn, ← hyk]; rfl
    · rw [if_neg e]
  · rw [lof_put, h.lo, h.ri.fn_over (x := ⟨k, y.num, at_⟩) hk rfl n]
    by_cases e : n = y.num
    · rw [if_pos e, if_pos e.symm]; rfl
    · rw [if_neg e, if_neg fun e' => e e'.symm]
  · rw [lput_len_old h.hl.1 (x := (y.num, at_)) hlo, h.len]; exact (Srt.put_len_old h.ri.srt (x := (⟨k, y.num, at_⟩ : Rc)) hk).symm
  · rcases Srt.mem_put.1 hx with rfl | ⟨hx, _⟩
    · have := h.rng y hym; rw [hyk] at this; exact ⟨this.1, this.2.1, this.2.2.1, hat⟩
    · exact h.rng x hx
end
/-- A block that holds a key. -/
def KB (w : World) (b : Nat) (k : Ky) : Prop := w.heap[b]? = some (.cells #[.int .i64 k.1, .int .i64 k.2.1, .int .i64 k.2.2] 79 (0, 0))
theorem KB.made (w : World) (k : Ky) : KB (w.alloc (.cells #[.int .i64 k.1, .int .i64 k.2.1, .int .i64 k.2.2] 79)) w.heap.size k := heap_alloc_new w _
theorem KB.chg {F : Nat → Prop} {w w' : World} {b : Nat} {k : Ky} (h : KB w b k) (hb : Chg F w w') (hf : ¬ F b) : KB w' b k := (hb.block _ (Array.getElem?_eq_some_iff.1 h).1 hf).trans h
theorem KB.below {w w' : World} {b : Nat} {k : Ky} (h : KB w b k) (hb : Below w.heap.size w w') : KB w' b k := h.chg (.of_below (fun _ => False) hb) id
theorem KB.lt {w : World} {b : Nat} {k : Ky} (h : KB w b k) : b < w.heap.size := (Array.getElem?_eq_some_iff.1 h).1
theorem KB.cells {w : World} {b : Nat} {k : Ky} (h : KB w b k) : w.cell? ⟨b, 0, none⟩ = some (.int .i64 k.1) ∧ w.cell? ⟨b, 1, none⟩ = some (.int .i64 k.2.1) ∧ w.cell? ⟨b, 2, none⟩ = some (.int .i64 k.2.2) := by unfold KB at h; simp [World.cell?, h]
section
variable {w : World} {ap : Nat} {R : List Rc} {G : Nat → Prop} {c : Nat}
theorem lg34 {n : Nat} (h : n < 100000) : lg n ≤ 34 := lg_le h
set_option maxRecDepth 100000 in
set_option maxHeartbeats 2000000 in
theorem aset (h : AS w ap G R c) (hc : c < 79990) {k : Ky} (hk : KOk k) {at_ : Int} (hat : J64 at_) : Calls Try.prog 51 #[ptr ap, kval k, .int .i64 at_] w fun e w' => e = .returned (.bool (fK R k).isNone) ∧ ∃ n, AR w w' ap G (pR R ⟨k, n, at_⟩) (c + 1) := by
  have H := Lib.hid h
  have HB0 := Lib.hid (show Below w.heap.size w (w.alloc (.cells #[.int .i64 k.1, .int .i64 k.2.1, .int .i64 k.2.2] 79)) from ba (Below.refl _ _) _)
  have HK0 := Lib.hid (KB.made w k)
  clear h
  go_enter Try.func51, Try.ntmps51
  go_wp2_with fail
  generalize w.alloc (.cells #[.int .i64 k.1, .int .i64 k.2.1, .int .i64 k.2.2] 79) = w1 at *
  refine (amade (H.out.below HB0.out)).mono ?_
  rintro e w2 ⟨rfl, hb2⟩
  have HB2 := Lib.hid (bt HB0.out hb2)
  have HK2 := Lib.hid (HK0.out.below hb2)
  obtain ⟨x0, x1, x2⟩ := HK2.out.cells
  have hs2 := HK2.out.lt
  obtain ⟨hp, Mn, Mk, last, Ln, Lk, F, l, s, h2, hG, hbd⟩ := H.out.below HB2.out
  have HG := Lib.hid hG
  have HAP := Lib.hid (show ∀ k, AG ap Mn Mk F k → k < w.heap.size from fun k hk => H.out.lt k (by rw [hG]; exact hk))
  have c0 := h2.c0; have c1 := h2.c1
  have hl := h2.lt ap (.inl rfl)
  have H2 := Lib.hid h2
  have HD := Lib.hid hbd
  clear h2 hb2 hG hbd
  have hlook := (H2.out.below (bd (Below.refl _ _))).find hk true
  cases hf : fK R k with
  | some y =>
    rw [hf] at hlook
    replace hlook := hlook.trans (show _ = .ok (.tuple #[.int .i64 y.num, .bool true]) w2.drew from rfl)
    have hym := (Srt.fnd_mem hf).1
    have HN := Lib.hid (num64 H2.out HD.out hym)
    have HLO := Lib.hid (show Lof l y.num = some y.at_ by rw [H2.out.lo, H2.out.ri.fnum hym]; rfl)
    have HF := Lib.hid hf
    clear hym hf
    go_wp2
    go_region
    have HB3 := Lib.hid (show Below w.heap.size w w2.drew from bd HB2.out)
    have H3 := Lib.hid (H2.out.below (bd (Below.refl _ _)))
    clear x0 x1 x2 hs2 c0 c1 hl hlook
    generalize w2.drew = w3 at *
    have c0 := H3.out.c0
    have hl := H3.out.lt ap (.inl rfl)
    go_wp2_with fail
    refine (hput H3.out.hl y.num at_ HN.out hat (by have := HD.out.n1; have := H3.out.len; omega) HD.out.s0 (by have := HD.out.s1; omega)).mono ?_
    rintro e w4 ⟨rfl, F4, d, h4, c4, n4, l4⟩
    rw [show (Lof l y.num).isNone = false by rw [HLO.out]; rfl]
    have hnf := H3.out.nf
    have hlt3 := H3.out.lt
    have hF4 : ∀ q, q < w3.heap.size → ¬ F q → ¬ F4 q := fun q hq hn e => by rcases n4 q e with e | e; exact hn e; omega
    have HA := Lib.hid (H3.out.set_old HF.out hat (by rw [c4.block ap (hlt3 ap (.inl rfl)) hnf.1]; exact H3.out.obj) (H3.out.nm.chg c4 hnf.2.1) (H3.out.km.chg c4 hnf.2.2) h4 ⟨hF4 _ (hlt3 ap (.inl rfl)) hnf.1, hF4 _ (hlt3 Mn (.inr (.inl rfl))) hnf.2.1, hF4 _ (hlt3 Mk (.inr (.inr (.inl rfl)))) hnf.2.2⟩)
    have HC := Lib.hid (show Chg (AG ap Mn Mk F) w w4 from (Chg.of_below _ HB3.out).same (c4.mono fun q e => .inr (.inr (.inr e))))
    have HNW := Lib.hid (show ∀ q, AG ap Mn Mk F4 q → AG ap Mn Mk F q ∨ w.heap.size ≤ q from fun q hq => by
      rcases hq with e | e | e | e
      · exact .inl (.inl e)
      · exact .inl (.inr (.inl e))
      · exact .inl (.inr (.inr (.inl e)))
      · rcases n4 q e with e | e
        · exact .inl (.inr (.inr (.inr e)))
        · exact .inr (by have := HB3.out.size; omega))
    have HL4 := Lib.hid l4
    clear h4 c4 n4 l4 hnf hlt3 hF4
    go_wp2
    go_ret
    refine ⟨by rw [HF.out]; rfl, y.num, AG ap Mn Mk F4, ⟨hp, Mn, Mk, last, Ln, Lk, F4, _, _, HA.out, rfl, ?_⟩, by rw [HG.out]; exact HC.out, fun q hq => by rw [HG.out]; exact HNW.out q hq⟩
    have hb := HD.out
    have hle : (lput l (y.num, at_)).length = R.length := by rw [lput_len_old H3.out.hl.1 (x := (y.num, at_)) HLO.out, H3.out.len]
    have hle2 : (pR R ⟨k, y.num, at_⟩).length = R.length := Srt.put_len_old H3.out.ri.srt (x := (⟨k, y.num, at_⟩ : Rc)) HF.out
    have hd := HL4.out
    rw [hle] at hd
    have := lg34 (n := R.length) (by have := hb.n1; omega)
    exact ⟨hb.l0, by have := hb.l1; omega, by have := hb.s0; omega, by have := hb.s1; omega, by rw [hle2]; have := hb.n1; omega, by omega⟩
  | none =>
    rw [hf] at hlook
    replace hlook := hlook.trans (show _ = .ok (.tuple #[.int .i64 0, .bool false]) w2.drew from rfl)
    have HF := Lib.hid hf
    clear hf
    have c3 := H2.out.c3
    have z3 := H2.out.fz 3
    have hwr : IntKind.i64.wrap (last + 1) = last + 1 := IntWalk.i64_in _ (by have := HD.out.l0; have := HD.out.l1; omega)
    go_wp2
    go_region
    go_wp2
    have hap := HAP.out
    have hds := H2.out.ds
    have hnf := H2.out.nf
    have HC4 := Lib.hid (show Chg (fun q => q = ap) w2 (w2.setCell ⟨ap, 3, none⟩ (.int .i64 (last + 1))).drew from ((Chg.refl (fun q => q = ap) w2).setCell (p := ⟨ap, 3, none⟩) (.inl rfl) _).drew)
    have obj4 : (w2.setCell ⟨ap, 3, none⟩ (.int .i64 (last + 1))).drew.heap[ap]? = some (.cells #[ptr hp, .map (some Mn), .map (some Mk), .int .i64 (last + 1)] 99 (0, 0)) := by
      have := heap_setCell_at (o := 3) (.int .i64 (last + 1)) H2.out.obj
      rw [show (#[ptr hp, Value.map (some Mn), .map (some Mk), .int .i64 last].setIfInBounds 3 (.int .i64 (last + 1))) = #[ptr hp, .map (some Mn), .map (some Mk), .int .i64 (last + 1)] by simp] at this
      exact this
    clear x0 x1 x2 hs2 c0 c1 c3 z3 hl hlook
    generalize (w2.setCell ⟨ap, 3, none⟩ (.int .i64 (last + 1))).drew = w4 at *
    have NM4 := Lib.hid (H2.out.nm.chg HC4.out fun e => hds.1 e.symm)
    have KM4 := Lib.hid (H2.out.km.chg HC4.out fun e => hds.2.1 e.symm)
    have HL4 := Lib.hid (H2.out.hl.chg HC4.out fun q hq e => hnf.1 (by rw [← e]; exact hq))
    have HK4 := Lib.hid (HK2.out.chg HC4.out (by have := hap ap (.inl rfl); omega))
    have c1 : w4.cell? ⟨ap, 1, none⟩ = some (.map (some Mn)) := by simp [World.cell?, obj4]
    have hl : ap < w4.heap.size := (Array.getElem?_eq_some_iff.1 obj4).1
    obtain ⟨x0, x1, x2⟩ := HK4.out.cells
    have hs4 := HK4.out.lt
    have n1 : ap ≠ Mn := hds.1
    have n2 : w.heap.size ≠ Mn := by have := hap Mn (.inr (.inl rfl)); omega
    have OBJ4 := Lib.hid obj4
    clear obj4
    refine Mix.regionC (fun q => q = Mn) (by kernel_rfl) ?_
    intro w5 hb5
    refine Mix.take_exC _ _ 0 rfl (by kernel_rfl) (by kernel_rfl) (by kernel_rfl) (by kernel_rfl) (fun K hK => ?_)
    go_simp
    first | (refine hK _ ?_; clear hK K) | (apply Exists.intro; refine ⟨fun x => ?_, hK _ ?_⟩; (fail); clear hK K)
    refine Mix.take_exC _ _ 1 rfl (by kernel_rfl) (by kernel_rfl) (by kernel_rfl) (by kernel_rfl) (fun K hK => ?_)
    go_simp
    first | (refine hK _ ?_; clear hK K) | (apply Exists.intro; refine ⟨fun x => ?_, hK _ ?_⟩; (fail); clear hK K)
    refine Mix.take_exC _ _ 2 rfl (by kernel_rfl) (by kernel_rfl) (by kernel_rfl) (by kernel_rfl) (fun K hK => ?_)
    go_simp
    first | (refine hK _ ?_; clear hK K) | (apply Exists.intro; refine ⟨fun x => ?_, hK _ ?_⟩; (fail); clear hK K)
    refine Mix.take_exC _ _ 3 rfl (by kernel_rfl) (by kernel_rfl) (by kernel_rfl) (by kernel_rfl) (fun K hK => ?_)
    go_simp
    first | (refine hK _ ?_; clear hK K) | (apply Exists.intro; refine ⟨fun x => ?_, hK _ ?_⟩; (fail); clear hK K)
    refine Mix.take_exC _ _ 4 rfl (by kernel_rfl) (by kernel_rfl) (by kernel_rfl) (by kernel_rfl) (fun K hK => ?_)
    go_simp
    first | (refine hK _ ?_; clear hK K) | (apply Exists.intro; refine ⟨fun x => ?_, hK _ ?_⟩; (fail); clear hK K)
    refine Mix.take_exC _ _ 5 rfl (by kernel_rfl) (by kernel_rfl) (by kernel_rfl) (by kernel_rfl) (fun K hK => ?_)
    go_simp
    first | (refine hK _ ?_; clear hK K) | (apply Exists.intro; refine ⟨fun x => ?_, hK _ ?_⟩; (fail); clear hK K)
    refine Mix.all (rs := [6]) (by kernel_rfl) (by simp) (.of_below _ hb5) ?_
    intro i6 hi6 w6 hb6 hC6
    simp only [List.mem_cons, List.not_mem_nil, or_false] at hi6
    subst hi6
    have HB6 := Lib.hid (bt hb5 hb6)
    clear hC6 hb5 hb6
    obtain ⟨o7, hrun, nm7⟩ := (NM4.out.chg (.of_below (fun _ => False) HB6.out) id).store lawKey Try.underlying96 hk (.int .i64 (last + 1))
    replace hrun : (Instr.mapUpdate 96 (.map (some Mn)) (.agg #[.int .i64 k.1, .int .i64 k.2.1, .int .i64 k.2.2]) (.int .i64 (last + 1))).run Try.prog w6 = .ok () (setBlock w6 Mn o7) := hrun
    have HC7 := Lib.hid (show Chg (fun q => q = Mn) w4 (setBlock w6 Mn o7) from (Chg.of_below _ HB6.out).same (.of_grown (grown_setBlock w6 Mn o7) fun q e => by cases e; rfl))
    have NM7 := Lib.hid nm7
    refine Mix.op rfl (by kernel_rfl) ?_
    clear nm7
    go_simp
    generalize setBlock w6 Mn o7 = w7 at *
    refine Mix.done (by kernel_rfl) HC7.out ?_
    intro w8 hb8
    have HC8 := Lib.hid (HC7.out.then_below hb8)
    have NM8 := Lib.hid (NM7.out.below hb8 NM7.out.lt)
    have KM8 := Lib.hid (KM4.out.chg HC8.out fun e => hds.2.2 e.symm)
    have HL8 := Lib.hid (HL4.out.chg HC8.out fun q hq e => hnf.2.1 (by rw [← e]; exact hq))
    have HK8 := Lib.hid (HK4.out.chg HC8.out n2)
    have OBJ8 := Lib.hid ((HC8.out.block ap hl n1).trans OBJ4.out)
    clear hrun hb8 x0 x1 x2 hs4 c1 hl n2
    have obj8 := OBJ8.out
    have c2 : w8.cell? ⟨ap, 2, none⟩ = some (.map (some Mk)) := by simp [World.cell?, obj8]
    have hl : ap < w8.heap.size := (Array.getElem?_eq_some_iff.1 obj8).1
    obtain ⟨x0, x1, x2⟩ := HK8.out.cells
    have hs8 := HK8.out.lt
    have n2 : ap ≠ Mk := hds.2.1
    have n3 : w.heap.size ≠ Mk := by have := hap Mk (.inr (.inr (.inl rfl))); omega
    clear obj8
    go_wp2
    refine Mix.regionC (fun q => q = Mk) (by kernel_rfl) ?_
    intro w9 hb9
    refine Mix.take_exC _ _ 0 rfl (by kernel_rfl) (by kernel_rfl) (by kernel_rfl) (by kernel_rfl) (fun K hK => ?_)
    go_simp
    first | (refine hK _ ?_; clear hK K) | (apply Exists.intro; refine ⟨fun x => ?_, hK _ ?_⟩; (fail); clear hK K)
    refine Mix.take_exC _ _ 1 rfl (by kernel_rfl) (by kernel_rfl) (by kernel_rfl) (by kernel_rfl) (fun K hK => ?_)
    go_simp
    first | (refine hK _ ?_; clear hK K) | (apply Exists.intro; refine ⟨fun x => ?_, hK _ ?_⟩; (fail); clear hK K)
    refine Mix.take_exC _ _ 2 rfl (by kernel_rfl) (by kernel_rfl) (by kernel_rfl) (by kernel_rfl) (fun K hK => ?_)
    go_simp
    first | (refine hK _ ?_; clear hK K) | (apply Exists.intro; refine ⟨fun x => ?_, hK _ ?_⟩; (fail); clear hK K)
    refine Mix.take_exC _ _ 3 rfl (by kernel_rfl) (by kernel_rfl) (by kernel_rfl) (by kernel_rfl) (fun K hK => ?_)
    go_simp
    first | (refine hK _ ?_; clear hK K) | (apply Exists.intro; refine ⟨fun x => ?_, hK _ ?_⟩; (fail); clear hK K)
    refine Mix.take_exC _ _ 4 rfl (by kernel_rfl) (by kernel_rfl) (by kernel_rfl) (by kernel_rfl) (fun K hK => ?_)
    go_simp
    first | (refine hK _ ?_; clear hK K) | (apply Exists.intro; refine ⟨fun x => ?_, hK _ ?_⟩; (fail); clear hK K)
    refine Mix.take_exC _ _ 5 rfl (by kernel_rfl) (by kernel_rfl) (by kernel_rfl) (by kernel_rfl) (fun K hK => ?_)
    go_simp
    first | (refine hK _ ?_; clear hK K) | (apply Exists.intro; refine ⟨fun x => ?_, hK _ ?_⟩; (fail); clear hK K)
    refine Mix.all (rs := [6]) (by kernel_rfl) (by simp) (.of_below _ hb9) ?_
    intro i10 hi10 w10 hb10 hC10
    simp only [List.mem_cons, List.not_mem_nil, or_false] at hi10
    subst hi10
    have HB10 := Lib.hid (bt hb9 hb10)
    clear hC10 hb9 hb10
    have HN64 := Lib.hid (show J64 (last + 1) from ⟨by have := HD.out.l0; omega, by have := HD.out.l1; omega⟩)
    obtain ⟨o11, hrun, km11⟩ := (KM8.out.chg (.of_below (fun _ => False) HB10.out) id).store key64 Try.underlying97 HN64.out (kval k)
    replace hrun : (Instr.mapUpdate 97 (.map (some Mk)) (.int .i64 (last + 1)) (.agg #[.int .i64 k.1, .int .i64 k.2.1, .int .i64 k.2.2])).run Try.prog w10 = .ok () (setBlock w10 Mk o11) := hrun
    have HC11 := Lib.hid (show Chg (fun q => q = Mk) w8 (setBlock w10 Mk o11) from (Chg.of_below _ HB10.out).same (.of_grown (grown_setBlock w10 Mk o11) fun q e => by cases e; rfl))
    have KM11 := Lib.hid km11
    refine Mix.op rfl (by kernel_rfl) ?_
    clear km11
    go_simp
    generalize setBlock w10 Mk o11 = w11 at *
    refine Mix.done (by kernel_rfl) HC11.out ?_
    intro w12 hb12
    have HC12 := Lib.hid (HC11.out.then_below hb12)
    have KM12 := Lib.hid (KM11.out.below hb12 KM11.out.lt)
    have NM12 := Lib.hid (NM8.out.chg HC12.out fun e => hds.2.2 e)
    have HL12 := Lib.hid (HL8.out.chg HC12.out fun q hq e => hnf.2.2 (by rw [← e]; exact hq))
    have OBJ12 := Lib.hid ((HC12.out.block ap hl n2).trans OBJ8.out)
    clear hrun hb12 x0 x1 x2 hs8 c2 hl
    have obj12 := OBJ12.out
    have c0 : w12.cell? ⟨ap, 0, none⟩ = some (ptr hp) := by simp [World.cell?, obj12]
    have hl : ap < w12.heap.size := (Array.getElem?_eq_some_iff.1 obj12).1
    have HLN := Lib.hid (show Lof l (last + 1) = none by rw [H2.out.lo, H2.out.fresh]; rfl)
    clear obj12
    go_wp2_with fail
    refine (hput HL12.out (last + 1) at_ HN64.out hat (by have := HD.out.n1; have := H2.out.len; omega) HD.out.s0 (by have := HD.out.s1; omega)).mono ?_
    rintro e w13 ⟨rfl, F4, d, h4, c4, n4, l4⟩
    rw [show (Lof l (last + 1)).isNone = true by rw [HLN.out]; rfl]
    have h0 : Chg (AG ap Mn Mk F) w2 w12 := ((HC4.out.mono fun q e => .inl e).same (HC8.out.mono fun q e => .inr (.inl e))).same (HC12.out.mono fun q e => .inr (.inr (.inl e)))
    have hsz := h0.size
    have hb2 := HB2.out.size
    have hF4 : ∀ q, AG ap Mn Mk F q → ¬ F q → ¬ F4 q := fun q hq hn e => by rcases n4 q e with e | e; exact hn e; have := hap q hq; omega
    have HA := Lib.hid (H2.out.set_new HF.out hk hat HD.out.l0 (by rw [c4.block ap hl hnf.1]; exact OBJ12.out) (NM12.out.chg c4 hnf.2.1) (KM12.out.chg c4 hnf.2.2) h4 ⟨hF4 _ (.inl rfl) hnf.1, hF4 _ (.inr (.inl rfl)) hnf.2.1, hF4 _ (.inr (.inr (.inl rfl))) hnf.2.2⟩)
    have HC := Lib.hid (show Chg (AG ap Mn Mk F) w w13 from ((Chg.of_below _ HB2.out).same h0).same (c4.mono fun q e => .inr (.inr (.inr e))))
    have HNW := Lib.hid (show ∀ q, AG ap Mn Mk F4 q → AG ap Mn Mk F q ∨ w.heap.size ≤ q from fun q hq => by
      rcases hq with e | e | e | e
      · exact .inl (.inl e)
      · exact .inl (.inr (.inl e))
      · exact .inl (.inr (.inr (.inl e)))
      · rcases n4 q e with e | e
        · exact .inl (.inr (.inr (.inr e)))
        · exact .inr (by omega))
    have HL13 := Lib.hid l4
    clear h4 c4 n4 l4 hnf hF4 h0 hds hap n1 n2 n3
    go_wp2
    go_ret
    refine ⟨by rw [HF.out]; rfl, last + 1, AG ap Mn Mk F4, ⟨hp, Mn, Mk, last + 1, _, _, F4, _, _, HA.out, rfl, ?_⟩, by rw [HG.out]; exact HC.out, fun q hq => by rw [HG.out]; exact HNW.out q hq⟩
    have hb := HD.out
    have hle : (lput l (last + 1, at_)).length = R.length + 1 := by rw [lput_len_new (x := (last + 1, at_)) HLN.out, H2.out.len]
    have hle2 : (pR R ⟨k, last + 1, at_⟩).length = R.length + 1 := Srt.put_len_new (x := (⟨k, last + 1, at_⟩ : Rc)) HF.out
    have hd := HL13.out
    rw [hle] at hd
    have := lg34 (n := R.length + 1) (by have := hb.n1; omega)
    exact ⟨by have := hb.l0; omega, by have := hb.l1; omega, by have := hb.s0; omega, by have := hb.s1; omega, by rw [hle2]; have := hb.n1; omega, by omega⟩
end
end Go.Proofs.Ytajcelmnblncaaa

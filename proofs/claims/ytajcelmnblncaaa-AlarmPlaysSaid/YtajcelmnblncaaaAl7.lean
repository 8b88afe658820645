/- alarm: Due. -/
import Derived.Test.YtajcelmnblncaaaAl6
namespace Go.Proofs.Ytajcelmnblncaaa
open Go.RowKit Go.Maps
attribute [local go_sem] ext_cell ext_frozen extC_cell extC_frozen Mix.calmUpon Mix.mUpon
abbrev dueR (R : List Rc) (now : Int) : List Rc := R.filter fun x => decide (x.at_ ≤ now)
abbrev restR (R : List Rc) (now : Int) : List Rc := R.filter fun x => !decide (x.at_ ≤ now)
theorem ldel_tail {p : It} {r : List It} (h : SL (p :: r)) : ldel (p :: r) p.1 = r := by
  unfold ldel
  rw [List.filter_cons, if_neg (by simp)]
  exact List.filter_eq_self.2 fun q hq => by
    have := (h.head q hq).2
    simpa using fun e => this e.symm
theorem del_perm {R : List Rc} (h : RI R) {x : Rc} (hx : x ∈ R) : R.Perm (x :: dK R x.key) := by
  have nd : R.Nodup := h.srt.imp fun e h => e.2 (by rw [h])
  refine (List.perm_ext_iff_of_nodup nd (List.nodup_cons.2 ⟨fun h => (Srt.mem_del.1 h).2 rfl, nd.filter _⟩)).2 fun y => ⟨fun hy => ?_, fun hy => ?_⟩
  · by_cases e : y.key = x.key
    · have h1 := h.fkey hy
      rw [e, h.fkey hx] at h1
      injection h1 with h1
      rw [h1]; exact List.mem_cons_self
    · exact List.mem_cons_of_mem _ (Srt.mem_del.2 ⟨hy, e⟩)
  · rcases List.mem_cons.1 hy with rfl | hy
    · exact hx
    · exact (Srt.mem_del.1 hy).1
section
variable {w : World} {ap hp Mn Mk : Nat} {last : Int} {Ln : List (Ky × Value)} {Lk : List (Int × Value)} {F : Nat → Prop} {l : List It} {s : Int} {R : List Rc} {G : Nat → Prop} {c : Nat}
/-- The first of the heap's items, as an alarm. -/
theorem AO.first {p : It} {r : List It} (h : AO w ap hp Mn Mk last Ln Lk F (p :: r) s R) : ∃ x ∈ R, p = (x.num, x.at_) := by
  have h1 := h.lo p.1
  rw [h.hl.1.lof (p := p) List.mem_cons_self] at h1
  cases hf : fN R p.1 with
  | none => rw [hf] at h1; cases h1
  | some x =>
    rw [hf] at h1
    obtain ⟨a, b⟩ := Srt.fnd_mem hf
    refine ⟨x, a, ?_⟩
    simp at h1
    exact Prod.ext b.symm h1
theorem AO.item (h : AO w ap hp Mn Mk last Ln Lk F l s R) {x : Rc} (hx : x ∈ R) : (x.num, x.at_) ∈ l := by
  refine lof_mem ?_
  rw [h.lo, h.ri.fnum hx]; rfl
theorem AO.late {p : It} {r : List It} {now : Int} (h : AO w ap hp Mn Mk last Ln Lk F (p :: r) s R) (hp : ¬ p.2 ≤ now) : ∀ x ∈ R, ¬ x.at_ ≤ now := fun x hx => by
  rcases List.mem_cons.1 (h.item hx) with e | e
  · rw [← e] at hp; exact hp
  · have := (h.hl.1.head _ e).1
    unfold lt2 at this
    simp at this
    omega
theorem AO.none (h : AO w ap hp Mn Mk last Ln Lk F [] s R) : R = [] := by
  have := h.len
  exact List.eq_nil_of_length_eq_zero (by simpa using this.symm)
theorem due_of {D R' R : List Rc} {now : Int} (hR : RI R) (hR' : RI R') (hp : (D ++ R').Perm R) (hd : ∀ x ∈ D, x.at_ ≤ now) (hr : ∀ x ∈ R', ¬ x.at_ ≤ now) : D.Perm (dueR R now) ∧ R' = restR R now := by
  have h1 := hp.filter fun x => decide (x.at_ ≤ now)
  rw [List.filter_append, List.filter_eq_self.2 (fun x hx => by simpa using hd x hx), List.filter_eq_nil_iff.2 (fun x hx => by simpa using hr x hx), List.append_nil] at h1
  refine ⟨h1, Srt.In.ext ordR hR'.srt (hR.srt.filter _) fun x => ?_⟩
  have h2 := hp.filter fun x => !decide (x.at_ ≤ now)
  rw [List.filter_append, List.filter_eq_nil_iff.2 (fun x hx => by simpa using hd x hx), List.filter_eq_self.2 (fun x hx => by simpa using hr x hx), List.nil_append] at h2
  exact h2.mem_iff
/-- Where Due stands: D is taken out, R' is what is there. -/
structure DI (W wr : World) (ap hp Mn Mk : Nat) (last : Int) (F0 : Nat → Prop) (s0 : Int) (R : List Rc) (now : Int) (v : Value) (D R' : List Rc) (Ln : List (Ky × Value)) (Lk : List (Int × Value)) (F : Nat → Prop) (l : List It) (s : Int) : Prop where
  ao : AO wr ap hp Mn Mk last Ln Lk F l s R'
  own : OwnL 156 4 eenc wr W.heap.size v D
  chg : Chg (AG ap Mn Mk F0) W wr
  nw : ∀ q, F q → F0 q ∨ W.heap.size ≤ q
  perm : (D ++ R').Perm R
  le : ∀ x ∈ D, x.at_ ≤ now
  st : s0 ≤ s ∧ s ≤ s0 + 34 * D.length
  off : ∀ b, v.ownBlock = some b → ¬ AG ap Mn Mk F b
theorem findk_raw (km : MapK K64 w Mk Lk) {n : Int} (hn : J64 n) {k : Ky} (hlk : Lk.lookup n = some (kval k)) : (Instr.lookup 97 (.map (some Mk)) (.int .i64 n) false).run Try.prog w = .ok (.agg #[.int .i64 k.1, .int .i64 k.2.1, .int .i64 k.2.2]) w := by
  have hz : (zeroValue 79).run Try.prog w = .ok (kval (0, 0, 0)) w := Try.zeroValue79 w
  have := km.look key64 Try.underlying97 hz (x := n) hn false
  rw [hlk] at this
  exact this.trans (by simp)
theorem peek_any (h : HL w hp F l s) : Calls Try.prog 33 #[ptr hp] w fun e w' => ∃ k t ok, PK l k t ok ∧ e = .returned (.tuple #[.int .i64 k, .int .i64 t, .bool ok]) ∧ Below w.heap.size w w' := by
  cases l with
  | nil => exact (peek_nil h).mono fun e w' ⟨he, hb⟩ => ⟨0, 0, false, .inl ⟨rfl, rfl⟩, he, hb⟩
  | cons p r => exact (peek_cons h).mono fun e w' ⟨he, hb⟩ => ⟨p.1, p.2, true, .inr ⟨p, r, rfl, rfl, rfl, rfl⟩, he, hb⟩
set_option maxRecDepth 100000 in
set_option maxHeartbeats 4000000 in
theorem adue (h : AS w ap G R c) (hc : c + R.length ≤ 80000) (now : Int) : Calls Try.prog 52 #[ptr ap, .int .i64 now] w fun e w' => ∃ v, e = .returned v ∧ RS 3 kenc w' v ((dueR R now).map Rc.key) ∧ (∀ b, v.ownBlock = some b → w.heap.size ≤ b) ∧
    ∃ G', AS w' ap G' (restR R now) (c + R.length) ∧ Chg G w w' ∧ (∀ k, G' k → G k ∨ w.heap.size ≤ k) ∧ ∀ b, v.ownBlock = some b → ¬ G' b := by
  have H := Lib.hid h
  clear h
  go_enter Try.func52, Try.ntmps52
  go_wp2_with fail
  refine (amade H.out).mono ?_
  rintro e w1 ⟨rfl, hb1⟩
  obtain ⟨hp, Mn, Mk, last, Ln0, Lk0, F0, l0, s0, h0, hG, hbd⟩ := H.out
  have h1 := h0.below hb1
  have H0 := Lib.hid h0
  have H1 := Lib.hid h1
  have HD := Lib.hid hbd
  have HB1 := Lib.hid hb1
  have c0 := h1.c0
  have hl := h1.lt ap (.inl rfl)
  have HM0 := Lib.hid h0.lt
  have HG := Lib.hid hG
  clear h0 h1 hbd hb1 hG
  go_wp2_with fail
  refine (peek_any H1.out.hl).mono ?_
  rintro e w2 ⟨k1, t1, ok1, hpk1, rfl, hb2⟩
  have HI := Lib.hid (show DI w w2 ap hp Mn Mk last F0 s0 R now (.slice none 0 0) [] R Ln0 Lk0 F0 l0 s0 from ⟨H1.out.below hb2, OwnL.nil _ _ _ _ _, .of_below _ (bt HB1.out hb2), fun q hq => .inl hq, .refl _, fun x hx => (by cases hx), ⟨Int.le_refl _, by simp⟩, by simp [Value.ownBlock]⟩)
  have HPK := Lib.hid hpk1
  clear hb2 hpk1 c0 hl
  go_wp2
  go_loopw [5, 6, 7, 8] (fun lv kv tv ov wr => ∃ (D R' : List Rc) (Ln : List (Ky × Value)) (Lk : List (Int × Value)) (F : Nat → Prop) (l : List It) (s k t : Int) (ok : Bool), lenA lv = D.length ∧ D.length + R'.length = R.length ∧ kv = .int .i64 k ∧ tv = .int .i64 t ∧ ov = .bool ok ∧ Hid (PK l k t ok) ∧ Hid (DI w wr ap hp Mn Mk last F0 s0 R now lv D R' Ln Lk F l s)) (fun lv _ _ _ _ => R.length - lenA lv)
  case atStart => exact ⟨[], R, Ln0, Lk0, F0, l0, s0, k1, t1, ok1, rfl, by simp, rfl, rfl, rfl, HPK, HI⟩
  case round =>
    clear HI HPK
    obtain ⟨D, R', Ln, Lk, F, l, s, k, t, ok, hlv, hlen, rfl, rfl, rfl, HPK, HQ⟩ := hrel
    obtain ⟨w3, rfl⟩ : ∃ w3, w3 = wr := ⟨_, rfl⟩
    have hend : ∀ (hR' : ∀ x ∈ R', ¬ x.at_ ≤ now), Hid (Calls Try.prog 96 #[u5] w3 (RetK (fun b => u5.ownBlock = some b) w3 ((dueR R now).map Rc.key)) ∧ R' = restR R now) := fun hR' => Lib.hid (by
      obtain ⟨h1, h2⟩ := due_of H0.out.ri HQ.out.ao.ri HQ.out.perm HQ.out.le hR'
      exact ⟨einorder HQ.out.own (H0.out.ri.srt.filter _) h1 (by have := HD.out.n1; have := HD.out.c1; omega), h2⟩)
    have hfin : ∀ (w4 : World) (v4 : Value), R' = restR R now → RS 3 kenc w4 v4 ((dueR R now).map Rc.key) → (∀ b, v4.ownBlock = some b → w3.heap.size ≤ b) → Chg (fun b => u5.ownBlock = some b) w3 w4 → ∃ v, Ending.returned v4 = .returned v ∧ RS 3 kenc w4 v ((dueR R now).map Rc.key) ∧ (∀ b, v.ownBlock = some b → w.heap.size ≤ b) ∧
        ∃ G', AS w4 ap G' (restR R now) (c + R.length) ∧ Chg G w w4 ∧ (∀ k, G' k → G k ∨ w.heap.size ≤ k) ∧ ∀ b, v.ownBlock = some b → ¬ G' b := fun w4 v4 hr hrs hnw hch => by
      have hq := HQ.out
      have hsz := hq.chg.size
      refine ⟨v4, rfl, hrs, fun b hb => by have := hnw b hb; omega, AG ap Mn Mk F, ⟨hp, Mn, Mk, last, Ln, Lk, F, l, s, ?_, rfl, ?_⟩, ?_, ?_, fun b hb hG' => by have := hnw b hb; have := hq.ao.lt b hG'; omega⟩
      · rw [← hr]; exact hq.ao.chg hch fun k hk e => hq.off k e hk
      · rw [← hr]
        have hb := HD.out
        have hst := hq.st
        exact ⟨hb.l0, by have := hb.l1; omega, by have := hb.s0; omega, by have := hb.s1; omega, by have := hb.n1; omega, hc⟩
      · rw [HG.out]
        exact hq.chg.trans hch fun b hb => .inr (hq.own.lt b hb).1
      · rintro k (rfl | rfl | rfl | hk)
        · rw [HG.out]; exact .inl (.inl rfl)
        · rw [HG.out]; exact .inl (.inr (.inl rfl))
        · rw [HG.out]; exact .inl (.inr (.inr (.inl rfl)))
        · rw [HG.out]
          rcases hq.nw k hk with e | e
          · exact .inl (.inr (.inr (.inr e)))
          · exact .inr e
    have HE := Lib.hid hend; have HFI := Lib.hid hfin
    clear hend hfin
    rcases HPK.out with ⟨hl0, hok⟩ | ⟨p, r, hl0, hk, ht, hok⟩
    · subst hok
      subst hl0
      obtain ⟨hcall, hrr⟩ := (HE.out fun x hx => by rw [HQ.out.ao.none] at hx; cases hx).out
      have HCA := Lib.hid hcall
      have HRR := Lib.hid hrr
      clear hcall hrr
      go_wp2_with fail
      refine HCA.out.mono ?_
      rintro e w4 ⟨v4, rfl, hrs, hnw, hch⟩
      have HX := Lib.hid (HFI.out w4 v4 HRR.out hrs hnw hch)
      clear hrs hnw hch
      go_wp2
      go_ret
      exact HX.out
    · subst hok; subst hl0; subst hk; subst ht
      by_cases hle : p.2 ≤ now
      · obtain ⟨x, hx, rfl⟩ := HQ.out.ao.first
        dsimp only at hle
        have hdn : decide (x.at_ ≤ now) = true := decide_eq_true hle
        have HLE := Lib.hid hle
        have HX := Lib.hid hx
        have ao := HQ.out.ao
        have hlr : R'.length ≤ R.length := by omega
        have HN := Lib.hid (show J64 x.num from ⟨by have := (ao.rng x hx).1; omega, by have := (ao.rng x hx).2.1; have := HD.out.l1; have := HD.out.c1; omega⟩)
        have HK := Lib.hid (ao.rng x hx).2.2.1
        have HLK := Lib.hid (show Lk.lookup x.num = some (kval x.key) by rw [ao.lk, ao.ri.fnum hx]; rfl)
        have c0 := ao.c0
        have hl := ao.lt ap (.inl rfl)
        have HS := Lib.hid (show 0 ≤ s ∧ s ≤ 1000000000000 from ⟨by have := HQ.out.st; have := HD.out.s0; omega, by have := HQ.out.st; have := HD.out.s1; have := HD.out.c1; have := HD.out.n1; omega⟩)
        clear hle hx ao HE HFI
        go_wp2_with fail
        refine (pop_cons HQ.out.ao.hl HS.out.1 HS.out.2).mono ?_
        rintro e w4 ⟨rfl, F4, d, h4, c4, n4, l4⟩
        have hnf := HQ.out.ao.nf
        have hlt3 := HQ.out.ao.lt
        have hds := HQ.out.ao.ds
        have own4 : OwnL 156 4 eenc w4 w.heap.size u5 D := HQ.out.own.chg c4 fun b hb e => HQ.out.off b hb (.inr (.inr (.inr e)))
        have obj4 : w4.heap[ap]? = some (.cells #[ptr hp, .map (some Mn), .map (some Mk), .int .i64 last] 99 (0, 0)) := by rw [c4.block ap (hlt3 ap (.inl rfl)) hnf.1]; exact HQ.out.ao.obj
        have nm4 := HQ.out.ao.nm.chg c4 hnf.2.1
        have km4 := HQ.out.ao.km.chg c4 hnf.2.2
        have c2 : w4.cell? ⟨ap, 2, none⟩ = some (.map (some Mk)) := by simp [World.cell?, obj4]
        have hl : ap < w4.heap.size := (Array.getElem?_eq_some_iff.1 obj4).1
        have hlook := findk_raw km4 HN.out HLK.out
        have hsz3 := HQ.out.chg.size
        have hsz4 := c4.size
        have hbb : Below w4.heap.size w4 (w4.alloc (.cells #[.int .i64 x.key.1, .int .i64 x.key.2.1, .int .i64 x.key.2.2, .int .i64 x.at_] 156)) := ba (Below.refl _ _) _
        obtain ⟨v2, w6, hra, o6, g6, b6⟩ := own_appE (b := w4.heap.size) (own4.below hbb) x (EB.made w4 x) (by have := HD.out.n1; have := HD.out.c1; omega) (by simp; omega)
        have hcg : Chg (fun k => u5.ownBlock = some k) w4 w6 := (Chg.of_below _ hbb).same (.of_grown g6 fun k e => e)
        have hvF : ∀ q, AG ap Mn Mk F4 q → ¬ u5.ownBlock = some q := fun q hq e => by
          have h1 := HQ.out.own.lt q e
          have h2 := HQ.out.off q e
          rcases hq with e' | e' | e' | e'
          · exact h2 (.inl e')
          · exact h2 (.inr (.inl e'))
          · exact h2 (.inr (.inr (.inl e')))
          · rcases n4 q e' with e3 | e3
            · exact h2 (.inr (.inr (.inr e3)))
            · omega
        have HO6 := Lib.hid o6
        have HRA := Lib.hid hra
        have HH6 := Lib.hid (h4.chg hcg fun q hq => hvF q (.inr (.inr (.inr hq))))
        have HOB6 := Lib.hid ((hcg.block ap hl (hvF ap (.inl rfl))).trans obj4)
        have HNM6 := Lib.hid (nm4.chg hcg (hvF Mn (.inr (.inl rfl))))
        have HKM6 := Lib.hid (km4.chg hcg (hvF Mk (.inr (.inr (.inl rfl)))))
        have HC6 := Lib.hid (show Chg (fun q => F q ∨ u5.ownBlock = some q) w3 w6 from (c4.mono fun q e => .inl e).same (hcg.mono fun q e => .inr e))
        have HN4 := Lib.hid n4
        have HL4 := Lib.hid (show d ≤ 34 by have := lg34 (n := r.length + 1) (by have := HQ.out.ao.len; have := HD.out.n1; have := HD.out.c1; simp at *; omega); omega)
        have HV6 := Lib.hid (show ∀ q, v2.ownBlock = some q → u5.ownBlock = some q ∨ q = w4.heap.size + 1 from fun q hq => by
          rcases b6 with e | e
          · exact .inl (e ▸ hq)
          · rw [e] at hq; injection hq with hq; simp at hq; exact .inr hq.symm)
        have HS4 := Lib.hid (show w3.heap.size ≤ w4.heap.size ∧ w.heap.size ≤ w3.heap.size from ⟨hsz4, hsz3⟩)
        have HF4 := Lib.hid h4.lt
        clear h4 c4 n4 l4 own4 nm4 km4 obj4 hra o6 g6 b6 hcg hvF hbb hnf hlt3 hds hsz3 hsz4 c0
        go_wp2_with (at_builtin; refine wpList_app_run rfl _ _ _ rfl rfl rfl HRA.out ?_)
        refine (unname_raw HOB6.out HNM6.out HKM6.out HQ.out.ao.ds.1 HQ.out.ao.ds.2.1 HQ.out.ao.ds.2.2 HN.out HK.out HLK.out).mono ?_
        rintro e w7 ⟨rfl, nm7, km7, c7, -⟩
        have hq := HQ.out
        have hlt3 := hq.ao.lt
        have hds := hq.ao.ds
        have hnf := hq.ao.nf
        have hap6 := (Array.getElem?_eq_some_iff.1 HOB6.out).1
        have n4 : ∀ q, AG ap Mn Mk F q → ¬ F q → ¬ F4 q := fun q hq hn e => by
          rcases HN4.out q e with e | e
          · exact hn e
          · have := hlt3 q hq; omega
        have nap := n4 ap (.inl rfl) hnf.1
        have nMn := n4 Mn (.inr (.inl rfl)) hnf.2.1
        have nMk := n4 Mk (.inr (.inr (.inl rfl))) hnf.2.2
        have hlr' : ldel ((x.num, x.at_) :: r) x.num = r := ldel_tail (p := (x.num, x.at_)) hq.ao.hl.1
        have hdl : (dK R' x.key).length + 1 = R'.length := Srt.del_len hq.ao.ri.srt (hq.ao.ri.fkey HX.out)
        have ao7 := hq.ao.del (k := x.key) (y := x) (w' := w7) (F' := F4) (s' := s + d) (hq.ao.ri.fkey HX.out) ((c7.block ap hap6 (fun e => by rcases e with e | e; exact hds.1 e; exact hds.2.1 e)).trans HOB6.out) nm7 km7 (by rw [hlr']; exact HH6.out.chg c7 fun q hq e => by rcases e with e | e; (rw [e] at hq; exact nMn hq); (rw [e] at hq; exact nMk hq)) ⟨nap, nMn, nMk⟩
        have hvo : ∀ b, v2.ownBlock = some b → ¬ AG ap Mn Mk F4 b := fun b hb hG4 => by
          rcases HV6.out b hb with e | e
          · have h1 := hq.own.lt b e
            have h2 := hq.off b e
            rcases hG4 with e' | e' | e' | e'
            · exact h2 (.inl e')
            · exact h2 (.inr (.inl e'))
            · exact h2 (.inr (.inr (.inl e')))
            · rcases HN4.out b e' with e3 | e3
              · exact h2 (.inr (.inr (.inr e3)))
              · omega
          · have hs4 := HS4.out
            rcases hG4 with e' | e' | e' | e'
            · have := hlt3 ap (.inl rfl); omega
            · have := hlt3 Mn (.inr (.inl rfl)); omega
            · have := hlt3 Mk (.inr (.inr (.inl rfl))); omega
            · have := HF4.out b e'; omega
        have hown7 : OwnL 156 4 eenc w7 w.heap.size v2 (D ++ [x]) := HO6.out.chg c7 fun b hb e => hvo b hb (e.elim (fun e => .inr (.inl e)) fun e => .inr (.inr (.inl e)))
        have hc7 : Chg (AG ap Mn Mk F0) w w7 := by
          refine (hq.chg.trans HC6.out ?_).trans c7 ?_
          · rintro q (e | e)
            · exact (hq.nw q e).imp_left fun e => .inr (.inr (.inr e))
            · exact .inr (hq.own.lt q e).1
          · rintro q (e | e)
            · exact .inl (.inr (.inl e))
            · exact .inl (.inr (.inr (.inl e)))
        have HI := Lib.hid (show DI w w7 ap hp Mn Mk last F0 s0 R now v2 (D ++ [x]) (dK R' x.key) _ _ F4 _ _ from ⟨ao7, hown7, hc7, fun q e => by
          rcases HN4.out q e with e | e
          · exact hq.nw q e
          · have := HS4.out.2; exact .inr (by omega), by
          rw [List.append_assoc]
          exact ((del_perm hq.ao.ri HX.out).symm.append_left D).trans hq.perm, fun y hy => by
          rcases List.mem_append.1 hy with h | h
          · exact hq.le y h
          · rw [List.mem_singleton.1 h]; exact HLE.out, by have := hq.st; have := HL4.out; rw [List.length_append, List.length_singleton]; omega, hvo⟩)
        have HLV := Lib.hid (show lenA v2 = (D ++ [x]).length by
          rcases HO6.out.2 with ⟨rfl, h0⟩ | ⟨g', cap', cur', rfl, _⟩
          · simp at h0
          · rfl)
        have c0 := ao7.c0
        have hl7 := ao7.lt ap (.inl rfl)
        clear hlook c2 hl nm7 km7 c7 hq hlt3 hds hnf hap6 n4 nap nMn nMk hlr' ao7 hvo hown7 hc7
        go_wp2_with fail
        refine (peek_any HI.out.ao.hl).mono ?_
        rintro e w8 ⟨k8, t8, ok8, hpk8, rfl, hb8⟩
        have HPK8 := Lib.hid hpk8
        have HI8 := Lib.hid (show DI w w8 ap hp Mn Mk last F0 s0 R now v2 (D ++ [x]) (dK R' x.key) _ _ F4 _ _ from ⟨HI.out.ao.below hb8, HI.out.own.below hb8, HI.out.chg.then_below hb8, HI.out.nw, HI.out.perm, HI.out.le, HI.out.st, HI.out.off⟩)
        clear hpk8 hb8 c0 hl7
        go_wp2
        go_roundw
        case rel => exact ⟨D ++ [x], dK R' x.key, _, _, F4, _, _, k8, t8, ok8, HLV.out, by rw [List.length_append, List.length_singleton]; omega, rfl, rfl, rfl, HPK8, HI8⟩
        case measure =>
          have h1 := HLV.out
          rw [List.length_append, List.length_singleton] at h1
          show R.length - lenA v2 < R.length - lenA u5
          omega
      · obtain ⟨hcall, hrr⟩ := (HE.out (HQ.out.ao.late hle)).out
        have HCA := Lib.hid hcall
        have HRR := Lib.hid hrr
        have hdn : decide (p.2 ≤ now) = false := decide_eq_false hle
        clear hcall hrr hle
        go_wp2_with fail
        refine HCA.out.mono ?_
        rintro e w4 ⟨v4, rfl, hrs, hnw, hch⟩
        have HX := Lib.hid (HFI.out w4 v4 HRR.out hrs hnw hch)
        clear hrs hnw hch
        go_wp2
        go_ret
        exact HX.out
end
end Go.Proofs.Ytajcelmnblncaaa

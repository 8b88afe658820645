/- vec.Of at any slice of parts. Condition: the numbers are int64. -/
import Derived.Test.YtnckjacbkhoppaaVecG
import Derived.Test.YtnckjacbkhoppaaVecK
import Derived.Test.YtnckjacbkhoppaaMixG
import Derived.Test.YtnckjacbkhoppaaVecN
namespace Go.Proofs.Ytnckjacbkhoppaa
open Go.RowKit Go.Maps
attribute [local go_sem] ext_cell ext_frozen Mix.extG_cell Mix.extG_frozen Mix.calmUpon Mix.mUpon
/-- Which parts have a vector, reckoned. -/
def ofB (l : List Pt) : Bool := l.all (fun p => decide (LOk p.1 p.2.1 ∧ 0 ≤ p.2.2)) && l.all (fun p => decide (sl l p.1 p.2.1 ≤ 9007199254740992))
theorem sl_none {l : List Pt} {k r : Int} (h : ∀ x ∈ l, ¬ (x.1 = k ∧ x.2.1 = r)) : sl l k r = 0 := by
  induction l with
  | nil => rfl
  | cons p t ih => rw [sl, if_neg (h p (by simp)), ih fun x hx => h x (by simp [hx])]; rfl
theorem ofB_iff (l : List Pt) : ofB l = true ↔ OfOk l := by
  unfold ofB OfOk
  rw [Bool.and_eq_true, List.all_eq_true, List.all_eq_true]
  constructor
  · rintro ⟨h1, h2⟩
    refine ⟨fun p hp => of_decide_eq_true (h1 p hp), fun k r => ?_⟩
    by_cases hx : ∃ x ∈ l, x.1 = k ∧ x.2.1 = r
    · obtain ⟨x, hx, rfl, rfl⟩ := hx; exact of_decide_eq_true (h2 x hx)
    · rw [sl_none fun x h e => hx ⟨x, h, e⟩]; decide
  · rintro ⟨h1, h2⟩
    exact ⟨fun p hp => decide_eq_true (h1 p hp), fun p hp => decide_eq_true (h2 _ _)⟩
instance (l : List Pt) : Decidable (OfOk l) := decidable_of_iff _ (ofB_iff l)
def ofO (l : List Pt) : Option (List Pt) := if OfOk l then some (ofV l) else none
theorem kra {l : List Pt} {t : Nat} (h : t < l.length) : l[t] = (kk l t, rr l t, aa l t) := by
  unfold kk rr aa; rw [getD_lt h]
theorem take_succ' {l : List Pt} {t : Nat} (h : t < l.length) : l.take (t + 1) = l.take t ++ [(kk l t, rr l t, aa l t)] := by
  rw [← kra h, List.take_add_one, List.getElem?_eq_getElem h]; rfl
theorem partedV {l : List Pt} {t : Nat} (h : t < l.length) : l = l.take t ++ (kk l t, rr l t, aa l t) :: l.drop (t + 1) := by
  rw [← kra h, ← List.drop_eq_getElem_cons h, List.take_append_drop]

theorem wpList_look {w : World} {ops : Array Oper} {rest : List Oper} {o : Oper} {a : Act} {Q : Exit → Act → World → Prop} (hg : o.guard = none) (m x : Operand) (hop : o.op = Op.lookup 183 m x false)
    (b n : Nat) (S : Int → Int → Int) (hm : a.eval m = .map (some b)) (hO : OM w b n S) (k r : Int) (hx : a.eval x = .agg #[.int .i64 k, .int .i64 r]) (hk : I64 k) (hr : I64 r)
    (h : wpList Try.prog ops Q rest (a.put o.dst (.int .i64 (S k r))) w) : wpList Try.prog ops Q (o :: rest) a w := by
  refine wpList_plain hg fun K' hK' => ?_
  have hrun := hO.look hk hr
  unfold Oper.wp
  simp [execOp, hop, hm, hx, hrun, Result.andThen]
  exact hK' _ _ h
theorem wpList_put {w : World} {ops : Array Oper} {rest : List Oper} {o : Oper} {a : Act} {Q : Exit → Act → World → Prop} (hg : o.guard = none) (m x v : Operand) (hop : o.op = Op.mapUpdate 183 m x v)
    (b n : Nat) (S : Int → Int → Int) (hm : a.eval m = .map (some b)) (hO : OM w b n S) (hn : n < maxLen) (k r y : Int) (hx : a.eval x = .agg #[.int .i64 k, .int .i64 r]) (hv : a.eval v = .int .i64 y) (hk : I64 k) (hr : I64 r) (hy : I64 y)
    (h : ∀ w', OM w' b (n + 1) (fun k' r' => if k = k' ∧ r = r' then y else S k' r') → w.grownBy w' (some b) → wpList Try.prog ops Q rest (a.put o.dst undef) w') : wpList Try.prog ops Q (o :: rest) a w := by
  refine wpList_plain hg fun K' hK' => ?_
  obtain ⟨w', hrun, r1, r2⟩ := hO.store hn hk hr hy
  unfold Oper.wp
  simp [execOp, hop, hm, hx, hv, hrun, Result.andThen]
  exact hK' _ _ (h w' r1 r2)
theorem Vc.cells {w : World} {v : Value} {l : List Pt} (h : Vc w v l) : ∃ a n cap, v = .slice a n cap ∧ n = l.length ∧ ∀ i, i < n → ∃ b off, a = Option.some ⟨b, off, none⟩ ∧ b < w.heap.size ∧
    w.cell? ⟨b, off + i * 3, none⟩ = Option.some (.int .i64 (kk l i)) ∧ w.cell? ⟨b, off + i * 3 + 1, none⟩ = Option.some (.int .i64 (rr l i)) ∧ w.cell? ⟨b, off + i * 3 + 2, none⟩ = Option.some (.int .i64 (aa l i)) := by
  rcases h with ⟨⟨a, cap, rfl, _⟩, rfl⟩ | ⟨b, off, cap, h1, h2, h3, h4, h5⟩
  · exact ⟨a, 0, cap, rfl, rfl, fun i hi => absurd hi (by omega)⟩
  · exact ⟨_, _, cap, h1, rfl, fun i hi => ⟨b, off, rfl, h4, h5 i hi⟩⟩
theorem I64s.at {l : List Pt} (h : I64s l) {t : Nat} (ht : t < l.length) : I64 (kk l t) ∧ I64 (rr l t) ∧ I64 (aa l t) := by
  have := h _ (List.getElem_mem ht); rw [kra ht] at this; exact this
/-- Where the first loop stands. -/
structure O1 (W wr : World) (l : List Pt) (t : Nat) : Prop where
  om : OM wr W.heap.size t (sl (l.take t))
  ok : OfOk (l.take t)
  bel : Below W.heap.size W wr
/-- Where the second one does. -/
structure O2 (W wr : World) (l : List Pt) (m : Nat) (v : Value) (n : Nat) : Prop where
  om : OM wr W.heap.size m (sl l)
  own : OwnP wr (W.heap.size + 1) v (ofL (sl l) n)
  bel : Below W.heap.size W wr
theorem ofL_len (S : Int → Int → Int) : ∀ n, (ofL S n).length ≤ n
  | 0 => Nat.le_refl _
  | n + 1 => by have := ofL_len S n; rw [ofL, List.length_append]; split <;> simp <;> omega
/-- 'append' of one part, in a region that draws its order. -/
theorem append_part {w : World} {base n : Nat} {v : Value} {xs : List Value} {k r x : Int} {b c : Nat} {K : Act → World → Prop} {o : Oper} {a : Act} (s y : Operand)
    (ho : o.op = .call { callee := .builtin .append, args := #[s, y], argTypes := #[26, 26] }) (hs : a.eval s = v) (hy : a.eval y = .slice (some ⟨b, 0, none⟩) 1 c)
    (h : w.ownsRow base 86 3 v n xs) (h0 : w.cell? ⟨b, 0, none⟩ = some (.int .i64 k)) (h1 : w.cell? ⟨b, 1, none⟩ = some (.int .i64 r)) (h2 : w.cell? ⟨b, 2, none⟩ = some (.int .i64 x)) (hn : n ≤ 1000000) (hb : base ≤ w.heap.size)
    (hK : ∀ v' w', w'.ownsRow base 86 3 v' (n + 1) (xs ++ [.int .i64 k, .int .i64 r, .int .i64 x]) → w.grownBy w' v.ownBlock → K (a.put o.dst v') w') :
    Mix.mUpon Try.prog o a K ((execOp a.eval o).run Try.prog w) := by
  obtain ⟨i0, hi, hz0, hz1, hz2⟩ := info_parts infoPart
  obtain ⟨v', w', e1, e2, e3, _⟩ := run_append_own (P := Try.prog) w base 26 o.type 86 i0 (.agg #[.int .i64 0, .int .i64 0, .int .i64 0]) 3 24 Try.underlying26 hi hz0 hz1 hz2 rfl (by decide) v n xs h ⟨b, 0, none⟩ 1 c [.int .i64 k, .int .i64 r, .int .i64 x] rfl
    (fun j u' hj => by
      rcases j with _ | _ | _ | j <;> simp at hj
      · subst hj; simpa [Addr.add] using h0
      · subst hj; simpa [Addr.add] using h1
      · subst hj; simpa [Addr.add] using h2) (fun u' hu => by simp at hu; rcases hu with rfl | rfl | rfl <;> rfl) (by unfold maxLen; omega) (by omega) hb
  unfold execOp
  simp only [ho, resolve, invoke, builtin, Sem.run_bind, Sem.run_pure, Result.andThen_ok, List.map_toArray, List.map_cons, List.map_nil, hs, hy, e1]
  exact hK v' w' e2 e3
set_option maxRecDepth 100000 in
set_option maxHeartbeats 8000000 in
theorem vof_any (v : Value) (l : List Pt) (hI : I64s l) (hbig : l.length < 1000000) (W : World) (hV : Vc W v l) :
    Calls Try.prog 84 #[v] W (RetO W (ofO l)) := by
  obtain ⟨i0, hi, hz0, hz1, hz2⟩ := info_parts infoPart
  obtain ⟨a, n, cap, rfl, hn, hC⟩ := hV.cells
  have HC := Lib.hid hC; have HI := Lib.hid hI; have HN := Lib.hid hn
  have hmm := makeAm
  have hn9 : n < 1000000 := by omega
  clear hC hI hV hn hbig
  go_enter Try.func84, Try.ntmps84
  go_wp2
  go_loopw [16] (fun i wr => ∃ t : Nat, t ≤ n ∧ i = .int .i64 t ∧ Hid (O1 W wr l t)) (fun i _ => n - (intOf i).toNat)
  case atStart => exact ⟨0, Nat.zero_le _, rfl, Lib.hid ⟨OM.made W, OfOk.nil, by (repeat (first | assumption | exact Below.refl _ _ | refine ba ?_ _ | refine bd ?_ | refine bdn ?_ _ | refine bs ?_ (by first | omega | (simp; done) | (simp; omega)) _ | refine bt ?_ (by assumption)))⟩⟩
  case round =>
    obtain ⟨t, ht, rfl, HS⟩ := hrel
    obtain ⟨w1, rfl⟩ : ∃ w1, w1 = wr := ⟨_, rfl⟩
    have hb1 := HS.out.bel
    have hs1 : W.heap.size + 0 ≤ w1.heap.size := (by have h := hb1.size; first | omega | (simp at h; omega))
    obtain ⟨hc1, hf1, hl1⟩ := bcell hb1
    clear hl1
    by_cases hlt : t < n
    · have hts : (t : Int) < (n : Int) := by omega
      have hll : t < l.length := by rw [← HN.out]; exact hlt
      obtain ⟨b, off, rfl, hb, c0, c1, c2⟩ := HC.out t hlt
      have hbl : b < w1.heap.size := Nat.lt_of_lt_of_le hb hb1.size
      have HP := Lib.hid (partedV hll)
      have HT := Lib.hid (take_succ' hll)
      obtain ⟨ik, ir, ia⟩ := HI.out.at hll
      have s0 := sl_nn HS.out.ok.1 (kk l t) (rr l t)
      have s1 := HS.out.ok.2 (kk l t) (rr l t)
      generalize kk l t = k at *; generalize rr l t = r at *; generalize aa l t = x at *
      have HO := Lib.hid (vecof_any k r x)
      have HR := Lib.hid (slotright_any k r)
      have HIK := Lib.hid (And.intro ik ir)
      clear ik ir ia hll
      have hOM := HS.out.om
      obtain ⟨c, hc⟩ : ∃ c, c = sl (l.take t) k r := ⟨_, rfl⟩
      rw [← hc] at s0 s1
      have HL := Lib.hid (show ∀ w, OM w W.heap.size t (sl (l.take t)) → (Instr.lookup 183 (.map (some W.heap.size)) (.agg #[.int .i64 k, .int .i64 r]) false).run Try.prog w = .ok (.int .i64 c) w from fun w h => by rw [hc]; exact h.look HIK.out.1 HIK.out.2)
      have HC1 := Lib.hid hc
      clear hc hOM
      have hlook : ∀ (o : Obj) (y : Ext (w1.alloc o)), (Instr.lookup 183 (.map (some W.heap.size)) (.agg #[.int .i64 k, .int .i64 r]) false).run Try.prog (ext (w1.alloc o) y) = .ok (.int .i64 c) (ext (w1.alloc o) y) := fun o y => HL.out _ (HS.out.om.below (bt (ba (Below.refl _ _) o) (ext_below _ y)))
      by_cases hq : QA c x 9007199254740992
      · have HQ := Lib.hid (qadd_yes c x 9007199254740992 hq ⟨by omega, by omega⟩)
        have q1 := hq.2.1; have q2 := hq.2.2
        clear hq
        by_cases hR : LOk k r
        · have HR1 := HR.out
          rw [decide_eq_true hR] at HR1
          have HR1 := Lib.hid HR1
          have HRR := Lib.hid hR
          clear HR hR
          go_wp2_with fail
          refine wp_region_pure (by kernel_rfl) (by kernel_rfl) ?_
          repeat (first | go_big_quiet_step (((first | (go_at_call 112; with_reducible exact HO.out.quiet) | (go_at_call 114; with_reducible exact HQ.out.quiet)))) | (quiet_step (((first | (go_at_call 112; with_reducible exact HO.out.quiet) | (go_at_call 114; with_reducible exact HQ.out.quiet))))))
          refine wpQuiet_nil ?_
          rintro w2 ⟨x2, hx2⟩
          have hb2 := ext_below _ x2
          rw [← hx2] at hb2
          clear hx2 x2
          have hs2 : w1.heap.size + 1 ≤ w2.heap.size := (by have h := hb2.size; first | omega | (simp at h; omega))
          have hb1_2 := bel hb1 hb2 (by (repeat (first | assumption | exact Below.refl _ _ | refine ba ?_ _ | refine bd ?_ | refine bdn ?_ _ | refine bs ?_ (by first | omega | (simp; done) | (simp; omega)) _ | refine bt ?_ (by assumption))))
          clear hc1 hf1
          have hz2_0 : w1.heap.size < w2.heap.size := (by omega)
          obtain ⟨hc2, hf2, hl2⟩ := bcell hb2
          clear hl2
          go_wp2_with fail
          (with_reducible refine (HO.out _).mono ?_)
          rintro e w3 ⟨rfl, hb3⟩
          have hs3 : w2.heap.size + 0 ≤ w3.heap.size := (by have h := hb3.size; first | omega | (simp at h; omega))
          have hb1_3 := bel hb1_2 hb3 (by (repeat (first | assumption | exact Below.refl _ _ | refine ba ?_ _ | refine bd ?_ | refine bdn ?_ _ | refine bs ?_ (by first | omega | (simp; done) | (simp; omega)) _ | refine bt ?_ (by assumption))))
          have hb2_3 := bel hb2 hb3 (by (repeat (first | assumption | exact Below.refl _ _ | refine ba ?_ _ | refine bd ?_ | refine bdn ?_ _ | refine bs ?_ (by first | omega | (simp; done) | (simp; omega)) _ | refine bt ?_ (by assumption))))
          clear hz2_0 hc2 hf2
          obtain ⟨hc2_3, hf2_3, hl2_3⟩ := bcell hb2_3
          clear hl2_3
          have hz3_0 : w1.heap.size < w3.heap.size := (by omega)
          obtain ⟨hc3, hf3, hl3⟩ := bcell hb3
          clear hl3
          go_wp2_with fail
          (with_reducible refine (HR1.out _).mono ?_)
          rintro e w4 ⟨rfl, hb4⟩
          have hs4 : w3.heap.size + 0 ≤ w4.heap.size := (by have h := hb4.size; first | omega | (simp at h; omega))
          have hb1_4 := bel hb1_3 hb4 (by (repeat (first | assumption | exact Below.refl _ _ | refine ba ?_ _ | refine bd ?_ | refine bdn ?_ _ | refine bs ?_ (by first | omega | (simp; done) | (simp; omega)) _ | refine bt ?_ (by assumption))))
          have hb2_4 := bel hb2_3 hb4 (by (repeat (first | assumption | exact Below.refl _ _ | refine ba ?_ _ | refine bd ?_ | refine bdn ?_ _ | refine bs ?_ (by first | omega | (simp; done) | (simp; omega)) _ | refine bt ?_ (by assumption))))
          have hb3_4 := bel hb3 hb4 (by (repeat (first | assumption | exact Below.refl _ _ | refine ba ?_ _ | refine bd ?_ | refine bdn ?_ _ | refine bs ?_ (by first | omega | (simp; done) | (simp; omega)) _ | refine bt ?_ (by assumption))))
          clear hc2_3 hf2_3 hz3_0 hc3 hf3
          obtain ⟨hc2_4, hf2_4, hl2_4⟩ := bcell hb2_4
          clear hl2_4
          have hz4_0 : w1.heap.size < w4.heap.size := (by omega)
          obtain ⟨hc4, hf4, hl4⟩ := bcell hb4
          clear hl4
          go_wp2_with fail
          (with_reducible refine (HO.out _).mono ?_)
          rintro e w5 ⟨rfl, hb5⟩
          have hs5 : w4.heap.size + 0 ≤ w5.heap.size := (by have h := hb5.size; first | omega | (simp at h; omega))
          have hb1_5 := bel hb1_4 hb5 (by (repeat (first | assumption | exact Below.refl _ _ | refine ba ?_ _ | refine bd ?_ | refine bdn ?_ _ | refine bs ?_ (by first | omega | (simp; done) | (simp; omega)) _ | refine bt ?_ (by assumption))))
          have hb2_5 := bel hb2_4 hb5 (by (repeat (first | assumption | exact Below.refl _ _ | refine ba ?_ _ | refine bd ?_ | refine bdn ?_ _ | refine bs ?_ (by first | omega | (simp; done) | (simp; omega)) _ | refine bt ?_ (by assumption))))
          have hb3_5 := bel hb3_4 hb5 (by (repeat (first | assumption | exact Below.refl _ _ | refine ba ?_ _ | refine bd ?_ | refine bdn ?_ _ | refine bs ?_ (by first | omega | (simp; done) | (simp; omega)) _ | refine bt ?_ (by assumption))))
          have hb4_5 := bel hb4 hb5 (by (repeat (first | assumption | exact Below.refl _ _ | refine ba ?_ _ | refine bd ?_ | refine bdn ?_ _ | refine bs ?_ (by first | omega | (simp; done) | (simp; omega)) _ | refine bt ?_ (by assumption))))
          clear hc2_4 hf2_4 hz4_0 hc4 hf4
          obtain ⟨hc2_5, hf2_5, hl2_5⟩ := bcell hb2_5
          clear hl2_5
          have hz5_0 : w1.heap.size < w5.heap.size := (by omega)
          obtain ⟨hc5, hf5, hl5⟩ := bcell hb5
          clear hl5
          have HB5 := Lib.hid (show Below w1.heap.size w1 w5 by (repeat (first | assumption | exact Below.refl _ _ | refine ba ?_ _ | refine bd ?_ | refine bdn ?_ _ | refine bs ?_ (by first | omega | (simp; done) | (simp; omega)) _ | refine bt ?_ (by assumption))))
          have HB6 := Lib.hid (show Below W.heap.size W w5 by (repeat (first | assumption | exact Below.refl _ _ | refine ba ?_ _ | refine bd ?_ | refine bdn ?_ _ | refine bs ?_ (by first | omega | (simp; done) | (simp; omega)) _ | refine bt ?_ (by assumption))))
          go_wp2_with (at_mapUpdate; refine wpList_put rfl _ _ _ rfl W.heap.size t (sl (l.take t)) rfl (HS.out.om.below HB5.out) (by unfold maxLen; omega) k r (c + x) rfl rfl HIK.out.1 HIK.out.2 ⟨by omega, by omega⟩ ?_; intro w6 hom6 hgrow6)
          have HO6 := Lib.hid hom6
          have HG6 := Lib.hid hgrow6
          clear hom6 hgrow6
          go_wp2
          go_roundw
          case rel =>
            refine ⟨t + 1, by omega, by go_num, Lib.hid ⟨?_, ?_, HB6.out.grown HG6.out HB6.out.size (fun j hj => by cases hj; exact Nat.le_refl _)⟩⟩
            · have e : (fun k' r' => if k = k' ∧ r = r' then c + x else sl (l.take t) k' r') = sl (l.take (t + 1)) := by
                funext k' r'
                rw [HT.out, sl_snoc]
                by_cases he : k = k' ∧ r = r'
                · obtain ⟨rfl, rfl⟩ := he
                  rw [if_pos ⟨rfl, rfl⟩, if_pos ⟨rfl, rfl⟩, HC1.out]
                · rw [if_neg he, if_neg he]; omega
              rw [← e]; exact HO6.out
            · rw [HT.out]; exact HS.out.ok.snoc HRR.out q1 (by rw [← HC1.out]; exact q2)
          case measure => simp [intOf]; omega
        · have HR1 := HR.out
          rw [decide_eq_false hR] at HR1
          have HR1 := Lib.hid HR1
          have HX := Lib.hid (show ofO l = none from if_neg fun h => hR (OfOk.last (by rw [← HP.out]; exact h) (m := l.drop (t + 1))).1)
          clear HR hR
          go_wp2_with fail
          refine wp_region_pure (by kernel_rfl) (by kernel_rfl) ?_
          repeat (first | go_big_quiet_step (((first | (go_at_call 112; with_reducible exact HO.out.quiet) | (go_at_call 114; with_reducible exact HQ.out.quiet)))) | (quiet_step (((first | (go_at_call 112; with_reducible exact HO.out.quiet) | (go_at_call 114; with_reducible exact HQ.out.quiet))))))
          refine wpQuiet_nil ?_
          rintro w2 ⟨x2, hx2⟩
          have hb2 := ext_below _ x2
          rw [← hx2] at hb2
          clear hx2 x2
          have hs2 : w1.heap.size + 1 ≤ w2.heap.size := (by have h := hb2.size; first | omega | (simp at h; omega))
          have hb1_2 := bel hb1 hb2 (by (repeat (first | assumption | exact Below.refl _ _ | refine ba ?_ _ | refine bd ?_ | refine bdn ?_ _ | refine bs ?_ (by first | omega | (simp; done) | (simp; omega)) _ | refine bt ?_ (by assumption))))
          clear hc1 hf1
          have hz2_0 : w1.heap.size < w2.heap.size := (by omega)
          obtain ⟨hc2, hf2, hl2⟩ := bcell hb2
          clear hl2
          go_wp2_with fail
          (with_reducible refine (HO.out _).mono ?_)
          rintro e w3 ⟨rfl, hb3⟩
          have hs3 : w2.heap.size + 0 ≤ w3.heap.size := (by have h := hb3.size; first | omega | (simp at h; omega))
          have hb1_3 := bel hb1_2 hb3 (by (repeat (first | assumption | exact Below.refl _ _ | refine ba ?_ _ | refine bd ?_ | refine bdn ?_ _ | refine bs ?_ (by first | omega | (simp; done) | (simp; omega)) _ | refine bt ?_ (by assumption))))
          have hb2_3 := bel hb2 hb3 (by (repeat (first | assumption | exact Below.refl _ _ | refine ba ?_ _ | refine bd ?_ | refine bdn ?_ _ | refine bs ?_ (by first | omega | (simp; done) | (simp; omega)) _ | refine bt ?_ (by assumption))))
          clear hz2_0 hc2 hf2
          obtain ⟨hc2_3, hf2_3, hl2_3⟩ := bcell hb2_3
          clear hl2_3
          have hz3_0 : w1.heap.size < w3.heap.size := (by omega)
          obtain ⟨hc3, hf3, hl3⟩ := bcell hb3
          clear hl3
          go_wp2_with fail
          (with_reducible refine (HR1.out _).mono ?_)
          rintro e w4 ⟨rfl, hb4⟩
          have hs4 : w3.heap.size + 0 ≤ w4.heap.size := (by have h := hb4.size; first | omega | (simp at h; omega))
          have hb1_4 := bel hb1_3 hb4 (by (repeat (first | assumption | exact Below.refl _ _ | refine ba ?_ _ | refine bd ?_ | refine bdn ?_ _ | refine bs ?_ (by first | omega | (simp; done) | (simp; omega)) _ | refine bt ?_ (by assumption))))
          have hb2_4 := bel hb2_3 hb4 (by (repeat (first | assumption | exact Below.refl _ _ | refine ba ?_ _ | refine bd ?_ | refine bdn ?_ _ | refine bs ?_ (by first | omega | (simp; done) | (simp; omega)) _ | refine bt ?_ (by assumption))))
          have hb3_4 := bel hb3 hb4 (by (repeat (first | assumption | exact Below.refl _ _ | refine ba ?_ _ | refine bd ?_ | refine bdn ?_ _ | refine bs ?_ (by first | omega | (simp; done) | (simp; omega)) _ | refine bt ?_ (by assumption))))
          clear hc2_3 hf2_3 hz3_0 hc3 hf3
          obtain ⟨hc2_4, hf2_4, hl2_4⟩ := bcell hb2_4
          clear hl2_4
          have hz4_0 : w1.heap.size < w4.heap.size := (by omega)
          obtain ⟨hc4, hf4, hl4⟩ := bcell hb4
          clear hl4
          go_wp2
          go_ret2
          exact RetO.none HX.out (by (repeat (first | assumption | exact Below.refl _ _ | refine ba ?_ _ | refine bd ?_ | refine bdn ?_ _ | refine bs ?_ (by first | omega | (simp; done) | (simp; omega)) _ | refine bt ?_ (by assumption))))
      · have HQ := Lib.hid (qadd_no c x 9007199254740992 hq ⟨by omega, by omega⟩)
        have HX := Lib.hid (show ofO l = none from if_neg fun h => hq (by
          have h2 := OfOk.last (by rw [← HP.out]; exact h) (m := l.drop (t + 1)) (p := (k, r, x))
          exact ⟨s0, h2.2.1, by rw [HC1.out]; exact h2.2.2⟩))
        clear hq
        go_wp2_with fail
        refine wp_region_pure (by kernel_rfl) (by kernel_rfl) ?_
        repeat (first | go_big_quiet_step (((first | (go_at_call 112; with_reducible exact HO.out.quiet) | (go_at_call 114; with_reducible exact HQ.out.quiet)))) | (quiet_step (((first | (go_at_call 112; with_reducible exact HO.out.quiet) | (go_at_call 114; with_reducible exact HQ.out.quiet))))))
        refine wpQuiet_nil ?_
        rintro w2 ⟨x2, hx2⟩
        have hb2 := ext_below _ x2
        rw [← hx2] at hb2
        clear hx2 x2
        have hs2 : w1.heap.size + 1 ≤ w2.heap.size := (by have h := hb2.size; first | omega | (simp at h; omega))
        have hb1_2 := bel hb1 hb2 (by (repeat (first | assumption | exact Below.refl _ _ | refine ba ?_ _ | refine bd ?_ | refine bdn ?_ _ | refine bs ?_ (by first | omega | (simp; done) | (simp; omega)) _ | refine bt ?_ (by assumption))))
        clear hc1 hf1
        have hz2_0 : w1.heap.size < w2.heap.size := (by omega)
        obtain ⟨hc2, hf2, hl2⟩ := bcell hb2
        clear hl2
        go_wp2
        go_ret2
        exact RetO.none HX.out (by (repeat (first | assumption | exact Below.refl _ _ | refine ba ?_ _ | refine bd ?_ | refine bdn ?_ _ | refine bs ?_ (by first | omega | (simp; done) | (simp; omega)) _ | refine bt ?_ (by assumption))))
    · obtain rfl : n = t := by omega
      have hll : l.take n = l := by rw [HN.out]; exact List.take_length
      have HOK := Lib.hid (show OfOk l by have := HS.out.ok; rw [hll] at this; exact this)
      have HOM := Lib.hid (show OM w1 W.heap.size n (sl l) by have := HS.out.om; rw [hll] at this; exact this)
      have HBB := Lib.hid hb1
      clear hll HS HC HI HN hlt
      have HX := Lib.hid (show ofO l = some (ofV l) from if_pos HOK.out)
      go_wp2
      go_loopw [9, 43] (fun v kd wr => ∃ i : Nat, i ≤ 4 ∧ kd = .int .i64 i ∧ Hid (O2 W wr l n v (33 * i))) (fun _ kd _ => 4 - (intOf kd).toNat)
      case atStart => exact ⟨0, by omega, rfl, Lib.hid ⟨HOM.out, World.ownsRow_nil _ _ _ _, HBB.out⟩⟩
      case round =>
        obtain ⟨i, hi4, rfl, H2⟩ := hrel
        rename_i wr
        obtain ⟨wo, rfl⟩ : ∃ wo : World, wo = wr := ⟨_, rfl⟩
        by_cases hlt4 : i < 4
        · have his : (i : Int) < 4 := by omega
          clear HOM HBB
          go_wp2
          go_loopw [9, 46] (fun v r wr => ∃ j : Nat, j ≤ 33 ∧ r = .int .i64 j ∧ Hid (O2 W wr l n v (33 * i + j))) (fun _ r _ => 33 - (intOf r).toNat)
          case atStart => exact ⟨0, by omega, rfl, H2⟩
          case round =>
            clear H2
            obtain ⟨j, hj33, rfl, H3⟩ := hrel
            rename_i wr
            obtain ⟨w3, rfl⟩ : ∃ w3 : World, w3 = wr := ⟨_, rfl⟩
            have hb3 := H3.out.bel
            have hs3 : W.heap.size + 0 ≤ w3.heap.size := (by have h := hb3.size; first | omega | (simp at h; omega))
            obtain ⟨hc3, hf3, hl3⟩ := bcell hb3
            clear hl3
            by_cases hjt : j < 33
            · have hjs : (j : Int) < 33 := by omega
              have ii : I64 (i : Int) := ⟨by omega, by omega⟩
              have ij : I64 (j : Int) := ⟨by omega, by omega⟩
              obtain ⟨c, hc⟩ : ∃ c, c = sl l i j := ⟨_, rfl⟩
              have HC1 := Lib.hid hc
              have hc1 : c ≤ 9007199254740992 := by rw [hc]; exact HOK.out.2 _ _
              clear hc
              have hrow : u9.ownBlock ≠ some W.heap.size := fun e => by have := (H3.out.own.lt _ e).1; omega
              have hrow3 : u9.ownBlock ≠ some w3.heap.size := fun e => by have := (H3.out.own.lt _ e).2; omega
              have hlook : ∀ (o : Obj) (y : Mix.ExtG (w3.alloc o) u9.ownBlock), (Instr.lookup 183 (.map (some W.heap.size)) (.agg #[.int .i64 i, .int .i64 j]) false).run Try.prog (Mix.extG (w3.alloc o) u9.ownBlock y) = .ok (.int .i64 c) (Mix.extG (w3.alloc o) u9.ownBlock y) := fun o y => by
                rw [HC1.out]; exact ((H3.out.om.below (ba (Below.refl _ _) o)).kept (Mix.extG_grown _ _ y) (Ne.symm hrow)).look ii ij
              by_cases hc0 : 0 < c
              · have HPt := Lib.hid (part_any i j c)
                go_wp2_with (at_lookup; refine wpList_look rfl _ _ rfl W.heap.size n (sl l) rfl (H3.out.om.below (by (repeat (first | assumption | exact Below.refl _ _ | refine ba ?_ _ | refine bd ?_ | refine bdn ?_ _ | refine bs ?_ (by first | omega | (simp; done) | (simp; omega)) _ | refine bt ?_ (by assumption))))) i j rfl ii ij ?_; rw [← HC1.out])
                refine Mix.regionG u9.ownBlock (by kernel_rfl) ?_
                intro w4 hb4
                have hs4 : w3.heap.size + 1 ≤ w4.heap.size := (by have h := hb4.size; first | omega | (simp at h; omega))
                have hb3_4 := bel hb3 hb4 (by (repeat (first | assumption | exact Below.refl _ _ | refine ba ?_ _ | refine bd ?_ | refine bdn ?_ _ | refine bs ?_ (by first | omega | (simp; done) | (simp; omega)) _ | refine bt ?_ (by assumption))))
                clear hc3 hf3
                have hz4_0 : w3.heap.size < w4.heap.size := (by omega)
                obtain ⟨hc4, hf4, hl4⟩ := bcell hb4
                clear hl4
                refine Mix.take_exG _ _ 0 rfl (by kernel_rfl) (by kernel_rfl) (by kernel_rfl) (by kernel_rfl) (fun K hK => ?_)
                go_simp
                first | (refine hK _ ?_; clear hK K) | (apply Exists.intro; refine ⟨fun x => ?_, hK _ ?_⟩; (fail); clear hK K)
                refine Mix.take_exG _ _ 1 rfl (by kernel_rfl) (by kernel_rfl) (by kernel_rfl) (by kernel_rfl) (fun K hK => ?_)
                go_simp
                first | (refine hK _ ?_; clear hK K) | (apply Exists.intro; refine ⟨fun x => ?_, hK _ ?_⟩; (fail); clear hK K)
                refine Mix.take_exG _ _ 2 rfl (by kernel_rfl) (by kernel_rfl) (by kernel_rfl) (by kernel_rfl) (fun K hK => ?_)
                go_simp
                first | (refine hK _ ?_; clear hK K) | (apply Exists.intro; refine ⟨fun x => ?_, hK _ ?_⟩; (fail); clear hK K)
                refine Mix.take_exG _ _ 3 rfl (by kernel_rfl) (by kernel_rfl) (by kernel_rfl) (by kernel_rfl) (fun K hK => ?_)
                go_simp
                first | (refine hK _ ?_; clear hK K) | (apply Exists.intro; refine ⟨fun x => ?_, hK _ ?_⟩; (fail); clear hK K)
                refine Mix.take_exG _ _ 4 rfl (by kernel_rfl) (by kernel_rfl) (by kernel_rfl) (by kernel_rfl) (fun K hK => ?_)
                go_simp
                first | (refine hK _ ?_; clear hK K) | (apply Exists.intro; refine ⟨fun x => ?_, hK _ ?_⟩; (fail); clear hK K)
                refine Mix.take_exG _ _ 5 rfl (by kernel_rfl) (by kernel_rfl) (by kernel_rfl) (by kernel_rfl) (fun K hK => ?_)
                go_simp
                first | (refine hK _ ?_; clear hK K) | (apply Exists.intro; refine ⟨fun x => ?_, hK _ ?_⟩; ((go_at_call 115; with_reducible exact HPt.out _)); clear hK K)
                refine Mix.all (rs := [6]) (by kernel_rfl) (by simp) (Mix.grown_of _ (by (repeat (first | assumption | exact Below.refl _ _ | refine ba ?_ _ | refine bd ?_ | refine bdn ?_ _ | refine bs ?_ (by first | omega | (simp; done) | (simp; omega)) _ | refine bt ?_ (by assumption))))) ?_
                intro i5 hi5 w5 hb5 hC5
                clear hC5
                have hs5 : w4.heap.size + 0 ≤ w5.heap.size := (by have h := hb5.size; first | omega | (simp at h; omega))
                have hb3_5 := bel hb3_4 hb5 (by (repeat (first | assumption | exact Below.refl _ _ | refine ba ?_ _ | refine bd ?_ | refine bdn ?_ _ | refine bs ?_ (by first | omega | (simp; done) | (simp; omega)) _ | refine bt ?_ (by assumption))))
                have hb4_5 := bel hb4 hb5 (by (repeat (first | assumption | exact Below.refl _ _ | refine ba ?_ _ | refine bd ?_ | refine bdn ?_ _ | refine bs ?_ (by first | omega | (simp; done) | (simp; omega)) _ | refine bt ?_ (by assumption))))
                clear hz4_0 hc4 hf4
                obtain ⟨hc4_5, hf4_5, hl4_5⟩ := bcell hb4_5
                clear hl4_5
                have hz5_0 : w3.heap.size < w5.heap.size := (by omega)
                obtain ⟨hc5, hf5, hl5⟩ := bcell hb5
                clear hl5
                simp only [List.mem_cons, List.not_mem_nil, or_false] at hi5
                subst hi5
                refine Mix.op rfl (by kernel_rfl) ?_
                go_simp
                refine Mix.all (rs := [7]) (by kernel_rfl) (by simp) (Mix.grown_of _ (by (repeat (first | assumption | exact Below.refl _ _ | refine ba ?_ _ | refine bd ?_ | refine bdn ?_ _ | refine bs ?_ (by first | omega | (simp; done) | (simp; omega)) _ | refine bt ?_ (by assumption))))) ?_
                intro i6 hi6 w6 hb6 hC6
                clear hC6
                have hs6 : w5.heap.size + 1 ≤ w6.heap.size := (by have h := hb6.size; first | omega | (simp at h; omega))
                have hb3_6 := bel hb3_5 hb6 (by (repeat (first | assumption | exact Below.refl _ _ | refine ba ?_ _ | refine bd ?_ | refine bdn ?_ _ | refine bs ?_ (by first | omega | (simp; done) | (simp; omega)) _ | refine bt ?_ (by assumption))))
                have hb4_6 := bel hb4_5 hb6 (by (repeat (first | assumption | exact Below.refl _ _ | refine ba ?_ _ | refine bd ?_ | refine bdn ?_ _ | refine bs ?_ (by first | omega | (simp; done) | (simp; omega)) _ | refine bt ?_ (by assumption))))
                have hb5_6 := bel hb5 hb6 (by (repeat (first | assumption | exact Below.refl _ _ | refine ba ?_ _ | refine bd ?_ | refine bdn ?_ _ | refine bs ?_ (by first | omega | (simp; done) | (simp; omega)) _ | refine bt ?_ (by assumption))))
                clear hc4_5 hf4_5 hz5_0 hc5 hf5
                obtain ⟨hc4_6, hf4_6, hl4_6⟩ := bcell hb4_6
                clear hl4_6
                have hz6_0 : w3.heap.size < w6.heap.size := (by omega)
                have hz6_1 : w5.heap.size < w6.heap.size := (by omega)
                obtain ⟨hc6, hf6, hl6⟩ := bcell hb6
                clear hl6
                simp only [List.mem_cons, List.not_mem_nil, or_false] at hi6
                subst hi6
                refine Mix.op rfl (by kernel_rfl) ?_
                have hx0 : w6.cell? ⟨w5.heap.size, 0, none⟩ = some (.int .i64 i) := by rw [hc6 _ _ (by simp)]; simp [go_sem]
                have hx1 : w6.cell? ⟨w5.heap.size, 1, none⟩ = some (.int .i64 j) := by rw [hc6 _ _ (by simp)]; simp [go_sem]
                have hx2 : w6.cell? ⟨w5.heap.size, 2, none⟩ = some (.int .i64 c) := by rw [hc6 _ _ (by simp)]; simp [go_sem]
                have HB7 := Lib.hid (show Below W.heap.size W w6 by (repeat (first | assumption | exact Below.refl _ _ | refine ba ?_ _ | refine bd ?_ | refine bdn ?_ _ | refine bs ?_ (by first | omega | (simp; done) | (simp; omega)) _ | refine bt ?_ (by assumption))))
                have HA6 := Lib.hid (show Below (w3.alloc (.cells #[.int .i64 i, .int .i64 j] 150)).heap.size (w3.alloc (.cells #[.int .i64 i, .int .i64 j] 150)) w6 by (repeat (first | assumption | exact Below.refl _ _ | refine ba ?_ _ | refine bd ?_ | refine bdn ?_ _ | refine bs ?_ (by first | omega | (simp; done) | (simp; omega)) _ | refine bt ?_ (by assumption))))
                have HB6 := Lib.hid (show Below w3.heap.size w3 w6 from bt (ba (Below.refl _ _) _) HA6.out)
                have hlen : (ofL (sl l) (33 * i + j)).length ≤ 1000000 := by have := ofL_len (sl l) (33 * i + j); omega
                have hWs : W.heap.size + 1 ≤ w6.heap.size := by have := H3.out.om.lt; have := HB6.out.size; omega
                refine append_part _ _ rfl (v := u9) rfl (b := w5.heap.size) (c := 1) rfl (rowP_grow H3.out.own HB6.out) hx0 hx1 hx2 hlen hWs ?_
                intro v7 w7 hv7 hg7
                have HV7 := Lib.hid hv7; have HG7 := Lib.hid hg7
                clear hv7 hg7 hx0 hx1 hx2 hlen
                go_simp
                refine Mix.all (rs := [8]) (by kernel_rfl) (by simp) ((Mix.grown_of _ HA6.out).trans HG7.out) ?_
                intro i8 hi8 w8 hb8 hC8
                simp only [List.mem_cons, List.not_mem_nil, or_false] at hi8
                subst hi8
                refine Mix.op rfl (by kernel_rfl) ?_
                go_simp
                refine Mix.done (by kernel_rfl) hC8 ?_
                intro w9 hb9
                have HB9 := Lib.hid (show Below w7.heap.size w7 w9 from bt hb8 hb9)
                clear hC8 hb8 hb9
                go_wp2
                go_roundw
                case rel =>
                  refine ⟨j + 1, by omega, by go_num, Lib.hid ⟨((H3.out.om.below HB6.out).kept HG7.out (Ne.symm hrow)).below HB9.out, ?_, bt (HB7.out.grown HG7.out HB7.out.size (fun k hk => by have := (H3.out.own.lt k hk).1; omega)) HB9.out⟩⟩
                  have e1 : (33 * i + j) / 33 = i := by omega
                  have e2 : (33 * i + j) % 33 = j := by omega
                  rw [← Nat.add_assoc, ofL, e1, e2, ← HC1.out, if_pos hc0, OwnP, pcells_append, List.length_append]
                  exact rowP_grow HV7.out HB9.out
                case measure => simp [intOf]; omega
              · go_wp2_with (at_lookup; refine wpList_look rfl _ _ rfl W.heap.size n (sl l) rfl (H3.out.om.below (by (repeat (first | assumption | exact Below.refl _ _ | refine ba ?_ _ | refine bd ?_ | refine bdn ?_ _ | refine bs ?_ (by first | omega | (simp; done) | (simp; omega)) _ | refine bt ?_ (by assumption))))) i j rfl ii ij ?_; rw [← HC1.out])
                go_roundw
                case rel =>
                  refine ⟨j + 1, by omega, by go_num, Lib.hid ⟨H3.out.om.below (by (repeat (first | assumption | exact Below.refl _ _ | refine ba ?_ _ | refine bd ?_ | refine bdn ?_ _ | refine bs ?_ (by first | omega | (simp; done) | (simp; omega)) _ | refine bt ?_ (by assumption)))), ?_, by (repeat (first | assumption | exact Below.refl _ _ | refine ba ?_ _ | refine bd ?_ | refine bdn ?_ _ | refine bs ?_ (by first | omega | (simp; done) | (simp; omega)) _ | refine bt ?_ (by assumption)))⟩⟩
                  have e1 : (33 * i + j) / 33 = i := by omega
                  have e2 : (33 * i + j) % 33 = j := by omega
                  rw [← Nat.add_assoc, ofL, e1, e2, ← HC1.out, if_neg hc0, List.append_nil]
                  exact rowP_grow H3.out.own (by (repeat (first | assumption | exact Below.refl _ _ | refine ba ?_ _ | refine bd ?_ | refine bdn ?_ _ | refine bs ?_ (by first | omega | (simp; done) | (simp; omega)) _ | refine bt ?_ (by assumption))))
                case measure => simp [intOf]; omega
            · obtain rfl : j = 33 := by omega
              go_wp2
              go_roundw
              case rel => exact ⟨i + 1, by omega, by go_num, by rw [Nat.mul_add]; exact H3⟩
              case measure => simp [intOf]; omega
        · obtain rfl : i = 4 := by omega
          have HV := Lib.hid (show OwnP wo (W.heap.size + 1) _ (ofV l) from H2.out.own)
          have HB := Lib.hid H2.out.bel
          clear H2
          go_wp2
          go_ret2
          exact RetO.some HX.out HV.out.vc (by have := HB.out; (repeat (first | assumption | exact Below.refl _ _ | refine ba ?_ _ | refine bd ?_ | refine bdn ?_ _ | refine bs ?_ (by first | omega | (simp; done) | (simp; omega)) _ | refine bt ?_ (by assumption))))
end Go.Proofs.Ytnckjacbkhoppaa

/- The document's Holds, Add, Sub, Least at any two slices of parts. -/
import Derived.Test.YtlhljioncgddeaaDoorVr3
import Derived.Test.YtlhljioncgddeaaDoorVecL
namespace Go.Proofs.YtlhljioncgddeaaDoor
open Go.RowKit
attribute [local go_sem] ext_cell ext_frozen Mix.extG_cell Mix.extG_frozen Mix.calmUpon Mix.mUpon
theorem sl_append (l m : List Pt) (k r : Int) : sl (l ++ m) k r = sl l k r + sl m k r := by
  induction l with
  | nil => simp [sl]
  | cons p t ih => rw [List.cons_append, sl, ih, sl]; omega
theorem sl_gt {l : List Pt} (h : VR l) (k r : Int) : sl l k r = gt l k r := by
  induction l with
  | nil => rfl
  | cons p t ih =>
    rw [sl, gt, ih h.tail]
    by_cases he : p.1 = k ∧ p.2.1 = r
    · rw [if_pos he, if_pos he, gt_ahead (l := t) (k := k) (r := r) (fun x hx => by have := h.lt x hx; unfold qy at this ⊢; rw [he.1, he.2] at this; exact this)]; omega
    · rw [if_neg he, if_neg he]; omega
theorem vr_parts {l : List Pt} (h : VR l) : ∀ p ∈ l, LOk p.1 p.2.1 ∧ 0 ≤ p.2.2 := fun p hp => ⟨(h.1 p hp).1, by have := (h.1 p hp).2.1; omega⟩
/-- The parts of two valid vectors together have the vector that is their sum. -/
theorem ofO_append {a b : List Pt} (ha : VR a) (hb : VR b) : ofO (a ++ b) = mrg gAdd a b := by
  have hs : ∀ k r, sl (a ++ b) k r = gt a k r + gt b k r := fun k r => by rw [sl_append, sl_gt ha, sl_gt hb]
  have hp : ∀ p ∈ a ++ b, LOk p.1 p.2.1 ∧ 0 ≤ p.2.2 := fun p hp => by
    rcases List.mem_append.1 hp with hp | hp
    · exact vr_parts ha p hp
    · exact vr_parts hb p hp
  cases hm : mrg gAdd a b with
  | some l =>
    obtain ⟨_, _, hl, hg⟩ := mrg_some gAdd0 gAddB hm
    have hv : ∀ k r, gt a k r + gt b k r ≤ 9007199254740992 ∧ gt l k r = gt a k r + gt b k r := fun k r => by
      have := hg k r; unfold gAdd at this; split at this
      · rename_i h; exact ⟨h, (Option.some.inj this).symm⟩
      · cases this
    have hok : OfOk (a ++ b) := ⟨hp, fun k r => by rw [hs]; exact (hv k r).1⟩
    unfold ofO; rw [if_pos hok]
    exact congrArg Option.some (vr_ext (ofV_vr hok) hl fun k r => by rw [ofV_gt hok, hs, (hv k r).2])
  | none =>
    unfold ofO; rw [if_neg]
    intro hok
    obtain ⟨l, hl⟩ := mrg_of gAdd0 gAddB ha hb fun k r h => by
      unfold gAdd at h
      rw [if_pos (by have := hok.2 k r; rw [hs] at this; exact this)] at h
      cases h
    rw [hm] at hl; cases hl
/-- The parts with other amounts, where they have one. -/
def fL (F : Int → Int → Int → Int) : List Pt → List Pt
  | [] => []
  | p :: t => if F p.1 p.2.1 p.2.2 = 0 then fL F t else (p.1, p.2.1, F p.1 p.2.1 p.2.2) :: fL F t
theorem fL_snoc (F : Int → Int → Int → Int) (p : Pt) : ∀ l, fL F (l ++ [p]) = wl (fL F l) p.1 p.2.1 (F p.1 p.2.1 p.2.2)
  | [] => by
    simp only [List.nil_append, fL, wl]
  | q :: t => by
    rw [List.cons_append, fL, fL_snoc F p t, fL]
    split
    · rfl
    · unfold wl; split <;> simp
theorem fL_mem {F : Int → Int → Int → Int} : ∀ {l : List Pt} {x : Pt}, x ∈ fL F l → ∃ p ∈ l, x.1 = p.1 ∧ x.2.1 = p.2.1 ∧ x.2.2 = F p.1 p.2.1 p.2.2 ∧ x.2.2 ≠ 0
  | [], x, h => by simp [fL] at h
  | p :: t, x, h => by
    rw [fL] at h; split at h
    · obtain ⟨q, hq, e⟩ := fL_mem h; exact ⟨q, by simp [hq], e⟩
    · rename_i h0
      rcases List.mem_cons.1 h with rfl | h
      · exact ⟨p, by simp, rfl, rfl, rfl, h0⟩
      · obtain ⟨q, hq, e⟩ := fL_mem h; exact ⟨q, by simp [hq], e⟩
theorem fL_vr {F : Int → Int → Int → Int} : ∀ {l : List Pt}, VR l → (∀ p ∈ l, 0 ≤ F p.1 p.2.1 p.2.2 ∧ F p.1 p.2.1 p.2.2 ≤ 9007199254740992) → VR (fL F l) ∧ ∀ k r, gt (fL F l) k r = if 0 < gt l k r then F k r (gt l k r) else 0
  | [], _, _ => ⟨VR.nil, fun k r => by simp [fL, gt]⟩
  | p :: t, h, hF => by
    obtain ⟨i1, i2⟩ := fL_vr h.tail fun q hq => hF q (by simp [hq])
    have hp := hF p (by simp)
    have hpo := h.head
    have hlt : ∀ x ∈ fL F t, qy p < qy x := fun x hx => by
      obtain ⟨q, hq, e1, e2, _⟩ := fL_mem hx
      have := h.lt q hq; unfold qy at this ⊢; rw [e1, e2]; exact this
    have h0 : ∀ k r, p.1 = k ∧ p.2.1 = r → gt t k r = 0 ∧ gt (fL F t) k r = 0 := fun k r he =>
      ⟨gt_ahead fun x hx => by have := h.lt x hx; unfold qy at this ⊢; rw [he.1, he.2] at this; exact this,
       gt_ahead fun x hx => by have := hlt x hx; unfold qy at this ⊢; rw [he.1, he.2] at this; exact this⟩
    rw [fL]
    by_cases hz : F p.1 p.2.1 p.2.2 = 0
    · rw [if_pos hz]
      refine ⟨i1, fun k r => ?_⟩
      rw [gt]
      by_cases he : p.1 = k ∧ p.2.1 = r
      · rw [if_pos he, (h0 k r he).2]; obtain ⟨rfl, rfl⟩ := he; rw [hz]; simp
      · rw [if_neg he]; exact i2 k r
    · rw [if_neg hz]
      refine ⟨VR.cons ⟨hpo.1, by show 1 ≤ F _ _ _; omega, hp.2⟩ hlt i1, fun k r => ?_⟩
      rw [gt, gt]
      by_cases he : p.1 = k ∧ p.2.1 = r
      · rw [if_pos he, if_pos he]; obtain ⟨rfl, rfl⟩ := he
        rw [if_pos (by have := hpo.2.1; omega)]
      · rw [if_neg he, if_neg he]; exact i2 k r
/-- What is held, part by part. -/
theorem hld_iff {a b : List Pt} (ha : VR a) (hb : VR b) : HLD a b ↔ ∀ p ∈ b, p.2.2 ≤ gt a p.1 p.2.1 := by
  constructor
  · intro h p hp
    have h1 := h.2.2 p.1 p.2.1
    have h2 : gt b p.1 p.2.1 = p.2.2 := by
      rw [← sl_gt hb]
      clear h1 h ha
      induction b with
      | nil => simp at hp
      | cons q t ih =>
        rw [sl]
        rcases List.mem_cons.1 hp with rfl | hp'
        · rw [if_pos ⟨rfl, rfl⟩, sl_gt hb.tail, gt_ahead (l := t) (fun x hx => hb.lt x hx)]; omega
        · have hne : ¬ (q.1 = p.1 ∧ q.2.1 = p.2.1) := fun e => by
            have := hb.lt p hp'; unfold qy at this; rw [e.1, e.2] at this; omega
          rw [if_neg hne, ih hb.tail hp']; omega
    omega
  · intro h
    refine ⟨ha, hb, fun k r => ?_⟩
    by_cases h0 : 0 < gt b k r
    · obtain ⟨x, hx, e1, e2⟩ := (gt_pos hb).1 h0
      have h1 := h x hx
      rw [e1, e2] at h1
      have h2 : gt b k r = x.2.2 := by
        rw [← sl_gt hb]
        clear h1 h h0 ha
        induction b with
        | nil => simp at hx
        | cons q t ih =>
          rw [sl]
          rcases List.mem_cons.1 hx with rfl | hx'
          · rw [if_pos ⟨e1, e2⟩, sl_gt hb.tail, gt_ahead (l := t) (fun y hy => by have := hb.lt y hy; unfold qy at this ⊢; rw [e1, e2] at this; exact this)]; omega
          · have hne : ¬ (q.1 = k ∧ q.2.1 = r) := fun e => by
              have := hb.lt x hx'; unfold qy at this; rw [e.1, e.2, e1, e2] at this; omega
            rw [if_neg hne, ih hb.tail hx']; omega
      omega
    · have := gt_nn ha k r; omega
theorem sub_fL {a b : List Pt} (h : HLD a b) : mrg gSub a b = some (fL (fun k r x => x - gt b k r) a) := by
  obtain ⟨l, hl⟩ := Option.isSome_iff_exists.1 ((sub_iff a b).2 h)
  obtain ⟨ha, hb, hv, hg⟩ := mrg_some gSub0 gSubB hl
  rw [hl]
  have hF : ∀ p ∈ a, 0 ≤ p.2.2 - gt b p.1 p.2.1 ∧ p.2.2 - gt b p.1 p.2.1 ≤ 9007199254740992 := fun p hp => by
    have h1 := ha.1 p hp
    have h2 := (hld_iff ha ha).1 (hld_self.2 ha) p hp
    have h3 := gt_nn hb p.1 p.2.1
    have h4 := h.2.2 p.1 p.2.1
    have h5 : gt a p.1 p.2.1 = p.2.2 := by
      have e := (gt_pos ha (k := p.1) (r := p.2.1)).2 ⟨p, hp, rfl, rfl⟩
      rw [← sl_gt ha]
      clear h2 h4 h3 e h hl hg hv
      induction a with
      | nil => simp at hp
      | cons q t ih =>
        rw [sl]
        rcases List.mem_cons.1 hp with rfl | hp'
        · rw [if_pos ⟨rfl, rfl⟩, sl_gt ha.tail, gt_ahead (l := t) (fun x hx => ha.lt x hx)]; omega
        · have hne : ¬ (q.1 = p.1 ∧ q.2.1 = p.2.1) := fun e => by
            have := ha.lt p hp'; unfold qy at this; rw [e.1, e.2] at this; omega
          rw [if_neg hne, ih ha.tail hp']; omega
    have := h1.2.2
    omega
  obtain ⟨v, g⟩ := fL_vr (F := fun k r x => x - gt b k r) ha hF
  rw [vr_ext hv v fun k r => ?_]
  rw [g]
  have h1 := hg k r
  unfold gSub at h1
  rw [if_pos (h.2.2 k r)] at h1
  have h1 := Option.some.inj h1
  have h2 := gt_nn ha k r; have h3 := gt_nn hb k r; have h4 := h.2.2 k r
  split <;> omega
theorem min_fL {a b : List Pt} (ha : VR a) (hb : VR b) : mrg gMin a b = some (fL (fun k r x => min x (gt b k r)) a) := by
  obtain ⟨l, hl⟩ := min_some ha hb
  obtain ⟨_, _, hv, hg⟩ := mrg_some gMin0 gMinB hl
  rw [hl]
  have hF : ∀ p ∈ a, 0 ≤ min p.2.2 (gt b p.1 p.2.1) ∧ min p.2.2 (gt b p.1 p.2.1) ≤ 9007199254740992 := fun p hp => by
    have h1 := ha.1 p hp
    have h3 := gt_nn hb p.1 p.2.1
    have := h1.2
    omega
  obtain ⟨v, g⟩ := fL_vr (F := fun k r x => min x (gt b k r)) ha hF
  rw [vr_ext hv v fun k r => ?_]
  rw [g]
  have h1 := Option.some.inj (hg k r)
  have h2 := gt_nn ha k r; have h3 := gt_nn hb k r
  rw [← h1]
  split
  · split <;> omega
  · split <;> omega

theorem run_append_vc (w : World) (B : Nat) (v x : Value) (l m : List Pt) (ty : TypeId) (hO : OwnP w B v l) (hx : Vc w x m) (hlen : l.length + m.length ≤ 1000000) (hB : B ≤ w.heap.size) :
    ∃ v' w', (Builtin.append_ #[22, 22] ty #[v, x]).run Tryd.prog w = .ok v' w' ∧ OwnP w' B v' (l ++ m) ∧ w.grownBy w' v.ownBlock := by
  obtain ⟨i0, hi, hz0, hz1, hz2⟩ := info_parts infoPart
  rcases hx with ⟨rfl, rfl⟩ | ⟨b, off, cap, rfl, h2, h3, h4, h5⟩
  · exact ⟨v, w, run_append_owned_none w B 22 ty 64 i0 3 Tryd.underlying22 hi v l.length (pcells l) hO, by rw [List.append_nil]; exact hO, ⟨rfl, rfl, rfl, Nat.le_refl _, fun _ _ _ => rfl⟩⟩
  · obtain ⟨v', w', e1, e2, e3, _⟩ := run_append_own (P := Tryd.prog) w B 22 ty 64 i0 (.agg #[.int .i64 0, .int .i64 0, .int .i64 0]) 3 24 Tryd.underlying22 hi hz0 hz1 hz2 rfl (by decide) v l.length (pcells l) hO ⟨b, off, none⟩ m.length cap (pcells m) (pcells_len m) (parts_cells h5) (pcells_one m) (by unfold maxLen; omega) (by omega) hB
    exact ⟨v', w', e1, by rw [OwnP, List.length_append, pcells_append]; exact e2, e3⟩
theorem wpList_append_vc {w : World} {ops : Array Oper} {rest : List Oper} {o : Oper} {a : Act} {Q : Exit → Act → World → Prop} (hgd : o.guard = none) (s y : Operand)
    (ho : o.op = .call { callee := .builtin .append, args := #[s, y], argTypes := #[22, 22] }) (B : Nat) (v x : Value) (l m : List Pt) (hs : a.eval s = v) (hy : a.eval y = x)
    (hO : OwnP w B v l) (hx : Vc w x m) (hlen : l.length + m.length ≤ 1000000) (hB : B ≤ w.heap.size)
    (h : ∀ v' w', OwnP w' B v' (l ++ m) → w.grownBy w' v.ownBlock → wpList Tryd.prog ops Q rest (a.put o.dst v') w') : wpList Tryd.prog ops Q (o :: rest) a w := by
  refine wpList_plain hgd fun K hK => ?_
  obtain ⟨v', w', hrun, h1, h2⟩ := run_append_vc w B v x l m o.type hO hx hlen hB
  unfold Oper.wp
  simp [execOp, ho, resolve, invoke, builtin, hs, hy, hrun, Result.andThen]
  exact hK _ _ (h v' w' h1 h2)
set_option maxRecDepth 100000 in
theorem with_g (B : Nat) (v : Value) (l : List Pt) (k r n : Int) (hl : l.length < 1000000) (W : World) (hB : B ≤ W.heap.size) (hO : OwnP W B v l) : Calls Tryd.prog 49 #[v, L2 k r, .int .i64 n] W fun e w' => ∃ u, e = .returned u ∧ OwnP w' B u (wl l k r n) ∧ W.grownBy w' v.ownBlock := by
  obtain ⟨i0, hi, hz0, hz1, hz2⟩ := info_parts infoPart
  have HO := Lib.hid hO
  by_cases h : n = 0
  · have HE := Lib.hid (show wl l k r n = l from if_pos h)
    subst h
    clear hO
    go_enter Tryd.func49, Tryd.ntmps49
    go_wp2
    go_ret
    exact ⟨_, rfl, by rw [HE.out]; exact rowP_grow HO.out (ba (Below.refl _ _) _), Mix.grown_of _ (ba (Below.refl _ _) _)⟩
  · have HE := Lib.hid (show wl l k r n = l ++ [(k, r, n)] from if_neg h)
    have hb : (n == 0) = false := by simpa using h
    clear hO h
    go_enter Tryd.func49, Tryd.ntmps49
    go_wp2_with (at_builtin; refine wpList_append_own _ rfl _ _ 22 rfl B 64 i0 (.agg #[.int .i64 0, .int .i64 0, .int .i64 0]) 3 24 Tryd.underlying22 hi hz0 hz1 hz2 rfl (by decide) _ _ _ rfl ((rowP_grow HO.out (ba (Below.refl _ _) (.cells #[.int .i64 k, .int .i64 r] 24))).alloc _) ⟨_, 0, none⟩ 1 1 [.int .i64 k, .int .i64 r, .int .i64 n] rfl rfl ?c1 ?c2 ?c3 ?c4 ?c5 ?_)
    case c1 => intro q u' hq; rcases q with _ | _ | _ | q <;> simp at hq <;> subst hq <;> simp [Addr.add, go_sem]
    case c2 => intro u' hu; simp at hu; rcases hu with rfl | rfl | rfl <;> rfl
    case c3 => unfold maxLen; omega
    case c4 => omega
    case c5 => simp; omega
    intro v' w1 hown' hgrow _
    have HV := Lib.hid hown'; have HG := Lib.hid hgrow
    clear hown' hgrow
    go_wp2
    go_ret
    refine ⟨_, rfl, by rw [HE.out, OwnP, pcells_append, List.length_append]; exact HV.out, (Mix.grown_of _ (ba (ba (Below.refl _ _) _) _)).trans HG.out⟩
set_option maxRecDepth 100000 in
set_option maxHeartbeats 4000000 in
theorem rholds_any (va vb : Value) (la lb : List Pt) (hl : la.length < 1000000000) (hl' : lb.length < 1000000000) : PureOn (fun w => Vc w va la ∧ Vc w vb lb) Tryd.prog 29 #[va, vb] (.bool (hB la lb)) := by
  intro W ⟨hA, hV⟩
  have HA := Lib.hid hA; have HV := Lib.hid hV
  obtain ⟨a, n, cap, rfl, hn, hC⟩ := hV.cells
  have HC := Lib.hid hC; have HN := Lib.hid hn
  have hn9 : n < 1000000000 := by omega
  have HGet := Lib.hid fun k r => rget_any va la k r hl
  have R1 := rright_v va la hl
  have R2 := rright_v (.slice a n cap) lb hl'
  obtain ⟨g, hg⟩ : ∃ g, g = hB la lb := ⟨_, rfl⟩
  have HG := Lib.hid hg
  rw [← hg]
  clear hA hV hC hn hg hl hl'
  go_enter Tryd.func29, Tryd.ntmps29
  go_wp2
  go_loopw [5] (fun i wr => ∃ t : Nat, t ≤ n ∧ i = .int .i64 t ∧ Hid (∀ p ∈ lb.take t, p.2.2 ≤ gt la p.1 p.2.1) ∧ Below W.heap.size W wr) (fun i _ => n - (intOf i).toNat)
  case atStart => exact ⟨0, Nat.zero_le _, rfl, Lib.hid (fun p hp => by simp at hp), by (repeat (first | assumption | exact Below.refl _ _ | refine ba ?_ _ | refine bd ?_ | refine bdn ?_ _ | refine bs ?_ (by first | omega | (simp; done) | (simp; omega)) _ | refine bt ?_ (by assumption)))⟩
  case round =>
    obtain ⟨t, ht, rfl, HS, hb1⟩ := hrel
    obtain ⟨w1, rfl⟩ : ∃ w1, w1 = wr := ⟨_, rfl⟩
    have hs1 : W.heap.size + 0 ≤ w1.heap.size := (by have h := hb1.size; first | omega | (simp at h; omega))
    obtain ⟨hc1, hf1, hl1⟩ := bcell hb1
    clear hl1
    have HA1 := Lib.hid (HA.out.on hb1)
    by_cases hlt : t < n
    · have hts : (t : Int) < (n : Int) := by omega
      have hll : t < lb.length := by rw [← HN.out]; exact hlt
      obtain ⟨b, off, rfl, hb, c0, c1, c2⟩ := HC.out t hlt
      have hbl : b < w1.heap.size := Nat.lt_of_lt_of_le hb hb1.size
      have HP := Lib.hid (partedV hll)
      have HT := Lib.hid (take_succ' hll)
      clear hll
      generalize kk lb t = k at *; generalize rr lb t = r at *; generalize aa lb t = x at *
      have HO := Lib.hid (refslot_any k r x)
      have G1 := HGet.out k r
      obtain ⟨y, hy⟩ : ∃ y, y = gt la k r := ⟨_, rfl⟩
      rw [← hy] at G1
      have G1 := Lib.hid G1
      have HY := Lib.hid hy
      have X1 := Lib.hid (fun z : Ext w1 => HA1.out.on (ext_below _ z))
      clear hy
      by_cases he : y < x
      · have HX := Lib.hid (show g = false by
          rw [HG.out]
          cases hq : hB la lb with
          | false => rfl
          | true =>
            have h1 := (hB_iff _ _).1 hq
            have h2 := (hld_iff h1.1 h1.2.1).1 h1 (k, r, x) (by rw [HP.out]; simp)
            have h3 : y < x := he
            rw [HY.out] at h3
            have h4 : x ≤ gt la k r := h2
            omega)
        go_wp2_with fail
        refine wp_region_pure (by kernel_rfl) (by kernel_rfl) ?_
        repeat (first | go_big_quiet_step (((first | (go_at_call 46; with_reducible exact HO.out.quiet) | (go_at_call 18; with_reducible exact G1.out.quiet (clo_Vc _ _) HA1.out)))) | (quiet_step (((first | (go_at_call 46; with_reducible exact HO.out.quiet) | (go_at_call 18; with_reducible exact G1.out.quiet (clo_Vc _ _) HA1.out))))))
        refine wpQuiet_nil ?_
        rintro w2 ⟨x2, hx2⟩
        have hb2 := ext_below _ x2
        rw [← hx2] at hb2
        clear hx2 x2
        have hs2 : w1.heap.size + 0 ≤ w2.heap.size := (by have h := hb2.size; first | omega | (simp at h; omega))
        have hb1_2 := bel hb1 hb2 (by (repeat (first | assumption | exact Below.refl _ _ | refine ba ?_ _ | refine bd ?_ | refine bdn ?_ _ | refine bs ?_ (by first | omega | (simp; done) | (simp; omega)) _ | refine bt ?_ (by assumption))))
        clear hc1 hf1
        obtain ⟨hc2, hf2, hl2⟩ := bcell hb2
        clear hl2
        go_wp2
        go_ret
        exact ⟨by rw [HX.out]; rfl, by (repeat (first | assumption | exact Below.refl _ _ | refine ba ?_ _ | refine bd ?_ | refine bdn ?_ _ | refine bs ?_ (by first | omega | (simp; done) | (simp; omega)) _ | refine bt ?_ (by assumption)))⟩
      · have he' : x ≤ y := by omega
        have hef : (y < x) = False := eq_false he
        clear he
        go_wp2_with fail
        refine wp_region_pure (by kernel_rfl) (by kernel_rfl) ?_
        repeat (first | go_big_quiet_step (((first | (go_at_call 46; with_reducible exact HO.out.quiet) | (go_at_call 18; with_reducible exact G1.out.quiet (clo_Vc _ _) HA1.out)))) | (quiet_step (((first | (go_at_call 46; with_reducible exact HO.out.quiet) | (go_at_call 18; with_reducible exact G1.out.quiet (clo_Vc _ _) HA1.out))))))
        refine wpQuiet_nil ?_
        rintro w2 ⟨x2, hx2⟩
        have hb2 := ext_below _ x2
        rw [← hx2] at hb2
        clear hx2 x2
        have hs2 : w1.heap.size + 0 ≤ w2.heap.size := (by have h := hb2.size; first | omega | (simp at h; omega))
        have hb1_2 := bel hb1 hb2 (by (repeat (first | assumption | exact Below.refl _ _ | refine ba ?_ _ | refine bd ?_ | refine bdn ?_ _ | refine bs ?_ (by first | omega | (simp; done) | (simp; omega)) _ | refine bt ?_ (by assumption))))
        clear hc1 hf1
        obtain ⟨hc2, hf2, hl2⟩ := bcell hb2
        clear hl2
        go_wp2
        go_roundw
        case rel =>
          refine ⟨t + 1, by omega, by go_num, Lib.hid fun p hp => ?_, by (repeat (first | assumption | exact Below.refl _ _ | refine ba ?_ _ | refine bd ?_ | refine bdn ?_ _ | refine bs ?_ (by first | omega | (simp; done) | (simp; omega)) _ | refine bt ?_ (by assumption)))⟩
          rw [HT.out] at hp
          rcases List.mem_append.1 hp with hp | hp
          · exact HS.out p hp
          · rw [List.mem_singleton.1 hp]; show x ≤ gt la k r; rw [← HY.out]; exact he'
        case measure => simp [intOf]; omega
    · obtain rfl : n = t := by omega
      have HL := HS.out
      rw [show lb.take n = lb from by rw [HN.out]; exact List.take_length] at HL
      have HL := Lib.hid HL
      by_cases h1 : VR la
      · rw [decide_eq_true h1] at R1
        have R1 := Lib.hid R1
        by_cases h2 : VR lb
        · rw [decide_eq_true h2] at R2
          have R2 := Lib.hid R2
          have HX := Lib.hid (show g = true by rw [HG.out]; exact (hB_iff _ _).2 ((hld_iff h1 h2).2 HL.out))
          go_wp2_with fail
          (with_reducible refine (R1.out.app _ (HA1.out.on (by (repeat (first | assumption | exact Below.refl _ _ | refine ba ?_ _ | refine bd ?_ | refine bdn ?_ _ | refine bs ?_ (by first | omega | (simp; done) | (simp; omega)) _ | refine bt ?_ (by assumption)))))).mono ?_)
          rintro e w2 ⟨rfl, hb2⟩
          have hs2 : w1.heap.size + 0 ≤ w2.heap.size := (by have h := hb2.size; first | omega | (simp at h; omega))
          have hb1_2 := bel hb1 hb2 (by (repeat (first | assumption | exact Below.refl _ _ | refine ba ?_ _ | refine bd ?_ | refine bdn ?_ _ | refine bs ?_ (by first | omega | (simp; done) | (simp; omega)) _ | refine bt ?_ (by assumption))))
          clear hc1 hf1
          obtain ⟨hc2, hf2, hl2⟩ := bcell hb2
          clear hl2
          go_wp2_with fail
          (with_reducible refine (R2.out.app _ (HV.out.on (by (repeat (first | assumption | exact Below.refl _ _ | refine ba ?_ _ | refine bd ?_ | refine bdn ?_ _ | refine bs ?_ (by first | omega | (simp; done) | (simp; omega)) _ | refine bt ?_ (by assumption)))))).mono ?_)
          rintro e w3 ⟨rfl, hb3⟩
          have hs3 : w2.heap.size + 0 ≤ w3.heap.size := (by have h := hb3.size; first | omega | (simp at h; omega))
          have hb1_3 := bel hb1_2 hb3 (by (repeat (first | assumption | exact Below.refl _ _ | refine ba ?_ _ | refine bd ?_ | refine bdn ?_ _ | refine bs ?_ (by first | omega | (simp; done) | (simp; omega)) _ | refine bt ?_ (by assumption))))
          have hb2_3 := bel hb2 hb3 (by (repeat (first | assumption | exact Below.refl _ _ | refine ba ?_ _ | refine bd ?_ | refine bdn ?_ _ | refine bs ?_ (by first | omega | (simp; done) | (simp; omega)) _ | refine bt ?_ (by assumption))))
          clear hc2 hf2
          obtain ⟨hc3, hf3, hl3⟩ := bcell hb3
          clear hl3
          go_wp2
          go_ret
          exact ⟨by rw [HX.out]; rfl, by (repeat (first | assumption | exact Below.refl _ _ | refine ba ?_ _ | refine bd ?_ | refine bdn ?_ _ | refine bs ?_ (by first | omega | (simp; done) | (simp; omega)) _ | refine bt ?_ (by assumption)))⟩
        · rw [decide_eq_false h2] at R2
          have R2 := Lib.hid R2
          have HX := Lib.hid (show g = false by
            rw [HG.out]
            cases hq : hB la lb with
            | false => rfl
            | true => exact absurd ((hB_iff _ _).1 hq).2.1 h2)
          go_wp2_with fail
          (with_reducible refine (R1.out.app _ (HA1.out.on (by (repeat (first | assumption | exact Below.refl _ _ | refine ba ?_ _ | refine bd ?_ | refine bdn ?_ _ | refine bs ?_ (by first | omega | (simp; done) | (simp; omega)) _ | refine bt ?_ (by assumption)))))).mono ?_)
          rintro e w2 ⟨rfl, hb2⟩
          have hs2 : w1.heap.size + 0 ≤ w2.heap.size := (by have h := hb2.size; first | omega | (simp at h; omega))
          have hb1_2 := bel hb1 hb2 (by (repeat (first | assumption | exact Below.refl _ _ | refine ba ?_ _ | refine bd ?_ | refine bdn ?_ _ | refine bs ?_ (by first | omega | (simp; done) | (simp; omega)) _ | refine bt ?_ (by assumption))))
          clear hc1 hf1
          obtain ⟨hc2, hf2, hl2⟩ := bcell hb2
          clear hl2
          go_wp2_with fail
          (with_reducible refine (R2.out.app _ (HV.out.on (by (repeat (first | assumption | exact Below.refl _ _ | refine ba ?_ _ | refine bd ?_ | refine bdn ?_ _ | refine bs ?_ (by first | omega | (simp; done) | (simp; omega)) _ | refine bt ?_ (by assumption)))))).mono ?_)
          rintro e w3 ⟨rfl, hb3⟩
          have hs3 : w2.heap.size + 0 ≤ w3.heap.size := (by have h := hb3.size; first | omega | (simp at h; omega))
          have hb1_3 := bel hb1_2 hb3 (by (repeat (first | assumption | exact Below.refl _ _ | refine ba ?_ _ | refine bd ?_ | refine bdn ?_ _ | refine bs ?_ (by first | omega | (simp; done) | (simp; omega)) _ | refine bt ?_ (by assumption))))
          have hb2_3 := bel hb2 hb3 (by (repeat (first | assumption | exact Below.refl _ _ | refine ba ?_ _ | refine bd ?_ | refine bdn ?_ _ | refine bs ?_ (by first | omega | (simp; done) | (simp; omega)) _ | refine bt ?_ (by assumption))))
          clear hc2 hf2
          obtain ⟨hc3, hf3, hl3⟩ := bcell hb3
          clear hl3
          go_wp2
          go_ret
          exact ⟨by rw [HX.out]; rfl, by (repeat (first | assumption | exact Below.refl _ _ | refine ba ?_ _ | refine bd ?_ | refine bdn ?_ _ | refine bs ?_ (by first | omega | (simp; done) | (simp; omega)) _ | refine bt ?_ (by assumption)))⟩
      · rw [decide_eq_false h1] at R1
        have R1 := Lib.hid R1
        have HX := Lib.hid (show g = false by
          rw [HG.out]
          cases hq : hB la lb with
          | false => rfl
          | true => exact absurd ((hB_iff _ _).1 hq).1 h1)
        go_wp2_with fail
        (with_reducible refine (R1.out.app _ (HA1.out.on (by (repeat (first | assumption | exact Below.refl _ _ | refine ba ?_ _ | refine bd ?_ | refine bdn ?_ _ | refine bs ?_ (by first | omega | (simp; done) | (simp; omega)) _ | refine bt ?_ (by assumption)))))).mono ?_)
        rintro e w2 ⟨rfl, hb2⟩
        have hs2 : w1.heap.size + 0 ≤ w2.heap.size := (by have h := hb2.size; first | omega | (simp at h; omega))
        have hb1_2 := bel hb1 hb2 (by (repeat (first | assumption | exact Below.refl _ _ | refine ba ?_ _ | refine bd ?_ | refine bdn ?_ _ | refine bs ?_ (by first | omega | (simp; done) | (simp; omega)) _ | refine bt ?_ (by assumption))))
        clear hc1 hf1
        obtain ⟨hc2, hf2, hl2⟩ := bcell hb2
        clear hl2
        go_wp2
        go_ret
        exact ⟨by rw [HX.out]; rfl, by (repeat (first | assumption | exact Below.refl _ _ | refine ba ?_ _ | refine bd ?_ | refine bdn ?_ _ | refine bs ?_ (by first | omega | (simp; done) | (simp; omega)) _ | refine bt ?_ (by assumption)))⟩
end Go.Proofs.YtlhljioncgddeaaDoor

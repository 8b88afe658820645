/- The document's Of at any slice of parts. Condition: the numbers are int64. -/
import Derived.Test.YtlhljioncgddeaaDoorVr2
namespace Go.Proofs.YtlhljioncgddeaaDoor
open Go.RowKit
attribute [local go_sem] ext_cell ext_frozen Mix.calmUpon Mix.mUpon
/-- The amounts of a place. -/
def am : List Pt → Int → Int → List Int
  | [], _, _ => []
  | p :: t, k, r => if p.1 = k ∧ p.2.1 = r then p.2.2 :: am t k r else am t k r
theorem am_sum (k r : Int) : ∀ l, (am l k r).sum = sl l k r
  | [] => rfl
  | p :: t => by
    rw [am, sl]; split
    · rw [List.sum_cons, am_sum k r t]
    · rw [am_sum k r t]; omega
theorem am_mem {k r x : Int} : ∀ {l : List Pt}, x ∈ am l k r → ∃ p ∈ l, p.1 = k ∧ p.2.1 = r ∧ p.2.2 = x
  | [], h => by simp [am] at h
  | p :: t, h => by
    rw [am] at h; split at h
    · rename_i e
      rcases List.mem_cons.1 h with rfl | h
      · exact ⟨p, by simp, e.1, e.2, rfl⟩
      · obtain ⟨q, hq, e'⟩ := am_mem h; exact ⟨q, by simp [hq], e'⟩
    · obtain ⟨q, hq, e'⟩ := am_mem h; exact ⟨q, by simp [hq], e'⟩
theorem mem_am : ∀ {l : List Pt} {p : Pt}, p ∈ l → p.2.2 ∈ am l p.1 p.2.1
  | q :: t, p, h => by
    rw [am]
    rcases List.mem_cons.1 h with rfl | h
    · rw [if_pos ⟨rfl, rfl⟩]; simp
    · split
      · exact List.mem_cons_of_mem _ (mem_am h)
      · exact mem_am h
theorem am_snoc (k r : Int) (p : Pt) : ∀ l, am (l ++ [p]) k r = am l k r ++ (if p.1 = k ∧ p.2.1 = r then [p.2.2] else [])
  | [] => by simp only [List.nil_append, am]
  | q :: t => by
    rw [List.cons_append, am, am_snoc k r p t, am]; split <;> rfl
theorem am_len (k r : Int) : ∀ l, (am l k r).length ≤ l.length
  | [] => Nat.le_refl _
  | p :: t => by have := am_len k r t; rw [am]; split <;> simp <;> omega
theorem smOk_am {l : List Pt} (h : OfOk l) (k r : Int) : SmOk (am l k r) := by
  refine ⟨fun x hx => ?_, by rw [am_sum]; exact h.2 k r⟩
  obtain ⟨p, hp, _, _, rfl⟩ := am_mem hx
  exact (h.1 p hp).2
theorem ofOk_am {l : List Pt} (h1 : ∀ p ∈ l, LOk p.1 p.2.1) (h2 : ∀ j, j < 132 → SmOk (am l (j / 33 : Nat) (j % 33 : Nat))) : OfOk l := by
  have at' : ∀ k r, LOk k r → SmOk (am l k r) := fun k r h => by
    obtain ⟨a, b, c, d⟩ := h
    have := h2 (k * 33 + r).toNat (by omega)
    rw [show (((k * 33 + r).toNat / 33 : Nat) : Int) = k by omega, show (((k * 33 + r).toNat % 33 : Nat) : Int) = r by omega] at this
    exact this
  refine ⟨fun p hp => ⟨h1 p hp, (at' _ _ (h1 p hp)).1 _ (mem_am hp)⟩, fun k r => ?_⟩
  by_cases hL : LOk k r
  · rw [← am_sum]; exact (at' k r hL).2
  · have e0 : sl l k r = 0 := sl_none fun x hx e => hL (by have := h1 x hx; rw [e.1, e.2] at this; exact this)
    rw [e0]; decide
theorem wl_ofL {S : Int → Int → Int} {k : Nat} (h0 : 0 ≤ S (k / 33 : Nat) (k % 33 : Nat)) : wl (ofL S k) (k / 33 : Nat) (k % 33 : Nat) (S (k / 33 : Nat) (k % 33 : Nat)) = ofL S (k + 1) := by
  rw [ofL, wl]
  by_cases h : S (k / 33 : Nat) (k % 33 : Nat) = 0
  · rw [if_pos h, if_neg (by omega), List.append_nil]
  · rw [if_neg h, if_pos (by omega)]
theorem infoI64 : (Tryd.prog.info? 2).map (fun i => (i.zero, i.size, i.bytes)) = some (some (.int .i64 0), 1, 8) := by kernel_rfl
/-- Where the loop over the slots stands. -/
structure RS (W wa wr : World) (l : List Pt) (v : Value) (k : Nat) : Prop where
  own : OwnP wr wa.heap.size v (ofL (sl l) k)
  ok : ∀ j, j < k → SmOk (am l (j / 33 : Nat) (j % 33 : Nat))
  bel : Below wa.heap.size wa wr
/-- Where the loop over the parts stands. -/
structure RO (wb wr : World) (l : List Pt) (k r : Int) (v : Value) (t : Nat) : Prop where
  own : wr.ownsRow wb.heap.size 2 1 v (am (l.take t) k r).length (i64s (am (l.take t) k r))
  bel : Below wb.heap.size wb wr
set_option maxRecDepth 100000 in
set_option maxHeartbeats 8000000 in
theorem rof_any (v : Value) (l : List Pt) (hbig : l.length < 1000000) (W : World) (hV : Vc W v l) : Calls Tryd.prog 13 #[v] W (RetO W (ofO l)) := by
  obtain ⟨i0, hi, hz0, hz1, hz2⟩ := info_parts infoI64
  obtain ⟨a, n, cap, rfl, hn, hC⟩ := hV.cells
  have HC := Lib.hid hC; have HN := Lib.hid hn
  have hn9 : n < 1000000 := by omega
  clear hC hn hV hbig
  go_enter Tryd.func13, Tryd.ntmps13
  go_wp2
  go_loopw [4] (fun i wr => ∃ t : Nat, t ≤ n ∧ i = .int .i64 t ∧ Hid (∀ p ∈ l.take t, LOk p.1 p.2.1) ∧ Below W.heap.size W wr) (fun i _ => n - (intOf i).toNat)
  case atStart => exact ⟨0, Nat.zero_le _, rfl, Lib.hid (fun p hp => by simp at hp), by (repeat (first | assumption | exact Below.refl _ _ | refine ba ?_ _ | refine bd ?_ | refine bdn ?_ _ | refine bs ?_ (by first | omega | (simp; done) | (simp; omega)) _ | refine bt ?_ (by assumption)))⟩
  case round =>
    obtain ⟨t, ht, rfl, HS, hb1⟩ := hrel
    obtain ⟨w1, rfl⟩ : ∃ w1, w1 = wr := ⟨_, rfl⟩
    have hs1 : W.heap.size + 0 ≤ w1.heap.size := (by have h := hb1.size; first | omega | (simp at h; omega))
    obtain ⟨hc1, hf1, hl1⟩ := bcell hb1
    clear hl1
    by_cases hlt : t < n
    · have hts : (t : Int) < (n : Int) := by omega
      have hll : t < l.length := by rw [← HN.out]; exact hlt
      obtain ⟨b, off, rfl, hb, c0, c1, c2⟩ := HC.out t hlt
      have hbl : b < w1.heap.size := Nat.lt_of_lt_of_le hb hb1.size
      have HP := Lib.hid (partedV hll)
      have HT := Lib.hid (take_succ' hll)
      clear hll
      generalize kk l t = k at *; generalize rr l t = r at *; generalize aa l t = x at *
      have HO := Lib.hid (refslot_any k r x)
      have HR := refslotright_any k r
      by_cases hR : LOk k r
      · rw [decide_eq_true hR] at HR
        have HR := Lib.hid HR
        have HRR := Lib.hid hR
        clear hR
        go_wp2_with fail
        (with_reducible refine (HO.out _).mono ?_)
        rintro e w2 ⟨rfl, hb2⟩
        have hs2 : w1.heap.size + 0 ≤ w2.heap.size := (by have h := hb2.size; first | omega | (simp at h; omega))
        have hb1_2 := bel hb1 hb2 (by (repeat (first | assumption | exact Below.refl _ _ | refine ba ?_ _ | refine bd ?_ | refine bdn ?_ _ | refine bs ?_ (by first | omega | (simp; done) | (simp; omega)) _ | refine bt ?_ (by assumption))))
        clear hc1 hf1
        obtain ⟨hc2, hf2, hl2⟩ := bcell hb2
        clear hl2
        go_wp2_with fail
        (with_reducible refine (HR.out _).mono ?_)
        rintro e w3 ⟨rfl, hb3⟩
        have hs3 : w2.heap.size + 0 ≤ w3.heap.size := (by have h := hb3.size; first | omega | (simp at h; omega))
        have hb1_3 := bel hb1_2 hb3 (by (repeat (first | assumption | exact Below.refl _ _ | refine ba ?_ _ | refine bd ?_ | refine bdn ?_ _ | refine bs ?_ (by first | omega | (simp; done) | (simp; omega)) _ | refine bt ?_ (by assumption))))
        have hb2_3 := bel hb2 hb3 (by (repeat (first | assumption | exact Below.refl _ _ | refine ba ?_ _ | refine bd ?_ | refine bdn ?_ _ | refine bs ?_ (by first | omega | (simp; done) | (simp; omega)) _ | refine bt ?_ (by assumption))))
        clear hc2 hf2
        obtain ⟨hc3, hf3, hl3⟩ := bcell hb3
        clear hl3
        go_wp2
        go_roundw
        case rel =>
          refine ⟨t + 1, by omega, by go_num, Lib.hid fun p hp => ?_, by (repeat (first | assumption | exact Below.refl _ _ | refine ba ?_ _ | refine bd ?_ | refine bdn ?_ _ | refine bs ?_ (by first | omega | (simp; done) | (simp; omega)) _ | refine bt ?_ (by assumption)))⟩
          rw [HT.out] at hp
          rcases List.mem_append.1 hp with hp | hp
          · exact HS.out p hp
          · rw [List.mem_singleton.1 hp]; exact HRR.out
        case measure => simp [intOf]; omega
      · rw [decide_eq_false hR] at HR
        have HR := Lib.hid HR
        have HX := Lib.hid (show ofO l = none from if_neg fun h => hR (h.1 (k, r, x) (by rw [HP.out]; simp)).1)
        clear hR
        go_wp2_with fail
        (with_reducible refine (HO.out _).mono ?_)
        rintro e w2 ⟨rfl, hb2⟩
        have hs2 : w1.heap.size + 0 ≤ w2.heap.size := (by have h := hb2.size; first | omega | (simp at h; omega))
        have hb1_2 := bel hb1 hb2 (by (repeat (first | assumption | exact Below.refl _ _ | refine ba ?_ _ | refine bd ?_ | refine bdn ?_ _ | refine bs ?_ (by first | omega | (simp; done) | (simp; omega)) _ | refine bt ?_ (by assumption))))
        clear hc1 hf1
        obtain ⟨hc2, hf2, hl2⟩ := bcell hb2
        clear hl2
        go_wp2_with fail
        (with_reducible refine (HR.out _).mono ?_)
        rintro e w3 ⟨rfl, hb3⟩
        have hs3 : w2.heap.size + 0 ≤ w3.heap.size := (by have h := hb3.size; first | omega | (simp at h; omega))
        have hb1_3 := bel hb1_2 hb3 (by (repeat (first | assumption | exact Below.refl _ _ | refine ba ?_ _ | refine bd ?_ | refine bdn ?_ _ | refine bs ?_ (by first | omega | (simp; done) | (simp; omega)) _ | refine bt ?_ (by assumption))))
        have hb2_3 := bel hb2 hb3 (by (repeat (first | assumption | exact Below.refl _ _ | refine ba ?_ _ | refine bd ?_ | refine bdn ?_ _ | refine bs ?_ (by first | omega | (simp; done) | (simp; omega)) _ | refine bt ?_ (by assumption))))
        clear hc2 hf2
        obtain ⟨hc3, hf3, hl3⟩ := bcell hb3
        clear hl3
        go_wp2
        go_ret2
        exact RetO.none HX.out (by (repeat (first | assumption | exact Below.refl _ _ | refine ba ?_ _ | refine bd ?_ | refine bdn ?_ _ | refine bs ?_ (by first | omega | (simp; done) | (simp; omega)) _ | refine bt ?_ (by assumption))))
    · obtain rfl : n = t := by omega
      have hll : l.take n = l := by rw [HN.out]; exact List.take_length
      have HLK := HS.out
      rw [hll] at HLK
      have HLK := Lib.hid HLK
      have HBB := Lib.hid hb1
      clear HS hll hlt
      go_wp2_with fail
      refine (refall_any _).mono ?_
      rintro e w2 ⟨g, gc, rfl, hg1, hg2, HALL, hb2⟩
      have hs2 : w1.heap.size + 0 ≤ w2.heap.size := (by have h := hb2.size; first | omega | (simp at h; omega))
      have hb1_2 := bel hb1 hb2 (by (repeat (first | assumption | exact Below.refl _ _ | refine ba ?_ _ | refine bd ?_ | refine bdn ?_ _ | refine bs ?_ (by first | omega | (simp; done) | (simp; omega)) _ | refine bt ?_ (by assumption))))
      clear hc1 hf1
      obtain ⟨hc2, hf2, hl2⟩ := bcell hb2
      clear hl2
      have HB2 := Lib.hid (show Below W.heap.size W w2 by (repeat (first | assumption | exact Below.refl _ _ | refine ba ?_ _ | refine bd ?_ | refine bdn ?_ _ | refine bs ?_ (by first | omega | (simp; done) | (simp; omega)) _ | refine bt ?_ (by assumption))))
      clear hb1
      go_wp2
      go_loopw [6, 7] (fun out kd wr => ∃ k : Nat, k ≤ 132 ∧ kd = .int .i64 k ∧ Hid (RS W w2 wr l out k)) (fun _ kd _ => 132 - (intOf kd).toNat)
      case atStart => exact ⟨0, by omega, rfl, Lib.hid ⟨World.ownsRow_nil _ _ _ _, fun j hj => by omega, Below.refl _ _⟩⟩
      case round =>
        obtain ⟨k, hk132, rfl, H2⟩ := hrel
        obtain ⟨w3, rfl⟩ : ∃ w3 : World, w3 = wr := ⟨_, rfl⟩
        have hb3 := H2.out.bel
        have hs3 : w2.heap.size + 0 ≤ w3.heap.size := (by have h := hb3.size; first | omega | (simp at h; omega))
        obtain ⟨hc3, hf3, hl3⟩ := bcell hb3
        clear hl3
        by_cases hlt4 : k < 132
        · have hks : (k : Int) < 132 := by omega
          obtain ⟨s0, s1⟩ := HALL.out k hlt4
          obtain ⟨kk', hkk⟩ : ∃ x : Int, x = ((k / 33 : Nat) : Int) := ⟨_, rfl⟩
          obtain ⟨rr', hrr⟩ : ∃ x : Int, x = ((k % 33 : Nat) : Int) := ⟨_, rfl⟩
          rw [← hkk] at s0; rw [← hrr] at s1
          have HKR := Lib.hid (And.intro hkk hrr)
          clear hkk hrr
          go_wp2
          go_loopw [8, 9] (fun ow i wr => ∃ t : Nat, t ≤ n ∧ i = .int .i64 t ∧ Hid (RO w3 wr l kk' rr' ow t)) (fun _ i _ => n - (intOf i).toNat)
          case atStart => exact ⟨0, Nat.zero_le _, rfl, Lib.hid ⟨World.ownsRow_nil _ _ _ _, Below.refl _ _⟩⟩
          case round =>
            obtain ⟨t, ht', rfl, H3⟩ := hrel
            obtain ⟨w4, rfl⟩ : ∃ w4 : World, w4 = wr := ⟨_, rfl⟩
            have hb4 := H3.out.bel
            have hs4 : w3.heap.size + 0 ≤ w4.heap.size := (by have h := hb4.size; first | omega | (simp at h; omega))
            have hb3_4 := bel hb3 hb4 (by (repeat (first | assumption | exact Below.refl _ _ | refine ba ?_ _ | refine bd ?_ | refine bdn ?_ _ | refine bs ?_ (by first | omega | (simp; done) | (simp; omega)) _ | refine bt ?_ (by assumption))))
            clear hc3 hf3
            obtain ⟨hc4, hf4, hl4⟩ := bcell hb4
            clear hl4
            have HW4 := Lib.hid (show Below W.heap.size W w4 from bt HB2.out (bt hb3 hb4))
            by_cases hlt5 : t < n
            · have hts : (t : Int) < (n : Int) := by omega
              have hll : t < l.length := by rw [← HN.out]; exact hlt5
              obtain ⟨b, off, rfl, hb, c0, c1, c2⟩ := HC.out t hlt5
              have d0 := (HW4.out.cell (p := ⟨b, off + t * 3, none⟩) hb).trans c0
              have d1 := (HW4.out.cell (p := ⟨b, off + t * 3 + 1, none⟩) hb).trans c1
              have d2 := (HW4.out.cell (p := ⟨b, off + t * 3 + 2, none⟩) hb).trans c2
              have e0 := (hb3_4.cell (p := ⟨g, k * 2, none⟩) hg2).trans s0
              have e1 := (hb3_4.cell (p := ⟨g, k * 2 + 1, none⟩) hg2).trans s1
              have hbl4 : b < w4.heap.size := Nat.lt_of_lt_of_le hb HW4.out.size
              have hgl4 : g < w4.heap.size := Nat.lt_of_lt_of_le hg2 hb3_4.size
              have HT := Lib.hid (take_succ' hll)
              have hal := am_len kk' rr' (l.take t)
              have hln : (l.take t).length ≤ n := by rw [HN.out]; exact List.length_take_le' _ _
              clear hll c0 c1 c2
              generalize kk l t = k2 at *; generalize rr l t = r2 at *; generalize aa l t = x at *
              have HO := Lib.hid (refslot_any k2 r2 x)
              by_cases he : k2 = kk' ∧ r2 = rr'
              · have hq := eqS_yes _ _ _ _ he
                have HA := Lib.hid (show am (l.take (t + 1)) kk' rr' = am (l.take t) kk' rr' ++ [x] by rw [HT.out, am_snoc, if_pos he])
                have hown := H3.out.own
                have hb4s := hb4.size
                clear he
                go_wp2_with fail
                refine wp_region_pure (by kernel_rfl) (by kernel_rfl) ?_
                repeat (first | go_big_quiet_step (((go_at_call 46; with_reducible exact HO.out.quiet))) | (quiet_step (((go_at_call 46; with_reducible exact HO.out.quiet)))))
                refine wpQuiet_nil ?_
                rintro w5 ⟨x5, hx5⟩
                have hb5 := ext_below _ x5
                rw [← hx5] at hb5
                clear hx5 x5
                have hs5 : w4.heap.size + 0 ≤ w5.heap.size := (by have h := hb5.size; first | omega | (simp at h; omega))
                have hb3_5 := bel hb3_4 hb5 (by (repeat (first | assumption | exact Below.refl _ _ | refine ba ?_ _ | refine bd ?_ | refine bdn ?_ _ | refine bs ?_ (by first | omega | (simp; done) | (simp; omega)) _ | refine bt ?_ (by assumption))))
                have hb4_5 := bel hb4 hb5 (by (repeat (first | assumption | exact Below.refl _ _ | refine ba ?_ _ | refine bd ?_ | refine bdn ?_ _ | refine bs ?_ (by first | omega | (simp; done) | (simp; omega)) _ | refine bt ?_ (by assumption))))
                clear hc4 hf4
                obtain ⟨hc5, hf5, hl5⟩ := bcell hb5
                clear hl5
                have HB5 := Lib.hid (show Below w4.heap.size w4 w5 by (repeat (first | assumption | exact Below.refl _ _ | refine ba ?_ _ | refine bd ?_ | refine bdn ?_ _ | refine bs ?_ (by first | omega | (simp; done) | (simp; omega)) _ | refine bt ?_ (by assumption))))
                have hs5 := HB5.out.size
                have hbl5 : b < w5.heap.size := by omega
                have f2 := (HB5.out.cell (p := ⟨b, off + t * 3 + 2, none⟩) hbl4).trans d2
                go_wp2_with (at_builtin; refine wpList_append_own _ rfl _ _ 72 rfl w3.heap.size 2 i0 (.int .i64 0) 1 8 Tryd.underlying72 hi hz0 hz1 hz2 rfl (by decide) _ _ _ rfl ((rowP_grow hown HB5.out).alloc _) ⟨_, 0, none⟩ 1 1 [.int .i64 x] rfl rfl ?c1 ?c2 ?c3 ?c4 ?c5 ?_)
                case c1 => intro j u' hj; cases j <;> simp at hj; subst hj; simp [Addr.add, go_sem]
                case c2 => intro u' hu; simp at hu; subst hu; rfl
                case c3 => unfold maxLen; omega
                case c4 => omega
                case c5 => simp; omega
                intro v' w6 hown' hgrow _
                have HV := Lib.hid hown'; have HG := Lib.hid hgrow
                clear hown' hgrow
                have HB6 := Lib.hid (own_more3 (rowP_grow hown HB5.out) (bt hb4 HB5.out) HG.out)
                go_wp2
                go_roundw
                case rel => exact ⟨t + 1, by omega, by go_num, Lib.hid ⟨by rw [HA.out, List.length_append, i64s, List.map_append]; exact HV.out, HB6.out⟩⟩
                case measure => simp [intOf]; omega
              · have hq := eqS_no _ _ _ _ he
                have HA := Lib.hid (show am (l.take (t + 1)) kk' rr' = am (l.take t) kk' rr' by rw [HT.out, am_snoc, if_neg he, List.append_nil])
                clear he
                go_wp2_with fail
                refine wp_region_pure (by kernel_rfl) (by kernel_rfl) ?_
                repeat (first | go_big_quiet_step (((go_at_call 46; with_reducible exact HO.out.quiet))) | (quiet_step (((go_at_call 46; with_reducible exact HO.out.quiet)))))
                refine wpQuiet_nil ?_
                rintro w5 ⟨x5, hx5⟩
                have hb5 := ext_below _ x5
                rw [← hx5] at hb5
                clear hx5 x5
                have hs5 : w4.heap.size + 0 ≤ w5.heap.size := (by have h := hb5.size; first | omega | (simp at h; omega))
                have hb3_5 := bel hb3_4 hb5 (by (repeat (first | assumption | exact Below.refl _ _ | refine ba ?_ _ | refine bd ?_ | refine bdn ?_ _ | refine bs ?_ (by first | omega | (simp; done) | (simp; omega)) _ | refine bt ?_ (by assumption))))
                have hb4_5 := bel hb4 hb5 (by (repeat (first | assumption | exact Below.refl _ _ | refine ba ?_ _ | refine bd ?_ | refine bdn ?_ _ | refine bs ?_ (by first | omega | (simp; done) | (simp; omega)) _ | refine bt ?_ (by assumption))))
                clear hc4 hf4
                obtain ⟨hc5, hf5, hl5⟩ := bcell hb5
                clear hl5
                have HB5 := Lib.hid (show Below w4.heap.size w4 w5 by (repeat (first | assumption | exact Below.refl _ _ | refine ba ?_ _ | refine bd ?_ | refine bdn ?_ _ | refine bs ?_ (by first | omega | (simp; done) | (simp; omega)) _ | refine bt ?_ (by assumption))))
                go_wp2
                go_roundw
                case rel => exact ⟨t + 1, by omega, by go_num, Lib.hid ⟨by rw [HA.out]; exact rowP_grow H3.out.own HB5.out, bt hb4 HB5.out⟩⟩
                case measure => simp [intOf]; omega
            · obtain rfl : n = t := by omega
              have hown := H3.out.own
              rw [show l.take n = l from by rw [HN.out]; exact List.take_length] at hown
              have hal := am_len kk' rr' l
              have HSUM := Lib.hid (fun w (h : Below w4.heap.size w4 w) => qsum_any w3.heap.size u8 (am l kk' rr') (by have := HN.out; omega) w (rowP_grow hown h))
              clear hown
              go_wp2_with fail
              refine (HSUM.out _ (by (repeat (first | assumption | exact Below.refl _ _ | refine ba ?_ _ | refine bd ?_ | refine bdn ?_ _ | refine bs ?_ (by first | omega | (simp; done) | (simp; omega)) _ | refine bt ?_ (by assumption))))).mono ?_
              rintro e w5 ⟨hres, hb5⟩
              have hs5 : w4.heap.size + 0 ≤ w5.heap.size := (by have h := hb5.size; first | omega | (simp at h; omega))
              have hb3_5 := bel hb3_4 hb5 (by (repeat (first | assumption | exact Below.refl _ _ | refine ba ?_ _ | refine bd ?_ | refine bdn ?_ _ | refine bs ?_ (by first | omega | (simp; done) | (simp; omega)) _ | refine bt ?_ (by assumption))))
              have hb4_5 := bel hb4 hb5 (by (repeat (first | assumption | exact Below.refl _ _ | refine ba ?_ _ | refine bd ?_ | refine bdn ?_ _ | refine bs ?_ (by first | omega | (simp; done) | (simp; omega)) _ | refine bt ?_ (by assumption))))
              clear hc4 hf4
              obtain ⟨hc5, hf5, hl5⟩ := bcell hb5
              clear hl5
              have HB5 := Lib.hid (show Below w4.heap.size w4 w5 by (repeat (first | assumption | exact Below.refl _ _ | refine ba ?_ _ | refine bd ?_ | refine bdn ?_ _ | refine bs ?_ (by first | omega | (simp; done) | (simp; omega)) _ | refine bt ?_ (by assumption))))
              rcases hres with ⟨hsm, rfl⟩ | ⟨hsm, rfl⟩
              · have HSM := Lib.hid hsm
                have hs0 := sm_nn hsm.1
                have HSL := Lib.hid (am_sum kk' rr' l)
                obtain ⟨y, hy⟩ : ∃ y, y = (am l kk' rr').sum := ⟨_, rfl⟩
                rw [← hy] at hs0 ⊢
                have HY := Lib.hid hy
                have e0 := (show Below w2.heap.size w2 w5 from bt hb3 (bt hb4 HB5.out)).cell (p := ⟨g, k * 2, none⟩) hg2
                have e1 := (show Below w2.heap.size w2 w5 from bt hb3 (bt hb4 HB5.out)).cell (p := ⟨g, k * 2 + 1, none⟩) hg2
                rw [s0] at e0; rw [s1] at e1
                have hgl5 : g < w5.heap.size := by have := HB5.out.size; have := hb4.size; omega
                have HOUT := Lib.hid (rowP_grow H2.out.own (bt hb4 HB5.out))
                have HWI := Lib.hid (fun w (h : Below w5.heap.size w5 w) => with_any w2.heap.size u6 (ofL (sl l) k) kk' rr' y (by have := ofL_len (sl l) k; omega) w (by have := h.size; have := HB5.out.size; have := hb4.size; have := hb3.size; omega) (rowP_grow HOUT.out h))
                have HBW := Lib.hid (show Below w2.heap.size w2 w5 from bt hb3 (bt hb4 HB5.out))
                clear hsm hy
                go_wp2_with fail
                refine (HWI.out _ (by (repeat (first | assumption | exact Below.refl _ _ | refine ba ?_ _ | refine bd ?_ | refine bdn ?_ _ | refine bs ?_ (by first | omega | (simp; done) | (simp; omega)) _ | refine bt ?_ (by assumption))))).mono ?_
                rintro e w6 ⟨u, rfl, hu, hb6⟩
                have HU := Lib.hid hu
                have HB6 := Lib.hid (HBW.out.trans hb6)
                clear hu hb6
                go_wp2
                go_roundw
                case rel =>
                  refine ⟨k + 1, by omega, by go_num, Lib.hid ⟨?_, fun j hj => ?_, HB6.out⟩⟩
                  · have e := wl_ofL (S := sl l) (k := k) (by rw [← HKR.out.1, ← HKR.out.2, ← HSL.out, ← HY.out]; exact hs0)
                    rw [← HKR.out.1, ← HKR.out.2, ← HSL.out, ← HY.out] at e
                    rw [← e]; exact HU.out
                  · by_cases hjk : j = k
                    · rw [hjk, ← HKR.out.1, ← HKR.out.2]; exact HSM.out
                    · exact H2.out.ok j (by omega)
                case measure => simp [intOf]; omega
              · have HX := Lib.hid (show ofO l = none from if_neg fun h => hsm (smOk_am h kk' rr'))
                clear hsm
                go_wp2
                go_ret2
                exact RetO.none HX.out (bt HB2.out (bt hb3 (bt hb4 HB5.out)))
        · obtain rfl : k = 132 := by omega
          have HX := Lib.hid (show ofO l = some (ofV l) from if_pos (ofOk_am HLK.out H2.out.ok))
          have HO := Lib.hid (show OwnP w3 w2.heap.size u6 (ofV l) from H2.out.own)
          go_wp2
          go_ret2
          exact RetO.some HX.out HO.out.vc (bt HB2.out hb3)
end Go.Proofs.YtlhljioncgddeaaDoor

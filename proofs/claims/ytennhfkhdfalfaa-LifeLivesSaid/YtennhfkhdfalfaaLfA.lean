/- life: Of at any few events. -/
import Derived.Test.YtennhfkhdfalfaaLf9
namespace Go.Proofs.Ytennhfkhdfalfaa
open Go.RowKit Go.Maps
attribute [local go_sem] ext_cell ext_frozen extC_cell extC_frozen Mix.calmUpon Mix.mUpon
/-- Where Of stands. -/
structure OfS (W wr : World) (M : Nat) (l : List Ev) (t : Nat) (ov : Value) : Prop where
  map : MapF K64 wr M (fun k => (firstC (l.drop t) t k).map fun p => (p.1 : Int)) (fun x : Int => .int .i64 x)
  own : OwnL 107 6 lfenc wr W.heap.size ov (lvs (l.drop t) t).reverse
  ob : ∀ b, ov.ownBlock = some b → b ≠ M
  bel : Below W.heap.size W wr
  mn : W.heap.size ≤ M
theorem OfS.below {W wr w' : World} {M t : Nat} {l : List Ev} {ov : Value} (h : OfS W wr M l t ov) (hb : Below wr.heap.size wr w') : OfS W w' M l t ov :=
  ⟨h.map.chg (.of_below (fun _ => False) hb) id, h.own.below hb, h.ob, bt h.bel hb, h.mn⟩
theorem mapI_store {w : World} {M : Nat} {f : Int → Option Int} (h : MapF K64 w M f (fun x : Int => .int .i64 x)) {k : Int} (hk : I64 k) (v : Int) :
    ∃ w', (Instr.mapUpdate 146 (.map (some M)) (.int .i64 k) (.int .i64 v)).run Try.prog w = .ok () w' ∧ MapF K64 w' M (upd f k (some v)) (fun x : Int => .int .i64 x) ∧ Chg (fun k => k = M) w w' :=
  h.store key64 Try.underlying146 (x := k) hk v
theorem mapI_look {w : World} {M : Nat} {f : Int → Option Int} (h : MapF K64 w M f (fun x : Int => .int .i64 x)) {k : Int} (hk : I64 k) :
    (Instr.lookup 146 (.map (some M)) (.int .i64 k) true).run Try.prog w = .ok (.tuple #[.int .i64 ((f k).getD 0), .bool (f k).isSome]) w := by
  have hz : (zeroValue 3).run Try.prog w = .ok (.int .i64 0) w := Try.zeroValue3 w
  have := h.look key64 Try.underlying146 hz (x := k) hk true
  rw [show ((f k).map fun x => Value.int .i64 x).getD (.int .i64 0) = .int .i64 ((f k).getD 0) by cases f k <;> rfl] at this
  exact this
set_option maxRecDepth 100000 in
set_option maxHeartbeats 8000000 in
theorem of_any (v : Value) (l : List Ev) (W : World) (hr : RS 5 evenc W v l) (hI : ∀ x ∈ l, EIn W x) (hl : l.length ≤ 300) :
    Calls Try.prog 49 #[v] W fun e w' => ∃ u, e = .returned u ∧ RS 6 lfenc w' u (lvs l 0) ∧ Below W.heap.size W w' := by
  obtain ⟨a, n, cap, rfl, hn, hc, hm, hat⟩ := hr.at_
  have HAT := Lib.hid hat; have HI := Lib.hid hI; have HN := Lib.hid hn
  have hn3 : n ≤ 300 := by omega
  clear hr hat hI hn hm hl
  have hmA := makeA
  have hw1 : IntKind.i64.wrap ((n : Int) - 1) = (n : Int) - 1 := IntWalk.i64_in _ (by omega)
  have hS := Lib.hid (show OfS W (W.alloc (.map #[] 0)) W.heap.size l n (.slice none 0 0) from ⟨by
      rw [HN.out, List.drop_length]; exact MapF.made W, by
      rw [HN.out, List.drop_length]; exact OwnL.nil _ _ _ _ _, (fun b hb => by cases hb), ba (Below.refl _ _) _, Nat.le_refl _⟩)
  go_enter Try.func49, Try.ntmps49
  go_wp2
  generalize W.alloc (.map #[] 0) = w1 at *
  obtain ⟨M, hM⟩ : ∃ M, M = W.heap.size := ⟨_, rfl⟩
  have HMQ := Lib.hid hM
  rw [← hM]
  have HI0 : Hid (OfS W w1 M l n (.slice none 0 0)) := Lib.hid (by rw [hM]; exact hS.out)
  clear hM hS hmA hw1
  go_loopw [3, 5] (fun ov iv wr => ∃ (t : Nat), t ≤ n ∧ iv = .int .i64 ((t : Int) - 1) ∧ Hid (OfS W wr M l t ov)) (fun ov iv _ => (intOf iv + 1).toNat)
  case atStart => exact ⟨n, Nat.le_refl _, rfl, HI0⟩
  case round =>
    clear HI0
    obtain ⟨t', ht, rfl, HQ⟩ := hrel
    obtain ⟨w4, rfl⟩ : ∃ w4, w4 = wr := ⟨_, rfl⟩
    cases t' with
    | zero =>
      have hd : decide ((0 : Int) ≤ ((0 : Nat) : Int) - 1) = false := decide_eq_false (by omega)
      have hR := revL_any HQ.out.own (by rw [List.length_reverse]; have := lvs_len (l.drop 0) 0; rw [List.drop_zero] at *; have := HN.out; omega)
      rw [List.reverse_reverse, List.drop_zero] at hR
      have HR := Lib.hid hR
      clear hR
      go_wp2_with fail
      refine HR.out.mono ?_
      rintro e w5 ⟨rfl, hr5, hc5⟩
      have HR5 := Lib.hid hr5
      have HB5 := Lib.hid (HQ.out.bel.trans (hc5.below HQ.out.bel.size fun b hb => (HQ.out.own.lt b hb).1))
      clear hr5 hc5
      go_wp2
      go_ret
      exact ⟨_, rfl, HR5.out, HB5.out⟩
    | succ t =>
      have hd : decide ((0 : Int) ≤ (t : Int)) = true := decide_eq_true (by omega)
      rw [show ((t + 1 : Nat) : Int) - 1 = (t : Int) by omega]
      have hts : (t : Int) < (n : Int) := by omega
      obtain ⟨x, hx⟩ := at_lt (l := l) (i := t) (by rw [← HN.out]; omega)
      obtain ⟨b, off, rfl, hb, hcell⟩ := HAT.out t x hx
      have hbw := HQ.out.bel
      have c0 := (hbw.cell (p := ⟨b, off + t * 5 + 0, none⟩) hb).trans (hcell 0 _ rfl)
      have c1 := (hbw.cell (p := ⟨b, off + t * 5 + 1, none⟩) hb).trans (hcell 1 _ rfl)
      have c2 := (hbw.cell (p := ⟨b, off + t * 5 + 2, none⟩) hb).trans (hcell 2 _ rfl)
      have c3 := (hbw.cell (p := ⟨b, off + t * 5 + 3, none⟩) hb).trans (hcell 3 _ rfl)
      have c4 := (hbw.cell (p := ⟨b, off + t * 5 + 4, none⟩) hb).trans (hcell 4 _ rfl)
      simp only [Nat.add_zero] at c0
      have hbl : b < w4.heap.size := Nat.lt_of_lt_of_le hb hbw.size
      have HE := Lib.hid (HI.out x (mem_at hx))
      obtain ⟨va, vc, hvv, -, -⟩ := HE.out.vc.form
      have HF := Lib.hid (fun k => firstC_cons hx k)
      have HL := Lib.hid (lvs_cons hx)
      have hw1 : IntKind.i64.wrap ((t : Int) - 1) = (t : Int) - 1 := IntWalk.i64_in _ (by omega)
      have hba := ba (Below.refl w4.heap.size w4) (.cells #[.int .i64 x.kind, .int .i64 x.frame, .int .i64 x.id, .int .i64 x.agent, x.vv] 103)
      have hX := EB.made w4 x
      obtain ⟨x0, x1, x2, x3, xv, xs⟩ := x
      simp only at hvv c0 c1 c2 c3 c4
      subst hvv
      generalize hxn : xs.length = xn at *
      have HQ5 := Lib.hid (HQ.out.below hba)
      have HX := Lib.hid (show EB (w4.alloc (.cells #[.int .i64 x0, .int .i64 x1, .int .i64 x2, .int .i64 x3, .slice va xn vc] 103)) w4.heap.size ⟨x0, x1, x2, x3, .slice va xn vc, xs⟩ from hX)
      have HBB := Lib.hid (show b < w4.heap.size from hbl)
      have HML := Lib.hid HQ.out.map.lt
      have HB4 := Lib.hid hb
      clear hcell hx hbw hba hX hb
      go_wp2_with fail
      generalize w4.alloc (.cells #[.int .i64 x0, .int .i64 x1, .int .i64 x2, .int .i64 x3, .slice va xn vc] 103) = w5 at *
      obtain ⟨b5, hb5⟩ : ∃ b5, b5 = w4.heap.size := ⟨_, rfl⟩
      rw [← hb5] at HX ⊢
      have HB5 := Lib.hid hb5
      clear hb5 c0 c1 c2 c3 c4 hbl
      refine (closes_any x0 _).mono ?_
      rintro e w0 ⟨rfl, hw0⟩
      rw [hw0]
      clear hw0 w0
      have hlm := HQ5.out.map.lt
      obtain ⟨e0, e1, e2, e3, e4⟩ := HX.out.cells
      have el := HX.out.lt
      simp only at e0 e1 e2 e3 e4
      cases hck : cloK x0 with
      | true =>
        have k6 : ¬ x0 = 6 := by
          have := of_decide_eq_true hck; omega
        obtain ⟨w6, hst, hm6, hc6⟩ := mapI_store HQ5.out.map HE.out.id (t : Int)
        have HM6 := Lib.hid hm6; have HC6 := Lib.hid hc6
        have HX6 := Lib.hid (HX.out.chg hc6 (fun e => by have e : b5 = M := e; have := HML.out; have := HB5.out; omega))
        have HCK := Lib.hid hck
        have HK6 := Lib.hid k6
        clear hm6 hc6 hck
        obtain ⟨g0, g1, g2, g3, g4⟩ := HX6.out.cells
        have gl := HX6.out.lt
        simp only at g0 g1 g2 g3 g4
        go_wp2
        have HQ7 := Lib.hid (show OfS W w6 M l t u3 from ⟨by
          have h := HM6.out
          have hf : upd (fun k => (firstC (l.drop (t + 1)) (t + 1) k).map fun p => (p.1 : Int)) x2 (some (t : Int)) = fun k => (firstC (l.drop t) t k).map fun p => (p.1 : Int) := by
            funext k
            rw [HF.out k]
            unfold upd
            by_cases hk : k = x2
            · rw [if_pos hk, if_pos ⟨HCK.out, hk.symm⟩]; rfl
            · rw [if_neg hk, if_neg fun h => hk h.2.symm]
          rw [← hf]; exact h, by
          rw [HL.out, if_neg HK6.out]
          exact HQ5.out.own.chg HC6.out HQ5.out.ob, HQ5.out.ob, HQ5.out.bel.trans (HC6.out.below HQ5.out.bel.size fun k e => by rw [e]; exact HQ5.out.mn), HQ5.out.mn⟩)
        go_roundw
        case rel => exact ⟨t, by omega, by go_num, HQ7⟩
        case measure => simp [intOf]
      | false =>
        by_cases k6 : x0 = 6
        · subst k6
          have HCK := Lib.hid hck
          clear hck
          have hb6 := ba (Below.refl w5.heap.size w5) (.cells #[.int .i64 x2, .int .i64 x1, .int .i64 x3, .int .i64 t, .int .i64 (-1), .int .i64 0] 107)
          have HQ6 := Lib.hid (HQ5.out.below hb6)
          have HL6 := Lib.hid (show LB (w5.alloc (.cells #[.int .i64 x2, .int .i64 x1, .int .i64 x3, .int .i64 t, .int .i64 (-1), .int .i64 0] 107)) w5.heap.size ⟨x2, x1, x3, t, -1, 0⟩ from LB.made w5 ⟨x2, x1, x3, t, -1, 0⟩)
          have HX6 := Lib.hid (HX.out.below hb6)
          have HB6 := Lib.hid hb6
          have HLV := Lib.hid (show lvs (l.drop t) t = lfOf ⟨6, x1, x2, x3, .slice va xn vc, xs⟩ t (firstC (l.drop (t + 1)) (t + 1) x2) :: lvs (l.drop (t + 1)) (t + 1) from by rw [HL.out, if_pos rfl])
          have la := mapI_look HQ6.out.map HE.out.id
          simp only at la
          have hlm6 := HQ6.out.map.lt
          clear hb6
          cases hfc : firstC (l.drop (t + 1)) (t + 1) x2 with
          | none =>
            rw [hfc] at la
            replace la := la.trans (show _ = .ok (.tuple #[.int .i64 0, .bool false]) _ from rfl)
            have HFC := Lib.hid hfc
            clear hfc hlm6
            have hb67 := ba (Below.refl (w5.alloc (.cells #[.int .i64 x2, .int .i64 x1, .int .i64 x3, .int .i64 t, .int .i64 (-1), .int .i64 0] 107)).heap.size _) (.cells #[.int .i64 x2, .int .i64 x1, .int .i64 x3, .int .i64 t, .int .i64 (-1), .int .i64 0] 107)
            have HQ7 := Lib.hid (HQ6.out.below hb67)
            have hl7 := LB.made (w5.alloc (.cells #[.int .i64 x2, .int .i64 x1, .int .i64 x3, .int .i64 t, .int .i64 (-1), .int .i64 0] 107)) ⟨x2, x1, x3, t, -1, 0⟩
            rw [show (w5.alloc (.cells #[.int .i64 x2, .int .i64 x1, .int .i64 x3, .int .i64 t, .int .i64 (-1), .int .i64 0] 107)).heap.size = w5.heap.size + 1 by simp] at hl7
            have HL7 := Lib.hid (show LB ((w5.alloc (.cells #[.int .i64 x2, .int .i64 x1, .int .i64 x3, .int .i64 t, .int .i64 (-1), .int .i64 0] 107)).alloc (.cells #[.int .i64 x2, .int .i64 x1, .int .i64 x3, .int .i64 t, .int .i64 (-1), .int .i64 0] 107)) (w5.heap.size + 1) ⟨x2, x1, x3, t, -1, 0⟩ from hl7)
            clear hb67 hl7
            -- HQ7, HL7: where Of stands, and the life in block b7, in the world (w5.alloc (.cells #[.int .i64 x2, .int .i64 x1, .int .i64 x3, .int .i64 t, .int .i64 (-1), .int .i64 0] 107)).alloc (.cells #[.int .i64 x2, .int .i64 x1, .int .i64 x3, .int .i64 t, .int .i64 (-1), .int .i64 0] 107), which becomes w9
            have HLEN := Lib.hid (show (lvs (l.drop (t + 1)) (t + 1)).reverse.length < 1000000 by
              rw [List.length_reverse]
              have := lvs_len (l.drop (t + 1)) (t + 1)
              rw [List.length_drop] at this
              have := HN.out; omega)
            go_wp2_with (at_builtin; (generalize (w5.alloc (.cells #[.int .i64 x2, .int .i64 x1, .int .i64 x3, .int .i64 t, .int .i64 (-1), .int .i64 0] 107)).alloc (.cells #[.int .i64 x2, .int .i64 x1, .int .i64 x3, .int .i64 t, .int .i64 (-1), .int .i64 0] 107) = w9 at *; obtain ⟨v2, wA, hra, hoA, hgA, hvA⟩ := own_appL HQ7.out.own ⟨x2, x1, x3, t, (-1), 0⟩ HL7.out HLEN.out HQ7.out.bel.size; refine wpList_app_run rfl _ _ _ rfl rfl rfl hra ?_; have HAPP := Lib.hid (And.intro hoA (And.intro hgA hvA)); clear hra hoA hgA hvA))
            obtain ⟨hoA, hgA, hvA⟩ := HAPP.out
            have hcgA : Chg (fun k => u3.ownBlock = some k) w9 wA := .of_grown hgA fun k e => e
            have HQ8 := Lib.hid (show OfS W wA M l t v2 from ⟨by
              have h := HQ7.out.map.chg hcgA (fun e => HQ7.out.ob _ e rfl)
              have hf : (fun k => (firstC (l.drop (t + 1)) (t + 1) k).map fun p => (p.1 : Int)) = fun k => (firstC (l.drop t) t k).map fun p => (p.1 : Int) := by
                funext k
                rw [HF.out k, if_neg fun h => by have h := h.1; rw [HCK.out] at h; cases h]
              rw [← hf]; exact h, by
              have e : lvs (l.drop t) t = ⟨x2, x1, x3, t, (-1), 0⟩ :: lvs (l.drop (t + 1)) (t + 1) := by
                rw [HLV.out, HFC.out]
                rfl
              rw [e, List.reverse_cons]
              exact hoA, (fun k hk e => by
                rcases hvA with h' | h'
                · rw [h'] at hk; exact HQ7.out.ob k hk e
                · rw [h'] at hk; cases hk
                  have := HQ7.out.map.lt
                  omega), HQ7.out.bel.trans (hcgA.below HQ7.out.bel.size fun k hk => (HQ7.out.own.lt k hk).1), HQ7.out.mn⟩)
            clear hoA hgA hvA hcgA
            go_roundw
            case rel => exact ⟨t, by omega, by go_num, HQ8⟩
            case measure => simp [intOf]
          | some pr =>
            obtain ⟨j', y, hj, hy, hyk, -, -⟩ := firstC_at hfc
            obtain ⟨j, kd⟩ := pr
            simp only at hj hyk
            rw [hfc] at la
            replace la := la.trans (show _ = .ok (.tuple #[.int .i64 (j : Int), .bool true]) _ from rfl)
            have hly : l[j]? = some y := by
              rw [List.getElem?_drop] at hy; rw [hj]; exact hy
            have hjn : j < n := by rw [HN.out]; exact (List.getElem?_eq_some_iff.1 hly).1
            have hjI : (j : Int) < (n : Int) := by omega
            obtain ⟨b', off', hbe, hb', hcell'⟩ := HAT.out j y hly
            cases hbe
            have d0 := (HQ6.out.bel.cell (p := ⟨b, off + j * 5 + 0, none⟩) hb').trans (hcell' 0 _ rfl)
            simp only [Nat.add_zero] at d0
            rw [hyk] at d0
            have hbl6 := Nat.lt_of_lt_of_le hb' HQ6.out.bel.size
            have HBL5 := Lib.hid (Nat.lt_of_lt_of_le hb' HQ5.out.bel.size)
            have HFC := Lib.hid hfc
            clear hfc hj hy hyk hly hcell' hb'
            obtain ⟨b6, hb6q⟩ : ∃ b6, b6 = w5.heap.size := ⟨_, rfl⟩
            have HB6Q := Lib.hid hb6q
            go_wp2
            generalize w5.alloc (.cells #[.int .i64 x2, .int .i64 x1, .int .i64 x3, .int .i64 t, .int .i64 (-1), .int .i64 0] 107) = w6 at *
            rw [← hb6q] at HL6 ⊢
            clear hb6q
            obtain ⟨h0, h1, h2, h3, h4, h5⟩ := HL6.out.cells
            have hst := HL6.out.set45 j kd
            have o4 := HL6.out.fz 4; have o5 := HL6.out.fz 5
            have hll := HL6.out.lt
            simp only at h0 h1 h2 h3 h4 h5
            have hne1 : ¬ b = b6 := by have := HBL5.out; have := HB6Q.out; omega
            have hne2 : ¬ b6 = b := fun e => hne1 e.symm
            go_region
            have HB7 := Lib.hid (show Below w5.heap.size w5 ((w6.setCell ⟨b6, 4, none⟩ (.int .i64 j)).setCell ⟨b6, 5, none⟩ (.int .i64 kd)).drew from bd (bs (bs HB6.out (Nat.le_of_eq HB6Q.out.symm) _) (Nat.le_of_eq HB6Q.out.symm) _))
            have HL6 := Lib.hid (show LB ((w6.setCell ⟨b6, 4, none⟩ (.int .i64 j)).setCell ⟨b6, 5, none⟩ (.int .i64 kd)).drew b6 ⟨x2, x1, x3, t, j, kd⟩ from hst)
            clear h0 h1 h2 h3 h4 h5 hll hlm6 o4 o5 d0 hbl6 hst la hne1 hne2
            generalize ((w6.setCell ⟨b6, 4, none⟩ (.int .i64 j)).setCell ⟨b6, 5, none⟩ (.int .i64 kd)).drew = w7 at *
            have hb78 := ba (Below.refl w7.heap.size _) (.cells #[.int .i64 x2, .int .i64 x1, .int .i64 x3, .int .i64 t, .int .i64 j, .int .i64 kd] 107)
            have HQ7 := Lib.hid ((HQ5.out.below HB7.out).below hb78)
            have HL7 := Lib.hid (show LB (w7.alloc (.cells #[.int .i64 x2, .int .i64 x1, .int .i64 x3, .int .i64 t, .int .i64 j, .int .i64 kd] 107)) w7.heap.size ⟨x2, x1, x3, t, j, kd⟩ from LB.made _ ⟨x2, x1, x3, t, j, kd⟩)
            obtain ⟨h0, h1, h2, h3, h4, h5⟩ := HL6.out.cells
            have hll := HL6.out.lt
            simp only at h0 h1 h2 h3 h4 h5
            clear hb78
            -- HQ7, HL7: where Of stands, and the life in block b7, in the world w7.alloc (.cells #[.int .i64 x2, .int .i64 x1, .int .i64 x3, .int .i64 t, .int .i64 j, .int .i64 kd] 107), which becomes w9
            have HLEN := Lib.hid (show (lvs (l.drop (t + 1)) (t + 1)).reverse.length < 1000000 by
              rw [List.length_reverse]
              have := lvs_len (l.drop (t + 1)) (t + 1)
              rw [List.length_drop] at this
              have := HN.out; omega)
            go_wp2_with (at_builtin; (generalize w7.alloc (.cells #[.int .i64 x2, .int .i64 x1, .int .i64 x3, .int .i64 t, .int .i64 j, .int .i64 kd] 107) = w9 at *; obtain ⟨v2, wA, hra, hoA, hgA, hvA⟩ := own_appL HQ7.out.own ⟨x2, x1, x3, t, j, kd⟩ HL7.out HLEN.out HQ7.out.bel.size; refine wpList_app_run rfl _ _ _ rfl rfl rfl hra ?_; have HAPP := Lib.hid (And.intro hoA (And.intro hgA hvA)); clear hra hoA hgA hvA))
            obtain ⟨hoA, hgA, hvA⟩ := HAPP.out
            have hcgA : Chg (fun k => u3.ownBlock = some k) w9 wA := .of_grown hgA fun k e => e
            have HQ8 := Lib.hid (show OfS W wA M l t v2 from ⟨by
              have h := HQ7.out.map.chg hcgA (fun e => HQ7.out.ob _ e rfl)
              have hf : (fun k => (firstC (l.drop (t + 1)) (t + 1) k).map fun p => (p.1 : Int)) = fun k => (firstC (l.drop t) t k).map fun p => (p.1 : Int) := by
                funext k
                rw [HF.out k, if_neg fun h => by have h := h.1; rw [HCK.out] at h; cases h]
              rw [← hf]; exact h, by
              have e : lvs (l.drop t) t = ⟨x2, x1, x3, t, j, kd⟩ :: lvs (l.drop (t + 1)) (t + 1) := by
                rw [HLV.out, HFC.out]
                rfl
              rw [e, List.reverse_cons]
              exact hoA, (fun k hk e => by
                rcases hvA with h' | h'
                · rw [h'] at hk; exact HQ7.out.ob k hk e
                · rw [h'] at hk; cases hk
                  have := HQ7.out.map.lt
                  omega), HQ7.out.bel.trans (hcgA.below HQ7.out.bel.size fun k hk => (HQ7.out.own.lt k hk).1), HQ7.out.mn⟩)
            clear hoA hgA hvA hcgA
            go_roundw
            case rel => exact ⟨t, by omega, by go_num, HQ8⟩
            case measure => simp [intOf]
        · have HK6 := Lib.hid k6
          have HCK := Lib.hid hck
          clear hck
          go_wp2
          have HQ7 := Lib.hid (show OfS W w5 M l t u3 from ⟨by
            have h := HQ5.out.map
            have hf : (fun k => (firstC (l.drop (t + 1)) (t + 1) k).map fun p => (p.1 : Int)) = fun k => (firstC (l.drop t) t k).map fun p => (p.1 : Int) := by
              funext k
              rw [HF.out k, if_neg fun h => by have h := h.1; rw [HCK.out] at h; cases h]
            rw [← hf]; exact h, by
            rw [HL.out, if_neg HK6.out]
            exact HQ5.out.own, HQ5.out.ob, HQ5.out.bel, HQ5.out.mn⟩)
          go_roundw
          case rel => exact ⟨t, by omega, by go_num, HQ7⟩
          case measure => simp [intOf]
end Go.Proofs.Ytennhfkhdfalfaa

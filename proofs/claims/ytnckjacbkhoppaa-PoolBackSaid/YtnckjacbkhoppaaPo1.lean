/- pool: foreign, Foreign, check. -/
import Derived.Test.YtnckjacbkhoppaaPo0
namespace Go.Proofs.Ytnckjacbkhoppaa
open Go.RowKit Go.Maps
attribute [local go_sem] ext_cell ext_frozen extC_cell extC_frozen Mix.calmUpon Mix.mUpon
/-- A part that is foreign. -/
def forP (role kind : Int) (p : Pt) : Bool := if kind = 1 then (p.2.1 != 0 && p.2.1 != role) else if kind = 2 then p.2.1 != 0 else if kind = 3 then p.2.1 != role else false
def forO (role : Int) (o : Qo) : Bool := o.2.2.any (forP role o.1)
theorem any_take {α : Type} {l : List α} {p : α → Bool} {t : Nat} {x : α} (hx : l[t]? = some x) (h : (l.take t).any p = false) : (p x = true → l.any p = true) ∧ (p x = false → (l.take (t + 1)).any p = false) :=
  ⟨fun hp => List.any_eq_true.2 ⟨x, mem_at hx, hp⟩, fun hp => by rw [take_at hx, List.any_append, h]; simp [hp]⟩
set_option maxRecDepth 100000 in
set_option maxHeartbeats 4000000 in
theorem foreign_any (role k i : Int) (v : Value) (ps : List Pt) (hl : ps.length < 1000000) (W : World) (hV : Vc W v ps) : Calls Try.prog 110 #[.int .i64 role, .agg #[.int .i64 k, .int .i64 i, v]] W fun e w' => e = .returned (.bool (ps.any (forP role k))) ∧ Below W.heap.size W w' := by
  obtain ⟨va, vc, rfl, -, -⟩ := hV.form
  have HV := Lib.hid hV
  have hat : ∀ t x, ps[t]? = some x → ∃ b off, va = some ⟨b, off, none⟩ ∧ b < W.heap.size ∧ W.cell? ⟨b, off + t * 3, none⟩ = some (.int .i64 x.1) ∧ W.cell? ⟨b, off + t * 3 + 1, none⟩ = some (.int .i64 x.2.1) ∧ W.cell? ⟨b, off + t * 3 + 2, none⟩ = some (.int .i64 x.2.2) := fun t x hx => by
    rcases hV with ⟨_, rfl⟩ | ⟨b, off, cap, h1, h2, h3, h4, h5⟩
    · cases hx
    · cases h1
      obtain ⟨ht, hx2⟩ := List.getElem?_eq_some_iff.1 hx
      have := h5 t ht
      rw [show kk ps t = x.1 by unfold kk; rw [getD_lt ht, hx2], show rr ps t = x.2.1 by unfold rr; rw [getD_lt ht, hx2], show aa ps t = x.2.2 by unfold aa; rw [getD_lt ht, hx2]] at this
      exact ⟨b, off, rfl, h4, this⟩
  have HAT := Lib.hid hat
  obtain ⟨n, hn⟩ : ∃ n, n = ps.length := ⟨_, rfl⟩
  rw [← hn] at HV hl ⊢
  have HN := Lib.hid hn
  have hba := ba (Below.refl W.heap.size W) (.cells #[.int .i64 k, .int .i64 i, .slice va n vc] 40)
  have HK := Lib.hid (PB.made W k i (.slice va n vc))
  have HB := Lib.hid hba
  clear hV hat hn hba
  go_enter Try.func110, Try.ntmps110
  go_wp2
  generalize W.alloc (.cells #[.int .i64 k, .int .i64 i, .slice va n vc] 40) = w0 at *
  obtain ⟨bx, hbx⟩ : ∃ b, b = W.heap.size := ⟨_, rfl⟩
  rw [← hbx] at HK HB ⊢
  have HWQ := Lib.hid hbx
  clear hbx
  go_loopw [10] (fun iv wr => ∃ t : Nat, t ≤ n ∧ iv = .int .i64 t ∧ Hid ((ps.take t).any (forP role k) = false ∧ Below w0.heap.size w0 wr)) (fun iv _ => n - (intOf iv).toNat)
  case atStart => exact ⟨0, Nat.zero_le _, rfl, Lib.hid ⟨by simp, Below.refl _ _⟩⟩
  case round =>
    obtain ⟨t, ht, rfl, HQ⟩ := hrel
    obtain ⟨w1, rfl⟩ : ∃ w1, w1 = wr := ⟨_, rfl⟩
    have hBW : Below bx W w1 := HB.out.trans (HQ.out.2.mono (Nat.le_of_lt HK.out.lt))
    by_cases hlt : t < n
    · have hts : (t : Int) < (n : Int) := by omega
      obtain ⟨x, hx⟩ := at_lt (l := ps) (i := t) (by rw [← HN.out]; exact hlt)
      obtain ⟨b, off, rfl, hb, d0, d1, d2⟩ := HAT.out t x hx
      have hbb : b < bx := by have := HWQ.out; omega
      replace d0 := (hBW.cell (p := ⟨b, _, none⟩) hbb).trans d0
      replace d1 := (hBW.cell (p := ⟨b, _, none⟩) hbb).trans d1
      replace d2 := (hBW.cell (p := ⟨b, _, none⟩) hbb).trans d2
      have HA := Lib.hid (any_take hx HQ.out.1)
      have hPB := HK.out.below HQ.out.2
      obtain ⟨m0, m1, m2⟩ := hPB.cells
      have m3 := hPB.lt
      have q0 : b < w1.heap.size := by omega
      obtain ⟨pk, pr, pa⟩ := x
      simp only at d0 d1 d2
      have HB2 := Lib.hid (HQ.out.2.trans ((ba (Below.refl w1.heap.size w1) (.cells #[.int .i64 pk, .int .i64 pr, .int .i64 pa] 86)).mono HQ.out.2.size))
      clear hx hb hBW hPB hbb
      by_cases e1 : k = 1
      · have e1b : (k == 1) = true := by simp [e1]
        by_cases f1 : pr = 0
        · have f1b : (pr != 0) = false := by simp [f1]
          have HR := Lib.hid (HA.out.2 (by simp [forP, e1, f1]))
          clear e1 f1
          go_wp2
          go_roundw
          case rel => exact ⟨t + 1, by omega, by go_num, Lib.hid ⟨HR.out, HB2.out⟩⟩
          case measure => simp [intOf]; omega
        · have f1b : (pr != 0) = true := by simp [f1]
          by_cases f2 : pr = role
          · have f2b : (pr != role) = false := by simp [f2]
            have HR := Lib.hid (HA.out.2 (by simp [forP, e1, f2]))
            clear e1 f1 f2
            go_wp2
            go_roundw
            case rel => exact ⟨t + 1, by omega, by go_num, Lib.hid ⟨HR.out, HB2.out⟩⟩
            case measure => simp [intOf]; omega
          · have f2b : (pr != role) = true := by simp [f2]
            have HR := Lib.hid (HA.out.1 (by simp [forP, e1, f1, f2]))
            clear e1 f1 f2
            go_wp2
            go_ret
            exact ⟨by rw [HR.out]; rfl, by rw [← HWQ.out]; exact HB.out.trans (HB2.out.mono (Nat.le_of_lt HK.out.lt))⟩
      · have e1b : (k == 1) = false := by simp [e1]
        by_cases e2 : k = 2
        · have e2b : (k == 2) = true := by simp [e2]
          by_cases f1 : pr = 0
          · have f1b : (pr != 0) = false := by simp [f1]
            have HR := Lib.hid (HA.out.2 (by simp [forP, e2, f1]))
            clear e1 e2 f1
            go_wp2
            go_roundw
            case rel => exact ⟨t + 1, by omega, by go_num, Lib.hid ⟨HR.out, HB2.out⟩⟩
            case measure => simp [intOf]; omega
          · have f1b : (pr != 0) = true := by simp [f1]
            have HR := Lib.hid (HA.out.1 (by simp [forP, e2, f1]))
            clear e1 e2 f1
            go_wp2
            go_ret
            exact ⟨by rw [HR.out]; rfl, by rw [← HWQ.out]; exact HB.out.trans (HB2.out.mono (Nat.le_of_lt HK.out.lt))⟩
        · have e2b : (k == 2) = false := by simp [e2]
          by_cases e3 : k = 3
          · have e3b : (k == 3) = true := by simp [e3]
            by_cases f2 : pr = role
            · have f2b : (pr != role) = false := by simp [f2]
              have HR := Lib.hid (HA.out.2 (by simp [forP, e3, f2]))
              clear e1 e2 e3 f2
              go_wp2
              go_roundw
              case rel => exact ⟨t + 1, by omega, by go_num, Lib.hid ⟨HR.out, HB2.out⟩⟩
              case measure => simp [intOf]; omega
            · have f2b : (pr != role) = true := by simp [f2]
              have HR := Lib.hid (HA.out.1 (by simp [forP, e3, f2]))
              clear e1 e2 e3 f2
              go_wp2
              go_ret
              exact ⟨by rw [HR.out]; rfl, by rw [← HWQ.out]; exact HB.out.trans (HB2.out.mono (Nat.le_of_lt HK.out.lt))⟩
          · have e3b : (k == 3) = false := by simp [e3]
            have HR := Lib.hid (HA.out.2 (by simp [forP, e1, e2, e3]))
            clear e1 e2 e3
            go_wp2
            go_roundw
            case rel => exact ⟨t + 1, by omega, by go_num, Lib.hid ⟨HR.out, HB2.out⟩⟩
            case measure => simp [intOf]; omega
    · obtain rfl : n = t := by omega
      have HR := Lib.hid (show ps.any (forP role k) = false from by have := HQ.out.1; rw [HN.out, List.take_length] at this; exact this)
      have HBW := Lib.hid hBW
      clear hBW
      go_wp2
      go_ret
      exact ⟨by rw [HR.out]; rfl, by rw [← HWQ.out]; exact HBW.out⟩
/-- Whether one of the operations is foreign. -/
def forB (role : Int) (l : List Qo) : Bool := l.any (forO role)
set_option maxRecDepth 100000 in
set_option maxHeartbeats 4000000 in
theorem Foreign_any (role : Int) (v : Value) (l : List Po) (hl : ∀ x ∈ l, x.ps.length < 1000000) (W : World) (h : OL W v l) : Calls Try.prog 78 #[.int .i64 role, v] W fun e w' => e = .returned (.bool (forB role (l.map Po.pl))) ∧ Below W.heap.size W w' := by
  obtain ⟨a, n, c, rfl, hn, hc, hm, hat⟩ := h.rs.at_
  have hn9 : n ≤ 9223372036854775807 := by unfold maxLen at hm; omega
  have HN := Lib.hid hn; have HAT := Lib.hid hat; have HVV := Lib.hid h.vec; have HL := Lib.hid hl
  clear h hn hat hm hc hl
  go_enter Try.func78, Try.ntmps78
  go_wp2
  go_loopw [9] (fun iv wr => ∃ t : Nat, t ≤ n ∧ iv = .int .i64 t ∧ Hid (((l.take t).any fun x => forO role x.pl) = false ∧ Below W.heap.size W wr)) (fun iv _ => n - (intOf iv).toNat)
  case atStart => exact ⟨0, Nat.zero_le _, rfl, Lib.hid ⟨by simp, Below.refl _ _⟩⟩
  case round =>
    obtain ⟨t, ht, rfl, HQ⟩ := hrel
    obtain ⟨w1, rfl⟩ : ∃ w1, w1 = wr := ⟨_, rfl⟩
    by_cases hlt : t < n
    · have hts : (t : Int) < (n : Int) := by omega
      obtain ⟨x, hx⟩ := at_lt (l := l) (i := t) (by rw [← HN.out]; exact hlt)
      obtain ⟨b, off, rfl, hb, hcell⟩ := HAT.out t x hx
      have d0 := (HQ.out.2.cell (p := ⟨b, _, none⟩) hb).trans (hcell 0 _ rfl)
      have d1 := (HQ.out.2.cell (p := ⟨b, _, none⟩) hb).trans (hcell 1 _ rfl)
      have d2 := (HQ.out.2.cell (p := ⟨b, _, none⟩) hb).trans (hcell 2 _ rfl)
      simp only [Nat.add_zero] at d0
      have q0 : b < w1.heap.size := Nat.lt_of_lt_of_le hb HQ.out.2.size
      have HA := Lib.hid (any_take hx HQ.out.1)
      have hv := (HVV.out x (mem_at hx)).on HQ.out.2
      have hxl := HL.out x (mem_at hx)
      obtain ⟨xk, xi, xv, xs⟩ := x
      obtain ⟨va, vc, hvv, -, -⟩ := hv.form
      simp only at hvv d0 d1 d2 hv hxl
      subst hvv
      generalize hxn : xs.length = xn at *
      have hb1 := ba (Below.refl w1.heap.size w1) (.cells #[.int .i64 xk, .int .i64 xi, .slice va xn vc] 40)
      have HB1 := Lib.hid (HQ.out.2.trans (hb1.mono HQ.out.2.size))
      have HF := Lib.hid (foreign_any role xk xi (.slice va xn vc) xs (by rw [hxn]; exact hxl) _ (hv.on hb1))
      clear hcell hx hb hv hxl hb1 hxn
      cases hq : xs.any (forP role xk) with
      | true =>
        have HR := Lib.hid (HA.out.1 hq)
        rw [hq] at HF
        clear hq
        go_wp2_with fail
        refine HF.out.mono ?_
        rintro e w2 ⟨rfl, hb2⟩
        have HB2 := Lib.hid (bt HB1.out hb2)
        clear hb2
        go_wp2
        go_ret
        exact ⟨by unfold forB; rw [List.any_map]; rw [show l.any (forO role ∘ Po.pl) = true from HR.out]; rfl, HB2.out⟩
      | false =>
        have HR := Lib.hid (HA.out.2 hq)
        rw [hq] at HF
        clear hq
        go_wp2_with fail
        refine HF.out.mono ?_
        rintro e w2 ⟨rfl, hb2⟩
        have HB2 := Lib.hid (bt HB1.out hb2)
        clear hb2
        go_wp2
        go_roundw
        case rel => exact ⟨t + 1, by omega, by go_num, Lib.hid ⟨HR.out, HB2.out⟩⟩
        case measure => simp [intOf]; omega
    · obtain rfl : n = t := by omega
      have HR := Lib.hid (show l.any (forO role ∘ Po.pl) = false from by have := HQ.out.1; rw [HN.out, List.take_length] at this; exact this)
      go_wp2
      go_ret
      exact ⟨by unfold forB; rw [List.any_map, HR.out]; rfl, HQ.out.2⟩
end Go.Proofs.Ytnckjacbkhoppaa

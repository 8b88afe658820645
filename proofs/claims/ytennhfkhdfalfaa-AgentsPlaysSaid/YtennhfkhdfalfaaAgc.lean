/- agents: manciplelaw22.works. -/
import Derived.Test.YtennhfkhdfalfaaAga
namespace Go.Proofs.Ytennhfkhdfalfaa
open Go.RowKit Go.Maps
attribute [local go_sem] ext_cell ext_frozen extC_cell extC_frozen Mix.calmUpon Mix.mUpon
attribute [local go_sem] eq4
section
variable {W w : World} {tp M : Nat} {cap most : Int} {S : List Pa}
theorem preg (h : AP W w tp M cap most S) {k : Int} (hk : I64 k) {v : Value} {ps : List Pt} (hv : Vc w v ps) (hvo : ps = [] ∨ ∀ b, v.ownBlock = some b → b ≠ tp ∧ b ≠ M) :
    Calls Try.prog 24 #[ptr tp, .int .i64 k, v] w fun e w' => e = .returned (.tuple #[.bool (regB cap most S k ps), .int .i64 (regE cap most S k ps)]) ∧ AP W w' tp M cap most (regP cap most S k ps) ∧ Chg (TM tp M) w w' := by
  obtain ⟨F, h⟩ := h; exact aregister h hk hv hvo
theorem ptake (h : AP W w tp M cap most S) {k : Int} (hk : I64 k) {v : Value} {ps : List Pt} (hv : Vc w v ps) (hl : ps.length < 1000000000) :
    Calls Try.prog 25 #[ptr tp, .int .i64 k, v] w fun e w' => e = .returned (.int .i64 (takeE S k ps)) ∧ AP W w' tp M cap most (takeP S k ps) ∧ Chg (fun b => b = M) w w' := by
  obtain ⟨F, h⟩ := h; exact atake h hk hv hl
theorem pgive (h : AP W w tp M cap most S) {k : Int} (hk : I64 k) {v : Value} {ps : List Pt} (hv : Vc w v ps) (hl : ps.length < 1000000000) :
    Calls Try.prog 29 #[ptr tp, .int .i64 k, v] w fun e w' => e = .returned (.int .i64 (giveE S k ps)) ∧ AP W w' tp M cap most (giveP S k ps) ∧ Chg (fun b => b = M) w w' := by
  obtain ⟨F, h⟩ := h; exact agive h hk hv hl
theorem psum (h : AP W w tp M cap most S) : Calls Try.prog 20 #[ptr tp] w fun e w' => e = .returned (S4 (sumA totA S)) ∧ Below w.heap.size w w' := by
  obtain ⟨F, h⟩ := h; exact asum h
theorem pfree (h : AP W w tp M cap most S) (hln : S.length < 1000000) : Calls Try.prog 22 #[ptr tp] w fun e w' => e = .returned (S4 (sumA freA S)) ∧ Below w.heap.size w w' := by
  obtain ⟨F, h⟩ := h; exact afree h hln
theorem pall (h : AP W w tp M cap most S) (hln : S.length < 1000000) : Calls Try.prog 19 #[ptr tp] w (RetA w S) := by
  obtain ⟨F, h⟩ := h; exact aall h hln
theorem pnew (W : World) {cap most : Int} (hc : 1 ≤ cap) (hm : 1 ≤ most ∧ most ≤ 9007199254740992) : Calls Try.prog 12 #[.int .i64 cap, .int .i64 most] W fun e w' => e = .returned (ptr (W.heap.size + 1)) ∧ AP W w' (W.heap.size + 1) W.heap.size cap most [] ∧ Below W.heap.size W w' := by
  refine (anew W W (Below.refl _ _) hc hm).mono ?_
  rintro e w' ⟨rfl, h, hb⟩
  exact ⟨rfl, ⟨_, h⟩, hb⟩
theorem AP.lt (h : AP W w tp M cap most S) : tp < w.heap.size ∧ M < w.heap.size := by obtain ⟨F, h⟩ := h; exact h.lt
theorem AP.new (h : AP W w tp M cap most S) : W.heap.size ≤ tp ∧ W.heap.size ≤ M := by obtain ⟨F, h⟩ := h; exact h.new
end
abbrev wf4 : List Pt := [(0, 0, 4)]
abbrev wf3 : List Pt := [(0, 0, 3)]
abbrev wf6 : List Pt := [(0, 0, 6)]
abbrev wS1 : List Pa := [(1, wf4, wf4)]
abbrev wS2 : List Pa := [(1, wf4, [(0, 0, 1)])]
theorem wr1 : regB 2 9 [] 1 wf4 = true ∧ regE 2 9 [] 1 wf4 = 0 ∧ regP 2 9 [] 1 wf4 = wS1 := by decide
theorem wr2 : regB 2 9 wS1 1 wf4 = false ∧ regE 2 9 wS1 1 wf4 = 0 ∧ regP 2 9 wS1 1 wf4 = wS1 := by decide
theorem wr3 : regB 2 9 wS1 2 wf6 = false ∧ regE 2 9 wS1 2 wf6 = 31 ∧ regP 2 9 wS1 2 wf6 = wS1 := by decide
theorem wr4 : takeE wS1 1 wf3 = 0 ∧ takeP wS1 1 wf3 = wS2 := by decide
theorem wr5 : giveE wS2 1 wf4 = 31 ∧ giveP wS2 1 wf4 = wS2 := by decide
theorem wr6 : sumA totA wS2 0 = 4 ∧ sumA totA wS2 1 = 0 ∧ sumA totA wS2 2 = 0 ∧ sumA totA wS2 3 = 0 := by decide
theorem wr7 : sumA freA wS2 0 = 1 ∧ sumA freA wS2 1 = 0 ∧ sumA freA wS2 2 = 0 ∧ sumA freA wS2 3 = 0 := by decide
theorem cell_new (w : World) (c : Array Value) (e : TypeId) (j : Nat) : (w.alloc (.cells c e)).cell? ⟨w.heap.size, j, none⟩ = c[j]? := by
  have h := heap_alloc_new w (.cells c e)
  unfold World.cell?
  dsimp only
  rw [h]
  rfl
theorem one_part (w : World) (a : Int) : Vc (w.alloc (.cells #[.int .i64 0, .int .i64 0, .int .i64 a] 57)) (.slice (some ⟨w.heap.size, 0, none⟩) 1 1) [(0, 0, a)] := .inr ⟨w.heap.size, 0, 1, rfl, Nat.le_refl _, by decide, by simp, fun i hi => by
    obtain rfl : i = 0 := by simpa using hi
    exact ⟨cell_new w _ _ 0, cell_new w _ _ 1, cell_new w _ _ 2⟩⟩
set_option maxRecDepth 100000 in
set_option maxHeartbeats 4000000 in
theorem works22 (W : World) : Calls Try.prog 13 #[] W fun e W' => e = .returned (.bool true) ∧ Below W.heap.size W W' := by
  go_enter Try.func13, Try.ntmps13
  go_wp2_with fail
  refine (pnew W (cap := 2) (most := 9) (by decide) (by decide)).mono ?_
  rintro e w1 ⟨rfl, h1, hb1⟩
  have hlt := h1.lt
  obtain ⟨tp, htp⟩ : ∃ tp, tp = W.heap.size + 1 := ⟨_, rfl⟩
  obtain ⟨M, hM⟩ : ∃ M, M = W.heap.size := ⟨_, rfl⟩
  rw [← htp] at h1 hlt ⊢
  have h1 : AP W w1 tp M 2 9 [] := by rw [hM]; exact h1
  have hM2 : M < w1.heap.size := by rw [hM]; exact hlt.2
  have hb12 := ba (Below.refl w1.heap.size w1) (.cells #[.int .i64 0, .int .i64 0, .int .i64 4] 57)
  have hb23 := ba (Below.refl (w1.alloc (.cells #[.int .i64 0, .int .i64 0, .int .i64 4] 57)).heap.size (w1.alloc (.cells #[.int .i64 0, .int .i64 0, .int .i64 4] 57))) (.cells #[.int .i64 0, .int .i64 0, .int .i64 3] 57)
  have hv4 := (one_part w1 4).on hb23
  have hv3 := one_part (w1.alloc (.cells #[.int .i64 0, .int .i64 0, .int .i64 4] 57)) 3
  have es : (w1.alloc (.cells #[.int .i64 0, .int .i64 0, .int .i64 4] 57)).heap.size = w1.heap.size + 1 := by simp
  have HSZ := Lib.hid (show w1.heap.size + 2 ≤ ((w1.alloc (.cells #[.int .i64 0, .int .i64 0, .int .i64 4] 57)).alloc (.cells #[.int .i64 0, .int .i64 0, .int .i64 3] 57)).heap.size by simp)
  rw [es] at hv3
  obtain ⟨q, hq⟩ : ∃ q, q = w1.heap.size := ⟨_, rfl⟩
  obtain ⟨q3, hq3⟩ : ∃ q3, q3 = w1.heap.size + 1 := ⟨_, rfl⟩
  have HQ := Lib.hid (show tp < q ∧ M < q ∧ q3 = q + 1 from ⟨by omega, by omega, by omega⟩)
  have HT := Lib.hid ((h1.below hb12).below hb23)
  rw [← hq] at hv4 HSZ
  rw [← hq3] at hv3
  have HV4 := Lib.hid hv4; have HV3 := Lib.hid hv3
  have hqq := Lib.hid hq; have hqq3 := Lib.hid hq3
  clear h1 hlt htp hM hM2 hb12 hb23 hv4 hv3 es hq hq3 hb1
  go_wp2_with fail
  rw [← hqq3.out, ← hqq.out]
  generalize (w1.alloc (.cells #[.int .i64 0, .int .i64 0, .int .i64 4] 57)).alloc (.cells #[.int .i64 0, .int .i64 0, .int .i64 3] 57) = w2 at *
  clear hqq hqq3
  refine (preg HT.out (k := 1) ⟨by decide, by decide⟩ (v := .slice (some ⟨q, 0, none⟩) 1 1) (ps := wf4) HV4.out (.inr fun b hb => by
    have hb : q = b := Option.some.inj hb
    have := HQ.out
    omega)).mono ?_
  rintro e w3 ⟨rfl, h3, hc3⟩
  rw [wr1.1, wr1.2.1]
  have HT := Lib.hid (show AP W w3 tp M 2 9 wS1 from wr1.2.2 ▸ h3)
  have HV4 := Lib.hid (HV4.out.keep hc3 (.inr fun b hb e => by
    have hb : q = b := Option.some.inj hb
    have e : b = tp ∨ b = M := e
    have := HQ.out; omega))
  have HV3 := Lib.hid (HV3.out.keep hc3 (.inr fun b hb e => by
    have hb : q3 = b := Option.some.inj hb
    have e : b = tp ∨ b = M := e
    have := HQ.out; omega))
  have HSZ := Lib.hid (Nat.le_trans HSZ.out hc3.size)
  clear h3 hc3
  go_wp2_with fail
  refine (preg HT.out (k := 1) ⟨by decide, by decide⟩ (v := .slice (some ⟨q, 0, none⟩) 1 1) (ps := wf4) HV4.out (.inr fun b hb => by
    have hb : q = b := Option.some.inj hb
    have := HQ.out
    omega)).mono ?_
  rintro e w4 ⟨rfl, h3, hc3⟩
  rw [wr2.1, wr2.2.1]
  have HT := Lib.hid (show AP W w4 tp M 2 9 wS1 from wr2.2.2 ▸ h3)
  have HV4 := Lib.hid (HV4.out.keep hc3 (.inr fun b hb e => by
    have hb : q = b := Option.some.inj hb
    have e : b = tp ∨ b = M := e
    have := HQ.out; omega))
  have HV3 := Lib.hid (HV3.out.keep hc3 (.inr fun b hb e => by
    have hb : q3 = b := Option.some.inj hb
    have e : b = tp ∨ b = M := e
    have := HQ.out; omega))
  have HSZ := Lib.hid (Nat.le_trans HSZ.out hc3.size)
  clear h3 hc3
  have hb45 := ba (Below.refl w4.heap.size w4) (.cells #[.int .i64 0, .int .i64 0, .int .i64 6] 57)
  have HT := Lib.hid (HT.out.below hb45)
  have HV4 := Lib.hid (HV4.out.on hb45); have HV3 := Lib.hid (HV3.out.on hb45)
  have HV6 := Lib.hid (one_part w4 6)
  obtain ⟨q6, hq6⟩ : ∃ q, q = w4.heap.size := ⟨_, rfl⟩
  rw [← hq6] at HV6
  have HQ := Lib.hid (show tp < q ∧ M < q ∧ q3 = q + 1 ∧ tp < q6 ∧ M < q6 from ⟨HQ.out.1, HQ.out.2.1, HQ.out.2.2, by have := HSZ.out; have := HQ.out; omega, by have := HSZ.out; have := HQ.out; omega⟩)
  have HSZ := Lib.hid (Nat.le_trans HSZ.out hb45.size)
  have hqq := Lib.hid hq6
  clear hb45 hq6
  go_wp2_with fail
  rw [← hqq.out]
  generalize w4.alloc (.cells #[.int .i64 0, .int .i64 0, .int .i64 6] 57) = w5 at *
  clear hqq
  refine (preg HT.out (k := 2) ⟨by decide, by decide⟩ (v := .slice (some ⟨q6, 0, none⟩) 1 1) (ps := wf6) HV6.out (.inr fun b hb => by
    have hb : q6 = b := Option.some.inj hb
    have := HQ.out
    omega)).mono ?_
  rintro e w6 ⟨rfl, h3, hc3⟩
  rw [wr3.1, wr3.2.1]
  have HT := Lib.hid (show AP W w6 tp M 2 9 wS1 from wr3.2.2 ▸ h3)
  have HV4 := Lib.hid (HV4.out.keep hc3 (.inr fun b hb e => by
    have hb : q = b := Option.some.inj hb
    have e : b = tp ∨ b = M := e
    have := HQ.out; omega))
  have HV3 := Lib.hid (HV3.out.keep hc3 (.inr fun b hb e => by
    have hb : q3 = b := Option.some.inj hb
    have e : b = tp ∨ b = M := e
    have := HQ.out; omega))
  have HSZ := Lib.hid (Nat.le_trans HSZ.out hc3.size)
  clear h3 hc3
  go_wp2_with fail
  refine (ptake HT.out (k := 1) ⟨by decide, by decide⟩ HV3.out (by decide)).mono ?_
  rintro e w7 ⟨rfl, h7, hc7⟩
  rw [wr4.1]
  have HT := Lib.hid (show AP W w7 tp M 2 9 wS2 from wr4.2 ▸ h7)
  have HV4 := Lib.hid (HV4.out.keep hc7 (.inr fun b hb e => by
    have hb : q = b := Option.some.inj hb
    have e : b = M := e
    have := HQ.out; omega))
  clear h7 hc7
  go_wp2_with fail
  refine (pgive HT.out (k := 1) ⟨by decide, by decide⟩ HV4.out (by decide)).mono ?_
  rintro e w8 ⟨rfl, h8, hc8⟩
  rw [wr5.1]
  have HT := Lib.hid (show AP W w8 tp M 2 9 wS2 from wr5.2 ▸ h8)
  clear h8 hc8
  have hS : S4 (sumA totA wS2) = .agg #[.int .i64 4, .int .i64 0, .int .i64 0, .int .i64 0] := by
    unfold S4; rw [wr6.1, wr6.2.1, wr6.2.2.1, wr6.2.2.2]
  have hF : S4 (sumA freA wS2) = .agg #[.int .i64 1, .int .i64 0, .int .i64 0, .int .i64 0] := by
    unfold S4; rw [wr7.1, wr7.2.1, wr7.2.2.1, wr7.2.2.2]
  have HS := Lib.hid hS; have HF := Lib.hid hF
  clear hS hF
  go_wp2_with fail
  refine (psum HT.out).mono ?_
  rintro e w9 ⟨rfl, hb9⟩
  rw [HS.out]
  have HT := Lib.hid (HT.out.below hb9)
  clear hb9
  go_wp2_with fail
  refine (pfree HT.out (by decide)).mono ?_
  rintro e w10 ⟨rfl, hb10⟩
  rw [HF.out]
  have HT := Lib.hid (HT.out.below hb10)
  clear hb10
  go_wp2
  go_ret
  exact ⟨rfl, HT.out.bel⟩
end Go.Proofs.Ytennhfkhdfalfaa

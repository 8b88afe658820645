/- agents: what an act of the statements does. -/
import Derived.Test.YtennhfkhdfalfaaAg5
import Derived.Test.YtennhfkhdfalfaaAg8
import Derived.Test.YtennhfkhdfalfaaEv0
namespace Go.Proofs.Ytennhfkhdfalfaa
open Go.RowKit Go.Maps
attribute [local go_sem] ext_cell ext_frozen extC_cell extC_frozen Mix.calmUpon Mix.mUpon
def doB (cap most : Int) (S : List Pa) (a : Aa) : Bool := if a.kind = 0 then regB cap most S a.id a.vs else if a.kind = 1 then (fndA S a.id).isSome else false
def doE (cap most : Int) (S : List Pa) (a : Aa) : Int := if a.kind = 0 then regE cap most S a.id a.vs else if a.kind = 1 then 0 else if a.kind = 2 then takeE S a.id a.vs else if a.kind = 3 then giveE S a.id a.vs else turnE S a.id a.vs a.us
def doP (cap most : Int) (S : List Pa) (a : Aa) : List Pa := if a.kind = 0 then regP cap most S a.id a.vs else if a.kind = 1 then delA S a.id else if a.kind = 2 then takeP S a.id a.vs else if a.kind = 3 then giveP S a.id a.vs else turnP S a.id a.vs a.us
/-- Block b holds an act. -/
def BA (w : World) (b : Nat) (a : Aa) : Prop := w.heap[b]? = some (.cells #[.int .i64 a.kind, .int .i64 a.id, a.v, a.u] 34 (0, 0))
section
variable {w w' : World} {b : Nat} {a : Aa}
theorem BA.lt (h : BA w b a) : b < w.heap.size := (Array.getElem?_eq_some_iff.1 h).1
theorem BA.cells (h : BA w b a) : w.cell? ⟨b, 0, none⟩ = some (.int .i64 a.kind) ∧ w.cell? ⟨b, 1, none⟩ = some (.int .i64 a.id) ∧ w.cell? ⟨b, 2, none⟩ = some a.v ∧ w.cell? ⟨b, 3, none⟩ = some a.u := by unfold BA at h; simp [World.cell?, h]
end
theorem AP.bel {W w : World} {tp M : Nat} {cap most : Int} {S : List Pa} (h : AP W w tp M cap most S) : Below W.heap.size W w := by obtain ⟨F, h⟩ := h; exact h.bel
theorem AP.below {W w w' : World} {tp M : Nat} {cap most : Int} {S : List Pa} (h : AP W w tp M cap most S) (hb : Below w.heap.size w w') : AP W w' tp M cap most S := by obtain ⟨F, h⟩ := h; exact ⟨F, h.below hb⟩
theorem AP.ain {W w : World} {tp M : Nat} {cap most : Int} {S : List Pa} (h : AP W w tp M cap most S) : AIn cap most S := by obtain ⟨F, h⟩ := h; exact h.ain
section
variable {W w : World} {tp M : Nat} {cap most : Int} {S : List Pa}
set_option maxRecDepth 100000 in
set_option maxHeartbeats 4000000 in
theorem ado (h : AP W w tp M cap most S) (a : Aa) (hin : AaIn W a) (hl : a.vs.length < 1000000 ∧ a.us.length < 1000000) :
    Calls Try.prog 15 #[ptr tp, .agg #[.int .i64 a.kind, .int .i64 a.id, a.v, a.u]] w fun e w' => e = .returned (.tuple #[.bool (doB cap most S a), .int .i64 (doE cap most S a)]) ∧ AP W w' tp M cap most (doP cap most S a) ∧ Chg (TM tp M) w w' := by
  obtain ⟨ak, ai, av, avs, au, aus⟩ := a
  obtain ⟨va, vc, hvv, -, -⟩ := hin.vc.form
  obtain ⟨ua, uc, huv, -, -⟩ := hin.uc.form
  simp only at hvv huv
  subst hvv huv
  obtain ⟨F, h⟩ := h
  have hid : I64 ai := hin.id
  have hvc : Vc W (.slice va avs.length vc) avs := hin.vc
  have huc : Vc W (.slice ua aus.length uc) aus := hin.uc
  have hl : avs.length < 1000000 ∧ aus.length < 1000000 := hl
  have hvo : avs = [] ∨ ∀ b, Value.ownBlock (.slice va avs.length vc) = some b → b ≠ tp ∧ b ≠ M := (hvc.old (F := fun b => b = tp ∨ b = M) (fun k e => by rcases e with e | e; rw [e]; exact h.new.1; rw [e]; exact h.new.2)).imp id fun h b hb => ⟨fun e => h b hb (.inl e), fun e => h b hb (.inr e)⟩
  obtain ⟨vn, hvn⟩ : ∃ n, n = avs.length := ⟨_, rfl⟩
  obtain ⟨un, hun⟩ : ∃ n, n = aus.length := ⟨_, rfl⟩
  rw [← hvn] at hvc hvo ⊢
  rw [← hun] at huc ⊢
  have hb1 := ba (Below.refl w.heap.size w) (.cells #[.int .i64 ak, .int .i64 ai, .slice va vn vc, .slice ua un uc] 34)
  have H := Lib.hid (h.below hb1)
  have HB1 := Lib.hid hb1
  have HI := Lib.hid hid
  have HV := Lib.hid ((hvc.on h.bel).on hb1); have HU := Lib.hid ((huc.on h.bel).on hb1)
  have HVO := Lib.hid hvo
  have HL := Lib.hid hl
  have HBA := Lib.hid (show BA (w.alloc (.cells #[.int .i64 ak, .int .i64 ai, .slice va vn vc, .slice ua un uc] 34)) w.heap.size ⟨ak, ai, .slice va vn vc, avs, .slice ua un uc, aus⟩ from heap_alloc_new w _)
  clear h hin hb1 hvn hun hl hid hvc huc hvo
  unfold doB doE doP
  simp only
  have hc0 := HBA.out.cells
  simp only at hc0
  obtain ⟨c0, c1, c2, c3⟩ := hc0
  have ql := HBA.out.lt
  go_enter Try.func15, Try.ntmps15
  by_cases k0 : ak = 0
  · rw [if_pos k0, if_pos k0, if_pos k0]
    subst k0
    go_wp2_with fail
    refine (aregister H.out HI.out HV.out HVO.out).mono ?_
    rintro e w2 ⟨rfl, h2, hc2⟩
    have HR := Lib.hid (And.intro h2 (hc2))
    have HB := Lib.hid ((Chg.of_below (TM tp M) HB1.out).same hc2)
    clear h2 hc2 c0 c1 c2 c3 ql
    go_wp2
    go_ret2
    exact ⟨rfl, HR.out.1, HB.out⟩
  rw [if_neg k0, if_neg k0, if_neg k0]
  have k0b : (ak == 0) = false := by simpa using k0
  by_cases k1 : ak = 1
  · rw [if_pos k1, if_pos k1, if_pos k1]
    subst k1
    go_wp2_with fail
    refine (alose H.out HI.out).mono ?_
    rintro e w2 ⟨rfl, h2, hc2⟩
    have HR := Lib.hid (And.intro h2 (hc2))
    have HB := Lib.hid ((Chg.of_below (TM tp M) HB1.out).same hc2)
    clear h2 hc2 c0 c1 c2 c3 ql
    go_wp2
    go_ret2
    exact ⟨rfl, HR.out.1, HB.out⟩
  rw [if_neg k1, if_neg k1]
  have k1b : (ak == 1) = false := by simpa using k1
  by_cases k2 : ak = 2
  · rw [if_pos k2, if_pos k2, if_neg k1]
    subst k2
    go_wp2_with fail
    refine (atake H.out HI.out HV.out (by have := HL.out.1; omega)).mono ?_
    rintro e w2 ⟨rfl, h2, hc2⟩
    have HR := Lib.hid (And.intro h2 (hc2))
    have HB := Lib.hid ((Chg.of_below (TM tp M) HB1.out).same (hc2.mono fun b e => .inr e))
    clear h2 hc2 c0 c1 c2 c3 ql
    go_wp2
    go_ret2
    exact ⟨rfl, HR.out.1, HB.out⟩
  rw [if_neg k2, if_neg k2, if_neg k1]
  have k2b : (ak == 2) = false := by simpa using k2
  by_cases k3 : ak = 3
  · rw [if_pos k3, if_pos k3]
    subst k3
    go_wp2_with fail
    refine (agive H.out HI.out HV.out (by have := HL.out.1; omega)).mono ?_
    rintro e w2 ⟨rfl, h2, hc2⟩
    have HR := Lib.hid (And.intro h2 (hc2))
    have HB := Lib.hid ((Chg.of_below (TM tp M) HB1.out).same (hc2.mono fun b e => .inr e))
    clear h2 hc2 c0 c1 c2 c3 ql
    go_wp2
    go_ret2
    exact ⟨rfl, HR.out.1, HB.out⟩
  rw [if_neg k3, if_neg k3]
  have k3b : (ak == 3) = false := by simpa using k3
  go_wp2_with fail
  refine (aturn H.out HI.out HV.out (by have := HL.out.1; omega) HU.out (by have := HL.out.2; omega)).mono ?_
  rintro e w2 ⟨rfl, h2, hc2⟩
  have HR := Lib.hid (And.intro h2 (hc2))
  have HB := Lib.hid ((Chg.of_below (TM tp M) HB1.out).same (hc2.mono fun b e => .inr e))
  clear h2 hc2 c0 c1 c2 c3 ql
  go_wp2
  go_ret2
  exact ⟨rfl, HR.out.1, HB.out⟩
end
end Go.Proofs.Ytennhfkhdfalfaa

/- filters: the law's Do. -/
import Derived.Test.YtennhfkhdfalfaaFif
namespace Go.Proofs.Ytennhfkhdfalfaa
open Go.RowKit Go.Maps
attribute [local go_sem] ext_cell ext_frozen extC_cell extC_frozen Mix.calmUpon Mix.mUpon
/-- What an act makes of the filters, and what it tells. -/
def unwP (a : Fa) : Pf → Bool := if a.kind = 1 then fun f => f.1 == a.n else if a.kind = 2 then fun f => f.2.1 == a.n else fun f => decide (f.2.2.1 ≤ a.n)
def dofP (cap : Int) (S : List Pf) (a : Fa) : List Pf := if a.kind = 0 then putP cap S a.f.pl else S.filter fun f => !unwP a f
def dofE (cap : Int) (S : List Pf) (a : Fa) : Int := if a.kind = 0 then putE cap S a.f.pl else (S.length : Int) - ((S.filter fun f => !unwP a f).length : Int)
/-- Block b holds an act. -/
def AB (w : World) (b : Nat) (k n i g t : Int) (v : Value) : Prop := w.heap[b]? = some (.cells #[.int .i64 k, .int .i64 n, .int .i64 i, .int .i64 g, .int .i64 t, v] 74 (0, 0))
section
variable {w w' : World} {b : Nat} {k n i g t : Int} {v : Value}
theorem AB.made (w : World) (k n i g t : Int) (v : Value) : AB (w.alloc (.cells #[.int .i64 k, .int .i64 n, .int .i64 i, .int .i64 g, .int .i64 t, v] 74)) w.heap.size k n i g t v := heap_alloc_new w _
theorem AB.lt (h : AB w b k n i g t v) : b < w.heap.size := (Array.getElem?_eq_some_iff.1 h).1
theorem AB.cells (h : AB w b k n i g t v) : w.cell? ⟨b, 0, none⟩ = some (.int .i64 k) ∧ w.cell? ⟨b, 1, none⟩ = some (.int .i64 n) ∧ w.cell? ⟨b, 2, none⟩ = some (.int .i64 i) ∧ w.cell? ⟨b, 3, none⟩ = some (.int .i64 g) ∧ w.cell? ⟨b, 4, none⟩ = some (.int .i64 t) ∧ w.cell? ⟨b, 5, none⟩ = some v := by unfold AB at h; simp [World.cell?, h]
end
section
variable {W w : World} {tp M : Nat} {cap : Int} {F : K2 → Option Fx} {S : List Pf}
theorem fputB (h : FT W w tp M cap F S) (x : Fl) (hx : Vc w x.vv x.ps) (hxl : x.ps.length < 1000000) (hsl : S.length < 900000) (hi : I64 x.fr ∧ I64 x.ag ∧ I64 x.ti) :
    Calls Try.prog 45 #[fptr tp, flval x] w fun e w' => e = .returned (.int .i64 (putE cap S x.pl)) ∧ RP W w w' tp M cap F (putP cap S x.pl) :=
  (fputF h x hx hxl hsl hi).mono fun _ _ ⟨h1, h2, _⟩ => ⟨h1, h2⟩
set_option maxRecDepth 100000 in
set_option maxHeartbeats 2000000 in
theorem fdoB (h : FT W w tp M cap F S) (a : Fa) (hv : Vc w a.f.vv a.f.ps) (hvl : a.f.ps.length < 1000000) (hsl : S.length < 900000) (hi : I64 a.f.fr ∧ I64 a.f.ag ∧ I64 a.f.ti) :
    Calls Try.prog 33 #[fptr tp, .agg #[.int .i64 a.kind, .int .i64 a.n, .int .i64 a.f.fr, .int .i64 a.f.ag, .int .i64 a.f.ti, a.f.vv]] w fun e w' => e = .returned (.int .i64 (dofE cap S a)) ∧ RP W w w' tp M cap F (dofP cap S a) := by
  obtain ⟨ak, an, ⟨i, g, t, v, ps⟩⟩ := a
  obtain ⟨va, vc, hvv, -, -⟩ := hv.form
  simp only at hvv hv hvl hi
  subst hvv
  have hb1 := ba (Below.refl w.heap.size w) (.cells #[.int .i64 ak, .int .i64 an, .int .i64 i, .int .i64 g, .int .i64 t, .slice va ps.length vc] 74)
  have HA := Lib.hid (AB.made w ak an i g t (.slice va ps.length vc))
  have HB := Lib.hid hb1
  have H := Lib.hid (h.below hb1)
  have HV := Lib.hid (hv.on hb1)
  have HVL := Lib.hid hvl; have HSL := Lib.hid hsl; have HI := Lib.hid hi
  clear h hv hvl hb1 hsl hi
  obtain ⟨x0, x1, x2, x3, x4, x5⟩ := HA.out.cells
  have xl := HA.out.lt
  unfold dofE dofP unwP
  simp only
  by_cases k0 : ak = 0
  · have HK := Lib.hid k0
    have HR := Lib.hid (fputB H.out ⟨i, g, t, .slice va ps.length vc, ps⟩ HV.out HVL.out HSL.out HI.out)
    rw [if_pos k0, if_pos k0]
    have kb : (ak == 0) = true := by simpa using k0
    clear k0
    go_enter Try.func33, Try.ntmps33
    go_wp2_with fail
    refine HR.out.mono ?_
    rintro e w1 ⟨rfl, hf⟩
    have HF := Lib.hid hf
    clear hf
    go_wp2
    go_ret
    exact ⟨rfl, HF.out.from_ HB.out⟩
  have kb0 : (ak == 0) = false := by simpa using k0
  rw [if_neg k0, if_neg k0]
  by_cases k1 : ak = 1
  · have HR := Lib.hid (fforget H.out an)
    rw [if_pos k1]
    have kb : (ak == 1) = true := by simpa using k1
    clear k0 k1
    go_enter Try.func33, Try.ntmps33
    go_wp2_with fail
    refine HR.out.mono ?_
    rintro e w1 ⟨rfl, hf⟩
    have HF := Lib.hid hf
    clear hf
    go_wp2
    go_ret
    exact ⟨rfl, HF.out.from_ HB.out⟩
  have kb1 : (ak == 1) = false := by simpa using k1
  rw [if_neg k1]
  by_cases k2 : ak = 2
  · have HR := Lib.hid (flose H.out an)
    rw [if_pos k2]
    have kb : (ak == 2) = true := by simpa using k2
    clear k0 k1 k2
    go_enter Try.func33, Try.ntmps33
    go_wp2_with fail
    refine HR.out.mono ?_
    rintro e w1 ⟨rfl, hf⟩
    have HF := Lib.hid hf
    clear hf
    go_wp2
    go_ret
    exact ⟨rfl, HF.out.from_ HB.out⟩
  have kb2 : (ak == 2) = false := by simpa using k2
  rw [if_neg k2]
  have HR := Lib.hid (fexpire H.out an)
  clear k0 k1 k2
  go_enter Try.func33, Try.ntmps33
  go_wp2_with fail
  refine HR.out.mono ?_
  rintro e w1 ⟨rfl, hf⟩
  have HF := Lib.hid hf
  clear hf
  go_wp2
  go_ret
  exact ⟨rfl, HF.out.from_ HB.out⟩
theorem fdo (h : FT W w tp M cap F S) (a : Fa) (hv : Vc w a.f.vv a.f.ps) (hvl : a.f.ps.length < 1000000) (hsl : S.length < 900000) (hi : I64 a.f.fr ∧ I64 a.f.ag ∧ I64 a.f.ti) :
    Calls Try.prog 33 #[fptr tp, .agg #[.int .i64 a.kind, .int .i64 a.n, .int .i64 a.f.fr, .int .i64 a.f.ag, .int .i64 a.f.ti, a.f.vv]] w fun e w' => e = .returned (.int .i64 (dofE cap S a)) ∧ FP W w' tp M cap (dofP cap S a) ∧ Chg (FrG W w) w w' :=
  (fdoB h a hv hvl hsl hi).mono fun _ _ ⟨h1, F', h2, _, h3⟩ => ⟨h1, ⟨F', h2⟩, h3.mono h.tbG⟩
end
end Go.Proofs.Ytennhfkhdfalfaa

/- filters: Blocks. -/
import Derived.Test.YtennhfkhdfalfaaFi3
namespace Go.Proofs.Ytennhfkhdfalfaa
open Go.RowKit Go.Maps
attribute [local go_sem] ext_cell ext_frozen extC_cell extC_frozen Mix.calmUpon Mix.mUpon
/-- Block b is a variable that holds a slice of parts. -/
def SB (w : World) (b : Nat) (v : Value) : Prop := w.heap[b]? = some (.cells #[v] 32 (0, 0))
section
variable {w w' : World} {b : Nat} {v : Value}
theorem SB.made (w : World) (v : Value) : SB (w.alloc (.cells #[v] 32)) w.heap.size v := heap_alloc_new w _
theorem SB.lt (h : SB w b v) : b < w.heap.size := (Array.getElem?_eq_some_iff.1 h).1
theorem SB.below (h : SB w b v) (hb : Below w.heap.size w w') : SB w' b v := (hb.block b h.lt).trans h
theorem SB.cell (h : SB w b v) : w.cell? ⟨b, 0, none⟩ = some v := by unfold SB at h; simp [World.cell?, h]
end
/-- Are parts blocked at a key? -/
def blk (S : List Pf) (fr ag : Int) (vs : List Pt) : Bool := (fk S ⟨fr, ag⟩).any fun f => (mrg gSub f.2.2.2 vs).isSome
set_option maxRecDepth 100000 in
theorem fblk1 {W : World} {b : Nat} {v : Value} {vs : List Pt} (hs : SB W b v) (hv : Vc W v vs) (hl : vs.length < 1000000000) (f : Fl) (hf : Vc W f.vv f.ps) (hfl : f.ps.length < 1000000000) :
    Calls Try.prog 83 #[flval f, fptr b] W fun e w' => e = .returned (.bool (mrg gSub f.ps vs).isSome) ∧ Below W.heap.size W w' := by
  obtain ⟨i, g, t, u, us⟩ := f
  obtain ⟨ua, uc, huv, -, -⟩ := hf.form
  obtain ⟨va, vc, hvv, -, -⟩ := hv.form
  simp only at huv hf hfl
  subst huv hvv
  have hb1 := ba (Below.refl W.heap.size W) (.cells #[.int .i64 i, .int .i64 g, .int .i64 t, .slice ua us.length uc] 72)
  have HF := Lib.hid (FB.made W i g t (.slice ua us.length uc))
  have HB := Lib.hid hb1
  have HH := Lib.hid (vholds_any (.slice ua us.length uc) (.slice va vs.length vc) us vs hfl hl _ ⟨hf.on hb1, hv.on hb1⟩)
  have hc := (hs.below hb1).cell
  have hlt := (hs.below hb1).lt
  obtain ⟨x0, x1, x2, x3⟩ := HF.out.cells
  have x4 := HF.out.lt
  generalize (mrg gSub us vs).isSome = r at *
  clear hs hv hf hb1 hl hfl
  go_enter Try.func83, Try.ntmps83
  go_wp2_with fail
  refine HH.out.mono ?_
  rintro e w1 ⟨rfl, hb⟩
  have HB1 := Lib.hid (bt HB.out hb)
  clear hb
  go_wp2
  go_ret
  exact ⟨rfl, HB1.out⟩
section
variable {W w : World} {tp M : Nat} {cap : Int} {F : K2 → Option Fx} {S : List Pf}
theorem own_rs {w : World} {base : Nat} {v : Value} {l : List Fl} (h : OwnL 72 4 flenc w base v l) : RS 4 flenc w v l := h.rs (fun _ => rfl)
theorem FQ.vok (h : FQ W w tp M cap F S) {k : K2} {x : Fx} (hx : F k = some x) {f : Fl} (hf : f ∈ x.l) : FOk f.pl := by
  refine h.ok _ ?_
  have h1 := h.pl k
  rw [hx] at h1
  have h2 : f.pl ∈ fk S k := by rw [h1]; exact List.mem_map.2 ⟨f, hf, rfl⟩
  exact (List.mem_filter.1 h2).1
set_option maxRecDepth 100000 in
theorem fblocks (h : FT W w tp M cap F S) {fr ag : Int} (hfr : I64 fr) (hag : I64 ag) {v : Value} {vs : List Pt} (hv : Vc w v vs) (hvl : vs.length < 1000000000) :
    Calls Try.prog 38 #[fptr tp, .int .i64 fr, .int .i64 ag, v] w fun e w' => e = .returned (.bool (blk S fr ag vs)) ∧ Below w.heap.size w w' := by
  obtain ⟨va, vc, rfl, -, -⟩ := hv.form
  have hb1 := ba (Below.refl w.heap.size w) (.cells #[.slice va vs.length vc] 32)
  have H := Lib.hid (h.below hb1)
  have HS := Lib.hid (SB.made w (.slice va vs.length vc))
  have HV := Lib.hid (hv.on hb1)
  have HB := Lib.hid hb1
  have HVL := Lib.hid hvl
  have hbk : blk S fr ag vs = (match F ⟨fr, ag⟩ with | none => false | some x => x.l.any fun f => (mrg gSub f.ps vs).isSome) := by
    unfold blk
    rw [h.pl ⟨fr, ag⟩]
    cases F ⟨fr, ag⟩ with
    | none => rfl
    | some x => simp [List.any_map, Function.comp_def]
  have hlk := (h.below hb1).look (k := ⟨fr, ag⟩) ⟨hfr, hag⟩ false
  rw [hbk]
  clear hv hb1 hvl hbk
  obtain ⟨-, -, c2⟩ := H.out.cells
  have cl := H.out.lt.1
  have HMD := Lib.hid (fmade H.out.toFQ)
  go_enter Try.func38, Try.ntmps38
  cases hF : F ⟨fr, ag⟩ with
  | none =>
    rw [hF] at hlk
    have hlk : (Instr.lookup 90 (.map (some M)) (.agg #[.int .i64 fr, .int .i64 ag]) false).run Try.prog (w.alloc (.cells #[.slice va vs.length vc] 32)) = .ok (.pointer none) _ := hlk
    clear hF h
    go_wp2_with fail
    refine HMD.out.mono ?_
    rintro e w1 ⟨rfl, rfl⟩
    go_wp2_with fail
    refine (fhas_nil _ _).mono ?_
    rintro e w1 ⟨rfl, hb⟩
    have HB1 := Lib.hid (bt HB.out hb)
    clear hb
    go_wp2
    go_ret
    exact ⟨rfl, HB1.out⟩
  | some x =>
    rw [hF] at hlk
    have hlk : (Instr.lookup 90 (.map (some M)) (.agg #[.int .i64 fr, .int .i64 ag]) false).run Try.prog (w.alloc (.cells #[.slice va vs.length vc] 32)) = .ok (fptr x.b) _ := hlk
    have hx := H.out.lst _ _ hF
    have HH := Lib.hid (fhas_at hx.lb (own_rs hx.own) (H.out.nem _ _ hF) (fun f => (mrg gSub f.ps vs).isSome) 83 #[fptr w.heap.size] (enters_of Try.func83 (by kernel_rfl) rfl) (fun W' y hy hb => by
      have h2 := fblk1 (HS.out.below hb) (HV.out.on hb) HVL.out y ((hx.vec y hy).vc.on hb) (Nat.lt_of_le_of_lt (vr_len (H.out.vok hF hy).vr) (by decide))
      exact h2.mono fun e w' ⟨h3, h4⟩ => ⟨h3, bt hb h4⟩))
    clear hF hx h
    go_wp2_with fail
    refine HMD.out.mono ?_
    rintro e w1 ⟨rfl, rfl⟩
    go_wp2_with fail
    refine HH.out.mono ?_
    rintro e w1 ⟨rfl, hb⟩
    have HB1 := Lib.hid (bt HB.out hb)
    clear hb
    go_wp2
    go_ret
    exact ⟨rfl, HB1.out⟩
end
end Go.Proofs.Ytennhfkhdfalfaa

/- Acts on offers that came in, each vector told its reach. -/
import Derived.Test.YtnckjacbkhoppaaOf0
import Derived.Test.YtnckjacbkhoppaaVecN
import Derived.Test.YtnckjacbkhoppaaSized
namespace Go.Proofs.Ytnckjacbkhoppaa
open Go.RowKit Go.ChangeShapes Go.WideShapes Go.ChangeAt Go.Joins Go.Deep
structure Oa where
  close : Bool
  o : Ofr
instance : Inhabited Oa := ⟨⟨false, default⟩⟩
def oaenc (a : Oa) : List Value := [.bool a.close, .int .i64 a.o.id, .int .i64 a.o.frame, .int .i64 a.o.agent, a.o.vv, .int .i64 a.o.til]
/-- An offer's data that came in. -/
structure OIn (W : World) (x : Ofr) : Prop where
  id : I64 x.id
  fr : I64 x.frame
  ag : I64 x.agent
  til : I64 x.til
  vc : Vc W x.vv x.ps
  i64 : I64s x.ps
  len : x.ps.length ≤ reachBytes
set_option maxRecDepth 100000 in
theorem vec_sized {H : Type} {enc : TypeId × Value → H} {W : World} {base : Nat} {sp : Nat → Bool} {held : Bool} {m0 : Nat} {v : Value} {x : DataW H × List MemPlace} {l : List Pt}
    (hf : DataW.trod enc Try.prog W base sp held m0 26 [v] = some x) (hw : WB Try.prog 26 x.1) (hv : Vc W v l) : l.length ≤ reachBytes := by
  rcases open_slice Try.underlying26 hf with ⟨hc, rfl⟩ | ⟨a, len, cap, m, k, D, Pl, hc, _, hl, hm, hmm, rfl, hall⟩
  · cases hc
    rcases hv with ⟨_, rfl⟩ | ⟨b, off, cap, h, _⟩
    · exact Nat.zero_le _
    · cases h
  · cases hc
    have hn := hw.slice Try.underlying26
    simp only [List.length_map, List.length_range] at hn
    have hb : 1 ≤ Try.prog.bytesOf 86 := of_decide_eq_true (by kernel_rfl)
    rcases hv with ⟨_, rfl⟩ | ⟨b, off, cap, h, _⟩
    · exact Nat.zero_le _
    · cases h
      exact Nat.le_trans (Nat.le_trans (Nat.le_add_right _ _) (Nat.le_mul_of_pos_right _ hb)) hn
theorem c6oa : Try.prog.cellsOf 58 = 6 := by kernel_rfl
set_option maxRecDepth 100000 in
theorem open_oacts {H : Type} {enc : TypeId × Value → H} {W : World} {base : Nat} {sp : Nat → Bool} {held : Bool} {r : Reach} {b0 : Nat} {v : Value} {d : DataW H} {p : List MemPlace}
    (hv : Value.okWide Try.prog W r b0 49 v) (h : DataW.Trod enc Try.prog W base sp held 49 v d p) (hw : WB Try.prog 49 d) : ∃ l : List Oa, RS 6 oaenc W v l ∧ (∀ x ∈ l, OIn W x.o) ∧ l.length ≤ reachBytes := by
  obtain ⟨a0, n0, c0, rfl⟩ := okWide_slice Try.underlying49 hv
  obtain ⟨m0, hf⟩ := h
  obtain ⟨l, h1, h2, h3, _⟩ := open_rsz (ec := enc) (W := W) (base := base) (sp := sp) (held := held) (P := Try.prog) (k := 6) (enc := oaenc) (ok := fun a => OIn W a.o) Try.underlying49 c6oa (by omega) (fun _ => rfl) (by
    intro m cs x hl hf hw
    match cs, hl with
    | [c0, c1, c2, c3, c4, c5], _ =>
      obtain ⟨xs, n, _, rfl, _, hlen, hff⟩ := DataW.trod_struct Try.underlying58 hf
      match xs, hlen with
      | [y0, y1, y2, y3, y4, y5], _ =>
        have k0 : DataW.trod enc Try.prog W base sp held n 4 [c0] = some y0 := hff 0 _ rfl
        have j1 : DataW.trod enc Try.prog W base sp held n 2 [c1] = some y1 := hff 1 _ rfl
        have j2 : DataW.trod enc Try.prog W base sp held n 2 [c2] = some y2 := hff 2 _ rfl
        have j3 : DataW.trod enc Try.prog W base sp held n 2 [c3] = some y3 := hff 3 _ rfl
        have j4 : DataW.trod enc Try.prog W base sp held n 26 [c4] = some y4 := hff 4 _ rfl
        have j5 : DataW.trod enc Try.prog W base sp held n 2 [c5] = some y5 := hff 5 _ rfl
        have w4 : WB Try.prog 26 y4.1 := hw.part Try.underlying58 (j := 4) rfl rfl
        obtain ⟨e, ee, _⟩ := DataW.trod_bool Try.underlying4 k0
        obtain ⟨a, ea, _, wa⟩ := DataW.trod_int Try.underlying2 j1
        obtain ⟨b, eb, _, wb⟩ := DataW.trod_int Try.underlying2 j2
        obtain ⟨c, ec, _, wc⟩ := DataW.trod_int Try.underlying2 j3
        obtain ⟨u, eu, _, wu⟩ := DataW.trod_int Try.underlying2 j5
        obtain ⟨l, hvc, hi⟩ := parts_field j4
        have hz := vec_sized j4 w4 hvc
        simp at ee ea eb ec eu
        subst ee ea eb ec eu
        exact ⟨⟨e, ⟨a, b, c, c4, l, u⟩⟩, rfl, ⟨i64_wf' wa, i64_wf' wb, i64_wf' wc, i64_wf' wu, hvc, hi, hz⟩⟩) hw hf
  have hb : 1 ≤ Try.prog.bytesOf 58 := of_decide_eq_true (by kernel_rfl)
  exact ⟨l, h1, h2, Nat.le_trans (Nat.le_mul_of_pos_right _ hb) h3⟩
end Go.Proofs.Ytnckjacbkhoppaa

/- Acts on tasks that came in, each vector told its reach. -/
import Derived.Test.YtnckjacbkhoppaaTa7
import Derived.Test.YtnckjacbkhoppaaSized
namespace Go.Proofs.Ytnckjacbkhoppaa
open Go.RowKit Go.ChangeShapes Go.WideShapes Go.ChangeAt Go.Joins Go.Deep
structure Ta where
  end_ : Bool
  tk : Tk
instance : Inhabited Ta := ⟨⟨false, default⟩⟩
def taenc (a : Ta) : List Value := [.bool a.end_, .int .i64 a.tk.frame, .int .i64 a.tk.id, .int .i64 a.tk.agent, a.tk.vv]
/-- A task that came in. -/
structure TIn (W : World) (x : Tk) : Prop where
  fr : I64 x.frame
  id : I64 x.id
  ag : I64 x.agent
  vc : Vc W x.vv x.ps
  i64 : I64s x.ps
  len : x.ps.length ≤ reachBytes
set_option maxRecDepth 100000 in
theorem vec_sized {H : Type} {enc : TypeId × Value → H} {W : World} {base : Nat} {sp : Nat → Bool} {held : Bool} {m0 : Nat} {v : Value} {x : DataW H × List MemPlace} {l : List Pt}
    (hf : DataW.trod enc Try.prog W base sp held m0 26 [v] = some x) (hw : WB Try.prog 26 x.1) (hv : Vc W v l) : l.length ≤ reachBytes := by
  rcases open_slice Try.underlying26 hf with ⟨hc, rfl⟩ | ⟨a, len, cap, m, k, D, Pl, hc, _, hl, hm, hmm, rfl, hall⟩
  · cases hc
    rcases hv with ⟨_, rfl⟩ | ⟨b, off, cap, h, _⟩
    · exact Nat.zero_le _
    · cases h
  · cases hc
    have hn := hw.slice Try.underlying26
    simp only [List.length_map, List.length_range] at hn
    have hb : 1 ≤ Try.prog.bytesOf 86 := of_decide_eq_true (by kernel_rfl)
    rcases hv with ⟨_, rfl⟩ | ⟨b, off, cap, h, _⟩
    · exact Nat.zero_le _
    · cases h
      exact Nat.le_trans (Nat.le_trans (Nat.le_add_right _ _) (Nat.le_mul_of_pos_right _ hb)) hn
theorem c4tk : Try.prog.cellsOf 95 = 4 := by kernel_rfl
theorem c5ta : Try.prog.cellsOf 97 = 5 := by kernel_rfl
set_option maxRecDepth 100000 in
theorem open_tacts {H : Type} {enc : TypeId × Value → H} {W : World} {base : Nat} {sp : Nat → Bool} {held : Bool} {r : Reach} {b0 : Nat} {v : Value} {d : DataW H} {p : List MemPlace}
    (hv : Value.okWide Try.prog W r b0 87 v) (h : DataW.Trod enc Try.prog W base sp held 87 v d p) (hw : WB Try.prog 87 d) : ∃ l : List Ta, RS 5 taenc W v l ∧ (∀ x ∈ l, TIn W x.tk) ∧ l.length ≤ reachBytes := by
  obtain ⟨a0, n0, c0, rfl⟩ := okWide_slice Try.underlying87 hv
  obtain ⟨m0, hf⟩ := h
  obtain ⟨l, h1, h2, h3, _⟩ := open_rsz (ec := enc) (W := W) (base := base) (sp := sp) (held := held) (P := Try.prog) (k := 5) (enc := taenc) (ok := fun a => TIn W a.tk) Try.underlying87 c5ta (by omega) (fun _ => rfl) (by
    intro m cs x hl hf hw
    match cs, hl with
    | [c0, c1, c2, c3, c4], _ =>
      obtain ⟨xs, n, _, rfl, _, hlen, hff⟩ := DataW.trod_struct Try.underlying97 hf
      match xs, hlen with
      | [y0, y1], _ =>
        have k0 : DataW.trod enc Try.prog W base sp held n 4 [c0] = some y0 := hff 0 _ rfl
        have k1 : DataW.trod enc Try.prog W base sp held n 95 [c1, c2, c3, c4] = some y1 := hff 1 _ rfl
        have w1 : WB Try.prog 95 y1.1 := hw.part Try.underlying97 (j := 1) rfl rfl
        obtain ⟨xs2, n2, _, rfl, _, hlen2, hff2⟩ := DataW.trod_struct Try.underlying95 k1
        match xs2, hlen2 with
        | [z0, z1, z2, z3], _ =>
          have j0 : DataW.trod enc Try.prog W base sp held n2 2 [c1] = some z0 := hff2 0 _ rfl
          have j1 : DataW.trod enc Try.prog W base sp held n2 2 [c2] = some z1 := hff2 1 _ rfl
          have j2 : DataW.trod enc Try.prog W base sp held n2 2 [c3] = some z2 := hff2 2 _ rfl
          have j3 : DataW.trod enc Try.prog W base sp held n2 26 [c4] = some z3 := hff2 3 _ rfl
          have w3 : WB Try.prog 26 z3.1 := w1.part Try.underlying95 (j := 3) rfl rfl
          obtain ⟨e, ee, _⟩ := DataW.trod_bool Try.underlying4 k0
          obtain ⟨a, ea, _, wa⟩ := DataW.trod_int Try.underlying2 j0
          obtain ⟨b, eb, _, wb⟩ := DataW.trod_int Try.underlying2 j1
          obtain ⟨c, ec, _, wc⟩ := DataW.trod_int Try.underlying2 j2
          obtain ⟨l, hvc, hi⟩ := parts_field j3
          have hz := vec_sized j3 w3 hvc
          simp at ee ea eb ec
          subst ee ea eb ec
          exact ⟨⟨e, ⟨a, b, c, c4, l⟩⟩, rfl, ⟨i64_wf' wa, i64_wf' wb, i64_wf' wc, hvc, hi, hz⟩⟩) hw hf
  have hb : 1 ≤ Try.prog.bytesOf 97 := of_decide_eq_true (by kernel_rfl)
  exact ⟨l, h1, h2, Nat.le_trans (Nat.le_mul_of_pos_right _ hb) h3⟩
end Go.Proofs.Ytnckjacbkhoppaa

/- frames: the acts that came in. -/
import Derived.Test.YtajcelmnblncaaaFr6
import Derived.Test.YtajcelmnblncaaaOpenRS
namespace Go.Proofs.Ytajcelmnblncaaa
open Go.RowKit Go.Maps Go.ChangeShapes Go.WideShapes Go.ChangeAt Go.Joins Go.Deep
attribute [local go_sem] ext_cell ext_frozen extC_cell extC_frozen Mix.calmUpon Mix.mUpon
def faenc (a : FAct) : List Value := [.int .i64 a.kind, .int .i64 a.id, .int .i64 a.role, .int .i64 a.weight, .int .i64 a.time]
abbrev FAV (w : World) (v : Value) (l : List FAct) : Prop := RS 5 faenc w v l
theorem lit64 {x : Int} (h : (Lit.int .i64 x).wf = true) : J64 x := by
  simp [Lit.wf, IntKind.min, IntKind.max, IntKind.signed, IntKind.bits] at h
  exact ⟨by omega, by omega⟩
theorem c5fa : Try.prog.cellsOf 110 = 5 := by kernel_rfl
set_option maxRecDepth 100000 in
theorem open_facts {H : Type} {enc : TypeId × Value → H} {W : World} {base : Nat} {sp : Nat → Bool} {held : Bool} {r : Reach} {b0 : Nat} {v : Value} {d : DataW H} {p : List MemPlace}
    (hv : Value.okWide Try.prog W r b0 101 v) (h : DataW.Trod enc Try.prog W base sp held 101 v d p) : ∃ l : List FAct, FAV W v l ∧ (∀ x ∈ l, J64 x.id) ∧ ∀ b, v.ownBlock = some b → b < W.heap.size := by
  have : Inhabited FAct := ⟨⟨0, 0, 0, 0, 0⟩⟩
  refine open_rs (P := Try.prog) (k := 5) (enc := faenc) (ok := fun a => J64 a.id) Try.underlying101 c5fa (fun _ => rfl) (fun m cs x hl hf => ?_) hv h
  match cs, hl with
  | [c0, c1, c2, c3, c4], _ =>
    obtain ⟨xs, n, _, _, _, hlen, hff⟩ := DataW.trod_struct Try.underlying110 hf
    match xs, hlen with
    | [y0, y1, y2, y3, y4], _ =>
      have k0 : DataW.trod enc Try.prog W base sp held n 3 [c0] = some y0 := hff 0 _ rfl
      have k1 : DataW.trod enc Try.prog W base sp held n 2 [c1] = some y1 := hff 1 _ rfl
      have k2 : DataW.trod enc Try.prog W base sp held n 3 [c2] = some y2 := hff 2 _ rfl
      have k3 : DataW.trod enc Try.prog W base sp held n 2 [c3] = some y3 := hff 3 _ rfl
      have k4 : DataW.trod enc Try.prog W base sp held n 2 [c4] = some y4 := hff 4 _ rfl
      obtain ⟨a, ea, _, wa⟩ := DataW.trod_int Try.underlying3 k0
      obtain ⟨b, eb, _, wb⟩ := DataW.trod_int Try.underlying2 k1
      obtain ⟨c, ec, _, wc⟩ := DataW.trod_int Try.underlying3 k2
      obtain ⟨d, ed, _, wd⟩ := DataW.trod_int Try.underlying2 k3
      obtain ⟨e, ee, _, we⟩ := DataW.trod_int Try.underlying2 k4
      simp at ea eb ec ed ee
      subst ea eb ec ed ee
      exact ⟨⟨a, b, c, d, e⟩, rfl, lit64 wb⟩
theorem fsub_len (cap : Int) (S : List Fr) (a : FAct) : (fsub cap S a).1.length ≤ S.length + 1 := by
  unfold fsub
  split
  · simp
  · split
    · split
      · simp
      · split
        · simp
        · exact Srt.put_le S _
    · split
      · simp
      · split
        · simp
        · exact Srt.put_le S _
theorem fdis_len (S : List Fr) (a : FAct) : (fdis S a).1.length ≤ S.length + 1 := by
  unfold fdis
  split
  · simp
  · split
    · simp
    · split
      · simp
      · exact Srt.put_le S _
theorem fqui_len (S : List Fr) (k : Int) (q : Bool) : (fqui S k q).1.length ≤ S.length + 1 := by
  unfold fqui
  split
  · simp
  · exact Srt.put_le S _
theorem fstep_len (cap : Int) (S : List Fr) (a : FAct) : (fstep cap S a).1.length ≤ S.length + 1 := by
  unfold fstep
  split
  · exact fsub_len cap S a
  · split
    · exact fdis_len S a
    · split
      · have : (delF S a.id).length ≤ S.length := List.length_filter_le _ _
        show (delF S a.id).length ≤ _
        omega
      · exact fqui_len S _ _
/-- Where the acts stand. -/
structure FW (W wr : World) (tp M : Nat) (cap : Int) (S : List Fr) (t : Nat) : Prop where
  ts : TS wr tp M cap S
  bel : Below W.heap.size W wr
  len : S.length ≤ t
theorem FW.step {W w w' : World} {tp M : Nat} {cap : Int} {S : List Fr} {t : Nat} (h : FW W w tp M cap S t) (h1 : W.heap.size ≤ tp) (h2 : W.heap.size ≤ M) {S' : List Fr} {v : Value} {e : Ending} (hp : TP w tp M cap S' v e w') (hl : S'.length ≤ t + 1) : FW W w' tp M cap S' (t + 1) :=
  ⟨hp.2.1, h.bel.trans (hp.at_ h.bel.size h1 h2), hl⟩
theorem FW.on {W w w' : World} {tp M : Nat} {cap : Int} {S : List Fr} {t : Nat} (h : FW W w tp M cap S t) (hb : Below w.heap.size w w') : FW W w' tp M cap S t := ⟨h.ts.below hb, bt h.bel hb, h.len⟩
end Go.Proofs.Ytajcelmnblncaaa

/- pool: operations; few, foreign, Foreign, check. -/
import Derived.Test.YtnckjacbkhoppaaEv0
import Derived.Test.YtnckjacbkhoppaaVecAe
import Derived.Test.YtnckjacbkhoppaaVecCe
namespace Go.Proofs.Ytnckjacbkhoppaa
open Go.RowKit Go.Maps Go.ChangeShapes Go.WideShapes Go.ChangeAt Go.Joins Go.Deep
attribute [local go_sem] ext_cell ext_frozen extC_cell extC_frozen Mix.calmUpon Mix.mUpon
structure Po where
  kind : Int
  id : Int
  vv : Value
  ps : List Pt
instance : Inhabited Po := ⟨⟨0, 0, .slice none 0 0, []⟩⟩
def poenc (e : Po) : List Value := [.int .i64 e.kind, .int .i64 e.id, e.vv]
abbrev poval (e : Po) : Value := .agg #[.int .i64 e.kind, .int .i64 e.id, e.vv]
/-- An operation, plainly. -/
abbrev Qo := Int × Int × List Pt
def Po.pl (e : Po) : Qo := (e.kind, e.id, e.ps)
/-- A list of operations that can be read. -/
structure OL (w : World) (v : Value) (l : List Po) : Prop where
  rs : RS 3 poenc w v l
  vec : ∀ x ∈ l, Vc w x.vv x.ps
theorem OL.below {w w' : World} {v : Value} {l : List Po} (h : OL w v l) (hb : Below w.heap.size w w') : OL w' v l := ⟨h.rs.below hb, fun x hx => (h.vec x hx).on hb⟩
theorem c3op : Try.prog.cellsOf 40 = 3 := by kernel_rfl
set_option maxRecDepth 100000 in
theorem open_ops {H : Type} {enc : TypeId × Value → H} {W : World} {base : Nat} {sp : Nat → Bool} {held : Bool} {r : Reach} {b0 : Nat} {v : Value} {d : DataW H} {p : List MemPlace}
    (hv : Value.okWide Try.prog W r b0 22 v) (h : DataW.Trod enc Try.prog W base sp held 22 v d p) : ∃ l : List Po, OL W v l ∧ (∀ x ∈ l, I64 x.kind ∧ I64 x.id ∧ I64s x.ps) ∧ ∀ b, v.ownBlock = some b → b < W.heap.size := by
  obtain ⟨l, h1, h2, h3⟩ := open_rs (P := Try.prog) (k := 3) (enc := poenc) (ok := fun a => Vc W a.vv a.ps ∧ I64 a.kind ∧ I64 a.id ∧ I64s a.ps) Try.underlying22 c3op (fun _ => rfl) (by
  intro m cs x hl hf
  match cs, hl with
  | [c0, c1, c2], _ =>
    obtain ⟨xs, n, _, _, _, hlen, hff⟩ := DataW.trod_struct Try.underlying40 hf
    match xs, hlen with
    | [y0, y1, y2], _ =>
      have k0 : DataW.trod enc Try.prog W base sp held n 3 [c0] = some y0 := hff 0 _ rfl
      have k1 : DataW.trod enc Try.prog W base sp held n 2 [c1] = some y1 := hff 1 _ rfl
      have k2 : DataW.trod enc Try.prog W base sp held n 26 [c2] = some y2 := hff 2 _ rfl
      obtain ⟨a, ea, _, wa⟩ := DataW.trod_int Try.underlying3 k0
      obtain ⟨b, eb, _, wb⟩ := DataW.trod_int Try.underlying2 k1
      obtain ⟨l, hvc, hi⟩ := parts_field k2
      simp at ea eb
      subst ea eb
      exact ⟨⟨a, b, c2, l⟩, rfl, hvc, i64_wf' wa, i64_wf' wb, hi⟩) hv h
  exact ⟨l, ⟨h1, fun x hx => (h2 x hx).1⟩, fun x hx => (h2 x hx).2, h3⟩
/-- A block that holds an operation. -/
def PB (w : World) (b : Nat) (k i : Int) (v : Value) : Prop := w.heap[b]? = some (.cells #[.int .i64 k, .int .i64 i, v] 40 (0, 0))
section
variable {w w' : World} {b : Nat} {k i : Int} {v : Value}
theorem PB.made (w : World) (k i : Int) (v : Value) : PB (w.alloc (.cells #[.int .i64 k, .int .i64 i, v] 40)) w.heap.size k i v := heap_alloc_new w _
theorem PB.lt (h : PB w b k i v) : b < w.heap.size := (Array.getElem?_eq_some_iff.1 h).1
theorem PB.below (h : PB w b k i v) (hb : Below w.heap.size w w') : PB w' b k i v := (hb.block b h.lt).trans h
theorem PB.cells (h : PB w b k i v) : w.cell? ⟨b, 0, none⟩ = some (.int .i64 k) ∧ w.cell? ⟨b, 1, none⟩ = some (.int .i64 i) ∧ w.cell? ⟨b, 2, none⟩ = some v := by unfold PB at h; simp [World.cell?, h]
theorem PB.fz (h : PB w b k i v) (o : Nat) : w.frozen? ⟨b, o, none⟩ = false := by unfold PB at h; simp [World.frozen?, h]
end
/-- Operations that are few enough. -/
def FewO (l : List Po) : Prop := l.length ≤ 60 ∧ ∀ x ∈ l, x.ps.length ≤ 150
instance (l : List Po) : Decidable (FewO l) := by unfold FewO; infer_instance
abbrev callval (v : Value) : Value := .agg #[.int .i64 0, .int .i64 0, .int .i64 0, .int .i64 0, .int .i64 0, .int .i64 0, .int .i64 0, .slice none 0 0, .slice none 0 0, v]
set_option maxRecDepth 100000 in
set_option maxHeartbeats 2000000 in
theorem few14 {w : World} {v : Value} {l : List Po} (h : OL w v l) : Calls Try.prog 75 #[callval v] w fun e w' => e = .returned (.bool (decide (FewO l))) ∧ Below w.heap.size w w' := by
  obtain ⟨a, n, c, rfl, hn, hc, hm, hat⟩ := h.rs.at_
  have hn9 : n ≤ 9223372036854775807 := by have h := hm; unfold maxLen at h; omega
  have HN := Lib.hid hn; have HAT := Lib.hid hat; have HVV := Lib.hid h.vec
  have hba := ba (Below.refl w.heap.size w) (.cells #[.int .i64 0, .int .i64 0, .int .i64 0, .int .i64 0, .int .i64 0, .int .i64 0, .int .i64 0, .slice none 0 0, .slice none 0 0, .slice a n c] 143)
  have HB := Lib.hid hba
  clear h hn hat hm hc hba
  by_cases hbig : 60 < n
  · have hbI : (60 : Int) < (n : Int) := by omega
    have hF : decide (FewO l) = false := decide_eq_false fun h => by have := h.1; have := HN.out; omega
    have HF := Lib.hid hF
    clear hF hbig
    go_enter Try.func75, Try.ntmps75
    go_wp2
    go_ret
    exact ⟨by rw [HF.out]; rfl, HB.out⟩
  · have hbI : ¬ (60 : Int) < (n : Int) := by omega
    have hbI2 : decide ((60 : Int) < (n : Int)) = false := decide_eq_false hbI
    go_enter Try.func75, Try.ntmps75
    go_wp2
    go_loop [3] (fun iv => ∃ t : Nat, t ≤ n ∧ iv = .int .i64 t ∧ Hid (∀ x ∈ l.take t, x.ps.length ≤ 150)) (fun iv => n - (intOf iv).toNat)
    case atStart => exact ⟨0, Nat.zero_le _, rfl, Lib.hid fun x hx => by simp at hx⟩
    case round =>
      obtain ⟨t, ht, rfl, HQ⟩ := hrel
      by_cases hlt : t < n
      · have hts : (t : Int) < (n : Int) := by omega
        obtain ⟨x, hx⟩ := at_lt (l := l) (i := t) (by rw [← HN.out]; exact hlt)
        obtain ⟨b, off, rfl, hb, hcell⟩ := HAT.out t x hx
        have c2 := hcell 2 _ rfl
        have hv := HVV.out x (mem_at hx)
        have HX := Lib.hid hx
        obtain ⟨va, vc, hvv, -, -⟩ := hv.form
        obtain ⟨xk, xi, xv, xs⟩ := x
        simp only at hvv c2
        subst hvv
        obtain ⟨m, hm⟩ : ∃ m, m = xs.length := ⟨_, rfl⟩
        rw [← hm] at c2
        have HM := Lib.hid hm
        clear hcell hx hv hm
        by_cases hq : 150 < m
        · have hqI : (150 : Int) < (m : Int) := by omega
          have hF : decide (FewO l) = false := decide_eq_false fun h => by have := h.2 _ (mem_at HX.out); have := HM.out; simp at *; omega
          have HF := Lib.hid hF
          clear hF hq
          go_wp2
          go_ret
          exact ⟨by rw [HF.out]; rfl, HB.out⟩
        · have hqI : (m : Int) ≤ 150 := by omega
          have HQ2 := Lib.hid (show ∀ x ∈ l.take (t + 1), x.ps.length ≤ 150 from fun y hy => by
            rw [take_at HX.out] at hy
            rcases List.mem_append.1 hy with h | h
            · exact HQ.out y h
            · rw [List.mem_singleton.1 h]; show xs.length ≤ 150; rw [← HM.out]; omega)
          clear hq
          go_wp2
          go_round
          case rel => exact ⟨t + 1, by omega, by go_num, HQ2⟩
          case measure => simp [intOf]; omega
      · obtain rfl : n = t := by omega
        have hF : decide (FewO l) = true := decide_eq_true ⟨by have := HN.out; omega, fun x hx => HQ.out x (by rw [HN.out, List.take_length]; exact hx)⟩
        have HF := Lib.hid hF
        clear hF
        go_wp2
        go_ret
        exact ⟨by rw [HF.out]; rfl, HB.out⟩
theorem few15 {w : World} {v va : Value} {l : List Po} {la : List Pt} (h : OL w v l) (hva : Vc w va la) : Calls Try.prog 15 #[va, v] w fun e w' => e = .returned (.bool (decide (la.length ≤ 150) && decide (FewO l))) ∧ Below w.heap.size w w' := by
  obtain ⟨a, c, rfl, -, -⟩ := hva.form
  obtain ⟨oa, on, oc, rfl, -, -, -, -⟩ := h.rs.at_
  have HF := Lib.hid (few14 h)
  obtain ⟨m, hm⟩ : ∃ m, m = la.length := ⟨_, rfl⟩
  rw [← hm]
  clear h hva hm
  by_cases hq : m ≤ 150
  · have hqI : (m : Int) ≤ 150 := by omega
    have hd : (decide (m ≤ 150) && decide (FewO l)) = decide (FewO l) := by simp [hq]
    have HD := Lib.hid hd
    clear hd hq
    go_enter Try.func15, Try.ntmps15
    go_wp2_with fail
    refine HF.out.mono ?_
    rintro e w1 ⟨rfl, hb1⟩
    have HB1 := Lib.hid hb1
    clear hb1
    go_wp2
    go_ret
    exact ⟨by rw [HD.out]; rfl, HB1.out⟩
  · have hqI : ¬ (m : Int) ≤ 150 := by omega
    have hd : (decide (m ≤ 150) && decide (FewO l)) = false := by simp [hq]
    have HD := Lib.hid hd
    clear hd hq
    go_enter Try.func15, Try.ntmps15
    go_wp2
    go_ret
    exact ⟨by rw [HD.out]; rfl, Below.refl _ _⟩
end Go.Proofs.Ytnckjacbkhoppaa

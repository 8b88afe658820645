/- Contract of conf.read at every string that is not long. Condition: the powers of ten, the error values and MaxLen lie in their variables. -/
import Derived.Test.YtlhljioncgddeaaDoorConf7
import Derived.Test.YtlhljioncgddeaaDoorNum
namespace Go.Proofs.YtlhljioncgddeaaDoor
open Go.RowKit Go.Proofs
attribute [local go_sem] ext_cell ext_frozen Mix.calmUpon Mix.mUpon
/-- internal/bytealg.MaxLen holds some number. -/
def ML (w : World) : Prop := 4 < w.heap.size ∧ ∃ m, w.cell? ⟨4, 0, none⟩ = some (.int .i64 m)
theorem ML.on {W w : World} (h : ML W) (hb : Below W.heap.size W w) : ML w := ⟨Nat.lt_of_lt_of_le h.1 hb.size, by obtain ⟨_, m, hm⟩ := h; exact ⟨m, (hb.cell (p := ⟨_, 0, none⟩) (by assumption)).trans hm⟩⟩
theorem clo_ML : Clo ML := fun _ _ ⟨h, m, hm⟩ hb => ⟨Nat.lt_of_lt_of_le h hb.size, m, (hb.cell (p := ⟨_, 0, none⟩) h).trans hm⟩
def CC (w : World) : Prop := T10 w ∧ EV w ∧ ML w
theorem clo_CC : Clo CC := fun w w' h hb => ⟨clo_T10 w w' h.1 hb, clo_EV w w' h.2.1 hb, clo_ML w w' h.2.2 hb⟩
theorem CC.on {W w : World} (h : CC W) (hb : Below W.heap.size W w) : CC w := clo_CC _ _ h hb
theorem CC.t {w : World} (h : CC w) : T10 w := And.left h
theorem CC.e {w : World} (h : CC w) : EV w := And.left (And.right h)
theorem CC.m {w : World} (h : CC w) : ML w := And.right (And.right h)
/-- An array of numbers in a block. -/
structure AR (w : World) (b N : Nat) (O : Nat → Int) : Prop where
  c : ∀ j, j < N → w.cell? ⟨b, j, none⟩ = some (.int .i64 (O j))
  f : ∀ j, w.frozen? ⟨b, j, none⟩ = false
  lt : b < w.heap.size
theorem AR.grow {w w1 : World} {b N : Nat} {O : Nat → Int} (h : AR w b N O) (hb : Below w.heap.size w w1) : AR w1 b N O :=
  ⟨fun j hj => (hb.cell (p := ⟨b, j, none⟩) h.lt).trans (h.c j hj), fun j => (hb.frozen (p := ⟨b, j, none⟩) h.lt).trans (h.f j), Nat.lt_of_lt_of_le h.lt hb.size⟩
theorem AR.set {w : World} {b N : Nat} {O : Nat → Int} (h : AR w b N O) (j : Nat) (hj : j < N) (x : Int) : AR (w.setCell ⟨b, j, none⟩ (.int .i64 x)) b N (fun i => if i = j then x else O i) := by
  refine ⟨fun k hk => ?_, fun k => ?_, by simpa using h.lt⟩
  · by_cases hkj : k = j
    · subst hkj
      rw [if_pos rfl]; exact World.cell?_setCell_same _ _ _ (h.c k hk)
    · rw [if_neg hkj, World.cell?_setCell_other _ _ _ _ (fun e => hkj (by cases e; rfl))]; exact h.c k hk
  · rw [World.frozen?_setCell]; exact h.f k
theorem AR.other {w : World} {b N : Nat} {O : Nat → Int} (h : AR w b N O) (a : Addr) (ha : a.block ≠ b) (v : Value) : AR (w.setCell a v) b N O := by
  refine ⟨fun k hk => ?_, fun k => ?_, by simpa using h.lt⟩
  · rw [World.cell?_setCell_other _ _ _ _ (fun e => ha (by rw [e]))]; exact h.c k hk
  · rw [World.frozen?_setCell]; exact h.f k
theorem AR.congr {w : World} {b N : Nat} {O O' : Nat → Int} (h : AR w b N O) (he : ∀ j, j < N → O j = O' j) : AR w b N O' := ⟨fun j hj => by rw [← he j hj]; exact h.c j hj, h.f, h.lt⟩
/-- The pieces of a text. -/
def Ps (s : ByteArray) : List ByteArray := Lib.splitB ⟨#[32]⟩ 0 (min 10 (s.size + 1) - 1) s
/-- A piece that is a number, not above the greatest one. -/
def gP (p : ByteArray) : Bool := isOk (Lib.parseIntB 64 p.data.toList) && decide (parseV p.data.toList ≤ 9007199254740992)
def rF (s : ByteArray) (k : Nat) : Int := parseV ((Ps s).getD k ByteArray.empty).data.toList
def rOk (s : ByteArray) : Prop := (Ps s).length = 9 ∧ ∀ k, k < 9 → gP ((Ps s).getD k ByteArray.empty) = true
theorem splitB_size (sep : ByteArray) (k : Nat) : ∀ s : ByteArray, ∀ p ∈ Lib.splitB sep 0 k s, p.size ≤ s.size := by
  induction k with
  | zero => intro s p hp; rw [Lib.splitB_zero] at hp; simp at hp; subst hp; exact Nat.le_refl _
  | succ k ih =>
    intro s p hp
    rw [Lib.splitB] at hp
    split at hp
    · simp at hp; subst hp; exact Nat.le_refl _
    · rw [List.mem_cons] at hp
      rcases hp with rfl | hp
      · rw [ByteArray.size_extract]; omega
      · have := ih _ p hp
        rw [ByteArray.size_extract] at this
        omega
theorem Ps_size (s : ByteArray) (k : Nat) (hk : k < (Ps s).length) : ((Ps s).getD k ByteArray.empty).size ≤ s.size := by
  refine splitB_size ⟨#[32]⟩ (min 10 (s.size + 1) - 1) s _ ?_
  show (Ps s).getD k ByteArray.empty ∈ Ps s
  rw [List.getD, List.getElem?_eq_getElem hk]
  exact List.getElem_mem hk
theorem Ps_cell (s : ByteArray) (N k : Nat) (hk : k < (Ps s).length) : (Lib.cellsOf (Ps s) N)[k]? = some (.string ((Ps s).getD k ByteArray.empty)) := by
  unfold Lib.cellsOf
  rw [List.getElem?_toArray, List.getElem?_append_left (by simpa using hk)]
  simp [List.getD, List.getElem?_eq_getElem hk]
theorem splitn_any (s : ByteArray) (hs : s.size ≤ 1000) (w : World) (hw : ML w) : Calls Tryd.prog 73 #[.string s, .string ⟨#[32]⟩, .int .i64 10] w fun e w' =>
    e = .returned (.slice (some ⟨w.heap.size, 0, none⟩) (Ps s).length (min 10 (s.size + 1))) ∧ w' = w.alloc (.cells (Lib.cellsOf (Ps s) (min 10 (s.size + 1))) 9) := by
  obtain ⟨_, m, hm⟩ := hw
  exact Lb.Tryd.strings_SplitN s ⟨#[32]⟩ 10 m w (by omega) hm (by decide) (by decide) (by decide)
abbrev RW0 (W : World) : World := W.alloc (.cells #[.int .i64 0, .int .i64 0, .int .i64 0, .int .i64 0, .int .i64 0, .int .i64 0, .int .i64 0, .int .i64 0, .int .i64 0] 43)
abbrev RW1 (W : World) (s : ByteArray) : World := (RW0 W).alloc (.cells (Lib.cellsOf (Ps s) (min 10 (s.size + 1))) 9)
set_option maxRecDepth 100000 in
set_option maxHeartbeats 4000000 in
theorem read_len (s : ByteArray) (hs : s.size ≤ 1000) (hl : (Ps s).length ≠ 9) : PureOn CC Tryd.prog 62 #[.string s] (C9 0 0 0 0 0 Z0) := by
  intro W hC
  have HC := Lib.hid hC
  have HS := Lib.hid (fun w hw => splitn_any s hs w hw)
  have hlI : (((Ps s).length : Int) == 9) = false := by simp; omega
  clear hC
  go_enter Tryd.func62, Tryd.ntmps62
  go_wp2_with fail
  (with_reducible refine (HS.out _ (ML.on HC.out.m (by (repeat (first | assumption | exact Below.refl _ _ | refine ba ?_ _ | refine bd ?_ | refine bdn ?_ _ | refine bs ?_ (by first | omega | (simp; done) | (simp; omega)) _ | refine bt ?_ (by assumption)))))).mono ?_)
  rintro e w1 ⟨rfl, rfl⟩
  go_wp2
  refine ret_world ?_
  intro X hX
  have x0 : X.cell? ⟨W.heap.size, 0, none⟩ = some (.int .i64 0) := by rw [hX]; simp [go_sem]
  have x1 : X.cell? ⟨W.heap.size, 1, none⟩ = some (.int .i64 0) := by rw [hX]; simp [go_sem]
  have x2 : X.cell? ⟨W.heap.size, 2, none⟩ = some (.int .i64 0) := by rw [hX]; simp [go_sem]
  have x3 : X.cell? ⟨W.heap.size, 3, none⟩ = some (.int .i64 0) := by rw [hX]; simp [go_sem]
  have x4 : X.cell? ⟨W.heap.size, 4, none⟩ = some (.int .i64 0) := by rw [hX]; simp [go_sem]
  have x5 : X.cell? ⟨W.heap.size, 5, none⟩ = some (.int .i64 0) := by rw [hX]; simp [go_sem]
  have x6 : X.cell? ⟨W.heap.size, 6, none⟩ = some (.int .i64 0) := by rw [hX]; simp [go_sem]
  have x7 : X.cell? ⟨W.heap.size, 7, none⟩ = some (.int .i64 0) := by rw [hX]; simp [go_sem]
  have x8 : X.cell? ⟨W.heap.size, 8, none⟩ = some (.int .i64 0) := by rw [hX]; simp [go_sem]
  have hbX : Below W.heap.size W X := by
    rw [hX]
    (repeat (first | assumption | exact Below.refl _ _ | refine ba ?_ _ | refine bd ?_ | refine bdn ?_ _ | refine bs ?_ (by first | omega | (simp; done) | (simp; omega)) _ | refine bt ?_ (by assumption)))
  clear hX
  refine bodyPost_ret (v := C9 0 0 0 0 0 Z0) (by simp [results, Tryd.results62, go_sem, Z0, x0, x1, x2, x3, x4, x5, x6, x7, x8]) rfl ⟨rfl, hbX⟩
theorem rw0_AR (W : World) : AR (RW0 W) W.heap.size 9 (fun _ => 0) := ⟨fun j hj => by
  have : j = 0 ∨ j = 1 ∨ j = 2 ∨ j = 3 ∨ j = 4 ∨ j = 5 ∨ j = 6 ∨ j = 7 ∨ j = 8 := by omega
  rcases this with rfl | rfl | rfl | rfl | rfl | rfl | rfl | rfl | rfl <;> simp [go_sem], fun j => by simp [go_sem], by simp⟩
/-- What read answers. -/
abbrev rV (s : ByteArray) : Value := C9 (rF s 0) (rF s 1) (rF s 2) (rF s 3) (rF s 4) (fun k => rF s (5 + k))
instance (s : ByteArray) : Decidable (rOk s) := by unfold rOk; infer_instance
set_option maxRecDepth 100000 in
set_option maxHeartbeats 4000000 in
theorem read_nine (s : ByteArray) (hs : s.size ≤ 1000) (hl : (Ps s).length = 9) : PureOn CC Tryd.prog 62 #[.string s] (if rOk s then rV s else C9 0 0 0 0 0 Z0) := by
  intro W hC
  have HC := Lib.hid hC
  have HS := Lib.hid (fun w hw => splitn_any s hs w hw)
  rw [hl] at HS
  have HL := Lib.hid hl
  have hcl := Lib.hid (fun k (hk : k < 9) => Ps_cell s (min 10 (s.size + 1)) k (by omega))
  have hgz := HC.out.m.1
  clear hC hl
  go_enter Tryd.func62, Tryd.ntmps62
  go_wp2_with fail
  (with_reducible refine (HS.out _ (ML.on HC.out.m (by (repeat (first | assumption | exact Below.refl _ _ | refine ba ?_ _ | refine bd ?_ | refine bdn ?_ _ | refine bs ?_ (by first | omega | (simp; done) | (simp; omega)) _ | refine bt ?_ (by assumption)))))).mono ?_)
  rintro e w1 ⟨rfl, rfl⟩
  go_wp2
  go_loopw [19] (fun x wr => ∃ k : Nat, k ≤ 9 ∧ x = .int .i64 k ∧ Hid (∀ j, j < k → gP ((Ps s).getD j ByteArray.empty) = true) ∧ Hid (AR wr (W.heap.size + 2) 9 (fun j => if j < k then rF s j else 0)) ∧ Below (W.heap.size + 2) (RW1 W s) wr) (fun x _ => 9 - (intOf x).toNat)
  case atStart =>
    refine ⟨0, by omega, rfl, Lib.hid (fun j hj => by omega), Lib.hid ⟨fun j hj => ?_, fun j => by simp [go_sem], by simp⟩, (Below.refl _ _).alloc (by simp) _⟩
    have : j = 0 ∨ j = 1 ∨ j = 2 ∨ j = 3 ∨ j = 4 ∨ j = 5 ∨ j = 6 ∨ j = 7 ∨ j = 8 := by omega
    rcases this with rfl | rfl | rfl | rfl | rfl | rfl | rfl | rfl | rfl <;> simp [go_sem]
  case round =>
    obtain ⟨k, hk, rfl, HG, HA, hb⟩ := hrel
    rename_i wr
    have HBR := Lib.hid (show Below (RW0 W).heap.size (RW0 W) wr from bt (ba (Below.refl _ _) _) (hb.mono (by simp)))
    have HBW := Lib.hid (show Below W.heap.size W wr from bt (ba (Below.refl _ _) _) HBR.out)
    have HBB := Lib.hid hb
    have hzw : W.heap.size + 2 < wr.heap.size := HA.out.lt
    by_cases hlt : k < 9
    · have hkI : (k : Int) < 9 := by omega
      have hcw : wr.cell? ⟨W.heap.size + 1, k, none⟩ = some (.string ((Ps s).getD k ByteArray.empty)) := by
        refine (hb.cell (p := ⟨W.heap.size + 1, k, none⟩) (by show W.heap.size + 1 < W.heap.size + 2; omega)).trans ?_
        have := hcl.out k hlt
        exact (World.cell?_alloc_at _ _ _ _ (by simp)).trans this
      have hzs := Ps_size s k (by have := HL.out; omega)
      have HP := Lib.hid (parse_any ((Ps s).getD k ByteArray.empty) (by omega))
      have hno : gP ((Ps s).getD k ByteArray.empty) = false → ¬ rOk s := fun hg h => by rw [h.2 k hlt] at hg; cases hg
      have hrf : parseV ((Ps s).getD k ByteArray.empty).data.toList = rF s k := rfl
      have hgd : gP ((Ps s).getD k ByteArray.empty) = (isOk (Lib.parseIntB 64 ((Ps s).getD k ByteArray.empty).data.toList) && decide (rF s k ≤ 9007199254740992)) := rfl
      rw [hrf] at HP
      have HNN := Lib.hid hno; have HGD := Lib.hid hgd
      have HEV := Lib.hid (EV.on HC.out.e HBW.out)
      clear hno hgd hrf hb hzs
      generalize hq : ((Ps s).getD k ByteArray.empty) = q at *
      have HQ := Lib.hid hq
      clear hq
      generalize isOk (Lib.parseIntB 64 q.data.toList) = o at *
      cases o with
      | false =>
        have HNO := Lib.hid (HNN.out (by rw [HGD.out]; rfl))
        go_wp2_with fail
        (with_reducible refine (HP.out _ HEV.out).mono ?_)
        rintro e w3 ⟨x, rfl, hx, hb3⟩
        simp only [Bool.false_eq_true, if_false] at hx
        obtain ⟨tp, a, rfl⟩ := hx
        have HRA := (rw0_AR W).grow (bt HBR.out hb3)
        have c0 := HRA.c 0 (by decide)
        have f0 := HRA.f 0
        have c1 := HRA.c 1 (by decide)
        have f1 := HRA.f 1
        have c2 := HRA.c 2 (by decide)
        have f2 := HRA.f 2
        have c3 := HRA.c 3 (by decide)
        have f3 := HRA.f 3
        have c4 := HRA.c 4 (by decide)
        have f4 := HRA.f 4
        have c5 := HRA.c 5 (by decide)
        have f5 := HRA.f 5
        have c6 := HRA.c 6 (by decide)
        have f6 := HRA.f 6
        have c7 := HRA.c 7 (by decide)
        have f7 := HRA.f 7
        have c8 := HRA.c 8 (by decide)
        have f8 := HRA.f 8
        clear HRA
        go_wp2
        refine ret_world ?_
        intro X hX
        have x0 : X.cell? ⟨W.heap.size, 0, none⟩ = some (.int .i64 0) := by rw [hX]; simp [go_sem, c0]
        have x1 : X.cell? ⟨W.heap.size, 1, none⟩ = some (.int .i64 0) := by rw [hX]; simp [go_sem, c1]
        have x2 : X.cell? ⟨W.heap.size, 2, none⟩ = some (.int .i64 0) := by rw [hX]; simp [go_sem, c2]
        have x3 : X.cell? ⟨W.heap.size, 3, none⟩ = some (.int .i64 0) := by rw [hX]; simp [go_sem, c3]
        have x4 : X.cell? ⟨W.heap.size, 4, none⟩ = some (.int .i64 0) := by rw [hX]; simp [go_sem, c4]
        have x5 : X.cell? ⟨W.heap.size, 5, none⟩ = some (.int .i64 0) := by rw [hX]; simp [go_sem, c5]
        have x6 : X.cell? ⟨W.heap.size, 6, none⟩ = some (.int .i64 0) := by rw [hX]; simp [go_sem, c6]
        have x7 : X.cell? ⟨W.heap.size, 7, none⟩ = some (.int .i64 0) := by rw [hX]; simp [go_sem, c7]
        have x8 : X.cell? ⟨W.heap.size, 8, none⟩ = some (.int .i64 0) := by rw [hX]; simp [go_sem, c8]
        have hbX : Below W.heap.size W X := by
          rw [hX]
          repeat (refine bs ?_ (show W.heap.size ≤ W.heap.size from Nat.le_refl _) _)
          exact bt HBW.out hb3
        clear hX
        refine bodyPost_ret (v := C9 0 0 0 0 0 Z0) (by simp [results, Tryd.results62, go_sem, Z0, x0, x1, x2, x3, x4, x5, x6, x7, x8]) rfl ⟨by first | rfl | (rw [if_neg HNO.out]; rfl), hbX⟩
      | true =>
        by_cases hle : rF s k ≤ 9007199254740992
        · have HGK := Lib.hid (show gP q = true by rw [HGD.out, decide_eq_true hle]; rfl)
          go_wp2_with fail
          (with_reducible refine (HP.out _ HEV.out).mono ?_)
          rintro e w3 ⟨x, rfl, hx, hb3⟩
          simp only [if_true] at hx
          subst hx
          have ha3 := HA.out.grow hb3
          have k0 := ha3.c k hlt
          have f0 := ha3.f k
          have z3 := ha3.lt
          have HA3 := Lib.hid ha3
          have HB3 := Lib.hid (show Below (W.heap.size + 2) (RW1 W s) w3 from HBB.out.trans (hb3.mono (by omega)))
          clear ha3
          go_wp2
          go_roundw
          case rel =>
            refine ⟨k + 1, by omega, by go_num, Lib.hid (fun j hj => ?_), Lib.hid ((HA3.out.set k hlt _).congr fun j hj => ?_), HB3.out.setCell (Nat.le_refl _) _⟩
            · by_cases e : j = k
              · subst e; rw [HQ.out]; exact HGK.out
              · exact HG.out j (by omega)
            · by_cases e : j = k
              · subst e; rw [if_pos rfl, if_pos (by omega)]
              · rw [if_neg e]
                by_cases e2 : j < k
                · rw [if_pos e2, if_pos (by omega)]
                · rw [if_neg e2, if_neg (by omega)]
          case measure => simp [intOf]; omega
        · have hgt : 9007199254740992 < rF s k := by omega
          have HNO := Lib.hid (HNN.out (by rw [HGD.out, decide_eq_false hle]; rfl))
          clear hle
          go_wp2_with fail
          (with_reducible refine (HP.out _ HEV.out).mono ?_)
          rintro e w3 ⟨x, rfl, hx, hb3⟩
          simp only [if_true] at hx
          subst hx
          have HRA := (rw0_AR W).grow (bt HBR.out hb3)
          have c0 := HRA.c 0 (by decide)
          have f0 := HRA.f 0
          have c1 := HRA.c 1 (by decide)
          have f1 := HRA.f 1
          have c2 := HRA.c 2 (by decide)
          have f2 := HRA.f 2
          have c3 := HRA.c 3 (by decide)
          have f3 := HRA.f 3
          have c4 := HRA.c 4 (by decide)
          have f4 := HRA.f 4
          have c5 := HRA.c 5 (by decide)
          have f5 := HRA.f 5
          have c6 := HRA.c 6 (by decide)
          have f6 := HRA.f 6
          have c7 := HRA.c 7 (by decide)
          have f7 := HRA.f 7
          have c8 := HRA.c 8 (by decide)
          have f8 := HRA.f 8
          clear HRA
          go_wp2
          refine ret_world ?_
          intro X hX
          have x0 : X.cell? ⟨W.heap.size, 0, none⟩ = some (.int .i64 0) := by rw [hX]; simp [go_sem, c0]
          have x1 : X.cell? ⟨W.heap.size, 1, none⟩ = some (.int .i64 0) := by rw [hX]; simp [go_sem, c1]
          have x2 : X.cell? ⟨W.heap.size, 2, none⟩ = some (.int .i64 0) := by rw [hX]; simp [go_sem, c2]
          have x3 : X.cell? ⟨W.heap.size, 3, none⟩ = some (.int .i64 0) := by rw [hX]; simp [go_sem, c3]
          have x4 : X.cell? ⟨W.heap.size, 4, none⟩ = some (.int .i64 0) := by rw [hX]; simp [go_sem, c4]
          have x5 : X.cell? ⟨W.heap.size, 5, none⟩ = some (.int .i64 0) := by rw [hX]; simp [go_sem, c5]
          have x6 : X.cell? ⟨W.heap.size, 6, none⟩ = some (.int .i64 0) := by rw [hX]; simp [go_sem, c6]
          have x7 : X.cell? ⟨W.heap.size, 7, none⟩ = some (.int .i64 0) := by rw [hX]; simp [go_sem, c7]
          have x8 : X.cell? ⟨W.heap.size, 8, none⟩ = some (.int .i64 0) := by rw [hX]; simp [go_sem, c8]
          have hbX : Below W.heap.size W X := by
            rw [hX]
            repeat (refine bs ?_ (show W.heap.size ≤ W.heap.size from Nat.le_refl _) _)
            exact bt HBW.out hb3
          clear hX
          refine bodyPost_ret (v := C9 0 0 0 0 0 Z0) (by simp [results, Tryd.results62, go_sem, Z0, x0, x1, x2, x3, x4, x5, x6, x7, x8]) rfl ⟨by first | rfl | (rw [if_neg HNO.out]; rfl), hbX⟩
    · obtain rfl : k = 9 := by omega
      have hok : rOk s := ⟨HL.out, fun j hj => HG.out j hj⟩
      have HOK := Lib.hid hok
      have ha := HA.out
      have n0 := ha.c 0 (by decide); have n1 := ha.c 1 (by decide); have n2 := ha.c 2 (by decide); have n3 := ha.c 3 (by decide); have n4 := ha.c 4 (by decide)
      simp only [show ((0 : Nat) < 9) = True from by simp, show ((1 : Nat) < 9) = True from by simp, show ((2 : Nat) < 9) = True from by simp, show ((3 : Nat) < 9) = True from by simp, show ((4 : Nat) < 9) = True from by simp, if_true] at n0 n1 n2 n3 n4
      clear ha hok hb
      simp only [show ((9 : Nat) : Int) = 9 from rfl]
      obtain ⟨wo, rfl⟩ : ∃ wo : World, wo = wr := ⟨_, rfl⟩
      go_wp2
      go_loopw [51] (fun x wr => ∃ k : Nat, k ≤ 4 ∧ x = .int .i64 k ∧ Hid (AR wr wo.heap.size 9 (fun j => if j < 5 + k then rF s j else 0)) ∧ Below wo.heap.size wo wr) (fun x _ => 4 - (intOf x).toNat)
      case atStart =>
        refine ⟨0, by omega, rfl, Lib.hid ⟨fun j hj => ?_, fun j => by simp [go_sem], by simp⟩, by (repeat (first | assumption | exact Below.refl _ _ | refine ba ?_ _ | refine bd ?_ | refine bdn ?_ _ | refine bs ?_ (by first | omega | (simp; done) | (simp; omega)) _ | refine bt ?_ (by assumption)))⟩
        have : j = 0 ∨ j = 1 ∨ j = 2 ∨ j = 3 ∨ j = 4 ∨ j = 5 ∨ j = 6 ∨ j = 7 ∨ j = 8 := by omega
        rcases this with rfl | rfl | rfl | rfl | rfl | rfl | rfl | rfl | rfl <;> simp [go_sem]
      case round =>
        clear n0 n1 n2 n3 n4
        obtain ⟨k, hk4, rfl, HQ, hbq⟩ := hrel
        have HBQ := Lib.hid hbq
        have hqs := hbq.size
        have hzq := HQ.out.lt
        by_cases hlt : k < 4
        · have hkI : (k : Int) < 4 := by omega
          have hnum : wr.cell? ⟨W.heap.size + 2, 5 + k, none⟩ = some (.int .i64 (rF s (5 + k))) := by
            refine (hbq.cell (p := ⟨W.heap.size + 2, 5 + k, none⟩) hzw).trans ?_
            have := HA.out.c (5 + k) (by omega)
            rw [if_pos (by omega)] at this
            exact this
          have k0 := HQ.out.c (5 + k) (by omega)
          have f0 := HQ.out.f (5 + k)
          clear hbq
          go_wp2
          go_roundw
          case rel =>
            refine ⟨k + 1, by omega, by go_num, Lib.hid ((HQ.out.set (5 + k) (by omega) _).congr fun j hj => ?_), HBQ.out.setCell (Nat.le_refl _) _⟩
            by_cases e : j = 5 + k
            · subst e; rw [if_pos rfl, if_pos (by omega)]
            · rw [if_neg e]
              by_cases e2 : j < 5 + k
              · rw [if_pos e2, if_pos (by omega)]
              · rw [if_neg e2, if_neg (by omega)]
          case measure => simp [intOf]; omega
        · obtain rfl : k = 4 := by omega
          have hq := HQ.out
          have q0 : wr.cell? ⟨wo.heap.size, 0, none⟩ = some (.int .i64 (rF s 0)) := (hq.c 0 (by decide)).trans (by simp)
          have q1 : wr.cell? ⟨wo.heap.size, 1, none⟩ = some (.int .i64 (rF s 1)) := (hq.c 1 (by decide)).trans (by simp)
          have q2 : wr.cell? ⟨wo.heap.size, 2, none⟩ = some (.int .i64 (rF s 2)) := (hq.c 2 (by decide)).trans (by simp)
          have q3 : wr.cell? ⟨wo.heap.size, 3, none⟩ = some (.int .i64 (rF s 3)) := (hq.c 3 (by decide)).trans (by simp)
          have q4 : wr.cell? ⟨wo.heap.size, 4, none⟩ = some (.int .i64 (rF s 4)) := (hq.c 4 (by decide)).trans (by simp)
          have q5 : wr.cell? ⟨wo.heap.size, 5, none⟩ = some (.int .i64 (rF s 5)) := (hq.c 5 (by decide)).trans (by simp)
          have q6 : wr.cell? ⟨wo.heap.size, 6, none⟩ = some (.int .i64 (rF s 6)) := (hq.c 6 (by decide)).trans (by simp)
          have q7 : wr.cell? ⟨wo.heap.size, 7, none⟩ = some (.int .i64 (rF s 7)) := (hq.c 7 (by decide)).trans (by simp)
          have q8 : wr.cell? ⟨wo.heap.size, 8, none⟩ = some (.int .i64 (rF s 8)) := (hq.c 8 (by decide)).trans (by simp)
          have HRA := (rw0_AR W).grow (bt HBR.out hbq)
          have c0 := HRA.c 0 (by decide)
          have f0 := HRA.f 0
          have c1 := HRA.c 1 (by decide)
          have f1 := HRA.f 1
          have c2 := HRA.c 2 (by decide)
          have f2 := HRA.f 2
          have c3 := HRA.c 3 (by decide)
          have f3 := HRA.f 3
          have c4 := HRA.c 4 (by decide)
          have f4 := HRA.f 4
          have c5 := HRA.c 5 (by decide)
          have f5 := HRA.f 5
          have c6 := HRA.c 6 (by decide)
          have f6 := HRA.f 6
          have c7 := HRA.c 7 (by decide)
          have f7 := HRA.f 7
          have c8 := HRA.c 8 (by decide)
          have f8 := HRA.f 8
          have HBX := Lib.hid (bt HBW.out hbq)
          clear HRA hq hbq
          go_wp2
          refine ret_world ?_
          intro X hX
          have x0 : X.cell? ⟨W.heap.size, 0, none⟩ = some (.int .i64 (rF s 0)) := by rw [hX]; simp [go_sem, c0]
          have x1 : X.cell? ⟨W.heap.size, 1, none⟩ = some (.int .i64 (rF s 1)) := by rw [hX]; simp [go_sem, c1]
          have x2 : X.cell? ⟨W.heap.size, 2, none⟩ = some (.int .i64 (rF s 2)) := by rw [hX]; simp [go_sem, c2]
          have x3 : X.cell? ⟨W.heap.size, 3, none⟩ = some (.int .i64 (rF s 3)) := by rw [hX]; simp [go_sem, c3]
          have x4 : X.cell? ⟨W.heap.size, 4, none⟩ = some (.int .i64 (rF s 4)) := by rw [hX]; simp [go_sem, c4]
          have x5 : X.cell? ⟨W.heap.size, 5, none⟩ = some (.int .i64 (rF s 5)) := by rw [hX]; simp [go_sem, c5]
          have x6 : X.cell? ⟨W.heap.size, 6, none⟩ = some (.int .i64 (rF s 6)) := by rw [hX]; simp [go_sem, c6]
          have x7 : X.cell? ⟨W.heap.size, 7, none⟩ = some (.int .i64 (rF s 7)) := by rw [hX]; simp [go_sem, c7]
          have x8 : X.cell? ⟨W.heap.size, 8, none⟩ = some (.int .i64 (rF s 8)) := by rw [hX]; simp [go_sem, c8]
          have hbX : Below W.heap.size W X := by
            rw [hX]
            repeat (refine bs ?_ (show W.heap.size ≤ W.heap.size from Nat.le_refl _) _)
            exact HBX.out
          clear hX
          refine bodyPost_ret (v := rV s) (by simp [results, Tryd.results62, go_sem, x0, x1, x2, x3, x4, x5, x6, x7, x8]) rfl ⟨by first | rfl | (rw [if_pos HOK.out]), hbX⟩
theorem read_any (s : ByteArray) (hs : s.size ≤ 1000) : PureOn CC Tryd.prog 62 #[.string s] (if rOk s then rV s else C9 0 0 0 0 0 Z0) := by
  by_cases hl : (Ps s).length = 9
  · exact read_nine s hs hl
  · rw [if_neg (fun h => hl h.1)]; exact read_len s hs hl
end Go.Proofs.YtlhljioncgddeaaDoor

/- Texts laid together: Tiu,Tiv,Tiw. -/
import Derived.Test.YtgfjmafdfbghnaaGreatTgG
import Derived.Test.YtgfjmafdfbghnaaGreatTgH
import Derived.Laws.IdiomArrays
namespace Go.Proofs.YtgfjmafdfbghnaaGreat
section
open Go.RowKit Go.ChangeShapes Go.WideShapes Go.ChangeAt Go.Joins Go.Deep Go.Maps
section
variable {w : World} {v : Value} {C : List Fd} {T : Nat → Int} {a : A10} {s : Int × (Nat → Int) × List Fd}
theorem rdo10 (h : RS 8 fdenc w v C) (hvb : ∀ b, v.ownBlock = some b → b < w.heap.size) (hln : C.length < 800000) (hok : TOk C) (hs : Tst T C a s) : Calls Tryz.prog 7 #[mvx T v, av10 a] w (RetD10 w v s) := by
  have up : ∀ w', Below w.heap.size w w' → ∀ b, v.ownBlock = some b → b < w'.heap.size := fun w' hb b e => Nat.lt_of_lt_of_le (hvb b e) hb.size
  cases hs with
  | tot k hS => exact rdo_tot h hvb hln hok k hS
  | totN k hS => exact rdo_totN h hvb hln hok k hS
  | pArg k hp => exact rdo_put h hvb hln hok k fun w' hb => rput_arg (h.below hb) (up w' hb) hln hok hp
  | pThere k hp hf => exact rdo_put h hvb hln hok k fun w' hb => rput_there (h.below hb) (up w' hb) hln hok hp hf
  | pWt k hp hf hg hx => exact rdo_put h hvb hln hok k fun w' hb => rput_weight (h.below hb) (up w' hb) hln hok hp hf hg hx
  | pMore k hp hf hg hx => exact rdo_put h hvb hln hok k fun w' hb => rput_more (h.below hb) (up w' hb) hln hok hp hf hg hx
  | pNew k hp hf hg => exact rdo_put h hvb hln hok k fun w' hb => rput_new (h.below hb) (up w' hb) hln hok hp hf hg
  | no k0 k1 hf => exact rdo_no h hvb hln hok k0 k1 hf
  | @drop k A B x hdd hx => subst hdd; exact rdo_drop h hvb hln hok k hx
  | @wake k A B x hdd hx => subst hdd; exact rdo_wake h hvb hln hok k hx
  | @sleep k A B x hdd hx => subst hdd; exact rdo_sleep h hvb hln hok k hx
  | @give k A B x hdd hx hg => subst hdd; exact rdo_give h hvb hln hok k hx hg
  | @giveN k A B x hdd hx hg => subst hdd; exact rdo_giveN h hvb hln hok k hx hg
  | @take k0 k1 k2 k3 k4 k5 A B x hdd hx hh => subst hdd; exact rdo_take h hvb hln hok k0 k1 k2 k3 k4 k5 hx hh
  | @takeN k0 k1 k2 k3 k4 k5 A B x hdd hx hh => subst hdd; exact rdo_takeN h hvb hln hok k0 k1 k2 k3 k4 k5 hx hh
end
def a10enc (a : A10) : List Value := [.int .i64 a.k, .int .i64 a.i, .int .i64 a.r, .int .i64 a.x, .int .i64 (a.n 0), .int .i64 (a.n 1), .int .i64 (a.n 2), .int .i64 (a.n 3)]
theorem c8a10 : Tryz.prog.cellsOf 32 = 8 := by kernel_rfl
theorem c1i10 : Tryz.prog.cellsOf 2 = 1 := by kernel_rfl
set_option maxRecDepth 100000 in
theorem open_a10 {H : Type} {enc : TypeId × Value → H} {W : World} {base : Nat} {sp : Nat → Bool} {held : Bool} {r : Reach} {b0 : Nat} {v : Value} {d : DataW H} {p : List MemPlace}
    (hv : Value.okWide Tryz.prog W r b0 22 v) (h : DataW.Trod enc Tryz.prog W base sp held 22 v d p) : ∃ l : List A10, RS 8 a10enc W v l ∧ (∀ x ∈ l, I64 x.i) ∧ ∀ b, v.ownBlock = some b → b < W.heap.size := by
  have : Inhabited A10 := ⟨⟨0, 0, 0, 0, fun _ => 0⟩⟩
  refine open_rs (P := Tryz.prog) (k := 8) (enc := a10enc) (ok := fun x => I64 x.i) Tryz.underlying22 c8a10 (fun _ => rfl) (fun m cs x hl hf => ?_) hv h
  match cs, hl with
  | [c0, c1, c2, c3, c4, c5, c6, c7], _ =>
    obtain ⟨xs, n, _, _, _, hlen, hff⟩ := DataW.trod_struct Tryz.underlying32 hf
    match xs, hlen with
    | [y0, y1, y2, y3, y4], _ =>
      have k0 : DataW.trod enc Tryz.prog W base sp held n 3 [c0] = some y0 := hff 0 _ rfl
      have k1 : DataW.trod enc Tryz.prog W base sp held n 2 [c1] = some y1 := hff 1 _ rfl
      have k2 : DataW.trod enc Tryz.prog W base sp held n 3 [c2] = some y2 := hff 2 _ rfl
      have k3 : DataW.trod enc Tryz.prog W base sp held n 2 [c3] = some y3 := hff 3 _ rfl
      have k4 : DataW.trod enc Tryz.prog W base sp held n 25 [c4, c5, c6, c7] = some y4 := hff 4 _ rfl
      obtain ⟨z0, z1, z2, z3, m', _, h0, h1, h2, h3⟩ := trod_array4 Tryz.underlying25 c1i10 k4
      obtain ⟨q0, e0, _, _⟩ := DataW.trod_int Tryz.underlying3 k0
      obtain ⟨q1, e1, _, w1⟩ := DataW.trod_int Tryz.underlying2 k1
      obtain ⟨q2, e2, _, w2⟩ := DataW.trod_int Tryz.underlying3 k2
      obtain ⟨q3, e3, _, w3⟩ := DataW.trod_int Tryz.underlying2 k3
      obtain ⟨q4, e4, _, w4⟩ := DataW.trod_int Tryz.underlying2 h0
      obtain ⟨q5, e5, _, w5⟩ := DataW.trod_int Tryz.underlying2 h1
      obtain ⟨q6, e6, _, w6⟩ := DataW.trod_int Tryz.underlying2 h2
      obtain ⟨q7, e7, _, w7⟩ := DataW.trod_int Tryz.underlying2 h3
      simp at e0 e1 e2 e3 e4 e5 e6 e7
      subst e0 e1 e2 e3 e4 e5 e6 e7
      exact ⟨⟨q0, q1, q2, q3, four9 q4 q5 q6 q7⟩, rfl, i64_of_wf w1⟩
end
section
open Go.RowKit Go.Maps
attribute [local go_sem] ext_cell ext_frozen extC_cell extC_frozen Mix.calmUpon Mix.mUpon
section
variable {W w w' : World} {p : Nat} {T : Nat → Int} {D : List Fd} {P : Nat → Prop} {s : Int × (Nat → Int) × List Fd}
theorem PX.call {f : FuncId} {args : Array Value} (h : PX W w p T D P) (hc : ∀ MR MF lab t Q fr, TN W w p MR MF lab T t Q fr → TD T D t Q fr → Calls Tryz.prog f args w (RT W p MR MF lab s w)) (hs : Sm4 s.2.1) : Calls Tryz.prog f args w fun e w' => e = .returned (.int .i64 s.1) ∧ PX W w' p s.2.1 s.2.2 P ∧ Chg (fun b => ¬ P b) w w' := by
  obtain ⟨MR, MF, lab, t, Q, fr, h1, h2, h3⟩ := h.tn
  refine (hc MR MF lab t Q fr h1 h2).mono ?_
  rintro e w' ⟨he, lab', t', Q', fr', g1, g2, g3, g4⟩
  refine ⟨he, ⟨⟨MR, MF, lab', t', Q', fr', g1, g2, fun b hb => ?_⟩, fun b hb => Nat.lt_of_lt_of_le (h.lt b hb) g4.size, hs⟩, g4.mono fun b hb hp => ?_⟩
  · rw [g3 b (h.lt b hb)]; exact h3 b hb
  · have := h3 b hp; omega
/-- Something asked, where nothing changes. -/
theorem PX.ask {f : FuncId} {args : Array Value} {R : Ending → World → Prop} (h : PX W w p T D P) (hc : ∀ MR MF lab t Q fr, TN W w p MR MF lab T t Q fr → TD T D t Q fr → Calls Tryz.prog f args w R) : Calls Tryz.prog f args w R := by
  obtain ⟨MR, MF, lab, t, Q, fr, h1, h2, h3⟩ := h.tn
  exact hc MR MF lab t Q fr h1 h2
theorem pxnew (w : World) : Calls Tryz.prog 6 #[] w fun e w' => ∃ p, e = .returned (ptr p) ∧ PX w w' p (fun _ => 0) [] (fun _ => False) := by
  refine (tinew w).mono ?_
  rintro e w' ⟨p, MR, MF, lab, t, rfl, h1, h2⟩
  exact ⟨p, rfl, ⟨MR, MF, lab, t, _, _, h1, h2, fun b h => h.elim⟩, fun b h => h.elim, fun k _ => ⟨Int.le_refl 0, show (0 : Int) ≤ 9007199254740992 by decide⟩⟩
end
def fr4 (a b c d : Int) : Nat → Int | 0 => a | 1 => b | 2 => c | _ => d
def wx1 : Fd := ⟨1, 1, 5, fun _ => 0, true⟩
def wx2 : Fd := ⟨2, 1, 5, fun _ => 0, true⟩
def wx3 : Fd := ⟨3, 1, 4, fun _ => 0, true⟩
def wy1 : Fd := { wx1 with s := fun k => wx1.s k + fr4 3 0 0 0 k }
def wy3 : Fd := { wx3 with s := fun k => wx3.s k + fr4 2 0 0 0 k }
theorem wk10 : wkO (fr4 10 0 0 0) [wy1, wx2, wy3] = [(4, 3), (5, 2), (5, 1)] := by kernel_rfl
theorem pick12 : pickO (fr4 10 0 0 0) [wy1, wx2, wy3] [1, 2] = some (5, 2) := by unfold pickO; rw [wk10]; rfl
theorem pick13 : pickO (fr4 10 0 0 0) [wy1, wx2, wy3] [1, 3] = some (4, 3) := by unfold pickO; rw [wk10]; rfl
theorem gt5 : GT [wy1, wx2, wy3] 5 = some ⟨1, SU (inR [wy1, wx2, wy3] 5), true⟩ := by kernel_rfl
theorem dom5 : (domV (SU (inR [wy1, wx2, wy3] 5)) (fr4 10 0 0 0)).2 = (3, 10) := by kernel_rfl
theorem sm10 : Sm4 (fr4 10 0 0 0) := by unfold Sm4; decide
theorem gv5 : Gv (SU (inR [wx1, wx2, wx3] 5)) (fr4 3 0 0 0) := ⟨by unfold SOk; decide, by unfold Sm4; decide⟩
theorem gv4 : Gv (SU (inR [wy1, wx2, wx3] 4)) (fr4 2 0 0 0) := ⟨by unfold SOk; decide, by unfold Sm4; decide⟩
theorem rs_two (w : World) (a b : Int) : RS 1 n1 (w.alloc (.cells #[.int .i64 a, .int .i64 b] 2)) (.slice (some ⟨w.heap.size, 0, none⟩) 2 2) [a, b] := by
  have hn : (w.alloc (.cells #[.int .i64 a, .int .i64 b] 2)).heap[w.heap.size]? = some (.cells #[.int .i64 a, .int .i64 b] 2 (0, 0)) := heap_alloc_new w _
  refine ⟨_, 2, rfl, Nat.le_refl _, by unfold maxLen; omega, fun _ => ⟨w.heap.size, 0, rfl, (Array.getElem?_eq_some_iff.1 hn).1, fun i hi j u hu => ?_⟩⟩
  have hi : i < 2 := hi
  have hj : j = 0 := by
    have := (List.getElem?_eq_some_iff.1 hu).1; simp [n1] at this; exact this
  subst hj
  rcases i with _ | _ | i
  · simp [n1] at hu; subst hu; unfold World.cell?; rw [hn]; rfl
  · simp [n1] at hu; subst hu; unfold World.cell?; rw [hn]; rfl
  · omega
theorem i64s (n : Nat) (h : n < 100) : I64 (n : Int) := ⟨by omega, by omega⟩
set_option maxRecDepth 100000 in
set_option maxHeartbeats 4000000 in
theorem works10 (W : World) : Calls Tryz.prog 11 #[] W fun e w' => e = .returned (.bool true) ∧ Below W.heap.size W w' := by
  go_enter Tryz.func11, Tryz.ntmps11
  go_wp2_with fail
  refine (pxnew W).mono ?_
  rintro e w1 ⟨p, rfl, hx⟩
  have HX := Lib.hid hx
  clear hx
  go_wp2_with fail
  refine (PX.call (s := (0, fr4 10 0 0 0, [])) HX.out (fun MR MF lab t Q fr h hd => titotal_ok h hd (by decide) sm10) sm10).mono ?_
  rintro e w2 ⟨rfl, hx, -⟩
  clear HX
  have HX := Lib.hid hx
  clear hx
  go_wp2_with fail
  refine (PX.call (s := (0, fr4 10 0 0 0, [wx1])) HX.out (fun MR MF lab t Q fr h hd => tiput_new (i := 1) (r := 5) (x := 1) h hd (by decide) ⟨by decide, by decide⟩ (by unfold PArg; decide) (by rw [hd.fr]; rfl) (by rw [hd.tg]; rfl)) sm10).mono ?_
  rintro e w2 ⟨rfl, hx, -⟩
  clear HX
  have HX := Lib.hid hx
  clear hx
  go_wp2_with fail
  refine (PX.call (s := (0, fr4 10 0 0 0, [wx1, wx2])) HX.out (fun MR MF lab t Q fr h hd => tiput_more (i := 2) (r := 5) (x := 1) (c := ⟨1, SU (inR [wx1] 5), true⟩) h hd (by decide) ⟨by decide, by decide⟩ (by unfold PArg; decide) (by rw [hd.fr]; rfl) (by rw [hd.tg]; rfl) rfl) sm10).mono ?_
  rintro e w2 ⟨rfl, hx, -⟩
  clear HX
  have HX := Lib.hid hx
  clear hx
  go_wp2_with fail
  refine (PX.call (s := (0, fr4 10 0 0 0, [wx1, wx2, wx3])) HX.out (fun MR MF lab t Q fr h hd => tiput_new (i := 3) (r := 4) (x := 1) h hd (by decide) ⟨by decide, by decide⟩ (by unfold PArg; decide) (by rw [hd.fr]; rfl) (by rw [hd.tg]; rfl)) sm10).mono ?_
  rintro e w2 ⟨rfl, hx, -⟩
  clear HX
  have HX := Lib.hid hx
  clear hx
  go_wp2_with fail
  refine (PX.call (s := (0, fr4 10 0 0 0, [wy1, wx2, wx3])) HX.out (fun MR MF lab t Q fr h hd => tigive_ok (A := []) (x := wx1) (B := [wx2, wx3]) (n := fr4 3 0 0 0) h hd (by decide) gv5) sm10).mono ?_
  rintro e w2 ⟨rfl, hx, -⟩
  clear HX
  have HX := Lib.hid hx
  clear hx
  go_wp2_with fail
  refine (PX.call (s := (0, fr4 10 0 0 0, [wy1, wx2, wy3])) HX.out (fun MR MF lab t Q fr h hd => tigive_ok (A := [wy1, wx2]) (x := wx3) (B := []) (n := fr4 2 0 0 0) h hd (by decide) gv4) sm10).mono ?_
  rintro e w2 ⟨rfl, hx, -⟩
  clear HX
  have HX := Lib.hid hx
  clear hx
  go_wp2_with fail
  have hx := HX.out.below (ba (Below.refl w2.heap.size w2) (.cells #[.int .i64 1, .int .i64 2] 2))
  have hp := tpick hx (by decide) (rs_two w2 1 2) (.inr ⟨_, _, _, _, rfl⟩) (fun b e => by cases e; simp) (by simp)
  rw [pick12] at hp
  refine hp.mono ?_
  rintro e w3 ⟨rfl, hb3⟩
  clear HX
  have HX := Lib.hid (hx.below hb3)
  clear hx hp hb3
  generalize w3 = w2 at *
  go_wp2_with fail
  have hx := HX.out.below (ba (Below.refl w2.heap.size w2) (.cells #[.int .i64 1, .int .i64 3] 2))
  have hp := tpick hx (by decide) (rs_two w2 1 3) (.inr ⟨_, _, _, _, rfl⟩) (fun b e => by cases e; simp) (by simp)
  rw [pick13] at hp
  refine hp.mono ?_
  rintro e w3 ⟨rfl, hb3⟩
  clear HX
  have HX := Lib.hid (hx.below hb3)
  clear hx hp hb3
  generalize w3 = w2 at *
  go_wp2_with fail
  have hs := HX.out.ask (R := fun e w' => e = .returned (.tuple #[S3 3 10 1, .bool true]) ∧ Below w2.heap.size w2 w') (fun MR MF lab t Q fr h hd => by
    have q := tishare_some h (r := 5) ⟨by decide, by decide⟩ (by rw [hd.tg]; exact gt5)
    rw [hd.tT, dom5] at q
    exact q)
  refine hs.mono ?_
  rintro e w3 ⟨rfl, hb3⟩
  have hx := HX.out.below (ba hb3 (.cells #[.int .i64 3, .int .i64 10, .int .i64 1] 44))
  clear HX
  have HX := Lib.hid hx
  clear hs hb3 hx
  go_wp2_with fail
  refine (PX.call (s := (22, fr4 10 0 0 0, [wy1, wx2, wy3])) HX.out (fun MR MF lab t Q fr h hd => tiput_weight (i := 4) (r := 5) (x := 2) (c := ⟨1, SU (inR [wy1, wx2, wy3] 5), true⟩) h hd ⟨by decide, by decide⟩ (by unfold PArg; decide) (by rw [hd.fr]; rfl) (by rw [hd.tg]; exact gt5) (by decide)) sm10).mono ?_
  rintro e w4 ⟨rfl, hx, -⟩
  have HB := Lib.hid hx.bel
  clear hx HX
  go_wp2
  go_ret
  exact ⟨rfl, HB.out⟩
end
section
open Go.RowKit Go.Maps
attribute [local go_sem] ext_cell ext_frozen extC_cell extC_frozen Mix.calmUpon Mix.mUpon
/-- The tiers in p, and the document's list v in the variable mb. -/
structure PZ (W w : World) (p mb : Nat) (T : Nat → Int) (D : List Fd) (v : Value) : Prop where
  px : PX W w p T D (fun b => b = mb ∨ v.ownBlock = some b)
  m : MBx w mb T v
  rs : RS 8 fdenc w v D
  b4 : W.heap.size ≤ mb
  nb : v.ownBlock ≠ some mb
section
variable {W w w' : World} {p mb : Nat} {T T' : Nat → Int} {D D' : List Fd} {v v' : Value} {P F : Nat → Prop}
theorem PZ.on (h : PZ W w p mb T D v) (hb : Below w.heap.size w w') : PZ W w' p mb T D v := ⟨h.px.below hb, h.m.below hb, h.rs.below hb, h.b4, h.nb⟩
theorem PZ.vb (h : PZ W w p mb T D v) : ∀ b, v.ownBlock = some b → b < w.heap.size := fun b e => h.px.lt b (.inr e)
/-- Blocks are turned that are none of theirs. -/
theorem PX.turn (h : PX W w p T D P) (hc : Chg F w w') (hF : ∀ b, F b → P b) (hn : NoNode F w) (hW : ∀ b, F b → W.heap.size ≤ b) : PX W w' p T D P := by
  obtain ⟨MR, MF, lab, t, Q, fr, h1, h2, h3⟩ := h.tn
  exact ⟨⟨MR, MF, lab, t, Q, fr, h1.off hc hn (fun b hb _ => h3 b (hF b hb)) hW, h2, h3⟩, fun b hb => Nat.lt_of_lt_of_le (h.lt b hb) hc.size, h.st⟩
theorem MBx.nonode {b : Nat} (h : MBx w b T v) : NoNode (fun k => k = b) w := fun q hq cs e => by
  have hq : q = b := hq
  subst hq
  unfold MBx at h; rw [h] at e; injection e with e; injection e with _ e; cases e
theorem set5x_chg (w : World) (mb : Nat) (T : Nat → Int) (v : Value) : Chg (fun k => k = mb) w (set5x w mb T v) :=
  ((((((Chg.refl (fun k => k = mb) w).setCell (p := ⟨mb, 0, none⟩) (.inl rfl) _).setCell (p := ⟨mb, 1, none⟩) (.inl rfl) _).setCell (p := ⟨mb, 2, none⟩) (.inl rfl) _).setCell (p := ⟨mb, 3, none⟩) (.inl rfl) _).setCell (p := ⟨mb, 4, none⟩) (.inl rfl) _)
/-- The variable takes what the document's Do has answered. -/
theorem PZ.next (h : PX W w p T' D' P) (hm : MBx w mb T v) (hp : ∀ b, b = mb ∨ v'.ownBlock = some b → P b) (hrs : RS 8 fdenc w v' D') (hne : v'.ownBlock ≠ some mb) (hb : W.heap.size ≤ mb) : PZ W (set5x w mb T' v') p mb T' D' v' := by
  have hc := set5x_chg w mb T' v'
  refine ⟨((h.less hp).turn hc (fun b e => .inl e) hm.nonode fun b e => ?_), hm.set5 _ _, hrs.chg hc fun b e e' => ?_, hb, hne⟩
  · have e : b = mb := e; omega
  · have e' : b = mb := e'; subst e'; exact hne e
end
-- the document's Do, called at the world wi: wo behind it
-- the answer is stored into nb at the world wz; w12: behind the region
-- behind the region: w12
set_option maxRecDepth 100000 in
set_option maxHeartbeats 8000000 in
theorem plays10 (v : Value) (l : List A10) (W : World) (hr : RS 8 a10enc W v l) (ha : ∀ x ∈ l, I64 x.i) : Calls Tryz.prog 3 #[v] W fun e w' => e = .returned (.bool true) ∧ Below W.heap.size W w' := by
  obtain ⟨a, m, c, rfl, hn, hc, hm, hat⟩ := hr.at_
  have HN := Lib.hid hn; have HAT := Lib.hid hat; have HA := Lib.hid ha
  clear hr hn hat ha hm hc
  by_cases hbig : m ≤ 50
  · go_enter Tryz.func3, Tryz.ntmps3
    go_wp2_with fail
    refine (pxnew W).mono ?_
    rintro e w1 ⟨p, rfl, hx⟩
    have hb2 := ba (Below.refl w1.heap.size w1) (.cells (mcellsx (fun _ => 0) (.slice none 0 0)) 28)
    have HI0 := Lib.hid (show PZ W (w1.alloc (.cells (mcellsx (fun _ => 0) (.slice none 0 0)) 28)) p w1.heap.size (fun _ => 0) [] (.slice none 0 0) ∧ ([] : List Fd).length ≤ 0 from
      ⟨⟨hx.on hb2 (fun b hb => by
        rcases hb with rfl | hb
        · exact .inr ⟨Nat.le_refl _, by simp⟩
        · (cases hb)), MBx.made w1 (fun _ => 0) _, RS.nil _ _ _, hx.bel.size, fun e => by cases e⟩, Nat.le_refl _⟩)
    clear hx hb2
    go_upto_region 5 with (fail)
    change Code.wp _ _ _ _ (w1.alloc (.cells (mcellsx (fun _ => 0) (.slice none 0 0)) 28))
    generalize w1.alloc (.cells (mcellsx (fun _ => 0) (.slice none 0 0)) 28) = w2 at *
    generalize w1.heap.size = mb at *
    go_wp2
    go_loopw [5, 6, 7] (fun iv _ _ wr => ∃ (t : Nat) (T : Nat → Int) (D : List Fd) (v : Value), t ≤ m ∧ iv = .int .i64 t ∧ Hid (PZ W wr p mb T D v ∧ D.length ≤ t)) (fun iv _ _ _ => m - (intOf iv).toNat)
    case atStart => exact ⟨0, _, _, _, Nat.zero_le _, rfl, HI0⟩
    case round =>
      clear HI0
      obtain ⟨t, T, D, v, ht, rfl, HQ⟩ := hrel
      obtain ⟨w3, rfl⟩ : ∃ w2, w2 = wr := ⟨_, rfl⟩
      have HP3 := Lib.hid HQ.out.1
      have hlc : D.length ≤ t := HQ.out.2
      obtain ⟨va, vn, vc, hv, -⟩ := HP3.out.rs.at_
      subst hv
      clear HQ
      by_cases hlt : t < m
      · have hts : (t : Int) < (m : Int) := by omega
        obtain ⟨x, hx⟩ := at_lt (l := l) (i := t) (by rw [← HN.out]; exact hlt)
        have hxi := HA.out x (mem_at hx)
        obtain ⟨b, off, rfl, hb, hcell⟩ := HAT.out t x hx
        have HXB := Lib.hid hb; have HXC := Lib.hid hcell; have HXI := Lib.hid hxi
        clear hx hb hcell hxi
        obtain ⟨⟨q, T5, D5⟩, hts5⟩ := tst_any HP3.out.px.ok T x
        have HTS := Lib.hid hts5
        have HTL := Lib.hid (show D5.length ≤ t + 1 from by have := hts5.len; simp only at this; omega)
        have hdo := fun w' (hb : Below w3.heap.size w3 w') => rdo10 (HP3.out.rs.below hb) (fun b e => Nat.lt_of_lt_of_le (HP3.out.vb b e) hb.size) (by omega) HP3.out.px.ok hts5
        have HDO := Lib.hid hdo
        clear hdo hts5
        have e0 := (HP3.out.px.bel.cell (p := ⟨b, off + t * 8 + 0, none⟩) HXB.out).trans (HXC.out 0 _ rfl)
        have e1 := (HP3.out.px.bel.cell (p := ⟨b, off + t * 8 + 1, none⟩) HXB.out).trans (HXC.out 1 _ rfl)
        have e2 := (HP3.out.px.bel.cell (p := ⟨b, off + t * 8 + 2, none⟩) HXB.out).trans (HXC.out 2 _ rfl)
        have e3 := (HP3.out.px.bel.cell (p := ⟨b, off + t * 8 + 3, none⟩) HXB.out).trans (HXC.out 3 _ rfl)
        have e4 := (HP3.out.px.bel.cell (p := ⟨b, off + t * 8 + 4, none⟩) HXB.out).trans (HXC.out 4 _ rfl)
        have e5 := (HP3.out.px.bel.cell (p := ⟨b, off + t * 8 + 5, none⟩) HXB.out).trans (HXC.out 5 _ rfl)
        have e6 := (HP3.out.px.bel.cell (p := ⟨b, off + t * 8 + 6, none⟩) HXB.out).trans (HXC.out 6 _ rfl)
        have e7 := (HP3.out.px.bel.cell (p := ⟨b, off + t * 8 + 7, none⟩) HXB.out).trans (HXC.out 7 _ rfl)
        simp only [Nat.add_zero] at e0
        have el : b < w3.heap.size := Nat.lt_of_lt_of_le HXB.out HP3.out.px.bel.size
        obtain ⟨m0, m1, m2, m3, m4⟩ := (HP3.out.m).cells
        have ml := (HP3.out.m).lt
        go_wp2_with fail
        refine Mix.regionC (fun _ => False) (by kernel_rfl) ?_
        intro w30 hb30
        refine Mix.take_exC _ _ 0 rfl (by kernel_rfl) (by kernel_rfl) (by kernel_rfl) (by kernel_rfl) (fun K hK => ?_)
        go_simp
        first | (refine hK _ ?_; clear hK K) | (apply Exists.intro; refine ⟨fun x => ?_, hK _ ?_⟩; (fail); clear hK K)
        refine Mix.take_exC _ _ 1 rfl (by kernel_rfl) (by kernel_rfl) (by kernel_rfl) (by kernel_rfl) (fun K hK => ?_)
        go_simp
        first | (refine hK _ ?_; clear hK K) | (apply Exists.intro; refine ⟨fun x => ?_, hK _ ?_⟩; (fail); clear hK K)
        refine Mix.take_exC _ _ 2 rfl (by kernel_rfl) (by kernel_rfl) (by kernel_rfl) (by kernel_rfl) (fun K hK => ?_)
        go_simp
        first | (refine hK _ ?_; clear hK K) | (apply Exists.intro; refine ⟨fun x => ?_, hK _ ?_⟩; (fail); clear hK K)
        refine Mix.take_exC _ _ 3 rfl (by kernel_rfl) (by kernel_rfl) (by kernel_rfl) (by kernel_rfl) (fun K hK => ?_)
        go_simp
        first | (refine hK _ ?_; clear hK K) | (apply Exists.intro; refine ⟨fun x => ?_, hK _ ?_⟩; (fail); clear hK K)
        refine Mix.take_exC _ _ 4 rfl (by kernel_rfl) (by kernel_rfl) (by kernel_rfl) (by kernel_rfl) (fun K hK => ?_)
        go_simp
        first | (refine hK _ ?_; clear hK K) | (apply Exists.intro; refine ⟨fun x => ?_, hK _ ?_⟩; (fail); clear hK K)
        refine Mix.all (rs := [5, 9]) (by kernel_rfl) (by simp) (.of_below _ hb30) ?_
        intro i6 hi6 w6 hb6 hC6
        have HB := Lib.hid (bt hb30 hb6)
        simp only [List.mem_cons, List.not_mem_nil, or_false] at hi6
        clear hb30 hb6 hC6
        clear e0 e1 e2 e3 e4 e5 e6 e7 el
        clear m0 m1 m2 m3 m4 ml
        rcases hi6 with rfl | rfl
        · skip
          refine Mix.op rfl (by kernel_rfl) ?_
          go_simp
          refine (HDO.out w6 HB.out).mono ?_
          rintro e w7 ⟨v', rfl, hrs, hvb, hbd⟩
          refine ⟨_, rfl, ?_⟩
          obtain ⟨va5, vn5, vc5, hv5, -⟩ := hrs.at_
          subst hv5
          have HRS := Lib.hid hrs
          have HVB8 := Lib.hid (show ∀ b, (Value.slice va5 vn5 vc5).ownBlock = some b → (Value.slice va vn vc).ownBlock = some b ∨ w6.heap.size ≤ b from fun b e => by
            rcases hvb b e with h | h
            · exact .inl h
            · exact .inr h.1)
          have HBD := Lib.hid hbd
          have HVB := Lib.hid (show ∀ b, (Value.slice va5 vn5 vc5).ownBlock = some b → (Value.slice va vn vc).ownBlock = some b ∨ w3.heap.size ≤ b ∧ b < w7.heap.size from fun b e => by
            rcases hvb b e with h | h
            · exact .inl h
            · have := HB.out.size; exact .inr ⟨by omega, h.2⟩)
          have HB := Lib.hid (bt HB.out hbd)
          clear hrs hvb hbd HDO
          refine Mix.take_exC _ _ 6 rfl (by kernel_rfl) (by kernel_rfl) (by kernel_rfl) (by kernel_rfl) (fun K hK => ?_)
          go_simp
          first | (refine hK _ ?_; clear hK K) | (apply Exists.intro; refine ⟨fun x => ?_, hK _ ?_⟩; (fail); clear hK K)
          refine Mix.take_exC _ _ 7 rfl (by kernel_rfl) (by kernel_rfl) (by kernel_rfl) (by kernel_rfl) (fun K hK => ?_)
          go_simp
          first | (refine hK _ ?_; clear hK K) | (apply Exists.intro; refine ⟨fun x => ?_, hK _ ?_⟩; (fail); clear hK K)
          refine Mix.take_exC _ _ 8 rfl (by kernel_rfl) (by kernel_rfl) (by kernel_rfl) (by kernel_rfl) (fun K hK => ?_)
          go_simp
          first | (refine hK _ ?_; clear hK K) | (apply Exists.intro; refine ⟨fun x => ?_, hK _ ?_⟩; (fail); clear hK K)
          refine Mix.all (rs := [9]) (by kernel_rfl) (by simp) (.of_below _ HB.out) ?_
          intro i8 hi8 w8 hb8 hC8
          simp only [List.mem_cons, List.not_mem_nil, or_false] at hi8
          subst hi8
          have HVS := Lib.hid (show w7.heap.size ≤ w8.heap.size from hb8.size)
          have HB := Lib.hid (bt HB.out hb8)
          have HRS := Lib.hid (HRS.out.below hb8)
          clear hC8 hb8
          have hb89 := ba (Below.refl w8.heap.size w8) (.cells (mcellsx (fun _ => 0) (.slice none 0 0)) 28)
          have HM9 := Lib.hid (MBx.made w8 (fun _ => 0) (.slice none 0 0))
          refine Mix.op rfl (by kernel_rfl) ?_
          go_simp
          have HNB2 := Lib.hid (show w3.heap.size ≤ w8.heap.size from HB.out.size)
          have HB := Lib.hid (bt HB.out hb89)
          have HRS := Lib.hid (HRS.out.below hb89)
          have HNB := Lib.hid (show ∀ b, (Value.slice va5 vn5 vc5).ownBlock = some b → b ≠ w8.heap.size from fun b e => by
            have q1 := HVS.out; have q2 := HNB2.out
            rcases HVB.out b e with h | h
            · have := HP3.out.vb b h; omega
            · omega)
          have HVS := Lib.hid (Nat.le_trans HVS.out hb89.size)
          generalize w8.alloc (.cells (mcellsx (fun _ => 0) (.slice none 0 0)) 28) = w9 at *
          obtain ⟨nb, hnb⟩ : ∃ b, b = w8.heap.size := ⟨_, rfl⟩
          rw [← hnb] at HM9 HNB HNB2 ⊢
          clear hb89 hnb
          refine Mix.all (rs := [10]) (by kernel_rfl) (by simp) (.of_below _ HB.out) ?_
          intro i10 hi10 w10 hb10 hC10
          simp only [List.mem_cons, List.not_mem_nil, or_false] at hi10
          subst hi10
          have HB := Lib.hid (bt HB.out hb10)
          have HMZ := Lib.hid (HM9.out.below hb10)
          have HRS := Lib.hid (HRS.out.below hb10)
          have HVS := Lib.hid (Nat.le_trans HVS.out hb10.size)
          clear hb10 hC10
          have hs := HMZ.out
          obtain ⟨s0, s1, s2, s3, s4⟩ := hs.cells
          have f0 := hs.fz 0; have f1 := hs.fz 1; have f2 := hs.fz 2; have f3 := hs.fz 3; have f4 := hs.fz 4
          have sq := hs.lt
          have hst := set5x_chg w10 nb T5 (.slice va5 vn5 vc5)
          have HBx := Lib.hid (HB.out.trans (hst.below HB.out.size fun k e => by have e : k = nb := e; have := HNB2.out; omega))
          have HMx := Lib.hid (hs.set5 T5 (.slice va5 vn5 vc5))
          have HRx := Lib.hid (HRS.out.chg hst fun b e => HNB.out b e)
          have HSZ := Lib.hid hst.size
          have HQZ := Lib.hid (show nb < w10.heap.size from sq)
          clear hs hst
          refine Mix.op rfl (by kernel_rfl) ?_
          go_simp
          clear s0 s1 s2 s3 s4 f0 f1 f2 f3 f4 sq
          refine Mix.take_exC _ _ 11 rfl (by kernel_rfl) (by kernel_rfl) (by kernel_rfl) (by kernel_rfl) (fun K hK => ?_)
          go_simp
          first | (refine hK _ ?_; clear hK K) | (apply Exists.intro; refine ⟨fun x => ?_, hK _ ?_⟩; (fail); clear hK K)
          refine Mix.done (by kernel_rfl) (.of_below _ HBx.out) ?_
          intro w12 hb12
          have HB12 := Lib.hid (bt HBx.out hb12)
          have HN5 := Lib.hid (HMx.out.below hb12)
          have HRS5 := Lib.hid (HRx.out.below hb12)
          have HM5 := Lib.hid (HP3.out.m.below HB12.out)
          have HPX5 := Lib.hid (HP3.out.px.on (P' := fun b => (b = mb ∨ (Value.slice va vn vc).ownBlock = some b) ∨ b = nb ∨ (Value.slice va5 vn5 vc5).ownBlock = some b) HB12.out (fun b hb => by
            have q1 := hb12.size; have q2 := HSZ.out; have q3 := HQZ.out; have q4 := HNB2.out; have q5 := HVS.out
            rcases hb with hb | hb | hb
            · exact .inl hb
            · exact .inr ⟨by omega, by simp [World.setCell] at q1; omega⟩
            · rcases HVB.out b hb with h | h
              · exact .inl (.inr h)
              · exact .inr ⟨h.1, by simp [World.setCell] at q1; omega⟩))
          have HNE := Lib.hid (show (Value.slice va5 vn5 vc5).ownBlock ≠ some mb from fun e => by
            rcases HVB.out mb e with h | h
            · exact HP3.out.nb h
            · have := HP3.out.m.lt; omega)
          clear hb12 HMx HRx HBx HMZ HRS HNB HVB HB
          have e0 := ((HP3.out.px.bel.trans (HB12.out.mono HP3.out.px.bel.size)).cell (p := ⟨b, off + t * 8 + 0, none⟩) HXB.out).trans (HXC.out 0 _ rfl)
          have e1 := ((HP3.out.px.bel.trans (HB12.out.mono HP3.out.px.bel.size)).cell (p := ⟨b, off + t * 8 + 1, none⟩) HXB.out).trans (HXC.out 1 _ rfl)
          have e2 := ((HP3.out.px.bel.trans (HB12.out.mono HP3.out.px.bel.size)).cell (p := ⟨b, off + t * 8 + 2, none⟩) HXB.out).trans (HXC.out 2 _ rfl)
          have e3 := ((HP3.out.px.bel.trans (HB12.out.mono HP3.out.px.bel.size)).cell (p := ⟨b, off + t * 8 + 3, none⟩) HXB.out).trans (HXC.out 3 _ rfl)
          have e4 := ((HP3.out.px.bel.trans (HB12.out.mono HP3.out.px.bel.size)).cell (p := ⟨b, off + t * 8 + 4, none⟩) HXB.out).trans (HXC.out 4 _ rfl)
          have e5 := ((HP3.out.px.bel.trans (HB12.out.mono HP3.out.px.bel.size)).cell (p := ⟨b, off + t * 8 + 5, none⟩) HXB.out).trans (HXC.out 5 _ rfl)
          have e6 := ((HP3.out.px.bel.trans (HB12.out.mono HP3.out.px.bel.size)).cell (p := ⟨b, off + t * 8 + 6, none⟩) HXB.out).trans (HXC.out 6 _ rfl)
          have e7 := ((HP3.out.px.bel.trans (HB12.out.mono HP3.out.px.bel.size)).cell (p := ⟨b, off + t * 8 + 7, none⟩) HXB.out).trans (HXC.out 7 _ rfl)
          simp only [Nat.add_zero] at e0
          have el : b < w12.heap.size := Nat.lt_of_lt_of_le HXB.out (HP3.out.px.bel.trans (HB12.out.mono HP3.out.px.bel.size)).size
          obtain ⟨n0, n1', n2, n3, n4⟩ := HN5.out.cells
          have nl := HN5.out.lt
          have hne : (q != q) = false := by simp
          go_wp2_with fail
          clear e0 e1 e2 e3 e4 e5 e6 e7 el
          clear n0 n1' n2 n3 n4 nl
          refine (px_do HPX5.out HXI.out (by omega) HTS.out).mono ?_
          rintro e w13 ⟨rfl, hp13, hc13⟩
          have hn13 := HN5.out.chg hc13 fun e => e (.inr (.inl rfl))
          have hm13 := HM5.out.chg hc13 fun e => e (.inl (.inl rfl))
          have hr13 := HRS5.out.chg hc13 fun b hb e => e (.inr (.inr hb))
          have hp14 := PZ.next (mb := mb) hp13 hm13 (fun b hb => by
            rcases hb with hb | hb
            · exact .inl (.inl hb)
            · exact .inr (.inr hb)) hr13 HNE.out HP3.out.b4
          have HP14 := Lib.hid hp14
          obtain ⟨n0, n1', n2, n3, n4⟩ := hn13.cells
          have nl := hn13.lt
          obtain ⟨m0, m1, m2, m3, m4⟩ := hm13.cells
          have mf0 := hm13.fz 0; have mf1 := hm13.fz 1; have mf2 := hm13.fz 2; have mf3 := hm13.fz 3; have mf4 := hm13.fz 4
          have ml := hm13.lt
          clear hc13 hn13 hm13 hp14 hp13 hr13
          unfold set5x at HP14
          go_upto_region 12 with (fail)
          clear n0 n1' n2 n3 n4 nl m0 m1 m2 m3 m4 mf0 mf1 mf2 mf3 mf4 ml hne
          generalize ((((w13.setCell ⟨mb, 0, none⟩ (.int .i64 (T5 0))).setCell ⟨mb, 1, none⟩ (.int .i64 (T5 1))).setCell ⟨mb, 2, none⟩ (.int .i64 (T5 2))).setCell ⟨mb, 3, none⟩ (.int .i64 (T5 3))).setCell ⟨mb, 4, none⟩ (.slice va5 vn5 vc5) = w14 at *
          obtain ⟨m0, m1, m2, m3, m4⟩ := (HP14.out.m).cells
          have ml := (HP14.out.m).lt
          go_wp2_with fail
          clear m0 m1 m2 m3 m4 ml
          refine (rwalkx (T := T5) HP14.out.rs HP14.out.px.ok (by have := HTL.out; omega)).mono ?_
          rintro e w15 ⟨ov, rfl, hov, hb15⟩
          have HP15 := Lib.hid (HP14.out.on hb15)
          have HOV := Lib.hid (show RS 2 prenc w15 ov (wkO T5 D5) from hov.rs (fun _ => rfl))
          clear hov hb15
          obtain ⟨oa, on, oc, hv, -⟩ := HOV.out.at_
          subst hv
          go_wp2_with fail
          refine (walks10 HP15.out.px (by have := HTL.out; omega) HOV.out).mono ?_
          rintro e w16 ⟨rfl, hb16⟩
          have HP16 := Lib.hid (HP15.out.on hb16)
          clear hb16 HOV
          rw [decide_eq_true rfl]
          go_wp2
          go_roundw
          case rel => exact ⟨t + 1, T5, D5, _, by omega, by go_num, Lib.hid ⟨HP16.out, HTL.out⟩⟩
          case measure => simp [intOf]; omega
        · have HGE := Lib.hid HB.out.size
          have hb67 := ba (Below.refl w6.heap.size w6) (.cells (mcellsx (fun _ => 0) (.slice none 0 0)) 28)
          have HM7 := Lib.hid (MBx.made w6 (fun _ => 0) (.slice none 0 0))
          refine Mix.op rfl (by kernel_rfl) ?_
          go_simp
          have HB := Lib.hid (bt HB.out hb67)
          generalize w6.alloc (.cells (mcellsx (fun _ => 0) (.slice none 0 0)) 28) = w7 at *
          obtain ⟨nb, hnb⟩ : ∃ b, b = w6.heap.size := ⟨_, rfl⟩
          rw [← hnb] at HM7 HGE ⊢
          have HNB2 := Lib.hid (show w3.heap.size ≤ nb from HGE.out)
          clear hb67 hnb
          refine Mix.all (rs := [5]) (by kernel_rfl) (by simp) (.of_below _ HB.out) ?_
          intro i8 hi8 w8 hb8 hC8
          simp only [List.mem_cons, List.not_mem_nil, or_false] at hi8
          subst hi8
          have HB := Lib.hid (bt HB.out hb8)
          have HM8 := Lib.hid (HM7.out.below hb8)
          clear hC8 hb8
          have HDN := Lib.hid (show ∀ b, w8.heap.size ≤ b → b ≠ nb from fun b e => by have := HM8.out.lt; omega)
          refine Mix.op rfl (by kernel_rfl) ?_
          go_simp
          refine (HDO.out w8 HB.out).mono ?_
          rintro e w9 ⟨v', rfl, hrs, hvb, hbd⟩
          refine ⟨_, rfl, ?_⟩
          obtain ⟨va5, vn5, vc5, hv5, -⟩ := hrs.at_
          subst hv5
          have HRS := Lib.hid hrs
          have HVB8 := Lib.hid (show ∀ b, (Value.slice va5 vn5 vc5).ownBlock = some b → (Value.slice va vn vc).ownBlock = some b ∨ w8.heap.size ≤ b from fun b e => by
            rcases hvb b e with h | h
            · exact .inl h
            · exact .inr h.1)
          have HBD := Lib.hid hbd
          have HVB := Lib.hid (show ∀ b, (Value.slice va5 vn5 vc5).ownBlock = some b → (Value.slice va vn vc).ownBlock = some b ∨ w3.heap.size ≤ b ∧ b < w9.heap.size from fun b e => by
            rcases hvb b e with h | h
            · exact .inl h
            · have := HB.out.size; exact .inr ⟨by omega, h.2⟩)
          have HB := Lib.hid (bt HB.out hbd)
          clear hrs hvb hbd HDO
          have HNB := Lib.hid (show ∀ b, (Value.slice va5 vn5 vc5).ownBlock = some b → b ≠ nb from fun b e => by
            have q1 := HNB2.out
            rcases HVB8.out b e with h | h
            · have := HP3.out.vb b h; omega
            · exact HDN.out b h)
          have HM9 := Lib.hid (HM8.out.below HBD.out)
          have HVS := Lib.hid (Nat.le_refl w9.heap.size)
          refine Mix.take_exC _ _ 6 rfl (by kernel_rfl) (by kernel_rfl) (by kernel_rfl) (by kernel_rfl) (fun K hK => ?_)
          go_simp
          first | (refine hK _ ?_; clear hK K) | (apply Exists.intro; refine ⟨fun x => ?_, hK _ ?_⟩; (fail); clear hK K)
          refine Mix.take_exC _ _ 7 rfl (by kernel_rfl) (by kernel_rfl) (by kernel_rfl) (by kernel_rfl) (fun K hK => ?_)
          go_simp
          first | (refine hK _ ?_; clear hK K) | (apply Exists.intro; refine ⟨fun x => ?_, hK _ ?_⟩; (fail); clear hK K)
          refine Mix.take_exC _ _ 8 rfl (by kernel_rfl) (by kernel_rfl) (by kernel_rfl) (by kernel_rfl) (fun K hK => ?_)
          go_simp
          first | (refine hK _ ?_; clear hK K) | (apply Exists.intro; refine ⟨fun x => ?_, hK _ ?_⟩; (fail); clear hK K)
          refine Mix.all (rs := [10]) (by kernel_rfl) (by simp) (.of_below _ HB.out) ?_
          intro i10 hi10 w10 hb10 hC10
          simp only [List.mem_cons, List.not_mem_nil, or_false] at hi10
          subst hi10
          have HB := Lib.hid (bt HB.out hb10)
          have HMZ := Lib.hid (HM9.out.below hb10)
          have HRS := Lib.hid (HRS.out.below hb10)
          have HVS := Lib.hid (Nat.le_trans HVS.out hb10.size)
          clear hb10 hC10
          have hs := HMZ.out
          obtain ⟨s0, s1, s2, s3, s4⟩ := hs.cells
          have f0 := hs.fz 0; have f1 := hs.fz 1; have f2 := hs.fz 2; have f3 := hs.fz 3; have f4 := hs.fz 4
          have sq := hs.lt
          have hst := set5x_chg w10 nb T5 (.slice va5 vn5 vc5)
          have HBx := Lib.hid (HB.out.trans (hst.below HB.out.size fun k e => by have e : k = nb := e; have := HNB2.out; omega))
          have HMx := Lib.hid (hs.set5 T5 (.slice va5 vn5 vc5))
          have HRx := Lib.hid (HRS.out.chg hst fun b e => HNB.out b e)
          have HSZ := Lib.hid hst.size
          have HQZ := Lib.hid (show nb < w10.heap.size from sq)
          clear hs hst
          refine Mix.op rfl (by kernel_rfl) ?_
          go_simp
          clear s0 s1 s2 s3 s4 f0 f1 f2 f3 f4 sq
          refine Mix.take_exC _ _ 11 rfl (by kernel_rfl) (by kernel_rfl) (by kernel_rfl) (by kernel_rfl) (fun K hK => ?_)
          go_simp
          first | (refine hK _ ?_; clear hK K) | (apply Exists.intro; refine ⟨fun x => ?_, hK _ ?_⟩; (fail); clear hK K)
          refine Mix.done (by kernel_rfl) (.of_below _ HBx.out) ?_
          intro w12 hb12
          have HB12 := Lib.hid (bt HBx.out hb12)
          have HN5 := Lib.hid (HMx.out.below hb12)
          have HRS5 := Lib.hid (HRx.out.below hb12)
          have HM5 := Lib.hid (HP3.out.m.below HB12.out)
          have HPX5 := Lib.hid (HP3.out.px.on (P' := fun b => (b = mb ∨ (Value.slice va vn vc).ownBlock = some b) ∨ b = nb ∨ (Value.slice va5 vn5 vc5).ownBlock = some b) HB12.out (fun b hb => by
            have q1 := hb12.size; have q2 := HSZ.out; have q3 := HQZ.out; have q4 := HNB2.out; have q5 := HVS.out
            rcases hb with hb | hb | hb
            · exact .inl hb
            · exact .inr ⟨by omega, by simp [World.setCell] at q1; omega⟩
            · rcases HVB.out b hb with h | h
              · exact .inl (.inr h)
              · exact .inr ⟨h.1, by simp [World.setCell] at q1; omega⟩))
          have HNE := Lib.hid (show (Value.slice va5 vn5 vc5).ownBlock ≠ some mb from fun e => by
            rcases HVB.out mb e with h | h
            · exact HP3.out.nb h
            · have := HP3.out.m.lt; omega)
          clear hb12 HMx HRx HBx HMZ HRS HNB HVB HB
          have e0 := ((HP3.out.px.bel.trans (HB12.out.mono HP3.out.px.bel.size)).cell (p := ⟨b, off + t * 8 + 0, none⟩) HXB.out).trans (HXC.out 0 _ rfl)
          have e1 := ((HP3.out.px.bel.trans (HB12.out.mono HP3.out.px.bel.size)).cell (p := ⟨b, off + t * 8 + 1, none⟩) HXB.out).trans (HXC.out 1 _ rfl)
          have e2 := ((HP3.out.px.bel.trans (HB12.out.mono HP3.out.px.bel.size)).cell (p := ⟨b, off + t * 8 + 2, none⟩) HXB.out).trans (HXC.out 2 _ rfl)
          have e3 := ((HP3.out.px.bel.trans (HB12.out.mono HP3.out.px.bel.size)).cell (p := ⟨b, off + t * 8 + 3, none⟩) HXB.out).trans (HXC.out 3 _ rfl)
          have e4 := ((HP3.out.px.bel.trans (HB12.out.mono HP3.out.px.bel.size)).cell (p := ⟨b, off + t * 8 + 4, none⟩) HXB.out).trans (HXC.out 4 _ rfl)
          have e5 := ((HP3.out.px.bel.trans (HB12.out.mono HP3.out.px.bel.size)).cell (p := ⟨b, off + t * 8 + 5, none⟩) HXB.out).trans (HXC.out 5 _ rfl)
          have e6 := ((HP3.out.px.bel.trans (HB12.out.mono HP3.out.px.bel.size)).cell (p := ⟨b, off + t * 8 + 6, none⟩) HXB.out).trans (HXC.out 6 _ rfl)
          have e7 := ((HP3.out.px.bel.trans (HB12.out.mono HP3.out.px.bel.size)).cell (p := ⟨b, off + t * 8 + 7, none⟩) HXB.out).trans (HXC.out 7 _ rfl)
          simp only [Nat.add_zero] at e0
          have el : b < w12.heap.size := Nat.lt_of_lt_of_le HXB.out (HP3.out.px.bel.trans (HB12.out.mono HP3.out.px.bel.size)).size
          obtain ⟨n0, n1', n2, n3, n4⟩ := HN5.out.cells
          have nl := HN5.out.lt
          have hne : (q != q) = false := by simp
          go_wp2_with fail
          clear e0 e1 e2 e3 e4 e5 e6 e7 el
          clear n0 n1' n2 n3 n4 nl
          refine (px_do HPX5.out HXI.out (by omega) HTS.out).mono ?_
          rintro e w13 ⟨rfl, hp13, hc13⟩
          have hn13 := HN5.out.chg hc13 fun e => e (.inr (.inl rfl))
          have hm13 := HM5.out.chg hc13 fun e => e (.inl (.inl rfl))
          have hr13 := HRS5.out.chg hc13 fun b hb e => e (.inr (.inr hb))
          have hp14 := PZ.next (mb := mb) hp13 hm13 (fun b hb => by
            rcases hb with hb | hb
            · exact .inl (.inl hb)
            · exact .inr (.inr hb)) hr13 HNE.out HP3.out.b4
          have HP14 := Lib.hid hp14
          obtain ⟨n0, n1', n2, n3, n4⟩ := hn13.cells
          have nl := hn13.lt
          obtain ⟨m0, m1, m2, m3, m4⟩ := hm13.cells
          have mf0 := hm13.fz 0; have mf1 := hm13.fz 1; have mf2 := hm13.fz 2; have mf3 := hm13.fz 3; have mf4 := hm13.fz 4
          have ml := hm13.lt
          clear hc13 hn13 hm13 hp14 hp13 hr13
          unfold set5x at HP14
          go_upto_region 12 with (fail)
          clear n0 n1' n2 n3 n4 nl m0 m1 m2 m3 m4 mf0 mf1 mf2 mf3 mf4 ml hne
          generalize ((((w13.setCell ⟨mb, 0, none⟩ (.int .i64 (T5 0))).setCell ⟨mb, 1, none⟩ (.int .i64 (T5 1))).setCell ⟨mb, 2, none⟩ (.int .i64 (T5 2))).setCell ⟨mb, 3, none⟩ (.int .i64 (T5 3))).setCell ⟨mb, 4, none⟩ (.slice va5 vn5 vc5) = w14 at *
          obtain ⟨m0, m1, m2, m3, m4⟩ := (HP14.out.m).cells
          have ml := (HP14.out.m).lt
          go_wp2_with fail
          clear m0 m1 m2 m3 m4 ml
          refine (rwalkx (T := T5) HP14.out.rs HP14.out.px.ok (by have := HTL.out; omega)).mono ?_
          rintro e w15 ⟨ov, rfl, hov, hb15⟩
          have HP15 := Lib.hid (HP14.out.on hb15)
          have HOV := Lib.hid (show RS 2 prenc w15 ov (wkO T5 D5) from hov.rs (fun _ => rfl))
          clear hov hb15
          obtain ⟨oa, on, oc, hv, -⟩ := HOV.out.at_
          subst hv
          go_wp2_with fail
          refine (walks10 HP15.out.px (by have := HTL.out; omega) HOV.out).mono ?_
          rintro e w16 ⟨rfl, hb16⟩
          have HP16 := Lib.hid (HP15.out.on hb16)
          clear hb16 HOV
          rw [decide_eq_true rfl]
          go_wp2
          go_roundw
          case rel => exact ⟨t + 1, T5, D5, _, by omega, by go_num, Lib.hid ⟨HP16.out, HTL.out⟩⟩
          case measure => simp [intOf]; omega
      · obtain rfl : m = t := by omega
        go_wp2_with fail
        refine (works10 _).mono ?_
        rintro e w4 ⟨rfl, hb4⟩
        have HP4 := Lib.hid (HP3.out.on hb4)
        clear hb4
        go_wp2
        go_ret
        exact ⟨rfl, HP4.out.px.bel⟩
  · have hb : 50 < (m : Int) := by omega
    go_enter Tryz.func3, Tryz.ntmps3
    go_wp2
    go_ret
    exact ⟨rfl, Below.refl _ _⟩
end
end Go.Proofs.YtgfjmafdfbghnaaGreat

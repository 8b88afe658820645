/- vec.merge at any two slices of parts and any function of two amounts. -/
import Derived.Test.YtennhfkhdfalfaaVecCp
import Derived.Test.YtennhfkhdfalfaaQuant1
namespace Go.Proofs.Ytennhfkhdfalfaa
open Go.RowKit
attribute [local go_sem] ext_cell ext_frozen Mix.calmUpon Mix.mUpon eqL2 eqP3
/-- Function f answers what g says of two amounts. -/
structure MF (f : Nat) (g : Int → Int → Option Int) : Prop where
  z : g 0 0 = some 0
  b : ∀ x y z, 0 ≤ x → x ≤ 9007199254740992 → 0 ≤ y → y ≤ 9007199254740992 → g x y = some z → 0 ≤ z ∧ z ≤ 9007199254740992
  yes : ∀ x y z, 0 ≤ x → x ≤ 9007199254740992 → 0 ≤ y → y ≤ 9007199254740992 → g x y = some z → Pure Try.prog f #[.int .i64 x, .int .i64 y] (.tuple #[.int .i64 z, .bool true])
  cf : ∀ (x y : Int) (w : World), (callFunc f #[.int .i64 x, .int .i64 y]).run Try.prog w = .ok (.enter f #[.int .i64 x, .int .i64 y]) w
  no : ∀ x y, 0 ≤ x → x ≤ 9007199254740992 → 0 ≤ y → y ≤ 9007199254740992 → g x y = none → ∃ c, Pure Try.prog f #[.int .i64 x, .int .i64 y] (.tuple #[.int .i64 c, .bool false])
/-- A call that answers a vector, or none. -/
def RetO (w : World) (o : Option (List Pt)) (e : Ending) (w' : World) : Prop := ∃ v, e = .returned (.tuple #[v, .bool o.isSome]) ∧ Vc w' v (o.getD []) ∧ Below w.heap.size w w'
theorem RetO.none {w w' : World} {o : Option (List Pt)} (ho : o = none) (hb : Below w.heap.size w w') : RetO w o (.returned (.tuple #[.slice none 0 0, .bool false])) w' := by
  subst ho; exact ⟨_, rfl, Vc.nil _, hb⟩
def lenOf : Value → Nat
  | .slice _ n _ => n
  | _ => 0
theorem Vc.len {w : World} {v : Value} {l : List Pt} (h : Vc w v l) : lenOf v = l.length := by
  obtain ⟨a, cap, rfl, _⟩ := h.form; rfl
theorem Vc.form' {w : World} {v : Value} {l : List Pt} (h : Vc w v l) : ∃ a n cap, v = .slice a n cap ∧ n = l.length ∧ n ≤ cap ∧ cap ≤ maxLen := by
  obtain ⟨a, cap, h1, h2, h3⟩ := h.form; exact ⟨a, _, cap, h1, rfl, h2, h3⟩
theorem own_more3 {w wr w1 : World} {v : Value} {n : Nat} {l : List Value} {o : Obj} {E z : Nat} (hown : wr.ownsRow w.heap.size E z v n l) (hb : Below w.heap.size w wr)
    (hgrow : (wr.alloc o).grownBy w1 v.ownBlock) : Below w.heap.size w w1 :=
  (hb.alloc hb.size o).grown hgrow (by have := hb.size; simp; omega) (fun j hj => (hown.lt j hj).1)
theorem rowP_grow {w w' : World} {base : Nat} {e : TypeId} {size : Nat} {v : Value} {n : Nat} {xs : List Value} (h : w.ownsRow base e size v n xs) (hb : Below w.heap.size w w') : w'.ownsRow base e size v n xs := by
  have hlt := h.lt
  obtain ⟨h1, h2⟩ := h
  refine ⟨h1, ?_⟩
  rcases h2 with h2 | ⟨g, cap, cur, a, b, c, d⟩
  · exact .inl h2
  · exact .inr ⟨g, cap, cur, a, b, by rw [hb.block g (hlt g (by rw [a]; rfl)).2]; exact c, d⟩
theorem RetO.some {w w' : World} {o : Option (List Pt)} {v : Value} {l : List Pt} (ho : o = some l) (hv : Vc w' v l) (hb : Below w.heap.size w w') : RetO w o (.returned (.tuple #[v, .bool true])) w' := by
  subst ho; exact ⟨_, rfl, hv, hb⟩
/-- .. and the vector is a new row of the call's own. -/
def RetW (w : World) (o : Option (List Pt)) (e : Ending) (w' : World) : Prop := ∃ v, e = .returned (.tuple #[v, .bool o.isSome]) ∧ OwnP w' w.heap.size v (o.getD []) ∧ Below w.heap.size w w'
theorem RetW.o {w w' : World} {o : Option (List Pt)} {e : Ending} (h : RetW w o e w') : RetO w o e w' := by
  obtain ⟨v, h1, h2, h3⟩ := h; exact ⟨v, h1, h2.vc, h3⟩
theorem RetW.none {w w' : World} {o : Option (List Pt)} (ho : o = none) (hb : Below w.heap.size w w') : RetW w o (.returned (.tuple #[.slice none 0 0, .bool false])) w' := by
  subst ho; exact ⟨_, rfl, World.ownsRow_nil _ _ _ _, hb⟩
theorem RetW.some {w w' : World} {o : Option (List Pt)} {v : Value} {l : List Pt} (ho : o = some l) (hv : OwnP w' w.heap.size v l) (hb : Below w.heap.size w w') : RetW w o (.returned (.tuple #[v, .bool true])) w' := by
  subst ho; exact ⟨_, rfl, hv, hb⟩
theorem merge_bad1 (f : Nat) (va vb : Value) (la : List Pt) (h : ¬ VR la) (hl : la.length < 1000000000) (W : World) (hA : Vc W va la) :
    Calls Try.prog 87 #[va, vb, .func (.func f) #[] #[]] W fun e w' => e = .returned (.tuple #[.slice none 0 0, .bool false]) ∧ Below W.heap.size W w' := by
  have HR := vecright_v va la hl
  rw [decide_eq_false h] at HR
  have HR := Lib.hid HR
  have HA := Lib.hid hA
  clear hA h
  go_enter Try.func87, Try.ntmps87
  go_wp2_with fail
  (with_reducible refine (HR.out.app _ HA.out).mono ?_)
  rintro e w1 ⟨rfl, hb1⟩
  have hs1 : W.heap.size + 0 ≤ w1.heap.size := (by have h := hb1.size; first | omega | (simp at h; omega))
  obtain ⟨hc1, hf1, hl1⟩ := bcell hb1
  clear hl1
  go_wp2
  go_ret2
  refine ⟨rfl, ?_⟩
  (repeat (first | assumption | exact Below.refl _ _ | refine ba ?_ _ | refine bd ?_ | refine bdn ?_ _ | refine bs ?_ (by first | omega | (simp; done) | (simp; omega)) _ | refine bt ?_ (by assumption)))
theorem merge_bad2 (f : Nat) (va vb : Value) (la lb : List Pt) (h1 : VR la) (h : ¬ VR lb) (hl : la.length < 1000000000) (hl' : lb.length < 1000000000) (W : World) (hA : Vc W va la) (hB : Vc W vb lb) :
    Calls Try.prog 87 #[va, vb, .func (.func f) #[] #[]] W fun e w' => e = .returned (.tuple #[.slice none 0 0, .bool false]) ∧ Below W.heap.size W w' := by
  have HR := vecright_v va la hl
  rw [decide_eq_true h1] at HR
  have HR := Lib.hid HR
  have HS := vecright_v vb lb hl'
  rw [decide_eq_false h] at HS
  have HS := Lib.hid HS
  have HA := Lib.hid hA; have HB := Lib.hid hB
  clear hA hB h h1
  go_enter Try.func87, Try.ntmps87
  go_wp2_with fail
  (with_reducible refine (HR.out.app _ HA.out).mono ?_)
  rintro e w1 ⟨rfl, hb1⟩
  have hs1 : W.heap.size + 0 ≤ w1.heap.size := (by have h := hb1.size; first | omega | (simp at h; omega))
  obtain ⟨hc1, hf1, hl1⟩ := bcell hb1
  clear hl1
  go_wp2_with fail
  (with_reducible refine (HS.out.app _ (HB.out.on (by (repeat (first | assumption | exact Below.refl _ _ | refine ba ?_ _ | refine bd ?_ | refine bdn ?_ _ | refine bs ?_ (by first | omega | (simp; done) | (simp; omega)) _ | refine bt ?_ (by assumption)))))).mono ?_)
  rintro e w2 ⟨rfl, hb2⟩
  have hs2 : w1.heap.size + 0 ≤ w2.heap.size := (by have h := hb2.size; first | omega | (simp at h; omega))
  have hb1_2 := bel hb1 hb2 (by (repeat (first | assumption | exact Below.refl _ _ | refine ba ?_ _ | refine bd ?_ | refine bdn ?_ _ | refine bs ?_ (by first | omega | (simp; done) | (simp; omega)) _ | refine bt ?_ (by assumption))))
  clear hc1 hf1
  obtain ⟨hc2, hf2, hl2⟩ := bcell hb2
  clear hl2
  go_wp2
  go_ret2
  refine ⟨rfl, ?_⟩
  (repeat (first | assumption | exact Below.refl _ _ | refine ba ?_ _ | refine bd ?_ | refine bdn ?_ _ | refine bs ?_ (by first | omega | (simp; done) | (simp; omega)) _ | refine bt ?_ (by assumption)))
/-- Where a merge stands: the rest of both vectors, and what is there already. -/
structure MS (W wr : World) (g : Int → Int → Option Int) (T : Option (List Pt)) (N : Nat) (va vb v : Value) (xa xb acc : List Pt) (n : Nat) : Prop where
  a : Vc W va xa
  b : Vc W vb xb
  ra : VR xa
  rb : VR xb
  hn : xa.length + xb.length ≤ n
  own : OwnP wr W.heap.size v acc
  mg : T = (mg g n xa xb).map (acc ++ ·)
  cap : acc.length + xa.length + xb.length ≤ N
  bel : Below W.heap.size W wr
theorem mg_nil (g : Int → Int → Option Int) (n : Nat) : mg g n [] [] = some [] := by
  cases n with
  | zero => rfl
  | succ n => rw [mg]; simp
set_option maxRecDepth 100000 in
set_option maxHeartbeats 8000000 in
theorem merge_good (f : Nat) (g : Int → Int → Option Int) (hf : MF f g) (va vb : Value) (la lb : List Pt) (h1 : VR la) (h2 : VR lb) (W : World) (hA : Vc W va la) (hB : Vc W vb lb) :
    Calls Try.prog 87 #[va, vb, .func (.func f) #[] #[]] W (RetW W (mg g (la.length + lb.length) la lb)) := by
  obtain ⟨i0, hi, hz0, hz1, hz2⟩ := info_parts infoPart
  have l1 := vr_len h1; have l2 := vr_len h2
  have HR := vecright_v va la (by omega)
  rw [decide_eq_true h1] at HR
  have HR := Lib.hid HR
  have HS := vecright_v vb lb (by omega)
  rw [decide_eq_true h2] at HS
  have HS := Lib.hid HS
  have HA := Lib.hid hA; have HB := Lib.hid hB
  have H1 := Lib.hid h1; have H2 := Lib.hid h2; have HF := Lib.hid hf
  obtain ⟨a, A, ca, rfl, hnA, _, _⟩ := hA.form'
  obtain ⟨b, B, cb, rfl, hnB, _, _⟩ := hB.form'
  rw [← hnA] at l1 ⊢; rw [← hnB] at l2 ⊢
  obtain ⟨N, hN⟩ : ∃ N, N = A + B := ⟨_, rfl⟩
  have wN : IntKind.i64.wrap ((A : Int) + (B : Int)) = (N : Int) := by rw [IntWalk.i64_in _ (by omega)]; omega
  have hmk : ∀ w : World, (Instr.makeSlice 32 (.int .i64 0) (.int .i64 (N : Int))).run Try.prog w = .ok (.slice (some ⟨w.heap.size, 0, none⟩) 0 N) (w.alloc (.cells (madeCells #[.int .i64 0, .int .i64 0, .int .i64 0] (N * 3)) 57)) := fun w => by
    have := run_make (P := Try.prog) w 32 57 i0 _ Try.underlying32 hi hz0 .i64 .i64 0 (N : Int) (by omega) (by omega) (by rw [hz2]; omega) (by omega)
    rw [hz1] at this
    exact this
  have HN := Lib.hid (show mg g (la.length + lb.length) la lb = mg g N la lb by rw [hN, hnA, hnB])
  have HMK := Lib.hid (show ∀ w : World, W.heap.size ≤ w.heap.size → (w.alloc (.cells (madeCells #[.int .i64 0, .int .i64 0, .int .i64 0] (N * 3)) 57)).ownsRow W.heap.size 57 3 (.slice (some ⟨w.heap.size, 0, none⟩) 0 N) 0 [] from fun w hw => World.ownsRow_made w _ N hw (by unfold maxLen; omega) (size_madeCells _ _))
  have HL := Lib.hid (show la.length + lb.length ≤ N by omega)
  rw [← hN]
  have HNA := Lib.hid hnA; have HNB := Lib.hid hnB; have HNN := Lib.hid hN
  have l3 : N ≤ 264 := by omega
  clear hA hB h1 h2 hf hnA hnB hN
  go_enter Try.func87, Try.ntmps87
  go_wp2_with fail
  (with_reducible refine (HR.out.app _ HA.out).mono ?_)
  rintro e w1 ⟨rfl, hb1⟩
  have hs1 : W.heap.size + 0 ≤ w1.heap.size := (by have h := hb1.size; first | omega | (simp at h; omega))
  obtain ⟨hc1, hf1, hl1⟩ := bcell hb1
  clear hl1
  go_wp2_with fail
  (with_reducible refine (HS.out.app _ (HB.out.on (by (repeat (first | assumption | exact Below.refl _ _ | refine ba ?_ _ | refine bd ?_ | refine bdn ?_ _ | refine bs ?_ (by first | omega | (simp; done) | (simp; omega)) _ | refine bt ?_ (by assumption)))))).mono ?_)
  rintro e w2 ⟨rfl, hb2⟩
  have hs2 : w1.heap.size + 0 ≤ w2.heap.size := (by have h := hb2.size; first | omega | (simp at h; omega))
  have hb1_2 := bel hb1 hb2 (by (repeat (first | assumption | exact Below.refl _ _ | refine ba ?_ _ | refine bd ?_ | refine bdn ?_ _ | refine bs ?_ (by first | omega | (simp; done) | (simp; omega)) _ | refine bt ?_ (by assumption))))
  clear hc1 hf1
  obtain ⟨hc2, hf2, hl2⟩ := bcell hb2
  clear hl2
  go_wp2
  have HB0 := Lib.hid (show Below W.heap.size W w2 by (repeat (first | assumption | exact Below.refl _ _ | refine ba ?_ _ | refine bd ?_ | refine bdn ?_ _ | refine bs ?_ (by first | omega | (simp; done) | (simp; omega)) _ | refine bt ?_ (by assumption))))
  go_loopw [0, 1, 8] (fun xv yv v wr => ∃ xa xb acc n, Hid (MS W wr g (mg g N la lb) N xv yv v xa xb acc n)) (fun xv yv _ _ => lenOf xv + lenOf yv)
  case atStart =>
    exact ⟨la, lb, [], N, Lib.hid ⟨HA.out, HB.out, H1.out, H2.out, HL.out, HMK.out w2 HB0.out.size, by cases mg g N la lb <;> simp, by have := HL.out; simpa using this, HB0.out.alloc HB0.out.size _⟩⟩
  case round =>
    obtain ⟨xa, xb, acc, n, HS⟩ := hrel
    obtain ⟨w3, rfl⟩ : ∃ w3, w3 = wr := ⟨_, rfl⟩
    have hb3 := HS.out.bel
    clear HA HB H1 H2 HR HMK HB0 HL
    have hs3 : W.heap.size + 0 ≤ w3.heap.size := (by have h := hb3.size; first | omega | (simp at h; omega))
    obtain ⟨hc3, hf3, hl3⟩ := bcell hb3
    clear hl3
    by_cases hne : xa = [] ∧ xb = []
    · obtain ⟨rfl, rfl⟩ := hne
      obtain ⟨a1, c1, rfl⟩ := HS.out.a.empty
      obtain ⟨a2, c2, rfl⟩ := HS.out.b.empty
      have HT : mg g N la lb = some acc := by have := HS.out.mg; rw [mg_nil] at this; simpa using this
      go_wp2
      go_ret2
      exact RetW.some HT HS.out.own (by (repeat (first | assumption | exact Below.refl _ _ | refine ba ?_ _ | refine bd ?_ | refine bdn ?_ _ | refine bs ?_ (by first | omega | (simp; done) | (simp; omega)) _ | refine bt ?_ (by assumption))))
    · obtain ⟨a1, n1, c1, rfl, hn1, _, _⟩ := HS.out.a.form'
      obtain ⟨a2, n2, c2, rfl, hn2, _, _⟩ := HS.out.b.form'
      have hpos : n1 = 0 ∧ 0 < n2 ∨ 0 < n1 := by
        by_cases h0 : n1 = 0
        · left
          refine ⟨h0, ?_⟩
          by_cases h3 : n2 = 0
          · exact absurd ⟨List.eq_nil_of_length_eq_zero (by omega), List.eq_nil_of_length_eq_zero (by omega)⟩ hne
          · omega
        · right; omega
      obtain ⟨hL, hsa, hsb, hlen⟩ := fst2_le HS.out.ra HS.out.rb hne
      have e1 := nxT_gt HS.out.ra _ hsa hL
      have e2 := nxT_gt HS.out.rb _ hsb hL
      have r1 : 0 ≤ nxA xa (fst2 xa xb) ∧ nxA xa (fst2 xa xb) ≤ 9007199254740992 := by rw [e1.2.1]; exact gt_nn HS.out.ra _ _
      have r2 : 0 ≤ nxA xb (fst2 xa xb) ∧ nxA xb (fst2 xa xb) ≤ 9007199254740992 := by rw [e2.2.1]; exact gt_nn HS.out.rb _ _
      obtain ⟨m, rfl⟩ : ∃ m, n = m + 1 := ⟨n - 1, by have := HS.out.hn; omega⟩
      have hmg : mg g (m + 1) xa xb = match g (nxA xa (fst2 xa xb)) (nxA xb (fst2 xa xb)) with
        | none => none
        | some z => (mg g m (nxT xa (fst2 xa xb)) (nxT xb (fst2 xa xb))).map fun o => if 0 < z then ((fst2 xa xb).1, (fst2 xa xb).2, z) :: o else o := by rw [mg, if_neg hne]; cases g (nxA xa (fst2 xa xb)) (nxA xb (fst2 xa xb)) <;> rfl
      have K1 := fun w (h : Below W.heap.size W w) => first_v _ _ xa xb hne w (HS.out.a.on h) (HS.out.b.on h)
      have V1 := e1.1; have V2 := e2.1
      clear e1 e2 hsa hsb hL
      generalize fst2 xa xb = s at *
      obtain ⟨s1, s2⟩ := s
      have K2 := fun w (h : Below W.heap.size W w) => next_v _ xa (s1, s2) w (HS.out.a.on h)
      have K3 := fun w (h : Below W.heap.size W w) => next_v _ xb (s1, s2) w (HS.out.b.on h)
      have A2 := HS.out.a.tl (s1, s2)
      have B2 := HS.out.b.tl (s1, s2)
      have ml : lenOf (tlV (.slice a1 n1 c1) xa (s1, s2)) + lenOf (tlV (.slice a2 n2 c2) xb (s1, s2)) < n1 + n2 := by rw [A2.len, B2.len, hn1, hn2]; exact hlen
      generalize nxA xa (s1, s2) = x at *
      generalize nxA xb (s1, s2) = y at *
      generalize hva' : tlV (.slice a1 n1 c1) xa (s1, s2) = va' at *
      generalize hvb' : tlV (.slice a2 n2 c2) xb (s1, s2) = vb' at *
      obtain ⟨x0, x1⟩ := r1; obtain ⟨y0, y1⟩ := r2
      have K1 := Lib.hid K1; have K2 := Lib.hid K2; have K3 := Lib.hid K3
      have A2 := Lib.hid A2; have B2 := Lib.hid B2; have V1 := Lib.hid V1; have V2 := Lib.hid V2
      have HLEN := Lib.hid hlen; have HM := Lib.hid hmg; have HX := Lib.hid (And.intro (And.intro x0 x1) (And.intro y0 y1)); have ML := Lib.hid ml
      clear hne hlen hmg hva' hvb' x0 x1 y0 y1 ml hn1 hn2
      have hcf := HF.out.cf x y
      cases hg : g x y with
      | none =>
        obtain ⟨c, HC⟩ := HF.out.no x y HX.out.1.1 HX.out.1.2 HX.out.2.1 HX.out.2.2 hg
        have HC := Lib.hid HC
        have HT := Lib.hid (show mg g N la lb = none by rw [HS.out.mg, HM.out, hg]; rfl)
        clear hg
        rcases hpos with ⟨rfl, hp⟩ | hp
        all_goals
          go_wp2_with fail
          (with_reducible refine (K1.out _ (by (repeat (first | assumption | exact Below.refl _ _ | refine ba ?_ _ | refine bd ?_ | refine bdn ?_ _ | refine bs ?_ (by first | omega | (simp; done) | (simp; omega)) _ | refine bt ?_ (by assumption))))).mono ?_)
          rintro e w4 ⟨rfl, hb4⟩
          have hs4 : w3.heap.size + 0 ≤ w4.heap.size := (by have h := hb4.size; first | omega | (simp at h; omega))
          have hb3_4 := bel hb3 hb4 (by (repeat (first | assumption | exact Below.refl _ _ | refine ba ?_ _ | refine bd ?_ | refine bdn ?_ _ | refine bs ?_ (by first | omega | (simp; done) | (simp; omega)) _ | refine bt ?_ (by assumption))))
          clear hc3 hf3
          obtain ⟨hc4, hf4, hl4⟩ := bcell hb4
          clear hl4
          go_wp2_with fail
          (with_reducible refine (K2.out _ (by (repeat (first | assumption | exact Below.refl _ _ | refine ba ?_ _ | refine bd ?_ | refine bdn ?_ _ | refine bs ?_ (by first | omega | (simp; done) | (simp; omega)) _ | refine bt ?_ (by assumption))))).mono ?_)
          rintro e w5 ⟨rfl, hb5⟩
          have hs5 : w4.heap.size + 1 ≤ w5.heap.size := (by have h := hb5.size; first | omega | (simp at h; omega))
          have hb3_5 := bel hb3_4 hb5 (by (repeat (first | assumption | exact Below.refl _ _ | refine ba ?_ _ | refine bd ?_ | refine bdn ?_ _ | refine bs ?_ (by first | omega | (simp; done) | (simp; omega)) _ | refine bt ?_ (by assumption))))
          have hb4_5 := bel hb4 hb5 (by (repeat (first | assumption | exact Below.refl _ _ | refine ba ?_ _ | refine bd ?_ | refine bdn ?_ _ | refine bs ?_ (by first | omega | (simp; done) | (simp; omega)) _ | refine bt ?_ (by assumption))))
          clear hc4 hf4
          have hz5_0 : w4.heap.size < w5.heap.size := (by omega)
          obtain ⟨hc5, hf5, hl5⟩ := bcell hb5
          clear hl5
          go_wp2_with fail
          (with_reducible refine (K3.out _ (by (repeat (first | assumption | exact Below.refl _ _ | refine ba ?_ _ | refine bd ?_ | refine bdn ?_ _ | refine bs ?_ (by first | omega | (simp; done) | (simp; omega)) _ | refine bt ?_ (by assumption))))).mono ?_)
          rintro e w6 ⟨rfl, hb6⟩
          have hs6 : w5.heap.size + 0 ≤ w6.heap.size := (by have h := hb6.size; first | omega | (simp at h; omega))
          have hb3_6 := bel hb3_5 hb6 (by (repeat (first | assumption | exact Below.refl _ _ | refine ba ?_ _ | refine bd ?_ | refine bdn ?_ _ | refine bs ?_ (by first | omega | (simp; done) | (simp; omega)) _ | refine bt ?_ (by assumption))))
          have hb4_6 := bel hb4_5 hb6 (by (repeat (first | assumption | exact Below.refl _ _ | refine ba ?_ _ | refine bd ?_ | refine bdn ?_ _ | refine bs ?_ (by first | omega | (simp; done) | (simp; omega)) _ | refine bt ?_ (by assumption))))
          have hb5_6 := bel hb5 hb6 (by (repeat (first | assumption | exact Below.refl _ _ | refine ba ?_ _ | refine bd ?_ | refine bdn ?_ _ | refine bs ?_ (by first | omega | (simp; done) | (simp; omega)) _ | refine bt ?_ (by assumption))))
          clear hz5_0 hc5 hf5
          obtain ⟨hc5_6, hf5_6, hl5_6⟩ := bcell hb5_6
          clear hl5_6
          have hz6_0 : w4.heap.size < w6.heap.size := (by omega)
          obtain ⟨hc6, hf6, hl6⟩ := bcell hb6
          clear hl6
          go_wp2_with fail
          (with_reducible refine (HC.out _).mono ?_)
          rintro e w7 ⟨rfl, hb7⟩
          have hs7 : w6.heap.size + 0 ≤ w7.heap.size := (by have h := hb7.size; first | omega | (simp at h; omega))
          have hb3_7 := bel hb3_6 hb7 (by (repeat (first | assumption | exact Below.refl _ _ | refine ba ?_ _ | refine bd ?_ | refine bdn ?_ _ | refine bs ?_ (by first | omega | (simp; done) | (simp; omega)) _ | refine bt ?_ (by assumption))))
          have hb4_7 := bel hb4_6 hb7 (by (repeat (first | assumption | exact Below.refl _ _ | refine ba ?_ _ | refine bd ?_ | refine bdn ?_ _ | refine bs ?_ (by first | omega | (simp; done) | (simp; omega)) _ | refine bt ?_ (by assumption))))
          have hb5_7 := bel hb5_6 hb7 (by (repeat (first | assumption | exact Below.refl _ _ | refine ba ?_ _ | refine bd ?_ | refine bdn ?_ _ | refine bs ?_ (by first | omega | (simp; done) | (simp; omega)) _ | refine bt ?_ (by assumption))))
          have hb6_7 := bel hb6 hb7 (by (repeat (first | assumption | exact Below.refl _ _ | refine ba ?_ _ | refine bd ?_ | refine bdn ?_ _ | refine bs ?_ (by first | omega | (simp; done) | (simp; omega)) _ | refine bt ?_ (by assumption))))
          clear hc5_6 hf5_6 hz6_0 hc6 hf6
          obtain ⟨hc5_7, hf5_7, hl5_7⟩ := bcell hb5_7
          clear hl5_7
          have hz7_0 : w4.heap.size < w7.heap.size := (by omega)
          obtain ⟨hc7, hf7, hl7⟩ := bcell hb7
          clear hl7
          go_wp2
          go_ret2
          exact RetW.none HT.out (by (repeat (first | assumption | exact Below.refl _ _ | refine ba ?_ _ | refine bd ?_ | refine bdn ?_ _ | refine bs ?_ (by first | omega | (simp; done) | (simp; omega)) _ | refine bt ?_ (by assumption))))
      | some z =>
        have HC := Lib.hid (HF.out.yes x y z HX.out.1.1 HX.out.1.2 HX.out.2.1 HX.out.2.2 hg)
        have HZ := Lib.hid (HF.out.b x y z HX.out.1.1 HX.out.1.2 HX.out.2.1 HX.out.2.2 hg)
        have HT := Lib.hid (show mg g N la lb = (mg g m (nxT xa (s1, s2)) (nxT xb (s1, s2))).map fun o => acc ++ (if 0 < z then (s1, s2, z) :: o else o) by
          rw [HS.out.mg, HM.out, hg]; simp [Option.map_map, Function.comp_def])
        have HPt := Lib.hid (part_any s1 s2 z)
        have hcap := HS.out.cap
        clear hg
        by_cases hz : 0 < z
        · rcases hpos with ⟨rfl, hp⟩ | hp
          all_goals
            go_wp2_with fail
            (with_reducible refine (K1.out _ (by (repeat (first | assumption | exact Below.refl _ _ | refine ba ?_ _ | refine bd ?_ | refine bdn ?_ _ | refine bs ?_ (by first | omega | (simp; done) | (simp; omega)) _ | refine bt ?_ (by assumption))))).mono ?_)
            rintro e w4 ⟨rfl, hb4⟩
            have hs4 : w3.heap.size + 0 ≤ w4.heap.size := (by have h := hb4.size; first | omega | (simp at h; omega))
            have hb3_4 := bel hb3 hb4 (by (repeat (first | assumption | exact Below.refl _ _ | refine ba ?_ _ | refine bd ?_ | refine bdn ?_ _ | refine bs ?_ (by first | omega | (simp; done) | (simp; omega)) _ | refine bt ?_ (by assumption))))
            clear hc3 hf3
            obtain ⟨hc4, hf4, hl4⟩ := bcell hb4
            clear hl4
            go_wp2_with fail
            (with_reducible refine (K2.out _ (by (repeat (first | assumption | exact Below.refl _ _ | refine ba ?_ _ | refine bd ?_ | refine bdn ?_ _ | refine bs ?_ (by first | omega | (simp; done) | (simp; omega)) _ | refine bt ?_ (by assumption))))).mono ?_)
            rintro e w5 ⟨rfl, hb5⟩
            have hs5 : w4.heap.size + 1 ≤ w5.heap.size := (by have h := hb5.size; first | omega | (simp at h; omega))
            have hb3_5 := bel hb3_4 hb5 (by (repeat (first | assumption | exact Below.refl _ _ | refine ba ?_ _ | refine bd ?_ | refine bdn ?_ _ | refine bs ?_ (by first | omega | (simp; done) | (simp; omega)) _ | refine bt ?_ (by assumption))))
            have hb4_5 := bel hb4 hb5 (by (repeat (first | assumption | exact Below.refl _ _ | refine ba ?_ _ | refine bd ?_ | refine bdn ?_ _ | refine bs ?_ (by first | omega | (simp; done) | (simp; omega)) _ | refine bt ?_ (by assumption))))
            clear hc4 hf4
            have hz5_0 : w4.heap.size < w5.heap.size := (by omega)
            obtain ⟨hc5, hf5, hl5⟩ := bcell hb5
            clear hl5
            go_wp2_with fail
            (with_reducible refine (K3.out _ (by (repeat (first | assumption | exact Below.refl _ _ | refine ba ?_ _ | refine bd ?_ | refine bdn ?_ _ | refine bs ?_ (by first | omega | (simp; done) | (simp; omega)) _ | refine bt ?_ (by assumption))))).mono ?_)
            rintro e w6 ⟨rfl, hb6⟩
            have hs6 : w5.heap.size + 0 ≤ w6.heap.size := (by have h := hb6.size; first | omega | (simp at h; omega))
            have hb3_6 := bel hb3_5 hb6 (by (repeat (first | assumption | exact Below.refl _ _ | refine ba ?_ _ | refine bd ?_ | refine bdn ?_ _ | refine bs ?_ (by first | omega | (simp; done) | (simp; omega)) _ | refine bt ?_ (by assumption))))
            have hb4_6 := bel hb4_5 hb6 (by (repeat (first | assumption | exact Below.refl _ _ | refine ba ?_ _ | refine bd ?_ | refine bdn ?_ _ | refine bs ?_ (by first | omega | (simp; done) | (simp; omega)) _ | refine bt ?_ (by assumption))))
            have hb5_6 := bel hb5 hb6 (by (repeat (first | assumption | exact Below.refl _ _ | refine ba ?_ _ | refine bd ?_ | refine bdn ?_ _ | refine bs ?_ (by first | omega | (simp; done) | (simp; omega)) _ | refine bt ?_ (by assumption))))
            clear hz5_0 hc5 hf5
            obtain ⟨hc5_6, hf5_6, hl5_6⟩ := bcell hb5_6
            clear hl5_6
            have hz6_0 : w4.heap.size < w6.heap.size := (by omega)
            obtain ⟨hc6, hf6, hl6⟩ := bcell hb6
            clear hl6
            go_wp2_with fail
            (with_reducible refine (HC.out _).mono ?_)
            rintro e w7 ⟨rfl, hb7⟩
            have hs7 : w6.heap.size + 0 ≤ w7.heap.size := (by have h := hb7.size; first | omega | (simp at h; omega))
            have hb3_7 := bel hb3_6 hb7 (by (repeat (first | assumption | exact Below.refl _ _ | refine ba ?_ _ | refine bd ?_ | refine bdn ?_ _ | refine bs ?_ (by first | omega | (simp; done) | (simp; omega)) _ | refine bt ?_ (by assumption))))
            have hb4_7 := bel hb4_6 hb7 (by (repeat (first | assumption | exact Below.refl _ _ | refine ba ?_ _ | refine bd ?_ | refine bdn ?_ _ | refine bs ?_ (by first | omega | (simp; done) | (simp; omega)) _ | refine bt ?_ (by assumption))))
            have hb5_7 := bel hb5_6 hb7 (by (repeat (first | assumption | exact Below.refl _ _ | refine ba ?_ _ | refine bd ?_ | refine bdn ?_ _ | refine bs ?_ (by first | omega | (simp; done) | (simp; omega)) _ | refine bt ?_ (by assumption))))
            have hb6_7 := bel hb6 hb7 (by (repeat (first | assumption | exact Below.refl _ _ | refine ba ?_ _ | refine bd ?_ | refine bdn ?_ _ | refine bs ?_ (by first | omega | (simp; done) | (simp; omega)) _ | refine bt ?_ (by assumption))))
            clear hc5_6 hf5_6 hz6_0 hc6 hf6
            obtain ⟨hc5_7, hf5_7, hl5_7⟩ := bcell hb5_7
            clear hl5_7
            have hz7_0 : w4.heap.size < w7.heap.size := (by omega)
            obtain ⟨hc7, hf7, hl7⟩ := bcell hb7
            clear hl7
            go_wp2_with fail
            (with_reducible refine (HPt.out _).mono ?_)
            rintro e w8 ⟨rfl, hb8⟩
            have hs8 : w7.heap.size + 0 ≤ w8.heap.size := (by have h := hb8.size; first | omega | (simp at h; omega))
            have hb3_8 := bel hb3_7 hb8 (by (repeat (first | assumption | exact Below.refl _ _ | refine ba ?_ _ | refine bd ?_ | refine bdn ?_ _ | refine bs ?_ (by first | omega | (simp; done) | (simp; omega)) _ | refine bt ?_ (by assumption))))
            have hb4_8 := bel hb4_7 hb8 (by (repeat (first | assumption | exact Below.refl _ _ | refine ba ?_ _ | refine bd ?_ | refine bdn ?_ _ | refine bs ?_ (by first | omega | (simp; done) | (simp; omega)) _ | refine bt ?_ (by assumption))))
            have hb5_8 := bel hb5_7 hb8 (by (repeat (first | assumption | exact Below.refl _ _ | refine ba ?_ _ | refine bd ?_ | refine bdn ?_ _ | refine bs ?_ (by first | omega | (simp; done) | (simp; omega)) _ | refine bt ?_ (by assumption))))
            have hb6_8 := bel hb6_7 hb8 (by (repeat (first | assumption | exact Below.refl _ _ | refine ba ?_ _ | refine bd ?_ | refine bdn ?_ _ | refine bs ?_ (by first | omega | (simp; done) | (simp; omega)) _ | refine bt ?_ (by assumption))))
            have hb7_8 := bel hb7 hb8 (by (repeat (first | assumption | exact Below.refl _ _ | refine ba ?_ _ | refine bd ?_ | refine bdn ?_ _ | refine bs ?_ (by first | omega | (simp; done) | (simp; omega)) _ | refine bt ?_ (by assumption))))
            clear hc5_7 hf5_7 hz7_0 hc7 hf7
            obtain ⟨hc5_8, hf5_8, hl5_8⟩ := bcell hb5_8
            clear hl5_8
            have hz8_0 : w4.heap.size < w8.heap.size := (by omega)
            obtain ⟨hc8, hf8, hl8⟩ := bcell hb8
            clear hl8
            have HB8 := Lib.hid (show Below w3.heap.size w3 w8 by (repeat (first | assumption | exact Below.refl _ _ | refine ba ?_ _ | refine bd ?_ | refine bdn ?_ _ | refine bs ?_ (by first | omega | (simp; done) | (simp; omega)) _ | refine bt ?_ (by assumption))))
            have HB9 := Lib.hid (show Below W.heap.size W w8 by (repeat (first | assumption | exact Below.refl _ _ | refine ba ?_ _ | refine bd ?_ | refine bdn ?_ _ | refine bs ?_ (by first | omega | (simp; done) | (simp; omega)) _ | refine bt ?_ (by assumption))))
            have HO8 := Lib.hid (rowP_grow HS.out.own HB8.out)
            go_wp2_with (at_builtin; refine wpList_append_own _ rfl _ _ 32 rfl W.heap.size 57 i0 (.agg #[.int .i64 0, .int .i64 0, .int .i64 0]) 3 24 Try.underlying32 hi hz0 hz1 hz2 rfl (by decide) _ _ _ rfl (HO8.out.alloc _) ⟨_, 0, none⟩ 1 1 [.int .i64 s1, .int .i64 s2, .int .i64 z] rfl rfl ?c1 ?c2 ?c3 ?c4 ?c5 ?_)
            case c1 => intro q u' hq; rcases q with _ | _ | _ | q <;> simp at hq <;> subst hq <;> simp [Addr.add, go_sem]
            case c2 => intro u' hu; simp at hu; rcases hu with rfl | rfl | rfl <;> rfl
            case c3 => unfold maxLen; omega
            case c4 => omega
            case c5 => simp; omega
            intro v' w9 hown' hgrow _
            have hb9 := own_more3 HO8.out HB9.out hgrow
            go_wp2
            go_roundw
            case rel =>
              refine ⟨nxT xa (s1, s2), nxT xb (s1, s2), acc ++ [(s1, s2, z)], m, Lib.hid ⟨A2.out, B2.out, V1.out, V2.out, by have := HLEN.out; have := HS.out.hn; omega, by rw [OwnP, pcells_append, List.length_append]; exact hown', ?_, by have := HLEN.out; simp; omega, hb9⟩⟩
              rw [HT.out]
              congr 1
              funext o
              rw [if_pos hz]; simp
            case measure => exact ML.out
        · have hz0' : z ≤ 0 := by omega
          rcases hpos with ⟨rfl, hp⟩ | hp
          all_goals
            go_wp2_with fail
            (with_reducible refine (K1.out _ (by (repeat (first | assumption | exact Below.refl _ _ | refine ba ?_ _ | refine bd ?_ | refine bdn ?_ _ | refine bs ?_ (by first | omega | (simp; done) | (simp; omega)) _ | refine bt ?_ (by assumption))))).mono ?_)
            rintro e w4 ⟨rfl, hb4⟩
            have hs4 : w3.heap.size + 0 ≤ w4.heap.size := (by have h := hb4.size; first | omega | (simp at h; omega))
            have hb3_4 := bel hb3 hb4 (by (repeat (first | assumption | exact Below.refl _ _ | refine ba ?_ _ | refine bd ?_ | refine bdn ?_ _ | refine bs ?_ (by first | omega | (simp; done) | (simp; omega)) _ | refine bt ?_ (by assumption))))
            clear hc3 hf3
            obtain ⟨hc4, hf4, hl4⟩ := bcell hb4
            clear hl4
            go_wp2_with fail
            (with_reducible refine (K2.out _ (by (repeat (first | assumption | exact Below.refl _ _ | refine ba ?_ _ | refine bd ?_ | refine bdn ?_ _ | refine bs ?_ (by first | omega | (simp; done) | (simp; omega)) _ | refine bt ?_ (by assumption))))).mono ?_)
            rintro e w5 ⟨rfl, hb5⟩
            have hs5 : w4.heap.size + 1 ≤ w5.heap.size := (by have h := hb5.size; first | omega | (simp at h; omega))
            have hb3_5 := bel hb3_4 hb5 (by (repeat (first | assumption | exact Below.refl _ _ | refine ba ?_ _ | refine bd ?_ | refine bdn ?_ _ | refine bs ?_ (by first | omega | (simp; done) | (simp; omega)) _ | refine bt ?_ (by assumption))))
            have hb4_5 := bel hb4 hb5 (by (repeat (first | assumption | exact Below.refl _ _ | refine ba ?_ _ | refine bd ?_ | refine bdn ?_ _ | refine bs ?_ (by first | omega | (simp; done) | (simp; omega)) _ | refine bt ?_ (by assumption))))
            clear hc4 hf4
            have hz5_0 : w4.heap.size < w5.heap.size := (by omega)
            obtain ⟨hc5, hf5, hl5⟩ := bcell hb5
            clear hl5
            go_wp2_with fail
            (with_reducible refine (K3.out _ (by (repeat (first | assumption | exact Below.refl _ _ | refine ba ?_ _ | refine bd ?_ | refine bdn ?_ _ | refine bs ?_ (by first | omega | (simp; done) | (simp; omega)) _ | refine bt ?_ (by assumption))))).mono ?_)
            rintro e w6 ⟨rfl, hb6⟩
            have hs6 : w5.heap.size + 0 ≤ w6.heap.size := (by have h := hb6.size; first | omega | (simp at h; omega))
            have hb3_6 := bel hb3_5 hb6 (by (repeat (first | assumption | exact Below.refl _ _ | refine ba ?_ _ | refine bd ?_ | refine bdn ?_ _ | refine bs ?_ (by first | omega | (simp; done) | (simp; omega)) _ | refine bt ?_ (by assumption))))
            have hb4_6 := bel hb4_5 hb6 (by (repeat (first | assumption | exact Below.refl _ _ | refine ba ?_ _ | refine bd ?_ | refine bdn ?_ _ | refine bs ?_ (by first | omega | (simp; done) | (simp; omega)) _ | refine bt ?_ (by assumption))))
            have hb5_6 := bel hb5 hb6 (by (repeat (first | assumption | exact Below.refl _ _ | refine ba ?_ _ | refine bd ?_ | refine bdn ?_ _ | refine bs ?_ (by first | omega | (simp; done) | (simp; omega)) _ | refine bt ?_ (by assumption))))
            clear hz5_0 hc5 hf5
            obtain ⟨hc5_6, hf5_6, hl5_6⟩ := bcell hb5_6
            clear hl5_6
            have hz6_0 : w4.heap.size < w6.heap.size := (by omega)
            obtain ⟨hc6, hf6, hl6⟩ := bcell hb6
            clear hl6
            go_wp2_with fail
            (with_reducible refine (HC.out _).mono ?_)
            rintro e w7 ⟨rfl, hb7⟩
            have hs7 : w6.heap.size + 0 ≤ w7.heap.size := (by have h := hb7.size; first | omega | (simp at h; omega))
            have hb3_7 := bel hb3_6 hb7 (by (repeat (first | assumption | exact Below.refl _ _ | refine ba ?_ _ | refine bd ?_ | refine bdn ?_ _ | refine bs ?_ (by first | omega | (simp; done) | (simp; omega)) _ | refine bt ?_ (by assumption))))
            have hb4_7 := bel hb4_6 hb7 (by (repeat (first | assumption | exact Below.refl _ _ | refine ba ?_ _ | refine bd ?_ | refine bdn ?_ _ | refine bs ?_ (by first | omega | (simp; done) | (simp; omega)) _ | refine bt ?_ (by assumption))))
            have hb5_7 := bel hb5_6 hb7 (by (repeat (first | assumption | exact Below.refl _ _ | refine ba ?_ _ | refine bd ?_ | refine bdn ?_ _ | refine bs ?_ (by first | omega | (simp; done) | (simp; omega)) _ | refine bt ?_ (by assumption))))
            have hb6_7 := bel hb6 hb7 (by (repeat (first | assumption | exact Below.refl _ _ | refine ba ?_ _ | refine bd ?_ | refine bdn ?_ _ | refine bs ?_ (by first | omega | (simp; done) | (simp; omega)) _ | refine bt ?_ (by assumption))))
            clear hc5_6 hf5_6 hz6_0 hc6 hf6
            obtain ⟨hc5_7, hf5_7, hl5_7⟩ := bcell hb5_7
            clear hl5_7
            have hz7_0 : w4.heap.size < w7.heap.size := (by omega)
            obtain ⟨hc7, hf7, hl7⟩ := bcell hb7
            clear hl7
            go_wp2
            have HB8 := Lib.hid (show Below w3.heap.size w3 w7 by (repeat (first | assumption | exact Below.refl _ _ | refine ba ?_ _ | refine bd ?_ | refine bdn ?_ _ | refine bs ?_ (by first | omega | (simp; done) | (simp; omega)) _ | refine bt ?_ (by assumption))))
            go_roundw
            case rel =>
              refine ⟨nxT xa (s1, s2), nxT xb (s1, s2), acc, m, Lib.hid ⟨A2.out, B2.out, V1.out, V2.out, by have := HLEN.out; have := HS.out.hn; omega, rowP_grow HS.out.own HB8.out, ?_, by have := HLEN.out; omega, by (repeat (first | assumption | exact Below.refl _ _ | refine ba ?_ _ | refine bd ?_ | refine bdn ?_ _ | refine bs ?_ (by first | omega | (simp; done) | (simp; omega)) _ | refine bt ?_ (by assumption)))⟩⟩
              rw [HT.out]
              congr 1
              funext o
              rw [if_neg (by omega)]
            case measure => exact ML.out
end Go.Proofs.Ytennhfkhdfalfaa

/- filters: Put. -/
import Derived.Test.YtennhfkhdfalfaaFi7
import Derived.Test.YtennhfkhdfalfaaSrt0
import Derived.Test.YtennhfkhdfalfaaVecN
namespace Go.Proofs.Ytennhfkhdfalfaa
open Go.RowKit Go.Maps
attribute [local go_sem] ext_cell ext_frozen extC_cell extC_frozen Mix.calmUpon Mix.mUpon
/-- May a filter be put in? -/
abbrev PArg (f : Pf) : Prop := 1 ≤ f.1 ∧ 1 ≤ f.2.1 ∧ 0 ≤ f.2.2.1 ∧ f.2.2.2 ≠ [] ∧ VR f.2.2.2
def putP (cap : Int) (S : List Pf) (f : Pf) : List Pf := if PArg f then (if f ∈ S then S else if cap ≤ (S.length : Int) then S else S ++ [f]) else S
def putE (cap : Int) (S : List Pf) (f : Pf) : Int := if PArg f then (if f ∈ S then 0 else if cap ≤ (S.length : Int) then 32 else 0) else 41
/-- What a table is made of. -/
def TO (o : Obj) : Prop := (∃ c z, o = .cells c 92 z) ∨ (∃ c z, o = .cells c 134 z) ∨ (∃ c z, o = .cells c 72 z) ∨ ∃ es cl, o = .map es cl
/-- The blocks that a table may turn: newer than W, and of what a table is made of. -/
def FrG (W w : World) (k : Nat) : Prop := W.heap.size ≤ k ∧ ∃ o, w.heap[k]? = some o ∧ TO o
theorem FrG.trans {W a b c : World} (h1 : Chg (FrG W a) a b) (h2 : Chg (FrG W b) b c) : Chg (FrG W a) a c := by
  refine h1.trans h2 fun k hk => ?_
  by_cases h : k < a.heap.size
  · by_cases hg : FrG W a k
    · exact .inl hg
    · obtain ⟨h3, o, h4, h5⟩ := hk
      exact .inl ⟨h3, o, (h1.block k h hg).symm.trans h4, h5⟩
  · exact .inr (by omega)
/-- Parts are none of it. -/
theorem FrG.parts {W w : World} {base n : Nat} {v : Value} {xs : List Value} {q : Nat} (h : w.ownsRow base 57 3 v n xs) (hq : v.ownBlock = some q) : ¬ FrG W w q := by
  obtain ⟨c, z, e⟩ := row_obj h hq
  rintro ⟨_, o, h1, h2⟩
  rw [e] at h1
  cases h1
  rcases h2 with ⟨_, _, h⟩ | ⟨_, _, h⟩ | ⟨_, _, h⟩ | ⟨_, _, h⟩
  · exact absurd (Obj.cells.inj h).2.1 (by decide)
  · exact absurd (Obj.cells.inj h).2.1 (by decide)
  · exact absurd (Obj.cells.inj h).2.1 (by decide)
  · cases h
/-- The blocks of a table, as F tells them. -/
def TB (tp M : Nat) (F : K2 → Option Fx) (q : Nat) : Prop := q = tp ∨ q = M ∨ ∃ k x, F k = some x ∧ (q = x.b ∨ OBf x.v q)
/-- A table whose blocks were those that F tells, or are new; it alone was turned. -/
def RP (W w w' : World) (tp M : Nat) (cap : Int) (F : K2 → Option Fx) (S : List Pf) : Prop := ∃ F', FT W w' tp M cap F' S ∧ (∀ q, TB tp M F' q → TB tp M F q ∨ w.heap.size ≤ q) ∧ Chg (TB tp M F) w w'
/-- A table, whatever its lists in memory. -/
def FP (W w : World) (tp M : Nat) (cap : Int) (S : List Pf) : Prop := ∃ F, FT W w tp M cap F S
/-- Block b is a variable that holds a key. -/
def KB2 (w : World) (b : Nat) (a c : Int) : Prop := w.heap[b]? = some (.cells #[.int .i64 a, .int .i64 c] 109 (0, 0))
section
variable {w w' : World} {b : Nat} {a c : Int}
theorem KB2.made (w : World) (a c : Int) : KB2 (w.alloc (.cells #[.int .i64 a, .int .i64 c] 109)) w.heap.size a c := heap_alloc_new w _
theorem KB2.lt (h : KB2 w b a c) : b < w.heap.size := (Array.getElem?_eq_some_iff.1 h).1
theorem KB2.chg {F : Nat → Prop} (h : KB2 w b a c) (hc : Chg F w w') (hf : ¬ F b) : KB2 w' b a c := (hc.block b h.lt hf).trans h
theorem KB2.below (h : KB2 w b a c) (hb : Below w.heap.size w w') : KB2 w' b a c := (hb.block b h.lt).trans h
theorem KB2.cells (h : KB2 w b a c) : w.cell? ⟨b, 0, none⟩ = some (.int .i64 a) ∧ w.cell? ⟨b, 1, none⟩ = some (.int .i64 c) := by unfold KB2 at h; simp [World.cell?, h]
end
theorem fk_mem {S : List Pf} {f : Pf} : f ∈ fk S (kx f) ↔ f ∈ S := by unfold fk; simp [List.mem_filter]
section
variable {W w : World} {tp M : Nat} {cap : Int} {F : K2 → Option Fx} {S : List Pf}
theorem FQ.frG (h : FQ W w tp M cap F S) {k : K2} {y : Fx} (hF : F k = some y) : ∀ q, (q = tp ∨ q = y.b ∨ OBf y.v q) → FrG W w q := by
  have hy := h.lst k y hF
  rintro q (e | e | e)
  · rw [e]; exact ⟨h.new.1, _, h.obj, .inl ⟨_, _, rfl⟩⟩
  · rw [e]; exact ⟨hy.new, _, hy.lb, .inr (.inl ⟨_, _, rfl⟩)⟩
  · obtain ⟨c', z', e3⟩ := row_obj hy.own e
    exact ⟨(hy.own.lt q e).1, _, e3, .inr (.inr (.inl ⟨_, _, rfl⟩))⟩
theorem FQ.frM (h : FQ W w tp M cap F S) : FrG W w M := by
  obtain ⟨es, cc, ho⟩ := MapF.obj h.map
  exact ⟨h.new.2, _, ho, .inr (.inr (.inr ⟨_, _, rfl⟩))⟩
-- a filter put to the end of the list y (its fields yb, ya ym yc, yl) of the table F1 in the world wz
set_option maxRecDepth 100000 in
set_option maxHeartbeats 4000000 in
theorem fputF (h : FT W w tp M cap F S) (x : Fl) (hx : Vc w x.vv x.ps) (hxl : x.ps.length < 1000000) (hsl : S.length < 900000) (hi : I64 x.fr ∧ I64 x.ag ∧ I64 x.ti) :
    Calls Try.prog 45 #[fptr tp, flval x] w fun e w' => e = .returned (.int .i64 (putE cap S x.pl)) ∧ RP W w w' tp M cap F (putP cap S x.pl) ∧ Chg (FrG W w) w w' := by
  obtain ⟨i, g, t, v, ps⟩ := x
  obtain ⟨va, vc, hvv, -, -⟩ := hx.form
  simp only at hvv hx hxl hi
  subst hvv
  obtain ⟨n, hn⟩ : ∃ n, n = ps.length := ⟨_, rfl⟩
  rw [← hn] at hx ⊢
  have HN := Lib.hid hn; have HI := Lib.hid hi; have HXL := Lib.hid hxl; have HSL := Lib.hid hsl; have HO0 := Lib.hid h
  clear hn hi hxl hsl
  show Calls _ _ _ _ (fun e w' => e = .returned (.int .i64 (putE cap S (i, g, t, ps))) ∧ RP W w w' tp M cap F (putP cap S (i, g, t, ps)) ∧ Chg (FrG W w) w w')
  by_cases k1 : i < 1
  · have HNO := Lib.hid (show ¬ PArg (i, g, t, ps) from fun h => by have := h.1; simp only at this; omega)
    have hb1 := ba (Below.refl w.heap.size w) (.cells #[.int .i64 i, .int .i64 g, .int .i64 t, .slice va n vc] 72)
    have HX := Lib.hid (FB.made w i g t (.slice va n vc))
    have HB1 := Lib.hid hb1
    have H1 := Lib.hid (h.below hb1)
    have HV1 := Lib.hid (hx.on hb1)
    clear hb1 h hx
    obtain ⟨x0, x1, x2, x3⟩ := HX.out.cells
    have x4 := HX.out.lt
    go_enter Try.func45, Try.ntmps45
    go_wp2_with fail
    refine (fmade H1.out.toFQ).mono ?_
    rintro e w2 ⟨rfl, hw2⟩
    rw [hw2]
    clear hw2 w2
    go_wp2
    go_ret
    refine ⟨by unfold putE; rw [if_neg HNO.out]; rfl, ⟨F, ?_, fun q h => .inl h, .of_below _ HB1.out⟩, .of_below _ HB1.out⟩
    unfold putP; rw [if_neg HNO.out]; exact H1.out
  by_cases k2 : g < 1
  · have HNO := Lib.hid (show ¬ PArg (i, g, t, ps) from fun h => by have := h.2.1; simp only at this; omega)
    have hb1 := ba (Below.refl w.heap.size w) (.cells #[.int .i64 i, .int .i64 g, .int .i64 t, .slice va n vc] 72)
    have HX := Lib.hid (FB.made w i g t (.slice va n vc))
    have HB1 := Lib.hid hb1
    have H1 := Lib.hid (h.below hb1)
    have HV1 := Lib.hid (hx.on hb1)
    clear hb1 h hx
    obtain ⟨x0, x1, x2, x3⟩ := HX.out.cells
    have x4 := HX.out.lt
    go_enter Try.func45, Try.ntmps45
    go_wp2_with fail
    refine (fmade H1.out.toFQ).mono ?_
    rintro e w2 ⟨rfl, hw2⟩
    rw [hw2]
    clear hw2 w2
    go_wp2
    go_ret
    refine ⟨by unfold putE; rw [if_neg HNO.out]; rfl, ⟨F, ?_, fun q h => .inl h, .of_below _ HB1.out⟩, .of_below _ HB1.out⟩
    unfold putP; rw [if_neg HNO.out]; exact H1.out
  by_cases k3 : t < 0
  · have HNO := Lib.hid (show ¬ PArg (i, g, t, ps) from fun h => by have := h.2.2.1; simp only at this; omega)
    have hb1 := ba (Below.refl w.heap.size w) (.cells #[.int .i64 i, .int .i64 g, .int .i64 t, .slice va n vc] 72)
    have HX := Lib.hid (FB.made w i g t (.slice va n vc))
    have HB1 := Lib.hid hb1
    have H1 := Lib.hid (h.below hb1)
    have HV1 := Lib.hid (hx.on hb1)
    clear hb1 h hx
    obtain ⟨x0, x1, x2, x3⟩ := HX.out.cells
    have x4 := HX.out.lt
    go_enter Try.func45, Try.ntmps45
    go_wp2_with fail
    refine (fmade H1.out.toFQ).mono ?_
    rintro e w2 ⟨rfl, hw2⟩
    rw [hw2]
    clear hw2 w2
    go_wp2
    go_ret
    refine ⟨by unfold putE; rw [if_neg HNO.out]; rfl, ⟨F, ?_, fun q h => .inl h, .of_below _ HB1.out⟩, .of_below _ HB1.out⟩
    unfold putP; rw [if_neg HNO.out]; exact H1.out
  by_cases k4 : n = 0
  · have HNO := Lib.hid (show ¬ PArg (i, g, t, ps) from fun h => h.2.2.2.1 (List.length_eq_zero_iff.1 (by rw [← HN.out]; exact k4)))
    have k4b : ((n : Int) == 0) = true := by simp [k4]
    clear k4
    have hb1 := ba (Below.refl w.heap.size w) (.cells #[.int .i64 i, .int .i64 g, .int .i64 t, .slice va n vc] 72)
    have HX := Lib.hid (FB.made w i g t (.slice va n vc))
    have HB1 := Lib.hid hb1
    have H1 := Lib.hid (h.below hb1)
    have HV1 := Lib.hid (hx.on hb1)
    clear hb1 h hx
    obtain ⟨x0, x1, x2, x3⟩ := HX.out.cells
    have x4 := HX.out.lt
    go_enter Try.func45, Try.ntmps45
    go_wp2_with fail
    refine (fmade H1.out.toFQ).mono ?_
    rintro e w2 ⟨rfl, hw2⟩
    rw [hw2]
    clear hw2 w2
    go_wp2
    go_ret
    refine ⟨by unfold putE; rw [if_neg HNO.out]; rfl, ⟨F, ?_, fun q h => .inl h, .of_below _ HB1.out⟩, .of_below _ HB1.out⟩
    unfold putP; rw [if_neg HNO.out]; exact H1.out
  have k4b : ((n : Int) == 0) = false := by simpa using k4
  by_cases k5 : VR ps
  · have HOK := Lib.hid (show PArg (i, g, t, ps) from ⟨by simp only; omega, by simp only; omega, by simp only; omega, fun e => k4 (by rw [HN.out]; exact List.length_eq_zero_iff.2 e), k5⟩)
    have hb1 := ba (Below.refl w.heap.size w) (.cells #[.int .i64 i, .int .i64 g, .int .i64 t, .slice va n vc] 72)
    have HX := Lib.hid (FB.made w i g t (.slice va n vc))
    have HB1 := Lib.hid hb1
    have H1 := Lib.hid (h.below hb1)
    have HV1 := Lib.hid (hx.on hb1)
    clear hb1 h hx
    obtain ⟨x0, x1, x2, x3⟩ := HX.out.cells
    have x4 := HX.out.lt
    go_enter Try.func45, Try.ntmps45
    go_wp2_with fail
    refine (fmade H1.out.toFQ).mono ?_
    rintro e w2 ⟨rfl, hw2⟩
    rw [hw2]
    clear hw2 w2
    have hR := vecright_all (.slice va n vc) ps _ HV1.out
    rw [decide_eq_true k5] at hR
    go_wp2_with fail
    refine hR.mono ?_
    rintro e w2 ⟨rfl, hb2⟩
    clear hR x0 x1 x2 x3 x4
    have HB2 := Lib.hid (bt HB1.out hb2)
    have H2 := Lib.hid (H1.out.below hb2)
    have HX2 := Lib.hid (HX.out.below hb2)
    have HV2 := Lib.hid (HV1.out.on hb2)
    clear hb2 HX HV1 HB1 H1
    obtain ⟨b0, hb0⟩ : ∃ b, b = w.heap.size := ⟨_, rfl⟩
    rw [← hb0] at HX2 ⊢
    have HB0 := Lib.hid hb0
    clear hb0
    obtain ⟨x0, x1, x2, x3⟩ := HX2.out.cells
    have x4 := HX2.out.lt
    have hb3 := ba (Below.refl w2.heap.size w2) (.cells #[.int .i64 i, .int .i64 g] 109)
    have HK3 := Lib.hid (KB2.made w2 i g)
    have HB3 := Lib.hid (bt HB2.out hb3)
    have H3 := Lib.hid (H2.out.below hb3)
    have HX3 := Lib.hid (HX2.out.below hb3)
    have HV3 := Lib.hid (HV2.out.on hb3)
    clear hb3 HX2 HV2 HB2 H2
    go_wp2_with fail
    generalize w2.alloc (.cells #[.int .i64 i, .int .i64 g] 109) = w3 at *
    obtain ⟨kb, hkb⟩ : ∃ b, b = w2.heap.size := ⟨_, rfl⟩
    rw [← hkb] at HK3 ⊢
    clear hkb x0 x1 x2 x3 x4 k1 k2 k3 k4 k4b k5
    obtain ⟨pv, hpv⟩ : ∃ pv, pv = ((F ⟨i, g⟩).map fxval).getD (.pointer none) := ⟨_, rfl⟩
    have hlk0 : ∀ w', Below w3.heap.size w3 w' → (Instr.lookup 90 (.map (some M)) (.agg #[.int .i64 i, .int .i64 g]) false).run Try.prog w' = .ok pv w' := fun w' hb => by
      rw [hpv]
      exact (H3.out.below hb).look (k := ⟨i, g⟩) ⟨HI.out.1, HI.out.2.1⟩ false
    have hhas : ∀ w', Below w3.heap.size w3 w' → Calls Try.prog 82 #[pv, .func (.func 92) #[] #[fptr b0]] w' fun e w'' => e = .returned (.bool (decide ((i, g, t, ps) ∈ S))) ∧ Below w'.heap.size w' w'' := fun w' hb => by
      have h' := H3.out.below hb
      cases hF : F ⟨i, g⟩ with
      | none =>
        rw [hF] at hpv
        rw [hpv]
        have hno : decide ((i, g, t, ps) ∈ S) = false := decide_eq_false fun hm => by
          have h1 := (fk_mem (f := (i, g, t, ps))).2 hm
          have h2 := H3.out.pl ⟨i, g⟩
          rw [hF] at h2
          have h3 : (i, g, t, ps) ∈ ([] : List Pf) := by have h4 : fk S (kx (i, g, t, ps)) = [] := h2; rw [h4] at h1; exact h1
          cases h3
        rw [hno]
        exact fhas_nil _ _
      | some y =>
        rw [hF] at hpv
        rw [hpv]
        have hy := h'.lst _ _ hF
        have hd : decide ((i, g, t, ps) ∈ S) = y.l.any fun z => decide ((i, g, t, ps) = z.pl) := by
          rw [Bool.eq_iff_iff, decide_eq_true_eq, List.any_eq_true]
          have h2 : fk S (kx (i, g, t, ps)) = y.l.map Fl.pl := by have h2 := H3.out.pl ⟨i, g⟩; rw [hF] at h2; exact h2
          rw [← fk_mem, h2, List.mem_map]
          constructor
          · rintro ⟨z, hz, e⟩; exact ⟨z, hz, by rw [decide_eq_true_eq]; exact e.symm⟩
          · rintro ⟨z, hz, e⟩; exact ⟨z, hz, (of_decide_eq_true e).symm⟩
        rw [hd]
        refine fhas_at hy.lb (own_rs hy.own) (h'.nem _ _ hF) (fun z => decide ((i, g, t, ps) = z.pl)) _ _ (enters_of Try.func92 (by kernel_rfl) rfl) fun W' z hz hb' => ?_
        have h2 := fput1 (W := W') (b := b0) ⟨i, g, t, .slice va n vc, ps⟩ (HX3.out.below (bt hb hb')) (HV3.out.on (bt hb hb')) z ((hy.vec z hz).vc.on hb')
        exact h2.mono fun e w'' ⟨h3, h4⟩ => ⟨h3, bt hb' h4⟩
    have HLK := Lib.hid hlk0
    have HHAS := Lib.hid fun x : ExtC w3 (fun _ => False) => hhas _ ((extC_chg w3 _ x).below (Nat.le_refl _) fun k h => h.elim)
    have hlk := fun x : ExtC w3 (fun _ => False) => hlk0 _ ((extC_chg w3 _ x).below (Nat.le_refl _) fun k h => h.elim)
    obtain ⟨-, -, c2⟩ := H3.out.cells
    have cl := H3.out.lt.1
    obtain ⟨k0, k1⟩ := HK3.out.cells
    have kl := HK3.out.lt
    have HPV := Lib.hid hpv
    clear hlk0 hhas hpv
    refine Mix.regionC (fun _ => False) (by kernel_rfl) ?_
    intro w5 hb5
    refine Mix.take_exC _ _ 0 rfl (by kernel_rfl) (by kernel_rfl) (by kernel_rfl) (by kernel_rfl) (fun K hK => ?_)
    go_simp
    first | (refine hK _ ?_; clear hK K) | (apply Exists.intro; refine ⟨fun x => ?_, hK _ ?_⟩; (fail); clear hK K)
    refine Mix.take_exC _ _ 1 rfl (by kernel_rfl) (by kernel_rfl) (by kernel_rfl) (by kernel_rfl) (fun K hK => ?_)
    go_simp
    first | (refine hK _ ?_; clear hK K) | (apply Exists.intro; refine ⟨fun x => ?_, hK _ ?_⟩; (fail); clear hK K)
    refine Mix.take_exC _ _ 2 rfl (by kernel_rfl) (by kernel_rfl) (by kernel_rfl) (by kernel_rfl) (fun K hK => ?_)
    go_simp
    first | (refine hK _ ?_; clear hK K) | (apply Exists.intro; refine ⟨fun x => ?_, hK _ ?_⟩; (fail); clear hK K)
    refine Mix.take_exC _ _ 3 rfl (by kernel_rfl) (by kernel_rfl) (by kernel_rfl) (by kernel_rfl) (fun K hK => ?_)
    go_simp
    first | (refine hK _ ?_; clear hK K) | (apply Exists.intro; refine ⟨fun x => ?_, hK _ ?_⟩; (fail); clear hK K)
    refine Mix.take_exC _ _ 4 rfl (by kernel_rfl) (by kernel_rfl) (by kernel_rfl) (by kernel_rfl) (fun K hK => ?_)
    go_simp
    first | (refine hK _ ?_; clear hK K) | (apply Exists.intro; refine ⟨fun x => ?_, hK _ ?_⟩; (fail); clear hK K)
    refine Mix.take_exC _ _ 5 rfl (by kernel_rfl) (by kernel_rfl) (by kernel_rfl) (by kernel_rfl) (fun K hK => ?_)
    go_simp
    first | (refine hK _ ?_; clear hK K) | (apply Exists.intro; refine ⟨fun x => ?_, hK _ ?_⟩; (fail); clear hK K)
    refine Mix.take_exC _ _ 6 rfl (by kernel_rfl) (by kernel_rfl) (by kernel_rfl) (by kernel_rfl) (fun K hK => ?_)
    go_simp
    first | (refine hK _ ?_; clear hK K) | (apply Exists.intro; refine ⟨fun x => ?_, hK _ ?_⟩; (fail); clear hK K)
    refine Mix.take_exC _ _ 7 rfl (by kernel_rfl) (by kernel_rfl) (by kernel_rfl) (by kernel_rfl) (fun K hK => ?_)
    go_simp
    first | (refine hK _ ?_; clear hK K) | (apply Exists.intro; refine ⟨fun x => ?_, hK _ ?_⟩; (exact HHAS.out x); clear hK K)
    refine Mix.done (by kernel_rfl) (.of_below _ hb5) ?_
    intro w6 hb6
    have HB6 := Lib.hid (bt hb5 hb6)
    clear hb5 hb6 hlk c2 cl k0 k1 kl HHAS
    have HBW := Lib.hid (bt HB3.out HB6.out)
    have H6 := Lib.hid (H3.out.below HB6.out)
    by_cases hin : (i, g, t, ps) ∈ S
    · have hr : decide ((i, g, t, ps) ∈ S) = true := decide_eq_true hin
      rw [hr]
      have HIN := Lib.hid hin
      clear hr hin
      go_wp2
      go_ret
      refine ⟨by unfold putE; rw [if_pos HOK.out, if_pos HIN.out]; rfl, ⟨F, ?_, fun q h => .inl h, .of_below _ HBW.out⟩, .of_below _ HBW.out⟩
      unfold putP; rw [if_pos HOK.out, if_pos HIN.out]; exact H6.out
    · have hr : decide ((i, g, t, ps) ∈ S) = false := decide_eq_false hin
      rw [hr]
      have HIN := Lib.hid hin
      clear hr hin
      obtain ⟨c0, c1, c2⟩ := H6.out.cells
      have cl := H6.out.lt.1
      by_cases hcap : cap ≤ (S.length : Int)
      · have HCP := Lib.hid hcap
        go_wp2_with fail
        refine wp_region_pure (by kernel_rfl) (by kernel_rfl) ?_
        repeat (first | go_big_quiet_step ((fail)) | (quiet_step ((fail))))
        refine wpQuiet_nil ?_
        rintro w7 ⟨x7, hx7⟩
        have hb7 := ext_below _ x7
        rw [← hx7] at hb7
        clear hx7 x7
        have hs7 : w6.heap.size + 0 ≤ w7.heap.size := (by have h := hb7.size; first | omega | (simp at h; omega))
        obtain ⟨hc7, hf7, hl7⟩ := bcell hb7
        clear hl7
        have HB7 := Lib.hid (bt HBW.out hb7)
        have H7 := Lib.hid (H6.out.below hb7)
        clear c0 c1 c2 cl
        go_wp2
        go_ret
        refine ⟨by unfold putE; rw [if_pos HOK.out, if_neg HIN.out, if_pos HCP.out]; rfl, ⟨F, ?_, fun q h => .inl h, .of_below _ HB7.out⟩, .of_below _ HB7.out⟩
        unfold putP; rw [if_pos HOK.out, if_neg HIN.out, if_pos HCP.out]; exact H7.out
      · have HCP := Lib.hid hcap
        go_wp2_with fail
        refine wp_region_pure (by kernel_rfl) (by kernel_rfl) ?_
        repeat (first | go_big_quiet_step ((fail)) | (quiet_step ((fail))))
        refine wpQuiet_nil ?_
        rintro w7 ⟨x7, hx7⟩
        have hb7 := ext_below _ x7
        rw [← hx7] at hb7
        clear hx7 x7
        have hs7 : w6.heap.size + 0 ≤ w7.heap.size := (by have h := hb7.size; first | omega | (simp at h; omega))
        obtain ⟨hc7, hf7, hl7⟩ := bcell hb7
        clear hl7
        have HB7 := Lib.hid (bt HB6.out hb7)
        have HBW7 := Lib.hid (bt HBW.out hb7)
        have H7 := Lib.hid (H6.out.below hb7)
        clear c0 c1 c2 cl
        have hlk := fun z : Ext w7 => HLK.out _ (bt HB7.out (ext_below _ z))
        obtain ⟨c0, c1, c2⟩ := H7.out.cells
        have cl := H7.out.lt.1
        obtain ⟨k0, k1⟩ := (HK3.out.below HB7.out).cells
        have kl := (HK3.out.below HB7.out).lt
        cases hF : F ⟨i, g⟩ with
        | none =>
          have e := HPV.out
          rw [hF] at e
          have e : pv = .pointer none := e
          rw [e] at hlk
          go_wp2_with fail
          refine wp_region_pure (by kernel_rfl) (by kernel_rfl) ?_
          repeat (first | go_big_quiet_step ((fail)) | (quiet_step ((fail))))
          refine wpQuiet_nil ?_
          rintro w8 ⟨x8, hx8⟩
          have hb8 := ext_below _ x8
          rw [← hx8] at hb8
          clear hx8 x8
          have hs8 : w7.heap.size + 0 ≤ w8.heap.size := (by have h := hb8.size; first | omega | (simp at h; omega))
          obtain ⟨hc8, hf8, hl8⟩ := bcell hb8
          clear hl8
          clear hlk c0 c1 c2 cl k0 k1 kl
          go_wp2_with fail
          have HB8 := Lib.hid (bt HB7.out hb8)
          have HBW8 := Lib.hid (bt HBW7.out hb8)
          have H8 := Lib.hid (H7.out.below hb8)
          clear hb8
          obtain ⟨-, -, c2⟩ := H8.out.cells
          have cl := H8.out.lt.1
          have hne := H8.out.ne
          have HK8 := Lib.hid (HK3.out.below HB8.out)
          obtain ⟨k0, k1⟩ := HK8.out.cells
          have kl := HK8.out.lt
          have hkM : kb ≠ M := fun e => by
            obtain ⟨es, cc, ho⟩ := MapF.obj H8.out.map
            have h9 := HK8.out
            unfold KB2 at h9
            rw [e, ho] at h9
            cases h9
          have HF := Lib.hid hF
          clear hF
          refine Mix.regionC (fun b => b = M) (by kernel_rfl) ?_
          intro w9 hb9
          refine Mix.take_exC _ _ 0 rfl (by kernel_rfl) (by kernel_rfl) (by kernel_rfl) (by kernel_rfl) (fun K hK => ?_)
          go_simp
          first | (refine hK _ ?_; clear hK K) | (apply Exists.intro; refine ⟨fun x => ?_, hK _ ?_⟩; (fail); clear hK K)
          refine Mix.take_exC _ _ 1 rfl (by kernel_rfl) (by kernel_rfl) (by kernel_rfl) (by kernel_rfl) (fun K hK => ?_)
          go_simp
          first | (refine hK _ ?_; clear hK K) | (apply Exists.intro; refine ⟨fun x => ?_, hK _ ?_⟩; (fail); clear hK K)
          refine Mix.take_exC _ _ 2 rfl (by kernel_rfl) (by kernel_rfl) (by kernel_rfl) (by kernel_rfl) (fun K hK => ?_)
          go_simp
          first | (refine hK _ ?_; clear hK K) | (apply Exists.intro; refine ⟨fun x => ?_, hK _ ?_⟩; (fail); clear hK K)
          refine Mix.take_exC _ _ 3 rfl (by kernel_rfl) (by kernel_rfl) (by kernel_rfl) (by kernel_rfl) (fun K hK => ?_)
          go_simp
          first | (refine hK _ ?_; clear hK K) | (apply Exists.intro; refine ⟨fun x => ?_, hK _ ?_⟩; (fail); clear hK K)
          refine Mix.take_exC _ _ 4 rfl (by kernel_rfl) (by kernel_rfl) (by kernel_rfl) (by kernel_rfl) (fun K hK => ?_)
          go_simp
          first | (refine hK _ ?_; clear hK K) | (apply Exists.intro; refine ⟨fun x => ?_, hK _ ?_⟩; (fail); clear hK K)
          refine Mix.take_exC _ _ 5 rfl (by kernel_rfl) (by kernel_rfl) (by kernel_rfl) (by kernel_rfl) (fun K hK => ?_)
          go_simp
          first | (refine hK _ ?_; clear hK K) | (apply Exists.intro; refine ⟨fun x => ?_, hK _ ?_⟩; (fail); clear hK K)
          refine Mix.all (rs := [6]) (by kernel_rfl) (by simp) (.of_below _ hb9) ?_
          intro i10 hi10 w10 hb10 hC10
          simp only [List.mem_cons, List.not_mem_nil, or_false] at hi10
          subst hi10
          have HB10 := Lib.hid (bt hb9 hb10)
          clear hC10 hb9 hb10
          refine Mix.op rfl (by kernel_rfl) ?_
          go_simp
          have HL11 := Lib.hid (LB.made w10 (.slice none 0 0))
          have HB11 := Lib.hid (ba HB10.out (.cells #[.slice none 0 0] 134))
          have HNB := Lib.hid (show w8.heap.size ≤ w10.heap.size from HB10.out.size)
          generalize w10.alloc (.cells #[.slice none 0 0] 134) = w11 at *
          obtain ⟨nb, hnb⟩ : ∃ b, b = w10.heap.size := ⟨_, rfl⟩
          rw [← hnb] at HL11 HNB ⊢
          clear hnb
          refine Mix.all (rs := [7]) (by kernel_rfl) (by simp) (.of_below _ HB11.out) ?_
          intro i12 hi12 w12 hb12 hC12
          simp only [List.mem_cons, List.not_mem_nil, or_false] at hi12
          subst hi12
          have HB12 := Lib.hid (bt HB11.out hb12)
          have HL12 := Lib.hid (HL11.out.below hb12)
          clear hC12 hb12
          obtain ⟨w13, hst, hm13, hc13⟩ := (H8.out.map.chg (Chg.of_below (fun _ => False) HB12.out) id).store keyP Try.underlying90 (x := (⟨i, g⟩ : K2)) ⟨HI.out.1, HI.out.2.1⟩ (⟨nb, .slice none 0 0, []⟩ : Fx)
          replace hst : (Instr.mapUpdate 90 (.map (some M)) (.agg #[.int .i64 i, .int .i64 g]) (.pointer (some ⟨nb, 0, none⟩))).run Try.prog w12 = .ok () w13 := hst
          have HC13 := Lib.hid ((Chg.of_below (fun b => b = M) HB12.out).same hc13)
          have HM13 := Lib.hid hm13
          have hnM : nb ≠ M := by have := HNB.out; have := H8.out.lt.2; omega
          have HL13 := Lib.hid (HL12.out.chg hc13 hnM)
          clear hm13 hc13
          refine Mix.op rfl (by kernel_rfl) ?_
          go_simp
          clear hst c2 cl k0 k1 kl
          refine Mix.done (by kernel_rfl) HC13.out ?_
          intro w14 hb14
          have HC14 := Lib.hid (HC13.out.then_below hb14)
          have HFQ := Lib.hid (H8.out.toFQ.fresh HF.out HC14.out (HM13.out.chg (Chg.of_below (fun _ => False) hb14) id) (HL13.out.below hb14) HNB.out)
          have HF1 := Lib.hid (show upd F ⟨i, g⟩ (some (⟨nb, .slice none 0 0, []⟩ : Fx)) ⟨i, g⟩ = some ⟨nb, .slice none 0 0, []⟩ from by unfold upd; rw [if_pos rfl])
          have HNM := Lib.hid (show ∀ j x, j ≠ (⟨i, g⟩ : K2) → upd F ⟨i, g⟩ (some (⟨nb, .slice none 0 0, []⟩ : Fx)) j = some x → x.l ≠ [] from fun j x hj hx => by
            unfold upd at hx
            rw [if_neg hj] at hx
            exact H8.out.nem j x hx)
          have HKZ := Lib.hid (HK8.out.chg HC14.out hkM)
          have HXZ := Lib.hid (show FB w14 b0 i g t (.slice va n vc) from (HC14.out.block b0 (HX3.out.below HB8.out).lt (fun e => by
            obtain ⟨es, cc, ho⟩ := MapF.obj H8.out.map
            have h9 := HX3.out.below HB8.out
            unfold FB at h9
            have e : b0 = M := e
            rw [e, ho] at h9
            cases h9)).trans (HX3.out.below HB8.out))
          have HVZ := Lib.hid (show Vc w14 (.slice va n vc) ps from by
            have hv8 := HV3.out.on HB8.out
            refine hv8.chg HC14.out fun q hq e => ?_
            have e : q = M := e
            obtain ⟨a, n', c', hv, -, -, -, hat⟩ := hv8.at_
            obtain ⟨p, rest, hp⟩ := List.exists_cons_of_ne_nil HOK.out.2.2.2.1
            simp only at hp
            obtain ⟨b, off, ha, -, h0, -, -⟩ := hat 0 p (by rw [hp]; rfl)
            cases hv
            subst ha
            cases hq
            obtain ⟨es, cc, ho⟩ := MapF.obj H8.out.map
            subst e
            simp [World.cell?, ho] at h0)
          have HCZ := Lib.hid (show Chg (FrG W w) w w14 from FrG.trans (Chg.of_below _ HBW8.out) (HC14.out.mono fun k e => by have e : k = M := e; rw [e]; exact H8.out.toFQ.frM))
          have HTB := Lib.hid (show ∀ q, TB tp M (upd F ⟨i, g⟩ (some (⟨nb, .slice none 0 0, []⟩ : Fx))) q → TB tp M F q ∨ w.heap.size ≤ q from fun q hq => by
            rcases hq with e | e | ⟨k, x, hx, e⟩
            · exact .inl (.inl e)
            · exact .inl (.inr (.inl e))
            · unfold upd at hx
              split at hx
              · cases hx
                rcases e with e | e
                · exact .inr (by have h1 := HNB.out; have h2 := HBW8.out.size; have e : q = nb := e; omega)
                · cases e
              · exact .inl (.inr (.inr ⟨k, x, hx, e⟩)))
          have HCT := Lib.hid (show Chg (TB tp M F) w w14 from (Chg.of_below _ HBW8.out).same (HC14.out.mono fun q e => .inr (.inl e)))
          have HNB0 := Lib.hid (show ¬ OBf (.slice none 0 0) b0 from fun e => by cases e)
          have HLEN := Lib.hid (show ([] : List Fl).length < 1000000 from by decide)
          generalize upd F ⟨i, g⟩ (some (⟨nb, .slice none 0 0, []⟩ : Fx)) = F1 at *
          obtain ⟨ya, ym, yc, yl, hya, hym, hyc, hyl⟩ : ∃ (a : Option Addr) (m c : Nat) (l : List Fl), a = none ∧ m = 0 ∧ c = 0 ∧ l = [] := ⟨_, _, _, _, rfl, rfl, rfl, rfl⟩
          have HF1 := Lib.hid (show F1 ⟨i, g⟩ = some ⟨nb, .slice ya ym yc, yl⟩ from by rw [hya, hym, hyc, hyl]; exact HF1.out)
          have HNB0 := Lib.hid (show ¬ OBf (.slice ya ym yc) b0 from by rw [hya, hym, hyc]; exact HNB0.out)
          have HLEN := Lib.hid (show yl.length < 1000000 from by rw [hyl]; exact HLEN.out)
          clear hya hym hyc hyl hnM hkM hne e hcap
          go_wp2_with fail
          obtain ⟨yb, hyb⟩ : ∃ b, b = nb := ⟨_, rfl⟩
          rw [← hyb] at HF1
          clear hyb
          have hy := HFQ.out.lst _ _ HF1.out
          have n0 : ¬ OBf (.slice ya ym yc) tp := fun e => by
            obtain ⟨c, z, e2⟩ := row_obj hy.own e
            rw [HFQ.out.obj] at e2
            exact absurd (Obj.cells.inj (Option.some.inj e2)).2.1 (by decide)
          have n1 : ¬ OBf (.slice ya ym yc) kb := fun e => by
            obtain ⟨c, z, e2⟩ := row_obj hy.own e
            have h9 := HKZ.out
            unfold KB2 at h9
            rw [h9] at e2
            exact absurd (Obj.cells.inj (Option.some.inj e2)).2.1 (by decide)
          have n2 : ¬ OBf (.slice ya ym yc) yb := fun e => by
            obtain ⟨c, z, e2⟩ := row_obj hy.own e
            have h9 := hy.lb
            unfold LB at h9
            rw [h9] at e2
            exact absurd (Obj.cells.inj (Option.some.inj e2)).2.1 (by decide)
          have n3 : ¬ OBf (.slice ya ym yc) b0 := HNB0.out
          have nM : ¬ OBf (.slice ya ym yc) M := fun e => by
            obtain ⟨c, z, e2⟩ := row_obj hy.own e
            obtain ⟨es, cc, ho⟩ := MapF.obj HFQ.out.map
            rw [ho] at e2
            cases e2
          have n4 : tp ≠ yb := fun e => by
            have h9 := hy.lb
            unfold LB at h9
            simp only at h9
            rw [← e, HFQ.out.obj] at h9
            exact absurd (Obj.cells.inj (Option.some.inj h9)).2.1 (by decide)
          have HNO := Lib.hid (And.intro (And.intro n0 n1) (And.intro n2 n4))
          have hlk := fun x : ExtC w14 (OBf (.slice ya ym yc)) => (show (Instr.lookup 90 (.map (some M)) (.agg #[.int .i64 i, .int .i64 g]) false).run Try.prog (extC w14 (OBf (.slice ya ym yc)) x) = .ok (fptr yb) (extC w14 (OBf (.slice ya ym yc)) x) from by
            have h1 := (HFQ.out.map.chg (extC_chg w14 _ x) nM).look keyP Try.underlying90 (z := .pointer none) (Try.zeroValue130 _) (x := (⟨i, g⟩ : K2)) ⟨HI.out.1, HI.out.2.1⟩ false
            rw [HF1.out] at h1
            exact h1)
          obtain ⟨-, -, c2⟩ := HFQ.out.cells
          have cl := HFQ.out.lt.1
          obtain ⟨k0, k1⟩ := HKZ.out.cells
          have kl := HKZ.out.lt
          have l0 := hy.lb.cell
          have ll := hy.lb.lt
          simp only at l0 ll
          obtain ⟨x0, x1, x2, x3⟩ := HXZ.out.cells
          have x4 := HXZ.out.lt
          have HLB := Lib.hid (show LB w14 yb (.slice ya ym yc) from hy.lb)
          have HOW := Lib.hid (show OwnL 72 4 flenc w14 W.heap.size (.slice ya ym yc) yl from hy.own)
          clear hy nM
          refine Mix.regionL (OBf (.slice ya ym yc)) (by kernel_rfl) ?_
          intro w20 hb20
          refine Mix.take_exL _ _ 0 rfl (by kernel_rfl) (by kernel_rfl) (by kernel_rfl) (by kernel_rfl) (by kernel_rfl) (by kernel_rfl) (fun K hK => ?_)
          go_simp
          first | (refine hK _ ?_; clear hK K) | (apply Exists.intro; refine ⟨fun x => ?_, hK _ ?_⟩; (fail); clear hK K)
          refine Mix.take_exL _ _ 1 rfl (by kernel_rfl) (by kernel_rfl) (by kernel_rfl) (by kernel_rfl) (by kernel_rfl) (by kernel_rfl) (fun K hK => ?_)
          go_simp
          first | (refine hK _ ?_; clear hK K) | (apply Exists.intro; refine ⟨fun x => ?_, hK _ ?_⟩; (fail); clear hK K)
          refine Mix.take_exL _ _ 2 rfl (by kernel_rfl) (by kernel_rfl) (by kernel_rfl) (by kernel_rfl) (by kernel_rfl) (by kernel_rfl) (fun K hK => ?_)
          go_simp
          first | (refine hK _ ?_; clear hK K) | (apply Exists.intro; refine ⟨fun x => ?_, hK _ ?_⟩; (fail); clear hK K)
          refine Mix.take_exL _ _ 3 rfl (by kernel_rfl) (by kernel_rfl) (by kernel_rfl) (by kernel_rfl) (by kernel_rfl) (by kernel_rfl) (fun K hK => ?_)
          go_simp
          first | (refine hK _ ?_; clear hK K) | (apply Exists.intro; refine ⟨fun x => ?_, hK _ ?_⟩; (fail); clear hK K)
          refine Mix.take_exL _ _ 4 rfl (by kernel_rfl) (by kernel_rfl) (by kernel_rfl) (by kernel_rfl) (by kernel_rfl) (by kernel_rfl) (fun K hK => ?_)
          go_simp
          first | (refine hK _ ?_; clear hK K) | (apply Exists.intro; refine ⟨fun x => ?_, hK _ ?_⟩; (fail); clear hK K)
          refine Mix.take_exL _ _ 5 rfl (by kernel_rfl) (by kernel_rfl) (by kernel_rfl) (by kernel_rfl) (by kernel_rfl) (by kernel_rfl) (fun K hK => ?_)
          go_simp
          first | (refine hK _ ?_; clear hK K) | (apply Exists.intro; refine ⟨fun x => ?_, hK _ ?_⟩; (fail); clear hK K)
          refine Mix.take_exL _ _ 6 rfl (by kernel_rfl) (by kernel_rfl) (by kernel_rfl) (by kernel_rfl) (by kernel_rfl) (by kernel_rfl) (fun K hK => ?_)
          go_simp
          first | (refine hK _ ?_; clear hK K) | (apply Exists.intro; refine ⟨fun x => ?_, hK _ ?_⟩; (fail); clear hK K)
          refine Mix.take_exL _ _ 7 rfl (by kernel_rfl) (by kernel_rfl) (by kernel_rfl) (by kernel_rfl) (by kernel_rfl) (by kernel_rfl) (fun K hK => ?_)
          go_simp
          first | (refine hK _ ?_; clear hK K) | (apply Exists.intro; refine ⟨fun x => ?_, hK _ ?_⟩; (fail); clear hK K)
          refine Mix.take_exL _ _ 8 rfl (by kernel_rfl) (by kernel_rfl) (by kernel_rfl) (by kernel_rfl) (by kernel_rfl) (by kernel_rfl) (fun K hK => ?_)
          go_simp
          first | (refine hK _ ?_; clear hK K) | (apply Exists.intro; refine ⟨fun x => ?_, hK _ ?_⟩; (fail); clear hK K)
          refine Mix.take_exL _ _ 9 rfl (by kernel_rfl) (by kernel_rfl) (by kernel_rfl) (by kernel_rfl) (by kernel_rfl) (by kernel_rfl) (fun K hK => ?_)
          go_simp
          first | (refine hK _ ?_; clear hK K) | (apply Exists.intro; refine ⟨fun x => ?_, hK _ ?_⟩; (fail); clear hK K)
          refine Mix.take_exL _ _ 10 rfl (by kernel_rfl) (by kernel_rfl) (by kernel_rfl) (by kernel_rfl) (by kernel_rfl) (by kernel_rfl) (fun K hK => ?_)
          go_simp
          first | (refine hK _ ?_; clear hK K) | (apply Exists.intro; refine ⟨fun x => ?_, hK _ ?_⟩; (fail); clear hK K)
          refine Mix.take_exL _ _ 11 rfl (by kernel_rfl) (by kernel_rfl) (by kernel_rfl) (by kernel_rfl) (by kernel_rfl) (by kernel_rfl) (fun K hK => ?_)
          go_simp
          first | (refine hK _ ?_; clear hK K) | (apply Exists.intro; refine ⟨fun x => ?_, hK _ ?_⟩; (fail); clear hK K)
          refine Mix.take_exL _ _ 12 rfl (by kernel_rfl) (by kernel_rfl) (by kernel_rfl) (by kernel_rfl) (by kernel_rfl) (by kernel_rfl) (fun K hK => ?_)
          go_simp
          first | (refine hK _ ?_; clear hK K) | (apply Exists.intro; refine ⟨fun x => ?_, hK _ ?_⟩; (fail); clear hK K)
          refine Mix.take_exL _ _ 13 rfl (by kernel_rfl) (by kernel_rfl) (by kernel_rfl) (by kernel_rfl) (by kernel_rfl) (by kernel_rfl) (fun K hK => ?_)
          go_simp
          first | (refine hK _ ?_; clear hK K) | (apply Exists.intro; refine ⟨fun x => ?_, hK _ ?_⟩; (fail); clear hK K)
          refine Mix.take_exL _ _ 14 rfl (by kernel_rfl) (by kernel_rfl) (by kernel_rfl) (by kernel_rfl) (by kernel_rfl) (by kernel_rfl) (fun K hK => ?_)
          go_simp
          first | (refine hK _ ?_; clear hK K) | (apply Exists.intro; refine ⟨fun x => ?_, hK _ ?_⟩; (fail); clear hK K)
          refine Mix.take_exL _ _ 15 rfl (by kernel_rfl) (by kernel_rfl) (by kernel_rfl) (by kernel_rfl) (by kernel_rfl) (by kernel_rfl) (fun K hK => ?_)
          go_simp
          first | (refine hK _ ?_; clear hK K) | (apply Exists.intro; refine ⟨fun x => ?_, hK _ ?_⟩; (fail); clear hK K)
          refine Mix.allL (rs := [16]) (by kernel_rfl) (by simp) (.of_below _ hb20) (by kernel_rfl) ?_
          intro i21 hi21 w21 hb21 hC21
          simp only [List.mem_cons, List.not_mem_nil, or_false] at hi21
          subst hi21
          have HB21 := Lib.hid (bt hb20 hb21)
          clear hC21 hb20 hb21 hlk c2 cl k0 k1 kl l0 x0 x1 x2 x3 x4 n0 n1 n3
          refine Mix.op rfl (by kernel_rfl) ?_
          go_simp
          refine (fcopied ⟨i, g, t, .slice va n vc, ps⟩ w21 (HVZ.out.on HB21.out) HXL.out).mono ?_
          rintro e w22 ⟨u, rfl, hu, hb22⟩
          refine ⟨_, rfl, ?_⟩
          obtain ⟨ua, uc, huv, -, -⟩ := hu.vc.form
          subst huv
          have HU22 := Lib.hid (show OwnP w22 w21.heap.size (.slice ua ps.length uc) ps from hu)
          have HB22 := Lib.hid (bt HB21.out hb22)
          clear hb22 hu
          refine Mix.allL (rs := [17]) (by kernel_rfl) (by simp) (.of_below _ HB22.out) (by kernel_rfl) ?_
          intro i23 hi23 w23 hb23 hC23
          simp only [List.mem_cons, List.not_mem_nil, or_false] at hi23
          subst hi23
          have HB23 := Lib.hid (bt HB22.out hb23)
          have HU23 := Lib.hid (rowP_grow HU22.out hb23)
          clear hC23 hb23
          refine Mix.op rfl (by kernel_rfl) ?_
          go_simp
          refine Mix.allL (rs := [18]) (by kernel_rfl) (by simp) (.of_below _ (ba HB23.out _)) (by kernel_rfl) ?_
          intro i24 hi24 w24 hb24 hC24
          simp only [List.mem_cons, List.not_mem_nil, or_false] at hi24
          subst hi24
          have HB24 := Lib.hid (bt (ba HB23.out (.cells #[.int .i64 i, .int .i64 g, .int .i64 t, .slice ua ps.length uc] 72)) hb24)
          have HU24 := Lib.hid (rowP_grow (rowP_grow HU23.out (ba (Below.refl _ _) (.cells #[.int .i64 i, .int .i64 g, .int .i64 t, .slice ua ps.length uc] 72))) hb24)
          have hFB := (FB.made w23 i g t (.slice ua ps.length uc)).below hb24
          obtain ⟨v', w25, hrun, how, hgr, hnw⟩ := own_appF (HOW.out.below HB24.out) ⟨i, g, t, .slice ua ps.length uc, ps⟩ hFB rfl HLEN.out (by have := HFQ.out.bel.size; have := HB24.out.size; omega)
          obtain ⟨a', m', c', hv'⟩ : ∃ a m c, v' = .slice a m c := by
            obtain ⟨a, c, e, _⟩ := own_rs how
            exact ⟨a, _, c, e⟩
          subst hv'
          have HRA := Lib.hid hrun
          have HCH := Lib.hid (show Chg (OBf (.slice ya ym yc)) w24 w25 from Chg.of_grown hgr fun k e => e)
          have HO25 := Lib.hid how
          have HNW := Lib.hid (show ∀ q, (Value.slice a' m' c').ownBlock = some q → OBf (.slice ya ym yc) q ∨ w24.heap.size ≤ q from fun q hq => by
            rcases hnw with e | e
            · exact .inl (e.symm.trans hq)
            · rw [hq] at e; exact .inr (by cases e; exact Nat.le_refl _))
          clear hrun how hgr hnw hFB hC24 hb24
          refine Mix.opApp rfl (by kernel_rfl) _ _ _ rfl rfl rfl HRA.out ?_
          go_simp
          refine Mix.allL (rs := [19]) (by kernel_rfl) (by simp) ((Chg.of_below _ HB24.out).same HCH.out) (by kernel_rfl) ?_
          intro i29 hi29 w29 hb29 hC29
          simp only [List.mem_cons, List.not_mem_nil, or_false] at hi29
          subst hi29
          have HO25 := Lib.hid (HO25.out.below hb29)
          have HCH := Lib.hid (HCH.out.then_below hb29)
          clear hC29 hb29
          refine Mix.op rfl (by kernel_rfl) ?_
          go_simp
          refine Mix.take_exL _ _ 20 rfl (by kernel_rfl) (by kernel_rfl) (by kernel_rfl) (by kernel_rfl) (by kernel_rfl) (by kernel_rfl) (fun K hK => ?_)
          go_simp
          first | (refine hK _ ?_; clear hK K) | (apply Exists.intro; refine ⟨fun x => ?_, hK _ ?_⟩; (fail); clear hK K)
          refine Mix.allL (rs := [21]) (by kernel_rfl) (by simp) ((Chg.of_below _ HB24.out).same HCH.out) (by kernel_rfl) ?_
          intro i26 hi26 w26 hb26 hC26
          simp only [List.mem_cons, List.not_mem_nil, or_false] at hi26
          subst hi26
          have HL26 := Lib.hid (((HLB.out.below HB24.out).chg HCH.out n2).below hb26)
          have HO26 := Lib.hid (HO25.out.below hb26)
          have HC26 := Lib.hid (((Chg.of_below (OBf (.slice ya ym yc)) HB24.out).same HCH.out).then_below hb26)
          have HU26 := Lib.hid (show OwnP w26 w21.heap.size (.slice ua ps.length uc) ps from rowP_grow (ownsRow_chg HU24.out HCH.out fun q hq e => by
            obtain ⟨c, z, e2⟩ := row_obj HU24.out hq
            obtain ⟨c', z', e3⟩ := row_obj (HOW.out.below HB24.out) e
            rw [e2] at e3
            exact absurd (Obj.cells.inj (Option.some.inj e3)).2.1 (by decide)) hb26)
          have l0 := HL26.out.cell
          have l1 := HL26.out.fz 0
          have l2 := HL26.out.lt
          clear hC26 hb26 ll
          refine Mix.op rfl (by kernel_rfl) ?_
          go_simp
          refine Mix.doneL (by kernel_rfl) (by kernel_rfl) ?_
          intro w27 hb27
          clear l0 l1 l2
          have HC27 := Lib.hid (((Chg.refl (fun k => k = yb) w26).setCell (p := ⟨yb, 0, none⟩) (.inl rfl) (.slice a' m' c')).then_below hb27)
          have HL27 := Lib.hid ((HL26.out.set (.slice a' m' c')).below hb27)
          have ho27 := (HC27.out.block tp (Nat.lt_of_lt_of_le HFQ.out.lt.1 HC26.out.size) HNO.out.2.2).trans ((HC26.out.block tp HFQ.out.lt.1 HNO.out.1.1).trans HFQ.out.obj)
          have HO27 := Lib.hid ho27
          have c1 : w27.cell? ⟨tp, 1, none⟩ = some (.int .i64 (S.length : Nat)) := by simp [World.cell?, ho27]
          have cf : w27.frozen? ⟨tp, 1, none⟩ = false := by simp [World.frozen?, ho27]
          have cl : tp < w27.heap.size := (Array.getElem?_eq_some_iff.1 ho27).1
          have hwr : IntKind.i64.wrap ((S.length : Int) + 1) = (S.length : Int) + 1 := IntWalk.i64_in _ (by have := HFQ.out.c1; have := HCP.out; omega)
          clear ho27 hb27
          go_wp2
          go_ret
          have hyq := HFQ.out.lst _ _ HF1.out
          have hne2 : ∀ q, (Value.slice a' m' c').ownBlock = some q → q ≠ yb ∧ q ≠ tp := fun q hq => by
            rcases HNW.out q hq with e | e
            · exact ⟨fun h => n2 (h ▸ e), fun h => HNO.out.1.1 (h ▸ e)⟩
            · have h1 := HLB.out.lt; have h2 := HB24.out.size; have h3 := HFQ.out.lt.1
              exact ⟨by omega, by omega⟩
          have hCT := (Chg.refl (fun k => k = tp) w27).setCell (p := ⟨tp, 1, none⟩) (.inl rfl) (.int .i64 ((S.length : Int) + 1))
          have hc : Chg (fun b => b = tp ∨ b = yb ∨ OBf (.slice ya ym yc) b) w14 (w27.setCell ⟨tp, 1, none⟩ (.int .i64 ((S.length : Int) + 1))) :=
            ((HC26.out.mono fun k e => .inr (.inr e)).same (HC27.out.mono fun k e => .inr (.inl e))).same (hCT.mono fun k e => .inl e)
          refine ⟨by unfold putE; rw [if_pos HOK.out, if_neg HIN.out, if_neg (by have := HCP.out; omega)]; rfl, ⟨upd F1 ⟨i, g⟩ (some ⟨yb, .slice a' m' c', yl ++ [⟨i, g, t, .slice ua ps.length uc, ps⟩]⟩), ?_, by
            intro q hq
            have key : ∀ q, TB tp M (upd F1 ⟨i, g⟩ (some ⟨yb, .slice a' m' c', yl ++ [⟨i, g, t, .slice ua ps.length uc, ps⟩]⟩)) q → TB tp M F1 q ∨ w14.heap.size ≤ q := fun q hq => by
              rcases hq with e | e | ⟨k, x, hx, e⟩
              · exact .inl (.inl e)
              · exact .inl (.inr (.inl e))
              · unfold upd at hx
                split at hx
                · cases hx
                  rcases e with e | e
                  · exact .inl (.inr (.inr ⟨_, _, HF1.out, .inl e⟩))
                  · rcases HNW.out q e with e2 | e2
                    · exact .inl (.inr (.inr ⟨_, _, HF1.out, .inr e2⟩))
                    · exact .inr (by have := HB24.out.size; omega)
                · exact .inl (.inr (.inr ⟨k, x, hx, e⟩))
            rcases key q hq with h | h
            · exact HTB.out q h
            · exact .inr (by have := HCT.out.size; omega), HCT.out.trans hc fun q e => HTB.out q (by
            rcases e with e | e | e
            · exact .inl e
            · exact .inr (.inr ⟨_, _, HF1.out, .inl e⟩)
            · exact .inr (.inr ⟨_, _, HF1.out, .inr e⟩))⟩, FrG.trans HCZ.out (hc.mono (HFQ.out.frG HF1.out))⟩
          unfold putP
          rw [if_pos HOK.out, if_neg HIN.out, if_neg (by have := HCP.out; omega)]
          refine HFQ.out.put (x := ⟨i, g, t, .slice ua ps.length uc, ps⟩) HF1.out HNM.out rfl ⟨HOK.out.1, HOK.out.2.1, HOK.out.2.2.1, HI.out.1, HI.out.2.1, HI.out.2.2, HOK.out.2.2.2.1, HOK.out.2.2.2.2⟩ HCP.out hc ?_ ?_ ?_ ?_ (fun q hq => (HNW.out q hq).imp id fun e => by have := HB24.out.size; omega)
          · have := heap_setCell_at (b := tp) (o := 1) (.int .i64 ((S.length : Int) + 1)) HO27.out
            exact this
          · exact HL27.out.chg hCT fun e => HNO.out.2.2 e.symm
          · exact (HO26.out.chg HC27.out fun q hq => (hne2 q hq).1).chg hCT fun q hq => (hne2 q hq).2
          · have hu : ∀ q, (Value.slice ua ps.length uc).ownBlock = some q → q ≠ yb ∧ q ≠ tp := fun q hq => by
              have h1 := (HU26.out.lt q hq).1
              have h2 := HLB.out.lt; have h3 := HFQ.out.lt.1; have h4 := HB21.out.size
              exact ⟨by omega, by omega⟩
            exact ownsRow_base (ownsRow_chg (ownsRow_chg HU26.out HC27.out fun q hq => (hu q hq).1) hCT fun q hq => (hu q hq).2) (by have := HFQ.out.bel.size; have := HB21.out.size; omega)
        | some y =>
          have e := HPV.out
          rw [hF] at e
          have e : pv = fptr y.b := e
          rw [e] at hlk
          go_wp2_with fail
          refine wp_region_pure (by kernel_rfl) (by kernel_rfl) ?_
          repeat (first | go_big_quiet_step ((fail)) | (quiet_step ((fail))))
          refine wpQuiet_nil ?_
          rintro w8 ⟨x8, hx8⟩
          have hb8 := ext_below _ x8
          rw [← hx8] at hb8
          clear hx8 x8
          have hs8 : w7.heap.size + 0 ≤ w8.heap.size := (by have h := hb8.size; first | omega | (simp at h; omega))
          obtain ⟨hc8, hf8, hl8⟩ := bcell hb8
          clear hl8
          clear hlk c0 c1 c2 cl k0 k1 kl hcap
          go_wp2_with fail
          have HB8 := Lib.hid (bt HB7.out hb8)
          have HBW8 := Lib.hid (bt HBW7.out hb8)
          have HFQ := Lib.hid (H7.out.toFQ.below hb8)
          have HNM := Lib.hid (show ∀ j x, j ≠ (⟨i, g⟩ : K2) → F j = some x → x.l ≠ [] from fun j x _ hx => H7.out.nem j x hx)
          have HKZ := Lib.hid (HK3.out.below HB8.out)
          have HXZ := Lib.hid (HX3.out.below HB8.out)
          have HVZ := Lib.hid (HV3.out.on HB8.out)
          have HCZ := Lib.hid (show Chg (FrG W w) w w8 from Chg.of_below _ HBW8.out)
          have HTB := Lib.hid (show ∀ q, TB tp M F q → TB tp M F q ∨ w.heap.size ≤ q from fun q h => .inl h)
          have HCT := Lib.hid (show Chg (TB tp M F) w w8 from Chg.of_below _ HBW8.out)
          clear hb8 e
          have hyo := (HO0.out.lst _ _ hF).own
          have HNB0 := Lib.hid (show ¬ OBf y.v b0 from fun e => by have := (hyo.lt b0 e).2; have := HB0.out; omega)
          have HLEN := Lib.hid (show y.l.length < 1000000 from by
            have h1 := HFQ.out.pl ⟨i, g⟩
            rw [hF] at h1
            have h2 : (fk S ⟨i, g⟩).length = y.l.length := by rw [h1]; simp
            have h3 : (fk S ⟨i, g⟩).length ≤ S.length := List.length_filter_le _ _
            have := HSL.out; omega)
          obtain ⟨yb, yv, yl⟩ := y
          obtain ⟨ya, ym, yc, hyv⟩ : ∃ a m c, yv = .slice a m c := by
            obtain ⟨a, c, e, _⟩ := own_rs hyo
            exact ⟨a, _, c, e⟩
          subst hyv
          have HF1 := Lib.hid hF
          clear hF hyo
          have hy := HFQ.out.lst _ _ HF1.out
          have n0 : ¬ OBf (.slice ya ym yc) tp := fun e => by
            obtain ⟨c, z, e2⟩ := row_obj hy.own e
            rw [HFQ.out.obj] at e2
            exact absurd (Obj.cells.inj (Option.some.inj e2)).2.1 (by decide)
          have n1 : ¬ OBf (.slice ya ym yc) kb := fun e => by
            obtain ⟨c, z, e2⟩ := row_obj hy.own e
            have h9 := HKZ.out
            unfold KB2 at h9
            rw [h9] at e2
            exact absurd (Obj.cells.inj (Option.some.inj e2)).2.1 (by decide)
          have n2 : ¬ OBf (.slice ya ym yc) yb := fun e => by
            obtain ⟨c, z, e2⟩ := row_obj hy.own e
            have h9 := hy.lb
            unfold LB at h9
            rw [h9] at e2
            exact absurd (Obj.cells.inj (Option.some.inj e2)).2.1 (by decide)
          have n3 : ¬ OBf (.slice ya ym yc) b0 := HNB0.out
          have nM : ¬ OBf (.slice ya ym yc) M := fun e => by
            obtain ⟨c, z, e2⟩ := row_obj hy.own e
            obtain ⟨es, cc, ho⟩ := MapF.obj HFQ.out.map
            rw [ho] at e2
            cases e2
          have n4 : tp ≠ yb := fun e => by
            have h9 := hy.lb
            unfold LB at h9
            simp only at h9
            rw [← e, HFQ.out.obj] at h9
            exact absurd (Obj.cells.inj (Option.some.inj h9)).2.1 (by decide)
          have HNO := Lib.hid (And.intro (And.intro n0 n1) (And.intro n2 n4))
          have hlk := fun x : ExtC w8 (OBf (.slice ya ym yc)) => (show (Instr.lookup 90 (.map (some M)) (.agg #[.int .i64 i, .int .i64 g]) false).run Try.prog (extC w8 (OBf (.slice ya ym yc)) x) = .ok (fptr yb) (extC w8 (OBf (.slice ya ym yc)) x) from by
            have h1 := (HFQ.out.map.chg (extC_chg w8 _ x) nM).look keyP Try.underlying90 (z := .pointer none) (Try.zeroValue130 _) (x := (⟨i, g⟩ : K2)) ⟨HI.out.1, HI.out.2.1⟩ false
            rw [HF1.out] at h1
            exact h1)
          obtain ⟨-, -, c2⟩ := HFQ.out.cells
          have cl := HFQ.out.lt.1
          obtain ⟨k0, k1⟩ := HKZ.out.cells
          have kl := HKZ.out.lt
          have l0 := hy.lb.cell
          have ll := hy.lb.lt
          simp only at l0 ll
          obtain ⟨x0, x1, x2, x3⟩ := HXZ.out.cells
          have x4 := HXZ.out.lt
          have HLB := Lib.hid (show LB w8 yb (.slice ya ym yc) from hy.lb)
          have HOW := Lib.hid (show OwnL 72 4 flenc w8 W.heap.size (.slice ya ym yc) yl from hy.own)
          clear hy nM
          refine Mix.regionL (OBf (.slice ya ym yc)) (by kernel_rfl) ?_
          intro w20 hb20
          refine Mix.take_exL _ _ 0 rfl (by kernel_rfl) (by kernel_rfl) (by kernel_rfl) (by kernel_rfl) (by kernel_rfl) (by kernel_rfl) (fun K hK => ?_)
          go_simp
          first | (refine hK _ ?_; clear hK K) | (apply Exists.intro; refine ⟨fun x => ?_, hK _ ?_⟩; (fail); clear hK K)
          refine Mix.take_exL _ _ 1 rfl (by kernel_rfl) (by kernel_rfl) (by kernel_rfl) (by kernel_rfl) (by kernel_rfl) (by kernel_rfl) (fun K hK => ?_)
          go_simp
          first | (refine hK _ ?_; clear hK K) | (apply Exists.intro; refine ⟨fun x => ?_, hK _ ?_⟩; (fail); clear hK K)
          refine Mix.take_exL _ _ 2 rfl (by kernel_rfl) (by kernel_rfl) (by kernel_rfl) (by kernel_rfl) (by kernel_rfl) (by kernel_rfl) (fun K hK => ?_)
          go_simp
          first | (refine hK _ ?_; clear hK K) | (apply Exists.intro; refine ⟨fun x => ?_, hK _ ?_⟩; (fail); clear hK K)
          refine Mix.take_exL _ _ 3 rfl (by kernel_rfl) (by kernel_rfl) (by kernel_rfl) (by kernel_rfl) (by kernel_rfl) (by kernel_rfl) (fun K hK => ?_)
          go_simp
          first | (refine hK _ ?_; clear hK K) | (apply Exists.intro; refine ⟨fun x => ?_, hK _ ?_⟩; (fail); clear hK K)
          refine Mix.take_exL _ _ 4 rfl (by kernel_rfl) (by kernel_rfl) (by kernel_rfl) (by kernel_rfl) (by kernel_rfl) (by kernel_rfl) (fun K hK => ?_)
          go_simp
          first | (refine hK _ ?_; clear hK K) | (apply Exists.intro; refine ⟨fun x => ?_, hK _ ?_⟩; (fail); clear hK K)
          refine Mix.take_exL _ _ 5 rfl (by kernel_rfl) (by kernel_rfl) (by kernel_rfl) (by kernel_rfl) (by kernel_rfl) (by kernel_rfl) (fun K hK => ?_)
          go_simp
          first | (refine hK _ ?_; clear hK K) | (apply Exists.intro; refine ⟨fun x => ?_, hK _ ?_⟩; (fail); clear hK K)
          refine Mix.take_exL _ _ 6 rfl (by kernel_rfl) (by kernel_rfl) (by kernel_rfl) (by kernel_rfl) (by kernel_rfl) (by kernel_rfl) (fun K hK => ?_)
          go_simp
          first | (refine hK _ ?_; clear hK K) | (apply Exists.intro; refine ⟨fun x => ?_, hK _ ?_⟩; (fail); clear hK K)
          refine Mix.take_exL _ _ 7 rfl (by kernel_rfl) (by kernel_rfl) (by kernel_rfl) (by kernel_rfl) (by kernel_rfl) (by kernel_rfl) (fun K hK => ?_)
          go_simp
          first | (refine hK _ ?_; clear hK K) | (apply Exists.intro; refine ⟨fun x => ?_, hK _ ?_⟩; (fail); clear hK K)
          refine Mix.take_exL _ _ 8 rfl (by kernel_rfl) (by kernel_rfl) (by kernel_rfl) (by kernel_rfl) (by kernel_rfl) (by kernel_rfl) (fun K hK => ?_)
          go_simp
          first | (refine hK _ ?_; clear hK K) | (apply Exists.intro; refine ⟨fun x => ?_, hK _ ?_⟩; (fail); clear hK K)
          refine Mix.take_exL _ _ 9 rfl (by kernel_rfl) (by kernel_rfl) (by kernel_rfl) (by kernel_rfl) (by kernel_rfl) (by kernel_rfl) (fun K hK => ?_)
          go_simp
          first | (refine hK _ ?_; clear hK K) | (apply Exists.intro; refine ⟨fun x => ?_, hK _ ?_⟩; (fail); clear hK K)
          refine Mix.take_exL _ _ 10 rfl (by kernel_rfl) (by kernel_rfl) (by kernel_rfl) (by kernel_rfl) (by kernel_rfl) (by kernel_rfl) (fun K hK => ?_)
          go_simp
          first | (refine hK _ ?_; clear hK K) | (apply Exists.intro; refine ⟨fun x => ?_, hK _ ?_⟩; (fail); clear hK K)
          refine Mix.take_exL _ _ 11 rfl (by kernel_rfl) (by kernel_rfl) (by kernel_rfl) (by kernel_rfl) (by kernel_rfl) (by kernel_rfl) (fun K hK => ?_)
          go_simp
          first | (refine hK _ ?_; clear hK K) | (apply Exists.intro; refine ⟨fun x => ?_, hK _ ?_⟩; (fail); clear hK K)
          refine Mix.take_exL _ _ 12 rfl (by kernel_rfl) (by kernel_rfl) (by kernel_rfl) (by kernel_rfl) (by kernel_rfl) (by kernel_rfl) (fun K hK => ?_)
          go_simp
          first | (refine hK _ ?_; clear hK K) | (apply Exists.intro; refine ⟨fun x => ?_, hK _ ?_⟩; (fail); clear hK K)
          refine Mix.take_exL _ _ 13 rfl (by kernel_rfl) (by kernel_rfl) (by kernel_rfl) (by kernel_rfl) (by kernel_rfl) (by kernel_rfl) (fun K hK => ?_)
          go_simp
          first | (refine hK _ ?_; clear hK K) | (apply Exists.intro; refine ⟨fun x => ?_, hK _ ?_⟩; (fail); clear hK K)
          refine Mix.take_exL _ _ 14 rfl (by kernel_rfl) (by kernel_rfl) (by kernel_rfl) (by kernel_rfl) (by kernel_rfl) (by kernel_rfl) (fun K hK => ?_)
          go_simp
          first | (refine hK _ ?_; clear hK K) | (apply Exists.intro; refine ⟨fun x => ?_, hK _ ?_⟩; (fail); clear hK K)
          refine Mix.take_exL _ _ 15 rfl (by kernel_rfl) (by kernel_rfl) (by kernel_rfl) (by kernel_rfl) (by kernel_rfl) (by kernel_rfl) (fun K hK => ?_)
          go_simp
          first | (refine hK _ ?_; clear hK K) | (apply Exists.intro; refine ⟨fun x => ?_, hK _ ?_⟩; (fail); clear hK K)
          refine Mix.allL (rs := [16]) (by kernel_rfl) (by simp) (.of_below _ hb20) (by kernel_rfl) ?_
          intro i21 hi21 w21 hb21 hC21
          simp only [List.mem_cons, List.not_mem_nil, or_false] at hi21
          subst hi21
          have HB21 := Lib.hid (bt hb20 hb21)
          clear hC21 hb20 hb21 hlk c2 cl k0 k1 kl l0 x0 x1 x2 x3 x4 n0 n1 n3
          refine Mix.op rfl (by kernel_rfl) ?_
          go_simp
          refine (fcopied ⟨i, g, t, .slice va n vc, ps⟩ w21 (HVZ.out.on HB21.out) HXL.out).mono ?_
          rintro e w22 ⟨u, rfl, hu, hb22⟩
          refine ⟨_, rfl, ?_⟩
          obtain ⟨ua, uc, huv, -, -⟩ := hu.vc.form
          subst huv
          have HU22 := Lib.hid (show OwnP w22 w21.heap.size (.slice ua ps.length uc) ps from hu)
          have HB22 := Lib.hid (bt HB21.out hb22)
          clear hb22 hu
          refine Mix.allL (rs := [17]) (by kernel_rfl) (by simp) (.of_below _ HB22.out) (by kernel_rfl) ?_
          intro i23 hi23 w23 hb23 hC23
          simp only [List.mem_cons, List.not_mem_nil, or_false] at hi23
          subst hi23
          have HB23 := Lib.hid (bt HB22.out hb23)
          have HU23 := Lib.hid (rowP_grow HU22.out hb23)
          clear hC23 hb23
          refine Mix.op rfl (by kernel_rfl) ?_
          go_simp
          refine Mix.allL (rs := [18]) (by kernel_rfl) (by simp) (.of_below _ (ba HB23.out _)) (by kernel_rfl) ?_
          intro i24 hi24 w24 hb24 hC24
          simp only [List.mem_cons, List.not_mem_nil, or_false] at hi24
          subst hi24
          have HB24 := Lib.hid (bt (ba HB23.out (.cells #[.int .i64 i, .int .i64 g, .int .i64 t, .slice ua ps.length uc] 72)) hb24)
          have HU24 := Lib.hid (rowP_grow (rowP_grow HU23.out (ba (Below.refl _ _) (.cells #[.int .i64 i, .int .i64 g, .int .i64 t, .slice ua ps.length uc] 72))) hb24)
          have hFB := (FB.made w23 i g t (.slice ua ps.length uc)).below hb24
          obtain ⟨v', w25, hrun, how, hgr, hnw⟩ := own_appF (HOW.out.below HB24.out) ⟨i, g, t, .slice ua ps.length uc, ps⟩ hFB rfl HLEN.out (by have := HFQ.out.bel.size; have := HB24.out.size; omega)
          obtain ⟨a', m', c', hv'⟩ : ∃ a m c, v' = .slice a m c := by
            obtain ⟨a, c, e, _⟩ := own_rs how
            exact ⟨a, _, c, e⟩
          subst hv'
          have HRA := Lib.hid hrun
          have HCH := Lib.hid (show Chg (OBf (.slice ya ym yc)) w24 w25 from Chg.of_grown hgr fun k e => e)
          have HO25 := Lib.hid how
          have HNW := Lib.hid (show ∀ q, (Value.slice a' m' c').ownBlock = some q → OBf (.slice ya ym yc) q ∨ w24.heap.size ≤ q from fun q hq => by
            rcases hnw with e | e
            · exact .inl (e.symm.trans hq)
            · rw [hq] at e; exact .inr (by cases e; exact Nat.le_refl _))
          clear hrun how hgr hnw hFB hC24 hb24
          refine Mix.opApp rfl (by kernel_rfl) _ _ _ rfl rfl rfl HRA.out ?_
          go_simp
          refine Mix.allL (rs := [19]) (by kernel_rfl) (by simp) ((Chg.of_below _ HB24.out).same HCH.out) (by kernel_rfl) ?_
          intro i29 hi29 w29 hb29 hC29
          simp only [List.mem_cons, List.not_mem_nil, or_false] at hi29
          subst hi29
          have HO25 := Lib.hid (HO25.out.below hb29)
          have HCH := Lib.hid (HCH.out.then_below hb29)
          clear hC29 hb29
          refine Mix.op rfl (by kernel_rfl) ?_
          go_simp
          refine Mix.take_exL _ _ 20 rfl (by kernel_rfl) (by kernel_rfl) (by kernel_rfl) (by kernel_rfl) (by kernel_rfl) (by kernel_rfl) (fun K hK => ?_)
          go_simp
          first | (refine hK _ ?_; clear hK K) | (apply Exists.intro; refine ⟨fun x => ?_, hK _ ?_⟩; (fail); clear hK K)
          refine Mix.allL (rs := [21]) (by kernel_rfl) (by simp) ((Chg.of_below _ HB24.out).same HCH.out) (by kernel_rfl) ?_
          intro i26 hi26 w26 hb26 hC26
          simp only [List.mem_cons, List.not_mem_nil, or_false] at hi26
          subst hi26
          have HL26 := Lib.hid (((HLB.out.below HB24.out).chg HCH.out n2).below hb26)
          have HO26 := Lib.hid (HO25.out.below hb26)
          have HC26 := Lib.hid (((Chg.of_below (OBf (.slice ya ym yc)) HB24.out).same HCH.out).then_below hb26)
          have HU26 := Lib.hid (show OwnP w26 w21.heap.size (.slice ua ps.length uc) ps from rowP_grow (ownsRow_chg HU24.out HCH.out fun q hq e => by
            obtain ⟨c, z, e2⟩ := row_obj HU24.out hq
            obtain ⟨c', z', e3⟩ := row_obj (HOW.out.below HB24.out) e
            rw [e2] at e3
            exact absurd (Obj.cells.inj (Option.some.inj e3)).2.1 (by decide)) hb26)
          have l0 := HL26.out.cell
          have l1 := HL26.out.fz 0
          have l2 := HL26.out.lt
          clear hC26 hb26 ll
          refine Mix.op rfl (by kernel_rfl) ?_
          go_simp
          refine Mix.doneL (by kernel_rfl) (by kernel_rfl) ?_
          intro w27 hb27
          clear l0 l1 l2
          have HC27 := Lib.hid (((Chg.refl (fun k => k = yb) w26).setCell (p := ⟨yb, 0, none⟩) (.inl rfl) (.slice a' m' c')).then_below hb27)
          have HL27 := Lib.hid ((HL26.out.set (.slice a' m' c')).below hb27)
          have ho27 := (HC27.out.block tp (Nat.lt_of_lt_of_le HFQ.out.lt.1 HC26.out.size) HNO.out.2.2).trans ((HC26.out.block tp HFQ.out.lt.1 HNO.out.1.1).trans HFQ.out.obj)
          have HO27 := Lib.hid ho27
          have c1 : w27.cell? ⟨tp, 1, none⟩ = some (.int .i64 (S.length : Nat)) := by simp [World.cell?, ho27]
          have cf : w27.frozen? ⟨tp, 1, none⟩ = false := by simp [World.frozen?, ho27]
          have cl : tp < w27.heap.size := (Array.getElem?_eq_some_iff.1 ho27).1
          have hwr : IntKind.i64.wrap ((S.length : Int) + 1) = (S.length : Int) + 1 := IntWalk.i64_in _ (by have := HFQ.out.c1; have := HCP.out; omega)
          clear ho27 hb27
          go_wp2
          go_ret
          have hyq := HFQ.out.lst _ _ HF1.out
          have hne2 : ∀ q, (Value.slice a' m' c').ownBlock = some q → q ≠ yb ∧ q ≠ tp := fun q hq => by
            rcases HNW.out q hq with e | e
            · exact ⟨fun h => n2 (h ▸ e), fun h => HNO.out.1.1 (h ▸ e)⟩
            · have h1 := HLB.out.lt; have h2 := HB24.out.size; have h3 := HFQ.out.lt.1
              exact ⟨by omega, by omega⟩
          have hCT := (Chg.refl (fun k => k = tp) w27).setCell (p := ⟨tp, 1, none⟩) (.inl rfl) (.int .i64 ((S.length : Int) + 1))
          have hc : Chg (fun b => b = tp ∨ b = yb ∨ OBf (.slice ya ym yc) b) w8 (w27.setCell ⟨tp, 1, none⟩ (.int .i64 ((S.length : Int) + 1))) :=
            ((HC26.out.mono fun k e => .inr (.inr e)).same (HC27.out.mono fun k e => .inr (.inl e))).same (hCT.mono fun k e => .inl e)
          refine ⟨by unfold putE; rw [if_pos HOK.out, if_neg HIN.out, if_neg (by have := HCP.out; omega)]; rfl, ⟨upd F ⟨i, g⟩ (some ⟨yb, .slice a' m' c', yl ++ [⟨i, g, t, .slice ua ps.length uc, ps⟩]⟩), ?_, by
            intro q hq
            have key : ∀ q, TB tp M (upd F ⟨i, g⟩ (some ⟨yb, .slice a' m' c', yl ++ [⟨i, g, t, .slice ua ps.length uc, ps⟩]⟩)) q → TB tp M F q ∨ w8.heap.size ≤ q := fun q hq => by
              rcases hq with e | e | ⟨k, x, hx, e⟩
              · exact .inl (.inl e)
              · exact .inl (.inr (.inl e))
              · unfold upd at hx
                split at hx
                · cases hx
                  rcases e with e | e
                  · exact .inl (.inr (.inr ⟨_, _, HF1.out, .inl e⟩))
                  · rcases HNW.out q e with e2 | e2
                    · exact .inl (.inr (.inr ⟨_, _, HF1.out, .inr e2⟩))
                    · exact .inr (by have := HB24.out.size; omega)
                · exact .inl (.inr (.inr ⟨k, x, hx, e⟩))
            rcases key q hq with h | h
            · exact HTB.out q h
            · exact .inr (by have := HCT.out.size; omega), HCT.out.trans hc fun q e => HTB.out q (by
            rcases e with e | e | e
            · exact .inl e
            · exact .inr (.inr ⟨_, _, HF1.out, .inl e⟩)
            · exact .inr (.inr ⟨_, _, HF1.out, .inr e⟩))⟩, FrG.trans HCZ.out (hc.mono (HFQ.out.frG HF1.out))⟩
          unfold putP
          rw [if_pos HOK.out, if_neg HIN.out, if_neg (by have := HCP.out; omega)]
          refine HFQ.out.put (x := ⟨i, g, t, .slice ua ps.length uc, ps⟩) HF1.out HNM.out rfl ⟨HOK.out.1, HOK.out.2.1, HOK.out.2.2.1, HI.out.1, HI.out.2.1, HI.out.2.2, HOK.out.2.2.2.1, HOK.out.2.2.2.2⟩ HCP.out hc ?_ ?_ ?_ ?_ (fun q hq => (HNW.out q hq).imp id fun e => by have := HB24.out.size; omega)
          · have := heap_setCell_at (b := tp) (o := 1) (.int .i64 ((S.length : Int) + 1)) HO27.out
            exact this
          · exact HL27.out.chg hCT fun e => HNO.out.2.2 e.symm
          · exact (HO26.out.chg HC27.out fun q hq => (hne2 q hq).1).chg hCT fun q hq => (hne2 q hq).2
          · have hu : ∀ q, (Value.slice ua ps.length uc).ownBlock = some q → q ≠ yb ∧ q ≠ tp := fun q hq => by
              have h1 := (HU26.out.lt q hq).1
              have h2 := HLB.out.lt; have h3 := HFQ.out.lt.1; have h4 := HB21.out.size
              exact ⟨by omega, by omega⟩
            exact ownsRow_base (ownsRow_chg (ownsRow_chg HU26.out HC27.out fun q hq => (hu q hq).1) hCT fun q hq => (hu q hq).2) (by have := HFQ.out.bel.size; have := HB21.out.size; omega)
  · have HNO := Lib.hid (show ¬ PArg (i, g, t, ps) from fun h => k5 h.2.2.2.2)
    have hb1 := ba (Below.refl w.heap.size w) (.cells #[.int .i64 i, .int .i64 g, .int .i64 t, .slice va n vc] 72)
    have HX := Lib.hid (FB.made w i g t (.slice va n vc))
    have HB1 := Lib.hid hb1
    have H1 := Lib.hid (h.below hb1)
    have HV1 := Lib.hid (hx.on hb1)
    clear hb1 h hx
    obtain ⟨x0, x1, x2, x3⟩ := HX.out.cells
    have x4 := HX.out.lt
    go_enter Try.func45, Try.ntmps45
    go_wp2_with fail
    refine (fmade H1.out.toFQ).mono ?_
    rintro e w2 ⟨rfl, hw2⟩
    rw [hw2]
    clear hw2 w2
    have hR := vecright_all (.slice va n vc) ps _ HV1.out
    rw [decide_eq_false k5] at hR
    go_wp2_with fail
    refine hR.mono ?_
    rintro e w2 ⟨rfl, hb2⟩
    have HB2 := Lib.hid (bt HB1.out hb2)
    have H2 := Lib.hid (H1.out.below hb2)
    clear hb2
    go_wp2
    go_ret
    refine ⟨by unfold putE; rw [if_neg HNO.out]; rfl, ⟨F, ?_, fun q h => .inl h, .of_below _ HB2.out⟩, .of_below _ HB2.out⟩
    unfold putP; rw [if_neg HNO.out]; exact H2.out
theorem fput (h : FT W w tp M cap F S) (x : Fl) (hx : Vc w x.vv x.ps) (hxl : x.ps.length < 1000000) (hsl : S.length < 900000) (hi : I64 x.fr ∧ I64 x.ag ∧ I64 x.ti) :
    Calls Try.prog 45 #[fptr tp, flval x] w fun e w' => e = .returned (.int .i64 (putE cap S x.pl)) ∧ FP W w' tp M cap (putP cap S x.pl) ∧ Chg (FrG W w) w w' :=
  (fputF h x hx hxl hsl hi).mono fun _ _ ⟨h1, ⟨F', h2, _, _⟩, h3⟩ => ⟨h1, ⟨F', h2⟩, h3⟩
end
end Go.Proofs.Ytennhfkhdfalfaa

/- alarm: what the blocks hold; made, At. -/
import Derived.Test.YtajcelmnblncaaaHeap10
import Derived.Test.YtajcelmnblncaaaHeapV
import Derived.Test.YtajcelmnblncaaaAl0
import Derived.Test.YtajcelmnblncaaaMapI
import Derived.DeepKeys4
import Derived.ChangeAlike
import Derived.Outline
namespace Go.Proofs.Ytajcelmnblncaaa
open Go.RowKit Go.Maps Go.WideMaps
open Go.ChangeMaps (setBlock)
attribute [local go_sem] ext_cell ext_frozen extC_cell extC_frozen Mix.calmUpon Mix.mUpon
theorem laidB : laidOutB Try.prog = true := by kernel_rfl
theorem rowKey : 79 < Try.prog.types.size := of_decide_eq_true (by kernel_rfl)
theorem lawKey : Keyed Try.prog 79 := Keyed.of_law (deep_law_laid laidB (m := 2) (by omega) rowKey (by kernel_rfl) (by kernel_rfl))
theorem keyKey : Try.prog.keyType 79 = true := by kernel_rfl
theorem cellsKey : Try.prog.cellsOf 79 = 3 := by kernel_rfl
theorem cellsI : Try.prog.cellsOf 3 = 1 := by kernel_rfl
theorem cellsI64 : Try.prog.cellsOf 2 = 1 := by kernel_rfl
theorem sizeTK : ∃ m, Try.prog.types.size = m + 1 := ⟨Try.prog.types.size - 1, by have := rowKey; omega⟩
abbrev kval (k : Ky) : Value := .agg #[.int .i64 k.1, .int .i64 k.2.1, .int .i64 k.2.2]
def KOk (k : Ky) : Prop := J64 k.1 ∧ J64 k.2.1 ∧ J64 k.2.2
theorem keyLit (k : Ky) (h : KOk k) : ∃ l, keyOf Try.prog 79 (kval k) = some l := by
  obtain ⟨a, b, c⟩ := k
  obtain ⟨ha, hb, hc⟩ := h
  have wa := j64_lit ha; have wb := j64_lit hb; have wc := j64_lit hc
  obtain ⟨m, hm⟩ := sizeTK
  refine ⟨.string (keyBytes [.int .i64 a, .int .i64 b, .int .i64 c]), ?_⟩
  unfold keyOf
  simp only [Try.underlying79]
  rw [if_pos (by simp [keyKey, Value.formed, Try.underlying79, cellsKey]), hm]
  unfold Program.keyLits
  simp only [Try.underlying79, Value.cells]
  rw [if_pos (by constructor; (· rw [cellsKey]; rfl); (· kernel_rfl))]
  simp [Program.keyLits, Try.underlying3, Try.underlying2, wa, wb, wc, cellsI, cellsI64]
theorem kval_inj {a b : Ky} (h : kval a = kval b) : a = b := by
  injection h with h
  simp at h
  exact ky_ext h.1 h.2.1 h.2.2
/-- Keys of alarms, as keys. -/
def K3 : KEnc Try.prog 79 Ky where
  enc := kval
  ok := KOk
  lit := keyLit
  inj := fun _ _ _ _ h => kval_inj h
/-- What a list of entries tells of a key. -/
def lkK (L : List (Ky × Value)) (k : Ky) : Option Value := @List.lookup Ky Value instBEqOfDecidableEq k L
/-- Block ap holds alarms. -/
structure AO (w : World) (ap hp Mn Mk : Nat) (last : Int) (Ln : List (Ky × Value)) (Lk : List (Int × Value)) (F : Nat → Prop) (l : List It) (s : Int) (R : List Rc) : Prop where
  obj : w.heap[ap]? = some (.cells #[ptr hp, .map (some Mn), .map (some Mk), .int .i64 last] 99 (0, 0))
  nm : MapK K3 w Mn Ln
  km : MapK K64 w Mk Lk
  hl : HL w hp F l s
  ln : ∀ k, lkK Ln k = (fK R k).map fun x => .int .i64 x.num
  lk : ∀ n, Lk.lookup n = (fN R n).map fun x => kval x.key
  lo : ∀ n, Lof l n = (fN R n).map (·.at_)
  len : l.length = R.length
  ri : RI R
  rng : ∀ x ∈ R, 1 ≤ x.num ∧ x.num ≤ last ∧ KOk x.key ∧ J64 x.at_
  ds : ap ≠ Mn ∧ ap ≠ Mk ∧ Mn ≠ Mk
  nf : ¬ F ap ∧ ¬ F Mn ∧ ¬ F Mk
/-- How much has been done. -/
structure Bd (last s : Int) (n c : Nat) : Prop where
  l0 : 0 ≤ last
  l1 : last ≤ c
  s0 : 0 ≤ s
  s1 : s ≤ 40 * c
  n1 : n ≤ c
  c1 : c ≤ 80000
def AG (ap Mn Mk : Nat) (F : Nat → Prop) : Nat → Prop := fun k => k = ap ∨ k = Mn ∨ k = Mk ∨ F k
/-- Block ap holds these alarms; G: its blocks. -/
def AS (w : World) (ap : Nat) (G : Nat → Prop) (R : List Rc) (c : Nat) : Prop := ∃ hp Mn Mk last Ln Lk F l s, AO w ap hp Mn Mk last Ln Lk F l s R ∧ G = AG ap Mn Mk F ∧ Bd last s R.length c
/-- What a call on alarms leaves. -/
def AR (w w' : World) (ap : Nat) (G : Nat → Prop) (R' : List Rc) (c : Nat) : Prop := ∃ G', AS w' ap G' R' c ∧ Chg G w w' ∧ ∀ k, G' k → G k ∨ w.heap.size ≤ k
section
variable {w : World} {ap hp Mn Mk : Nat} {last : Int} {Ln : List (Ky × Value)} {Lk : List (Int × Value)} {F : Nat → Prop} {l : List It} {s : Int} {R : List Rc} {G : Nat → Prop} {c : Nat}
theorem AO.lt (h : AO w ap hp Mn Mk last Ln Lk F l s R) : ∀ k, AG ap Mn Mk F k → k < w.heap.size := by
  rintro k (rfl | rfl | rfl | hk)
  · exact (Array.getElem?_eq_some_iff.1 h.obj).1
  · exact h.nm.lt
  · exact h.km.lt
  · exact h.hl.lt k hk
theorem AO.chg {H : Nat → Prop} {w' : World} (h : AO w ap hp Mn Mk last Ln Lk F l s R) (hc : Chg H w w') (hf : ∀ k, AG ap Mn Mk F k → ¬ H k) : AO w' ap hp Mn Mk last Ln Lk F l s R :=
  ⟨by rw [hc.block ap (h.lt ap (.inl rfl)) (hf ap (.inl rfl))]; exact h.obj, h.nm.chg hc (hf Mn (.inr (.inl rfl))), h.km.chg hc (hf Mk (.inr (.inr (.inl rfl)))), h.hl.chg hc (fun k hk => hf k (.inr (.inr (.inr hk)))), h.ln, h.lk, h.lo, h.len, h.ri, h.rng, h.ds, h.nf⟩
theorem AO.below {w' : World} (h : AO w ap hp Mn Mk last Ln Lk F l s R) (hb : Below w.heap.size w w') : AO w' ap hp Mn Mk last Ln Lk F l s R := h.chg (H := fun _ => False) (.of_below _ hb) fun _ _ => id
theorem AS.below {w' : World} (h : AS w ap G R c) (hb : Below w.heap.size w w') : AS w' ap G R c := by
  obtain ⟨hp, Mn, Mk, last, Ln, Lk, F, l, s, h, e, b⟩ := h
  exact ⟨hp, Mn, Mk, last, Ln, Lk, F, l, s, h.below hb, e, b⟩
theorem AS.lt (h : AS w ap G R c) : ∀ k, G k → k < w.heap.size := by
  obtain ⟨hp, Mn, Mk, last, Ln, Lk, F, l, s, h, rfl, b⟩ := h
  exact h.lt
theorem AS.more (h : AS w ap G R c) {c' : Nat} (hc : c ≤ c') (h8 : c' ≤ 80000) : AS w ap G R c' := by
  obtain ⟨hp, Mn, Mk, last, Ln, Lk, F, l, s, h, e, b⟩ := h
  exact ⟨hp, Mn, Mk, last, Ln, Lk, F, l, s, h, e, ⟨b.l0, by have := b.l1; omega, b.s0, by have := b.s1; omega, by have := b.n1; omega, h8⟩⟩
theorem AS.ri (h : AS w ap G R c) : RI R := by obtain ⟨_, _, _, _, _, _, _, _, _, h, _, _⟩ := h; exact h.ri
theorem AO.c0 (h : AO w ap hp Mn Mk last Ln Lk F l s R) : w.cell? ⟨ap, 0, none⟩ = some (ptr hp) := by simp [World.cell?, h.obj]
theorem AO.c1 (h : AO w ap hp Mn Mk last Ln Lk F l s R) : w.cell? ⟨ap, 1, none⟩ = some (.map (some Mn)) := by simp [World.cell?, h.obj]
theorem AO.c2 (h : AO w ap hp Mn Mk last Ln Lk F l s R) : w.cell? ⟨ap, 2, none⟩ = some (.map (some Mk)) := by simp [World.cell?, h.obj]
theorem AO.c3 (h : AO w ap hp Mn Mk last Ln Lk F l s R) : w.cell? ⟨ap, 3, none⟩ = some (.int .i64 last) := by simp [World.cell?, h.obj]
theorem AO.fz (h : AO w ap hp Mn Mk last Ln Lk F l s R) (o : Nat) : w.frozen? ⟨ap, o, none⟩ = false := by simp [World.frozen?, h.obj]
theorem AO.find (h : AO w ap hp Mn Mk last Ln Lk F l s R) {k : Ky} (hk : KOk k) (d : Bool) : (Instr.lookup 96 (.map (some Mn)) (kval k) d).run Try.prog w =
    .ok (if d then .tuple #[((fK R k).map fun x => Value.int .i64 x.num).getD (.int .i64 0), .bool (fK R k).isSome] else ((fK R k).map fun x => Value.int .i64 x.num).getD (.int .i64 0)) w := by
  have hz : (zeroValue 2).run Try.prog w = .ok (.int .i64 0) w := Try.zeroValue2 w
  have := h.nm.look lawKey Try.underlying96 hz (x := k) hk d
  have e := h.ln k
  unfold lkK at e
  rw [e, show ((fK R k).map fun x => Value.int .i64 x.num).isSome = (fK R k).isSome by simp] at this
  exact this
theorem AO.findk (h : AO w ap hp Mn Mk last Ln Lk F l s R) {n : Int} (hn : J64 n) : (Instr.lookup 97 (.map (some Mk)) (.int .i64 n) false).run Try.prog w =
    .ok (((fN R n).map fun x => kval x.key).getD (kval (0, 0, 0))) w := by
  have hz : (zeroValue 79).run Try.prog w = .ok (kval (0, 0, 0)) w := Try.zeroValue79 w
  have := h.km.look key64 Try.underlying97 hz (x := n) hn false
  rw [h.lk] at this
  exact this.trans (by simp)
set_option maxRecDepth 100000 in
theorem amade (h : AS w ap G R c) : Calls Try.prog 95 #[ptr ap] w fun e w' => e = .returned (.bool true) ∧ Below w.heap.size w w' := by
  obtain ⟨hp, Mn, Mk, last, Ln, Lk, F, l, s, h, _, _⟩ := h
  have c0 := h.c0
  clear h
  go_enter Try.func95, Try.ntmps95
  go_wp2
  go_ret
  exact ⟨rfl, Below.refl _ _⟩
theorem num64 (h : AO w ap hp Mn Mk last Ln Lk F l s R) (b : Bd last s R.length c) {x : Rc} (hx : x ∈ R) : J64 x.num := by
  have h1 := h.rng x hx
  have h2 := b.l1; have h3 := b.c1
  exact ⟨by omega, by omega⟩
/-- What At answers. -/
def atA (R : List Rc) (k : Ky) : Value := match fK R k with | some x => .tuple #[.int .i64 x.at_, .bool true] | none => .tuple #[.int .i64 0, .bool false]
set_option maxRecDepth 100000 in
theorem aat (h : AS w ap G R c) {k : Ky} (hk : KOk k) : Calls Try.prog 45 #[ptr ap, kval k] w fun e w' => e = .returned (atA R k) ∧ Below w.heap.size w w' := by
  have H := Lib.hid h
  have HB0 := Lib.hid (show Below w.heap.size w (w.alloc (.cells #[.int .i64 k.1, .int .i64 k.2.1, .int .i64 k.2.2] 79)) from ba (Below.refl _ _) _)
  have hs0 : w.heap.size < (w.alloc (.cells #[.int .i64 k.1, .int .i64 k.2.1, .int .i64 k.2.2] 79)).heap.size := by simp
  have hx := show (w.alloc (.cells #[.int .i64 k.1, .int .i64 k.2.1, .int .i64 k.2.2] 79)).cell? ⟨w.heap.size, 0, none⟩ = some (.int .i64 k.1) ∧ (w.alloc (.cells #[.int .i64 k.1, .int .i64 k.2.1, .int .i64 k.2.2] 79)).cell? ⟨w.heap.size, 1, none⟩ = some (.int .i64 k.2.1) ∧ (w.alloc (.cells #[.int .i64 k.1, .int .i64 k.2.1, .int .i64 k.2.2] 79)).cell? ⟨w.heap.size, 2, none⟩ = some (.int .i64 k.2.2) by simp [go_sem]
  have HX := Lib.hid hx
  have HS0 := Lib.hid hs0
  clear h hx
  go_enter Try.func45, Try.ntmps45
  go_wp2_with fail
  generalize w.alloc (.cells #[.int .i64 k.1, .int .i64 k.2.1, .int .i64 k.2.2] 79) = w1 at *
  refine (amade (H.out.below HB0.out)).mono ?_
  rintro e w2 ⟨rfl, hb2⟩
  have HB2 := Lib.hid (bt HB0.out hb2)
  have x0 := (hb2.cell (p := ⟨w.heap.size, 0, none⟩) HS0.out).trans HX.out.1
  have x1 := (hb2.cell (p := ⟨w.heap.size, 1, none⟩) HS0.out).trans HX.out.2.1
  have x2 := (hb2.cell (p := ⟨w.heap.size, 2, none⟩) HS0.out).trans HX.out.2.2
  have hs2 : w.heap.size < w2.heap.size := Nat.lt_of_lt_of_le HS0.out hb2.size
  obtain ⟨hp, Mn, Mk, last, Ln, Lk, F, l, s, h2, hG, hbd⟩ := H.out.below HB2.out
  have c0 := h2.c0; have c1 := h2.c1
  have hl := h2.lt ap (.inl rfl)
  have H2 := Lib.hid h2
  have HD := Lib.hid hbd
  clear h2 hb2 hG hbd
  have hlook := (H2.out.below (bd (Below.refl _ _))).find hk true
  cases hf : fK R k with
  | none =>
    rw [hf] at hlook
    replace hlook := hlook.trans (show _ = .ok (.tuple #[.int .i64 0, .bool false]) w2.drew from rfl)
    go_wp2
    go_region
    go_wp2
    go_ret2
    exact ⟨by unfold atA; rw [hf]; rfl, bd HB2.out⟩
  | some x =>
    rw [hf] at hlook
    replace hlook := hlook.trans (show _ = .ok (.tuple #[.int .i64 x.num, .bool true]) w2.drew from rfl)
    have hxm := (Srt.fnd_mem hf).1
    have HX2 := Lib.hid hxm
    have HN := Lib.hid (num64 H2.out HD.out hxm)
    have HLO := Lib.hid (show Lof l x.num = some x.at_ by rw [H2.out.lo, H2.out.ri.fnum hxm]; rfl)
    clear hxm
    go_wp2
    go_region
    have HB3 := Lib.hid (show Below w.heap.size w w2.drew from bd HB2.out)
    have H3 := Lib.hid (H2.out.below (bd (Below.refl _ _)))
    clear x0 x1 x2 hs2 c0 c1 hl hlook
    generalize w2.drew = w3 at *
    have c0 := H3.out.c0
    have hl := H3.out.lt ap (.inl rfl)
    go_wp2_with fail
    refine (hat_any H3.out.hl x.num HN.out).mono ?_
    rintro e w4 ⟨rfl, hb4⟩
    rw [HLO.out]
    have HB4 := Lib.hid (bt HB3.out hb4)
    clear hb4
    go_wp2
    go_ret2
    exact ⟨by unfold atA; rw [hf]; rfl, HB4.out⟩
end
end Go.Proofs.Ytajcelmnblncaaa

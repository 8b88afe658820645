/- Binary trees of numbers, told by lists; how a tree lies in memory. -/
import Derived.Test.YtajcelmnblncaaaChg
namespace Go.Proofs.Ytajcelmnblncaaa
open Go.RowKit
inductive Tr where
  | lf : Tr
  | nd : Tr → Int → Tr → Tr
def dp : Tr → Nat
  | .lf => 0
  | .nd l _ r => 1 + max (dp l) (dp r)
def sz : Tr → Nat
  | .lf => 0
  | .nd l _ r => 1 + sz l + sz r
def tl : Tr → List Int
  | .lf => []
  | .nd l k r => tl l ++ k :: tl r
theorem tl_len : ∀ t, (tl t).length = sz t
  | .lf => rfl
  | .nd l k r => by simp only [tl, sz, List.length_append, List.length_cons, tl_len l, tl_len r]; omega
theorem dp_le : ∀ t, dp t ≤ sz t
  | .lf => Nat.le_refl _
  | .nd l k r => by have h1 := dp_le l; have h2 := dp_le r; simp only [dp, sz]; omega
theorem dp_pos {t : Tr} (h : 0 < dp t) : ∃ l k r, t = .nd l k r := by
  cases t with
  | lf => simp [dp] at h
  | nd l k r => exact ⟨l, k, r, rfl⟩
/-- An order on the numbers of J. -/
structure OA (J : Int → Prop) (o : Int → Int → Int) : Prop where
  zero : ∀ a b, J a → J b → (o a b = 0 ↔ a = b)
  anti : ∀ a b, J a → J b → (o a b < 0 ↔ 0 < o b a)
  trans : ∀ a b c, J a → J b → J c → o a b < 0 → o b c < 0 → o a c < 0
  in64 : ∀ a b, J a → J b → -9223372036854775808 ≤ o a b ∧ o a b ≤ 9223372036854775807
/-- A list in order, all of J. -/
def SL (J : Int → Prop) (o : Int → Int → Int) (L : List Int) : Prop := (∀ x ∈ L, J x) ∧ L.Pairwise fun a b => o a b < 0
section
variable {J : Int → Prop} {o : Int → Int → Int}
theorem SL.nil : SL J o [] := ⟨(fun _ h => by cases h), List.Pairwise.nil⟩
theorem SL.left {A B : List Int} (h : SL J o (A ++ B)) : SL J o A := ⟨fun x hx => h.1 x (by simp [hx]), (List.pairwise_append.1 h.2).1⟩
theorem SL.right {A B : List Int} (h : SL J o (A ++ B)) : SL J o B := ⟨fun x hx => h.1 x (by simp [hx]), (List.pairwise_append.1 h.2).2.1⟩
theorem SL.tail {x : Int} {B : List Int} (h : SL J o (x :: B)) : SL J o B := ⟨fun y hy => h.1 y (by simp [hy]), (List.pairwise_cons.1 h.2).2⟩
theorem SL.mid {A B : List Int} {x : Int} (h : SL J o (A ++ x :: B)) : J x ∧ (∀ y ∈ A, J y ∧ o y x < 0) ∧ ∀ y ∈ B, J y ∧ o x y < 0 :=
  ⟨h.1 x (by simp), fun y hy => ⟨h.1 y (by simp [hy]), (List.pairwise_append.1 h.2).2.2 y hy x (by simp)⟩, fun y hy => ⟨h.1 y (by simp [hy]), (List.pairwise_cons.1 (List.pairwise_append.1 h.2).2.1).1 y hy⟩⟩
/-- With a number, in its place. -/
def insL (o : Int → Int → Int) (k : Int) : List Int → List Int
  | [] => [k]
  | x :: t => if o k x < 0 then k :: x :: t else if o k x = 0 then x :: t else x :: insL o k t
def delL (k : Int) (L : List Int) : List Int := L.filter fun x => decide (x ≠ k)
/-- The place of a number; -1: it is not there. -/
def plL (L : List Int) (k : Int) : Int := if k ∈ L then (L.idxOf k : Nat) else -1
theorem insL_lt {k x : Int} {B : List Int} (h : o k x < 0) : ∀ A, insL o k (A ++ x :: B) = insL o k A ++ x :: B
  | [] => by simp [insL, h]
  | p :: A => by
    simp only [List.cons_append, insL, insL_lt h A]
    split
    · rfl
    · split <;> rfl
theorem insL_gt {k : Int} {B : List Int} : ∀ {A : List Int}, (∀ y ∈ A, 0 < o k y) → insL o k (A ++ B) = A ++ insL o k B
  | [], _ => rfl
  | p :: A, h => by
    have h0 := h p (by simp)
    simp only [List.cons_append, insL]
    rw [if_neg (by omega), if_neg (by omega), insL_gt fun y hy => h y (by simp [hy])]
theorem mem_insL {k x : Int} (hz : ∀ y, o k y = 0 → k = y) : ∀ {L : List Int}, x ∈ insL o k L ↔ x = k ∨ x ∈ L
  | [] => by simp [insL]
  | p :: t => by
    simp only [insL]
    split
    · simp
    · split
      · rename_i h; have := hz p h; subst this; simp
      · simp only [List.mem_cons, mem_insL hz]; constructor <;> (rintro (h | h | h) <;> simp [h])
variable (O : OA J o) {A B : List Int} {k x : Int}
include O
theorem SL.gt (h : SL J o (A ++ x :: B)) (hk : J k) (hx : 0 ≤ o k x) : ∀ y ∈ A, 0 < o k y := fun y hy => by
  obtain ⟨jx, ha, _⟩ := h.mid
  obtain ⟨jy, hy'⟩ := ha y hy
  rcases Int.lt_or_le 0 (o k x) with h0 | h0
  · have h1 := (O.anti x k jx hk).2 h0
    exact (O.anti y k jy hk).1 (O.trans y x k jy jx hk hy' h1)
  · have e := (O.zero k x hk jx).1 (by omega)
    subst e
    exact (O.anti y k jy hk).1 hy'
theorem SL.lt (h : SL J o (A ++ x :: B)) (hk : J k) (hx : o k x ≤ 0) : ∀ y ∈ B, o k y < 0 := fun y hy => by
  obtain ⟨jx, _, hb⟩ := h.mid
  obtain ⟨jy, hy'⟩ := hb y hy
  rcases Int.lt_or_le (o k x) 0 with h0 | h0
  · exact O.trans k x y hk jx jy h0 hy'
  · have e := (O.zero k x hk jx).1 (by omega)
    subst e; exact hy'
theorem ne_of {a b : Int} (ha : J a) (hb : J b) (h : o a b ≠ 0) : a ≠ b := fun e => h ((O.zero a b ha hb).2 e)
theorem SL.not_left (h : SL J o (A ++ x :: B)) (hk : J k) (hx : 0 ≤ o k x) : k ∉ A := fun hm => by
  have h1 := h.gt O hk hx k hm
  have := (O.zero k k hk hk).2 rfl
  omega
theorem SL.not_right (h : SL J o (A ++ x :: B)) (hk : J k) (hx : o k x ≤ 0) : k ∉ B := fun hm => by
  have h1 := h.lt O hk hx k hm
  have := (O.zero k k hk hk).2 rfl
  omega
theorem insL_here (h : SL J o (A ++ x :: B)) (hk : J k) (hx : o k x = 0) : insL o k (A ++ x :: B) = A ++ x :: B := by
  rw [insL_gt (h.gt O hk (by omega))]
  simp [insL, hx]
theorem insL_right (h : SL J o (A ++ x :: B)) (hk : J k) (hx : 0 < o k x) : insL o k (A ++ x :: B) = A ++ x :: insL o k B := by
  rw [insL_gt (h.gt O hk (by omega)), insL, if_neg (by omega), if_neg (by omega)]
theorem mem_lt (h : SL J o (A ++ x :: B)) (hk : J k) (hx : o k x < 0) : k ∈ A ++ x :: B ↔ k ∈ A := by
  have h1 := h.not_right O hk (by omega)
  have h2 := ne_of O hk h.mid.1 (by omega)
  simp [h1, h2]
theorem mem_gt (h : SL J o (A ++ x :: B)) (hk : J k) (hx : 0 < o k x) : k ∈ A ++ x :: B ↔ k ∈ B := by
  have h1 := h.not_left O hk (by omega)
  have h2 := ne_of O hk h.mid.1 (by omega)
  simp [h1, h2]
theorem mem_eq (h : SL J o (A ++ x :: B)) (hk : J k) (hx : o k x = 0) : k ∈ A ++ x :: B := by
  have := (O.zero k x hk h.mid.1).1 hx
  simp [this]
omit O in
theorem delL_not (h : k ∉ A) : delL k A = A := List.filter_eq_self.2 fun y hy => by
  have : y ≠ k := fun e => h (e ▸ hy)
  simpa using this
omit O in
theorem delL_app : delL k (A ++ B) = delL k A ++ delL k B := List.filter_append ..
theorem delL_lt (h : SL J o (A ++ x :: B)) (hk : J k) (hx : o k x < 0) : delL k (A ++ x :: B) = delL k A ++ x :: B := by
  have h2 := ne_of O hk h.mid.1 (by omega)
  rw [delL_app, delL_not (A := x :: B) (by simp [h2, h.not_right O hk (by omega)])]
theorem delL_gt (h : SL J o (A ++ x :: B)) (hk : J k) (hx : 0 < o k x) : delL k (A ++ x :: B) = A ++ x :: delL k B := by
  have h2 := ne_of O hk h.mid.1 (by omega)
  rw [delL_app, delL_not (h.not_left O hk (by omega))]
  congr 1
  unfold delL
  rw [List.filter_cons, if_pos (by simpa using fun e => h2 e.symm)]
theorem delL_here (h : SL J o (A ++ x :: B)) (hk : J k) (hx : o k x = 0) : delL k (A ++ x :: B) = A ++ B := by
  have e := (O.zero k x hk h.mid.1).1 hx
  rw [delL_app, delL_not (h.not_left O hk (by omega))]
  congr 1
  have h3 := h.not_right O hk (by omega)
  have : delL k (x :: B) = delL k B := by unfold delL; rw [List.filter_cons, if_neg (by simp [e])]
  rw [this, delL_not h3]
theorem SL.insL (h : SL J o A) (hk : J k) : SL J o (insL o k A) := by
  induction A with
  | nil => exact ⟨by simp [Proofs.Ytajcelmnblncaaa.insL, hk], by simp [Proofs.Ytajcelmnblncaaa.insL]⟩
  | cons p t ih =>
    have hp := h.1 p (by simp)
    have ht := (List.pairwise_cons.1 h.2).1
    simp only [Proofs.Ytajcelmnblncaaa.insL]
    split
    · rename_i hl
      refine ⟨fun y hy => ?_, List.pairwise_cons.2 ⟨fun y hy => ?_, h.2⟩⟩
      · rcases List.mem_cons.1 hy with rfl | hy
        · exact hk
        · exact h.1 y hy
      · rcases List.mem_cons.1 hy with rfl | hy
        · exact hl
        · exact O.trans k p y hk hp (h.1 y (by simp [hy])) hl (ht y hy)
    · split
      · exact h
      · rename_i h1 h2
        have ih := ih h.tail
        have hm : ∀ y ∈ Proofs.Ytajcelmnblncaaa.insL o k t, J y ∧ o p y < 0 := by
          have : ∀ (L : List Int), (∀ y ∈ L, J y ∧ o p y < 0) → ∀ y ∈ Proofs.Ytajcelmnblncaaa.insL o k L, J y ∧ o p y < 0 := by
            intro L hL
            induction L with
            | nil => intro y hy; simp [Proofs.Ytajcelmnblncaaa.insL] at hy; subst hy; exact ⟨hk, (O.anti p y hp hk).2 (by omega)⟩
            | cons q s ihs =>
              intro y hy
              simp only [Proofs.Ytajcelmnblncaaa.insL] at hy
              split at hy
              · rcases List.mem_cons.1 hy with rfl | hy
                · exact ⟨hk, (O.anti p y hp hk).2 (by omega)⟩
                · exact hL y hy
              · split at hy
                · exact hL y hy
                · rcases List.mem_cons.1 hy with rfl | hy
                  · exact hL _ (by simp)
                  · exact ihs (fun z hz => hL z (by simp [hz])) y hy
          exact this t fun y hy => ⟨h.1 y (by simp [hy]), ht y hy⟩
        exact ⟨fun y hy => by
          rcases List.mem_cons.1 hy with rfl | hy
          · exact hp
          · exact (hm y hy).1, List.pairwise_cons.2 ⟨fun y hy => (hm y hy).2, ih.2⟩⟩
omit O in
theorem SL.delL (h : SL J o A) : SL J o (delL k A) := ⟨fun y hy => h.1 y (List.mem_filter.1 hy).1, h.2.filter _⟩
theorem pl_lt (h : SL J o (A ++ x :: B)) (hk : J k) (hx : o k x < 0) : plL (A ++ x :: B) k = plL A k := by
  unfold plL
  by_cases hm : k ∈ A
  · rw [if_pos ((mem_lt O h hk hx).2 hm), if_pos hm, List.idxOf_append, if_pos hm]
  · rw [if_neg (fun e => hm ((mem_lt O h hk hx).1 e)), if_neg hm]
theorem pl_here (h : SL J o (A ++ x :: B)) (hk : J k) (hx : o k x = 0) : plL (A ++ x :: B) k = A.length := by
  unfold plL
  rw [if_pos (mem_eq O h hk hx), List.idxOf_append, if_neg (h.not_left O hk (by omega))]
  have e := (O.zero k x hk h.mid.1).1 hx
  subst e; simp
theorem pl_gt (h : SL J o (A ++ x :: B)) (hk : J k) (hx : 0 < o k x) : plL (A ++ x :: B) k = if 0 ≤ plL B k then A.length + 1 + plL B k else -1 := by
  unfold plL
  by_cases hm : k ∈ B
  · have h2 := ne_of O hk h.mid.1 (by omega)
    rw [if_pos ((mem_gt O h hk hx).2 hm), if_pos hm, if_pos (by omega), List.idxOf_append, if_neg (h.not_left O hk (by omega)), List.idxOf_cons]
    have : (x == k) = false := by simpa using fun e => h2 e.symm
    rw [this]; simp; omega
  · rw [if_neg (fun e => hm ((mem_gt O h hk hx).1 e)), if_neg hm, if_neg (by omega)]
end
/-- A tree of nodes, read. -/
def Tn (w : World) : Value → Tr → Prop
  | v, .lf => v = .pointer none
  | v, .nd l k r => ∃ b lv rv, v = .pointer (some ⟨b, 0, none⟩) ∧ w.heap[b]? = some (.cells #[.int .i64 k, lv, rv, .int .i64 (dp (.nd l k r) : Nat), .int .i64 (sz (.nd l k r) : Nat)] 140 (0, 0)) ∧ Tn w lv l ∧ Tn w rv r
/-- Worlds in which no node has changed. -/
def NoNode (F : Nat → Prop) (w : World) : Prop := ∀ b, F b → ∀ cs, w.heap[b]? ≠ some (.cells cs 140 (0, 0))
theorem Tn.chg {F : Nat → Prop} {w w' : World} (hc : Chg F w w') (hF : NoNode F w) : ∀ {t : Tr} {v : Value}, Tn w v t → Tn w' v t
  | .lf, _, h => h
  | .nd l k r, _, ⟨b, lv, rv, hv, hb, hl, hr⟩ => ⟨b, lv, rv, hv, (hc.block b (Array.getElem?_eq_some_iff.1 hb).1 fun e => hF b e _ hb).trans hb, Tn.chg hc hF hl, Tn.chg hc hF hr⟩
theorem Tn.below {w w' : World} {t : Tr} {v : Value} (h : Tn w v t) (hb : Below w.heap.size w w') : Tn w' v t := h.chg (.of_below (fun _ => False) hb) (fun _ e => e.elim)
theorem Tn.lf_ {w : World} {v : Value} (h : Tn w v .lf) : v = .pointer none := h
theorem Tn.nd_ {w : World} {v : Value} {l r : Tr} {k : Int} (h : Tn w v (.nd l k r)) : ∃ b lv rv, v = .pointer (some ⟨b, 0, none⟩) ∧ b < w.heap.size ∧ w.cell? ⟨b, 0, none⟩ = some (.int .i64 k) ∧ w.cell? ⟨b, 1, none⟩ = some lv ∧ w.cell? ⟨b, 2, none⟩ = some rv ∧
    w.cell? ⟨b, 3, none⟩ = some (.int .i64 (dp (.nd l k r) : Nat)) ∧ w.cell? ⟨b, 4, none⟩ = some (.int .i64 (sz (.nd l k r) : Nat)) ∧ Tn w lv l ∧ Tn w rv r := by
  obtain ⟨b, lv, rv, hv, hb, hl, hr⟩ := h
  refine ⟨b, lv, rv, hv, (Array.getElem?_eq_some_iff.1 hb).1, ?_, ?_, ?_, ?_, ?_, hl, hr⟩ <;> simp [World.cell?, hb]
/-- A node that has been made. -/
theorem Tn.made {w : World} {lv rv : Value} {l r : Tr} (k : Int) (hl : Tn w lv l) (hr : Tn w rv r) :
    Tn (w.alloc (.cells #[.int .i64 k, lv, rv, .int .i64 (dp (.nd l k r) : Nat), .int .i64 (sz (.nd l k r) : Nat)] 140)) (.pointer (some ⟨w.heap.size, 0, none⟩)) (.nd l k r) :=
  ⟨_, lv, rv, rfl, heap_alloc_new w _, hl.below (ba (Below.refl _ _) _), hr.below (ba (Below.refl _ _) _)⟩
end Go.Proofs.Ytajcelmnblncaaa

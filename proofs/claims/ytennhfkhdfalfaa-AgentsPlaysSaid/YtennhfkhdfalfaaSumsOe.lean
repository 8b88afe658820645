/- Contract of sums.Of at a valid vector. -/
import Derived.Test.YtennhfkhdfalfaaVecR
import Derived.Test.YtennhfkhdfalfaaSums1e
namespace Go.Proofs.Ytennhfkhdfalfaa
open Go.RowKit
attribute [local go_sem] ext_cell ext_frozen Mix.calmUpon Mix.mUpon
theorem size_all (w : World) (o : Obj) : (w.alloc o).heap.size = w.heap.size + 1 := by show (w.heap.push o).size = _; rw [Array.size_push]
/-- The sum of the first n parts of a kind. -/
def sm (k a : Nat → Int) : Nat → Nat → Int
  | 0, _ => 0
  | n + 1, j => if k n = j then sm k a n j + a n else sm k a n j
theorem sm_bd {k r a : Nat → Int} {len : Nat} (h : VOk k r a len) (j : Nat) : ∀ n, n ≤ len → 0 ≤ sm k a n j ∧ sm k a n j ≤ n * 9007199254740992
  | 0, _ => by simp [sm]
  | n + 1, hn => by
    have h1 := sm_bd h j n (by omega)
    obtain ⟨_, h2, h3⟩ := (h n (by omega)).1
    unfold sm
    split <;> omega
/-- The loop's state: the result, the sums. -/
structure OR (w wr : World) (S : Nat → Int) : Prop where
  bel : Below w.heap.size w wr
  size : w.heap.size + 2 ≤ wr.heap.size
  r : ∀ j, j < 4 → wr.cell? ⟨w.heap.size, j, none⟩ = some (.int .i64 0)
  c : ∀ j, j < 4 → wr.cell? ⟨w.heap.size + 1, j, none⟩ = some (.int .i64 (S j))
  fr : ∀ j, wr.frozen? ⟨w.heap.size, j, none⟩ = false
  fc : ∀ j, wr.frozen? ⟨w.heap.size + 1, j, none⟩ = false
theorem OR.grow {w wr w1 : World} {S : Nat → Int} (h : OR w wr S) (hb : Below wr.heap.size wr w1) : OR w w1 S := by
  have hs := h.size
  have c : ∀ b k, b < w.heap.size + 2 → w1.cell? ⟨b, k, none⟩ = wr.cell? ⟨b, k, none⟩ := fun b k hi => hb.cell (p := ⟨_, _, none⟩) (by show b < _; omega)
  have f : ∀ b k, b < w.heap.size + 2 → w1.frozen? ⟨b, k, none⟩ = wr.frozen? ⟨b, k, none⟩ := fun b k hi => hb.frozen (p := ⟨_, _, none⟩) (by show b < _; omega)
  exact ⟨bt h.bel hb, Nat.le_trans hs hb.size, fun k hk => (c _ k (by omega)).trans (h.r k hk), fun k hk => (c _ k (by omega)).trans (h.c k hk), fun k => (f _ k (by omega)).trans (h.fr k), fun k => (f _ k (by omega)).trans (h.fc k)⟩
theorem OR.drew {w wr : World} {S : Nat → Int} (h : OR w wr S) : OR w wr.drew S := h.grow (bd (Below.refl _ _))
theorem OR.congr {w wr : World} {S T : Nat → Int} (h : OR w wr S) (he : ∀ j, j < 4 → S j = T j) : OR w wr T := ⟨h.bel, h.size, h.r, fun j hj => by rw [← he j hj]; exact h.c j hj, h.fr, h.fc⟩
theorem OR.set {w wr : World} {S : Nat → Int} (h : OR w wr S) (j : Nat) (hj : j < 4) (x : Int) : OR w (wr.setCell ⟨w.heap.size + 1, j, none⟩ (.int .i64 x)) (fun i => if i = j then x else S i) := by
  refine ⟨h.bel.setCell (by show w.heap.size ≤ w.heap.size + 1; omega) _, by have := h.size; simp; omega, fun k hk => ?_, fun k hk => ?_, fun k => ?_, fun k => ?_⟩
  · rw [World.cell?_setCell_other _ _ _ _ (by simp)]; exact h.r k hk
  · by_cases hkj : k = j
    · subst hkj
      rw [if_pos rfl]; exact World.cell?_setCell_same _ _ _ (h.c k hk)
    · rw [if_neg hkj, World.cell?_setCell_other _ _ _ _ (fun e => hkj (by cases e; rfl))]; exact h.c k hk
  · rw [World.frozen?_setCell]; exact h.fr k
  · rw [World.frozen?_setCell]; exact h.fc k
theorem z4 (j : Nat) (hj : j < 4) : (#[.int .i64 0, .int .i64 0, .int .i64 0, .int .i64 0] : Array Value)[j]? = some (.int .i64 0) := by
  have : j = 0 ∨ j = 1 ∨ j = 2 ∨ j = 3 := by omega
  rcases this with rfl | rfl | rfl | rfl <;> rfl
theorem OR.start {w w1 : World} {A : TypeId} (h : Below ((w.alloc (.cells #[.int .i64 0, .int .i64 0, .int .i64 0, .int .i64 0] A)).alloc (.cells #[.int .i64 0, .int .i64 0, .int .i64 0, .int .i64 0] A)).heap.size ((w.alloc (.cells #[.int .i64 0, .int .i64 0, .int .i64 0, .int .i64 0] A)).alloc (.cells #[.int .i64 0, .int .i64 0, .int .i64 0, .int .i64 0] A)) w1) : OR w w1 (fun _ => 0) := by
  refine OR.grow (wr := (w.alloc (.cells #[.int .i64 0, .int .i64 0, .int .i64 0, .int .i64 0] A)).alloc (.cells #[.int .i64 0, .int .i64 0, .int .i64 0, .int .i64 0] A)) ?_ h
  have s1 := size_all w (.cells #[.int .i64 0, .int .i64 0, .int .i64 0, .int .i64 0] A)
  have s2 := size_all (w.alloc (.cells #[.int .i64 0, .int .i64 0, .int .i64 0, .int .i64 0] A)) (.cells #[.int .i64 0, .int .i64 0, .int .i64 0, .int .i64 0] A)
  refine ⟨ba (ba (Below.refl _ _) _) _, by omega, fun k hk => ?_, fun k hk => ?_, fun k => ?_, fun k => ?_⟩
  · rw [World.cell?_alloc_past _ _ _ (by omega), World.cell?_alloc_new]; exact z4 k hk
  · exact (World.cell?_alloc_at _ _ _ _ (by omega)).trans (z4 k hk)
  · simp [go_sem]
  · simp [go_sem]
set_option maxRecDepth 100000 in
set_option maxHeartbeats 4000000 in
theorem sumsof_yes (b off len cap : Nat) (k r a : Nat → Int) (w : World) (hb : b < w.heap.size) (hbig : len ≤ 132) (hF : Parts w b off len k r a) (hV : VOk k r a len) :
    Calls Try.prog 28 #[.slice (some ⟨b, off, none⟩) len cap] w fun e w' => e = .returned (S4 (sm k a len)) ∧ Below w.heap.size w w' := by
  have HF := Lib.hid hF; have HV := Lib.hid hV
  clear hF hV
  have HR := Lib.hid (fun (X : World) (hX : Below w.heap.size w X) => vecright_some b off len cap k r a X (Nat.lt_of_lt_of_le hb hX.size) (by omega) (HF.out.grow hb hX))
  go_enter Try.func28, Try.ntmps28
  go_wp2_with fail
  refine (HR.out _ (ba (ba (Below.refl _ _) _) _)).mono ?_
  rintro e w1 ⟨q, rfl, hq, hb1⟩
  obtain rfl : q = true := hq.2 HV.out
  have HD := Lib.hid (OR.start hb1)
  clear hq hb1
  go_wp2
  go_loopw [12] (fun i wr => ∃ t : Nat, t ≤ len ∧ i = .int .i64 t ∧ Hid (OR w wr (sm k a t))) (fun i _ => len - (intOf i).toNat)
  case atStart => exact ⟨0, Nat.zero_le _, rfl, HD⟩
  case round =>
    clear HD
    obtain ⟨t, ht, rfl, HD⟩ := hrel
    have hs := HD.out.size
    have z0 : w.heap.size < wr.heap.size := by omega
    have z1 : w.heap.size + 1 < wr.heap.size := by omega
    by_cases hlt : t < len
    · have hts : (t : Int) < (len : Int) := by omega
      obtain ⟨c0, c1, c2⟩ := HF.out.grow hb HD.out.bel t hlt
      obtain ⟨⟨k0, k1, _, _⟩, p1, p2⟩ := (HV.out t hlt).1
      obtain ⟨j, hj⟩ : ∃ j : Nat, k t = j := ⟨(k t).toNat, by omega⟩
      rw [hj] at c0 k1
      have hj4 : j < 4 := by omega
      have hjs : (j : Int) < 4 := by omega
      have e0 := HD.out.c j hj4
      have f0 := HD.out.fc j
      have bd1 := sm_bd HV.out j t ht
      have wr1 : IntKind.i64.wrap (sm k a t j + a t) = sm k a t j + a t := IntWalk.i64_in _ (by omega)
      have HS := Lib.hid (show ∀ i, i < 4 → (if i = j then sm k a t j + a t else sm k a t i) = sm k a (t + 1) i from fun i _ => by
        show _ = if k t = i then sm k a t i + a t else sm k a t i
        rw [hj]
        by_cases hij : i = j
        · rw [if_pos hij, if_pos (by omega), hij]
        · rw [if_neg hij, if_neg (by omega)])
      clear hj bd1 k0 k1
      go_wp2
      go_region
      go_wp2
      go_roundw
      case rel =>
        refine ⟨t + 1, by omega, by go_num, Lib.hid (OR.congr ?_ HS.out)⟩
        first
          | exact ((HD.out.set j hj4 _).grow (ba (Below.refl _ _) _)).drew
          | exact ((HD.out.grow (ba (Below.refl _ _) _)).set j hj4 _).drew.drew
          | exact ((HD.out.grow (ba (Below.refl _ _) _)).set j hj4 _).drew
          | exact ((HD.out.grow (bd (ba (Below.refl _ _) _))).set j hj4 _).drew
          | exact ((HD.out.grow (bd (ba (Below.refl _ _) _))).set j hj4 _)
      case measure => simp [intOf]; omega
    · have htl : len = t := by omega
      subst htl
      have r0 := HD.out.r 0 (by omega); have r1 := HD.out.r 1 (by omega); have r2 := HD.out.r 2 (by omega); have r3 := HD.out.r 3 (by omega)
      have e0 := HD.out.c 0 (by omega); have e1 := HD.out.c 1 (by omega); have e2 := HD.out.c 2 (by omega); have e3 := HD.out.c 3 (by omega)
      have f0 := HD.out.fr 0; have f1 := HD.out.fr 1; have f2 := HD.out.fr 2; have f3 := HD.out.fr 3
      go_wp2
      refine bodyPost_ret (v := S4 (sm k a len)) (by simp [results, Try.results28, go_sem, *]) rfl ⟨rfl, ?_⟩
      have hbl := HD.out.bel
      first
        | exact bs (bs (bs (bs hbl (by simp) _) (by simp) _) (by simp) _) (by simp) _
        | exact bd (bs (bs (bs (bs hbl (by simp) _) (by simp) _) (by simp) _) (by simp) _)
end Go.Proofs.Ytennhfkhdfalfaa

/- Contracts of cmp.Compare at int, slot.Right, slot.Cmp, vec.of, vec.Right. -/
import Derived.Test.YtennhfkhdfalfaaMix
import Derived.IntWalk
import Derived.Test.YtennhfkhdfalfaaOn
namespace Go.Proofs.Ytennhfkhdfalfaa
open Go.RowKit
attribute [local go_sem] ext_cell ext_frozen Mix.calmUpon Mix.mUpon
/-- The comparison of two numbers. -/
def cmpI (p q : Int) : Int := if p < q then -1 else if q < p then 1 else 0
def I64 (n : Int) : Prop := -9223372036854775808 ≤ n ∧ n ≤ 9223372036854775807
/-- A part; its place. -/
abbrev P3 (k r a : Int) : Value := .agg #[.int .i64 k, .int .i64 r, .int .i64 a]
abbrev L2 (k r : Int) : Value := .agg #[.int .i64 k, .int .i64 r]
theorem nan_any (x : Int) : Pure Try.prog 157 #[.int .i64 x] (.bool false) := by
  intro W
  go_enter Try.func157, Try.ntmps157
  go_wp2
  go_ret
  refine ⟨by simp, ?_⟩
  (repeat (first | assumption | exact Below.refl _ _ | refine ba ?_ _ | refine bd ?_ | refine bdn ?_ _ | refine bs ?_ (by first | omega | (simp; done) | (simp; omega)) _ | refine bt ?_ (by assumption)))
theorem compare_any (x y : Int) : Pure Try.prog 124 #[.int .i64 x, .int .i64 y] (.int .i64 (cmpI x y)) := by
  intro W
  have HX := Lib.hid (nan_any x); have HY := Lib.hid (nan_any y)
  by_cases h1 : x < y
  · have hr : cmpI x y = -1 := by unfold cmpI; rw [if_pos h1]
    rw [hr]
    go_enter Try.func124, Try.ntmps124
    go_wp2_with fail
    (with_reducible refine (HX.out _).mono ?_)
    rintro e w1 ⟨rfl, hb1⟩
    have hs1 : W.heap.size + 0 ≤ w1.heap.size := (by have h := hb1.size; first | omega | (simp at h; omega))
    obtain ⟨hc1, hf1, hl1⟩ := bcell hb1
    clear hl1
    go_wp2_with fail
    (with_reducible refine (HY.out _).mono ?_)
    rintro e w2 ⟨rfl, hb2⟩
    have hs2 : w1.heap.size + 0 ≤ w2.heap.size := (by have h := hb2.size; first | omega | (simp at h; omega))
    have hb1_2 := bel hb1 hb2 (by (repeat (first | assumption | exact Below.refl _ _ | refine ba ?_ _ | refine bd ?_ | refine bdn ?_ _ | refine bs ?_ (by first | omega | (simp; done) | (simp; omega)) _ | refine bt ?_ (by assumption))))
    clear hc1 hf1
    obtain ⟨hc2, hf2, hl2⟩ := bcell hb2
    clear hl2
    go_wp2
    go_ret
    refine ⟨rfl, ?_⟩
    (repeat (first | assumption | exact Below.refl _ _ | refine ba ?_ _ | refine bd ?_ | refine bdn ?_ _ | refine bs ?_ (by first | omega | (simp; done) | (simp; omega)) _ | refine bt ?_ (by assumption)))
  · by_cases h2 : y < x
    · have hr : cmpI x y = 1 := by unfold cmpI; rw [if_neg h1, if_pos h2]
      rw [hr]
      go_enter Try.func124, Try.ntmps124
      go_wp2_with fail
      (with_reducible refine (HX.out _).mono ?_)
      rintro e w1 ⟨rfl, hb1⟩
      have hs1 : W.heap.size + 0 ≤ w1.heap.size := (by have h := hb1.size; first | omega | (simp at h; omega))
      obtain ⟨hc1, hf1, hl1⟩ := bcell hb1
      clear hl1
      go_wp2_with fail
      (with_reducible refine (HY.out _).mono ?_)
      rintro e w2 ⟨rfl, hb2⟩
      have hs2 : w1.heap.size + 0 ≤ w2.heap.size := (by have h := hb2.size; first | omega | (simp at h; omega))
      have hb1_2 := bel hb1 hb2 (by (repeat (first | assumption | exact Below.refl _ _ | refine ba ?_ _ | refine bd ?_ | refine bdn ?_ _ | refine bs ?_ (by first | omega | (simp; done) | (simp; omega)) _ | refine bt ?_ (by assumption))))
      clear hc1 hf1
      obtain ⟨hc2, hf2, hl2⟩ := bcell hb2
      clear hl2
      go_wp2
      go_ret
      refine ⟨rfl, ?_⟩
      (repeat (first | assumption | exact Below.refl _ _ | refine ba ?_ _ | refine bd ?_ | refine bdn ?_ _ | refine bs ?_ (by first | omega | (simp; done) | (simp; omega)) _ | refine bt ?_ (by assumption)))
    · have hr : cmpI x y = 0 := by unfold cmpI; rw [if_neg h1, if_neg h2]
      rw [hr]
      go_enter Try.func124, Try.ntmps124
      go_wp2_with fail
      (with_reducible refine (HX.out _).mono ?_)
      rintro e w1 ⟨rfl, hb1⟩
      have hs1 : W.heap.size + 0 ≤ w1.heap.size := (by have h := hb1.size; first | omega | (simp at h; omega))
      obtain ⟨hc1, hf1, hl1⟩ := bcell hb1
      clear hl1
      go_wp2_with fail
      (with_reducible refine (HY.out _).mono ?_)
      rintro e w2 ⟨rfl, hb2⟩
      have hs2 : w1.heap.size + 0 ≤ w2.heap.size := (by have h := hb2.size; first | omega | (simp at h; omega))
      have hb1_2 := bel hb1 hb2 (by (repeat (first | assumption | exact Below.refl _ _ | refine ba ?_ _ | refine bd ?_ | refine bdn ?_ _ | refine bs ?_ (by first | omega | (simp; done) | (simp; omega)) _ | refine bt ?_ (by assumption))))
      clear hc1 hf1
      obtain ⟨hc2, hf2, hl2⟩ := bcell hb2
      clear hl2
      go_wp2
      go_ret
      refine ⟨rfl, ?_⟩
      (repeat (first | assumption | exact Below.refl _ _ | refine ba ?_ _ | refine bd ?_ | refine bdn ?_ _ | refine bs ?_ (by first | omega | (simp; done) | (simp; omega)) _ | refine bt ?_ (by assumption)))
/-- A place that may be. -/
def LOk (k r : Int) : Prop := 0 ≤ k ∧ k < 4 ∧ 0 ≤ r ∧ r ≤ 32
instance (k r : Int) : Decidable (LOk k r) := by unfold LOk; infer_instance
theorem slotright_any (k r : Int) : Pure Try.prog 89 #[L2 k r] (.bool (decide (LOk k r))) := by
  intro W
  by_cases h1 : 0 ≤ k
  · by_cases h2 : k < 4
    · by_cases h3 : 0 ≤ r
      · have hq : decide (LOk k r) = decide (r ≤ 32) := decide_eq_decide.2 ⟨fun h => h.2.2.2, fun h => ⟨h1, h2, h3, h⟩⟩
        rw [hq]
        go_enter Try.func89, Try.ntmps89
        go_wp2
        go_ret
        refine ⟨rfl, ?_⟩
        (repeat (first | assumption | exact Below.refl _ _ | refine ba ?_ _ | refine bd ?_ | refine bdn ?_ _ | refine bs ?_ (by first | omega | (simp; done) | (simp; omega)) _ | refine bt ?_ (by assumption)))
      · have hq : decide (LOk k r) = false := decide_eq_false fun h => h3 h.2.2.1
        rw [hq]
        go_enter Try.func89, Try.ntmps89
        go_wp2
        go_ret
        refine ⟨rfl, ?_⟩
        (repeat (first | assumption | exact Below.refl _ _ | refine ba ?_ _ | refine bd ?_ | refine bdn ?_ _ | refine bs ?_ (by first | omega | (simp; done) | (simp; omega)) _ | refine bt ?_ (by assumption)))
    · have hq : decide (LOk k r) = false := decide_eq_false fun h => h2 h.2.1
      rw [hq]
      go_enter Try.func89, Try.ntmps89
      go_wp2
      go_ret
      refine ⟨rfl, ?_⟩
      (repeat (first | assumption | exact Below.refl _ _ | refine ba ?_ _ | refine bd ?_ | refine bdn ?_ _ | refine bs ?_ (by first | omega | (simp; done) | (simp; omega)) _ | refine bt ?_ (by assumption)))
  · have hq : decide (LOk k r) = false := decide_eq_false fun h => h1 h.1
    rw [hq]
    go_enter Try.func89, Try.ntmps89
    go_wp2
    go_ret
    refine ⟨rfl, ?_⟩
    (repeat (first | assumption | exact Below.refl _ _ | refine ba ?_ _ | refine bd ?_ | refine bdn ?_ _ | refine bs ?_ (by first | omega | (simp; done) | (simp; omega)) _ | refine bt ?_ (by assumption)))
/-- How two places stand. -/
def lcmp (k r k' r' : Int) : Int := if k = k' then cmpI r r' else cmpI k k'
theorem slotcmp_any (k r k' r' : Int) : Pure Try.prog 91 #[L2 k r, L2 k' r'] (.int .i64 (lcmp k r k' r')) := by
  intro W
  have HC := Lib.hid (compare_any k k'); have HD := Lib.hid (compare_any r r')
  by_cases h : k = k'
  · subst h
    have hr : lcmp k r k r' = cmpI r r' := if_pos rfl
    rw [hr]
    go_enter Try.func91, Try.ntmps91
    go_wp2_with fail
    (with_reducible refine (HD.out _).mono ?_)
    rintro e w1 ⟨rfl, hb1⟩
    have hs1 : W.heap.size + 2 ≤ w1.heap.size := (by have h := hb1.size; first | omega | (simp at h; omega))
    have hz1_0 : W.heap.size < w1.heap.size := (by omega)
    have hz1_1 : W.heap.size + 1 < w1.heap.size := (by omega)
    obtain ⟨hc1, hf1, hl1⟩ := bcell hb1
    clear hl1
    go_wp2
    go_ret
    refine ⟨rfl, ?_⟩
    (repeat (first | assumption | exact Below.refl _ _ | refine ba ?_ _ | refine bd ?_ | refine bdn ?_ _ | refine bs ?_ (by first | omega | (simp; done) | (simp; omega)) _ | refine bt ?_ (by assumption)))
  · have hr : lcmp k r k' r' = cmpI k k' := if_neg h
    rw [hr]
    have he : (k == k') = false := by simpa using h
    clear h
    go_enter Try.func91, Try.ntmps91
    go_wp2_with fail
    (with_reducible refine (HC.out _).mono ?_)
    rintro e w1 ⟨rfl, hb1⟩
    have hs1 : W.heap.size + 2 ≤ w1.heap.size := (by have h := hb1.size; first | omega | (simp at h; omega))
    have hz1_0 : W.heap.size < w1.heap.size := (by omega)
    have hz1_1 : W.heap.size + 1 < w1.heap.size := (by omega)
    obtain ⟨hc1, hf1, hl1⟩ := bcell hb1
    clear hl1
    go_wp2
    go_ret
    refine ⟨rfl, ?_⟩
    (repeat (first | assumption | exact Below.refl _ _ | refine ba ?_ _ | refine bd ?_ | refine bdn ?_ _ | refine bs ?_ (by first | omega | (simp; done) | (simp; omega)) _ | refine bt ?_ (by assumption)))
theorem vecof_any (k r a : Int) : Pure Try.prog 90 #[P3 k r a] (L2 k r) := by
  intro W
  go_enter Try.func90, Try.ntmps90
  go_wp2
  refine bodyPost_ret (v := L2 k r) (by simp [results, Try.results90, go_sem, *]) rfl ⟨rfl, ?_⟩
  (repeat (first | assumption | exact Below.refl _ _ | refine ba ?_ _ | refine bd ?_ | refine bdn ?_ _ | refine bs ?_ (by first | omega | (simp; done) | (simp; omega)) _ | refine bt ?_ (by assumption)))
/-- The cells of a slice of parts. -/
def Parts (W : World) (b off len : Nat) (k r a : Nat → Int) : Prop :=
  ∀ i, i < len → W.cell? ⟨b, off + i * 3, none⟩ = some (.int .i64 (k i)) ∧ W.cell? ⟨b, off + i * 3 + 1, none⟩ = some (.int .i64 (r i)) ∧ W.cell? ⟨b, off + i * 3 + 2, none⟩ = some (.int .i64 (a i))
theorem Parts.grow {W X : World} {b off len : Nat} {k r a : Nat → Int} (h : Parts W b off len k r a) (hb : b < W.heap.size) (hx : Below W.heap.size W X) : Parts X b off len k r a := fun i hi => by
  obtain ⟨h0, h1, h2⟩ := h i hi
  exact ⟨(hx.cell (p := ⟨b, _, none⟩) hb).trans h0, (hx.cell (p := ⟨b, _, none⟩) hb).trans h1, (hx.cell (p := ⟨b, _, none⟩) hb).trans h2⟩
section
variable (k r a : Nat → Int)
def POk (i : Nat) : Prop := LOk (k i) (r i) ∧ 1 ≤ a i ∧ a i ≤ 9007199254740992
/-- The first n parts are a valid vector. -/
def VOk (n : Nat) : Prop := ∀ i, i < n → POk k r a i ∧ (0 < i → lcmp (k (i - 1)) (r (i - 1)) (k i) (r i) < 0)
end
theorem vok_succ {k r a : Nat → Int} {n : Nat} (h : VOk k r a n) (h1 : POk k r a n) (h2 : 0 < n → lcmp (k (n - 1)) (r (n - 1)) (k n) (r n) < 0) : VOk k r a (n + 1) := fun i hi => by
  by_cases he : i = n
  · rw [he]; exact ⟨h1, h2⟩
  · exact h i (by omega)
set_option maxRecDepth 100000 in
set_option maxHeartbeats 4000000 in
theorem vecright_some (b off len cap : Nat) (k r a : Nat → Int) (W : World) (hb : b < W.heap.size) (hbig : len ≤ 9223372036854775807) (hF : Parts W b off len k r a) :
    Calls Try.prog 44 #[.slice (some ⟨b, off, none⟩) len cap] W fun e w' => ∃ q : Bool, e = .returned (.bool q) ∧ (q = true ↔ VOk k r a len) ∧ Below W.heap.size W w' := by
  have HF := Lib.hid hF
  clear hF
  go_enter Try.func44, Try.ntmps44
  go_wp2
  go_loopw [7] (fun i wr => ∃ t : Nat, t ≤ len ∧ i = .int .i64 t ∧ Hid (VOk k r a t) ∧ Below W.heap.size W wr) (fun i _ => len - (intOf i).toNat)
  case atStart => exact ⟨0, Nat.zero_le _, rfl, Lib.hid (fun i hi => by omega), by (repeat (first | assumption | exact Below.refl _ _ | refine ba ?_ _ | refine bd ?_ | refine bdn ?_ _ | refine bs ?_ (by first | omega | (simp; done) | (simp; omega)) _ | refine bt ?_ (by assumption)))⟩
  case round =>
    obtain ⟨t, ht, rfl, HV, hb1⟩ := hrel
    obtain ⟨w1, rfl⟩ : ∃ w1, w1 = wr := ⟨_, rfl⟩
    have hs1 : W.heap.size + 0 ≤ w1.heap.size := (by have h := hb1.size; first | omega | (simp at h; omega))
    obtain ⟨hc1, hf1, hl1⟩ := bcell hb1
    clear hl1
    by_cases hlt : t < len
    · have hts : (t : Int) < (len : Int) := by omega
      obtain ⟨c0, c1, c2⟩ := HF.out t hlt
      have hbl : b < w1.heap.size := Nat.lt_of_lt_of_le hb hb1.size
      have HO := Lib.hid (vecof_any (k t) (r t) (a t))
      have HR := Lib.hid (slotright_any (k t) (r t))
      by_cases hl : LOk (k t) (r t)
      · rw [decide_eq_true hl] at HR
        have HL := Lib.hid hl
        clear hl
        by_cases h1 : 1 ≤ a t
        · by_cases h2 : a t ≤ 9007199254740992
          · have HP := Lib.hid (show POk k r a t from ⟨HL.out, h1, h2⟩)
            go_wp2_with fail
            (with_reducible refine (HO.out _).mono ?_)
            rintro e w2 ⟨rfl, hb2⟩
            have hs2 : w1.heap.size + 1 ≤ w2.heap.size := (by have h := hb2.size; first | omega | (simp at h; omega))
            have hb1_2 := bel hb1 hb2 (by (repeat (first | assumption | exact Below.refl _ _ | refine ba ?_ _ | refine bd ?_ | refine bdn ?_ _ | refine bs ?_ (by first | omega | (simp; done) | (simp; omega)) _ | refine bt ?_ (by assumption))))
            clear hc1 hf1
            have hz2_0 : w1.heap.size < w2.heap.size := (by omega)
            obtain ⟨hc2, hf2, hl2⟩ := bcell hb2
            clear hl2
            go_wp2_with fail
            (with_reducible refine (HR.out _).mono ?_)
            rintro e w3 ⟨rfl, hb3⟩
            have hs3 : w2.heap.size + 0 ≤ w3.heap.size := (by have h := hb3.size; first | omega | (simp at h; omega))
            have hb1_3 := bel hb1_2 hb3 (by (repeat (first | assumption | exact Below.refl _ _ | refine ba ?_ _ | refine bd ?_ | refine bdn ?_ _ | refine bs ?_ (by first | omega | (simp; done) | (simp; omega)) _ | refine bt ?_ (by assumption))))
            have hb2_3 := bel hb2 hb3 (by (repeat (first | assumption | exact Below.refl _ _ | refine ba ?_ _ | refine bd ?_ | refine bdn ?_ _ | refine bs ?_ (by first | omega | (simp; done) | (simp; omega)) _ | refine bt ?_ (by assumption))))
            clear hz2_0 hc2 hf2
            obtain ⟨hc2_3, hf2_3, hl2_3⟩ := bcell hb2_3
            clear hl2_3
            have hz3_0 : w1.heap.size < w3.heap.size := (by omega)
            obtain ⟨hc3, hf3, hl3⟩ := bcell hb3
            clear hl3
            cases t with
            | zero =>
              have HN := Lib.hid (vok_succ HV.out HP.out (fun h => absurd h (Nat.lt_irrefl 0)))
              go_wp2_with fail
              refine wp_region_pure (by kernel_rfl) (by kernel_rfl) ?_
              repeat (first | go_big_quiet_step ((fail)) | (quiet_step ((fail))))
              refine wpQuiet_nil ?_
              rintro w4 ⟨x4, hx4⟩
              have hb4 := ext_below _ x4
              rw [← hx4] at hb4
              clear hx4 x4
              have hs4 : w3.heap.size + 0 ≤ w4.heap.size := (by have h := hb4.size; first | omega | (simp at h; omega))
              have hb1_4 := bel hb1_3 hb4 (by (repeat (first | assumption | exact Below.refl _ _ | refine ba ?_ _ | refine bd ?_ | refine bdn ?_ _ | refine bs ?_ (by first | omega | (simp; done) | (simp; omega)) _ | refine bt ?_ (by assumption))))
              have hb2_4 := bel hb2_3 hb4 (by (repeat (first | assumption | exact Below.refl _ _ | refine ba ?_ _ | refine bd ?_ | refine bdn ?_ _ | refine bs ?_ (by first | omega | (simp; done) | (simp; omega)) _ | refine bt ?_ (by assumption))))
              have hb3_4 := bel hb3 hb4 (by (repeat (first | assumption | exact Below.refl _ _ | refine ba ?_ _ | refine bd ?_ | refine bdn ?_ _ | refine bs ?_ (by first | omega | (simp; done) | (simp; omega)) _ | refine bt ?_ (by assumption))))
              clear hc2_3 hf2_3 hz3_0 hc3 hf3
              obtain ⟨hc2_4, hf2_4, hl2_4⟩ := bcell hb2_4
              clear hl2_4
              have hz4_0 : w1.heap.size < w4.heap.size := (by omega)
              obtain ⟨hc4, hf4, hl4⟩ := bcell hb4
              clear hl4
              go_wp2
              go_roundw
              case rel => exact ⟨1, by omega, by go_num, HN, by (repeat (first | assumption | exact Below.refl _ _ | refine ba ?_ _ | refine bd ?_ | refine bdn ?_ _ | refine bs ?_ (by first | omega | (simp; done) | (simp; omega)) _ | refine bt ?_ (by assumption)))⟩
              case measure => simp [intOf]; omega
            | succ u =>
              have hbW3 : Below W.heap.size W w3 := by (repeat (first | assumption | exact Below.refl _ _ | refine ba ?_ _ | refine bd ?_ | refine bdn ?_ _ | refine bs ?_ (by first | omega | (simp; done) | (simp; omega)) _ | refine bt ?_ (by assumption)))
              obtain ⟨d0, d1, d2⟩ := HF.out u (by omega)
              have hbl3 : b < w3.heap.size := Nat.lt_of_lt_of_le hb hbW3.size
              obtain ⟨hcW, hfW, hlW⟩ := bcell hb1
              clear hlW hfW hbW3
              have HO2 := Lib.hid (vecof_any (k u) (r u) (a u))
              have HC := slotcmp_any (k u) (r u) (k (u + 1)) (r (u + 1))
              generalize hq : lcmp (k u) (r u) (k (u + 1)) (r (u + 1)) = q at HC
              have HC := Lib.hid HC
              have HQ := Lib.hid hq
              clear hq
              have us : (u : Int) < (len : Int) := by omega
              by_cases h0 : 0 ≤ q
              · have HN := Lib.hid (show ¬ VOk k r a len from fun h => by
                  have h5 := (h (u + 1) hlt).2 (by omega)
                  have h6 : lcmp (k u) (r u) (k (u + 1)) (r (u + 1)) < 0 := h5
                  rw [HQ.out] at h6
                  omega)
                go_wp2_with fail
                refine wp_region_pure (by kernel_rfl) (by kernel_rfl) ?_
                repeat (first | go_big_quiet_step (((first | (go_at_call 90; first | with_reducible exact HO.out.quiet | with_reducible exact HO2.out.quiet) | (go_at_call 91; with_reducible exact HC.out.quiet)))) | (quiet_step (((first | (go_at_call 90; first | with_reducible exact HO.out.quiet | with_reducible exact HO2.out.quiet) | (go_at_call 91; with_reducible exact HC.out.quiet))))))
                refine wpQuiet_nil ?_
                rintro w4 ⟨x4, hx4⟩
                have hb4 := ext_below _ x4
                rw [← hx4] at hb4
                clear hx4 x4
                have hs4 : w3.heap.size + 0 ≤ w4.heap.size := (by have h := hb4.size; first | omega | (simp at h; omega))
                have hb1_4 := bel hb1_3 hb4 (by (repeat (first | assumption | exact Below.refl _ _ | refine ba ?_ _ | refine bd ?_ | refine bdn ?_ _ | refine bs ?_ (by first | omega | (simp; done) | (simp; omega)) _ | refine bt ?_ (by assumption))))
                have hb2_4 := bel hb2_3 hb4 (by (repeat (first | assumption | exact Below.refl _ _ | refine ba ?_ _ | refine bd ?_ | refine bdn ?_ _ | refine bs ?_ (by first | omega | (simp; done) | (simp; omega)) _ | refine bt ?_ (by assumption))))
                have hb3_4 := bel hb3 hb4 (by (repeat (first | assumption | exact Below.refl _ _ | refine ba ?_ _ | refine bd ?_ | refine bdn ?_ _ | refine bs ?_ (by first | omega | (simp; done) | (simp; omega)) _ | refine bt ?_ (by assumption))))
                clear hc2_3 hf2_3 hz3_0 hc3 hf3
                obtain ⟨hc2_4, hf2_4, hl2_4⟩ := bcell hb2_4
                clear hl2_4
                have hz4_0 : w1.heap.size < w4.heap.size := (by omega)
                obtain ⟨hc4, hf4, hl4⟩ := bcell hb4
                clear hl4
                go_wp2
                go_ret
                refine ⟨_, rfl, ⟨fun h => by simp at h, fun h => absurd h HN.out⟩, ?_⟩
                (repeat (first | assumption | exact Below.refl _ _ | refine ba ?_ _ | refine bd ?_ | refine bdn ?_ _ | refine bs ?_ (by first | omega | (simp; done) | (simp; omega)) _ | refine bt ?_ (by assumption)))
              · have HN := Lib.hid (vok_succ HV.out HP.out (fun _ => by show lcmp (k u) (r u) (k (u + 1)) (r (u + 1)) < 0; rw [HQ.out]; omega))
                have h0' : q < 0 := by omega
                clear h0
                go_wp2_with fail
                refine wp_region_pure (by kernel_rfl) (by kernel_rfl) ?_
                repeat (first | go_big_quiet_step (((first | (go_at_call 90; first | with_reducible exact HO.out.quiet | with_reducible exact HO2.out.quiet) | (go_at_call 91; with_reducible exact HC.out.quiet)))) | (quiet_step (((first | (go_at_call 90; first | with_reducible exact HO.out.quiet | with_reducible exact HO2.out.quiet) | (go_at_call 91; with_reducible exact HC.out.quiet))))))
                refine wpQuiet_nil ?_
                rintro w4 ⟨x4, hx4⟩
                have hb4 := ext_below _ x4
                rw [← hx4] at hb4
                clear hx4 x4
                have hs4 : w3.heap.size + 0 ≤ w4.heap.size := (by have h := hb4.size; first | omega | (simp at h; omega))
                have hb1_4 := bel hb1_3 hb4 (by (repeat (first | assumption | exact Below.refl _ _ | refine ba ?_ _ | refine bd ?_ | refine bdn ?_ _ | refine bs ?_ (by first | omega | (simp; done) | (simp; omega)) _ | refine bt ?_ (by assumption))))
                have hb2_4 := bel hb2_3 hb4 (by (repeat (first | assumption | exact Below.refl _ _ | refine ba ?_ _ | refine bd ?_ | refine bdn ?_ _ | refine bs ?_ (by first | omega | (simp; done) | (simp; omega)) _ | refine bt ?_ (by assumption))))
                have hb3_4 := bel hb3 hb4 (by (repeat (first | assumption | exact Below.refl _ _ | refine ba ?_ _ | refine bd ?_ | refine bdn ?_ _ | refine bs ?_ (by first | omega | (simp; done) | (simp; omega)) _ | refine bt ?_ (by assumption))))
                clear hc2_3 hf2_3 hz3_0 hc3 hf3
                obtain ⟨hc2_4, hf2_4, hl2_4⟩ := bcell hb2_4
                clear hl2_4
                have hz4_0 : w1.heap.size < w4.heap.size := (by omega)
                obtain ⟨hc4, hf4, hl4⟩ := bcell hb4
                clear hl4
                go_wp2
                go_roundw
                case rel => exact ⟨u + 1 + 1, by omega, by go_num, HN, by (repeat (first | assumption | exact Below.refl _ _ | refine ba ?_ _ | refine bd ?_ | refine bdn ?_ _ | refine bs ?_ (by first | omega | (simp; done) | (simp; omega)) _ | refine bt ?_ (by assumption)))⟩
                case measure => simp [intOf]; omega
          · have HN := Lib.hid (show ¬ VOk k r a len from fun h => h2 (h t hlt).1.2.2)
            have h2' : 9007199254740992 < a t := by omega
            clear h2
            go_wp2_with fail
            (with_reducible refine (HO.out _).mono ?_)
            rintro e w2 ⟨rfl, hb2⟩
            have hs2 : w1.heap.size + 1 ≤ w2.heap.size := (by have h := hb2.size; first | omega | (simp at h; omega))
            have hb1_2 := bel hb1 hb2 (by (repeat (first | assumption | exact Below.refl _ _ | refine ba ?_ _ | refine bd ?_ | refine bdn ?_ _ | refine bs ?_ (by first | omega | (simp; done) | (simp; omega)) _ | refine bt ?_ (by assumption))))
            clear hc1 hf1
            have hz2_0 : w1.heap.size < w2.heap.size := (by omega)
            obtain ⟨hc2, hf2, hl2⟩ := bcell hb2
            clear hl2
            go_wp2_with fail
            (with_reducible refine (HR.out _).mono ?_)
            rintro e w3 ⟨rfl, hb3⟩
            have hs3 : w2.heap.size + 0 ≤ w3.heap.size := (by have h := hb3.size; first | omega | (simp at h; omega))
            have hb1_3 := bel hb1_2 hb3 (by (repeat (first | assumption | exact Below.refl _ _ | refine ba ?_ _ | refine bd ?_ | refine bdn ?_ _ | refine bs ?_ (by first | omega | (simp; done) | (simp; omega)) _ | refine bt ?_ (by assumption))))
            have hb2_3 := bel hb2 hb3 (by (repeat (first | assumption | exact Below.refl _ _ | refine ba ?_ _ | refine bd ?_ | refine bdn ?_ _ | refine bs ?_ (by first | omega | (simp; done) | (simp; omega)) _ | refine bt ?_ (by assumption))))
            clear hz2_0 hc2 hf2
            obtain ⟨hc2_3, hf2_3, hl2_3⟩ := bcell hb2_3
            clear hl2_3
            have hz3_0 : w1.heap.size < w3.heap.size := (by omega)
            obtain ⟨hc3, hf3, hl3⟩ := bcell hb3
            clear hl3
            go_wp2
            go_ret
            refine ⟨_, rfl, ⟨fun h => by simp at h, fun h => absurd h HN.out⟩, ?_⟩
            (repeat (first | assumption | exact Below.refl _ _ | refine ba ?_ _ | refine bd ?_ | refine bdn ?_ _ | refine bs ?_ (by first | omega | (simp; done) | (simp; omega)) _ | refine bt ?_ (by assumption)))
        · have HN := Lib.hid (show ¬ VOk k r a len from fun h => h1 (h t hlt).1.2.1)
          have h1' : a t < 1 := by omega
          clear h1
          go_wp2_with fail
          (with_reducible refine (HO.out _).mono ?_)
          rintro e w2 ⟨rfl, hb2⟩
          have hs2 : w1.heap.size + 1 ≤ w2.heap.size := (by have h := hb2.size; first | omega | (simp at h; omega))
          have hb1_2 := bel hb1 hb2 (by (repeat (first | assumption | exact Below.refl _ _ | refine ba ?_ _ | refine bd ?_ | refine bdn ?_ _ | refine bs ?_ (by first | omega | (simp; done) | (simp; omega)) _ | refine bt ?_ (by assumption))))
          clear hc1 hf1
          have hz2_0 : w1.heap.size < w2.heap.size := (by omega)
          obtain ⟨hc2, hf2, hl2⟩ := bcell hb2
          clear hl2
          go_wp2_with fail
          (with_reducible refine (HR.out _).mono ?_)
          rintro e w3 ⟨rfl, hb3⟩
          have hs3 : w2.heap.size + 0 ≤ w3.heap.size := (by have h := hb3.size; first | omega | (simp at h; omega))
          have hb1_3 := bel hb1_2 hb3 (by (repeat (first | assumption | exact Below.refl _ _ | refine ba ?_ _ | refine bd ?_ | refine bdn ?_ _ | refine bs ?_ (by first | omega | (simp; done) | (simp; omega)) _ | refine bt ?_ (by assumption))))
          have hb2_3 := bel hb2 hb3 (by (repeat (first | assumption | exact Below.refl _ _ | refine ba ?_ _ | refine bd ?_ | refine bdn ?_ _ | refine bs ?_ (by first | omega | (simp; done) | (simp; omega)) _ | refine bt ?_ (by assumption))))
          clear hz2_0 hc2 hf2
          obtain ⟨hc2_3, hf2_3, hl2_3⟩ := bcell hb2_3
          clear hl2_3
          have hz3_0 : w1.heap.size < w3.heap.size := (by omega)
          obtain ⟨hc3, hf3, hl3⟩ := bcell hb3
          clear hl3
          go_wp2
          go_ret
          refine ⟨_, rfl, ⟨fun h => by simp at h, fun h => absurd h HN.out⟩, ?_⟩
          (repeat (first | assumption | exact Below.refl _ _ | refine ba ?_ _ | refine bd ?_ | refine bdn ?_ _ | refine bs ?_ (by first | omega | (simp; done) | (simp; omega)) _ | refine bt ?_ (by assumption)))
      · rw [decide_eq_false hl] at HR
        have HN := Lib.hid (show ¬ VOk k r a len from fun h => hl (h t hlt).1.1)
        clear hl
        go_wp2_with fail
        (with_reducible refine (HO.out _).mono ?_)
        rintro e w2 ⟨rfl, hb2⟩
        have hs2 : w1.heap.size + 1 ≤ w2.heap.size := (by have h := hb2.size; first | omega | (simp at h; omega))
        have hb1_2 := bel hb1 hb2 (by (repeat (first | assumption | exact Below.refl _ _ | refine ba ?_ _ | refine bd ?_ | refine bdn ?_ _ | refine bs ?_ (by first | omega | (simp; done) | (simp; omega)) _ | refine bt ?_ (by assumption))))
        clear hc1 hf1
        have hz2_0 : w1.heap.size < w2.heap.size := (by omega)
        obtain ⟨hc2, hf2, hl2⟩ := bcell hb2
        clear hl2
        go_wp2_with fail
        (with_reducible refine (HR.out _).mono ?_)
        rintro e w3 ⟨rfl, hb3⟩
        have hs3 : w2.heap.size + 0 ≤ w3.heap.size := (by have h := hb3.size; first | omega | (simp at h; omega))
        have hb1_3 := bel hb1_2 hb3 (by (repeat (first | assumption | exact Below.refl _ _ | refine ba ?_ _ | refine bd ?_ | refine bdn ?_ _ | refine bs ?_ (by first | omega | (simp; done) | (simp; omega)) _ | refine bt ?_ (by assumption))))
        have hb2_3 := bel hb2 hb3 (by (repeat (first | assumption | exact Below.refl _ _ | refine ba ?_ _ | refine bd ?_ | refine bdn ?_ _ | refine bs ?_ (by first | omega | (simp; done) | (simp; omega)) _ | refine bt ?_ (by assumption))))
        clear hz2_0 hc2 hf2
        obtain ⟨hc2_3, hf2_3, hl2_3⟩ := bcell hb2_3
        clear hl2_3
        have hz3_0 : w1.heap.size < w3.heap.size := (by omega)
        obtain ⟨hc3, hf3, hl3⟩ := bcell hb3
        clear hl3
        go_wp2
        go_ret
        refine ⟨_, rfl, ⟨fun h => by simp at h, fun h => absurd h HN.out⟩, ?_⟩
        (repeat (first | assumption | exact Below.refl _ _ | refine ba ?_ _ | refine bd ?_ | refine bdn ?_ _ | refine bs ?_ (by first | omega | (simp; done) | (simp; omega)) _ | refine bt ?_ (by assumption)))
    · have htl : len = t := by omega
      subst htl
      go_wp2
      go_ret
      exact ⟨_, rfl, ⟨fun _ => HV.out, fun _ => rfl⟩, hb1⟩
end Go.Proofs.Ytennhfkhdfalfaa

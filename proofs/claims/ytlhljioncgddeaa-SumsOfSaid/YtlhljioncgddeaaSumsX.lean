/- sums.Of at any slice of parts; the walk of SumsOf. -/
import Derived.Test.YtlhljioncgddeaaVecD
import Derived.Test.YtlhljioncgddeaaSumsA
namespace Go.Proofs.Ytlhljioncgddeaa
open Go.RowKit
attribute [local go_sem] ext_cell ext_frozen Mix.calmUpon Mix.mUpon
theorem kra {l : List Pt} {t : Nat} (h : t < l.length) : l[t] = (kk l t, rr l t, aa l t) := by
  unfold kk rr aa; rw [getD_lt h]
theorem take_succ' {l : List Pt} {t : Nat} (h : t < l.length) : l.take (t + 1) = l.take t ++ [(kk l t, rr l t, aa l t)] := by
  rw [← kra h, List.take_add_one, List.getElem?_eq_getElem h]; rfl
theorem sl_append (l m : List Pt) (k r : Int) : sl (l ++ m) k r = sl l k r + sl m k r := by
  induction l with
  | nil => simp [sl]
  | cons p t ih => rw [List.cons_append, sl, ih, sl]; omega
theorem sl_gt {l : List Pt} (h : VR l) (k r : Int) : sl l k r = gt l k r := by
  induction l with
  | nil => rfl
  | cons p t ih =>
    rw [sl, gt, ih h.tail]
    by_cases he : p.1 = k ∧ p.2.1 = r
    · rw [if_pos he, if_pos he, gt_ahead (l := t) (k := k) (r := r) (fun x hx => by have := h.lt x hx; unfold qy at this ⊢; rw [he.1, he.2] at this; exact this)]; omega
    · rw [if_neg he, if_neg he]; omega
/-- The sum of a kind's amounts. -/
def kS : List Pt → Nat → Int
  | [], _ => 0
  | p :: t, j => (if p.1 = j then p.2.2 else 0) + kS t j
theorem kS_snoc (l : List Pt) (p : Pt) (j : Nat) : kS (l ++ [p]) j = kS l j + if p.1 = j then p.2.2 else 0 := by
  induction l with
  | nil => simp [kS]
  | cons x t ih => rw [List.cons_append, kS, ih, kS]; omega
def sumR (f : Nat → Int) : Nat → Int
  | 0 => 0
  | n + 1 => sumR f n + f n
theorem sumR_add (f g : Nat → Int) : ∀ n, sumR (fun r => f r + g r) n = sumR f n + sumR g n
  | 0 => rfl
  | n + 1 => by rw [sumR, sumR_add f g n, sumR, sumR]; omega
theorem sumR_congr {f g : Nat → Int} : ∀ n, (∀ r, r < n → f r = g r) → sumR f n = sumR g n
  | 0, _ => rfl
  | n + 1, h => by rw [sumR, sumR, sumR_congr n fun r hr => h r (by omega), h n (by omega)]
theorem sumR_le {f : Nat → Int} {M : Int} : ∀ n, (∀ r, r < n → 0 ≤ f r ∧ f r ≤ M) → 0 ≤ sumR f n ∧ sumR f n ≤ n * M
  | 0, _ => by simp [sumR]
  | n + 1, h => by
    have h1 := sumR_le n fun r hr => h r (by omega)
    have h2 := h n (by omega)
    rw [sumR, Int.natCast_add, Int.add_mul]
    omega
theorem sumR_one (c : Bool) (x : Int) (m : Nat) : ∀ n, sumR (fun r => if c = true ∧ (m : Int) = (r : Int) then x else 0) n = if c = true ∧ m < n then x else 0
  | 0 => by simp [sumR]
  | n + 1 => by
    rw [sumR, sumR_one c x m n]
    by_cases hc : c = true
    · by_cases h1 : m < n
      · rw [if_pos ⟨hc, h1⟩, if_neg (by omega), if_pos ⟨hc, by omega⟩]; omega
      · rw [if_neg (by omega)]
        by_cases h2 : m = n
        · rw [if_pos ⟨hc, by omega⟩, if_pos ⟨hc, by omega⟩]; omega
        · rw [if_neg (by omega), if_neg (by omega)]; rfl
    · rw [if_neg (fun h => hc h.1), if_neg (fun h => hc h.1), if_neg (fun h => hc h.1)]; rfl
theorem kS_sl (j : Nat) : ∀ {l : List Pt}, (∀ p ∈ l, LOk p.1 p.2.1) → kS l j = sumR (fun r => sl l j r) 33
  | [], _ => by
    show (0 : Int) = sumR (fun _ => 0) 33
    decide
  | p :: t, h => by
    have ih := kS_sl j (l := t) fun x hx => h x (by simp [hx])
    obtain ⟨_, _, r0, r1⟩ := h p (by simp)
    obtain ⟨m, hm⟩ : ∃ m : Nat, p.2.1 = m := ⟨p.2.1.toNat, by omega⟩
    have e : ∀ r : Nat, sl (p :: t) j r = (if decide (p.1 = (j : Int)) = true ∧ (m : Int) = (r : Int) then p.2.2 else 0) + sl t j r := fun r => by
      rw [sl, hm]; simp only [decide_eq_true_eq]
    rw [sumR_congr 33 fun r _ => e r, sumR_add, sumR_one, kS, ih]
    congr 1
    by_cases hj : p.1 = (j : Int)
    · rw [if_pos hj, if_pos ⟨by simpa using hj, by omega⟩]
    · rw [if_neg hj, if_neg (fun h => hj (by simpa using h.1))]
theorem kS_bd {l : List Pt} (h : VR l) (j : Nat) : 0 ≤ kS l j ∧ kS l j ≤ 297237575406452736 := by
  rw [kS_sl j fun p hp => (h.1 p hp).1]
  have := sumR_le (f := fun r : Nat => sl l j r) (M := 9007199254740992) 33 fun r _ => by rw [sl_gt h]; exact gt_nn h _ _
  omega
theorem kS_add {a b s : List Pt} (h : mrg gAdd a b = some s) (j : Nat) : kS s j = kS a j + kS b j := by
  obtain ⟨ha, hb, hs, hg⟩ := mrg_some gAdd0 gAddB h
  rw [kS_sl j fun p hp => (hs.1 p hp).1, kS_sl j fun p hp => (ha.1 p hp).1, kS_sl j fun p hp => (hb.1 p hp).1, ← sumR_add]
  refine sumR_congr 33 fun r _ => ?_
  rw [sl_gt hs, sl_gt ha, sl_gt hb]
  have := hg j r
  unfold gAdd at this; split at this
  · exact (Option.some.inj this).symm
  · cases this
theorem Vc.cells {w : World} {v : Value} {l : List Pt} (h : Vc w v l) : ∃ a n cap, v = .slice a n cap ∧ n = l.length ∧ ∀ i, i < n → ∃ b off, a = some ⟨b, off, none⟩ ∧ b < w.heap.size ∧
    w.cell? ⟨b, off + i * 3, none⟩ = some (.int .i64 (kk l i)) ∧ w.cell? ⟨b, off + i * 3 + 1, none⟩ = some (.int .i64 (rr l i)) ∧ w.cell? ⟨b, off + i * 3 + 2, none⟩ = some (.int .i64 (aa l i)) := by
  rcases h with ⟨rfl, rfl⟩ | ⟨b, off, cap, h1, h2, h3, h4, h5⟩
  · exact ⟨none, 0, 0, rfl, rfl, fun i hi => absurd hi (by omega)⟩
  · exact ⟨_, _, cap, h1, rfl, fun i hi => ⟨b, off, rfl, h4, h5 i hi⟩⟩
theorem RetO.yes {w w' : World} {l : List Pt} {e : Ending} (h : RetO w (Option.some l) e w') : ∃ v, e = .returned (.tuple #[v, .bool true]) ∧ Vc w' v l ∧ Below w.heap.size w w' := h
theorem RetO.not {w w' : World} {e : Ending} (h : RetO w Option.none e w') : ∃ v, e = .returned (.tuple #[v, .bool false]) ∧ Vc w' v [] ∧ Below w.heap.size w w' := h

theorem VR.take {l : List Pt} (h : VR l) (t : Nat) : VR (l.take t) := ⟨fun p hp => h.1 p (List.mem_of_mem_take hp), h.2.sublist (List.take_sublist t l)⟩
theorem sm_kS (l : List Pt) (j : Nat) : ∀ n, n ≤ l.length → sm (kk l) (aa l) n j = kS (l.take n) j
  | 0, _ => by simp [sm, kS]
  | n + 1, h => by
    rw [sm, sm_kS l j n (by omega), take_succ' (by omega), kS_snoc]
    show _ = kS (l.take n) j + if kk l n = (j : Int) then aa l n else 0
    split <;> omega
theorem s4_congr {a b : Nat → Int} (h : ∀ j, j < 4 → a j = b j) : S4 a = S4 b := by
  unfold S4; rw [h 0 (by omega), h 1 (by omega), h 2 (by omega), h 3 (by omega)]
abbrev Z0 : Value := .agg #[.int .i64 0, .int .i64 0, .int .i64 0, .int .i64 0]
theorem sums_no (v : Value) (l : List Pt) (hl : l.length < 1000000000) (h : ¬ VR l) : PureOn (fun w => Vc w v l) Try.prog 4 #[v] Z0 := by
  intro W hV
  have HR := vecright_v v l hl
  rw [decide_eq_false h] at HR
  have HR := Lib.hid HR
  have HV := Lib.hid hV
  clear hV h
  go_enter Try.func4, Try.ntmps4
  go_wp2_with fail
  (with_reducible refine (HR.out.app _ (HV.out.on (by (repeat (first | assumption | exact Below.refl _ _ | refine ba ?_ _ | refine bd ?_ | refine bdn ?_ _ | refine bs ?_ (by first | omega | (simp; done) | (simp; omega)) _ | refine bt ?_ (by assumption)))))).mono ?_)
  rintro e w1 ⟨rfl, hb1⟩
  have hs1 : W.heap.size + 2 ≤ w1.heap.size := (by have h := hb1.size; first | omega | (simp at h; omega))
  have hz1_0 : W.heap.size < w1.heap.size := (by omega)
  have hz1_1 : W.heap.size + 1 < w1.heap.size := (by omega)
  obtain ⟨hc1, hf1, hl1⟩ := bcell hb1
  clear hl1
  have HD := Lib.hid (OR.start hb1)
  have hs := HD.out.size
  have z0 : W.heap.size < w1.heap.size := by omega
  have z1 : W.heap.size + 1 < w1.heap.size := by omega
  have r0 := HD.out.r 0 (by omega); have r1 := HD.out.r 1 (by omega); have r2 := HD.out.r 2 (by omega); have r3 := HD.out.r 3 (by omega)
  have e0 := HD.out.c 0 (by omega); have e1 := HD.out.c 1 (by omega); have e2 := HD.out.c 2 (by omega); have e3 := HD.out.c 3 (by omega)
  have f0 := HD.out.fr 0; have f1 := HD.out.fr 1; have f2 := HD.out.fr 2; have f3 := HD.out.fr 3
  go_wp2
  refine bodyPost_ret (v := Z0) (by simp [results, Try.results4, go_sem, *]) rfl ⟨rfl, ?_⟩
  have hbl := HD.out.bel
  first
    | exact bs (bs (bs (bs hbl (by simp) _) (by simp) _) (by simp) _) (by simp) _
    | exact bd (bs (bs (bs (bs hbl (by simp) _) (by simp) _) (by simp) _) (by simp) _)
theorem sums_nil : Pure Try.prog 4 #[.slice none 0 0] Z0 := by
  intro W
  have HR := vecright_v (.slice none 0 0) [] (by simp)
  rw [decide_eq_true VR.nil] at HR
  have HR := Lib.hid HR
  go_enter Try.func4, Try.ntmps4
  go_wp2_with fail
  (with_reducible refine (HR.out.app _ (Vc.nil _)).mono ?_)
  rintro e w1 ⟨rfl, hb1⟩
  have hs1 : W.heap.size + 2 ≤ w1.heap.size := (by have h := hb1.size; first | omega | (simp at h; omega))
  have hz1_0 : W.heap.size < w1.heap.size := (by omega)
  have hz1_1 : W.heap.size + 1 < w1.heap.size := (by omega)
  obtain ⟨hc1, hf1, hl1⟩ := bcell hb1
  clear hl1
  go_wp2
  go_loopw [12] (fun i wr => i = .int .i64 0 ∧ Hid (OR W wr (fun _ => 0))) (fun _ _ => 0)
  case atStart => exact ⟨rfl, Lib.hid (OR.start hb1)⟩
  case round =>
    obtain ⟨rfl, HD⟩ := hrel
    have hs := HD.out.size
    have z0 : W.heap.size < wr.heap.size := by omega
    have z1 : W.heap.size + 1 < wr.heap.size := by omega
    have r0 := HD.out.r 0 (by omega); have r1 := HD.out.r 1 (by omega); have r2 := HD.out.r 2 (by omega); have r3 := HD.out.r 3 (by omega)
    have e0 := HD.out.c 0 (by omega); have e1 := HD.out.c 1 (by omega); have e2 := HD.out.c 2 (by omega); have e3 := HD.out.c 3 (by omega)
    have f0 := HD.out.fr 0; have f1 := HD.out.fr 1; have f2 := HD.out.fr 2; have f3 := HD.out.fr 3
    go_wp2
    refine bodyPost_ret (v := Z0) (by simp [results, Try.results4, go_sem, *]) rfl ⟨rfl, ?_⟩
    have hbl := HD.out.bel
    first
      | exact bs (bs (bs (bs hbl (by simp) _) (by simp) _) (by simp) _) (by simp) _
      | exact bd (bs (bs (bs (bs hbl (by simp) _) (by simp) _) (by simp) _) (by simp) _)
/-- The sums of any parts. -/
def sO (l : List Pt) : Nat → Int := if VR l then kS l else fun _ => 0
theorem sums_v (v : Value) (l : List Pt) (hl : l.length < 1000000000) : PureOn (fun w => Vc w v l) Try.prog 4 #[v] (S4 (sO l)) := by
  intro W hV
  unfold sO
  by_cases h : VR l
  · rw [if_pos h]
    rcases hV with ⟨rfl, rfl⟩ | ⟨b, off, cap, rfl, h2, h3, h4, h5⟩
    · exact sums_nil W
    · have hh := sumsof_yes b off l.length cap (kk l) (rr l) (aa l) W h4 (vr_len h) h5 ((vok_iff l).2 h)
      rw [s4_congr (b := kS l) fun j _ => by rw [sm_kS l j l.length (Nat.le_refl _), List.take_length]] at hh
      exact hh
  · rw [if_neg h]; exact sums_no v l hl h W hV
theorem sO_bd (l : List Pt) (j : Nat) : 0 ≤ sO l j ∧ sO l j ≤ 297237575406452736 := by
  unfold sO; split
  · rename_i h; exact kS_bd h j
  · show (0 : Int) ≤ 0 ∧ (0 : Int) ≤ 297237575406452736
    omega
theorem sok_of {a : Nat → Int} (h : ∀ j, 0 ≤ a j ∧ a j ≤ 594475150812905472) : SOk a := sok_all fun j _ => ⟨(h j).1, by have := (h j).2; omega⟩
theorem sadd_v (l m : List Pt) : Pure Try.prog 8 #[S4 (sO l), S4 (sO m)] (.tuple #[S4 (fun k => sO l k + sO m k), .bool true]) := by
  have hq : decide (SOk fun k => sO l k + sO m k) = true := decide_eq_true (sok_of fun j => by have := sO_bd l j; have := sO_bd m j; omega)
  have h := add_both (sO l) (sO m) true (sok_of fun j => by have := sO_bd l j; omega) (sok_of fun j => by have := sO_bd m j; omega) hq
  simpa using h
theorem sO_add {a b s : List Pt} (h : mrg gAdd a b = some s) (j : Nat) : sO s j = sO a j + sO b j := by
  obtain ⟨ha, hb, hs, _⟩ := mrg_some gAdd0 gAddB h
  unfold sO; rw [if_pos ha, if_pos hb, if_pos hs]; exact kS_add h j
end Go.Proofs.Ytlhljioncgddeaa

/- pool: what operations leave, and how much it is in all. -/
import Derived.Test.YtnckjacbkhoppaaPs0
import Derived.Test.YtnckjacbkhoppaaPo6
namespace Go.Proofs.Ytnckjacbkhoppaa
open Go.RowKit
attribute [local go_sem] ext_cell ext_frozen Mix.calmUpon Mix.mUpon
theorem vr_ok {l : List Pt} (h : VR l) : ∀ p ∈ l, LOk p.1 p.2.1 := fun p hp => (h.1 p hp).1
theorem kS_gt {l : List Pt} (h : VR l) (j : Nat) : kS l j = sumR (fun r => gt l j r) 33 := by
  rw [kS_sl j (vr_ok h)]; exact sumR_congr 33 fun r _ => sl_gt h _ _
theorem kS_sub {a b c : List Pt} (h : mrg gSub a b = some c) (j : Nat) : kS c j + kS b j = kS a j := by
  obtain ⟨ha, hb, hc, hg⟩ := mrg_some gSub0 gSubB h
  rw [kS_gt hc, kS_gt hb, kS_gt ha, ← sumR_add]
  refine sumR_congr 33 fun r _ => ?_
  have := hg j r
  unfold gSub at this
  split at this
  · have := Option.some.inj this; omega
  · cases this
theorem kS_add {a b c : List Pt} (h : mrg gAdd a b = some c) (j : Nat) : kS c j = kS a j + kS b j := by
  obtain ⟨ha, hb, hc, hg⟩ := mrg_some gAdd0 gAddB h
  rw [kS_gt hc, kS_gt hb, kS_gt ha, ← sumR_add]
  refine sumR_congr 33 fun r _ => ?_
  have := hg j r
  unfold gAdd at this
  split at this
  · have := Option.some.inj this; omega
  · cases this
theorem kS_map {l : List Pt} (f t : Int) (j : Nat) : kS (l.map (ren f t)) j = kS l j := by
  induction l with
  | nil => rfl
  | cons p s ih =>
    rw [List.map_cons, kS, kS, ih]
    unfold ren
    split <;> rfl
theorem sl_ren {l : List Pt} {f t : Int} (h : ∀ p ∈ l, p.2.1 = f) (k r : Int) : sl (l.map (ren f t)) k r = if r = t then sl l k f else 0 := by
  induction l with
  | nil => simp [sl]
  | cons p s ih =>
    rw [List.map_cons, sl, ih fun x hx => h x (by simp [hx])]
    have hp := h p (by simp)
    rw [show ren f t p = (p.1, t, p.2.2) from if_pos hp]
    by_cases hr : r = t
    · rw [if_pos hr, if_pos hr, sl]
      simp only [hp, hr, and_true]
    · rw [if_neg hr, if_neg hr, if_neg fun e => hr e.2.symm]; rfl
theorem mv_all {l : List Pt} {f t : Int} (h : VR l) (hl : ∀ p ∈ l, p.2.1 = f) (hf : LOk 0 f) (ht : LOk 0 t) : ∃ m, mvO l f t = some m ∧ VR m ∧ ∀ j : Nat, kS m j = kS l j := by
  have hok : OfOk (l.map (ren f t)) := by
    refine ⟨fun p hp => ?_, fun k r => ?_⟩
    · obtain ⟨q, hq, rfl⟩ := List.mem_map.1 hp
      rw [show ren f t q = (q.1, t, q.2.2) from if_pos (hl q hq)]
      have h1 := h.1 q hq
      exact ⟨⟨h1.1.1, h1.1.2.1, ht.2.2.1, ht.2.2.2⟩, by have := h1.2.1; show 0 ≤ q.2.2; omega⟩
    · rw [sl_ren hl]
      split
      · rw [sl_gt h]; exact (gt_nn h _ _).2
      · decide
  refine ⟨ofV (l.map (ren f t)), ?_, ofV_vr hok, fun j => ?_⟩
  · unfold mvO; rw [if_pos ⟨h, hf, ht⟩]; unfold ofO; rw [if_pos hok]
  · rw [kS_gt (ofV_vr hok), ← kS_map f t, kS_sl j fun p hp => (hok.1 p hp).1]
    exact sumR_congr 33 fun r _ => ofV_gt hok _ _
/-- How much is launched. -/
def kL : List Qo → Nat → Int
  | [], _ => 0
  | o :: t, j => (if o.1 = 1 then kS o.2.2 j else 0) + kL t j
theorem kL_append (a b : List Qo) (j : Nat) : kL (a ++ b) j = kL a j + kL b j := by
  induction a with
  | nil => simp [kL]
  | cons x t ih => rw [List.cons_append, kL, ih, kL]; omega
theorem kL_nn {l : List Qo} (h : ∀ o ∈ l, VR o.2.2) (j : Nat) : 0 ≤ kL l j := by
  induction l with
  | nil => simp [kL]
  | cons x t ih =>
    rw [kL]
    have h1 := ih fun o ho => h o (by simp [ho])
    have h2 := kS_bd (h x (by simp)) j
    split <;> omega
theorem kL_none (l : List Qo) (j : Nat) : kL (l.filter fun o => o.1 != 1) j = 0 := by
  induction l with
  | nil => rfl
  | cons x t ih =>
    rw [List.filter_cons]
    split
    · rename_i hx
      rw [kL, ih, if_neg (by simpa using hx)]; rfl
    · exact ih
theorem st_ok {P : List Pt} {role : Int} {o : Qo} (hr : 1 ≤ role ∧ role ≤ 32) (ho : okO o = true) (hf : forO role o = false) :
    ((stS role P o.1 o.2.2).2 ≠ 0 → (stS role P o.1 o.2.2).1 = []) ∧ ((stS role P o.1 o.2.2).2 = 0 → VR (stS role P o.1 o.2.2).1 ∧ ∀ j : Nat, kS (stS role P o.1 o.2.2).1 j + (if o.1 = 1 then kS o.2.2 j else 0) = kS P j) := by
  obtain ⟨k1, k3, hne, hv⟩ := of_decide_eq_true ho
  have tu : ∀ f t : Int, LOk 0 f → LOk 0 t → (∀ p ∈ o.2.2, p.2.1 = f) → ((tuS P o.2.2 f t).2 ≠ 0 → (tuS P o.2.2 f t).1 = []) ∧ ((tuS P o.2.2 f t).2 = 0 → VR (tuS P o.2.2 f t).1 ∧ ∀ j : Nat, kS (tuS P o.2.2 f t).1 j = kS P j) := fun f t hf ht hp => by
    obtain ⟨m, hm, hmv, hmk⟩ := mv_all hv hp hf ht
    unfold tuS
    rw [hm]
    cases h1 : mrg gSub P o.2.2 with
    | none => exact ⟨fun _ => rfl, fun h => by cases h⟩
    | some r =>
      show ((match mrg gAdd r m with | none => (([] : List Pt), (31 : Int)) | some s => (s, 0)).2 ≠ 0 → (match mrg gAdd r m with | none => (([] : List Pt), (31 : Int)) | some s => (s, 0)).1 = []) ∧ ((match mrg gAdd r m with | none => (([] : List Pt), (31 : Int)) | some s => (s, 0)).2 = 0 → VR (match mrg gAdd r m with | none => (([] : List Pt), (31 : Int)) | some s => (s, 0)).1 ∧ ∀ j : Nat, kS (match mrg gAdd r m with | none => (([] : List Pt), (31 : Int)) | some s => (s, 0)).1 j = kS P j)
      cases h2 : mrg gAdd r m with
      | none => exact ⟨fun _ => rfl, fun h => by cases h⟩
      | some s =>
        refine ⟨fun h => absurd rfl h, fun _ => ⟨(mrg_some gAdd0 gAddB h2).2.2.1, fun j => ?_⟩⟩
        show kS s j = kS P j
        rw [kS_add h2, hmk, kS_sub h1]
  have hall : ∀ p ∈ o.2.2, forP role o.1 p = false := fun p hp => by
    unfold forO at hf
    rw [List.any_eq_false] at hf
    simpa using hf p hp
  have l0 : LOk 0 0 := by refine ⟨?_, ?_, ?_, ?_⟩ <;> decide
  have lr : LOk 0 role := ⟨by decide, by decide, by omega, by omega⟩
  unfold stS
  by_cases h2 : o.1 = 2
  · rw [if_pos h2]
    have := tu 0 role l0 lr fun p hp => by
      have := hall p hp
      unfold forP at this
      rw [if_neg (by omega), if_pos h2] at this
      simpa using this
    simpa [show ¬ o.1 = 1 from by omega] using this
  · rw [if_neg h2]
    by_cases h3 : o.1 = 3
    · rw [if_pos h3]
      have := tu role 0 lr l0 fun p hp => by
        have := hall p hp
        unfold forP at this
        rw [if_neg (by omega), if_neg h2, if_pos h3] at this
        simpa using this
      simpa [show ¬ o.1 = 1 from by omega] using this
    · rw [if_neg h3]
      simp only [show o.1 = 1 from by omega, if_true]
      unfold wo
      cases h1 : mrg gSub P o.2.2 with
      | none => exact ⟨fun _ => rfl, fun h => by cases h⟩
      | some r => exact ⟨fun h => absurd rfl h, fun _ => ⟨(mrg_some gSub0 gSubB h1).2.2.1, fun j => kS_sub h1 j⟩⟩
theorem ex_ok {role : Int} (hr : 1 ≤ role ∧ role ≤ 32) : ∀ (l : List Qo) (P : List Pt), VR P → (∀ o ∈ l, okO o = true) → (∀ o ∈ l, forO role o = false) →
    ((exS role P l).2 ≠ 0 → (exS role P l).1 = []) ∧ ((exS role P l).2 = 0 → VR (exS role P l).1 ∧ ∀ j : Nat, kS (exS role P l).1 j + kL l j = kS P j)
  | [], P, hP, _, _ => ⟨fun h => absurd rfl h, fun _ => ⟨hP, fun j => by rw [kL]; exact Int.add_zero _⟩⟩
  | o :: t, P, hP, h1, h2 => by
    obtain ⟨a, b⟩ := st_ok (P := P) hr (h1 o (by simp)) (h2 o (by simp))
    rw [exS]
    split
    · rename_i hz
      obtain ⟨c, d⟩ := b hz
      obtain ⟨e, f⟩ := ex_ok hr t (stS role P o.1 o.2.2).1 c (fun x hx => h1 x (by simp [hx])) fun x hx => h2 x (by simp [hx])
      refine ⟨e, fun hq => ⟨(f hq).1, fun j => ?_⟩⟩
      have h3 := (f hq).2 j
      have h4 := d j
      rw [kL]
      omega
    · rename_i hz
      exact ⟨a, fun h => absurd h hz⟩
theorem chk_ok {P : List Pt} {role : Int} {l : List Qo} (h : chkE P role l = 0) : VR P ∧ (1 ≤ role ∧ role ≤ 32) ∧ (∀ o ∈ l, okO o = true) ∧ ∀ o ∈ l, forO role o = false := by
  unfold chkE at h
  split at h
  · rename_i h0
    split at h
    · rename_i h1
      split at h
      · cases h
      · rename_i h2
        refine ⟨h0.1, h0.2, List.all_eq_true.1 h1, fun o ho => ?_⟩
        unfold forB at h2
        rw [Bool.not_eq_true, List.any_eq_false] at h2
        simpa using h2 o ho
    · cases h
  · cases h
theorem run_ok (P : List Pt) (role : Int) (l : List Qo) : ((runS P role l).2 ≠ 0 → (runS P role l).1 = []) ∧ ((runS P role l).2 = 0 → VR P ∧ (∀ o ∈ l, okO o = true) ∧ VR (runS P role l).1 ∧ ∀ j : Nat, kS (runS P role l).1 j + kL l j = kS P j) := by
  unfold runS
  split
  · rename_i h
    obtain ⟨a, b, c, d⟩ := chk_ok h
    obtain ⟨e, f⟩ := ex_ok b l P a c d
    exact ⟨e, fun hz => ⟨a, c, f hz⟩⟩
  · rename_i h
    exact ⟨fun _ => rfl, fun hz => absurd hz h⟩
theorem mov_ok (P : List Pt) (role : Int) (l : List Qo) (hz : (movS P role l).2 = 0) : VR P ∧ VR (movS P role l).1 ∧ ∀ j : Nat, kS (movS P role l).1 j = kS P j := by
  unfold movS at hz ⊢
  split at hz
  · rename_i h
    rw [if_pos h]
    obtain ⟨a, b, c, d⟩ := chk_ok h
    obtain ⟨_, f⟩ := ex_ok b (l.filter fun o => o.1 != 1) P a (fun o ho => c o (List.mem_filter.1 ho).1) fun o ho => d o (List.mem_filter.1 ho).1
    refine ⟨a, (f hz).1, fun j => ?_⟩
    have := (f hz).2 j
    rw [kL_none] at this
    omega
  · rename_i h
    exact absurd hz h
theorem kL_take {l : List Qo} (h : ∀ o ∈ l, okO o = true) (t : Nat) (j : Nat) : 0 ≤ kL (l.take t) j ∧ kL (l.take t) j ≤ kL l j := by
  have hv : ∀ o ∈ l, VR o.2.2 := fun o ho => (of_decide_eq_true (h o ho)).2.2.2
  have h1 := kL_nn (fun o ho => hv o (List.mem_of_mem_take ho)) j (l := l.take t)
  have h2 := kL_nn (fun o ho => hv o (List.mem_of_mem_drop ho)) j (l := l.drop t)
  have h3 := kL_append (l.take t) (l.drop t) j
  rw [List.take_append_drop] at h3
  omega
/-- sums.Of of every valid vector. -/
theorem sumsE (a : Option Addr) (cap : Nat) (hc : cap ≤ maxLen ∧ (a = none → cap = 0)) (w : World) : Calls Try.prog 23 #[.slice a 0 cap] w fun e w' => e = .returned (S4 (kS [])) ∧ Below w.heap.size w w' := by
  have HR := Lib.hid (vecright_v (.slice a 0 cap) [] (by decide))
  have HV := Lib.hid (show ∀ X : World, Vc X (.slice a 0 cap) [] from fun X => .inl ⟨⟨a, cap, rfl, hc⟩, rfl⟩)
  clear hc
  go_enter Try.func23, Try.ntmps23
  go_wp2_with fail
  refine (HR.out _ (HV.out _)).mono ?_
  rintro e w1 ⟨rfl, hb1⟩
  rw [show decide (VR []) = true from decide_eq_true VR.nil]
  have HD := Lib.hid (OR.start hb1)
  clear hb1
  go_wp2
  go_loopw [12] (fun i wr => i = .int .i64 0 ∧ Hid (OR w wr (fun _ => 0))) (fun i _ => 0)
  case atStart => exact ⟨rfl, HD⟩
  case round =>
    clear HD
    obtain ⟨rfl, HD⟩ := hrel
    have hs := HD.out.size
    have z0 : w.heap.size < wr.heap.size := by omega
    have z1 : w.heap.size + 1 < wr.heap.size := by omega
    have r0 := HD.out.r 0 (by omega); have r1 := HD.out.r 1 (by omega); have r2 := HD.out.r 2 (by omega); have r3 := HD.out.r 3 (by omega)
    have e0 := HD.out.c 0 (by omega); have e1 := HD.out.c 1 (by omega); have e2 := HD.out.c 2 (by omega); have e3 := HD.out.c 3 (by omega)
    have f0 := HD.out.fr 0; have f1 := HD.out.fr 1; have f2 := HD.out.fr 2; have f3 := HD.out.fr 3
    go_wp2
    refine bodyPost_ret (v := S4 (kS [])) (by simp [results, Try.results23, go_sem, kS, *]) rfl ⟨rfl, ?_⟩
    have hbl := HD.out.bel
    first
      | exact bs (bs (bs (bs hbl (by simp) _) (by simp) _) (by simp) _) (by simp) _
      | exact bd (bs (bs (bs (bs hbl (by simp) _) (by simp) _) (by simp) _) (by simp) _)
theorem sumsW (v : Value) (l : List Pt) (h : VR l) : PureOn (fun w => Vc w v l) Try.prog 23 #[v] (S4 (kS l)) := by
  intro W hV
  by_cases hl : l = []
  · subst hl
    rcases hV with ⟨⟨a, cap, rfl, hc⟩, -⟩ | ⟨b, off, cap, rfl, h2, h3, h4, h5⟩
    · exact sumsE a cap hc W
    · exact sumsE _ cap ⟨h3, fun e => by cases e⟩ W
  · exact sumsV v l h hl W hV
end Go.Proofs.Ytnckjacbkhoppaa

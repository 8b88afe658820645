/- tasks: the order of tasks as a comparison. -/
import Derived.Test.YtnckjacbkhoppaaTaP
import Derived.Test.YtnckjacbkhoppaaTaS
import Derived.Test.YtnckjacbkhoppaaMixD
import Derived.Test.YtnckjacbkhoppaaSortG
import Derived.Test.YtnckjacbkhoppaaMapN
import Derived.Test.YtnckjacbkhoppaaLib
namespace Go.Proofs.Ytnckjacbkhoppaa
open Go.RowKit Go.Maps
attribute [local go_sem] MixD.extD_cell MixD.extD_frozen MixD.calmUpon MixD.mUpon
/-- The first of two that is not zero. -/
def or2 (x : Nat → Int) : Int := if x 0 ≠ 0 then x 0 else x 1
theorem or2_at {x : Nat → Int} {k : Nat} (hk : k < 2) (h : ∀ j, j < k → x j = 0) (hn : x k ≠ 0) : or2 x = x k := by
  unfold or2
  rcases k with _ | _ | k
  · rw [if_pos hn]
  · rw [if_neg (by simp [h 0 (by omega)])]
  · omega
theorem or2_none {x : Nat → Int} (h : ∀ j, j < 2 → x j = 0) : or2 x = 0 := by
  unfold or2
  rw [if_neg (by simp [h 0 (by omega)])]
  exact h 1 (by omega)
set_option maxHeartbeats 1000000 in
theorem cmpor {w : World} {q : Nat} (x : Nat → Int) (h : ∀ j, j < 2 → w.cell? ⟨q, j, none⟩ = some (.int .i64 (x j))) : Calls Try.prog 125 #[.slice (some ⟨q, 0, none⟩) 2 2] w fun e w' => e = .returned (.int .i64 (or2 x)) ∧ w' = w := by
  have H := Lib.hid h
  clear h
  go_enter Try.func125, Try.ntmps125
  go_wp2
  go_loop [5, 8] (fun _ u => ∃ k : Nat, u = .int .i64 k ∧ k ≤ 2 ∧ Hid (∀ j, j < k → x j = 0)) (fun _ u => 2 - (intOf u).toNat)
  case atStart => exact ⟨0, rfl, by omega, Lib.hid fun j hj => by omega⟩
  case round =>
    obtain ⟨k, rfl, hk, HZ⟩ := hrel
    by_cases hk4 : k < 2
    · have hc := H.out k hk4
      have hg : decide ((k : Int) < 2) = true := decide_eq_true (by omega)
      by_cases hx : x k = 0
      · rw [hx] at hc
        go_wp2
        go_round
        case rel => exact ⟨k + 1, by go_num, by omega, Lib.hid fun j hj => by
          rcases Nat.lt_succ_iff_lt_or_eq.1 hj with h | rfl
          · exact HZ.out j h
          · exact hx⟩
        case measure => simp [intOf]; omega
      · have HR := Lib.hid (or2_at hk4 HZ.out hx)
        go_wp2
        go_ret
        exact ⟨by rw [HR.out]; rfl, rfl⟩
    · have hg : decide ((k : Int) < 2) = false := decide_eq_false (by omega)
      have HR := Lib.hid (or2_none fun j hj => HZ.out j (by omega))
      go_wp2
      go_ret
      exact ⟨by rw [HR.out]; rfl, rfl⟩
abbrev cmps2 (x y : Tk) : Nat → Int
  | 0 => Go.Lib.compareInt x.frame y.frame
  | _ => Go.Lib.compareInt x.id y.id
/-- The comparison of two tasks. -/
def cmpT (x y : Tk) : Int := or2 (cmps2 x y)
theorem cmpI_lt (a b : Int) : Go.Lib.compareInt a b < 0 ↔ a < b := by
  unfold Go.Lib.compareInt
  by_cases h1 : a < b
  · simp [h1]
  · by_cases h2 : b < a <;> simp [h1, h2]
theorem cmpI_zero (a b : Int) : Go.Lib.compareInt a b = 0 ↔ a = b := by
  unfold Go.Lib.compareInt
  by_cases h1 : a < b
  · simp [h1]; omega
  · by_cases h2 : b < a <;> simp [h1, h2] <;> omega
open Go.Sort Go.Shelf in
theorem ltTk (x y : Tk) : ltOf cmpT x y = ltT x y := by
  rw [Bool.eq_iff_iff]
  unfold ltOf cmpT or2 ltT ltI tkey
  show decide _ = true ↔ decide _ = true
  rw [decide_eq_true_eq, decide_eq_true_eq]
  show (if Go.Lib.compareInt x.frame y.frame ≠ 0 then Go.Lib.compareInt x.frame y.frame else Go.Lib.compareInt x.id y.id) < 0 ↔ (x.frame < y.frame ∨ (x.frame = y.frame ∧ x.id < y.id))
  by_cases h1 : x.frame = y.frame
  · rw [if_neg (by simp [cmpI_zero, h1]), cmpI_lt]; omega
  · rw [if_pos (by simp [cmpI_zero, h1]), cmpI_lt]; omega
open Go.Sort Go.Shelf in
theorem swoT : SWO (ltOf cmpT) where
  irrefl x := by rw [ltTk]; exact ordT.irr x
  trans x y z h1 h2 := by rw [ltTk] at *; exact ordT.trans x y z h1 h2
  ntrans x y z h1 h2 := by rw [ltTk] at *; simp only [ltT, ltI, tkey, decide_eq_false_iff_not] at *; omega
theorem cell_new (w : World) (c : Array Value) (e : TypeId) (j : Nat) : (w.alloc (.cells c e)).cell? ⟨w.heap.size, j, none⟩ = c[j]? := by
  have h := heap_alloc_new w (.cells c e)
  unfold World.cell?
  dsimp only
  rw [h]
  rfl
open Go.Sort Go.Shelf in
set_option maxRecDepth 100000 in
set_option maxHeartbeats 2000000 in
theorem tcmp (x y : Tk) (W : World) : Calls Try.prog 124 #[tkval x, tkval y] W fun e w' => e = .returned (.int .i64 (cmpT x y)) ∧ ∃ q os', w' = grow (W.drewN q) os' := by
  have hc64 := fun a b W' => Go.Proofs.AnyG.cmp_Compare_int Lb.Try.cmp_Compare_int64 a b W'
  change ∀ a b W', Calls Try.prog 126 _ _ _ at hc64
  have HE := Lib.hid (show cmpT x y = or2 (cmps2 x y) from rfl)
  have HG0 := Lib.hid (show MixD.Grow W ((W.alloc (.cells #[.int .i64 x.frame, .int .i64 x.id, .int .i64 x.agent, x.vv] 95)).alloc (.cells #[.int .i64 y.frame, .int .i64 y.id, .int .i64 y.agent, y.vv] 95)) from ⟨ba (ba (Below.refl _ _) _) _, Nat.le_refl _⟩)
  have HX := Lib.hid ((KB.made W x.frame x.id x.agent x.vv).below (ba (Below.refl _ _) (.cells #[.int .i64 y.frame, .int .i64 y.id, .int .i64 y.agent, y.vv] 95)))
  have hy := KB.made (W.alloc (.cells #[.int .i64 x.frame, .int .i64 x.id, .int .i64 x.agent, x.vv] 95)) y.frame y.id y.agent y.vv
  rw [show (W.alloc (.cells #[.int .i64 x.frame, .int .i64 x.id, .int .i64 x.agent, x.vv] 95)).heap.size = W.heap.size + 1 by simp] at hy
  have HY := Lib.hid hy
  clear hy
  go_enter Try.func124, Try.ntmps124
  go_wp2
  generalize (W.alloc (.cells #[.int .i64 x.frame, .int .i64 x.id, .int .i64 x.agent, x.vv] 95)).alloc (.cells #[.int .i64 y.frame, .int .i64 y.id, .int .i64 y.agent, y.vv] 95) = w1 at *
  obtain ⟨x0, x1, x2, x3⟩ := HX.out.cells
  obtain ⟨y0, y1, y2, y3⟩ := HY.out.cells
  have s0 := HX.out.lt; have s1 := HY.out.lt
  refine MixD.region0 (by kernel_rfl) ?_
  intro w2 hg2
  refine MixD.take_ex (w1) 0 rfl (by kernel_rfl) (by kernel_rfl) (by kernel_rfl) (by kernel_rfl) (fun K hK => ?_)
  go_simp
  first | (refine hK _ ?_; clear hK K) | (apply Exists.intro; refine ⟨fun x => ?_, hK _ ?_⟩; (fail); clear hK K)
  refine MixD.take_ex (w1) 1 rfl (by kernel_rfl) (by kernel_rfl) (by kernel_rfl) (by kernel_rfl) (fun K hK => ?_)
  go_simp
  first | (refine hK _ ?_; clear hK K) | (apply Exists.intro; refine ⟨fun x => ?_, hK _ ?_⟩; (fail); clear hK K)
  refine MixD.take_ex (w1) 2 rfl (by kernel_rfl) (by kernel_rfl) (by kernel_rfl) (by kernel_rfl) (fun K hK => ?_)
  go_simp
  first | (refine hK _ ?_; clear hK K) | (apply Exists.intro; refine ⟨fun x => ?_, hK _ ?_⟩; (fail); clear hK K)
  refine MixD.take_ex (w1) 3 rfl (by kernel_rfl) (by kernel_rfl) (by kernel_rfl) (by kernel_rfl) (fun K hK => ?_)
  go_simp
  first | (refine hK _ ?_; clear hK K) | (apply Exists.intro; refine ⟨fun x => ?_, hK _ ?_⟩; (fail); clear hK K)
  refine MixD.take_ex (w1) 4 rfl (by kernel_rfl) (by kernel_rfl) (by kernel_rfl) (by kernel_rfl) (fun K hK => ?_)
  go_simp
  first | (refine hK _ ?_; clear hK K) | (apply Exists.intro; refine ⟨fun x => ?_, hK _ ?_⟩; ((exact (hc64 _ _ _).mono fun e w' ⟨h1, h2⟩ => ⟨h1, by rw [h2]; exact MixD.Grow.refl _⟩)); clear hK K)
  refine MixD.take_ex (w1) 5 rfl (by kernel_rfl) (by kernel_rfl) (by kernel_rfl) (by kernel_rfl) (fun K hK => ?_)
  go_simp
  first | (refine hK _ ?_; clear hK K) | (apply Exists.intro; refine ⟨fun x => ?_, hK _ ?_⟩; (fail); clear hK K)
  refine MixD.take_ex (w1) 6 rfl (by kernel_rfl) (by kernel_rfl) (by kernel_rfl) (by kernel_rfl) (fun K hK => ?_)
  go_simp
  first | (refine hK _ ?_; clear hK K) | (apply Exists.intro; refine ⟨fun x => ?_, hK _ ?_⟩; (fail); clear hK K)
  refine MixD.take_ex (w1) 7 rfl (by kernel_rfl) (by kernel_rfl) (by kernel_rfl) (by kernel_rfl) (fun K hK => ?_)
  go_simp
  first | (refine hK _ ?_; clear hK K) | (apply Exists.intro; refine ⟨fun x => ?_, hK _ ?_⟩; (fail); clear hK K)
  refine MixD.take_ex (w1) 8 rfl (by kernel_rfl) (by kernel_rfl) (by kernel_rfl) (by kernel_rfl) (fun K hK => ?_)
  go_simp
  first | (refine hK _ ?_; clear hK K) | (apply Exists.intro; refine ⟨fun x => ?_, hK _ ?_⟩; (fail); clear hK K)
  refine MixD.take_ex (w1) 9 rfl (by kernel_rfl) (by kernel_rfl) (by kernel_rfl) (by kernel_rfl) (fun K hK => ?_)
  go_simp
  first | (refine hK _ ?_; clear hK K) | (apply Exists.intro; refine ⟨fun x => ?_, hK _ ?_⟩; ((exact (hc64 _ _ _).mono fun e w' ⟨h1, h2⟩ => ⟨h1, by rw [h2]; exact MixD.Grow.refl _⟩)); clear hK K)
  refine MixD.all (rs := [10]) (by kernel_rfl) (by simp) (MixD.over_of hg2) ?_
  intro i3 hi3 w3 hg3 hC3
  simp only [List.mem_cons, List.not_mem_nil, or_false] at hi3
  subst hi3
  clear hC3
  refine MixD.op rfl (by kernel_rfl) ?_
  go_simp
  have HC4 := Lib.hid (show ∀ j, j < 2 → (w3.alloc (.cells #[.int .i64 (Go.Lib.compareInt x.frame y.frame), .int .i64 (Go.Lib.compareInt x.id y.id)] 3)).cell? ⟨w3.heap.size, j, none⟩ = some (.int .i64 (cmps2 x y j)) from fun j hj => by
    refine (cell_new w3 _ _ j).trans ?_
    rcases j with _ | _ | j
    · rfl
    · rfl
    · omega)
  have HG4 := Lib.hid (show MixD.Grow W (w3.alloc (.cells #[.int .i64 (Go.Lib.compareInt x.frame y.frame), .int .i64 (Go.Lib.compareInt x.id y.id)] 3)) from ((HG0.out.trans hg2).trans hg3).trans ⟨ba (Below.refl _ _) _, Nat.le_refl _⟩)
  have HO4 := Lib.hid (show MixD.Grow w1 (w3.alloc (.cells #[.int .i64 (Go.Lib.compareInt x.frame y.frame), .int .i64 (Go.Lib.compareInt x.id y.id)] 3)) from (hg2.trans hg3).trans ⟨ba (Below.refl _ _) _, Nat.le_refl _⟩)
  have hb3 : w3.heap.size < (w3.alloc (.cells #[.int .i64 (Go.Lib.compareInt x.frame y.frame), .int .i64 (Go.Lib.compareInt x.id y.id)] 3)).heap.size := by simp
  generalize w3.alloc (.cells #[.int .i64 (Go.Lib.compareInt x.frame y.frame), .int .i64 (Go.Lib.compareInt x.id y.id)] 3) = w4 at *
  generalize w3.heap.size = q at *
  refine MixD.all (rs := [11]) (by kernel_rfl) (by simp) (MixD.over_of HO4.out) ?_
  intro i5 hi5 w5 hg5 hC5
  simp only [List.mem_cons, List.not_mem_nil, or_false] at hi5
  subst hi5
  have HG5 := Lib.hid (HG4.out.trans hg5)
  have HO5 := Lib.hid (HO4.out.trans hg5)
  have HC5 := Lib.hid (show ∀ j, j < 2 → w5.cell? ⟨q, j, none⟩ = some (.int .i64 (cmps2 x y j)) from fun j hj => (hg5.1.cell (p := ⟨q, j, none⟩) hb3).trans (HC4.out j hj))
  clear hC5 hg5 hg2 hg3 hb3 x0 x1 x2 x3 y0 y1 y2 y3 s0 s1
  refine MixD.op rfl (by kernel_rfl) ?_
  go_simp
  refine (cmpor (cmps2 x y) HC5.out).mono ?_
  rintro e w6 ⟨rfl, rfl⟩
  refine ⟨_, rfl, ?_⟩
  refine MixD.all (rs := [12]) (by kernel_rfl) (by simp) (MixD.over_of HO5.out) ?_
  intro i7 hi7 w7 hg7 hC7
  simp only [List.mem_cons, List.not_mem_nil, or_false] at hi7
  subst hi7
  have HG7 := Lib.hid (HG5.out.trans hg7)
  have HO7 := Lib.hid (HO5.out.trans hg7)
  clear hC7 hg7
  refine MixD.op rfl (by kernel_rfl) ?_
  go_simp
  refine MixD.done (by kernel_rfl) (MixD.over_of HO7.out) ?_
  intro w8 hg8
  have HG8 := Lib.hid (HG7.out.trans hg8)
  clear hg8
  go_wp2
  go_ret
  exact ⟨by rw [HE.out]; rfl, HG8.out.grown⟩
/-- A sorted permutation of records with distinct keys stands in order. -/
theorem sorted_in {α κ : Type} [Inhabited α] [DecidableEq κ] {key : α → κ} {lt : α → α → Bool} (O : Srt.Ord key lt) {l : List α} {d' : Array α} (hk : (l.map key).Nodup) (h1 : Go.Sort.PermIn 0 l.toArray.size l.toArray d') (h2 : Go.Sort.SortedIn lt 0 l.toArray.size d') : Srt.In key lt d'.toList ∧ d'.toList.Perm l := by
  obtain ⟨hs, _, hpp⟩ := h1
  have e1 : (d'.extract 0 l.toArray.size).toList = d'.toList := by rw [← hs, Array.extract_size]
  have e2 : (l.toArray.extract 0 l.toArray.size).toList = l := by rw [Array.extract_size]
  rw [e1, e2] at hpp
  have hkd : (d'.toList.map key).Nodup := (hpp.map key).nodup_iff.2 hk
  refine ⟨?_, hpp⟩
  rw [Srt.In, List.pairwise_iff_getElem]
  intro i j hi hj hij
  have hkk : key d'.toList[i] ≠ key d'.toList[j] := by
    have := List.pairwise_iff_getElem.1 hkd i j (by simpa using hi) (by simpa using hj) hij
    simpa using this
  have hi' : i < d'.size := by simpa using hi
  have hj' : j < d'.size := by simpa using hj
  have := h2 i j (Nat.zero_le _) hij (by rw [← hs]; exact hj')
  have a1 : d'[i]! = d'.toList[i] := by simp [hi']
  have a2 : d'[j]! = d'.toList[j] := by simp [hj']
  rw [a1, a2] at this
  exact ⟨O.tot _ _ this fun e => hkk e.symm, hkk⟩
/-- Tasks whose vector is one cell (as every slice is). -/
abbrev T1 := { x : Tk // x.vv.oneCell' = true }
instance : Inhabited T1 := ⟨⟨⟨0, 0, 0, .slice none 0 0, []⟩, rfl⟩⟩
def enc1 (x : T1) : List Value := tkenc x.1
theorem ord1 : Srt.Ord (fun x : T1 => tkey x.1) (fun a b => ltT a.1 b.1) where
  irr := fun a => ordT.irr a.1
  trans := fun a b c => ordT.trans a.1 b.1 c.1
  tot := fun a b => ordT.tot a.1 b.1
open Go.Sort Go.Shelf in
theorem swo1 : SWO (ltOf fun x y : T1 => cmpT x.1 y.1) where
  irrefl x := swoT.irrefl x.1
  trans x y z := swoT.trans x.1 y.1 z.1
  ntrans x y z := swoT.ntrans x.1 y.1 z.1
theorem to1 : ∀ {l : List Tk}, (∀ x ∈ l, x.vv.oneCell' = true) → ∃ l1 : List T1, l1.map Subtype.val = l
  | [], _ => ⟨[], rfl⟩
  | x :: t, h => by
    obtain ⟨l1, h1⟩ := to1 (l := t) fun y hy => h y (List.mem_cons_of_mem _ hy)
    exact ⟨⟨x, h x List.mem_cons_self⟩ :: l1, by rw [List.map_cons, h1]⟩
theorem rs1 {w : World} {v : Value} {l : List T1} (h : RS 4 enc1 w v l) : RS 4 tkenc w v (l.map Subtype.val) := by
  obtain ⟨a, cap, h0, h1, h2, h3⟩ := h
  refine ⟨a, cap, by rw [List.length_map]; exact h0, by rw [List.length_map]; exact h1, h2, fun hne => ?_⟩
  obtain ⟨b, off, e, hb, hc⟩ := h3 (fun e => hne (by rw [e]; rfl))
  refine ⟨b, off, e, hb, fun i hi j u hu => hc i (by simpa using hi) j u ?_⟩
  rw [List.getElem_map] at hu
  exact hu
theorem own1 {w : World} {base : Nat} {v : Value} {l : List T1} (h : OwnL 95 4 tkenc w base v (l.map Subtype.val)) : OwnL 95 4 enc1 w base v l := by
  unfold OwnL at *
  rw [List.length_map, List.flatMap_map] at h
  exact h
open Go.Sort Go.Shelf in
set_option maxHeartbeats 1000000 in
/-- slices.SortFunc by that order. -/
theorem tsort {w : World} {base : Nat} {v : Value} {l : List Tk} (h : OwnL 95 4 tkenc w base v l) (hk : (l.map tkey).Nodup) (h1c : ∀ x ∈ l, x.vv.oneCell' = true) (hln : l.length < 1000000) : Calls Try.prog 123 #[v, .func (.func 124) #[] #[]] w fun e w' => e = .returned (.tuple #[]) ∧ (∃ S, Srt.In tkey ltT S ∧ S.Perm l ∧ RS 4 tkenc w' v S) ∧ Chg (fun b => v.ownBlock = some b) w w' := by
  obtain ⟨l1, rfl⟩ := to1 h1c
  by_cases hl : l1 = []
  · subst hl
    obtain ⟨p, cap, rfl⟩ : ∃ p cap, v = .slice p 0 cap := by
      rcases h.2 with ⟨rfl, _⟩ | ⟨g, cap, cur, rfl, _⟩
      · exact ⟨_, _, rfl⟩
      · exact ⟨_, _, rfl⟩
    have hcon := AnyF.slices_SortFunc_none Lb.Try.sortT p cap (.func (.func 124) #[] #[]) w
    change Calls Try.prog 123 _ _ _ at hcon
    refine hcon.mono ?_
    rintro e w' ⟨rfl, rfl⟩
    exact ⟨rfl, ⟨[], Srt.In.nil, .refl _, h.rs (fun _ => rfl)⟩, Chg.refl _ _⟩
  · have h := own1 h
    rw [List.map_map] at hk
    rw [List.length_map] at hln
    obtain ⟨blk, cap, rfl, h1, h2, _, hb, hH⟩ := own_holds h (fun _ => rfl) hl
    have eg : ∀ args w, (callFunc 124 args).run Try.prog w = .ok (.enter 124 args) w := enters_of Try.func124 (by kernel_rfl) rfl
    have hcmp : CmpLays Try.prog 124 #[] enc1 4 (fun x y => cmpT x.1 y.1) blk 0 l1.toArray.size w := fun _ _ _ _ x y => tcmp x.1 y.1 _
    have hm : l1.length < 4611686018427387904 := by omega
    have hcon := AnyQ.slices_SortFunc Lb.Try.sortT 4 Try.isAgg95 Try.sizeOf95 enc1 (fun _ => rfl) (fun x u hu => by
      simp only [enc1, tkenc, List.mem_cons, List.not_mem_nil, or_false] at hu
      rcases hu with rfl | rfl | rfl | rfl
      · rfl
      · rfl
      · rfl
      · exact x.2) (fun x y : T1 => cmpT x.1 y.1) swo1 124 #[] blk 0 cap l1.toArray w eg hcmp hH hb (by simpa using hm)
    change Calls Try.prog 123 _ _ _ at hcon
    refine hcon.mono ?_
    rintro e w' ⟨rfl, d', n, os, hpm, hso, rfl⟩
    have hso' : SortedIn (fun a b : T1 => ltT a.1 b.1) 0 l1.toArray.size d' := by
      have := hso
      unfold SortedIn at this ⊢
      intro i j hi hij hj
      have h := this i j hi hij hj
      exact (ltTk _ _).symm.trans h
    obtain ⟨hin, hpp⟩ := sorted_in ord1 hk hpm hso'
    have hsz : d'.size = l1.toArray.size := hpm.1
    have hr := holds_rs (cap := cap) (holdsK_sortWorldK_c enc1 4 w blk 0 l1.toArray d' n os hH hb hsz) (fun _ => rfl) (by rw [hsz]; simpa using h1) h2 (Nat.lt_of_lt_of_le hb (chg_sortWorldK blk 0 n d' os).size)
    rw [hsz] at hr
    exact ⟨rfl, ⟨_, List.pairwise_map.2 hin, hpp.map _, rs1 hr⟩, (chg_sortWorldK blk 0 n d' os).mono fun k e => by rw [e]; rfl⟩
end Go.Proofs.Ytnckjacbkhoppaa

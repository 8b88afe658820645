/- Texts laid together: Tii,Tij,Tir. -/
import Derived.Test.YtgfjmafdfbghnaaGreatTgC
import Derived.Test.YtgfjmafdfbghnaaGreatTgE
namespace Go.Proofs.YtgfjmafdfbghnaaGreat
section
open Go.RowKit Go.Maps
attribute [local go_sem] ext_cell ext_frozen extC_cell extC_frozen Mix.calmUpon Mix.mUpon
theorem nth9_count (T : Nat → Int) (C : List Dc) (n : Nat) : ∀ A : List Dc, (nth9 T C n A).length + (A.filter fun d => d.c.aw && decide (rank T C d < n)).length = (A.filter fun d => d.c.aw && decide (rank T C d < n + 1)).length
  | [] => rfl
  | x :: A => by
    have ih := nth9_count T C n A
    unfold nth9 at ih ⊢
    rw [List.length_map] at ih ⊢
    rw [List.filter_cons, List.filter_cons, List.filter_cons]
    cases hx : x.c.aw with
    | false => simpa [hx] using ih
    | true =>
      simp only [Bool.true_and]
      by_cases h1 : rank T C x < n
      · have h2 : ¬ rank T C x = n := by omega
        have h3 : rank T C x < n + 1 := by omega
        simp only [h1, h2, h3, decide_true, beq_iff_eq, if_true, if_false, List.length_cons]
        omega
      · by_cases h2 : rank T C x = n
        · have h3 : rank T C x < n + 1 := by omega
          simp only [h1, h3, decide_true, decide_false, beq_iff_eq, h2, if_true, if_false, List.length_cons, Nat.lt_irrefl, Nat.lt_succ_self, Bool.false_eq_true]
          rw [h2] at *
          omega
        · have h3 : ¬ rank T C x < n + 1 := by omega
          simp only [h1, h2, h3, decide_false, beq_iff_eq, if_false, Bool.false_eq_true]
          omega
theorem ord9_count (T : Nat → Int) (C : List Dc) : ∀ m, (ord9 T C m).length = (C.filter fun d => d.c.aw && decide (rank T C d < m)).length
  | 0 => by
    have e : (C.filter fun d => d.c.aw && decide (rank T C d < 0)) = [] := List.filter_eq_nil_iff.2 fun d _ => by simp
    rw [e]; simp [ord9]
  | m + 1 => by
    rw [ord9_succ, List.length_append, ord9_count T C m]
    have := nth9_count T C m C
    omega
theorem ord9_short (T : Nat → Int) (C : List Dc) (m : Nat) : (ord9 T C m).length ≤ C.length := by
  rw [ord9_count]; exact List.length_filter_le _ _
/-- The frameworks of a role, and the roles, in order. -/
def ownO (T : Nat → Int) (C : List Fd) (r : Int) : List Int := ord9 T (ownD C r) (ownD C r).length
def roleO (T : Nat → Int) (C : List Fd) : List Int := ord9 T (rolesD C 32) (rolesD C 32).length
def wkD (T : Nat → Int) (C : List Fd) (R : List Int) : List (Int × Int) := R.flatMap fun r => (ownO T C r).map fun i => (r, i)
theorem ownO_len (T : Nat → Int) (C : List Fd) (r : Int) : (ownO T C r).length ≤ C.length := Nat.le_trans (ord9_short _ _ _) (ownD_len C r)
theorem roleO_len (T : Nat → Int) (C : List Fd) : (roleO T C).length ≤ 32 := Nat.le_trans (ord9_short _ _ _) (rolesD_len C 32)
theorem wkD_len (T : Nat → Int) (C : List Fd) : ∀ R, (wkD T C R).length ≤ R.length * C.length
  | [] => by simp [wkD]
  | r :: R => by
    have h1 := wkD_len T C R
    have h2 := ownO_len T C r
    unfold wkD at h1 ⊢
    rw [List.flatMap_cons, List.length_append, List.length_map, List.length_cons, Nat.succ_mul]
    omega
theorem wkD_take {T : Nat → Int} {C : List Fd} {R : List Int} {t : Nat} {r : Int} (h : R[t]? = some r) : wkD T C (R.take (t + 1)) = wkD T C (R.take t) ++ (ownO T C r).map fun i => (r, i) := by
  unfold wkD; rw [take_at h, List.flatMap_append]; simp
def prenc (p : Int × Int) : List Value := [.int .i64 p.1, .int .i64 p.2]
/-- A variable that holds a pair. -/
def PRx (w : World) (b : Nat) (p : Int × Int) : Prop := w.heap[b]? = some (.cells #[.int .i64 p.1, .int .i64 p.2] 82 (0, 0))
theorem PRx.made (w : World) (p : Int × Int) : PRx (w.alloc (.cells #[.int .i64 p.1, .int .i64 p.2] 82)) w.heap.size p := heap_alloc_new w _
theorem PRx.cells {w : World} {b : Nat} {p : Int × Int} (h : PRx w b p) : w.cell? ⟨b, 0, none⟩ = some (.int .i64 p.1) ∧ w.cell? ⟨b, 1, none⟩ = some (.int .i64 p.2) := by unfold PRx at h; simp [World.cell?, h]
theorem infoPr : (Tryz.prog.info? 82).map (fun i => (i.zero, i.size, i.bytes)) = some (some (.agg #[.int .i64 0, .int .i64 0]), 2, 16) := by kernel_rfl
theorem own_appPr {w : World} {base : Nat} {v : Value} {l : List (Int × Int)} {b : Nat} (h : OwnL 82 2 prenc w base v l) (x : Int × Int) (hx : PRx w b x) (hl : l.length < 1000000) (hb : base ≤ w.heap.size) :
    ∃ v' w', (Builtin.append_ #[35, 35] 35 #[v, .slice (some ⟨b, 0, none⟩) 1 1]).run Tryz.prog w = .ok v' w' ∧ OwnL 82 2 prenc w' base v' (l ++ [x]) ∧ w.grownBy w' v.ownBlock ∧ (v'.ownBlock = v.ownBlock ∨ v'.ownBlock = some w.heap.size) := by
  obtain ⟨i0, hi, hz0, hz1, hz2⟩ := info_parts infoPr
  obtain ⟨x0, x1⟩ := hx.cells
  exact OwnL.app h Tryz.underlying35 hi hz0 hz1 hz2 rfl (by decide) (fun _ => rfl) x (fun j u hj => by
      rcases j with _ | _ | j <;> simp [prenc] at hj
      · subst hj; exact x0
      · subst hj; exact x1) (fun u hu => by simp [prenc] at hu; rcases hu with rfl | rfl <;> rfl) (by omega) (by unfold maxLen; omega) hb
/-- The pairs so far. -/
structure OWx (w3 wr : World) (vo : Value) (L : List (Int × Int)) : Prop where
  bel : Below w3.heap.size w3 wr
  own : OwnL 82 2 prenc wr w3.heap.size vo L
theorem OWx.on {w3 wr wr' : World} {vo : Value} {L : List (Int × Int)} (h : OWx w3 wr vo L) (hb : Below wr.heap.size wr wr') : OWx w3 wr' vo L :=
  ⟨h.bel.trans (hb.mono h.bel.size), h.own.below hb⟩
def RetPr (l : List (Int × Int)) (w : World) (e : Ending) (w' : World) : Prop := ∃ v, e = .returned v ∧ OwnL 82 2 prenc w' w.heap.size v l ∧ Below w.heap.size w w'
section
variable {w : World} {v : Value} {C : List Fd} {T : Nat → Int}
set_option maxRecDepth 100000 in
set_option maxHeartbeats 8000000 in
theorem rwalkx (h : RS 8 fdenc w v C) (hok : TOk C) (hl : C.length < 900) : Calls Tryz.prog 10 #[mvx T v] w (RetPr (wkD T C (roleO T C)) w) := by
  have HRS := Lib.hid h; have HCN := Lib.hid hl
  have HRO := Lib.hid (rrolesx (T := T) (h.below (ba (Below.refl w.heap.size w) (.cells (mcellsx T v) 28))) hok (by omega))
  obtain ⟨a, n, cp, rfl, hn, hc, hm, hat⟩ := h.at_
  have H0 := Lib.hid (MBx.made w T (.slice a n cp))
  have HB := Lib.hid (ba (Below.refl w.heap.size w) (.cells (mcellsx T (.slice a n cp)) 28))
  clear h hat hn hm hc hok hl
  go_enter Tryz.func10, Tryz.ntmps10
  go_wp2_with fail
  generalize w.alloc (.cells (mcellsx T (.slice a n cp)) 28) = w1 at *
  obtain ⟨b0, hb0⟩ : ∃ b, b = w.heap.size := ⟨_, rfl⟩
  rw [← hb0] at H0 ⊢
  have HBQ := Lib.hid hb0
  clear hb0
  refine HRO.out.mono ?_
  rintro e w3 ⟨v3, rfl, hv3, hb3⟩
  have H3 := Lib.hid (H0.out.below hb3)
  have HB3 := Lib.hid (bt HB.out hb3)
  obtain ⟨Rl, hRl⟩ : ∃ Rl, Rl = roleO T C := ⟨_, rfl⟩
  have hv3' : OwnL 2 1 n1 w3 w1.heap.size v3 Rl := by rw [hRl]; exact hv3
  have hrl : Rl.length ≤ 32 := by rw [hRl]; exact roleO_len T C
  have HRl := Lib.hid hRl
  obtain ⟨a3, n3, c3, rfl, hn3, hc3, hm3, hat3⟩ := (hv3'.rs (fun _ => rfl)).at_
  have HAT := Lib.hid hat3; have HN := Lib.hid hn3
  have hn32 : n3 ≤ 32 := by omega
  clear hv3 hb3 hRl hv3' hrl hn3 hc3 hm3 hat3 H0 HB HRO
  go_wp2
  go_loopw [3, 5] (fun ov iv wr => ∃ t : Nat, t ≤ n3 ∧ iv = .int .i64 t ∧ Hid (OWx w3 wr ov (wkD T C (Rl.take t)))) (fun _ iv _ => n3 - (intOf iv).toNat)
  case atStart => exact ⟨0, Nat.zero_le _, rfl, Lib.hid ⟨Below.refl _ _, OwnL.nil _ _ _ _ _⟩⟩
  case round =>
    obtain ⟨t, ht, rfl, HQ⟩ := hrel
    obtain ⟨w4, rfl⟩ : ∃ w4, w4 = wr := ⟨_, rfl⟩
    obtain ⟨vo, rfl⟩ : ∃ vo, vo = u3 := ⟨_, rfl⟩
    by_cases hlt : t < n3
    · have hts : (t : Int) < (n3 : Int) := by omega
      obtain ⟨r, hr⟩ := at_lt (l := Rl) (i := t) (by rw [← HN.out]; exact hlt)
      obtain ⟨bl, ol, rfl, hbl, hcell⟩ := HAT.out t r hr
      have HBL := Lib.hid hbl
      have HL0 := Lib.hid (hcell 0 _ rfl)
      have hwt := wkD_take (T := T) (C := C) hr
      have HHR := Lib.hid hr
      clear hcell hr hbl
      have e0 := (HQ.out.bel.cell (p := ⟨bl, ol + t * 1 + 0, none⟩) HBL.out).trans HL0.out
      simp only [Nat.add_zero, Nat.mul_one] at e0
      have ql : bl < w4.heap.size := Nat.lt_of_lt_of_le HBL.out HQ.out.bel.size
      have hm0 := H3.out.below HQ.out.bel
      obtain ⟨m0, m1, m2, m3, m4⟩ := hm0.cells
      have ml := hm0.lt
      clear hm0
      have HON := Lib.hid fun W (hW : Below w.heap.size w W) => rownx (T := T) (w := W) (HRS.out.below hW) HCN.out r
      have HB4 := Lib.hid (HB3.out.trans (HQ.out.bel.mono HB3.out.size))
      have HWT := Lib.hid hwt
      clear hwt
      go_upto_region 6 with (fail)
      refine Mix.regionC (fun _ => False) (by kernel_rfl) ?_
      intro w5 hb5
      refine Mix.take_exC _ _ 0 rfl (by kernel_rfl) (by kernel_rfl) (by kernel_rfl) (by kernel_rfl) (fun K hK => ?_)
      go_simp
      first | (refine hK _ ?_; clear hK K) | (apply Exists.intro; refine ⟨fun x => ?_, hK _ ?_⟩; (fail); clear hK K)
      refine Mix.take_exC _ _ 1 rfl (by kernel_rfl) (by kernel_rfl) (by kernel_rfl) (by kernel_rfl) (fun K hK => ?_)
      go_simp
      first | (refine hK _ ?_; clear hK K) | (apply Exists.intro; refine ⟨fun x => ?_, hK _ ?_⟩; (fail); clear hK K)
      refine Mix.take_exC _ _ 2 rfl (by kernel_rfl) (by kernel_rfl) (by kernel_rfl) (by kernel_rfl) (fun K hK => ?_)
      go_simp
      first | (refine hK _ ?_; clear hK K) | (apply Exists.intro; refine ⟨fun x => ?_, hK _ ?_⟩; (fail); clear hK K)
      refine Mix.take_exC _ _ 3 rfl (by kernel_rfl) (by kernel_rfl) (by kernel_rfl) (by kernel_rfl) (fun K hK => ?_)
      go_simp
      first | (refine hK _ ?_; clear hK K) | (apply Exists.intro; refine ⟨fun x => ?_, hK _ ?_⟩; (fail); clear hK K)
      refine Mix.take_exC _ _ 4 rfl (by kernel_rfl) (by kernel_rfl) (by kernel_rfl) (by kernel_rfl) (fun K hK => ?_)
      go_simp
      first | (refine hK _ ?_; clear hK K) | (apply Exists.intro; refine ⟨fun x => ?_, hK _ ?_⟩; (fail); clear hK K)
      clear e0 ql m0 m1 m2 m3 m4 ml
      refine Mix.all (rs := [5]) (by kernel_rfl) (by simp) (.of_below _ hb5) ?_
      intro i6 hi6 w6 hb6 hC6
      simp only [List.mem_cons, List.not_mem_nil, or_false] at hi6
      subst hi6
      have HB6 := Lib.hid (bt hb5 hb6)
      clear hC6 hb5 hb6
      refine Mix.op rfl (by kernel_rfl) ?_
      go_simp
      refine (HON.out w6 (HB4.out.trans (HB6.out.mono HB4.out.size))).mono ?_
      rintro e w7 ⟨v7, rfl, hv7, hb7⟩
      refine ⟨_, rfl, ?_⟩
      have HB7 := Lib.hid (bt HB6.out hb7)
      obtain ⟨Ol, hOl⟩ : ∃ Ol, Ol = ownO T C r := ⟨_, rfl⟩
      have hv7' : OwnL 2 1 n1 w7 w6.heap.size v7 Ol := by rw [hOl]; exact hv7
      have hol : Ol.length ≤ C.length := by rw [hOl]; exact ownO_len T C r
      have hwt := HWT.out
      rw [← hOl] at hwt
      have HWT := Lib.hid hwt
      have HR7 := Lib.hid (hv7'.rs (fun _ => rfl))
      have HLT := Lib.hid (show ∀ k, v7.ownBlock = some k → w4.heap.size ≤ k ∧ k < w7.heap.size from fun k hk => by have := hv7'.lt k hk; have := HB6.out.size; omega)
      clear hv7 hb7 hOl hv7' hwt
      refine Mix.take_exC _ _ 6 rfl (by kernel_rfl) (by kernel_rfl) (by kernel_rfl) (by kernel_rfl) (fun K hK => ?_)
      go_simp
      first | (refine hK _ ?_; clear hK K) | (apply Exists.intro; refine ⟨fun x => ?_, hK _ ?_⟩; (fail); clear hK K)
      refine Mix.done (by kernel_rfl) (.of_below _ HB7.out) ?_
      intro w8 hb8
      have HQ8 := Lib.hid (HQ.out.on (bt HB7.out hb8))
      have HR8 := Lib.hid (And.intro (HR7.out.below hb8) (show ∀ k, v7.ownBlock = some k → k < w8.heap.size ∧ vo.ownBlock ≠ some k from fun k hk => ⟨by have := (HLT.out k hk).2; have := hb8.size; omega, fun e => by have := (HLT.out k hk).1; have := (HQ.out.own.lt k e).2; omega⟩))
      have HOL := Lib.hid hol
      clear hb8 HB7 HR7 HLT hol HQ HON HB4
      obtain ⟨a7, n7, c7, rfl, hn7, _, hm7, _⟩ := HR8.out.1.at_
      have HN7 := Lib.hid hn7
      have hnb : n7 ≤ 9223372036854775807 := by unfold maxLen at hm7; omega
      clear hn7 hm7
      go_wp2
      go_loopw [3, 7] (fun ov iv wr => ∃ s : Nat, s ≤ n7 ∧ iv = .int .i64 s ∧ Hid (OWx w3 wr ov (wkD T C (Rl.take t) ++ (Ol.take s).map fun i => (r, i)) ∧ RS 1 n1 wr (.slice a7 n7 c7) Ol ∧ (∀ k, Value.ownBlock (.slice a7 n7 c7) = some k → k < wr.heap.size ∧ ov.ownBlock ≠ some k))) (fun _ iv _ => n7 - (intOf iv).toNat)
      case atStart => exact ⟨0, Nat.zero_le _, rfl, Lib.hid ⟨by simpa using HQ8.out, HR8.out⟩⟩
      case round =>
        clear HQ8 HR8
        obtain ⟨s, hs, rfl, HI⟩ := hrel
        obtain ⟨w9, rfl⟩ : ∃ x, x = wr := ⟨_, rfl⟩
        obtain ⟨vp, hvp⟩ : ∃ x, x = u3 := ⟨_, rfl⟩
        subst hvp
        by_cases hls : s < n7
        · have hss : (s : Int) < (n7 : Int) := by omega
          obtain ⟨i, hi⟩ := at_lt (l := Ol) (i := s) (by rw [← HN7.out]; exact hls)
          obtain ⟨a', n', c', he, hn', hc', hm', hat7⟩ := HI.out.2.1.at_
          have he1 : a' = a7 := by cases he; rfl
          rw [he1] at hat7
          clear he hn' hc' hm' he1
          obtain ⟨bo, oo, rfl, hbo, hcell⟩ := hat7 s i hi
          have f0 := hcell 0 _ rfl
          have e0 := (HI.out.1.bel.cell (p := ⟨bl, ol + t * 1 + 0, none⟩) HBL.out).trans HL0.out
          simp only [Nat.add_zero, Nat.mul_one] at e0 f0
          have ql : bl < w9.heap.size := Nat.lt_of_lt_of_le HBL.out HI.out.1.bel.size
          have nl : ¬ OBx vp bl := fun e => by have := (HI.out.1.own.lt bl e).1; have := HBL.out; omega
          have no : ¬ OBx vp bo := fun e => (HI.out.2.2 bo rfl).2 e
          have HW := Lib.hid (show (wkD T C (Rl.take t) ++ (Ol.take s).map fun i => (r, i)) ++ [(r, i)] = wkD T C (Rl.take t) ++ (Ol.take (s + 1)).map fun i => (r, i) from by rw [take_at hi, List.map_append, List.append_assoc]; rfl)
          have HCL := Lib.hid (show (wkD T C (Rl.take t) ++ (Ol.take s).map fun i => (r, i)).length < 1000000 from by
            have h1 := wkD_len T C (Rl.take t)
            have h2 := List.length_take_le s Ol
            have h3 : (Ol.take s).length ≤ Ol.length := by rw [List.length_take]; omega
            have h4 : (Rl.take t).length ≤ 32 := by rw [List.length_take]; omega
            have h5 : (Rl.take t).length * C.length ≤ 32 * 900 := Nat.mul_le_mul h4 (by have := HCN.out; omega)
            have h6 := HOL.out; have h7 := HCN.out
            rw [List.length_append, List.length_map]; omega)
          clear hcell hi hat7
          go_upto_region 10 with (fail)
          refine Mix.regionC (OBx vp) (by kernel_rfl) ?_
          intro w10 hb10
          refine Mix.take_exC _ _ 0 rfl (by kernel_rfl) (by kernel_rfl) (by kernel_rfl) (by kernel_rfl) (fun K hK => ?_)
          go_simp
          first | (refine hK _ ?_; clear hK K) | (apply Exists.intro; refine ⟨fun x => ?_, hK _ ?_⟩; (fail); clear hK K)
          refine Mix.take_exC _ _ 1 rfl (by kernel_rfl) (by kernel_rfl) (by kernel_rfl) (by kernel_rfl) (fun K hK => ?_)
          go_simp
          first | (refine hK _ ?_; clear hK K) | (apply Exists.intro; refine ⟨fun x => ?_, hK _ ?_⟩; (fail); clear hK K)
          refine Mix.take_exC _ _ 2 rfl (by kernel_rfl) (by kernel_rfl) (by kernel_rfl) (by kernel_rfl) (fun K hK => ?_)
          go_simp
          first | (refine hK _ ?_; clear hK K) | (apply Exists.intro; refine ⟨fun x => ?_, hK _ ?_⟩; (fail); clear hK K)
          refine Mix.take_exC _ _ 3 rfl (by kernel_rfl) (by kernel_rfl) (by kernel_rfl) (by kernel_rfl) (fun K hK => ?_)
          go_simp
          first | (refine hK _ ?_; clear hK K) | (apply Exists.intro; refine ⟨fun x => ?_, hK _ ?_⟩; (fail); clear hK K)
          refine Mix.take_exC _ _ 4 rfl (by kernel_rfl) (by kernel_rfl) (by kernel_rfl) (by kernel_rfl) (fun K hK => ?_)
          go_simp
          first | (refine hK _ ?_; clear hK K) | (apply Exists.intro; refine ⟨fun x => ?_, hK _ ?_⟩; (fail); clear hK K)
          refine Mix.take_exC _ _ 5 rfl (by kernel_rfl) (by kernel_rfl) (by kernel_rfl) (by kernel_rfl) (fun K hK => ?_)
          go_simp
          first | (refine hK _ ?_; clear hK K) | (apply Exists.intro; refine ⟨fun x => ?_, hK _ ?_⟩; (fail); clear hK K)
          refine Mix.take_exC _ _ 6 rfl (by kernel_rfl) (by kernel_rfl) (by kernel_rfl) (by kernel_rfl) (fun K hK => ?_)
          go_simp
          first | (refine hK _ ?_; clear hK K) | (apply Exists.intro; refine ⟨fun x => ?_, hK _ ?_⟩; (fail); clear hK K)
          refine Mix.take_exC _ _ 7 rfl (by kernel_rfl) (by kernel_rfl) (by kernel_rfl) (by kernel_rfl) (fun K hK => ?_)
          go_simp
          first | (refine hK _ ?_; clear hK K) | (apply Exists.intro; refine ⟨fun x => ?_, hK _ ?_⟩; (fail); clear hK K)
          refine Mix.take_exC _ _ 8 rfl (by kernel_rfl) (by kernel_rfl) (by kernel_rfl) (by kernel_rfl) (fun K hK => ?_)
          go_simp
          first | (refine hK _ ?_; clear hK K) | (apply Exists.intro; refine ⟨fun x => ?_, hK _ ?_⟩; (fail); clear hK K)
          refine Mix.take_exC _ _ 9 rfl (by kernel_rfl) (by kernel_rfl) (by kernel_rfl) (by kernel_rfl) (fun K hK => ?_)
          go_simp
          first | (refine hK _ ?_; clear hK K) | (apply Exists.intro; refine ⟨fun x => ?_, hK _ ?_⟩; (fail); clear hK K)
          clear e0 f0 ql nl no hbo
          refine Mix.all (rs := [10]) (by kernel_rfl) (by simp) (.of_below _ hb10) ?_
          intro i11 hi11 w11 hb11 hC11
          simp only [List.mem_cons, List.not_mem_nil, or_false] at hi11
          subst hi11
          have HB11 := Lib.hid (bt hb10 hb11)
          clear hC11 hb10 hb11
          refine Mix.op rfl (by kernel_rfl) ?_
          go_simp
          obtain ⟨w12, hw12⟩ : ∃ x, x = w11.alloc (.cells #[.int .i64 r, .int .i64 i] 82) := ⟨_, rfl⟩
          obtain ⟨q12, hq12⟩ : ∃ x, x = w11.heap.size := ⟨_, rfl⟩
          have hb12 : Below w9.heap.size w9 w12 := by rw [hw12]; exact ba HB11.out _
          have HX12 := Lib.hid (show PRx w12 q12 (r, i) from by rw [hw12, hq12]; exact PRx.made w11 (r, i))
          have HQ12 := Lib.hid (HI.out.1.on hb12)
          have HB12 := Lib.hid hb12
          have HS12 := Lib.hid (show w9.heap.size ≤ q12 from by rw [hq12]; exact HB11.out.size)
          rw [← hw12, ← hq12]
          clear hb12 hw12 hq12 HB11
          refine Mix.all (rs := [11]) (by kernel_rfl) (by simp) (.of_below _ HB12.out) ?_
          intro i13 hi13 w13 hb13 hC13
          simp only [List.mem_cons, List.not_mem_nil, or_false] at hi13
          subst hi13
          have HX13 := Lib.hid (show PRx w13 q12 (r, i) from (hb13.block q12 (Array.getElem?_eq_some_iff.1 HX12.out).1).trans HX12.out)
          have HQ13 := Lib.hid (HQ12.out.on hb13)
          have HB13 := Lib.hid (bt HB12.out hb13)
          clear hC13 hb13
          obtain ⟨v14, w14, hrun, o14, g14, hv14⟩ := own_appPr HQ13.out.own (r, i) HX13.out HCL.out HQ13.out.bel.size
          have HRA := Lib.hid hrun
          have hch : Chg (OBx vp) w13 w14 := .of_grown g14 fun k e => e
          have HC14 := Lib.hid ((Chg.of_below (OBx vp) HB13.out).same hch)
          have HO14 := Lib.hid (show OWx w3 w14 v14 _ from ⟨HQ13.out.bel.grown g14 HQ13.out.bel.size (fun j hj => (HQ13.out.own.lt j hj).1), o14⟩)
          have HD14 := Lib.hid (show ∀ k, Value.ownBlock (.slice (some ⟨bo, oo, none⟩) n7 c7) = some k → v14.ownBlock ≠ some k from fun k hk e => by
            have h1 := HI.out.2.2 k hk
            rcases hv14 with h | h
            · exact h1.2 (h.symm.trans e)
            · rw [e] at h; cases h; have := HB13.out.size; omega)
          clear hrun o14 g14 hv14 hch
          refine Mix.opApp rfl (by kernel_rfl) _ _ _ rfl rfl rfl HRA.out ?_
          go_simp
          refine Mix.take_exC _ _ 12 rfl (by kernel_rfl) (by kernel_rfl) (by kernel_rfl) (by kernel_rfl) (fun K hK => ?_)
          go_simp
          first | (refine hK _ ?_; clear hK K) | (apply Exists.intro; refine ⟨fun x => ?_, hK _ ?_⟩; (fail); clear hK K)
          refine Mix.done (by kernel_rfl) HC14.out ?_
          intro w15 hb15
          have HO15 := Lib.hid (HO14.out.on hb15)
          have HR15 := Lib.hid ((HI.out.2.1.chg HC14.out (fun k hk e => (HI.out.2.2 k hk).2 e)).below hb15)
          have HD15 := Lib.hid (show ∀ k, Value.ownBlock (.slice (some ⟨bo, oo, none⟩) n7 c7) = some k → k < w15.heap.size ∧ v14.ownBlock ≠ some k from fun k hk => ⟨by have := (HI.out.2.2 k hk).1; have := HC14.out.size; have := hb15.size; omega, HD14.out k hk⟩)
          clear hb15
          go_wp2
          go_roundw
          case rel =>
            have hx := HO15.out
            rw [HW.out] at hx
            have hh := Lib.hid (And.intro hx (And.intro HR15.out HD15.out))
            exact ⟨s + 1, hls, by simp, hh⟩
          case measure => simp [intOf]; omega
        · obtain rfl : n7 = s := by omega
          have hq := HI.out.1
          rw [List.take_of_length_le (l := Ol) (by rw [HN7.out]; exact Nat.le_refl _), ← HWT.out] at hq
          have HI2 := Lib.hid hq
          clear hq
          go_wp2
          go_roundw
          case rel => exact ⟨t + 1, by omega, by go_num, HI2⟩
          case measure => simp [intOf]; omega
    · obtain rfl : n3 = t := by omega
      have hq := HQ.out
      rw [List.take_of_length_le (l := Rl) (by rw [HN.out]; exact Nat.le_refl _)] at hq
      have HI2 := Lib.hid hq
      clear hq
      go_wp2
      go_ret
      rw [← HRl.out]
      exact ⟨_, rfl, ownsRow_base HI2.out.own HB3.out.size, HB3.out.trans (HI2.out.bel.mono HB3.out.size)⟩
end
end
section
open Go.RowKit Go.Maps
attribute [local go_sem] ext_cell ext_frozen extC_cell extC_frozen Mix.calmUpon Mix.mUpon
-- what is read at the world wq; HBq : Below w1.heap.size w1 wq
-- the answer: the total TT and the value VV are laid into the block b2 at the world wq
-- the list is answered as it came in, at the world wq
-- a list that a call made is answered: HO : OwnL .. w9 base (.slice ao mo co) D, HWC : w1.heap.size ≤ base
-- a call of F begins: its three variables
/-- A variable that holds an act. -/
def QBx (w : World) (b : Nat) (a : A10) : Prop := w.heap[b]? = some (.cells (acells10 a) 32 (0, 0))
section
variable {w w' : World} {b : Nat} {a : A10} {T : Nat → Int} {v : Value} {d : Fd}
theorem QBx.made (w : World) (a : A10) : QBx (w.alloc (.cells (acells10 a) 32)) w.heap.size a := heap_alloc_new w _
theorem QBx.lt (h : QBx w b a) : b < w.heap.size := (Array.getElem?_eq_some_iff.1 h).1
theorem QBx.below (h : QBx w b a) (hb : Below w.heap.size w w') : QBx w' b a := (hb.block _ h.lt).trans h
theorem QBx.cells (h : QBx w b a) : w.cell? ⟨b, 0, none⟩ = some (.int .i64 a.k) ∧ w.cell? ⟨b, 1, none⟩ = some (.int .i64 a.i) ∧ w.cell? ⟨b, 2, none⟩ = some (.int .i64 a.r) ∧ w.cell? ⟨b, 3, none⟩ = some (.int .i64 a.x) ∧ w.cell? ⟨b, 4, none⟩ = some (.int .i64 (a.n 0)) ∧ w.cell? ⟨b, 5, none⟩ = some (.int .i64 (a.n 1)) ∧ w.cell? ⟨b, 6, none⟩ = some (.int .i64 (a.n 2)) ∧ w.cell? ⟨b, 7, none⟩ = some (.int .i64 (a.n 3)) := by
  unfold QBx at h; simp [World.cell?, h]
theorem res_mxe {fn : Func} {tmps : Array Value} {p q : Nat} {e : Value} (h : fn.results = #[.cell p 28, .tmp q]) (hp : tmps.getD p undef = .pointer (some ⟨b, 0, none⟩)) (hq : tmps.getD q undef = e) (hb : MBx w b T v) :
    (results fn tmps).run Tryz.prog w = .ok (.tuple #[mvx T v, e]) w := by
  rw [results_cell_tmp h, hp, hq]
  simp [asAddr, Result.andThen, hb.load]
end
/-- What the document's Do answers. -/
def RetD10 (w : World) (v : Value) (s : Int × (Nat → Int) × List Fd) (e : Ending) (w' : World) : Prop := ∃ v', e = .returned (.tuple #[mvx s.2.1 v', .int .i64 s.1]) ∧ RS 8 fdenc w' v' s.2.2 ∧ (∀ b, v'.ownBlock = some b → v.ownBlock = some b ∨ w.heap.size ≤ b ∧ b < w'.heap.size) ∧ Below w.heap.size w w'
theorem keep_withx {C : List Fd} {d : Fd} : ∀ (j : Nat) x, C[j]? = some x → C[j]? = some (if (j : Int) = -1 then d else x) := fun j x hx => by
  rw [if_neg (by omega)]; exact hx
section
variable {w : World} {v : Value} {C : List Fd} {T : Nat → Int} {a : A10} {q : Int} {c : Cl}
/-- Where is the framework? -/
theorem at_none (hok : TOk C) {i z : Int} (h : AtX C i z) (hf : FR C i = none) : z = -1 := by
  rcases h with ⟨k, d, rfl, h1, h2⟩ | ⟨h1, -⟩
  · exact absurd h2 ((FR_none hok).1 hf d (mem_at h1))
  · exact h1
theorem at_some (hok : TOk C) {i z : Int} (h : AtX C i z) (hf : FR C i = some q) : 0 ≤ z := by
  rcases h with ⟨k, d, rfl, h1, h2⟩ | ⟨-, h1⟩
  · omega
  · obtain ⟨d, h2, -, h3⟩ := (FR_some hok).1 hf
    exact absurd h3 (h1 d h2)
theorem role_some (hok : TOk C) {r : Int} (hg : GT C r = some c) : lastW (inR C r) = c.wt ∧ inR C r ≠ [] := by
  obtain ⟨d, h1, h2, rfl⟩ := (GT_some hok).1 hg
  have hm : d ∈ inR C r := mem_inR.2 ⟨h1, h2⟩
  refine ⟨?_, fun e => by rw [e] at hm; cases hm⟩
  unfold lastW
  cases hl : (inR C r).getLast? with
  | none => rw [List.getLast?_eq_none_iff.1 hl] at hm; cases hm
  | some x =>
    obtain ⟨h3, h4⟩ := mem_inR.1 (List.mem_of_getLast? hl)
    exact hok.ww x h3 d h1 (h4.trans h2.symm)
theorem role_none {r : Int} (hg : GT C r = none) : inR C r = [] := by
  cases h : inR C r with
  | nil => rfl
  | cons x L => unfold GT at hg; rw [h] at hg; cases hg
set_option maxRecDepth 100000 in
set_option maxHeartbeats 2000000 in
theorem rput_arg (h : RS 8 fdenc w v C) (hvb : ∀ b, v.ownBlock = some b → b < w.heap.size) (hln : C.length < 800000) (hok : TOk C) (hp : ¬ PArg a.r a.x) : Calls Tryz.prog 24 #[mvx T v, av10 a] w (RetD10 w v (41, T, C)) := by
  obtain ⟨a0', n, cp, rfl, hn, hc, hm, hat⟩ := h.at_
  have HC := Lib.hid h; have HVB := Lib.hid hvb; have HOK := Lib.hid hok; have HAT := Lib.hid hat; have HN := Lib.hid hn
  have hn9 : n < 800000 := by omega
  obtain ⟨b0, hb0⟩ : ∃ b, b = w.heap.size := ⟨_, rfl⟩
  obtain ⟨b1, hb1⟩ : ∃ b, b = b0 + 1 := ⟨_, rfl⟩
  obtain ⟨b2, hb2⟩ : ∃ b, b = b1 + 1 := ⟨_, rfl⟩
  obtain ⟨w1, hw1⟩ : ∃ w1, w1 = ((w.alloc (.cells (mcellsx T (.slice a0' n cp)) 28)).alloc (.cells (acells10 a) 32)).alloc (.cells (mcellsx (fun _ => 0) (.slice none 0 0)) 28) := ⟨_, rfl⟩
  have s1 : (w.alloc (.cells (mcellsx T (.slice a0' n cp)) 28)).heap.size = b1 := by rw [hb1, hb0]; simp
  have s2 : ((w.alloc (.cells (mcellsx T (.slice a0' n cp)) 28)).alloc (.cells (acells10 a) 32)).heap.size = b2 := by rw [hb2, hb1, hb0]; simp
  have HM := Lib.hid (show MBx w1 b0 T (.slice a0' n cp) from by rw [hw1, hb0]; exact (MBx.made w T _).below (ba (ba (Below.refl _ _) _) _))
  have HA := Lib.hid (show QBx w1 b1 a from by rw [hw1, ← s1]; exact (QBx.made _ a).below (ba (Below.refl _ _) _))
  have H2 := Lib.hid (show MBx w1 b2 (fun _ => 0) (.slice none 0 0) from by rw [hw1, ← s2]; exact MBx.made _ (fun _ => 0) _)
  have HB := Lib.hid (show Below w.heap.size w w1 from by rw [hw1]; exact ba (ba (ba (Below.refl _ _) _) _) _)
  have HBB := Lib.hid (And.intro hb0 (And.intro hb1 hb2))
  have HB1 := Lib.hid (Below.refl w1.heap.size w1)
  clear h hat hn hm hc hvb hok s1 s2
  go_enter Tryz.func24, Tryz.ntmps24
  go_upto_region 1 with (fail)
  rw [← hb0, ← hb1, ← hb2, ← hw1]
  clear hb0 hb1 hb2 hw1
  obtain ⟨m0, m1, m2, m3, m4⟩ := (HM.out.below HB1.out).cells
  have ml := (HM.out.below HB1.out).lt
  obtain ⟨a0, a1, a2, a3, a4, a5, a6, a7⟩ := (HA.out.below HB1.out).cells
  have al := (HA.out.below HB1.out).lt
  obtain ⟨s0, s1, s2, s3, s4⟩ := (H2.out.below HB1.out).cells
  have f0 := (H2.out.below HB1.out).fz 0; have f1 := (H2.out.below HB1.out).fz 1; have f2 := (H2.out.below HB1.out).fz 2; have f3 := (H2.out.below HB1.out).fz 3; have f4 := (H2.out.below HB1.out).fz 4
  have sl := (H2.out.below HB1.out).lt
  by_cases r1 : a.r < 1
  · go_upto_region 2 with (fail)
    clear m0 m1 m2 m3 m4 ml a0 a1 a2 a3 a4 a5 a6 a7 al s0 s1 s2 s3 s4 f0 f1 f2 f3 f4 sl
    have HR := Lib.hid ((H2.out.below HB1.out).set5 (T) (.slice a0' n cp))
    have HST := Lib.hid (show Chg (fun k => k = b2) w1 (set5x w1 b2 (T) (.slice a0' n cp)) from
      ((((((Chg.refl (fun k => k = b2) w1).setCell (p := ⟨b2, 0, none⟩) (.inl rfl) _).setCell (p := ⟨b2, 1, none⟩) (.inl rfl) _).setCell (p := ⟨b2, 2, none⟩) (.inl rfl) _).setCell (p := ⟨b2, 3, none⟩) (.inl rfl) _).setCell (p := ⟨b2, 4, none⟩) (.inl rfl) _))
    have HBE := Lib.hid (show Below w.heap.size w (set5x w1 b2 (T) (.slice a0' n cp)) from (bt HB.out HB1.out).trans (HST.out.below (by have := (bt HB.out HB1.out).size; omega) fun k e => by have e : k = b2 := e; have := HBB.out; omega))
    obtain ⟨m0, m1, m2, m3, m4⟩ := (HM.out.below HB1.out).cells
    have ml := (HM.out.below HB1.out).lt
    obtain ⟨a0, a1, a2, a3, a4, a5, a6, a7⟩ := (HA.out.below HB1.out).cells
    have al := (HA.out.below HB1.out).lt
    obtain ⟨s0, s1, s2, s3, s4⟩ := (H2.out.below HB1.out).cells
    have f0 := (H2.out.below HB1.out).fz 0; have f1 := (H2.out.below HB1.out).fz 1; have f2 := (H2.out.below HB1.out).fz 2; have f3 := (H2.out.below HB1.out).fz 3; have f4 := (H2.out.below HB1.out).fz 4
    have sl := (H2.out.below HB1.out).lt
    go_wp2
    refine bodyPost_ret (res_mxe Tryz.results24 rfl rfl HR.out) rfl ?_
    refine ⟨_, rfl, (HC.out.below (bt HB.out HB1.out)).chg HST.out fun b hb e => ?_, fun b hb => .inl hb, HBE.out⟩
    have e : b = b2 := e
    have := HVB.out b hb
    have := HBB.out
    omega
  by_cases r2 : 32 < a.r
  · go_upto_region 2 with (fail)
    clear m0 m1 m2 m3 m4 ml a0 a1 a2 a3 a4 a5 a6 a7 al s0 s1 s2 s3 s4 f0 f1 f2 f3 f4 sl
    have HR := Lib.hid ((H2.out.below HB1.out).set5 (T) (.slice a0' n cp))
    have HST := Lib.hid (show Chg (fun k => k = b2) w1 (set5x w1 b2 (T) (.slice a0' n cp)) from
      ((((((Chg.refl (fun k => k = b2) w1).setCell (p := ⟨b2, 0, none⟩) (.inl rfl) _).setCell (p := ⟨b2, 1, none⟩) (.inl rfl) _).setCell (p := ⟨b2, 2, none⟩) (.inl rfl) _).setCell (p := ⟨b2, 3, none⟩) (.inl rfl) _).setCell (p := ⟨b2, 4, none⟩) (.inl rfl) _))
    have HBE := Lib.hid (show Below w.heap.size w (set5x w1 b2 (T) (.slice a0' n cp)) from (bt HB.out HB1.out).trans (HST.out.below (by have := (bt HB.out HB1.out).size; omega) fun k e => by have e : k = b2 := e; have := HBB.out; omega))
    obtain ⟨m0, m1, m2, m3, m4⟩ := (HM.out.below HB1.out).cells
    have ml := (HM.out.below HB1.out).lt
    obtain ⟨a0, a1, a2, a3, a4, a5, a6, a7⟩ := (HA.out.below HB1.out).cells
    have al := (HA.out.below HB1.out).lt
    obtain ⟨s0, s1, s2, s3, s4⟩ := (H2.out.below HB1.out).cells
    have f0 := (H2.out.below HB1.out).fz 0; have f1 := (H2.out.below HB1.out).fz 1; have f2 := (H2.out.below HB1.out).fz 2; have f3 := (H2.out.below HB1.out).fz 3; have f4 := (H2.out.below HB1.out).fz 4
    have sl := (H2.out.below HB1.out).lt
    go_wp2
    refine bodyPost_ret (res_mxe Tryz.results24 rfl rfl HR.out) rfl ?_
    refine ⟨_, rfl, (HC.out.below (bt HB.out HB1.out)).chg HST.out fun b hb e => ?_, fun b hb => .inl hb, HBE.out⟩
    have e : b = b2 := e
    have := HVB.out b hb
    have := HBB.out
    omega
  by_cases r3 : a.x < 1
  · go_upto_region 2 with (fail)
    clear m0 m1 m2 m3 m4 ml a0 a1 a2 a3 a4 a5 a6 a7 al s0 s1 s2 s3 s4 f0 f1 f2 f3 f4 sl
    have HR := Lib.hid ((H2.out.below HB1.out).set5 (T) (.slice a0' n cp))
    have HST := Lib.hid (show Chg (fun k => k = b2) w1 (set5x w1 b2 (T) (.slice a0' n cp)) from
      ((((((Chg.refl (fun k => k = b2) w1).setCell (p := ⟨b2, 0, none⟩) (.inl rfl) _).setCell (p := ⟨b2, 1, none⟩) (.inl rfl) _).setCell (p := ⟨b2, 2, none⟩) (.inl rfl) _).setCell (p := ⟨b2, 3, none⟩) (.inl rfl) _).setCell (p := ⟨b2, 4, none⟩) (.inl rfl) _))
    have HBE := Lib.hid (show Below w.heap.size w (set5x w1 b2 (T) (.slice a0' n cp)) from (bt HB.out HB1.out).trans (HST.out.below (by have := (bt HB.out HB1.out).size; omega) fun k e => by have e : k = b2 := e; have := HBB.out; omega))
    obtain ⟨m0, m1, m2, m3, m4⟩ := (HM.out.below HB1.out).cells
    have ml := (HM.out.below HB1.out).lt
    obtain ⟨a0, a1, a2, a3, a4, a5, a6, a7⟩ := (HA.out.below HB1.out).cells
    have al := (HA.out.below HB1.out).lt
    obtain ⟨s0, s1, s2, s3, s4⟩ := (H2.out.below HB1.out).cells
    have f0 := (H2.out.below HB1.out).fz 0; have f1 := (H2.out.below HB1.out).fz 1; have f2 := (H2.out.below HB1.out).fz 2; have f3 := (H2.out.below HB1.out).fz 3; have f4 := (H2.out.below HB1.out).fz 4
    have sl := (H2.out.below HB1.out).lt
    go_wp2
    refine bodyPost_ret (res_mxe Tryz.results24 rfl rfl HR.out) rfl ?_
    refine ⟨_, rfl, (HC.out.below (bt HB.out HB1.out)).chg HST.out fun b hb e => ?_, fun b hb => .inl hb, HBE.out⟩
    have e : b = b2 := e
    have := HVB.out b hb
    have := HBB.out
    omega
  have r4 : 1000 < a.x := by unfold PArg at hp; omega
  go_upto_region 2 with (fail)
  clear m0 m1 m2 m3 m4 ml a0 a1 a2 a3 a4 a5 a6 a7 al s0 s1 s2 s3 s4 f0 f1 f2 f3 f4 sl
  have HR := Lib.hid ((H2.out.below HB1.out).set5 (T) (.slice a0' n cp))
  have HST := Lib.hid (show Chg (fun k => k = b2) w1 (set5x w1 b2 (T) (.slice a0' n cp)) from
    ((((((Chg.refl (fun k => k = b2) w1).setCell (p := ⟨b2, 0, none⟩) (.inl rfl) _).setCell (p := ⟨b2, 1, none⟩) (.inl rfl) _).setCell (p := ⟨b2, 2, none⟩) (.inl rfl) _).setCell (p := ⟨b2, 3, none⟩) (.inl rfl) _).setCell (p := ⟨b2, 4, none⟩) (.inl rfl) _))
  have HBE := Lib.hid (show Below w.heap.size w (set5x w1 b2 (T) (.slice a0' n cp)) from (bt HB.out HB1.out).trans (HST.out.below (by have := (bt HB.out HB1.out).size; omega) fun k e => by have e : k = b2 := e; have := HBB.out; omega))
  obtain ⟨m0, m1, m2, m3, m4⟩ := (HM.out.below HB1.out).cells
  have ml := (HM.out.below HB1.out).lt
  obtain ⟨a0, a1, a2, a3, a4, a5, a6, a7⟩ := (HA.out.below HB1.out).cells
  have al := (HA.out.below HB1.out).lt
  obtain ⟨s0, s1, s2, s3, s4⟩ := (H2.out.below HB1.out).cells
  have f0 := (H2.out.below HB1.out).fz 0; have f1 := (H2.out.below HB1.out).fz 1; have f2 := (H2.out.below HB1.out).fz 2; have f3 := (H2.out.below HB1.out).fz 3; have f4 := (H2.out.below HB1.out).fz 4
  have sl := (H2.out.below HB1.out).lt
  go_wp2
  refine bodyPost_ret (res_mxe Tryz.results24 rfl rfl HR.out) rfl ?_
  refine ⟨_, rfl, (HC.out.below (bt HB.out HB1.out)).chg HST.out fun b hb e => ?_, fun b hb => .inl hb, HBE.out⟩
  have e : b = b2 := e
  have := HVB.out b hb
  have := HBB.out
  omega
set_option maxRecDepth 100000 in
set_option maxHeartbeats 2000000 in
theorem rput_there (h : RS 8 fdenc w v C) (hvb : ∀ b, v.ownBlock = some b → b < w.heap.size) (hln : C.length < 800000) (hok : TOk C) (hp : PArg a.r a.x) (hf : FR C a.i = some q) : Calls Tryz.prog 24 #[mvx T v, av10 a] w (RetD10 w v (42, T, C)) := by
  have HF := Lib.hid hf
  clear hf
  obtain ⟨a0', n, cp, rfl, hn, hc, hm, hat⟩ := h.at_
  have HC := Lib.hid h; have HVB := Lib.hid hvb; have HOK := Lib.hid hok; have HAT := Lib.hid hat; have HN := Lib.hid hn
  have hn9 : n < 800000 := by omega
  obtain ⟨b0, hb0⟩ : ∃ b, b = w.heap.size := ⟨_, rfl⟩
  obtain ⟨b1, hb1⟩ : ∃ b, b = b0 + 1 := ⟨_, rfl⟩
  obtain ⟨b2, hb2⟩ : ∃ b, b = b1 + 1 := ⟨_, rfl⟩
  obtain ⟨w1, hw1⟩ : ∃ w1, w1 = ((w.alloc (.cells (mcellsx T (.slice a0' n cp)) 28)).alloc (.cells (acells10 a) 32)).alloc (.cells (mcellsx (fun _ => 0) (.slice none 0 0)) 28) := ⟨_, rfl⟩
  have s1 : (w.alloc (.cells (mcellsx T (.slice a0' n cp)) 28)).heap.size = b1 := by rw [hb1, hb0]; simp
  have s2 : ((w.alloc (.cells (mcellsx T (.slice a0' n cp)) 28)).alloc (.cells (acells10 a) 32)).heap.size = b2 := by rw [hb2, hb1, hb0]; simp
  have HM := Lib.hid (show MBx w1 b0 T (.slice a0' n cp) from by rw [hw1, hb0]; exact (MBx.made w T _).below (ba (ba (Below.refl _ _) _) _))
  have HA := Lib.hid (show QBx w1 b1 a from by rw [hw1, ← s1]; exact (QBx.made _ a).below (ba (Below.refl _ _) _))
  have H2 := Lib.hid (show MBx w1 b2 (fun _ => 0) (.slice none 0 0) from by rw [hw1, ← s2]; exact MBx.made _ (fun _ => 0) _)
  have HB := Lib.hid (show Below w.heap.size w w1 from by rw [hw1]; exact ba (ba (ba (Below.refl _ _) _) _) _)
  have HBB := Lib.hid (And.intro hb0 (And.intro hb1 hb2))
  have HB1 := Lib.hid (Below.refl w1.heap.size w1)
  clear h hat hn hm hc hvb hok s1 s2
  go_enter Tryz.func24, Tryz.ntmps24
  go_upto_region 1 with (fail)
  rw [← hb0, ← hb1, ← hb2, ← hw1]
  clear hb0 hb1 hb2 hw1
  obtain ⟨m0, m1, m2, m3, m4⟩ := (HM.out.below HB1.out).cells
  have ml := (HM.out.below HB1.out).lt
  obtain ⟨a0, a1, a2, a3, a4, a5, a6, a7⟩ := (HA.out.below HB1.out).cells
  have al := (HA.out.below HB1.out).lt
  obtain ⟨s0, s1, s2, s3, s4⟩ := (H2.out.below HB1.out).cells
  have f0 := (H2.out.below HB1.out).fz 0; have f1 := (H2.out.below HB1.out).fz 1; have f2 := (H2.out.below HB1.out).fz 2; have f3 := (H2.out.below HB1.out).fz 3; have f4 := (H2.out.below HB1.out).fz 4
  have sl := (H2.out.below HB1.out).lt
  obtain ⟨p1, p2, p3, p4⟩ := hp
  have r1 : ¬ a.r < 1 := by omega
  have r2 : ¬ 32 < a.r := by omega
  have r3 : ¬ a.x < 1 := by omega
  have r4 : ¬ 1000 < a.x := by omega
  go_upto_region 3 with (fail)
  clear r1 r2 r3 r4
  go_wp2_with fail
  clear m0 m1 m2 m3 m4 ml a0 a1 a2 a3 a4 a5 a6 a7 al s0 s1 s2 s3 s4 f0 f1 f2 f3 f4 sl
  refine (ratx (T := T) (HC.out.below HB.out) a.i).mono ?_
  rintro e w2 ⟨z, rfl, hz, hb2⟩
  have HZ := Lib.hid hz
  have HB2 := Lib.hid hb2
  clear hz hb2
  have hge : 0 ≤ z := at_some HOK.out HZ.out HF.out
  have HR := Lib.hid ((H2.out.below HB2.out).set5 (T) (.slice a0' n cp))
  have HST := Lib.hid (show Chg (fun k => k = b2) w2 (set5x w2 b2 (T) (.slice a0' n cp)) from
    ((((((Chg.refl (fun k => k = b2) w2).setCell (p := ⟨b2, 0, none⟩) (.inl rfl) _).setCell (p := ⟨b2, 1, none⟩) (.inl rfl) _).setCell (p := ⟨b2, 2, none⟩) (.inl rfl) _).setCell (p := ⟨b2, 3, none⟩) (.inl rfl) _).setCell (p := ⟨b2, 4, none⟩) (.inl rfl) _))
  have HBE := Lib.hid (show Below w.heap.size w (set5x w2 b2 (T) (.slice a0' n cp)) from (bt HB.out HB2.out).trans (HST.out.below (by have := (bt HB.out HB2.out).size; omega) fun k e => by have e : k = b2 := e; have := HBB.out; omega))
  obtain ⟨m0, m1, m2, m3, m4⟩ := (HM.out.below HB2.out).cells
  have ml := (HM.out.below HB2.out).lt
  obtain ⟨a0, a1, a2, a3, a4, a5, a6, a7⟩ := (HA.out.below HB2.out).cells
  have al := (HA.out.below HB2.out).lt
  obtain ⟨s0, s1, s2, s3, s4⟩ := (H2.out.below HB2.out).cells
  have f0 := (H2.out.below HB2.out).fz 0; have f1 := (H2.out.below HB2.out).fz 1; have f2 := (H2.out.below HB2.out).fz 2; have f3 := (H2.out.below HB2.out).fz 3; have f4 := (H2.out.below HB2.out).fz 4
  have sl := (H2.out.below HB2.out).lt
  go_wp2
  refine bodyPost_ret (res_mxe Tryz.results24 rfl rfl HR.out) rfl ?_
  refine ⟨_, rfl, (HC.out.below (bt HB.out HB2.out)).chg HST.out fun b hb e => ?_, fun b hb => .inl hb, HBE.out⟩
  have e : b = b2 := e
  have := HVB.out b hb
  have := HBB.out
  omega
set_option maxRecDepth 100000 in
set_option maxHeartbeats 2000000 in
theorem rput_weight (h : RS 8 fdenc w v C) (hvb : ∀ b, v.ownBlock = some b → b < w.heap.size) (hln : C.length < 800000) (hok : TOk C) (hp : PArg a.r a.x) (hf : FR C a.i = none) (hg : GT C a.r = some c) (hx : c.wt ≠ a.x) : Calls Tryz.prog 24 #[mvx T v, av10 a] w (RetD10 w v (22, T, C)) := by
  have HF := Lib.hid hf; have HG := Lib.hid (role_some hok hg); have HX := Lib.hid hx
  clear hf hg hx
  obtain ⟨a0', n, cp, rfl, hn, hc, hm, hat⟩ := h.at_
  have HC := Lib.hid h; have HVB := Lib.hid hvb; have HOK := Lib.hid hok; have HAT := Lib.hid hat; have HN := Lib.hid hn
  have hn9 : n < 800000 := by omega
  obtain ⟨b0, hb0⟩ : ∃ b, b = w.heap.size := ⟨_, rfl⟩
  obtain ⟨b1, hb1⟩ : ∃ b, b = b0 + 1 := ⟨_, rfl⟩
  obtain ⟨b2, hb2⟩ : ∃ b, b = b1 + 1 := ⟨_, rfl⟩
  obtain ⟨w1, hw1⟩ : ∃ w1, w1 = ((w.alloc (.cells (mcellsx T (.slice a0' n cp)) 28)).alloc (.cells (acells10 a) 32)).alloc (.cells (mcellsx (fun _ => 0) (.slice none 0 0)) 28) := ⟨_, rfl⟩
  have s1 : (w.alloc (.cells (mcellsx T (.slice a0' n cp)) 28)).heap.size = b1 := by rw [hb1, hb0]; simp
  have s2 : ((w.alloc (.cells (mcellsx T (.slice a0' n cp)) 28)).alloc (.cells (acells10 a) 32)).heap.size = b2 := by rw [hb2, hb1, hb0]; simp
  have HM := Lib.hid (show MBx w1 b0 T (.slice a0' n cp) from by rw [hw1, hb0]; exact (MBx.made w T _).below (ba (ba (Below.refl _ _) _) _))
  have HA := Lib.hid (show QBx w1 b1 a from by rw [hw1, ← s1]; exact (QBx.made _ a).below (ba (Below.refl _ _) _))
  have H2 := Lib.hid (show MBx w1 b2 (fun _ => 0) (.slice none 0 0) from by rw [hw1, ← s2]; exact MBx.made _ (fun _ => 0) _)
  have HB := Lib.hid (show Below w.heap.size w w1 from by rw [hw1]; exact ba (ba (ba (Below.refl _ _) _) _) _)
  have HBB := Lib.hid (And.intro hb0 (And.intro hb1 hb2))
  have HB1 := Lib.hid (Below.refl w1.heap.size w1)
  clear h hat hn hm hc hvb hok s1 s2
  go_enter Tryz.func24, Tryz.ntmps24
  go_upto_region 1 with (fail)
  rw [← hb0, ← hb1, ← hb2, ← hw1]
  clear hb0 hb1 hb2 hw1
  obtain ⟨m0, m1, m2, m3, m4⟩ := (HM.out.below HB1.out).cells
  have ml := (HM.out.below HB1.out).lt
  obtain ⟨a0, a1, a2, a3, a4, a5, a6, a7⟩ := (HA.out.below HB1.out).cells
  have al := (HA.out.below HB1.out).lt
  obtain ⟨s0, s1, s2, s3, s4⟩ := (H2.out.below HB1.out).cells
  have f0 := (H2.out.below HB1.out).fz 0; have f1 := (H2.out.below HB1.out).fz 1; have f2 := (H2.out.below HB1.out).fz 2; have f3 := (H2.out.below HB1.out).fz 3; have f4 := (H2.out.below HB1.out).fz 4
  have sl := (H2.out.below HB1.out).lt
  obtain ⟨p1, p2, p3, p4⟩ := hp
  have r1 : ¬ a.r < 1 := by omega
  have r2 : ¬ 32 < a.r := by omega
  have r3 : ¬ a.x < 1 := by omega
  have r4 : ¬ 1000 < a.x := by omega
  go_upto_region 3 with (fail)
  clear r1 r2 r3 r4
  go_wp2_with fail
  clear m0 m1 m2 m3 m4 ml a0 a1 a2 a3 a4 a5 a6 a7 al s0 s1 s2 s3 s4 f0 f1 f2 f3 f4 sl
  refine (ratx (T := T) (HC.out.below HB.out) a.i).mono ?_
  rintro e w2 ⟨z, rfl, hz, hb2⟩
  have HZ := Lib.hid hz
  have HB2 := Lib.hid hb2
  clear hz hb2
  obtain rfl : z = -1 := at_none HOK.out HZ.out HF.out
  obtain ⟨m0, m1, m2, m3, m4⟩ := (HM.out.below HB2.out).cells
  have ml := (HM.out.below HB2.out).lt
  obtain ⟨a0, a1, a2, a3, a4, a5, a6, a7⟩ := (HA.out.below HB2.out).cells
  have al := (HA.out.below HB2.out).lt
  obtain ⟨s0, s1, s2, s3, s4⟩ := (H2.out.below HB2.out).cells
  have f0 := (H2.out.below HB2.out).fz 0; have f1 := (H2.out.below HB2.out).fz 1; have f2 := (H2.out.below HB2.out).fz 2; have f3 := (H2.out.below HB2.out).fz 3; have f4 := (H2.out.below HB2.out).fz 4
  have sl := (H2.out.below HB2.out).lt
  go_upto_region 5 with (fail)
  go_wp2_with fail
  clear m0 m1 m2 m3 m4 ml a0 a1 a2 a3 a4 a5 a6 a7 al s0 s1 s2 s3 s4 f0 f1 f2 f3 f4 sl
  refine (rrolex (T := T) (HC.out.below (bt HB.out HB2.out)) HOK.out (by have := HN.out; omega) a.r).mono ?_
  rintro e w3 ⟨rfl, hb3⟩
  have hb4 := ba (Below.refl w3.heap.size w3) (.cells (C4 (SU (inR C a.r))) 25)
  have HB4 := Lib.hid (bt (bt HB2.out hb3) hb4)
  clear hb3 hb4
  obtain ⟨S, hS⟩ : ∃ x, x = SU (inR C a.r) := ⟨_, rfl⟩
  obtain ⟨lw, hlw⟩ : ∃ x, x = lastW (inR C a.r) := ⟨_, rfl⟩
  obtain ⟨th, hth⟩ : ∃ x, x = decide (inR C a.r ≠ []) := ⟨_, rfl⟩
  rw [← hS, ← hlw, ← hth]
  rw [← hS] at HB4
  clear hS
  have hne : (lw != a.x) = true := by rw [hlw, HG.out.1]; simpa using HX.out
  obtain rfl : th = true := by rw [hth]; exact decide_eq_true HG.out.2
  clear hlw hth
  obtain ⟨m0, m1, m2, m3, m4⟩ := (HM.out.below HB2.out).cells
  have ml := (HM.out.below HB2.out).lt
  obtain ⟨a0, a1, a2, a3, a4, a5, a6, a7⟩ := (HA.out.below HB2.out).cells
  have al := (HA.out.below HB2.out).lt
  obtain ⟨s0, s1, s2, s3, s4⟩ := (H2.out.below HB2.out).cells
  have f0 := (H2.out.below HB2.out).fz 0; have f1 := (H2.out.below HB2.out).fz 1; have f2 := (H2.out.below HB2.out).fz 2; have f3 := (H2.out.below HB2.out).fz 3; have f4 := (H2.out.below HB2.out).fz 4
  have sl := (H2.out.below HB2.out).lt
  go_upto_region 6 with (fail)
  generalize w3.alloc (.cells (C4 S) 25) = w4 at *
  clear m0 m1 m2 m3 m4 ml a0 a1 a2 a3 a4 a5 a6 a7 al s0 s1 s2 s3 s4 f0 f1 f2 f3 f4 sl
  obtain ⟨m0, m1, m2, m3, m4⟩ := (HM.out.below HB4.out).cells
  have ml := (HM.out.below HB4.out).lt
  obtain ⟨a0, a1, a2, a3, a4, a5, a6, a7⟩ := (HA.out.below HB4.out).cells
  have al := (HA.out.below HB4.out).lt
  obtain ⟨s0, s1, s2, s3, s4⟩ := (H2.out.below HB4.out).cells
  have f0 := (H2.out.below HB4.out).fz 0; have f1 := (H2.out.below HB4.out).fz 1; have f2 := (H2.out.below HB4.out).fz 2; have f3 := (H2.out.below HB4.out).fz 3; have f4 := (H2.out.below HB4.out).fz 4
  have sl := (H2.out.below HB4.out).lt
  go_upto_region 7 with (fail)
  clear m0 m1 m2 m3 m4 ml a0 a1 a2 a3 a4 a5 a6 a7 al s0 s1 s2 s3 s4 f0 f1 f2 f3 f4 sl
  have HR := Lib.hid ((H2.out.below HB4.out).set5 (T) (.slice a0' n cp))
  have HST := Lib.hid (show Chg (fun k => k = b2) w4 (set5x w4 b2 (T) (.slice a0' n cp)) from
    ((((((Chg.refl (fun k => k = b2) w4).setCell (p := ⟨b2, 0, none⟩) (.inl rfl) _).setCell (p := ⟨b2, 1, none⟩) (.inl rfl) _).setCell (p := ⟨b2, 2, none⟩) (.inl rfl) _).setCell (p := ⟨b2, 3, none⟩) (.inl rfl) _).setCell (p := ⟨b2, 4, none⟩) (.inl rfl) _))
  have HBE := Lib.hid (show Below w.heap.size w (set5x w4 b2 (T) (.slice a0' n cp)) from (bt HB.out HB4.out).trans (HST.out.below (by have := (bt HB.out HB4.out).size; omega) fun k e => by have e : k = b2 := e; have := HBB.out; omega))
  obtain ⟨m0, m1, m2, m3, m4⟩ := (HM.out.below HB4.out).cells
  have ml := (HM.out.below HB4.out).lt
  obtain ⟨a0, a1, a2, a3, a4, a5, a6, a7⟩ := (HA.out.below HB4.out).cells
  have al := (HA.out.below HB4.out).lt
  obtain ⟨s0, s1, s2, s3, s4⟩ := (H2.out.below HB4.out).cells
  have f0 := (H2.out.below HB4.out).fz 0; have f1 := (H2.out.below HB4.out).fz 1; have f2 := (H2.out.below HB4.out).fz 2; have f3 := (H2.out.below HB4.out).fz 3; have f4 := (H2.out.below HB4.out).fz 4
  have sl := (H2.out.below HB4.out).lt
  go_wp2
  refine bodyPost_ret (res_mxe Tryz.results24 rfl rfl HR.out) rfl ?_
  refine ⟨_, rfl, (HC.out.below (bt HB.out HB4.out)).chg HST.out fun b hb e => ?_, fun b hb => .inl hb, HBE.out⟩
  have e : b = b2 := e
  have := HVB.out b hb
  have := HBB.out
  omega
set_option maxRecDepth 100000 in
set_option maxHeartbeats 2000000 in
theorem rput_more (h : RS 8 fdenc w v C) (hvb : ∀ b, v.ownBlock = some b → b < w.heap.size) (hln : C.length < 800000) (hok : TOk C) (hp : PArg a.r a.x) (hf : FR C a.i = none) (hg : GT C a.r = some c) (hx : c.wt = a.x) : Calls Tryz.prog 24 #[mvx T v, av10 a] w (RetD10 w v (0, T, C ++ [newF a])) := by
  have HF := Lib.hid hf; have HG := Lib.hid (role_some hok hg); have HX := Lib.hid hx
  clear hf hg hx
  obtain ⟨a0', n, cp, rfl, hn, hc, hm, hat⟩ := h.at_
  have HC := Lib.hid h; have HVB := Lib.hid hvb; have HOK := Lib.hid hok; have HAT := Lib.hid hat; have HN := Lib.hid hn
  have hn9 : n < 800000 := by omega
  obtain ⟨b0, hb0⟩ : ∃ b, b = w.heap.size := ⟨_, rfl⟩
  obtain ⟨b1, hb1⟩ : ∃ b, b = b0 + 1 := ⟨_, rfl⟩
  obtain ⟨b2, hb2⟩ : ∃ b, b = b1 + 1 := ⟨_, rfl⟩
  obtain ⟨w1, hw1⟩ : ∃ w1, w1 = ((w.alloc (.cells (mcellsx T (.slice a0' n cp)) 28)).alloc (.cells (acells10 a) 32)).alloc (.cells (mcellsx (fun _ => 0) (.slice none 0 0)) 28) := ⟨_, rfl⟩
  have s1 : (w.alloc (.cells (mcellsx T (.slice a0' n cp)) 28)).heap.size = b1 := by rw [hb1, hb0]; simp
  have s2 : ((w.alloc (.cells (mcellsx T (.slice a0' n cp)) 28)).alloc (.cells (acells10 a) 32)).heap.size = b2 := by rw [hb2, hb1, hb0]; simp
  have HM := Lib.hid (show MBx w1 b0 T (.slice a0' n cp) from by rw [hw1, hb0]; exact (MBx.made w T _).below (ba (ba (Below.refl _ _) _) _))
  have HA := Lib.hid (show QBx w1 b1 a from by rw [hw1, ← s1]; exact (QBx.made _ a).below (ba (Below.refl _ _) _))
  have H2 := Lib.hid (show MBx w1 b2 (fun _ => 0) (.slice none 0 0) from by rw [hw1, ← s2]; exact MBx.made _ (fun _ => 0) _)
  have HB := Lib.hid (show Below w.heap.size w w1 from by rw [hw1]; exact ba (ba (ba (Below.refl _ _) _) _) _)
  have HBB := Lib.hid (And.intro hb0 (And.intro hb1 hb2))
  have HB1 := Lib.hid (Below.refl w1.heap.size w1)
  clear h hat hn hm hc hvb hok s1 s2
  go_enter Tryz.func24, Tryz.ntmps24
  go_upto_region 1 with (fail)
  rw [← hb0, ← hb1, ← hb2, ← hw1]
  clear hb0 hb1 hb2 hw1
  obtain ⟨m0, m1, m2, m3, m4⟩ := (HM.out.below HB1.out).cells
  have ml := (HM.out.below HB1.out).lt
  obtain ⟨a0, a1, a2, a3, a4, a5, a6, a7⟩ := (HA.out.below HB1.out).cells
  have al := (HA.out.below HB1.out).lt
  obtain ⟨s0, s1, s2, s3, s4⟩ := (H2.out.below HB1.out).cells
  have f0 := (H2.out.below HB1.out).fz 0; have f1 := (H2.out.below HB1.out).fz 1; have f2 := (H2.out.below HB1.out).fz 2; have f3 := (H2.out.below HB1.out).fz 3; have f4 := (H2.out.below HB1.out).fz 4
  have sl := (H2.out.below HB1.out).lt
  obtain ⟨p1, p2, p3, p4⟩ := hp
  have r1 : ¬ a.r < 1 := by omega
  have r2 : ¬ 32 < a.r := by omega
  have r3 : ¬ a.x < 1 := by omega
  have r4 : ¬ 1000 < a.x := by omega
  go_upto_region 3 with (fail)
  clear r1 r2 r3 r4
  go_wp2_with fail
  clear m0 m1 m2 m3 m4 ml a0 a1 a2 a3 a4 a5 a6 a7 al s0 s1 s2 s3 s4 f0 f1 f2 f3 f4 sl
  refine (ratx (T := T) (HC.out.below HB.out) a.i).mono ?_
  rintro e w2 ⟨z, rfl, hz, hb2⟩
  have HZ := Lib.hid hz
  have HB2 := Lib.hid hb2
  clear hz hb2
  obtain rfl : z = -1 := at_none HOK.out HZ.out HF.out
  obtain ⟨m0, m1, m2, m3, m4⟩ := (HM.out.below HB2.out).cells
  have ml := (HM.out.below HB2.out).lt
  obtain ⟨a0, a1, a2, a3, a4, a5, a6, a7⟩ := (HA.out.below HB2.out).cells
  have al := (HA.out.below HB2.out).lt
  obtain ⟨s0, s1, s2, s3, s4⟩ := (H2.out.below HB2.out).cells
  have f0 := (H2.out.below HB2.out).fz 0; have f1 := (H2.out.below HB2.out).fz 1; have f2 := (H2.out.below HB2.out).fz 2; have f3 := (H2.out.below HB2.out).fz 3; have f4 := (H2.out.below HB2.out).fz 4
  have sl := (H2.out.below HB2.out).lt
  go_upto_region 5 with (fail)
  go_wp2_with fail
  clear m0 m1 m2 m3 m4 ml a0 a1 a2 a3 a4 a5 a6 a7 al s0 s1 s2 s3 s4 f0 f1 f2 f3 f4 sl
  refine (rrolex (T := T) (HC.out.below (bt HB.out HB2.out)) HOK.out (by have := HN.out; omega) a.r).mono ?_
  rintro e w3 ⟨rfl, hb3⟩
  have hb4 := ba (Below.refl w3.heap.size w3) (.cells (C4 (SU (inR C a.r))) 25)
  have HB4 := Lib.hid (bt (bt HB2.out hb3) hb4)
  clear hb3 hb4
  obtain ⟨S, hS⟩ : ∃ x, x = SU (inR C a.r) := ⟨_, rfl⟩
  obtain ⟨lw, hlw⟩ : ∃ x, x = lastW (inR C a.r) := ⟨_, rfl⟩
  obtain ⟨th, hth⟩ : ∃ x, x = decide (inR C a.r ≠ []) := ⟨_, rfl⟩
  rw [← hS, ← hlw, ← hth]
  rw [← hS] at HB4
  clear hS
  have hne : (lw != a.x) = false := by rw [hlw, HG.out.1]; simpa using HX.out
  obtain rfl : th = true := by rw [hth]; exact decide_eq_true HG.out.2
  clear hlw hth
  go_upto_region 6 with (fail)
  generalize w3.alloc (.cells (C4 S) 25) = w4 at *
  obtain ⟨m0, m1, m2, m3, m4⟩ := (HM.out.below HB4.out).cells
  have ml := (HM.out.below HB4.out).lt
  obtain ⟨a0, a1, a2, a3, a4, a5, a6, a7⟩ := (HA.out.below HB4.out).cells
  have al := (HA.out.below HB4.out).lt
  obtain ⟨s0, s1, s2, s3, s4⟩ := (H2.out.below HB4.out).cells
  have f0 := (H2.out.below HB4.out).fz 0; have f1 := (H2.out.below HB4.out).fz 1; have f2 := (H2.out.below HB4.out).fz 2; have f3 := (H2.out.below HB4.out).fz 3; have f4 := (H2.out.below HB4.out).fz 4
  have sl := (H2.out.below HB4.out).lt
  go_upto_region 8 with (fail)
  clear m0 m1 m2 m3 m4 ml a0 a1 a2 a3 a4 a5 a6 a7 al s0 s1 s2 s3 s4 f0 f1 f2 f3 f4 sl
  have HW := Lib.hid (rwithx (T := T) (HC.out.below (bt HB.out HB4.out)) (by have := HN.out; omega) (-1) (newF a) C rfl keep_withx)
  rw [if_pos (by decide)] at HW
  have HWC := Lib.hid (show w1.heap.size ≤ w4.heap.size from HB4.out.size)
  unfold newF fdval at HW
  obtain ⟨m0, m1, m2, m3, m4⟩ := (HM.out.below HB4.out).cells
  have ml := (HM.out.below HB4.out).lt
  obtain ⟨a0, a1, a2, a3, a4, a5, a6, a7⟩ := (HA.out.below HB4.out).cells
  have al := (HA.out.below HB4.out).lt
  obtain ⟨s0, s1, s2, s3, s4⟩ := (H2.out.below HB4.out).cells
  have f0 := (H2.out.below HB4.out).fz 0; have f1 := (H2.out.below HB4.out).fz 1; have f2 := (H2.out.below HB4.out).fz 2; have f3 := (H2.out.below HB4.out).fz 3; have f4 := (H2.out.below HB4.out).fz 4
  have sl := (H2.out.below HB4.out).lt
  go_wp2_with fail
  clear m0 m1 m2 m3 m4 ml a0 a1 a2 a3 a4 a5 a6 a7 al s0 s1 s2 s3 s4 f0 f1 f2 f3 f4 sl
  refine HW.out.mono ?_
  rintro e w5 ⟨v5, rfl, ho5, hb5⟩
  have HB5 := Lib.hid (bt HB4.out hb5)
  have HO5 := Lib.hid ho5
  clear ho5 hb5 HW
  obtain ⟨ao, mo, co, hvo⟩ : ∃ ao mo co, v5 = .slice ao mo co := by
    rcases HO5.out.2 with ⟨hv, h0⟩ | ⟨g', cap', cur', hv, _⟩
    · exact ⟨_, _, _, hv⟩
    · exact ⟨_, _, _, hv⟩
  subst hvo
  have HR := Lib.hid ((H2.out.below HB5.out).set5 (T) (.slice ao mo co))
  have HST := Lib.hid (show Chg (fun k => k = b2) w5 (set5x w5 b2 (T) (.slice ao mo co)) from
    ((((((Chg.refl (fun k => k = b2) w5).setCell (p := ⟨b2, 0, none⟩) (.inl rfl) _).setCell (p := ⟨b2, 1, none⟩) (.inl rfl) _).setCell (p := ⟨b2, 2, none⟩) (.inl rfl) _).setCell (p := ⟨b2, 3, none⟩) (.inl rfl) _).setCell (p := ⟨b2, 4, none⟩) (.inl rfl) _))
  have HBE := Lib.hid (show Below w.heap.size w (set5x w5 b2 (T) (.slice ao mo co)) from (bt HB.out HB5.out).trans (HST.out.below (by have := (bt HB.out HB5.out).size; omega) fun k e => by have e : k = b2 := e; have := HBB.out; omega))
  obtain ⟨m0, m1, m2, m3, m4⟩ := (HM.out.below HB5.out).cells
  have ml := (HM.out.below HB5.out).lt
  obtain ⟨a0, a1, a2, a3, a4, a5, a6, a7⟩ := (HA.out.below HB5.out).cells
  have al := (HA.out.below HB5.out).lt
  obtain ⟨s0, s1, s2, s3, s4⟩ := (H2.out.below HB5.out).cells
  have f0 := (H2.out.below HB5.out).fz 0; have f1 := (H2.out.below HB5.out).fz 1; have f2 := (H2.out.below HB5.out).fz 2; have f3 := (H2.out.below HB5.out).fz 3; have f4 := (H2.out.below HB5.out).fz 4
  have sl := (H2.out.below HB5.out).lt
  go_wp2
  refine bodyPost_ret (res_mxe Tryz.results24 rfl rfl HR.out) rfl ?_
  have hol := HO5.out.lt
  have hbb := HBB.out
  refine ⟨.slice ao mo co, rfl, (HO5.out.chg HST.out fun b hb e => ?_).rs (fun _ => rfl), fun b hb => .inr ?_, HBE.out⟩
  · have e : b = b2 := e
    have := (hol b hb).1
    have := H2.out.lt
    have := HWC.out
    omega
  · have q := hol b hb
    have := HWC.out
    have := HB.out.size
    exact ⟨by omega, Nat.lt_of_lt_of_le q.2 HST.out.size⟩
set_option maxRecDepth 100000 in
set_option maxHeartbeats 2000000 in
theorem rput_new (h : RS 8 fdenc w v C) (hvb : ∀ b, v.ownBlock = some b → b < w.heap.size) (hln : C.length < 800000) (hok : TOk C) (hp : PArg a.r a.x) (hf : FR C a.i = none) (hg : GT C a.r = none) : Calls Tryz.prog 24 #[mvx T v, av10 a] w (RetD10 w v (0, T, C ++ [newF a])) := by
  have HF := Lib.hid hf; have HG := Lib.hid (role_none hg)
  clear hf hg
  obtain ⟨a0', n, cp, rfl, hn, hc, hm, hat⟩ := h.at_
  have HC := Lib.hid h; have HVB := Lib.hid hvb; have HOK := Lib.hid hok; have HAT := Lib.hid hat; have HN := Lib.hid hn
  have hn9 : n < 800000 := by omega
  obtain ⟨b0, hb0⟩ : ∃ b, b = w.heap.size := ⟨_, rfl⟩
  obtain ⟨b1, hb1⟩ : ∃ b, b = b0 + 1 := ⟨_, rfl⟩
  obtain ⟨b2, hb2⟩ : ∃ b, b = b1 + 1 := ⟨_, rfl⟩
  obtain ⟨w1, hw1⟩ : ∃ w1, w1 = ((w.alloc (.cells (mcellsx T (.slice a0' n cp)) 28)).alloc (.cells (acells10 a) 32)).alloc (.cells (mcellsx (fun _ => 0) (.slice none 0 0)) 28) := ⟨_, rfl⟩
  have s1 : (w.alloc (.cells (mcellsx T (.slice a0' n cp)) 28)).heap.size = b1 := by rw [hb1, hb0]; simp
  have s2 : ((w.alloc (.cells (mcellsx T (.slice a0' n cp)) 28)).alloc (.cells (acells10 a) 32)).heap.size = b2 := by rw [hb2, hb1, hb0]; simp
  have HM := Lib.hid (show MBx w1 b0 T (.slice a0' n cp) from by rw [hw1, hb0]; exact (MBx.made w T _).below (ba (ba (Below.refl _ _) _) _))
  have HA := Lib.hid (show QBx w1 b1 a from by rw [hw1, ← s1]; exact (QBx.made _ a).below (ba (Below.refl _ _) _))
  have H2 := Lib.hid (show MBx w1 b2 (fun _ => 0) (.slice none 0 0) from by rw [hw1, ← s2]; exact MBx.made _ (fun _ => 0) _)
  have HB := Lib.hid (show Below w.heap.size w w1 from by rw [hw1]; exact ba (ba (ba (Below.refl _ _) _) _) _)
  have HBB := Lib.hid (And.intro hb0 (And.intro hb1 hb2))
  have HB1 := Lib.hid (Below.refl w1.heap.size w1)
  clear h hat hn hm hc hvb hok s1 s2
  go_enter Tryz.func24, Tryz.ntmps24
  go_upto_region 1 with (fail)
  rw [← hb0, ← hb1, ← hb2, ← hw1]
  clear hb0 hb1 hb2 hw1
  obtain ⟨m0, m1, m2, m3, m4⟩ := (HM.out.below HB1.out).cells
  have ml := (HM.out.below HB1.out).lt
  obtain ⟨a0, a1, a2, a3, a4, a5, a6, a7⟩ := (HA.out.below HB1.out).cells
  have al := (HA.out.below HB1.out).lt
  obtain ⟨s0, s1, s2, s3, s4⟩ := (H2.out.below HB1.out).cells
  have f0 := (H2.out.below HB1.out).fz 0; have f1 := (H2.out.below HB1.out).fz 1; have f2 := (H2.out.below HB1.out).fz 2; have f3 := (H2.out.below HB1.out).fz 3; have f4 := (H2.out.below HB1.out).fz 4
  have sl := (H2.out.below HB1.out).lt
  obtain ⟨p1, p2, p3, p4⟩ := hp
  have r1 : ¬ a.r < 1 := by omega
  have r2 : ¬ 32 < a.r := by omega
  have r3 : ¬ a.x < 1 := by omega
  have r4 : ¬ 1000 < a.x := by omega
  go_upto_region 3 with (fail)
  clear r1 r2 r3 r4
  go_wp2_with fail
  clear m0 m1 m2 m3 m4 ml a0 a1 a2 a3 a4 a5 a6 a7 al s0 s1 s2 s3 s4 f0 f1 f2 f3 f4 sl
  refine (ratx (T := T) (HC.out.below HB.out) a.i).mono ?_
  rintro e w2 ⟨z, rfl, hz, hb2⟩
  have HZ := Lib.hid hz
  have HB2 := Lib.hid hb2
  clear hz hb2
  obtain rfl : z = -1 := at_none HOK.out HZ.out HF.out
  obtain ⟨m0, m1, m2, m3, m4⟩ := (HM.out.below HB2.out).cells
  have ml := (HM.out.below HB2.out).lt
  obtain ⟨a0, a1, a2, a3, a4, a5, a6, a7⟩ := (HA.out.below HB2.out).cells
  have al := (HA.out.below HB2.out).lt
  obtain ⟨s0, s1, s2, s3, s4⟩ := (H2.out.below HB2.out).cells
  have f0 := (H2.out.below HB2.out).fz 0; have f1 := (H2.out.below HB2.out).fz 1; have f2 := (H2.out.below HB2.out).fz 2; have f3 := (H2.out.below HB2.out).fz 3; have f4 := (H2.out.below HB2.out).fz 4
  have sl := (H2.out.below HB2.out).lt
  go_upto_region 5 with (fail)
  go_wp2_with fail
  clear m0 m1 m2 m3 m4 ml a0 a1 a2 a3 a4 a5 a6 a7 al s0 s1 s2 s3 s4 f0 f1 f2 f3 f4 sl
  refine (rrolex (T := T) (HC.out.below (bt HB.out HB2.out)) HOK.out (by have := HN.out; omega) a.r).mono ?_
  rintro e w3 ⟨rfl, hb3⟩
  have hb4 := ba (Below.refl w3.heap.size w3) (.cells (C4 (SU (inR C a.r))) 25)
  have HB4 := Lib.hid (bt (bt HB2.out hb3) hb4)
  clear hb3 hb4
  obtain ⟨S, hS⟩ : ∃ x, x = SU (inR C a.r) := ⟨_, rfl⟩
  obtain ⟨lw, hlw⟩ : ∃ x, x = lastW (inR C a.r) := ⟨_, rfl⟩
  obtain ⟨th, hth⟩ : ∃ x, x = decide (inR C a.r ≠ []) := ⟨_, rfl⟩
  rw [← hS, ← hlw, ← hth]
  rw [← hS] at HB4
  clear hS
  obtain rfl : th = false := by rw [hth, HG.out]; rfl
  clear hlw hth
  go_upto_region 6 with (fail)
  generalize w3.alloc (.cells (C4 S) 25) = w4 at *
  obtain ⟨m0, m1, m2, m3, m4⟩ := (HM.out.below HB4.out).cells
  have ml := (HM.out.below HB4.out).lt
  obtain ⟨a0, a1, a2, a3, a4, a5, a6, a7⟩ := (HA.out.below HB4.out).cells
  have al := (HA.out.below HB4.out).lt
  obtain ⟨s0, s1, s2, s3, s4⟩ := (H2.out.below HB4.out).cells
  have f0 := (H2.out.below HB4.out).fz 0; have f1 := (H2.out.below HB4.out).fz 1; have f2 := (H2.out.below HB4.out).fz 2; have f3 := (H2.out.below HB4.out).fz 3; have f4 := (H2.out.below HB4.out).fz 4
  have sl := (H2.out.below HB4.out).lt
  go_upto_region 8 with (fail)
  clear m0 m1 m2 m3 m4 ml a0 a1 a2 a3 a4 a5 a6 a7 al s0 s1 s2 s3 s4 f0 f1 f2 f3 f4 sl
  have HW := Lib.hid (rwithx (T := T) (HC.out.below (bt HB.out HB4.out)) (by have := HN.out; omega) (-1) (newF a) C rfl keep_withx)
  rw [if_pos (by decide)] at HW
  have HWC := Lib.hid (show w1.heap.size ≤ w4.heap.size from HB4.out.size)
  unfold newF fdval at HW
  obtain ⟨m0, m1, m2, m3, m4⟩ := (HM.out.below HB4.out).cells
  have ml := (HM.out.below HB4.out).lt
  obtain ⟨a0, a1, a2, a3, a4, a5, a6, a7⟩ := (HA.out.below HB4.out).cells
  have al := (HA.out.below HB4.out).lt
  obtain ⟨s0, s1, s2, s3, s4⟩ := (H2.out.below HB4.out).cells
  have f0 := (H2.out.below HB4.out).fz 0; have f1 := (H2.out.below HB4.out).fz 1; have f2 := (H2.out.below HB4.out).fz 2; have f3 := (H2.out.below HB4.out).fz 3; have f4 := (H2.out.below HB4.out).fz 4
  have sl := (H2.out.below HB4.out).lt
  go_wp2_with fail
  clear m0 m1 m2 m3 m4 ml a0 a1 a2 a3 a4 a5 a6 a7 al s0 s1 s2 s3 s4 f0 f1 f2 f3 f4 sl
  refine HW.out.mono ?_
  rintro e w5 ⟨v5, rfl, ho5, hb5⟩
  have HB5 := Lib.hid (bt HB4.out hb5)
  have HO5 := Lib.hid ho5
  clear ho5 hb5 HW
  obtain ⟨ao, mo, co, hvo⟩ : ∃ ao mo co, v5 = .slice ao mo co := by
    rcases HO5.out.2 with ⟨hv, h0⟩ | ⟨g', cap', cur', hv, _⟩
    · exact ⟨_, _, _, hv⟩
    · exact ⟨_, _, _, hv⟩
  subst hvo
  have HR := Lib.hid ((H2.out.below HB5.out).set5 (T) (.slice ao mo co))
  have HST := Lib.hid (show Chg (fun k => k = b2) w5 (set5x w5 b2 (T) (.slice ao mo co)) from
    ((((((Chg.refl (fun k => k = b2) w5).setCell (p := ⟨b2, 0, none⟩) (.inl rfl) _).setCell (p := ⟨b2, 1, none⟩) (.inl rfl) _).setCell (p := ⟨b2, 2, none⟩) (.inl rfl) _).setCell (p := ⟨b2, 3, none⟩) (.inl rfl) _).setCell (p := ⟨b2, 4, none⟩) (.inl rfl) _))
  have HBE := Lib.hid (show Below w.heap.size w (set5x w5 b2 (T) (.slice ao mo co)) from (bt HB.out HB5.out).trans (HST.out.below (by have := (bt HB.out HB5.out).size; omega) fun k e => by have e : k = b2 := e; have := HBB.out; omega))
  obtain ⟨m0, m1, m2, m3, m4⟩ := (HM.out.below HB5.out).cells
  have ml := (HM.out.below HB5.out).lt
  obtain ⟨a0, a1, a2, a3, a4, a5, a6, a7⟩ := (HA.out.below HB5.out).cells
  have al := (HA.out.below HB5.out).lt
  obtain ⟨s0, s1, s2, s3, s4⟩ := (H2.out.below HB5.out).cells
  have f0 := (H2.out.below HB5.out).fz 0; have f1 := (H2.out.below HB5.out).fz 1; have f2 := (H2.out.below HB5.out).fz 2; have f3 := (H2.out.below HB5.out).fz 3; have f4 := (H2.out.below HB5.out).fz 4
  have sl := (H2.out.below HB5.out).lt
  go_wp2
  refine bodyPost_ret (res_mxe Tryz.results24 rfl rfl HR.out) rfl ?_
  have hol := HO5.out.lt
  have hbb := HBB.out
  refine ⟨.slice ao mo co, rfl, (HO5.out.chg HST.out fun b hb e => ?_).rs (fun _ => rfl), fun b hb => .inr ?_, HBE.out⟩
  · have e : b = b2 := e
    have := (hol b hb).1
    have := H2.out.lt
    have := HWC.out
    omega
  · have q := hol b hb
    have := HWC.out
    have := HB.out.size
    exact ⟨by omega, Nat.lt_of_lt_of_le q.2 HST.out.size⟩
end
end
section
open Go.RowKit Go.Maps
attribute [local go_sem] ext_cell ext_frozen extC_cell extC_frozen Mix.calmUpon Mix.mUpon
-- what is read at the world wq; HBq : Below w1.heap.size w1 wq
-- the answer: the total TT and the value VV are laid into the block b2 at the world wq
-- the list is answered as it came in, at the world wq
-- a list that a call made is answered: HO : OwnL .. w9 base (.slice ao mo co) D, HWC : w1.heap.size ≤ base
-- a call of F begins: its three variables
section
variable {A B C : List Fd} {x x' : Fd} {w : World} {b : Nat} {d : Fd}
theorem DBx.seta (h : DBx w b d) (q : Bool) : DBx (w.setCell ⟨b, 7, none⟩ (.bool q)) b { d with aw := q } := heap_setCell_at _ h
theorem DBx.sets (h : DBx w b d) (r : Nat → Int) : DBx ((((w.setCell ⟨b, 3, none⟩ (.int .i64 (r 0))).setCell ⟨b, 4, none⟩ (.int .i64 (r 1))).setCell ⟨b, 5, none⟩ (.int .i64 (r 2))).setCell ⟨b, 6, none⟩ (.int .i64 (r 3))) b { d with s := r } := heap_setCell_at _ (heap_setCell_at _ (heap_setCell_at _ (heap_setCell_at _ h)))
theorem mid_at (A B : List Fd) (x : Fd) : (A ++ x :: B)[A.length]? = some x := by
  rw [List.getElem?_append_right (Nat.le_refl _), Nat.sub_self]; rfl
theorem set_mid (A B : List Fd) (x x' : Fd) : ∀ (j : Nat) y, (A ++ x :: B)[j]? = some y → (A ++ x' :: B)[j]? = some (if (j : Int) = (A.length : Int) then x' else y) := fun j y hy => by
  by_cases h1 : j < A.length
  · rw [if_neg (by omega)]
    rw [List.getElem?_append_left h1] at hy ⊢; exact hy
  · by_cases h2 : j = A.length
    · subst h2; rw [if_pos rfl]; exact mid_at A B x'
    · rw [if_neg (by omega)]
      rw [List.getElem?_append_right (by omega)] at hy ⊢
      obtain ⟨m, hm⟩ : ∃ m, j - A.length = m + 1 := ⟨j - A.length - 1, by omega⟩
      rw [hm] at hy ⊢; exact hy
/-- The place of the framework. -/
theorem at_is (hok : TOk (A ++ x :: B)) {z : Int} (h : AtX (A ++ x :: B) x.id z) : z = (A.length : Int) := by
  rcases h with ⟨k, d, rfl, h1, h2⟩ | ⟨-, h1⟩
  · have hkl := (List.getElem?_eq_some_iff.1 h1).1
    have e1 : ((A ++ x :: B).map (·.id))[k]? = some x.id := by rw [List.getElem?_map, h1]; simp [h2]
    have e2 : ((A ++ x :: B).map (·.id))[A.length]? = some x.id := by rw [List.getElem?_map, mid_at]; rfl
    have := (List.getElem?_inj (by simpa using hkl) hok.nd).1 (e1.trans e2.symm)
    omega
  · exact absurd rfl (h1 x (by simp))
end
section
variable {w : World} {v : Value} {C A B : List Fd} {T : Nat → Int} {a : A10} {x : Fd} {s : Int × (Nat → Int) × List Fd}
set_option maxRecDepth 100000 in
set_option maxHeartbeats 2000000 in
theorem rdo_tot (h : RS 8 fdenc w v C) (hvb : ∀ b, v.ownBlock = some b → b < w.heap.size) (hln : C.length < 800000) (hok : TOk C) (k : a.k = 0) (hs : Sm4 a.n) : Calls Tryz.prog 7 #[mvx T v, av10 a] w (RetD10 w v (0, a.n, C)) := by
  have k0 := key_is k
  have HSM := Lib.hid hs
  clear k hs
  obtain ⟨a0', n, cp, rfl, hn, hc, hm, hat⟩ := h.at_
  have HC := Lib.hid h; have HVB := Lib.hid hvb; have HOK := Lib.hid hok; have HAT := Lib.hid hat; have HN := Lib.hid hn
  have hn9 : n < 800000 := by omega
  obtain ⟨b0, hb0⟩ : ∃ b, b = w.heap.size := ⟨_, rfl⟩
  obtain ⟨b1, hb1⟩ : ∃ b, b = b0 + 1 := ⟨_, rfl⟩
  obtain ⟨b2, hb2⟩ : ∃ b, b = b1 + 1 := ⟨_, rfl⟩
  obtain ⟨w1, hw1⟩ : ∃ w1, w1 = ((w.alloc (.cells (mcellsx T (.slice a0' n cp)) 28)).alloc (.cells (acells10 a) 32)).alloc (.cells (mcellsx (fun _ => 0) (.slice none 0 0)) 28) := ⟨_, rfl⟩
  have s1 : (w.alloc (.cells (mcellsx T (.slice a0' n cp)) 28)).heap.size = b1 := by rw [hb1, hb0]; simp
  have s2 : ((w.alloc (.cells (mcellsx T (.slice a0' n cp)) 28)).alloc (.cells (acells10 a) 32)).heap.size = b2 := by rw [hb2, hb1, hb0]; simp
  have HM := Lib.hid (show MBx w1 b0 T (.slice a0' n cp) from by rw [hw1, hb0]; exact (MBx.made w T _).below (ba (ba (Below.refl _ _) _) _))
  have HA := Lib.hid (show QBx w1 b1 a from by rw [hw1, ← s1]; exact (QBx.made _ a).below (ba (Below.refl _ _) _))
  have H2 := Lib.hid (show MBx w1 b2 (fun _ => 0) (.slice none 0 0) from by rw [hw1, ← s2]; exact MBx.made _ (fun _ => 0) _)
  have HB := Lib.hid (show Below w.heap.size w w1 from by rw [hw1]; exact ba (ba (ba (Below.refl _ _) _) _) _)
  have HBB := Lib.hid (And.intro hb0 (And.intro hb1 hb2))
  have HB1 := Lib.hid (Below.refl w1.heap.size w1)
  clear h hat hn hm hc hvb hok s1 s2
  go_enter Tryz.func7, Tryz.ntmps7
  go_upto_region 1 with (fail)
  rw [← hb0, ← hb1, ← hb2, ← hw1]
  clear hb0 hb1 hb2 hw1
  obtain ⟨m0, m1, m2, m3, m4⟩ := (HM.out.below HB1.out).cells
  have ml := (HM.out.below HB1.out).lt
  obtain ⟨a0, a1, a2, a3, a4, a5, a6, a7⟩ := (HA.out.below HB1.out).cells
  have al := (HA.out.below HB1.out).lt
  obtain ⟨s0, s1, s2, s3, s4⟩ := (H2.out.below HB1.out).cells
  have f0 := (H2.out.below HB1.out).fz 0; have f1 := (H2.out.below HB1.out).fz 1; have f2 := (H2.out.below HB1.out).fz 2; have f3 := (H2.out.below HB1.out).fz 3; have f4 := (H2.out.below HB1.out).fz 4
  have sl := (H2.out.below HB1.out).lt
  go_wp2_with fail
  clear m0 m1 m2 m3 m4 ml a0 a1 a2 a3 a4 a5 a6 a7 al s0 s1 s2 s3 s4 f0 f1 f2 f3 f4 sl
  refine (rsmall9 a.n w1).mono ?_
  rintro e w2 ⟨rfl, hb2⟩
  have HB2 := Lib.hid hb2
  clear hb2
  rw [decide_eq_true HSM.out]
  have HR := Lib.hid ((H2.out.below HB2.out).set5 (a.n) (.slice a0' n cp))
  have HST := Lib.hid (show Chg (fun k => k = b2) w2 (set5x w2 b2 (a.n) (.slice a0' n cp)) from
    ((((((Chg.refl (fun k => k = b2) w2).setCell (p := ⟨b2, 0, none⟩) (.inl rfl) _).setCell (p := ⟨b2, 1, none⟩) (.inl rfl) _).setCell (p := ⟨b2, 2, none⟩) (.inl rfl) _).setCell (p := ⟨b2, 3, none⟩) (.inl rfl) _).setCell (p := ⟨b2, 4, none⟩) (.inl rfl) _))
  have HBE := Lib.hid (show Below w.heap.size w (set5x w2 b2 (a.n) (.slice a0' n cp)) from (bt HB.out HB2.out).trans (HST.out.below (by have := (bt HB.out HB2.out).size; omega) fun k e => by have e : k = b2 := e; have := HBB.out; omega))
  obtain ⟨m0, m1, m2, m3, m4⟩ := (HM.out.below HB2.out).cells
  have ml := (HM.out.below HB2.out).lt
  obtain ⟨a0, a1, a2, a3, a4, a5, a6, a7⟩ := (HA.out.below HB2.out).cells
  have al := (HA.out.below HB2.out).lt
  obtain ⟨s0, s1, s2, s3, s4⟩ := (H2.out.below HB2.out).cells
  have f0 := (H2.out.below HB2.out).fz 0; have f1 := (H2.out.below HB2.out).fz 1; have f2 := (H2.out.below HB2.out).fz 2; have f3 := (H2.out.below HB2.out).fz 3; have f4 := (H2.out.below HB2.out).fz 4
  have sl := (H2.out.below HB2.out).lt
  go_wp2
  refine bodyPost_ret (res_mxe Tryz.results7 rfl rfl HR.out) rfl ?_
  refine ⟨_, rfl, (HC.out.below (bt HB.out HB2.out)).chg HST.out fun b hb e => ?_, fun b hb => .inl hb, HBE.out⟩
  have e : b = b2 := e
  have := HVB.out b hb
  have := HBB.out
  omega
set_option maxRecDepth 100000 in
set_option maxHeartbeats 2000000 in
theorem rdo_totN (h : RS 8 fdenc w v C) (hvb : ∀ b, v.ownBlock = some b → b < w.heap.size) (hln : C.length < 800000) (hok : TOk C) (k : a.k = 0) (hs : ¬ Sm4 a.n) : Calls Tryz.prog 7 #[mvx T v, av10 a] w (RetD10 w v (41, T, C)) := by
  have k0 := key_is k
  have HSM := Lib.hid hs
  clear k hs
  obtain ⟨a0', n, cp, rfl, hn, hc, hm, hat⟩ := h.at_
  have HC := Lib.hid h; have HVB := Lib.hid hvb; have HOK := Lib.hid hok; have HAT := Lib.hid hat; have HN := Lib.hid hn
  have hn9 : n < 800000 := by omega
  obtain ⟨b0, hb0⟩ : ∃ b, b = w.heap.size := ⟨_, rfl⟩
  obtain ⟨b1, hb1⟩ : ∃ b, b = b0 + 1 := ⟨_, rfl⟩
  obtain ⟨b2, hb2⟩ : ∃ b, b = b1 + 1 := ⟨_, rfl⟩
  obtain ⟨w1, hw1⟩ : ∃ w1, w1 = ((w.alloc (.cells (mcellsx T (.slice a0' n cp)) 28)).alloc (.cells (acells10 a) 32)).alloc (.cells (mcellsx (fun _ => 0) (.slice none 0 0)) 28) := ⟨_, rfl⟩
  have s1 : (w.alloc (.cells (mcellsx T (.slice a0' n cp)) 28)).heap.size = b1 := by rw [hb1, hb0]; simp
  have s2 : ((w.alloc (.cells (mcellsx T (.slice a0' n cp)) 28)).alloc (.cells (acells10 a) 32)).heap.size = b2 := by rw [hb2, hb1, hb0]; simp
  have HM := Lib.hid (show MBx w1 b0 T (.slice a0' n cp) from by rw [hw1, hb0]; exact (MBx.made w T _).below (ba (ba (Below.refl _ _) _) _))
  have HA := Lib.hid (show QBx w1 b1 a from by rw [hw1, ← s1]; exact (QBx.made _ a).below (ba (Below.refl _ _) _))
  have H2 := Lib.hid (show MBx w1 b2 (fun _ => 0) (.slice none 0 0) from by rw [hw1, ← s2]; exact MBx.made _ (fun _ => 0) _)
  have HB := Lib.hid (show Below w.heap.size w w1 from by rw [hw1]; exact ba (ba (ba (Below.refl _ _) _) _) _)
  have HBB := Lib.hid (And.intro hb0 (And.intro hb1 hb2))
  have HB1 := Lib.hid (Below.refl w1.heap.size w1)
  clear h hat hn hm hc hvb hok s1 s2
  go_enter Tryz.func7, Tryz.ntmps7
  go_upto_region 1 with (fail)
  rw [← hb0, ← hb1, ← hb2, ← hw1]
  clear hb0 hb1 hb2 hw1
  obtain ⟨m0, m1, m2, m3, m4⟩ := (HM.out.below HB1.out).cells
  have ml := (HM.out.below HB1.out).lt
  obtain ⟨a0, a1, a2, a3, a4, a5, a6, a7⟩ := (HA.out.below HB1.out).cells
  have al := (HA.out.below HB1.out).lt
  obtain ⟨s0, s1, s2, s3, s4⟩ := (H2.out.below HB1.out).cells
  have f0 := (H2.out.below HB1.out).fz 0; have f1 := (H2.out.below HB1.out).fz 1; have f2 := (H2.out.below HB1.out).fz 2; have f3 := (H2.out.below HB1.out).fz 3; have f4 := (H2.out.below HB1.out).fz 4
  have sl := (H2.out.below HB1.out).lt
  go_wp2_with fail
  clear m0 m1 m2 m3 m4 ml a0 a1 a2 a3 a4 a5 a6 a7 al s0 s1 s2 s3 s4 f0 f1 f2 f3 f4 sl
  refine (rsmall9 a.n w1).mono ?_
  rintro e w2 ⟨rfl, hb2⟩
  have HB2 := Lib.hid hb2
  clear hb2
  rw [decide_eq_false HSM.out]
  have HR := Lib.hid ((H2.out.below HB2.out).set5 (T) (.slice a0' n cp))
  have HST := Lib.hid (show Chg (fun k => k = b2) w2 (set5x w2 b2 (T) (.slice a0' n cp)) from
    ((((((Chg.refl (fun k => k = b2) w2).setCell (p := ⟨b2, 0, none⟩) (.inl rfl) _).setCell (p := ⟨b2, 1, none⟩) (.inl rfl) _).setCell (p := ⟨b2, 2, none⟩) (.inl rfl) _).setCell (p := ⟨b2, 3, none⟩) (.inl rfl) _).setCell (p := ⟨b2, 4, none⟩) (.inl rfl) _))
  have HBE := Lib.hid (show Below w.heap.size w (set5x w2 b2 (T) (.slice a0' n cp)) from (bt HB.out HB2.out).trans (HST.out.below (by have := (bt HB.out HB2.out).size; omega) fun k e => by have e : k = b2 := e; have := HBB.out; omega))
  obtain ⟨m0, m1, m2, m3, m4⟩ := (HM.out.below HB2.out).cells
  have ml := (HM.out.below HB2.out).lt
  obtain ⟨a0, a1, a2, a3, a4, a5, a6, a7⟩ := (HA.out.below HB2.out).cells
  have al := (HA.out.below HB2.out).lt
  obtain ⟨s0, s1, s2, s3, s4⟩ := (H2.out.below HB2.out).cells
  have f0 := (H2.out.below HB2.out).fz 0; have f1 := (H2.out.below HB2.out).fz 1; have f2 := (H2.out.below HB2.out).fz 2; have f3 := (H2.out.below HB2.out).fz 3; have f4 := (H2.out.below HB2.out).fz 4
  have sl := (H2.out.below HB2.out).lt
  go_wp2
  refine bodyPost_ret (res_mxe Tryz.results7 rfl rfl HR.out) rfl ?_
  refine ⟨_, rfl, (HC.out.below (bt HB.out HB2.out)).chg HST.out fun b hb e => ?_, fun b hb => .inl hb, HBE.out⟩
  have e : b = b2 := e
  have := HVB.out b hb
  have := HBB.out
  omega
set_option maxRecDepth 100000 in
set_option maxHeartbeats 2000000 in
theorem rdo_put (h : RS 8 fdenc w v C) (hvb : ∀ b, v.ownBlock = some b → b < w.heap.size) (hln : C.length < 800000) (hok : TOk C) (k : a.k = 1) (hp : ∀ w' : World, Below w.heap.size w w' → Calls Tryz.prog 24 #[mvx T v, av10 a] w' (RetD10 w' v s)) : Calls Tryz.prog 7 #[mvx T v, av10 a] w (RetD10 w v s) := by
  have k0 := key_non (c := 0) k rfl
  have k1 := key_is k
  have HPU := Lib.hid hp
  clear k hp
  obtain ⟨a0', n, cp, rfl, hn, hc, hm, hat⟩ := h.at_
  have HC := Lib.hid h; have HVB := Lib.hid hvb; have HOK := Lib.hid hok; have HAT := Lib.hid hat; have HN := Lib.hid hn
  have hn9 : n < 800000 := by omega
  obtain ⟨b0, hb0⟩ : ∃ b, b = w.heap.size := ⟨_, rfl⟩
  obtain ⟨b1, hb1⟩ : ∃ b, b = b0 + 1 := ⟨_, rfl⟩
  obtain ⟨b2, hb2⟩ : ∃ b, b = b1 + 1 := ⟨_, rfl⟩
  obtain ⟨w1, hw1⟩ : ∃ w1, w1 = ((w.alloc (.cells (mcellsx T (.slice a0' n cp)) 28)).alloc (.cells (acells10 a) 32)).alloc (.cells (mcellsx (fun _ => 0) (.slice none 0 0)) 28) := ⟨_, rfl⟩
  have s1 : (w.alloc (.cells (mcellsx T (.slice a0' n cp)) 28)).heap.size = b1 := by rw [hb1, hb0]; simp
  have s2 : ((w.alloc (.cells (mcellsx T (.slice a0' n cp)) 28)).alloc (.cells (acells10 a) 32)).heap.size = b2 := by rw [hb2, hb1, hb0]; simp
  have HM := Lib.hid (show MBx w1 b0 T (.slice a0' n cp) from by rw [hw1, hb0]; exact (MBx.made w T _).below (ba (ba (Below.refl _ _) _) _))
  have HA := Lib.hid (show QBx w1 b1 a from by rw [hw1, ← s1]; exact (QBx.made _ a).below (ba (Below.refl _ _) _))
  have H2 := Lib.hid (show MBx w1 b2 (fun _ => 0) (.slice none 0 0) from by rw [hw1, ← s2]; exact MBx.made _ (fun _ => 0) _)
  have HB := Lib.hid (show Below w.heap.size w w1 from by rw [hw1]; exact ba (ba (ba (Below.refl _ _) _) _) _)
  have HBB := Lib.hid (And.intro hb0 (And.intro hb1 hb2))
  have HB1 := Lib.hid (Below.refl w1.heap.size w1)
  clear h hat hn hm hc hvb hok s1 s2
  go_enter Tryz.func7, Tryz.ntmps7
  go_upto_region 1 with (fail)
  rw [← hb0, ← hb1, ← hb2, ← hw1]
  clear hb0 hb1 hb2 hw1
  obtain ⟨m0, m1, m2, m3, m4⟩ := (HM.out.below HB1.out).cells
  have ml := (HM.out.below HB1.out).lt
  obtain ⟨a0, a1, a2, a3, a4, a5, a6, a7⟩ := (HA.out.below HB1.out).cells
  have al := (HA.out.below HB1.out).lt
  obtain ⟨s0, s1, s2, s3, s4⟩ := (H2.out.below HB1.out).cells
  have f0 := (H2.out.below HB1.out).fz 0; have f1 := (H2.out.below HB1.out).fz 1; have f2 := (H2.out.below HB1.out).fz 2; have f3 := (H2.out.below HB1.out).fz 3; have f4 := (H2.out.below HB1.out).fz 4
  have sl := (H2.out.below HB1.out).lt
  go_wp2_with fail
  clear m0 m1 m2 m3 m4 ml a0 a1 a2 a3 a4 a5 a6 a7 al s0 s1 s2 s3 s4 f0 f1 f2 f3 f4 sl
  refine (HPU.out w1 HB.out).mono ?_
  rintro e w2 ⟨v2, rfl, hr2, ho2, hb2⟩
  obtain ⟨ax, nx, cx, rfl⟩ : ∃ a n c, v2 = .slice a n c := by obtain ⟨a, n, c, rfl, -⟩ := hr2.at_; exact ⟨_, _, _, rfl⟩
  have HB2 := Lib.hid hb2; have HR2 := Lib.hid hr2; have HO2 := Lib.hid ho2
  clear hb2 hr2 ho2
  obtain ⟨T2, hT2⟩ : ∃ T2, T2 = s.2.1 := ⟨_, rfl⟩
  obtain ⟨e2, he2⟩ : ∃ e2, e2 = s.1 := ⟨_, rfl⟩
  rw [← hT2, ← he2]
  have HTE := Lib.hid (And.intro hT2 he2)
  clear hT2 he2
  have HR := Lib.hid ((H2.out.below HB2.out).set5 (T2) (.slice ax nx cx))
  have HST := Lib.hid (show Chg (fun k => k = b2) w2 (set5x w2 b2 (T2) (.slice ax nx cx)) from
    ((((((Chg.refl (fun k => k = b2) w2).setCell (p := ⟨b2, 0, none⟩) (.inl rfl) _).setCell (p := ⟨b2, 1, none⟩) (.inl rfl) _).setCell (p := ⟨b2, 2, none⟩) (.inl rfl) _).setCell (p := ⟨b2, 3, none⟩) (.inl rfl) _).setCell (p := ⟨b2, 4, none⟩) (.inl rfl) _))
  have HBE := Lib.hid (show Below w.heap.size w (set5x w2 b2 (T2) (.slice ax nx cx)) from (bt HB.out HB2.out).trans (HST.out.below (by have := (bt HB.out HB2.out).size; omega) fun k e => by have e : k = b2 := e; have := HBB.out; omega))
  obtain ⟨m0, m1, m2, m3, m4⟩ := (HM.out.below HB2.out).cells
  have ml := (HM.out.below HB2.out).lt
  obtain ⟨a0, a1, a2, a3, a4, a5, a6, a7⟩ := (HA.out.below HB2.out).cells
  have al := (HA.out.below HB2.out).lt
  obtain ⟨s0, s1, s2, s3, s4⟩ := (H2.out.below HB2.out).cells
  have f0 := (H2.out.below HB2.out).fz 0; have f1 := (H2.out.below HB2.out).fz 1; have f2 := (H2.out.below HB2.out).fz 2; have f3 := (H2.out.below HB2.out).fz 3; have f4 := (H2.out.below HB2.out).fz 4
  have sl := (H2.out.below HB2.out).lt
  go_wp2
  refine bodyPost_ret (res_mxe Tryz.results7 rfl rfl HR.out) rfl ?_
  refine ⟨.slice ax nx cx, by rw [HTE.out.1, HTE.out.2]; rfl, HR2.out.chg HST.out fun b hb e => ?_, fun b hb => ?_, HBE.out⟩
  · have e : b = b2 := e
    have q := HBB.out; have q2 := H2.out.lt
    rcases HO2.out b hb with h | h
    · have := HVB.out b h; omega
    · omega
  · rcases HO2.out b hb with h | h
    · exact .inl h
    · have q := HB.out.size
      exact .inr ⟨by omega, Nat.lt_of_lt_of_le h.2 HST.out.size⟩
set_option maxRecDepth 100000 in
set_option maxHeartbeats 2000000 in
theorem rdo_no (h : RS 8 fdenc w v C) (hvb : ∀ b, v.ownBlock = some b → b < w.heap.size) (hln : C.length < 800000) (hok : TOk C) (n0 : a.k ≠ 0) (n1 : a.k ≠ 1) (hf : FR C a.i = none) : Calls Tryz.prog 7 #[mvx T v, av10 a] w (RetD10 w v (43, T, C)) := by
  have k0 := not_key n0
  have k1 := not_key n1
  have HF := Lib.hid hf
  clear n0 n1 hf
  obtain ⟨a0', n, cp, rfl, hn, hc, hm, hat⟩ := h.at_
  have HC := Lib.hid h; have HVB := Lib.hid hvb; have HOK := Lib.hid hok; have HAT := Lib.hid hat; have HN := Lib.hid hn
  have hn9 : n < 800000 := by omega
  obtain ⟨b0, hb0⟩ : ∃ b, b = w.heap.size := ⟨_, rfl⟩
  obtain ⟨b1, hb1⟩ : ∃ b, b = b0 + 1 := ⟨_, rfl⟩
  obtain ⟨b2, hb2⟩ : ∃ b, b = b1 + 1 := ⟨_, rfl⟩
  obtain ⟨w1, hw1⟩ : ∃ w1, w1 = ((w.alloc (.cells (mcellsx T (.slice a0' n cp)) 28)).alloc (.cells (acells10 a) 32)).alloc (.cells (mcellsx (fun _ => 0) (.slice none 0 0)) 28) := ⟨_, rfl⟩
  have s1 : (w.alloc (.cells (mcellsx T (.slice a0' n cp)) 28)).heap.size = b1 := by rw [hb1, hb0]; simp
  have s2 : ((w.alloc (.cells (mcellsx T (.slice a0' n cp)) 28)).alloc (.cells (acells10 a) 32)).heap.size = b2 := by rw [hb2, hb1, hb0]; simp
  have HM := Lib.hid (show MBx w1 b0 T (.slice a0' n cp) from by rw [hw1, hb0]; exact (MBx.made w T _).below (ba (ba (Below.refl _ _) _) _))
  have HA := Lib.hid (show QBx w1 b1 a from by rw [hw1, ← s1]; exact (QBx.made _ a).below (ba (Below.refl _ _) _))
  have H2 := Lib.hid (show MBx w1 b2 (fun _ => 0) (.slice none 0 0) from by rw [hw1, ← s2]; exact MBx.made _ (fun _ => 0) _)
  have HB := Lib.hid (show Below w.heap.size w w1 from by rw [hw1]; exact ba (ba (ba (Below.refl _ _) _) _) _)
  have HBB := Lib.hid (And.intro hb0 (And.intro hb1 hb2))
  have HB1 := Lib.hid (Below.refl w1.heap.size w1)
  clear h hat hn hm hc hvb hok s1 s2
  go_enter Tryz.func7, Tryz.ntmps7
  go_upto_region 1 with (fail)
  rw [← hb0, ← hb1, ← hb2, ← hw1]
  clear hb0 hb1 hb2 hw1
  obtain ⟨m0, m1, m2, m3, m4⟩ := (HM.out.below HB1.out).cells
  have ml := (HM.out.below HB1.out).lt
  obtain ⟨a0, a1, a2, a3, a4, a5, a6, a7⟩ := (HA.out.below HB1.out).cells
  have al := (HA.out.below HB1.out).lt
  obtain ⟨s0, s1, s2, s3, s4⟩ := (H2.out.below HB1.out).cells
  have f0 := (H2.out.below HB1.out).fz 0; have f1 := (H2.out.below HB1.out).fz 1; have f2 := (H2.out.below HB1.out).fz 2; have f3 := (H2.out.below HB1.out).fz 3; have f4 := (H2.out.below HB1.out).fz 4
  have sl := (H2.out.below HB1.out).lt
  go_wp2_with fail
  clear m0 m1 m2 m3 m4 ml a0 a1 a2 a3 a4 a5 a6 a7 al s0 s1 s2 s3 s4 f0 f1 f2 f3 f4 sl
  refine (ratx (T := T) (HC.out.below HB.out) a.i).mono ?_
  rintro e w2 ⟨z, rfl, hz, hb2⟩
  obtain rfl : z = -1 := at_none HOK.out hz HF.out
  have HB2 := Lib.hid hb2
  clear hb2 hz
  have HR := Lib.hid ((H2.out.below HB2.out).set5 (T) (.slice a0' n cp))
  have HST := Lib.hid (show Chg (fun k => k = b2) w2 (set5x w2 b2 (T) (.slice a0' n cp)) from
    ((((((Chg.refl (fun k => k = b2) w2).setCell (p := ⟨b2, 0, none⟩) (.inl rfl) _).setCell (p := ⟨b2, 1, none⟩) (.inl rfl) _).setCell (p := ⟨b2, 2, none⟩) (.inl rfl) _).setCell (p := ⟨b2, 3, none⟩) (.inl rfl) _).setCell (p := ⟨b2, 4, none⟩) (.inl rfl) _))
  have HBE := Lib.hid (show Below w.heap.size w (set5x w2 b2 (T) (.slice a0' n cp)) from (bt HB.out HB2.out).trans (HST.out.below (by have := (bt HB.out HB2.out).size; omega) fun k e => by have e : k = b2 := e; have := HBB.out; omega))
  obtain ⟨m0, m1, m2, m3, m4⟩ := (HM.out.below HB2.out).cells
  have ml := (HM.out.below HB2.out).lt
  obtain ⟨a0, a1, a2, a3, a4, a5, a6, a7⟩ := (HA.out.below HB2.out).cells
  have al := (HA.out.below HB2.out).lt
  obtain ⟨s0, s1, s2, s3, s4⟩ := (H2.out.below HB2.out).cells
  have f0 := (H2.out.below HB2.out).fz 0; have f1 := (H2.out.below HB2.out).fz 1; have f2 := (H2.out.below HB2.out).fz 2; have f3 := (H2.out.below HB2.out).fz 3; have f4 := (H2.out.below HB2.out).fz 4
  have sl := (H2.out.below HB2.out).lt
  go_wp2
  refine bodyPost_ret (res_mxe Tryz.results7 rfl rfl HR.out) rfl ?_
  refine ⟨_, rfl, (HC.out.below (bt HB.out HB2.out)).chg HST.out fun b hb e => ?_, fun b hb => .inl hb, HBE.out⟩
  have e : b = b2 := e
  have := HVB.out b hb
  have := HBB.out
  omega
end
end
end Go.Proofs.YtgfjmafdfbghnaaGreat

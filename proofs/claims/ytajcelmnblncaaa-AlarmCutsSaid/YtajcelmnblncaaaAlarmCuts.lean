/- For any keys, times and cuts the statement AlarmCuts returns true. Condition: none. -/
import Derived.Test.YtajcelmnblncaaaAlP
import Derived.Test.YtajcelmnblncaaaHeapT
namespace Go.Proofs.Ytajcelmnblncaaa
open Go.RowKit Go.Maps
attribute [local go_sem] ext_cell ext_frozen extC_cell extC_frozen Mix.calmUpon Mix.mUpon eqKy
/-- The time that was last set for a key. -/
def lastT (l : List (Ky × Int)) (k : Ky) : Option Int := l.foldl (fun o p => if p.1 = k then some p.2 else o) none
theorem lastT_snoc (l : List (Ky × Int)) (p : Ky × Int) (k : Ky) : lastT (l ++ [p]) k = if p.1 = k then some p.2 else lastT l k := by
  unfold lastT
  rw [List.foldl_append]; rfl
theorem due_rest_len (R : List Rc) (now : Int) : (dueR R now).length + (restR R now).length = R.length := by
  induction R with
  | nil => rfl
  | cons x t ih =>
    unfold dueR restR at *
    rw [List.filter_cons, List.filter_cons]
    by_cases h : x.at_ ≤ now
    · rw [if_pos (by simpa using h), if_neg (by simp [h])]
      simp only [List.length_cons]; omega
    · rw [if_neg (by simpa using h), if_pos (by simpa using h)]
      simp only [List.length_cons]; omega
theorem due_up {R : List Rc} (h : SR R) (now : Int) {i : Nat} {x y : Rc} (hx : (dueR R now)[i]? = some x) (hy : (dueR R now)[i + 1]? = some y) : x.at_ ≤ y.at_ := by
  obtain ⟨i1, g1⟩ := List.getElem?_eq_some_iff.1 hx
  obtain ⟨i2, g2⟩ := List.getElem?_eq_some_iff.1 hy
  have := (List.pairwise_iff_getElem.1 (h.filter (fun x : Rc => decide (x.at_ ≤ now))) i (i + 1) i1 i2 (by omega)).1
  rw [g1, g2, ltR_iff] at this
  omega
/-- Where the cuts stand. -/
structure CW (W w : World) (ap : Nat) (G : Nat → Prop) (Z : List (Ky × Int)) (C : List Int) (i : Nat) (R : List Rc) (c : Nat) : Prop where
  aw : AW W w ap G R c
  tm : ∀ x ∈ R, lastT Z x.key = some x.at_
  ct : ∀ j y, j < i → C[j]? = some y → ∀ x ∈ R, y < x.at_
  len : R.length ≤ 60
theorem CW.put {W w w' : World} {ap : Nat} {G G' : Nat → Prop} {Z : List (Ky × Int)} {C : List Int} {R : List Rc} {c c' : Nat} {x : Ky} {y n : Int} (h : CW W w ap G Z C 0 R c) (h1 : AS w' ap G' (pR R ⟨x, n, y⟩) c') (h2 : Chg G w w') (h3 : ∀ k, G' k → G k ∨ w.heap.size ≤ k) (hl : (pR R ⟨x, n, y⟩).length ≤ 60) : CW W w' ap G' (Z ++ [(x, y)]) C 0 (pR R ⟨x, n, y⟩) c' :=
  ⟨h.aw.step h1 h2 h3, fun z hz => by
    rw [lastT_snoc]
    rcases Srt.mem_put.1 hz with rfl | ⟨hz, hne⟩
    · rw [if_pos rfl]
    · rw [if_neg (fun e => hne e.symm)]; exact h.tm z hz, fun j y hj => (by omega), hl⟩
set_option maxRecDepth 100000 in
set_option maxHeartbeats 8000000 in
theorem cuts12 (vk vt vc : Value) (K : List Ky) (T C : List Int) (W : World) (hK : KV W vk K) (hT : NV W vt T) (hC : NV W vc C) (okK : ∀ x ∈ K, KOk x) (okT : ∀ x ∈ T, J64 x) : Calls Try.prog 9 #[vk, vt, vc] W fun e W' => e = .returned (.bool true) ∧ Below W.heap.size W W' := by
  obtain ⟨a, n, cp, rfl, hn, _, _, hat⟩ := hK.at_
  obtain ⟨a', n', cp', rfl, hn', _, _, hat'⟩ := hT.at_
  obtain ⟨a2, n2, cp2, rfl, hn2, _, _, hat2⟩ := hC.at_
  have HAT := Lib.hid hat; have HAT' := Lib.hid hat'; have HAT2 := Lib.hid hat2
  have HOK := Lib.hid okK; have HOT := Lib.hid okT
  have HN := Lib.hid hn; have HN' := Lib.hid hn'; have HN2 := Lib.hid hn2
  clear hat hat' hat2 okK okT hn hn' hn2 hK hT hC
  by_cases h1 : 60 < n
  · have hI : (60 : Int) < (n : Int) := by omega
    go_enter Try.func9, Try.ntmps9
    go_wp2
    go_ret
    exact ⟨rfl, Below.refl _ _⟩
  by_cases h2 : n' < n
  · have hI : (n : Int) ≤ 60 := by omega
    have hI2 : (n' : Int) < (n : Int) := by omega
    go_enter Try.func9, Try.ntmps9
    go_wp2
    go_ret
    exact ⟨rfl, Below.refl _ _⟩
  by_cases h3 : 40 < n2
  · have hI : (n : Int) ≤ 60 := by omega
    have hI2 : (n : Int) ≤ (n' : Int) := by omega
    have hI3 : (40 : Int) < (n2 : Int) := by omega
    go_enter Try.func9, Try.ntmps9
    go_wp2
    go_ret
    exact ⟨rfl, Below.refl _ _⟩
  have hI : (n : Int) ≤ 60 := by omega
  have hI2 : (n : Int) ≤ (n' : Int) := by omega
  have hI3 : (n2 : Int) ≤ 40 := by omega
  have l1 : n ≤ 60 := by omega
  have l2 : n ≤ n' := by omega
  have l3 : n2 ≤ 40 := by omega
  clear h1 h2 h3
  obtain ⟨Z, hZ⟩ : ∃ Z, Z = K.zip T := ⟨_, rfl⟩
  have HZ := Lib.hid (show ∀ j k t, K[j]? = some k → T[j]? = some t → Z[j]? = some (k, t) from fun j k t h1 h2 => by rw [hZ, List.getElem?_zip_eq_some]; exact ⟨h1, h2⟩)
  have HZL := Lib.hid (show n = Z.length by rw [hZ, List.length_zip, ← HN.out, ← HN'.out]; omega)
  clear hZ
  go_enter Try.func9, Try.ntmps9
  go_wp2_with fail
  refine (anew W).mono ?_
  rintro e w1 ⟨ap, G1, rfl, h1, hb1, n1⟩
  have HI := Lib.hid (show CW W w1 ap G1 (Z.take 0) C 0 [] 0 from ⟨⟨h1, hb1, n1⟩, fun x hx => (by cases hx), fun j y hj => (by omega), by simp⟩)
  clear h1 hb1 n1
  go_wp2
  go_loopw [8] (fun iv wr => ∃ (t : Nat) (R : List Rc) (G : Nat → Prop), t ≤ n ∧ iv = .int .i64 t ∧ R.length ≤ t ∧ Hid (CW W wr ap G (Z.take t) C 0 R t)) (fun iv _ => n - (intOf iv).toNat)
  case atStart => exact ⟨0, [], G1, Nat.zero_le _, rfl, Nat.zero_le _, HI⟩
  case round =>
    clear HI
    obtain ⟨t, R, G, ht, rfl, hRt, HQ⟩ := hrel
    obtain ⟨w2, rfl⟩ : ∃ w2, w2 = wr := ⟨_, rfl⟩
    by_cases hlt : t < n
    · have hts : (t : Int) < (n : Int) := by omega
      have hts' : (t : Int) < (n' : Int) := by omega
      obtain ⟨x, hx⟩ := at_lt (l := K) (i := t) (by rw [← HN.out]; exact hlt)
      obtain ⟨y, hy⟩ := at_lt (l := T) (i := t) (by rw [← HN'.out]; omega)
      obtain ⟨b, off, rfl, hb, hcell⟩ := HAT.out t x hx
      obtain ⟨b', off', rfl, hb', hcell'⟩ := HAT'.out t y hy
      have HXO := Lib.hid (HOK.out x (mem_at hx))
      have HYO := Lib.hid (HOT.out y (mem_at hy))
      have e0 := (HQ.out.aw.cell (o := off + t * 3 + 0) hb).trans (hcell 0 _ rfl)
      have e1 := (HQ.out.aw.cell (o := off + t * 3 + 1) hb).trans (hcell 1 _ rfl)
      have e2 := (HQ.out.aw.cell (o := off + t * 3 + 2) hb).trans (hcell 2 _ rfl)
      have f0 := (HQ.out.aw.cell (o := off' + t * 1 + 0) hb').trans (hcell' 0 _ rfl)
      simp only [Nat.add_zero, Nat.mul_one] at e0 f0
      have hbw : b < w2.heap.size := Nat.lt_of_lt_of_le hb HQ.out.aw.bel.size
      have hbw' : b' < w2.heap.size := Nat.lt_of_lt_of_le hb' HQ.out.aw.bel.size
      have nb : ¬ G b := fun e => by have := HQ.out.aw.own b e; omega
      have nb' : ¬ G b' := fun e => by have := HQ.out.aw.own b' e; omega
      have HTK := Lib.hid (take_at (HZ.out t x y hx hy))
      clear hcell hcell' hx hy
      go_wp2
      refine Mix.regionC G (by kernel_rfl) ?_
      intro w3 hb3
      refine Mix.take_exC _ _ 0 rfl (by kernel_rfl) (by kernel_rfl) (by kernel_rfl) (by kernel_rfl) (fun K hK => ?_)
      go_simp
      first | (refine hK _ ?_; clear hK K) | (apply Exists.intro; refine ⟨fun x => ?_, hK _ ?_⟩; (fail); clear hK K)
      refine Mix.take_exC _ _ 1 rfl (by kernel_rfl) (by kernel_rfl) (by kernel_rfl) (by kernel_rfl) (fun K hK => ?_)
      go_simp
      first | (refine hK _ ?_; clear hK K) | (apply Exists.intro; refine ⟨fun x => ?_, hK _ ?_⟩; (fail); clear hK K)
      refine Mix.take_exC _ _ 2 rfl (by kernel_rfl) (by kernel_rfl) (by kernel_rfl) (by kernel_rfl) (fun K hK => ?_)
      go_simp
      first | (refine hK _ ?_; clear hK K) | (apply Exists.intro; refine ⟨fun x => ?_, hK _ ?_⟩; (fail); clear hK K)
      refine Mix.take_exC _ _ 3 rfl (by kernel_rfl) (by kernel_rfl) (by kernel_rfl) (by kernel_rfl) (fun K hK => ?_)
      go_simp
      first | (refine hK _ ?_; clear hK K) | (apply Exists.intro; refine ⟨fun x => ?_, hK _ ?_⟩; (fail); clear hK K)
      refine Mix.take_exC _ _ 4 rfl (by kernel_rfl) (by kernel_rfl) (by kernel_rfl) (by kernel_rfl) (fun K hK => ?_)
      go_simp
      first | (refine hK _ ?_; clear hK K) | (apply Exists.intro; refine ⟨fun x => ?_, hK _ ?_⟩; (fail); clear hK K)
      refine Mix.take_exC _ _ 5 rfl (by kernel_rfl) (by kernel_rfl) (by kernel_rfl) (by kernel_rfl) (fun K hK => ?_)
      go_simp
      first | (refine hK _ ?_; clear hK K) | (apply Exists.intro; refine ⟨fun x => ?_, hK _ ?_⟩; (fail); clear hK K)
      refine Mix.take_exC _ _ 6 rfl (by kernel_rfl) (by kernel_rfl) (by kernel_rfl) (by kernel_rfl) (fun K hK => ?_)
      go_simp
      first | (refine hK _ ?_; clear hK K) | (apply Exists.intro; refine ⟨fun x => ?_, hK _ ?_⟩; (fail); clear hK K)
      refine Mix.take_exC _ _ 7 rfl (by kernel_rfl) (by kernel_rfl) (by kernel_rfl) (by kernel_rfl) (fun K hK => ?_)
      go_simp
      first | (refine hK _ ?_; clear hK K) | (apply Exists.intro; refine ⟨fun x => ?_, hK _ ?_⟩; (fail); clear hK K)
      refine Mix.take_exC _ _ 8 rfl (by kernel_rfl) (by kernel_rfl) (by kernel_rfl) (by kernel_rfl) (fun K hK => ?_)
      go_simp
      first | (refine hK _ ?_; clear hK K) | (apply Exists.intro; refine ⟨fun x => ?_, hK _ ?_⟩; (fail); clear hK K)
      refine Mix.all (rs := [9]) (by kernel_rfl) (by simp) (.of_below _ hb3) ?_
      intro i4 hi4 w4 hb4 hC4
      simp only [List.mem_cons, List.not_mem_nil, or_false] at hi4
      subst hi4
      have HB4 := Lib.hid (bt hb3 hb4)
      clear hC4 hb3 hb4
      refine Mix.op rfl (by kernel_rfl) ?_
      go_simp
      refine (aset (HQ.out.aw.as_.below HB4.out) (by omega) HXO.out HYO.out).mono ?_
      rintro e w5 ⟨rfl, m5, G5, ha5, hc5, hn5⟩
      have hpl := pR_len R ⟨x, m5, y⟩
      have HC5 := Lib.hid ((Chg.of_below G HB4.out).same hc5)
      have hs4 := HB4.out.size
      have HW5 := Lib.hid (show CW W w5 ap G5 (Z.take (t + 1)) C 0 (pR R ⟨x, m5, y⟩) (t + 1) by
        rw [HTK.out]
        exact HQ.out.put ha5 HC5.out (fun k hk => (hn5 k hk).imp_right fun e => by omega) (by omega))
      have HPL := Lib.hid (show (pR R ⟨x, m5, y⟩).length ≤ t + 1 by omega)
      clear ha5 hc5 hn5 hpl hs4
      refine ⟨_, rfl, ?_⟩
      refine Mix.done (by kernel_rfl) HC5.out ?_
      intro w6 hb6
      have HW6 := Lib.hid (show CW W w6 ap G5 (Z.take (t + 1)) C 0 (pR R ⟨x, m5, y⟩) (t + 1) from ⟨HW5.out.aw.on hb6, HW5.out.tm, HW5.out.ct, HW5.out.len⟩)
      clear hb6 e0 e1 e2 f0 hbw hbw' nb nb'
      go_wp2
      go_roundw
      case rel => exact ⟨t + 1, _, G5, by omega, by go_num, HPL.out, HW6⟩
      case measure => simp [intOf]; omega
    · obtain rfl : n = t := by omega
      have HZT := Lib.hid (show Z.take n = Z by rw [HZL.out, List.take_length])
      have HQ2 := Lib.hid (show CW W w2 ap G Z C 0 R n by have := HQ.out; rw [HZT.out] at this; exact this)
      clear HQ
      go_wp2_with fail
      refine (aall HQ2.out.aw.as_).mono ?_
      rintro e w3 ⟨v3, rfl, hrs3, _, hc3⟩
      obtain ⟨a3, n3, cp3, rfl, hn3, _, _, _⟩ := hrs3.at_
      rw [List.length_map] at hn3
      subst hn3
      have HI := Lib.hid (show CW W w3 ap G Z C 0 R (n + 60 * 0) from ⟨HQ2.out.aw.on (hc3.below (Nat.le_refl _) fun _ h => h.elim), HQ2.out.tm, HQ2.out.ct, HQ2.out.len⟩)
      clear hrs3 hc3
      go_wp2
      go_loopw [9, 10, 11, 12, 13, 14, 15, 16, 17] (fun lv iv _ _ _ _ _ _ _ wr => ∃ (i : Nat) (R : List Rc) (G : Nat → Prop), i ≤ n2 ∧ iv = .int .i64 i ∧ lv = .int .i64 (R.length : Nat) ∧ Hid (CW W wr ap G Z C i R (n + 60 * i))) (fun _ iv _ _ _ _ _ _ _ _ => n2 - (intOf iv).toNat)
      case atStart => exact ⟨0, R, G, Nat.zero_le _, rfl, rfl, HI⟩
      case round =>
        clear HI HQ2 HZT hRt hlt
        obtain ⟨i, R, G, hi, rfl, rfl, HQ⟩ := hrel
        obtain ⟨w4, rfl⟩ : ∃ w4, w4 = wr := ⟨_, rfl⟩
        by_cases hlt : i < n2
        · have his : (i : Int) < (n2 : Int) := by omega
          obtain ⟨now, hx⟩ := at_lt (l := C) (i := i) (by rw [← HN2.out]; exact hlt)
          obtain ⟨b2, off2, rfl, hb2, hcell2⟩ := HAT2.out i now hx
          have g0 := (HQ.out.aw.cell (o := off2 + i * 1 + 0) hb2).trans (hcell2 0 _ rfl)
          simp only [Nat.add_zero, Nat.mul_one] at g0
          have hbw : b2 < w4.heap.size := Nat.lt_of_lt_of_le hb2 HQ.out.aw.bel.size
          have hRl := HQ.out.len
          have HX := Lib.hid hx
          clear hcell2 hx
          go_wp2_with fail
          refine (adue HQ.out.aw.as_ (by omega) now).mono ?_
          rintro e w5 ⟨v5, rfl, hrs5, hnw5, G5, ha5, hc5, hn5, hv5⟩
          obtain ⟨a5, n5, cp5, rfl, hn5', _, _, hat5⟩ := hrs5.at_
          rw [List.length_map] at hn5'
          have hdr := due_rest_len R now
          have HD5 := Lib.hid (show ∀ k x, (dueR R now)[k]? = some x → ∃ b off, a5 = some ⟨b, off, none⟩ ∧ b < w5.heap.size ∧ ∀ j u, (kenc x.key)[j]? = some u → w5.cell? ⟨b, off + k * 3 + j, none⟩ = some u from fun k x hx => hat5 k x.key (by rw [List.getElem?_map, hx]; rfl))
          have HN5 := Lib.hid hn5'
          have hrl : (R.length : Int) - n5 = ((restR R now).length : Nat) := by omega
          have hq : IntKind.i64.wrap ((R.length : Int) - n5) = ((restR R now).length : Nat) := by rw [IntWalk.i64_in _ (by omega)]; exact hrl
          have n5b : n5 ≤ 60 := by omega
          have HW5 := Lib.hid (show CW W w5 ap G5 Z C (i + 1) (restR R now) (n + 60 * (i + 1)) from ⟨⟨(HQ.out.aw.step ha5 hc5 hn5).as_.more (by omega) (by omega), (HQ.out.aw.step ha5 hc5 hn5).bel, (HQ.out.aw.step ha5 hc5 hn5).own⟩, fun x hx => HQ.out.tm x (List.mem_filter.1 hx).1, fun j y hj hy x hx => by
            obtain ⟨hx1, hx2⟩ := List.mem_filter.1 hx
            by_cases hji : j = i
            · subst hji
              rw [HX.out] at hy
              injection hy with hy
              subst hy
              simp at hx2; omega
            · exact HQ.out.ct j y (by omega) hy x hx1, by have := HQ.out.len; omega⟩)
          have HB2 := Lib.hid hb2
          clear ha5 hc5 hn5 hv5 hrs5 hnw5 hat5 hdr hrl g0 hbw hn5'
          go_wp2
          go_loopw [12, 13, 14, 15, 16, 17] (fun lv kv _ _ _ _ wr => ∃ (k : Nat) (lst : Int), k ≤ n5 ∧ kv = .int .i64 k ∧ lv = .int .i64 lst ∧ Hid (∀ x, 0 < k → (dueR R now)[k - 1]? = some x → lst = x.at_) ∧ Hid (Below w5.heap.size w5 wr)) (fun _ kv _ _ _ _ _ => n5 - (intOf kv).toNat)
          case atStart => exact ⟨0, 0, Nat.zero_le _, rfl, rfl, Lib.hid fun x h => by omega, Lib.hid (Below.refl _ _)⟩
          case round =>
            obtain ⟨k, lst, hk, rfl, rfl, HLS, HB⟩ := hrel
            obtain ⟨w6, rfl⟩ : ∃ w6, w6 = wr := ⟨_, rfl⟩
            clear hq
            by_cases hlk : k < n5
            · have hks : (k : Int) < (n5 : Int) := by omega
              obtain ⟨x, hx⟩ := at_lt (l := dueR R now) (i := k) (by rw [← HN5.out]; exact hlk)
              obtain ⟨hxR, hxn⟩ := List.mem_filter.1 (mem_at hx)
              have HXL := Lib.hid (HQ.out.tm x hxR)
              have HXN := Lib.hid (show x.at_ ≤ now by simpa using hxn)
              have HXC := Lib.hid (fun j y hj hy => HQ.out.ct j y hj hy x hxR)
              have HXX := Lib.hid hx
              obtain ⟨b5, off5, rfl, hb5, hcell5⟩ := HD5.out k x hx
              have HB5 := Lib.hid hb5
              have HCL := Lib.hid hcell5
              clear hxR hxn hx hcell5
              go_wp2
              go_loopw [14, 15, 16] (fun tv fv jv wr => ∃ (j : Nat), j ≤ n ∧ jv = .int .i64 j ∧ tv = .int .i64 ((lastT (Z.take j) x.key).getD 0) ∧ fv = .bool (lastT (Z.take j) x.key).isSome ∧ Hid (Below w5.heap.size w5 wr)) (fun _ _ jv _ => n - (intOf jv).toNat)
              case atStart => exact ⟨0, Nat.zero_le _, rfl, rfl, rfl, HB⟩
              case round =>
                obtain ⟨j, hj, rfl, rfl, rfl, HB7⟩ := hrel
                obtain ⟨w7, rfl⟩ : ∃ w7, w7 = wr := ⟨_, rfl⟩
                by_cases hlj : j < n
                · have hjs : (j : Int) < (n : Int) := by omega
                  have hjs' : (j : Int) < (n' : Int) := by omega
                  obtain ⟨q, hqx⟩ := at_lt (l := K) (i := j) (by rw [← HN.out]; exact hlj)
                  obtain ⟨y, hy⟩ := at_lt (l := T) (i := j) (by rw [← HN'.out]; omega)
                  obtain ⟨b, off, rfl, hb, hcell⟩ := HAT.out j q hqx
                  obtain ⟨b', off', rfl, hb', hcell'⟩ := HAT'.out j y hy
                  have hWb : Below W.heap.size W w7 := bt HW5.out.aw.bel HB7.out
                  have e0 := (hWb.cell (p := ⟨b, off + j * 3 + 0, none⟩) hb).trans (hcell 0 _ rfl)
                  have e1 := (hWb.cell (p := ⟨b, off + j * 3 + 1, none⟩) hb).trans (hcell 1 _ rfl)
                  have e2 := (hWb.cell (p := ⟨b, off + j * 3 + 2, none⟩) hb).trans (hcell 2 _ rfl)
                  have f0 := (hWb.cell (p := ⟨b', off' + j * 1 + 0, none⟩) hb').trans (hcell' 0 _ rfl)
                  have d0 := (HB7.out.cell (p := ⟨b5, off5 + k * 3 + 0, none⟩) HB5.out).trans (HCL.out 0 _ rfl)
                  have d1 := (HB7.out.cell (p := ⟨b5, off5 + k * 3 + 1, none⟩) HB5.out).trans (HCL.out 1 _ rfl)
                  have d2 := (HB7.out.cell (p := ⟨b5, off5 + k * 3 + 2, none⟩) HB5.out).trans (HCL.out 2 _ rfl)
                  simp only [Nat.add_zero, Nat.mul_one] at e0 f0 d0
                  have hbw : b < w7.heap.size := Nat.lt_of_lt_of_le hb hWb.size
                  have hbw' : b' < w7.heap.size := Nat.lt_of_lt_of_le hb' hWb.size
                  have hbw5 : b5 < w7.heap.size := Nat.lt_of_lt_of_le HB5.out HB7.out.size
                  have HTK := Lib.hid (take_at (HZ.out j q y hqx hy))
                  clear hcell hcell' hqx hy hWb
                  by_cases hk0 : q = x.key
                  · subst hk0
                    have HLT := Lib.hid (show lastT (Z.take (j + 1)) x.key = some y by rw [HTK.out, lastT_snoc, if_pos rfl])
                    go_wp2
                    refine wp_region_pure (by kernel_rfl) (by kernel_rfl) ?_
                    repeat (first | go_big_quiet_step ((fail)) | (quiet_step ((fail))))
                    refine wpQuiet_nil ?_
                    rintro w8 ⟨x8, hx8⟩
                    have hb8 := ext_below _ x8
                    rw [← hx8] at hb8
                    clear hx8 x8
                    have hs8 : w7.heap.size + 0 ≤ w8.heap.size := (by have h := hb8.size; first | omega | (simp at h; omega))
                    obtain ⟨hc8, hf8, hl8⟩ := bcell hb8
                    clear hl8
                    have HB8 := Lib.hid (bt HB7.out hb8)
                    have f8 := (hb8.cell (p := ⟨b', off' + j, none⟩) hbw').trans f0
                    have hbw8 : b' < w8.heap.size := Nat.lt_of_lt_of_le hbw' hb8.size
                    clear hb8 hc8 hf8
                    go_wp2
                    go_roundw
                    case rel => exact ⟨j + 1, by omega, by go_num, by rw [HLT.out]; rfl, by rw [HLT.out]; rfl, HB8⟩
                    case measure => simp [intOf]; omega
                  · have HNE := Lib.hid hk0
                    by_cases h1 : q.1 = x.key.1
                    · have g1 : (q.1 == x.key.1) = true := by simpa using h1
                      by_cases h2 : q.2.1 = x.key.2.1
                      · have g2 : (q.2.1 == x.key.2.1) = true := by simpa using h2
                        have g3 : (q.2.2 == x.key.2.2) = false := by simpa using fun h3 => hk0 (ky_ext h1 h2 h3)
                        clear hk0 h1 h2
                        go_wp2
                        refine wp_region_pure (by kernel_rfl) (by kernel_rfl) ?_
                        repeat (first | go_big_quiet_step ((fail)) | (quiet_step ((fail))))
                        refine wpQuiet_nil ?_
                        rintro w8 ⟨x8, hx8⟩
                        have hb8 := ext_below _ x8
                        rw [← hx8] at hb8
                        clear hx8 x8
                        have hs8 : w7.heap.size + 0 ≤ w8.heap.size := (by have h := hb8.size; first | omega | (simp at h; omega))
                        obtain ⟨hc8, hf8, hl8⟩ := bcell hb8
                        clear hl8
                        have HB8 := Lib.hid (bt HB7.out hb8)
                        clear hb8 hc8 hf8
                        have HLT := Lib.hid (show lastT (Z.take (j + 1)) x.key = lastT (Z.take j) x.key by rw [HTK.out, lastT_snoc, if_neg HNE.out])
                        go_wp2
                        go_roundw
                        case rel => exact ⟨j + 1, by omega, by go_num, by rw [HLT.out], by rw [HLT.out], HB8⟩
                        case measure => simp [intOf]; omega
                      · have g2 : (q.2.1 == x.key.2.1) = false := by simpa using h2
                        clear hk0 h1 h2
                        go_wp2
                        refine wp_region_pure (by kernel_rfl) (by kernel_rfl) ?_
                        repeat (first | go_big_quiet_step ((fail)) | (quiet_step ((fail))))
                        refine wpQuiet_nil ?_
                        rintro w8 ⟨x8, hx8⟩
                        have hb8 := ext_below _ x8
                        rw [← hx8] at hb8
                        clear hx8 x8
                        have hs8 : w7.heap.size + 0 ≤ w8.heap.size := (by have h := hb8.size; first | omega | (simp at h; omega))
                        obtain ⟨hc8, hf8, hl8⟩ := bcell hb8
                        clear hl8
                        have HB8 := Lib.hid (bt HB7.out hb8)
                        clear hb8 hc8 hf8
                        have HLT := Lib.hid (show lastT (Z.take (j + 1)) x.key = lastT (Z.take j) x.key by rw [HTK.out, lastT_snoc, if_neg HNE.out])
                        go_wp2
                        go_roundw
                        case rel => exact ⟨j + 1, by omega, by go_num, by rw [HLT.out], by rw [HLT.out], HB8⟩
                        case measure => simp [intOf]; omega
                    · have g1 : (q.1 == x.key.1) = false := by simpa using h1
                      clear hk0 h1
                      go_wp2
                      refine wp_region_pure (by kernel_rfl) (by kernel_rfl) ?_
                      repeat (first | go_big_quiet_step ((fail)) | (quiet_step ((fail))))
                      refine wpQuiet_nil ?_
                      rintro w8 ⟨x8, hx8⟩
                      have hb8 := ext_below _ x8
                      rw [← hx8] at hb8
                      clear hx8 x8
                      have hs8 : w7.heap.size + 0 ≤ w8.heap.size := (by have h := hb8.size; first | omega | (simp at h; omega))
                      obtain ⟨hc8, hf8, hl8⟩ := bcell hb8
                      clear hl8
                      have HB8 := Lib.hid (bt HB7.out hb8)
                      clear hb8 hc8 hf8
                      have HLT := Lib.hid (show lastT (Z.take (j + 1)) x.key = lastT (Z.take j) x.key by rw [HTK.out, lastT_snoc, if_neg HNE.out])
                      go_wp2
                      go_roundw
                      case rel => exact ⟨j + 1, by omega, by go_num, by rw [HLT.out], by rw [HLT.out], HB8⟩
                      case measure => simp [intOf]; omega
                · obtain rfl : n = j := by omega
                  have hlz : lastT (Z.take n) x.key = some x.at_ := by rw [HZL.out, List.take_length]; exact HXL.out
                  rw [hlz]
                  have gc := ((bt HW5.out.aw.bel HB7.out).cell (p := ⟨b2, off2 + i * 1 + 0, none⟩) HB2.out).trans (by
                    obtain ⟨b, off, he, _, hcell⟩ := HAT2.out i now HX.out
                    injection he with he
                    injection he with he1 he2
                    subst he1 he2
                    exact hcell 0 _ rfl)
                  simp only [Nat.add_zero, Nat.mul_one] at gc
                  have hbwc : b2 < w7.heap.size := Nat.lt_of_lt_of_le HB2.out (bt HW5.out.aw.bel HB7.out).size
                  have hd1 : decide (now < x.at_) = false := by have := HXN.out; simp; omega
                  clear hlz hlj
                  by_cases hk0 : k = 0
                  · have htb : decide ((0 : Int) < (k : Int)) = false := by simp; omega
                    have htc : decide (0 < k) = false := by simp; omega
                    clear hk0
                    go_wp2
                    clear gc
                    go_loopw [17] (fun jv wr => ∃ (j : Nat), j ≤ i ∧ jv = .int .i64 j ∧ Hid (Below w5.heap.size w5 wr)) (fun jv _ => i - (intOf jv).toNat)
                    case atStart => exact ⟨0, Nat.zero_le _, rfl, HB7⟩
                    case round =>
                      obtain ⟨j, hj, rfl, HB8⟩ := hrel
                      obtain ⟨w8, rfl⟩ : ∃ w8, w8 = wr := ⟨_, rfl⟩
                      by_cases hlj : j < i
                      · have hjs : (j : Int) < (i : Int) := by omega
                        have hjs2 : (j : Int) < (n2 : Int) := by omega
                        obtain ⟨y, hy⟩ := at_lt (l := C) (i := j) (by rw [← HN2.out]; omega)
                        obtain ⟨b, off, he, hb, hcell⟩ := HAT2.out j y hy
                        injection he with he
                        injection he with he1 he2
                        subst he1 he2
                        have gj := ((bt HW5.out.aw.bel HB8.out).cell (p := ⟨b2, off2 + j * 1 + 0, none⟩) hb).trans (hcell 0 _ rfl)
                        simp only [Nat.add_zero, Nat.mul_one] at gj
                        have hbwj : b2 < w8.heap.size := Nat.lt_of_lt_of_le hb (bt HW5.out.aw.bel HB8.out).size
                        have hlt' : decide (x.at_ ≤ y) = false := by have := HXC.out j y hlj hy; simp; omega
                        clear hcell hy hlj
                        go_wp2
                        go_roundw
                        case rel => exact ⟨j + 1, by omega, by go_num, HB8⟩
                        case measure => simp [intOf]; omega
                      · obtain rfl : i = j := by omega
                        go_wp2
                        go_roundw
                        case rel => exact ⟨k + 1, x.at_, by omega, by go_num, rfl, Lib.hid (fun x' _ hx' => by rw [show k + 1 - 1 = k from rfl, HXX.out] at hx'; injection hx' with hx'; rw [hx']), HB8⟩
                        case measure => simp [intOf]; omega
                  · obtain ⟨p, hp⟩ : ∃ p : Nat, k = p + 1 := ⟨k - 1, by omega⟩
                    obtain ⟨z, hz⟩ := at_lt (l := dueR R now) (i := p) (by rw [← HN5.out]; omega)
                    have hzl : lst = z.at_ := HLS.out z (by omega) (by rw [show k - 1 = p by omega]; exact hz)
                    have hzx : z.at_ ≤ x.at_ := due_up HQ.out.aw.as_.ri.srt now hz (by rw [← hp]; exact HXX.out)
                    have htb : decide ((0 : Int) < (k : Int)) = true := by simp; omega
                    have htc : decide (0 < k) = true := by simp; omega
                    have hd2 : decide (x.at_ < lst) = false := by rw [hzl]; simp; omega
                    clear hk0 hp hz hzl hzx
                    go_wp2
                    clear gc
                    go_loopw [17] (fun jv wr => ∃ (j : Nat), j ≤ i ∧ jv = .int .i64 j ∧ Hid (Below w5.heap.size w5 wr)) (fun jv _ => i - (intOf jv).toNat)
                    case atStart => exact ⟨0, Nat.zero_le _, rfl, HB7⟩
                    case round =>
                      obtain ⟨j, hj, rfl, HB8⟩ := hrel
                      obtain ⟨w8, rfl⟩ : ∃ w8, w8 = wr := ⟨_, rfl⟩
                      by_cases hlj : j < i
                      · have hjs : (j : Int) < (i : Int) := by omega
                        have hjs2 : (j : Int) < (n2 : Int) := by omega
                        obtain ⟨y, hy⟩ := at_lt (l := C) (i := j) (by rw [← HN2.out]; omega)
                        obtain ⟨b, off, he, hb, hcell⟩ := HAT2.out j y hy
                        injection he with he
                        injection he with he1 he2
                        subst he1 he2
                        have gj := ((bt HW5.out.aw.bel HB8.out).cell (p := ⟨b2, off2 + j * 1 + 0, none⟩) hb).trans (hcell 0 _ rfl)
                        simp only [Nat.add_zero, Nat.mul_one] at gj
                        have hbwj : b2 < w8.heap.size := Nat.lt_of_lt_of_le hb (bt HW5.out.aw.bel HB8.out).size
                        have hlt' : decide (x.at_ ≤ y) = false := by have := HXC.out j y hlj hy; simp; omega
                        clear hcell hy hlj
                        go_wp2
                        go_roundw
                        case rel => exact ⟨j + 1, by omega, by go_num, HB8⟩
                        case measure => simp [intOf]; omega
                      · obtain rfl : i = j := by omega
                        go_wp2
                        go_roundw
                        case rel => exact ⟨k + 1, x.at_, by omega, by go_num, rfl, Lib.hid (fun x' _ hx' => by rw [show k + 1 - 1 = k from rfl, HXX.out] at hx'; injection hx' with hx'; rw [hx']), HB8⟩
                        case measure => simp [intOf]; omega
            · obtain rfl : n5 = k := by omega
              go_wp2_with fail
              refine (aall (HW5.out.aw.as_.below HB.out)).mono ?_
              rintro e w7 ⟨v7, rfl, hrs7, _, hc7⟩
              obtain ⟨a7, n7, cp7, rfl, hn7, _, _, _⟩ := hrs7.at_
              rw [List.length_map] at hn7
              subst hn7
              have HW7 := Lib.hid (show CW W w7 ap G5 Z C (i + 1) (restR R now) (n + 60 * (i + 1)) from ⟨(HW5.out.aw.on HB.out).on (hc7.below (Nat.le_refl _) fun _ h => h.elim), HW5.out.tm, HW5.out.ct, HW5.out.len⟩)
              clear hrs7 hc7 hlk
              go_wp2
              go_roundw
              case rel => exact ⟨i + 1, _, G5, by omega, by go_num, rfl, HW7⟩
              case measure => simp [intOf]; omega
        · obtain rfl : n2 = i := by omega
          go_wp2_with fail
          refine (works12 _).mono ?_
          rintro e w5 ⟨rfl, hb5⟩
          have HB5 := Lib.hid (bt HQ.out.aw.bel hb5)
          clear hb5
          go_wp2
          go_ret
          exact ⟨rfl, HB5.out⟩
theorem c1n12 : Try.prog.cellsOf 2 = 1 := by kernel_rfl
open Go.ChangeShapes Go.WideShapes Go.ChangeAt Go.Joins Go.Deep in
set_option maxRecDepth 100000 in
theorem open_times {H : Type} {enc : TypeId × Value → H} {W : World} {base : Nat} {sp : Nat → Bool} {held : Bool} {r : Reach} {b0 : Nat} {v : Value} {d : DataW H} {p : List MemPlace}
    (hv : Value.okWide Try.prog W r b0 63 v) (h : DataW.Trod enc Try.prog W base sp held 63 v d p) : ∃ l : List Int, NV W v l ∧ (∀ x ∈ l, J64 x) ∧ ∀ b, v.ownBlock = some b → b < W.heap.size := by
  refine open_rs (P := Try.prog) (k := 1) (enc := nenc) (ok := J64) Try.underlying63 c1n12 (fun _ => rfl) (fun m cs x hl hf => ?_) hv h
  match cs, hl with
  | [c0], _ =>
    cases m with
    | zero => simp [DataW.trod] at hf
    | succ n =>
      obtain ⟨a, ea, _, wa⟩ := DataW.trod_int Try.underlying2 hf
      simp at ea
      subst ea
      exact ⟨a, rfl, wf64 wa⟩
namespace AlarmCuts
open Go.ChangeShapes Go.WideShapes Go.ChangeAt Go.RowKit Go.Joins
theorem own : ownKnob Try.prog.godebug = none := by kernel_rfl
theorem laidOut : laidOutB Try.prog = true := by kernel_rfl
set_option maxRecDepth 100000 in
theorem lifted (os : Os) (started : os.Started) (H : Type) (enc : TypeId × Value → H) :
    ReturnsInHanded {} Try.checked os 9 .any (Rows.alarmCutsSpec.pre6 enc Try.prog Try.f9 Rows.alarmCutsRow.domain false) (Rows.alarmCutsSpec.post enc Try.prog Try.f9 false true false false) := by
  refine returnsInHanded_of_change (C := Try.checked) own started (by kernel_rfl) Try.func9
    (ChangeSpec.witness6 (enc := enc) (C := Try.checked) false ⟨#[], #[.slice none 0 0, .slice none 0 0, .slice none 0 0], []⟩ 8 (by kernel_rfl) (by kernel_rfl) (by kernel_rfl) (by kernel_rfl)) ?_
  intro W base args ds gs before hval0 hW hcnd _
  have hval : ∀ (j : Nat) t v, Try.f9.params[j]? = some t → args[j]? = some v → Value.okWide Try.prog W .any base t v := hval0
  have hW' := hW
  obtain ⟨p, q, hA0, hV, rfl, hfz, hnd⟩ := hW
  have hA : DataW.TrodAll enc Try.prog W 0 (fun _ => true) true Try.f9.params.toList args.toList ds p := hA0
  rw [Try.params9] at hA hval
  obtain ⟨v0, vs0, d0, ds0, p0, q0, hargs, rfl, rfl, h0, r0⟩ := trodAll_cons hA
  obtain ⟨v1, vs1, d1, ds1, p1, q1, rfl, rfl, rfl, h1, r1⟩ := trodAll_cons r0
  obtain ⟨v2, vs2, d2, ds2, p2, q2, rfl, rfl, rfl, h2, r2⟩ := trodAll_cons r1
  obtain ⟨rfl, rfl, rfl⟩ := trodAll_nil r2
  obtain rfl : args = #[v0, v1, v2] := by cases args; simp_all
  obtain ⟨rfl, rfl⟩ := trodVars_none hV
  have k0 := h0
  have lt0 : ∀ x ∈ p0, x.block < W.heap.size := by obtain ⟨m, hm⟩ := k0; exact DataW.trod_lt m _ _ _ hm
  have k1 := h1
  have lt1 : ∀ x ∈ p1, x.block < W.heap.size := by obtain ⟨m, hm⟩ := k1; exact DataW.trod_lt m _ _ _ hm
  have k2 := h2
  have lt2 : ∀ x ∈ p2, x.block < W.heap.size := by obtain ⟨m, hm⟩ := k2; exact DataW.trod_lt m _ _ _ hm
  obtain ⟨la, oA, iA, _⟩ := open_keys (hval 0 87 v0 rfl rfl) k0
  obtain ⟨lb, oB, iB, _⟩ := open_times (hval 1 63 v1 rfl rfl) k1
  obtain ⟨lc, oC, _, _⟩ := open_times (hval 2 63 v2 rfl rfl) k2
  clear hA0 hval0
  refine (cuts12 v0 v1 v2 la lb lc W oA oB oC iA iB).mono fun e W' ⟨he, bel⟩ => ?_
  subst he
  exact ⟨_, rfl, _, _, _, [], _, [], hW', trodAll_mk1 (shut_bool Try.underlying4 _), (trodAll_cons_mk (Below.trod laidOut (by kernel_rfl) (of_decide_eq_true (by kernel_rfl)) k0 bel lt0) (trodAll_cons_mk (Below.trod laidOut (by kernel_rfl) (of_decide_eq_true (by kernel_rfl)) k1 bel lt1) (trodAll_cons_mk (Below.trod laidOut (by kernel_rfl) (of_decide_eq_true (by kernel_rfl)) k2 bel lt2) trodAll_mk0))), rfl, bel.frame _, fun h => by cases h⟩
theorem over : Rows.alarmCutsRow.holds Try.pinned (OpenSpec.ofChange Rows.alarmCutsSpec) :=
  OpenClaim.holds_of_wide 9 Try.f9 rfl rfl rfl rfl rfl rfl rfl ⟨rfl, rfl, rfl, rfl, rfl⟩ rfl rfl rfl rfl rfl (by kernel_rfl) Try.func9 (by kernel_rfl)
    (of_decide_eq_true (by kernel_rfl)) (by unfold Func.isWrapper; first | (rw [if_pos (by decide +kernel)]; kernel_rfl) | (rw [if_neg (by decide +kernel)]; exact ⟨rfl, rfl⟩))
    (fun os started H enc _ => lifted os started H enc)
theorem proved : Rows.AlarmCutsSaid := over
end AlarmCuts
end Go.Proofs.Ytajcelmnblncaaa

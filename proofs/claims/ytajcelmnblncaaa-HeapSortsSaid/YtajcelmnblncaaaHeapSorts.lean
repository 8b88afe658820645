/- For any keys and times the statement HeapSorts returns true. Condition: none. -/
import Derived.Test.YtajcelmnblncaaaHeapP
import Derived.Test.YtajcelmnblncaaaHeapSm
namespace Go.Proofs.Ytajcelmnblncaaa
open Go.RowKit Go.Maps
attribute [local go_sem] ext_cell ext_frozen extC_cell extC_frozen Mix.calmUpon Mix.mUpon
/-- Where the puts stand. -/
structure SP (W wr : World) (hp : Nat) (K T : List Int) (t : Nat) (F : Nat → Prop) (s : Int) : Prop where
  hl : HL wr hp F (lsp K T t) s
  bel : Below W.heap.size W wr
  own : ∀ k, F k → W.heap.size ≤ k
  s0 : 0 ≤ s
  s1 : s ≤ t * 6000
/-- Where the pops stand: D is popped, R is what is there. -/
structure SR (W wr : World) (hp : Nat) (l D R : List It) (was last k at_ : Int) (ok : Bool) (F : Nat → Prop) (s : Int) : Prop where
  hl : HL wr hp F R.tail s
  bel : Below W.heap.size W wr
  own : ∀ k, F k → W.heap.size ≤ k
  s0 : 0 ≤ s
  s1 : s ≤ 2000000 + D.length * 6000
  dec : l = D ++ R
  pk : PK R k at_ ok
  lst : D = [] ∨ ∃ D', D = D' ++ [(was, last)]
def boolOf : Value → Nat | .bool true => 1 | _ => 0
theorem SL.mid {D r : List It} {q p : It} (h : SL (D ++ [q] ++ p :: r)) : Ah q p := by
  unfold SL at h
  rw [List.append_assoc] at h
  have := (List.pairwise_append.1 h).2.1
  exact (List.pairwise_cons.1 this).1 p List.mem_cons_self
theorem hpop {wr : World} {hp : Nat} {F : Nat → Prop} {L : List It} {s : Int} (h : HL wr hp F L s) (hs0 : 0 ≤ s) (hs1 : s ≤ 1000000000000) (hn : L.length < 90000) :
    Calls Try.prog 39 #[ptr hp] wr fun e w' => ∃ k t ok, PK L k t ok ∧ e = .returned (.tuple #[.int .i64 k, .int .i64 t, .bool ok]) ∧ HR wr w' hp F L.tail s 34 := by
  cases L with
  | nil => exact (pop_nil h).mono fun e w' ⟨he, F', d, a, b, c, d'⟩ => ⟨0, 0, false, .inl ⟨rfl, rfl⟩, he, F', d, a, b, c, by omega⟩
  | cons p r => exact (pop_cons h hs0 hs1).mono fun e w' ⟨he, F', d, a, b, c, d'⟩ => ⟨p.1, p.2, true, .inr ⟨p, r, rfl, rfl, rfl, rfl⟩, he, F', d, a, b, c, by
      have := lg_small (n := r.length + 1) (by simp at hn; omega); omega⟩
set_option maxRecDepth 100000 in
set_option maxHeartbeats 4000000 in
theorem sorts11 (vk vt : Value) (K T : List Int) (W : World) (hK : NV W vk K) (hT : NV W vt T) (hok : (∀ x ∈ K, J64 x) ∧ ∀ x ∈ T, J64 x) : Calls Try.prog 6 #[vk, vt] W fun e w' => e = .returned (.bool true) ∧ Below W.heap.size W w' := by
  obtain ⟨a, n, cap, rfl, hn, _, _, hat⟩ := hK.at_
  obtain ⟨a', n', cap', rfl, hn', _, _, hat'⟩ := hT.at_
  by_cases hbig : 300 < n
  · have hbI : (300 : Int) < (n : Int) := by omega
    clear hat hat' hK hT hok hn hn'
    go_enter Try.func6, Try.ntmps6
    go_wp2
    go_ret
    exact ⟨rfl, Below.refl _ _⟩
  · have hbI : (n : Int) ≤ 300 := by omega
    by_cases hless : n' < n
    · have hlI : (n' : Int) < (n : Int) := by omega
      clear hat hat' hK hT hok hn hn' hbig
      go_enter Try.func6, Try.ntmps6
      go_wp2
      go_ret
      exact ⟨rfl, Below.refl _ _⟩
    · have hlI : (n : Int) ≤ (n' : Int) := by omega
      have hnb : n ≤ 300 := by omega
      have hnn : n ≤ n' := by omega
      have HA := Lib.hid hat; have HA' := Lib.hid hat'; have HOK := Lib.hid hok; have HN := Lib.hid hn; have HN' := Lib.hid hn'
      clear hat hat' hK hT hok hn hn' hbig hless
      go_enter Try.func6, Try.ntmps6
      go_wp2_with fail
      refine (hnew W).mono ?_
      rintro e w1 ⟨F1, rfl, h1, hb1, n1⟩
      have HI := Lib.hid (show SP W w1 (W.heap.size + 1) K T 0 F1 0 from ⟨⟨List.Pairwise.nil, h1⟩, hb1, n1, by omega, by omega⟩)
      clear h1 hb1 n1
      generalize hhp : W.heap.size + 1 = hp at *
      clear hhp
      go_wp2
      go_loopw [6] (fun iv wr => ∃ (t : Nat) (F : Nat → Prop) (s : Int), t ≤ n ∧ iv = .int .i64 t ∧ Hid (SP W wr hp K T t F s)) (fun iv _ => n - (intOf iv).toNat)
      case atStart => exact ⟨0, F1, 0, Nat.zero_le _, rfl, HI⟩
      case round =>
        clear HI
        obtain ⟨t, F, s, ht, rfl, HQ⟩ := hrel
        obtain ⟨w2, rfl⟩ : ∃ w2, w2 = wr := ⟨_, rfl⟩
        by_cases hlt : t < n
        · have hts : (t : Int) < (n : Int) := by omega
          have hts' : (t : Int) < (n' : Int) := by omega
          obtain ⟨x, hx⟩ := at_lt (l := K) (i := t) (by rw [← HN.out]; exact hlt)
          obtain ⟨y, hy⟩ := at_lt (l := T) (i := t) (by rw [← HN'.out]; omega)
          obtain ⟨b, off, rfl, hb, hcell⟩ := HA.out t x hx
          obtain ⟨b', off', rfl, hb', hcell'⟩ := HA'.out t y hy
          have e0 := (HQ.out.bel.cell (p := ⟨b, off + t * 1, none⟩) hb).trans (hcell 0 _ rfl)
          have e1 := (HQ.out.bel.cell (p := ⟨b', off' + t * 1, none⟩) hb').trans (hcell' 0 _ rfl)
          simp only [Nat.mul_one] at e0 e1
          have hS := HQ.out.bel.size
          have hbw : b < w2.heap.size := by omega
          have hbw' : b' < w2.heap.size := by omega
          have hbF : ¬ F b := fun e => by have := HQ.out.own b e; omega
          have hbF' : ¬ F b' := fun e => by have := HQ.out.own b' e; omega
          have HX := Lib.hid (show lput (lsp K T t) (x, y) = lsp K T (t + 1) by rw [lsp, gi_at hx, gi_at hy])
          have jx := HOK.out.1 x (mem_at hx)
          have jy := HOK.out.2 y (mem_at hy)
          have hln := lsp_len K T t
          have hs0 := HQ.out.s0
          have hs1 := HQ.out.s1
          clear hcell hcell' hx hy
          go_wp2_with fail
          refine Mix.regionC F (by kernel_rfl) ?_
          intro w3 hb3
          refine Mix.take_exC _ _ 0 rfl (by kernel_rfl) (by kernel_rfl) (by kernel_rfl) (by kernel_rfl) (fun K hK => ?_)
          go_simp
          first | (refine hK _ ?_; clear hK K) | (apply Exists.intro; refine ⟨fun x => ?_, hK _ ?_⟩; (fail); clear hK K)
          refine Mix.take_exC _ _ 1 rfl (by kernel_rfl) (by kernel_rfl) (by kernel_rfl) (by kernel_rfl) (fun K hK => ?_)
          go_simp
          first | (refine hK _ ?_; clear hK K) | (apply Exists.intro; refine ⟨fun x => ?_, hK _ ?_⟩; (fail); clear hK K)
          refine Mix.take_exC _ _ 2 rfl (by kernel_rfl) (by kernel_rfl) (by kernel_rfl) (by kernel_rfl) (fun K hK => ?_)
          go_simp
          first | (refine hK _ ?_; clear hK K) | (apply Exists.intro; refine ⟨fun x => ?_, hK _ ?_⟩; (fail); clear hK K)
          refine Mix.take_exC _ _ 3 rfl (by kernel_rfl) (by kernel_rfl) (by kernel_rfl) (by kernel_rfl) (fun K hK => ?_)
          go_simp
          first | (refine hK _ ?_; clear hK K) | (apply Exists.intro; refine ⟨fun x => ?_, hK _ ?_⟩; (fail); clear hK K)
          refine Mix.take_exC _ _ 4 rfl (by kernel_rfl) (by kernel_rfl) (by kernel_rfl) (by kernel_rfl) (fun K hK => ?_)
          go_simp
          first | (refine hK _ ?_; clear hK K) | (apply Exists.intro; refine ⟨fun x => ?_, hK _ ?_⟩; (fail); clear hK K)
          refine Mix.take_exC _ _ 5 rfl (by kernel_rfl) (by kernel_rfl) (by kernel_rfl) (by kernel_rfl) (fun K hK => ?_)
          go_simp
          first | (refine hK _ ?_; clear hK K) | (apply Exists.intro; refine ⟨fun x => ?_, hK _ ?_⟩; (fail); clear hK K)
          refine Mix.take_exC _ _ 6 rfl (by kernel_rfl) (by kernel_rfl) (by kernel_rfl) (by kernel_rfl) (fun K hK => ?_)
          go_simp
          first | (refine hK _ ?_; clear hK K) | (apply Exists.intro; refine ⟨fun x => ?_, hK _ ?_⟩; (fail); clear hK K)
          refine Mix.take_exC _ _ 7 rfl (by kernel_rfl) (by kernel_rfl) (by kernel_rfl) (by kernel_rfl) (fun K hK => ?_)
          go_simp
          first | (refine hK _ ?_; clear hK K) | (apply Exists.intro; refine ⟨fun x => ?_, hK _ ?_⟩; (fail); clear hK K)
          refine Mix.take_exC _ _ 8 rfl (by kernel_rfl) (by kernel_rfl) (by kernel_rfl) (by kernel_rfl) (fun K hK => ?_)
          go_simp
          first | (refine hK _ ?_; clear hK K) | (apply Exists.intro; refine ⟨fun x => ?_, hK _ ?_⟩; (fail); clear hK K)
          refine Mix.all (rs := [9]) (by kernel_rfl) (by simp) (.of_below _ hb3) ?_
          intro i4 hi4 w4 hb4 hC4
          simp only [List.mem_cons, List.not_mem_nil, or_false] at hi4
          subst hi4
          have HB4 := Lib.hid (bt hb3 hb4)
          clear hC4 hb3 hb4
          refine Mix.op rfl (by kernel_rfl) ?_
          go_simp
          refine (hput (HQ.out.hl.below HB4.out) x y jx jy (by omega) hs0 (by omega)).mono ?_
          rintro e w5 ⟨rfl, F5, d, h5, c5, n5, l5⟩
          refine ⟨_, rfl, ?_⟩
          rw [HX.out] at h5 l5
          have hl5 := lsp_len K T (t + 1)
          have hd := Nat.le_trans l5 (lg_small (n := (lsp K T (t + 1)).length) (by omega))
          have HI := Lib.hid (show SP W w5 hp K T (t + 1) F5 (s + d) from
            ⟨h5, bt HQ.out.bel HB4.out |>.trans (c5.below (Nat.le_trans hS HB4.out.size) HQ.out.own), fun k hk => by
              rcases n5 k hk with e | e
              · exact HQ.out.own k e
              · have := HB4.out.size; omega, by omega, by omega⟩)
          have HC := Lib.hid ((Chg.of_below F HB4.out).same c5)
          clear h5 c5 n5 l5 hl5 hd
          refine Mix.done (by kernel_rfl) HC.out ?_
          intro w6 hb6
          have HI6 := Lib.hid (show SP W w6 hp K T (t + 1) F5 (s + d) from ⟨HI.out.hl.below hb6, bt HI.out.bel hb6, HI.out.own, HI.out.s0, HI.out.s1⟩)
          clear HI hb6 e0 e1
          go_wp2
          go_roundw
          case rel => exact ⟨t + 1, F5, s + d, by omega, by go_num, HI6⟩
          case measure => simp [intOf]; omega
        · obtain rfl : n = t := by omega
          have hln := lsp_len K T n
          have hs0 := HQ.out.s0
          have hs1 := HQ.out.s1
          go_wp2_with fail
          refine (hpop HQ.out.hl hs0 (by omega) (by omega)).mono ?_
          rintro e w3 ⟨k, at_, ok, hpk, rfl, F3, d, h3, c3, n3, l3⟩
          have HSL := Lib.hid (sl_lsp K T n)
          have HCN := Lib.hid (lsp_cnt K T n)
          have HI := Lib.hid (show SR W w3 hp (lsp K T n) [] (lsp K T n) 0 0 k at_ ok F3 (s + d) from
            ⟨h3, HQ.out.bel.trans (c3.below HQ.out.bel.size HQ.out.own), fun k hk => by
              rcases n3 k hk with e | e
              · exact HQ.out.own k e
              · have := HQ.out.bel.size; omega, by omega, by simp; omega, rfl, hpk, .inl rfl⟩)
          clear hpk h3 c3 n3 l3 HQ hs0 hs1
          generalize s + (d : Int) = s3 at *
          go_wp2
          go_loopw [7, 8, 9, 10, 11, 12] (fun wv lv nv kv av ov wr => ∃ (D R : List It) (was last k at_ : Int) (ok : Bool) (F : Nat → Prop) (s : Int), wv = .int .i64 was ∧ lv = .int .i64 last ∧ nv = .int .i64 D.length ∧ kv = .int .i64 k ∧ av = .int .i64 at_ ∧ ov = .bool ok ∧ Hid (SR W wr hp (lsp K T n) D R was last k at_ ok F s)) (fun _ _ _ _ _ ov wr => hlen wr hp + boolOf ov)
          case atStart => exact ⟨[], _, 0, 0, k, at_, ok, F3, s3, rfl, rfl, rfl, rfl, rfl, rfl, HI⟩
          case round =>
            clear HI
            obtain ⟨D, R, was, last, k, at_, ok, F, s, rfl, rfl, rfl, rfl, rfl, rfl, HQ⟩ := hrel
            obtain ⟨w4, rfl⟩ : ∃ w4, w4 = wr := ⟨_, rfl⟩
            rcases HQ.out.pk with ⟨rfl, rfl⟩ | ⟨p, r, rfl, rfl, rfl, rfl⟩
            · have hDl := HQ.out.dec
              rw [List.append_nil] at hDl
              have HDL := Lib.hid (show D.length = cntK K n by rw [← hDl]; exact HCN.out)
              have hB4 := Lib.hid HQ.out.bel
              clear hDl
              go_wp2
              go_loopw [15, 16] (fun sv iv wr => ∃ t : Nat, t ≤ n ∧ iv = .int .i64 t ∧ sv = .int .i64 (cntK K t) ∧ Hid (Below W.heap.size W wr)) (fun _ iv _ => n - (intOf iv).toNat)
              case atStart => exact ⟨0, Nat.zero_le _, rfl, rfl, hB4⟩
              case round =>
                clear hB4
                obtain ⟨t, ht', rfl, rfl, HB5⟩ := hrel
                obtain ⟨w5, rfl⟩ : ∃ w5, w5 = wr := ⟨_, rfl⟩
                by_cases hlt2 : t < n
                · have hts : (t : Int) < (n : Int) := by omega
                  obtain ⟨x, hx⟩ := at_lt (l := K) (i := t) (by rw [← HN.out]; exact hlt2)
                  obtain ⟨b, off, rfl, hb, hcell⟩ := HA.out t x hx
                  have hc0 := hcell 0 _ rfl
                  simp only [Nat.mul_one, Nat.add_zero] at hc0
                  have HC0 := Lib.hid hc0; have HBB := Lib.hid hb
                  have HX := Lib.hid (gi_at hx)
                  have hcn := cntK_le K t
                  clear hcell hx hc0 hb
                  go_wp2
                  go_loopw [17, 18] (fun fv jv wr => ∃ j : Nat, j ≤ t ∧ jv = .int .i64 j ∧ fv = .bool (fst' K t j) ∧ Hid (Below W.heap.size W wr)) (fun _ jv _ => t - (intOf jv).toNat)
                  case atStart => exact ⟨0, Nat.zero_le _, rfl, rfl, HB5⟩
                  case round =>
                    clear HB5
                    obtain ⟨j, hj, rfl, rfl, HB6⟩ := hrel
                    obtain ⟨w6, rfl⟩ : ∃ w6, w6 = wr := ⟨_, rfl⟩
                    by_cases hlt3 : j < t
                    · have hjs : (j : Int) < (t : Int) := by omega
                      have hjn : (j : Int) < (n : Int) := by omega
                      obtain ⟨y, hy⟩ := at_lt (l := K) (i := j) (by rw [← HN.out]; omega)
                      obtain ⟨b2, off2, e2, _, hcell2⟩ := HA.out j y hy
                      cases e2
                      have d0 := (HB6.out.cell (p := ⟨b, off + j * 1 + 0, none⟩) HBB.out).trans (hcell2 0 _ rfl)
                      have d1 := (HB6.out.cell (p := ⟨b, off + t, none⟩) HBB.out).trans HC0.out
                      simp only [Nat.mul_one, Nat.add_zero] at d0
                      have hbw : b < w6.heap.size := Nat.lt_of_lt_of_le HBB.out HB6.out.size
                      have HF := Lib.hid (show fst' K t (j + 1) = (fst' K t j && !(y == x)) by rw [fst', gi_at hy, HX.out])
                      clear hcell2 hy
                      cases hf : fst' K t j with
                      | true =>
                        rw [hf] at HF
                        have HF := Lib.hid (HF.out.trans (show _ = (y != x) from rfl))
                        go_wp2
                        refine wp_region_pure (by kernel_rfl) (by kernel_rfl) ?_
                        repeat (first | go_big_quiet_step ((fail)) | (quiet_step ((fail))))
                        refine wpQuiet_nil ?_
                        rintro w7 ⟨x7, hx7⟩
                        have hb7 := ext_below _ x7
                        rw [← hx7] at hb7
                        clear hx7 x7
                        have hs7 : w6.heap.size + 0 ≤ w7.heap.size := (by have h := hb7.size; first | omega | (simp at h; omega))
                        obtain ⟨hc7, hf7, hl7⟩ := bcell hb7
                        clear hl7
                        have HB7 := Lib.hid (bt HB6.out hb7)
                        clear hb7 hc7 hf7 d0 d1
                        go_wp2
                        go_roundw
                        case rel => exact ⟨j + 1, by omega, by go_num, by rw [HF.out], HB7⟩
                        case measure => simp [intOf]; omega
                      | false =>
                        rw [hf] at HF
                        have HF := Lib.hid (HF.out.trans (show _ = false from rfl))
                        go_wp2
                        refine wp_region_pure (by kernel_rfl) (by kernel_rfl) ?_
                        repeat (first | go_big_quiet_step ((fail)) | (quiet_step ((fail))))
                        refine wpQuiet_nil ?_
                        rintro w7 ⟨x7, hx7⟩
                        have hb7 := ext_below _ x7
                        rw [← hx7] at hb7
                        clear hx7 x7
                        have hs7 : w6.heap.size + 0 ≤ w7.heap.size := (by have h := hb7.size; first | omega | (simp at h; omega))
                        obtain ⟨hc7, hf7, hl7⟩ := bcell hb7
                        clear hl7
                        have HB7 := Lib.hid (bt HB6.out hb7)
                        clear hb7 hc7 hf7 d0 d1
                        go_wp2
                        go_roundw
                        case rel => exact ⟨j + 1, by omega, by go_num, by rw [HF.out], HB7⟩
                        case measure => simp [intOf]; omega
                    · obtain rfl : j = t := by omega
                      have HF := Lib.hid (show cntK K (j + 1) = cntK K j + if fst' K j j then 1 else 0 from rfl)
                      cases hf : fst' K j j with
                      | true =>
                        rw [hf] at HF
                        go_wp2
                        go_roundw
                        case rel => exact ⟨j + 1, by omega, by go_num, by rw [HF.out]; simp, HB6⟩
                        case measure => simp [intOf]; omega
                      | false =>
                        rw [hf] at HF
                        go_wp2
                        go_roundw
                        case rel => exact ⟨j + 1, by omega, by go_num, by rw [HF.out]; simp, HB6⟩
                        case measure => simp [intOf]; omega
                · obtain rfl : n = t := by omega
                  have hdc : ((D.length : Int) == (cntK K n : Int)) = true := by rw [HDL.out]; simp
                  go_wp2_with fail
                  refine (works11 _).mono ?_
                  rintro e w7 ⟨rfl, hb7⟩
                  go_wp2
                  go_ret
                  exact ⟨rfl, bt HB5.out hb7⟩
            · have HNX := Lib.hid (show ∀ (k2 t2 : Int) (ok2 : Bool) (w' : World), PK r k2 t2 ok2 → HR w4 w' hp F r.tail s 34 → ∃ F' s', Hid (SR W w' hp (lsp K T n) (D ++ [p]) r p.1 p.2 k2 t2 ok2 F' s') from fun k2 t2 ok2 w' hpk ⟨F', d, h3, c3, n3, l3⟩ =>
                ⟨F', s + d, h3, HQ.out.bel.trans (c3.below HQ.out.bel.size HQ.out.own), fun k hk => by
                  rcases n3 k hk with e | e
                  · exact HQ.out.own k e
                  · have := HQ.out.bel.size; omega, by have := HQ.out.s0; omega, by have := HQ.out.s1; rw [List.length_append, List.length_singleton]; omega, by rw [HQ.out.dec]; simp, hpk, .inr ⟨D, rfl⟩⟩)
              have hDle : D.length + 1 + r.length ≤ n := by
                have h1 := HQ.out.dec
                have h2 := congrArg List.length h1
                rw [List.length_append, List.length_cons] at h2; omega
              have hDI : (D.length : Int) ≤ (n : Int) := by omega
              have HFA := Lib.hid (show fnd K T p.1 p.2 n = true from fnd_all (by rw [HQ.out.dec]; simp))
              have hs0 := HQ.out.s0
              have hs1 := HQ.out.s1
              have hlr : HL w4 hp F r s := HQ.out.hl
              have HPOP := Lib.hid (hpop hlr hs0 (by omega) (by omega))
              clear hlr
              have HBL := Lib.hid HQ.out.bel
              have HLE := Lib.hid (show hlen w4 hp = r.length from HQ.out.hl.hlen)
              have hcond : (D = [] ∧ (D.length : Int) = 0) ∨ (0 < D.length ∧ ((last < p.2) ∨ (last = p.2 ∧ was < p.1))) := by
                rcases HQ.out.lst with h | ⟨D', h⟩
                · exact .inl ⟨h, by rw [h]; rfl⟩
                · right
                  have hs := HSL.out
                  rw [HQ.out.dec, h] at hs
                  have := (hs.mid).1
                  unfold lt2 at this
                  exact ⟨by rw [h]; simp, this⟩
              rcases hcond with ⟨rfl, hD0⟩ | ⟨hD1, hlt4 | ⟨rfl, hlt4⟩⟩
              · clear hD0
                go_wp2
                go_loop [13, 14] (fun fv jv => ∃ j : Nat, j ≤ n ∧ jv = .int .i64 j ∧ fv = .bool (fnd K T p.1 p.2 j)) (fun _ jv => n - (intOf jv).toNat)
                case atStart => exact ⟨0, Nat.zero_le _, rfl, rfl⟩
                case round =>
                  obtain ⟨j, hj, rfl, rfl⟩ := hrel
                  by_cases hlt3 : j < n
                  · have hjs : (j : Int) < (n : Int) := by omega
                    have hjs' : (j : Int) < (n' : Int) := by omega
                    obtain ⟨x, hx⟩ := at_lt (l := K) (i := j) (by rw [← HN.out]; exact hlt3)
                    obtain ⟨y, hy⟩ := at_lt (l := T) (i := j) (by rw [← HN'.out]; omega)
                    obtain ⟨b, off, rfl, hb, hcell⟩ := HA.out j x hx
                    obtain ⟨b', off', rfl, hb', hcell'⟩ := HA'.out j y hy
                    have e0 := (HBL.out.cell (p := ⟨b, off + j * 1 + 0, none⟩) hb).trans (hcell 0 _ rfl)
                    have e1 := (HBL.out.cell (p := ⟨b', off' + j * 1 + 0, none⟩) hb').trans (hcell' 0 _ rfl)
                    simp only [Nat.mul_one, Nat.add_zero] at e0 e1
                    have HX := Lib.hid (gi_at hx); have HY := Lib.hid (gi_at hy)
                    clear hcell hcell' hx hy
                    by_cases he : x = p.1
                    · have heb : (x == p.1) = true := by simpa using he
                      have HF := Lib.hid (show fnd K T p.1 p.2 (j + 1) = (y == p.2) by rw [fnd_hit (by rw [HX.out, he]), HY.out])
                      clear he
                      go_wp2
                      go_round
                      case rel => exact ⟨j + 1, by omega, by go_num, by rw [HF.out]⟩
                      case measure => simp [intOf]; omega
                    · have heb : (x == p.1) = false := by simpa using he
                      have HF := Lib.hid (show fnd K T p.1 p.2 (j + 1) = fnd K T p.1 p.2 j by rw [fnd_miss (by rw [HX.out]; exact he)])
                      clear he
                      go_wp2
                      go_round
                      case rel => exact ⟨j + 1, by omega, by go_num, by rw [HF.out]⟩
                      case measure => simp [intOf]; omega
                  · obtain rfl : j = n := by omega
                    rw [HFA.out]
                    go_wp2_with fail
                    refine HPOP.out.mono ?_
                    rintro e w8 ⟨k2, t2, ok2, hpk, rfl, hr⟩
                    obtain ⟨F8, s8, H8⟩ := HNX.out k2 t2 ok2 w8 hpk hr
                    have HPK := Lib.hid hpk
                    have hw8 : IntKind.i64.wrap (0 + 1) = 1 := IntWalk.i64_in _ (by omega)
                    clear hpk hr
                    go_wp2
                    go_roundw
                    case rel => exact ⟨[] ++ [p], r, p.1, p.2, k2, t2, ok2, F8, s8, rfl, rfl, by first | rfl | (rw [List.length_append]; go_num), rfl, rfl, rfl, H8⟩
                    case measure =>
                      rw [HLE.out, H8.out.hl.hlen]
                      rcases HPK.out with ⟨h, h2⟩ | ⟨q, r2, h, _, _, h2⟩
                      · rw [h, h2]; simp [boolOf]
                      · rw [h, h2]; simp [boolOf]
              · have hD2 : (0 : Int) < (D.length : Int) := by omega
                have hb1 : ¬ p.2 < last := by omega
                have hb2 : (p.2 == last) = false := by simp; omega
                go_wp2
                go_loop [13, 14] (fun fv jv => ∃ j : Nat, j ≤ n ∧ jv = .int .i64 j ∧ fv = .bool (fnd K T p.1 p.2 j)) (fun _ jv => n - (intOf jv).toNat)
                case atStart => exact ⟨0, Nat.zero_le _, rfl, rfl⟩
                case round =>
                  obtain ⟨j, hj, rfl, rfl⟩ := hrel
                  by_cases hlt3 : j < n
                  · have hjs : (j : Int) < (n : Int) := by omega
                    have hjs' : (j : Int) < (n' : Int) := by omega
                    obtain ⟨x, hx⟩ := at_lt (l := K) (i := j) (by rw [← HN.out]; exact hlt3)
                    obtain ⟨y, hy⟩ := at_lt (l := T) (i := j) (by rw [← HN'.out]; omega)
                    obtain ⟨b, off, rfl, hb, hcell⟩ := HA.out j x hx
                    obtain ⟨b', off', rfl, hb', hcell'⟩ := HA'.out j y hy
                    have e0 := (HBL.out.cell (p := ⟨b, off + j * 1 + 0, none⟩) hb).trans (hcell 0 _ rfl)
                    have e1 := (HBL.out.cell (p := ⟨b', off' + j * 1 + 0, none⟩) hb').trans (hcell' 0 _ rfl)
                    simp only [Nat.mul_one, Nat.add_zero] at e0 e1
                    have HX := Lib.hid (gi_at hx); have HY := Lib.hid (gi_at hy)
                    clear hcell hcell' hx hy
                    by_cases he : x = p.1
                    · have heb : (x == p.1) = true := by simpa using he
                      have HF := Lib.hid (show fnd K T p.1 p.2 (j + 1) = (y == p.2) by rw [fnd_hit (by rw [HX.out, he]), HY.out])
                      clear he
                      go_wp2
                      go_round
                      case rel => exact ⟨j + 1, by omega, by go_num, by rw [HF.out]⟩
                      case measure => simp [intOf]; omega
                    · have heb : (x == p.1) = false := by simpa using he
                      have HF := Lib.hid (show fnd K T p.1 p.2 (j + 1) = fnd K T p.1 p.2 j by rw [fnd_miss (by rw [HX.out]; exact he)])
                      clear he
                      go_wp2
                      go_round
                      case rel => exact ⟨j + 1, by omega, by go_num, by rw [HF.out]⟩
                      case measure => simp [intOf]; omega
                  · obtain rfl : j = n := by omega
                    rw [HFA.out]
                    go_wp2_with fail
                    refine HPOP.out.mono ?_
                    rintro e w8 ⟨k2, t2, ok2, hpk, rfl, hr⟩
                    obtain ⟨F8, s8, H8⟩ := HNX.out k2 t2 ok2 w8 hpk hr
                    have HPK := Lib.hid hpk
                    have hw8 : IntKind.i64.wrap ((D.length : Int) + 1) = (D.length : Int) + 1 := IntWalk.i64_in _ (by omega)
                    clear hpk hr
                    go_wp2
                    go_roundw
                    case rel => exact ⟨D ++ [p], r, p.1, p.2, k2, t2, ok2, F8, s8, rfl, rfl, by rw [List.length_append]; go_num, rfl, rfl, rfl, H8⟩
                    case measure =>
                      rw [HLE.out, H8.out.hl.hlen]
                      rcases HPK.out with ⟨h, h2⟩ | ⟨q, r2, h, _, _, h2⟩
                      · rw [h, h2]; simp [boolOf]
                      · rw [h, h2]; simp [boolOf]
              · have hD2 : (0 : Int) < (D.length : Int) := by omega
                have hb1 : ¬ p.2 < p.2 := by omega
                have hb3 : ¬ p.1 ≤ was := by omega
                go_wp2
                go_loop [13, 14] (fun fv jv => ∃ j : Nat, j ≤ n ∧ jv = .int .i64 j ∧ fv = .bool (fnd K T p.1 p.2 j)) (fun _ jv => n - (intOf jv).toNat)
                case atStart => exact ⟨0, Nat.zero_le _, rfl, rfl⟩
                case round =>
                  obtain ⟨j, hj, rfl, rfl⟩ := hrel
                  by_cases hlt3 : j < n
                  · have hjs : (j : Int) < (n : Int) := by omega
                    have hjs' : (j : Int) < (n' : Int) := by omega
                    obtain ⟨x, hx⟩ := at_lt (l := K) (i := j) (by rw [← HN.out]; exact hlt3)
                    obtain ⟨y, hy⟩ := at_lt (l := T) (i := j) (by rw [← HN'.out]; omega)
                    obtain ⟨b, off, rfl, hb, hcell⟩ := HA.out j x hx
                    obtain ⟨b', off', rfl, hb', hcell'⟩ := HA'.out j y hy
                    have e0 := (HBL.out.cell (p := ⟨b, off + j * 1 + 0, none⟩) hb).trans (hcell 0 _ rfl)
                    have e1 := (HBL.out.cell (p := ⟨b', off' + j * 1 + 0, none⟩) hb').trans (hcell' 0 _ rfl)
                    simp only [Nat.mul_one, Nat.add_zero] at e0 e1
                    have HX := Lib.hid (gi_at hx); have HY := Lib.hid (gi_at hy)
                    clear hcell hcell' hx hy
                    by_cases he : x = p.1
                    · have heb : (x == p.1) = true := by simpa using he
                      have HF := Lib.hid (show fnd K T p.1 p.2 (j + 1) = (y == p.2) by rw [fnd_hit (by rw [HX.out, he]), HY.out])
                      clear he
                      go_wp2
                      go_round
                      case rel => exact ⟨j + 1, by omega, by go_num, by rw [HF.out]⟩
                      case measure => simp [intOf]; omega
                    · have heb : (x == p.1) = false := by simpa using he
                      have HF := Lib.hid (show fnd K T p.1 p.2 (j + 1) = fnd K T p.1 p.2 j by rw [fnd_miss (by rw [HX.out]; exact he)])
                      clear he
                      go_wp2
                      go_round
                      case rel => exact ⟨j + 1, by omega, by go_num, by rw [HF.out]⟩
                      case measure => simp [intOf]; omega
                  · obtain rfl : j = n := by omega
                    rw [HFA.out]
                    go_wp2_with fail
                    refine HPOP.out.mono ?_
                    rintro e w8 ⟨k2, t2, ok2, hpk, rfl, hr⟩
                    obtain ⟨F8, s8, H8⟩ := HNX.out k2 t2 ok2 w8 hpk hr
                    have HPK := Lib.hid hpk
                    have hw8 : IntKind.i64.wrap ((D.length : Int) + 1) = (D.length : Int) + 1 := IntWalk.i64_in _ (by omega)
                    clear hpk hr
                    go_wp2
                    go_roundw
                    case rel => exact ⟨D ++ [p], r, p.1, p.2, k2, t2, ok2, F8, s8, rfl, rfl, by rw [List.length_append]; go_num, rfl, rfl, rfl, H8⟩
                    case measure =>
                      rw [HLE.out, H8.out.hl.hlen]
                      rcases HPK.out with ⟨h, h2⟩ | ⟨q, r2, h, _, _, h2⟩
                      · rw [h, h2]; simp [boolOf]
                      · rw [h, h2]; simp [boolOf]
theorem c1n : Try.prog.cellsOf 2 = 1 := by kernel_rfl
open Go.ChangeShapes Go.WideShapes Go.ChangeAt Go.Joins Go.Deep in
set_option maxRecDepth 100000 in
theorem open_nums {H : Type} {enc : TypeId × Value → H} {W : World} {base : Nat} {sp : Nat → Bool} {held : Bool} {r : Reach} {b0 : Nat} {v : Value} {d : DataW H} {p : List MemPlace}
    (hv : Value.okWide Try.prog W r b0 63 v) (h : DataW.Trod enc Try.prog W base sp held 63 v d p) : ∃ l : List Int, NV W v l ∧ (∀ x ∈ l, J64 x) ∧ ∀ b, v.ownBlock = some b → b < W.heap.size := by
  refine open_rs (P := Try.prog) (k := 1) (enc := nenc) (ok := J64) Try.underlying63 c1n (fun _ => rfl) (fun m cs x hl hf => ?_) hv h
  match cs, hl with
  | [c0], _ =>
    cases m with
    | zero => simp [DataW.trod] at hf
    | succ n =>
      obtain ⟨a, ea, _, wa⟩ := DataW.trod_int Try.underlying2 hf
      simp at ea
      subst ea
      exact ⟨a, rfl, j64_wf wa⟩
namespace HeapSorts
open Go.ChangeShapes Go.WideShapes Go.ChangeAt Go.RowKit Go.Joins
theorem own : ownKnob Try.prog.godebug = none := by kernel_rfl
theorem laidOut : laidOutB Try.prog = true := by kernel_rfl
set_option maxRecDepth 100000 in
theorem lifted (os : Os) (started : os.Started) (H : Type) (enc : TypeId × Value → H) :
    ReturnsInHanded {} Try.checked os 6 .any (Rows.heapSortsSpec.pre6 enc Try.prog Try.f6 Rows.heapSortsRow.domain false) (Rows.heapSortsSpec.post enc Try.prog Try.f6 false true false false) := by
  refine returnsInHanded_of_change (C := Try.checked) own started (by kernel_rfl) Try.func6
    (ChangeSpec.witness6 (enc := enc) (C := Try.checked) false ⟨#[], #[.slice none 0 0, .slice none 0 0], []⟩ 8 (by kernel_rfl) (by kernel_rfl) (by kernel_rfl) (by kernel_rfl)) ?_
  intro W base args ds gs before hval0 hW hcnd _
  have hval : ∀ (j : Nat) t v, Try.f6.params[j]? = some t → args[j]? = some v → Value.okWide Try.prog W .any base t v := hval0
  have hW' := hW
  obtain ⟨p, q, hA0, hV, rfl, hfz, hnd⟩ := hW
  have hA : DataW.TrodAll enc Try.prog W 0 (fun _ => true) true Try.f6.params.toList args.toList ds p := hA0
  rw [Try.params6] at hA hval
  obtain ⟨v0, vs0, d0, ds0, p0, q0, hargs, rfl, rfl, h0, r0⟩ := trodAll_cons hA
  obtain ⟨v1, vs1, d1, ds1, p1, q1, rfl, rfl, rfl, h1, r1⟩ := trodAll_cons r0
  obtain ⟨rfl, rfl, rfl⟩ := trodAll_nil r1
  obtain rfl : args = #[v0, v1] := by cases args; simp_all
  obtain ⟨rfl, rfl⟩ := trodVars_none hV
  have k0 := h0
  have lt0 : ∀ x ∈ p0, x.block < W.heap.size := by obtain ⟨m, hm⟩ := k0; exact DataW.trod_lt m _ _ _ hm
  have k1 := h1
  have lt1 : ∀ x ∈ p1, x.block < W.heap.size := by obtain ⟨m, hm⟩ := k1; exact DataW.trod_lt m _ _ _ hm
  obtain ⟨la, oA, iA, _⟩ := open_nums (hval 0 63 v0 rfl rfl) k0
  obtain ⟨lb, oB, iB, _⟩ := open_nums (hval 1 63 v1 rfl rfl) k1
  clear hA0 hval0
  refine (sorts11 v0 v1 la lb W oA oB ⟨iA, iB⟩).mono fun e W' ⟨he, bel⟩ => ?_
  subst he
  exact ⟨_, rfl, _, _, _, [], _, [], hW', trodAll_mk1 (shut_bool Try.underlying4 _), (trodAll_cons_mk (Below.trod laidOut (by kernel_rfl) (of_decide_eq_true (by kernel_rfl)) k0 bel lt0) (trodAll_cons_mk (Below.trod laidOut (by kernel_rfl) (of_decide_eq_true (by kernel_rfl)) k1 bel lt1) trodAll_mk0)), rfl, bel.frame _, fun h => by cases h⟩
theorem over : Rows.heapSortsRow.holds Try.pinned (OpenSpec.ofChange Rows.heapSortsSpec) :=
  OpenClaim.holds_of_wide 6 Try.f6 rfl rfl rfl rfl rfl rfl rfl ⟨rfl, rfl, rfl, rfl, rfl⟩ rfl rfl rfl rfl rfl (by kernel_rfl) Try.func6 (by kernel_rfl)
    (of_decide_eq_true (by kernel_rfl)) (by unfold Func.isWrapper; first | (rw [if_pos (by decide +kernel)]; kernel_rfl) | (rw [if_neg (by decide +kernel)]; exact ⟨rfl, rfl⟩))
    (fun os started H enc _ => lifted os started H enc)
theorem proved : Rows.HeapSortsSaid := over
end HeapSorts
end Go.Proofs.Ytajcelmnblncaaa

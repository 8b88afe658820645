/- For any acts the statement HeapSteps returns true. Condition: none. -/
import Derived.Test.YtajcelmnblncaaaHeapP
import Derived.WalkLawsBesides
namespace Go.Proofs.Ytajcelmnblncaaa
open Go.RowKit Go.Maps
attribute [local go_sem] ext_cell ext_frozen extC_cell extC_frozen Mix.calmUpon Mix.mUpon
/-- How many binary digits. -/
def dn : Nat → Nat
  | 0 => 0
  | n + 1 => dn ((n + 1) / 2) + 1
decreasing_by omega
theorem dn_lt (x : Nat) : x < 2 ^ dn x := by
  induction x using Nat.strongRecOn with
  | _ x ih =>
    cases x with
    | zero => unfold dn; decide
    | succ n =>
      have := ih ((n + 1) / 2) (by omega)
      rw [dn, Nat.pow_succ]; omega
theorem dn_step {x : Nat} (h : 0 < x) : dn x = dn (x / 2) + 1 := by
  cases x with
  | zero => omega
  | succ n => rw [dn]
theorem dn_le (x : Nat) : dn x ≤ x := by
  induction x using Nat.strongRecOn with
  | _ x ih =>
    cases x with
    | zero => unfold dn; exact Nat.le_refl _
    | succ n => rw [dn]; have := ih ((n + 1) / 2) (by omega); omega
theorem lg_dn (m : Nat) : lg m ≤ 2 * dn (m + 1) := by
  unfold lg
  by_cases h : m = 0
  · subst h; simp
  · have h1 := dn_lt (m + 1)
    have := (Nat.log2_lt h (k := dn (m + 1))).2 (by omega)
    omega
/-- Where the acts stand. -/
structure SW (W wr : World) (hp : Nat) (F : Nat → Prop) (L : List It) (s : Int) (t cc most : Nat) : Prop where
  hl : HL wr hp F L s
  bel : Below W.heap.size W wr
  own : ∀ k, F k → W.heap.size ≤ k
  len : L.length ≤ most
  mst : most ≤ t
  s0 : 0 ≤ s
  s1 : s ≤ (lg most * cc : Nat)
  cc1 : cc + L.length ≤ 2 * t
theorem cost_up {a b c d s : Nat} (h : s ≤ lg a * b) (ha : a ≤ c) (hd : d ≤ lg c) : s + d ≤ lg c * (b + 1) := by
  have h1 := Nat.mul_le_mul_right b (lg_mono ha)
  rw [Nat.mul_add]; omega
theorem own_len {w : World} {base : Nat} {v : Value} {l : List Int} (h : Own64 w base v l) : ∃ a cap, v = .slice a l.length cap := by
  rcases h.2 with ⟨rfl, h0⟩ | ⟨g, cap, cur, rfl, _⟩
  · exact ⟨none, 0, by rw [h0]⟩
  · exact ⟨_, cap, rfl⟩
theorem due_none (t : Int) : Pure Try.prog 41 #[.pointer none, .int .i64 t] (.slice none 0 0) := by
  intro W
  go_enter Try.func41, Try.ntmps41
  go_wp2_with fail
  refine (peek_none _).mono ?_
  rintro e w1 ⟨rfl, hb1⟩
  go_wp2
  go_loopw [5, 8] (fun dv ov wr => dv = .slice none 0 0 ∧ ov = .bool false ∧ Below W.heap.size W wr) (fun _ _ _ => 0)
  case atStart => exact ⟨rfl, rfl, hb1⟩
  case round =>
    obtain ⟨rfl, rfl, hb⟩ := hrel
    go_wp2
    go_ret
    exact ⟨rfl, hb⟩
theorem hpop' {wr : World} {hp : Nat} {F : Nat → Prop} {L : List It} {s : Int} (h : HL wr hp F L s) (hs0 : 0 ≤ s) (hs1 : s ≤ 1000000000000) :
    Calls Try.prog 39 #[ptr hp] wr fun e w' => ∃ k t ok, e = .returned (.tuple #[.int .i64 k, .int .i64 t, .bool ok]) ∧ HR wr w' hp F L.tail s (lg L.length) := by
  cases L with
  | nil => exact (pop_nil h).mono fun e w' ⟨he, F', d, a, b, c, d'⟩ => ⟨0, 0, false, he, F', d, a, b, c, by omega⟩
  | cons p r => exact (pop_cons h hs0 hs1).mono fun e w' ⟨he, F', d, a, b, c, d'⟩ => ⟨p.1, p.2, true, he, F', d, a, b, c, d'⟩
set_option maxRecDepth 100000 in
set_option maxHeartbeats 4000000 in
theorem steps11 (v0 : Value) (acts : List Ac) (W : World) (hA : AV W v0 acts) (hok : ∀ x ∈ acts, AcOk x) : Calls Try.prog 7 #[v0] W fun e w' => e = .returned (.bool true) ∧ Below W.heap.size W w' := by
  obtain ⟨a, n, cap, rfl, hn, hc, hm, hat⟩ := hA.at_
  by_cases hbig : 300 < n
  · have hbI : (300 : Int) < (n : Int) := by omega
    clear hat hA hok hn
    go_enter Try.func7, Try.ntmps7
    go_wp2
    go_ret
    exact ⟨rfl, Below.refl _ _⟩
  · have hbI : (n : Int) ≤ 300 := by omega
    have hnb : n ≤ 300 := by omega
    have HAT := Lib.hid hat; have HOK := Lib.hid hok; have HN := Lib.hid hn
    clear hat hA hok hn hbig hm
    go_enter Try.func7, Try.ntmps7
    go_wp2_with fail
    refine (hnew W).mono ?_
    rintro e w1 ⟨F1, rfl, h1, hb1, n1⟩
    have HI := Lib.hid (show SW W w1 (W.heap.size + 1) F1 [] 0 0 0 0 from ⟨⟨List.Pairwise.nil, h1⟩, hb1, n1, Nat.le_refl _, Nat.le_refl _, by omega, by omega, by simp⟩)
    clear h1 hb1 n1
    generalize hhp : W.heap.size + 1 = hp at *
    clear hhp
    go_wp2
    go_loopw [4, 5, 6] (fun cv mv iv wr => ∃ (t cc most : Nat) (L : List It) (F : Nat → Prop) (s : Int), t ≤ n ∧ iv = .int .i64 t ∧ cv = .int .i64 cc ∧ mv = .int .i64 most ∧ Hid (SW W wr hp F L s t cc most)) (fun _ _ iv _ => n - (intOf iv).toNat)
    case atStart => exact ⟨0, 0, 0, [], F1, 0, Nat.zero_le _, rfl, rfl, rfl, HI⟩
    case round =>
      clear HI
      obtain ⟨t, cc, most, L, F, s, ht, rfl, rfl, rfl, HQ⟩ := hrel
      obtain ⟨w2, rfl⟩ : ∃ w2, w2 = wr := ⟨_, rfl⟩
      by_cases hlt : t < n
      · have hts : (t : Int) < (n : Int) := by omega
        obtain ⟨x, hx⟩ := at_lt (l := acts) (i := t) (by rw [← HN.out]; exact hlt)
        obtain ⟨b, off, rfl, hb, hcell⟩ := HAT.out t x hx
        have hxo := HOK.out x (mem_at hx)
        obtain ⟨kd, ky, at_⟩ := x
        have hB := Lib.hid hb
        have HC := Lib.hid (fun w' (hw : Below W.heap.size W w') => And.intro ((hw.cell (p := ⟨b, off + t * 3, none⟩) hb).trans (hcell 0 _ rfl)) (And.intro ((hw.cell (p := ⟨b, off + t * 3 + 1, none⟩) hb).trans (hcell 1 _ rfl)) ((hw.cell (p := ⟨b, off + t * 3 + 2, none⟩) hb).trans (hcell 2 _ rfl))))
        have HXO := Lib.hid hxo
        have h1 := HQ.out.len; have h2 := HQ.out.mst; have h3 := HQ.out.cc1
        have hs0 := HQ.out.s0; have hs1 := HQ.out.s1
        have hs2 : lg most * cc ≤ 34 * 600 := Nat.mul_le_mul (lg_small (by omega)) (by omega)
        clear hcell hx hxo hb
        go_wp2_with fail
        refine (hlong HQ.out.hl).mono ?_
        rintro e w3 ⟨rfl, hb3⟩
        have HB3 := Lib.hid hb3
        have HW3 := Lib.hid (bt HQ.out.bel hb3)
        obtain ⟨e0, e1, e2⟩ := HC.out _ HW3.out
        have hbw : b < w3.heap.size := Nat.lt_of_lt_of_le hB.out HW3.out.size
        clear hb3
        have HCost := Lib.hid (show ∀ (L' : List It) (F' : Nat → Prop) (d k : Nat) (w' : World), HL w' hp F' L' (s + d) → Chg F w3 w' → (∀ k, F' k → F k ∨ w3.heap.size ≤ k) → s + d ≤ (lg (max most (max L.length L'.length)) * (cc + k) : Nat) → L'.length ≤ t + 1 → k + L'.length ≤ L.length + 2 → Hid (SW W w' hp F' L' (s + d) (t + 1) (cc + k) (max most (max L.length L'.length))) from
          fun L' F' d k w' a1 a2 a3 a4 a5 a6 => Lib.hid ⟨a1, HW3.out.trans (a2.below HW3.out.size HQ.out.own), fun k hk => by
            rcases a3 k hk with e | e
            · exact HQ.out.own k e
            · have := HW3.out.size; omega, by omega, by omega, by omega, a4, by omega⟩)
        by_cases k0 : kd = 0
        · subst k0
          have hbF : ¬ F b := fun e => by have := HQ.out.own b e; have := hB.out; omega
          have hl1 := lput_le L (ky, at_)
          go_wp2_with fail
          refine Mix.regionC F (by kernel_rfl) ?_
          intro w4 hb4
          refine Mix.take_exC _ _ 0 rfl (by kernel_rfl) (by kernel_rfl) (by kernel_rfl) (by kernel_rfl) (fun K hK => ?_)
          go_simp
          first | (refine hK _ ?_; clear hK K) | (apply Exists.intro; refine ⟨fun x => ?_, hK _ ?_⟩; (fail); clear hK K)
          refine Mix.take_exC _ _ 1 rfl (by kernel_rfl) (by kernel_rfl) (by kernel_rfl) (by kernel_rfl) (fun K hK => ?_)
          go_simp
          first | (refine hK _ ?_; clear hK K) | (apply Exists.intro; refine ⟨fun x => ?_, hK _ ?_⟩; (fail); clear hK K)
          refine Mix.take_exC _ _ 2 rfl (by kernel_rfl) (by kernel_rfl) (by kernel_rfl) (by kernel_rfl) (fun K hK => ?_)
          go_simp
          first | (refine hK _ ?_; clear hK K) | (apply Exists.intro; refine ⟨fun x => ?_, hK _ ?_⟩; (fail); clear hK K)
          refine Mix.take_exC _ _ 3 rfl (by kernel_rfl) (by kernel_rfl) (by kernel_rfl) (by kernel_rfl) (fun K hK => ?_)
          go_simp
          first | (refine hK _ ?_; clear hK K) | (apply Exists.intro; refine ⟨fun x => ?_, hK _ ?_⟩; (fail); clear hK K)
          refine Mix.take_exC _ _ 4 rfl (by kernel_rfl) (by kernel_rfl) (by kernel_rfl) (by kernel_rfl) (fun K hK => ?_)
          go_simp
          first | (refine hK _ ?_; clear hK K) | (apply Exists.intro; refine ⟨fun x => ?_, hK _ ?_⟩; (fail); clear hK K)
          refine Mix.take_exC _ _ 5 rfl (by kernel_rfl) (by kernel_rfl) (by kernel_rfl) (by kernel_rfl) (fun K hK => ?_)
          go_simp
          first | (refine hK _ ?_; clear hK K) | (apply Exists.intro; refine ⟨fun x => ?_, hK _ ?_⟩; (fail); clear hK K)
          refine Mix.take_exC _ _ 6 rfl (by kernel_rfl) (by kernel_rfl) (by kernel_rfl) (by kernel_rfl) (fun K hK => ?_)
          go_simp
          first | (refine hK _ ?_; clear hK K) | (apply Exists.intro; refine ⟨fun x => ?_, hK _ ?_⟩; (fail); clear hK K)
          refine Mix.take_exC _ _ 7 rfl (by kernel_rfl) (by kernel_rfl) (by kernel_rfl) (by kernel_rfl) (fun K hK => ?_)
          go_simp
          first | (refine hK _ ?_; clear hK K) | (apply Exists.intro; refine ⟨fun x => ?_, hK _ ?_⟩; (fail); clear hK K)
          refine Mix.take_exC _ _ 8 rfl (by kernel_rfl) (by kernel_rfl) (by kernel_rfl) (by kernel_rfl) (fun K hK => ?_)
          go_simp
          first | (refine hK _ ?_; clear hK K) | (apply Exists.intro; refine ⟨fun x => ?_, hK _ ?_⟩; (fail); clear hK K)
          refine Mix.take_exC _ _ 9 rfl (by kernel_rfl) (by kernel_rfl) (by kernel_rfl) (by kernel_rfl) (fun K hK => ?_)
          go_simp
          first | (refine hK _ ?_; clear hK K) | (apply Exists.intro; refine ⟨fun x => ?_, hK _ ?_⟩; (fail); clear hK K)
          refine Mix.take_exC _ _ 10 rfl (by kernel_rfl) (by kernel_rfl) (by kernel_rfl) (by kernel_rfl) (fun K hK => ?_)
          go_simp
          first | (refine hK _ ?_; clear hK K) | (apply Exists.intro; refine ⟨fun x => ?_, hK _ ?_⟩; (fail); clear hK K)
          refine Mix.all (rs := [11]) (by kernel_rfl) (by simp) (.of_below _ hb4) ?_
          intro i5 hi5 w5 hb5 hC5
          simp only [List.mem_cons, List.not_mem_nil, or_false] at hi5
          subst hi5
          have HB5 := Lib.hid (bt hb4 hb5)
          clear hC5 hb4 hb5
          refine Mix.op rfl (by kernel_rfl) ?_
          go_simp
          refine (hput (HQ.out.hl.below (bt HB3.out HB5.out)) ky at_ HXO.out.2.1 HXO.out.2.2 (by omega) hs0 (by omega)).mono ?_
          rintro e w6 ⟨rfl, F6, d, h6, c6, n6, l6⟩
          refine ⟨_, rfl, ?_⟩
          have hc6 := (Chg.of_below F HB5.out).same c6
          have hn6 : ∀ k, F6 k → F k ∨ w3.heap.size ≤ k := fun k hk => (n6 k hk).imp_right fun e => by have := HB5.out.size; omega
          obtain ⟨s', hs'⟩ : ∃ s' : Nat, s = s' := ⟨s.toNat, by omega⟩
          have HS7 := HCost.out _ F6 d 1 w6 h6 hc6 hn6 (by
            rw [hs'] at hs1 ⊢
            have := cost_up (a := most) (b := cc) (c := max most (max L.length (lput L (ky, at_)).length)) (d := d) (s := s') (by omega) (by omega) (Nat.le_trans l6 (lg_mono (by omega)))
            omega) (by omega) (by omega)
          have HC6 := Lib.hid hc6
          clear h6 c6 n6 l6 hc6 hn6 HCost hs'
          refine Mix.done (by kernel_rfl) HC6.out ?_
          intro w7 hb7
          have HS8 := Lib.hid (show SW W w7 hp F6 (lput L (ky, at_)) (s + d) (t + 1) (cc + 1) (max most (max L.length (lput L (ky, at_)).length)) from ⟨HS7.out.hl.below hb7, bt HS7.out.bel hb7, HS7.out.own, HS7.out.len, HS7.out.mst, HS7.out.s0, HS7.out.s1, HS7.out.cc1⟩)
          clear HS7 hb7 e0 e1 e2
          generalize lput L (ky, at_) = L' at *
          obtain ⟨M, hMs, HS9⟩ : ∃ M, ((M = most ∧ ¬ most < L'.length) ∨ (M = L'.length ∧ most < L'.length)) ∧ Hid (SW W w7 hp F6 L' (s + d) (t + 1) (cc + 1) M) := by
            by_cases hx : most < L'.length
            · exact ⟨L'.length, .inr ⟨rfl, hx⟩, by have := HS8.out; rwa [show max most (max L.length L'.length) = L'.length by omega] at this⟩
            · exact ⟨most, .inl ⟨rfl, hx⟩, by have := HS8.out; rwa [show max most (max L.length L'.length) = most by omega] at this⟩
          clear HS8
          have HS9 := HS9
          have hMt := HS9.out.mst
          have hcc1 := HS9.out.cc1
          have hs0' := HS9.out.s0
          have hlgd := lg_dn M
          have hdM := dn_le (M + 1)
          have hss := HS9.out.s1
          have hS2 : s + (d : Int) ≤ (2 * dn (M + 1) * (cc + 1) : Nat) := by
            have := Nat.mul_le_mul_right (cc + 1) hlgd
            omega
          have hP : 2 * dn (M + 1) * (cc + 1) ≤ 2 * 400 * 2000 := Nat.mul_le_mul (Nat.mul_le_mul_left 2 (by omega)) (by omega)
          have HDM := Lib.hid hdM
          clear hlgd hdM hss
          rcases hMs with ⟨hM, hx⟩ | ⟨hM, hx⟩
          all_goals
            have HM := Lib.hid hM
            clear hM
            go_wp2_with fail
            refine (hlong HS9.out.hl).mono ?_
            rintro e w9 ⟨rfl, hb9⟩
            have HB9 := Lib.hid hb9
            clear hb9
            go_wp2
            go_loop [8, 9] (fun dv xv => ∃ (x g : Nat), xv = .int .i64 x ∧ dv = .int .i64 g ∧ x ≤ M + 1 ∧ Hid (g + dn x = dn (M + 1))) (fun _ xv => (intOf xv).toNat)
            case atStart => exact ⟨M + 1, 0, by rw [HM.out]; go_num, rfl, Nat.le_refl _, Lib.hid (by simp)⟩
            case round =>
              obtain ⟨x, g, rfl, rfl, hxM, HG⟩ := hrel
              have hgb : g ≤ 400 := by have h1 := HG.out; have h2 := HDM.out; omega
              by_cases hx0 : 0 < x
              · have hxI : (0 : Int) < (x : Int) := by omega
                have hq : (x : Int).tdiv 2 = ((x / 2 : Nat) : Int) := by rw [Int.tdiv_eq_ediv_of_nonneg (by omega)]; omega
                go_wp2
                go_round
                case rel => exact ⟨x / 2, g + 1, by go_num, by go_num, by omega, Lib.hid (by have h1 := HG.out; rw [dn_step hx0] at h1; omega)⟩
                case measure => simp [intOf]; omega
              · obtain rfl : x = 0 := by omega
                have hg : dn (M + 1) = g := by have h1 := HG.out; rw [show dn 0 = 0 from by unfold dn; rfl] at h1; omega
                rw [hg] at hS2 hP
                have hw1 : IntKind.i64.wrap (2 * (g : Int)) = 2 * (g : Int) := IntWalk.i64_in _ (by omega)
                have hP2 : 2 * (g : Int) * ((cc : Int) + 1) ≤ 1600000 := by
                  have : (2 * (g : Int) * ((cc : Int) + 1)) = ((2 * g * (cc + 1) : Nat) : Int) := by push_cast; rfl
                  omega
                have hP3 : 0 ≤ 2 * (g : Int) * ((cc : Int) + 1) := by
                  have : (2 * (g : Int) * ((cc : Int) + 1)) = ((2 * g * (cc + 1) : Nat) : Int) := by push_cast; rfl
                  omega
                have hw2 : IntKind.i64.wrap (2 * (g : Int) * ((cc : Int) + 1)) = 2 * (g : Int) * ((cc : Int) + 1) := IntWalk.i64_in _ (by omega)
                have hS3 : s + (d : Int) ≤ 2 * (g : Int) * ((cc : Int) + 1) := by
                  have : (2 * (g : Int) * ((cc : Int) + 1)) = ((2 * g * (cc + 1) : Nat) : Int) := by push_cast; rfl
                  omega
                clear hg hS2 hP
                go_wp2_with fail
                refine (steps_any (HS9.out.hl.below HB9.out)).mono ?_
                rintro e w10 ⟨rfl, hb10⟩
                have HB10 := Lib.hid (bt HB9.out hb10)
                clear hb10
                go_wp2_with fail
                refine (steps_any (HS9.out.hl.below HB10.out)).mono ?_
                rintro e w11 ⟨rfl, hb11⟩
                have HB11 := Lib.hid (bt HB10.out hb11)
                clear hb11
                go_wp2
                go_roundw
                case rel => exact ⟨t + 1, cc + 1, M, L', F6, s + d, by omega, by go_num, by first | rfl | go_num, by rw [HM.out], Lib.hid ⟨HS9.out.hl.below HB11.out, bt HS9.out.bel HB11.out, HS9.out.own, HS9.out.len, HS9.out.mst, HS9.out.s0, HS9.out.s1, HS9.out.cc1⟩⟩
                case measure => first | (simp [intOf]; done) | (simp [intOf]; omega)
        · by_cases k1 : kd = 1
          · subst k1
            have hl1 : (ldel L ky).length ≤ L.length := List.length_filter_le _ _
            go_wp2_with fail
            refine (hdrop (HQ.out.hl.below HB3.out) ky HXO.out.2.1 hs0 (by omega)).mono ?_
            rintro e w7 ⟨rfl, F6, d, h6, c6, n6, l6⟩
            obtain ⟨s', hs'⟩ : ∃ s' : Nat, s = s' := ⟨s.toNat, by omega⟩
            have HS8 := HCost.out _ F6 d 1 w7 h6 c6 n6 (by
              rw [hs'] at hs1 ⊢
              have := cost_up (a := most) (b := cc) (c := max most (max L.length (ldel L ky).length)) (d := d) (s := s') (by omega) (by omega) (Nat.le_trans l6 (lg_mono (by omega)))
              omega) (by omega) (by omega)
            clear h6 c6 n6 l6 HCost hs' e0 e1 e2
            generalize ldel L ky = L' at *
            obtain ⟨M, hMs, HS9⟩ : ∃ M, ((M = most ∧ ¬ most < L'.length) ∨ (M = L'.length ∧ most < L'.length)) ∧ Hid (SW W w7 hp F6 L' (s + d) (t + 1) (cc + 1) M) := by
              by_cases hx : most < L'.length
              · exact ⟨L'.length, .inr ⟨rfl, hx⟩, by have := HS8.out; rwa [show max most (max L.length L'.length) = L'.length by omega] at this⟩
              · exact ⟨most, .inl ⟨rfl, hx⟩, by have := HS8.out; rwa [show max most (max L.length L'.length) = most by omega] at this⟩
            clear HS8
            have HS9 := HS9
            have hMt := HS9.out.mst
            have hcc1 := HS9.out.cc1
            have hs0' := HS9.out.s0
            have hlgd := lg_dn M
            have hdM := dn_le (M + 1)
            have hss := HS9.out.s1
            have hS2 : s + (d : Int) ≤ (2 * dn (M + 1) * (cc + 1) : Nat) := by
              have := Nat.mul_le_mul_right (cc + 1) hlgd
              omega
            have hP : 2 * dn (M + 1) * (cc + 1) ≤ 2 * 400 * 2000 := Nat.mul_le_mul (Nat.mul_le_mul_left 2 (by omega)) (by omega)
            have HDM := Lib.hid hdM
            clear hlgd hdM hss
            rcases hMs with ⟨hM, hx⟩ | ⟨hM, hx⟩
            rotate_left
            · exfalso; omega
            all_goals
              have HM := Lib.hid hM
              clear hM
              go_wp2_with fail
              refine (hlong HS9.out.hl).mono ?_
              rintro e w9 ⟨rfl, hb9⟩
              have HB9 := Lib.hid hb9
              clear hb9
              go_wp2
              go_loop [8, 9] (fun dv xv => ∃ (x g : Nat), xv = .int .i64 x ∧ dv = .int .i64 g ∧ x ≤ M + 1 ∧ Hid (g + dn x = dn (M + 1))) (fun _ xv => (intOf xv).toNat)
              case atStart => exact ⟨M + 1, 0, by rw [HM.out]; go_num, rfl, Nat.le_refl _, Lib.hid (by simp)⟩
              case round =>
                obtain ⟨x, g, rfl, rfl, hxM, HG⟩ := hrel
                have hgb : g ≤ 400 := by have h1 := HG.out; have h2 := HDM.out; omega
                by_cases hx0 : 0 < x
                · have hxI : (0 : Int) < (x : Int) := by omega
                  have hq : (x : Int).tdiv 2 = ((x / 2 : Nat) : Int) := by rw [Int.tdiv_eq_ediv_of_nonneg (by omega)]; omega
                  go_wp2
                  go_round
                  case rel => exact ⟨x / 2, g + 1, by go_num, by go_num, by omega, Lib.hid (by have h1 := HG.out; rw [dn_step hx0] at h1; omega)⟩
                  case measure => simp [intOf]; omega
                · obtain rfl : x = 0 := by omega
                  have hg : dn (M + 1) = g := by have h1 := HG.out; rw [show dn 0 = 0 from by unfold dn; rfl] at h1; omega
                  rw [hg] at hS2 hP
                  have hw1 : IntKind.i64.wrap (2 * (g : Int)) = 2 * (g : Int) := IntWalk.i64_in _ (by omega)
                  have hP2 : 2 * (g : Int) * ((cc : Int) + 1) ≤ 1600000 := by
                    have : (2 * (g : Int) * ((cc : Int) + 1)) = ((2 * g * (cc + 1) : Nat) : Int) := by push_cast; rfl
                    omega
                  have hP3 : 0 ≤ 2 * (g : Int) * ((cc : Int) + 1) := by
                    have : (2 * (g : Int) * ((cc : Int) + 1)) = ((2 * g * (cc + 1) : Nat) : Int) := by push_cast; rfl
                    omega
                  have hw2 : IntKind.i64.wrap (2 * (g : Int) * ((cc : Int) + 1)) = 2 * (g : Int) * ((cc : Int) + 1) := IntWalk.i64_in _ (by omega)
                  have hS3 : s + (d : Int) ≤ 2 * (g : Int) * ((cc : Int) + 1) := by
                    have : (2 * (g : Int) * ((cc : Int) + 1)) = ((2 * g * (cc + 1) : Nat) : Int) := by push_cast; rfl
                    omega
                  clear hg hS2 hP
                  go_wp2_with fail
                  refine (steps_any (HS9.out.hl.below HB9.out)).mono ?_
                  rintro e w10 ⟨rfl, hb10⟩
                  have HB10 := Lib.hid (bt HB9.out hb10)
                  clear hb10
                  go_wp2_with fail
                  refine (steps_any (HS9.out.hl.below HB10.out)).mono ?_
                  rintro e w11 ⟨rfl, hb11⟩
                  have HB11 := Lib.hid (bt HB10.out hb11)
                  clear hb11
                  go_wp2
                  go_roundw
                  case rel => exact ⟨t + 1, cc + 1, M, L', F6, s + d, by omega, by go_num, by first | rfl | go_num, by rw [HM.out], Lib.hid ⟨HS9.out.hl.below HB11.out, bt HS9.out.bel HB11.out, HS9.out.own, HS9.out.len, HS9.out.mst, HS9.out.s0, HS9.out.s1, HS9.out.cc1⟩⟩
                  case measure => first | (simp [intOf]; done) | (simp [intOf]; omega)
          · by_cases k2 : kd = 2
            · subst k2
              have hl1 : L.tail.length ≤ L.length := by simp
              go_wp2_with fail
              refine (hpop' (HQ.out.hl.below HB3.out) hs0 (by omega)).mono ?_
              rintro e w7 ⟨k2, t2, ok2, rfl, F6, d, h6, c6, n6, l6⟩
              obtain ⟨s', hs'⟩ : ∃ s' : Nat, s = s' := ⟨s.toNat, by omega⟩
              have HS8 := HCost.out _ F6 d 1 w7 h6 c6 n6 (by
                rw [hs'] at hs1 ⊢
                have := cost_up (a := most) (b := cc) (c := max most (max L.length L.tail.length)) (d := d) (s := s') (by omega) (by omega) (Nat.le_trans l6 (lg_mono (by omega)))
                omega) (by omega) (by omega)
              clear h6 c6 n6 l6 HCost hs' e0 e1 e2
              generalize L.tail = L' at *
              obtain ⟨M, hMs, HS9⟩ : ∃ M, ((M = most ∧ ¬ most < L'.length) ∨ (M = L'.length ∧ most < L'.length)) ∧ Hid (SW W w7 hp F6 L' (s + d) (t + 1) (cc + 1) M) := by
                by_cases hx : most < L'.length
                · exact ⟨L'.length, .inr ⟨rfl, hx⟩, by have := HS8.out; rwa [show max most (max L.length L'.length) = L'.length by omega] at this⟩
                · exact ⟨most, .inl ⟨rfl, hx⟩, by have := HS8.out; rwa [show max most (max L.length L'.length) = most by omega] at this⟩
              clear HS8
              have HS9 := HS9
              have hMt := HS9.out.mst
              have hcc1 := HS9.out.cc1
              have hs0' := HS9.out.s0
              have hlgd := lg_dn M
              have hdM := dn_le (M + 1)
              have hss := HS9.out.s1
              have hS2 : s + (d : Int) ≤ (2 * dn (M + 1) * (cc + 1) : Nat) := by
                have := Nat.mul_le_mul_right (cc + 1) hlgd
                omega
              have hP : 2 * dn (M + 1) * (cc + 1) ≤ 2 * 400 * 2000 := Nat.mul_le_mul (Nat.mul_le_mul_left 2 (by omega)) (by omega)
              have HDM := Lib.hid hdM
              clear hlgd hdM hss
              rcases hMs with ⟨hM, hx⟩ | ⟨hM, hx⟩
              rotate_left
              · exfalso; omega
              all_goals
                have HM := Lib.hid hM
                clear hM
                go_wp2_with fail
                refine (hlong HS9.out.hl).mono ?_
                rintro e w9 ⟨rfl, hb9⟩
                have HB9 := Lib.hid hb9
                clear hb9
                go_wp2
                go_loop [8, 9] (fun dv xv => ∃ (x g : Nat), xv = .int .i64 x ∧ dv = .int .i64 g ∧ x ≤ M + 1 ∧ Hid (g + dn x = dn (M + 1))) (fun _ xv => (intOf xv).toNat)
                case atStart => exact ⟨M + 1, 0, by rw [HM.out]; go_num, rfl, Nat.le_refl _, Lib.hid (by simp)⟩
                case round =>
                  obtain ⟨x, g, rfl, rfl, hxM, HG⟩ := hrel
                  have hgb : g ≤ 400 := by have h1 := HG.out; have h2 := HDM.out; omega
                  by_cases hx0 : 0 < x
                  · have hxI : (0 : Int) < (x : Int) := by omega
                    have hq : (x : Int).tdiv 2 = ((x / 2 : Nat) : Int) := by rw [Int.tdiv_eq_ediv_of_nonneg (by omega)]; omega
                    go_wp2
                    go_round
                    case rel => exact ⟨x / 2, g + 1, by go_num, by go_num, by omega, Lib.hid (by have h1 := HG.out; rw [dn_step hx0] at h1; omega)⟩
                    case measure => simp [intOf]; omega
                  · obtain rfl : x = 0 := by omega
                    have hg : dn (M + 1) = g := by have h1 := HG.out; rw [show dn 0 = 0 from by unfold dn; rfl] at h1; omega
                    rw [hg] at hS2 hP
                    have hw1 : IntKind.i64.wrap (2 * (g : Int)) = 2 * (g : Int) := IntWalk.i64_in _ (by omega)
                    have hP2 : 2 * (g : Int) * ((cc : Int) + 1) ≤ 1600000 := by
                      have : (2 * (g : Int) * ((cc : Int) + 1)) = ((2 * g * (cc + 1) : Nat) : Int) := by push_cast; rfl
                      omega
                    have hP3 : 0 ≤ 2 * (g : Int) * ((cc : Int) + 1) := by
                      have : (2 * (g : Int) * ((cc : Int) + 1)) = ((2 * g * (cc + 1) : Nat) : Int) := by push_cast; rfl
                      omega
                    have hw2 : IntKind.i64.wrap (2 * (g : Int) * ((cc : Int) + 1)) = 2 * (g : Int) * ((cc : Int) + 1) := IntWalk.i64_in _ (by omega)
                    have hS3 : s + (d : Int) ≤ 2 * (g : Int) * ((cc : Int) + 1) := by
                      have : (2 * (g : Int) * ((cc : Int) + 1)) = ((2 * g * (cc + 1) : Nat) : Int) := by push_cast; rfl
                      omega
                    clear hg hS2 hP
                    go_wp2_with fail
                    refine (steps_any (HS9.out.hl.below HB9.out)).mono ?_
                    rintro e w10 ⟨rfl, hb10⟩
                    have HB10 := Lib.hid (bt HB9.out hb10)
                    clear hb10
                    go_wp2_with fail
                    refine (steps_any (HS9.out.hl.below HB10.out)).mono ?_
                    rintro e w11 ⟨rfl, hb11⟩
                    have HB11 := Lib.hid (bt HB10.out hb11)
                    clear hb11
                    go_wp2
                    go_roundw
                    case rel => exact ⟨t + 1, cc + 1, M, L', F6, s + d, by omega, by go_num, by first | rfl | go_num, by rw [HM.out], Lib.hid ⟨HS9.out.hl.below HB11.out, bt HS9.out.bel HB11.out, HS9.out.own, HS9.out.len, HS9.out.mst, HS9.out.s0, HS9.out.s1, HS9.out.cc1⟩⟩
                    case measure => first | (simp [intOf]; done) | (simp [intOf]; omega)
            · have k0b : (kd == 0) = false := by simpa using k0
              have k1b : (kd == 1) = false := by simpa using k1
              have k2b : (kd == 2) = false := by simpa using k2
              clear k0 k1 k2
              go_wp2_with fail
              refine (due_any (HQ.out.hl.below HB3.out) at_ (by omega) hs0 (by omega)).mono ?_
              rintro e w7 ⟨dv, F6, d, rfl, hd⟩
              have hdl := hd.len
              obtain ⟨av, capv, rfl⟩ := own_len hd.own
              rw [List.length_map] at *
              have HS8 := HCost.out _ F6 d (lupto L at_).length w7 hd.hl hd.chg hd.new (by
                have h1 := hd.cost
                have h2 : lg L.length ≤ lg (max most (max L.length (lfrom L at_).length)) := lg_mono (by omega)
                have h3 : lg most ≤ lg (max most (max L.length (lfrom L at_).length)) := lg_mono (by omega)
                have h4 := Nat.mul_le_mul_right (lupto L at_).length h2
                have h5 := Nat.mul_le_mul_right cc h3
                rw [Nat.mul_add]; omega) (by omega) (by omega)
              clear hd HCost e0 e1 e2
              generalize lfrom L at_ = L' at *
              generalize (lupto L at_).length = dl at *
              obtain ⟨M, hMs, HS9⟩ : ∃ M, ((M = most ∧ ¬ most < L'.length) ∨ (M = L'.length ∧ most < L'.length)) ∧ Hid (SW W w7 hp F6 L' (s + d) (t + 1) (cc + dl) M) := by
                by_cases hx : most < L'.length
                · exact ⟨L'.length, .inr ⟨rfl, hx⟩, by have := HS8.out; rwa [show max most (max L.length L'.length) = L'.length by omega] at this⟩
                · exact ⟨most, .inl ⟨rfl, hx⟩, by have := HS8.out; rwa [show max most (max L.length L'.length) = most by omega] at this⟩
              clear HS8
              have HS9 := HS9
              have hMt := HS9.out.mst
              have hcc1 := HS9.out.cc1
              have hs0' := HS9.out.s0
              have hlgd := lg_dn M
              have hdM := dn_le (M + 1)
              have hss := HS9.out.s1
              have hS2 : s + (d : Int) ≤ (2 * dn (M + 1) * (cc + dl) : Nat) := by
                have := Nat.mul_le_mul_right (cc + dl) hlgd
                omega
              have hP : 2 * dn (M + 1) * (cc + dl) ≤ 2 * 400 * 2000 := Nat.mul_le_mul (Nat.mul_le_mul_left 2 (by omega)) (by omega)
              have HDM := Lib.hid hdM
              clear hlgd hdM hss
              rcases hMs with ⟨hM, hx⟩ | ⟨hM, hx⟩
              rotate_left
              · exfalso; omega
              all_goals
                have HM := Lib.hid hM
                clear hM
                go_wp2_with fail
                refine (hlong HS9.out.hl).mono ?_
                rintro e w9 ⟨rfl, hb9⟩
                have HB9 := Lib.hid hb9
                clear hb9
                go_wp2
                go_loop [8, 9] (fun dv xv => ∃ (x g : Nat), xv = .int .i64 x ∧ dv = .int .i64 g ∧ x ≤ M + 1 ∧ Hid (g + dn x = dn (M + 1))) (fun _ xv => (intOf xv).toNat)
                case atStart => exact ⟨M + 1, 0, by rw [HM.out]; go_num, rfl, Nat.le_refl _, Lib.hid (by simp)⟩
                case round =>
                  obtain ⟨x, g, rfl, rfl, hxM, HG⟩ := hrel
                  have hgb : g ≤ 400 := by have h1 := HG.out; have h2 := HDM.out; omega
                  by_cases hx0 : 0 < x
                  · have hxI : (0 : Int) < (x : Int) := by omega
                    have hq : (x : Int).tdiv 2 = ((x / 2 : Nat) : Int) := by rw [Int.tdiv_eq_ediv_of_nonneg (by omega)]; omega
                    go_wp2
                    go_round
                    case rel => exact ⟨x / 2, g + 1, by go_num, by go_num, by omega, Lib.hid (by have h1 := HG.out; rw [dn_step hx0] at h1; omega)⟩
                    case measure => simp [intOf]; omega
                  · obtain rfl : x = 0 := by omega
                    have hg : dn (M + 1) = g := by have h1 := HG.out; rw [show dn 0 = 0 from by unfold dn; rfl] at h1; omega
                    rw [hg] at hS2 hP
                    have hw1 : IntKind.i64.wrap (2 * (g : Int)) = 2 * (g : Int) := IntWalk.i64_in _ (by omega)
                    have hP2 : 2 * (g : Int) * ((cc : Int) + (dl : Int)) ≤ 1600000 := by
                      have : (2 * (g : Int) * ((cc : Int) + (dl : Int))) = ((2 * g * (cc + dl) : Nat) : Int) := by push_cast; rfl
                      omega
                    have hP3 : 0 ≤ 2 * (g : Int) * ((cc : Int) + (dl : Int)) := by
                      have : (2 * (g : Int) * ((cc : Int) + (dl : Int))) = ((2 * g * (cc + dl) : Nat) : Int) := by push_cast; rfl
                      omega
                    have hw2 : IntKind.i64.wrap (2 * (g : Int) * ((cc : Int) + (dl : Int))) = 2 * (g : Int) * ((cc : Int) + (dl : Int)) := IntWalk.i64_in _ (by omega)
                    have hS3 : s + (d : Int) ≤ 2 * (g : Int) * ((cc : Int) + (dl : Int)) := by
                      have : (2 * (g : Int) * ((cc : Int) + (dl : Int))) = ((2 * g * (cc + dl) : Nat) : Int) := by push_cast; rfl
                      omega
                    clear hg hS2 hP
                    go_wp2_with fail
                    refine (steps_any (HS9.out.hl.below HB9.out)).mono ?_
                    rintro e w10 ⟨rfl, hb10⟩
                    have HB10 := Lib.hid (bt HB9.out hb10)
                    clear hb10
                    go_wp2_with fail
                    refine (steps_any (HS9.out.hl.below HB10.out)).mono ?_
                    rintro e w11 ⟨rfl, hb11⟩
                    have HB11 := Lib.hid (bt HB10.out hb11)
                    clear hb11
                    go_wp2
                    go_roundw
                    case rel => exact ⟨t + 1, cc + dl, M, L', F6, s + d, by omega, by go_num, by first | rfl | go_num, by rw [HM.out], Lib.hid ⟨HS9.out.hl.below HB11.out, bt HS9.out.bel HB11.out, HS9.out.own, HS9.out.len, HS9.out.mst, HS9.out.s0, HS9.out.s1, HS9.out.cc1⟩⟩
                    case measure => first | (simp [intOf]; done) | (simp [intOf]; omega)
      · obtain rfl : n = t := by omega
        go_wp2_with fail
        refine (pop_none _).mono ?_
        rintro e w3 ⟨rfl, hb3⟩
        have z : HZ w3 w2.heap.size := by
          have := hb3.block w2.heap.size (by simp)
          unfold HZ
          rw [this]
          exact heap_alloc_new w2 _
        have HZ3 := Lib.hid z
        have hs3 := hb3.size
        simp at hs3
        have HB3 := Lib.hid (bt (ba HQ.out.bel _) hb3)
        clear hb3 z
        go_wp2_with fail
        refine (put_none 1 1 _).mono ?_
        rintro e w4 ⟨rfl, hb4⟩
        have HB4 := Lib.hid hb4
        clear hb4
        go_wp2_with fail
        refine (due_none 9 _).mono ?_
        rintro e w5 ⟨rfl, hb5⟩
        have HB5 := Lib.hid (bt HB4.out hb5)
        have HZ5 := Lib.hid (show HZ w5 w2.heap.size by
          have h := HZ3.out
          unfold HZ at *
          rw [HB5.out.block _ (by omega)]; exact h)
        clear hb5
        go_wp2_with fail
        refine (put_plain HZ5.out 1 1).mono ?_
        rintro e w6 ⟨rfl, hb6⟩
        have HZ6 := Lib.hid (show HZ w6 w2.heap.size by
          have h := HZ5.out
          have := HB5.out.size
          unfold HZ at *
          rw [hb6.block _ (by omega)]; exact h)
        have HB6 := Lib.hid (bt HB5.out hb6)
        clear hb6
        go_wp2_with fail
        refine (long_plain HZ6.out).mono ?_
        rintro e w7 ⟨rfl, hb7⟩
        have HB7 := Lib.hid (bt HB6.out hb7)
        clear hb7
        go_wp2_with fail
        refine (works11 _).mono ?_
        rintro e w8 ⟨rfl, hb8⟩
        go_wp2
        go_ret
        exact ⟨rfl, bt HB3.out (bt HB7.out hb8)⟩
namespace HeapSteps
open Go.ChangeShapes Go.WideShapes Go.ChangeAt Go.RowKit Go.Joins
theorem own : ownKnob Try.prog.godebug = none := by kernel_rfl
theorem laidOut : laidOutB Try.prog = true := by kernel_rfl
set_option maxRecDepth 100000 in
theorem lifted (os : Os) (started : os.Started) (H : Type) (enc : TypeId × Value → H) :
    ReturnsInHanded {} Try.checked os 7 .any (Rows.heapStepsSpec.pre6 enc Try.prog Try.f7 Rows.heapStepsRow.domain false) (Rows.heapStepsSpec.post enc Try.prog Try.f7 false true false false) := by
  refine returnsInHanded_of_change (C := Try.checked) own started (by kernel_rfl) Try.func7
    (ChangeSpec.witness6 (enc := enc) (C := Try.checked) false ⟨#[], #[.slice none 0 0], []⟩ 8 (by kernel_rfl) (by kernel_rfl) (by kernel_rfl) (by kernel_rfl)) ?_
  intro W base args ds gs before hval0 hW hcnd _
  have hval : ∀ (j : Nat) t v, Try.f7.params[j]? = some t → args[j]? = some v → Value.okWide Try.prog W .any base t v := hval0
  have hW' := hW
  obtain ⟨p, q, hA0, hV, rfl, hfz, hnd⟩ := hW
  have hA : DataW.TrodAll enc Try.prog W 0 (fun _ => true) true Try.f7.params.toList args.toList ds p := hA0
  rw [Try.params7] at hA hval
  obtain ⟨v0, vs0, d0, ds0, p0, q0, hargs, rfl, rfl, h0, r0⟩ := trodAll_cons hA
  obtain ⟨rfl, rfl, rfl⟩ := trodAll_nil r0
  obtain rfl : args = #[v0] := by cases args; simp_all
  obtain ⟨rfl, rfl⟩ := trodVars_none hV
  have k0 := h0
  have lt0 : ∀ x ∈ p0, x.block < W.heap.size := by obtain ⟨m, hm⟩ := k0; exact DataW.trod_lt m _ _ _ hm
  obtain ⟨la, oA, iA, _⟩ := open_acts (hval 0 47 v0 rfl rfl) k0
  clear hA0 hval0
  refine (steps11 v0 la W oA iA).mono fun e W' ⟨he, bel⟩ => ?_
  subst he
  exact ⟨_, rfl, _, _, _, [], _, [], hW', trodAll_mk1 (shut_bool Try.underlying4 _), (trodAll_cons_mk (Below.trod laidOut (by kernel_rfl) (of_decide_eq_true (by kernel_rfl)) k0 bel lt0) trodAll_mk0), rfl, bel.frame _, fun h => by cases h⟩
theorem over : Rows.heapStepsRow.holds Try.pinned (OpenSpec.ofChange Rows.heapStepsSpec) :=
  OpenClaim.holds_of_wide 7 Try.f7 rfl rfl rfl rfl rfl rfl rfl ⟨rfl, rfl, rfl, rfl, rfl⟩ rfl rfl rfl rfl rfl (by kernel_rfl) Try.func7 (by kernel_rfl)
    (of_decide_eq_true (by kernel_rfl)) (by unfold Func.isWrapper; first | (rw [if_pos (by decide +kernel)]; kernel_rfl) | (rw [if_neg (by decide +kernel)]; exact ⟨rfl, rfl⟩))
    (fun os started H enc _ => lifted os started H enc)
theorem proved : Rows.HeapStepsSaid := over
end HeapSteps
end Go.Proofs.Ytajcelmnblncaaa

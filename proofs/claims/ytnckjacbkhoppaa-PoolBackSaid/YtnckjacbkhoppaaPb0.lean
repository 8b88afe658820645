/- vec.Only at a valid vector. -/
import Derived.Test.YtnckjacbkhoppaaPs2
namespace Go.Proofs.Ytnckjacbkhoppaa
open Go.RowKit
attribute [local go_sem] ext_cell ext_frozen Mix.calmUpon Mix.mUpon
/-- The parts whose role is one that is told. -/
def flt (g : Int → Bool) (l : List Pt) : List Pt := l.filter fun p => g p.2.1
theorem flt_snoc (g : Int → Bool) (l : List Pt) (p : Pt) : flt g (l ++ [p]) = flt g l ++ (if g p.2.1 = true then [p] else []) := by
  unfold flt
  rw [List.filter_append, List.filter_cons, List.filter_nil]
theorem flt_len (g : Int → Bool) (l : List Pt) : (flt g l).length ≤ l.length := List.length_filter_le _ _
/-- Where a loop that gathers parts stands. -/
structure GS (W wr : World) (v : Value) (m : List Pt) : Prop where
  own : OwnP wr W.heap.size v m
  bel : Below W.heap.size W wr
set_option maxRecDepth 100000 in
set_option maxHeartbeats 8000000 in
theorem vonly_good (v rs : Value) (l : List Pt) (g : Int → Bool) (h : VR l) (W : World) (hV : Vc W v l) (hG : ∀ x w, Below W.heap.size W w → Calls Try.prog 87 #[rs, .int .i64 x] w fun e w' => e = .returned (.bool (g x)) ∧ Below w.heap.size w w') : Calls Try.prog 28 #[v, rs] W fun e w' => ∃ u, e = .returned u ∧ Vc w' u (flt g l) ∧ Below W.heap.size W w' := by
  obtain ⟨i0, hi, hz0, hz1, hz2⟩ := info_parts infoPart
  obtain ⟨a, n, cap, rfl, hn, hC⟩ := hV.cells
  have HC := Lib.hid hC; have HN := Lib.hid hn; have HVc := Lib.hid hV
  have hlen := vr_len h
  have hn9 : n ≤ 132 := by omega
  have HR := vecright_v (.slice a n cap) l (by omega)
  rw [decide_eq_true h] at HR
  have HR := Lib.hid HR
  have HG := Lib.hid hG
  clear hC hn hV h hlen hG
  go_enter Try.func28, Try.ntmps28
  go_wp2_with fail
  (with_reducible refine (HR.out.app _ HVc.out).mono ?_)
  rintro e w1 ⟨rfl, hb1⟩
  have hs1 : W.heap.size + 0 ≤ w1.heap.size := (by have h := hb1.size; first | omega | (simp at h; omega))
  obtain ⟨hc1, hf1, hl1⟩ := bcell hb1
  clear hl1
  have HW := Lib.hid (show Below W.heap.size W w1 by (repeat (first | assumption | exact Below.refl _ _ | refine ba ?_ _ | refine bd ?_ | refine bdn ?_ _ | refine bs ?_ (by first | omega | (simp; done) | (simp; omega)) _ | refine bt ?_ (by assumption))))
  go_wp2
  go_loopw [5, 13] (fun v i wr => ∃ t : Nat, t ≤ n ∧ i = .int .i64 t ∧ Hid (GS W wr v (flt g (l.take t)))) (fun _ i _ => n - (intOf i).toNat)
  case atStart => exact ⟨0, Nat.zero_le _, rfl, Lib.hid ⟨World.ownsRow_nil _ _ _ _, HW.out⟩⟩
  case round =>
    clear HW
    obtain ⟨t, ht, rfl, HS⟩ := hrel
    obtain ⟨w3, rfl⟩ : ∃ w3, w3 = wr := ⟨_, rfl⟩
    have hb3 := HS.out.bel
    have hs3 := hb3.size
    have hs3 : W.heap.size + 0 ≤ w3.heap.size := (by have h := hb3.size; first | omega | (simp at h; omega))
    obtain ⟨hc3, hf3, hl3⟩ := bcell hb3
    clear hl3
    by_cases hlt : t < n
    · have hts : (t : Int) < (n : Int) := by omega
      have hll : t < l.length := by rw [← HN.out]; exact hlt
      obtain ⟨b, off, rfl, hb, c0, c1, c2⟩ := HC.out t hlt
      have hbl : b < w3.heap.size := Nat.lt_of_lt_of_le hb hb3.size
      have HT := Lib.hid (show flt g (l.take (t + 1)) = flt g (l.take t) ++ (if g (rr l t) = true then [(kk l t, rr l t, aa l t)] else []) by rw [take_succ' hll, flt_snoc])
      have hfl := flt_len g (l.take t)
      have htl : (l.take t).length ≤ n := by rw [HN.out]; exact List.length_take_le' _ _
      clear hll
      generalize kk l t = k at *; generalize rr l t = r at *; generalize aa l t = x at *
      have K := HG.out r
      cases hq : g r with
      | true =>
        rw [hq] at K HT
        have K := Lib.hid K
        have HT2 := Lib.hid (show flt g (l.take (t + 1)) = flt g (l.take t) ++ [(k, r, x)] by rw [HT.out, if_pos rfl])
        clear hq
        go_wp2_with fail
        (with_reducible refine (K.out _ (by (repeat (first | assumption | exact Below.refl _ _ | refine ba ?_ _ | refine bd ?_ | refine bdn ?_ _ | refine bs ?_ (by first | omega | (simp; done) | (simp; omega)) _ | refine bt ?_ (by assumption))))).mono ?_)
        rintro e w4 ⟨rfl, hb4⟩
        have hs4 : w3.heap.size + 1 ≤ w4.heap.size := (by have h := hb4.size; first | omega | (simp at h; omega))
        have hb3_4 := bel hb3 hb4 (by (repeat (first | assumption | exact Below.refl _ _ | refine ba ?_ _ | refine bd ?_ | refine bdn ?_ _ | refine bs ?_ (by first | omega | (simp; done) | (simp; omega)) _ | refine bt ?_ (by assumption))))
        clear hc3 hf3
        have hz4_0 : w3.heap.size < w4.heap.size := (by omega)
        obtain ⟨hc4, hf4, hl4⟩ := bcell hb4
        clear hl4
        have HB4 := Lib.hid (show Below w3.heap.size w3 w4 from bt (ba (Below.refl _ _) _) hb4)
        have hs4 := HB4.out.size
        have HSo := Lib.hid (rowP_grow HS.out.own HB4.out)
        go_wp2_with (at_builtin; refine wpList_append_own _ rfl _ _ 26 rfl W.heap.size 86 i0 (.agg #[.int .i64 0, .int .i64 0, .int .i64 0]) 3 24 Try.underlying26 hi hz0 hz1 hz2 rfl (by decide) _ _ _ rfl (HSo.out.alloc _) ⟨_, 0, none⟩ 1 1 [.int .i64 k, .int .i64 r, .int .i64 x] rfl rfl ?c1 ?c2 ?c3 ?c4 ?c5 ?_)
        case c1 => intro q u' hq; rcases q with _ | _ | _ | q <;> simp at hq <;> subst hq <;> simp [Addr.add, go_sem]
        case c2 => intro u' hu; simp at hu; rcases hu with rfl | rfl | rfl <;> rfl
        case c3 => unfold maxLen; omega
        case c4 => omega
        case c5 => (first | (simp; omega) | omega)
        intro v' w9 hown' hgrow _
        have HV9 := Lib.hid hown'
        have HB9 := Lib.hid (Below.grown (show Below W.heap.size W _ from (ba (bt hb3 HB4.out) _)) hgrow (by first | omega | (simp; omega)) (fun j hj => (HS.out.own.lt j hj).1))
        clear hown' hgrow
        go_wp2
        go_roundw
        case rel =>
          exact ⟨t + 1, by omega, by go_num, Lib.hid ⟨by rw [HT2.out, OwnP, pcells_append, List.length_append]; exact HV9.out, HB9.out⟩⟩
        case measure => simp [intOf]; omega
      | false =>
        rw [hq] at K HT
        have K := Lib.hid K
        have HT2 := Lib.hid (show flt g (l.take (t + 1)) = flt g (l.take t) by rw [HT.out, if_neg (by simp), List.append_nil])
        clear hq
        go_wp2_with fail
        (with_reducible refine (K.out _ (by (repeat (first | assumption | exact Below.refl _ _ | refine ba ?_ _ | refine bd ?_ | refine bdn ?_ _ | refine bs ?_ (by first | omega | (simp; done) | (simp; omega)) _ | refine bt ?_ (by assumption))))).mono ?_)
        rintro e w4 ⟨rfl, hb4⟩
        have hs4 : w3.heap.size + 1 ≤ w4.heap.size := (by have h := hb4.size; first | omega | (simp at h; omega))
        have hb3_4 := bel hb3 hb4 (by (repeat (first | assumption | exact Below.refl _ _ | refine ba ?_ _ | refine bd ?_ | refine bdn ?_ _ | refine bs ?_ (by first | omega | (simp; done) | (simp; omega)) _ | refine bt ?_ (by assumption))))
        clear hc3 hf3
        have hz4_0 : w3.heap.size < w4.heap.size := (by omega)
        obtain ⟨hc4, hf4, hl4⟩ := bcell hb4
        clear hl4
        have HB4 := Lib.hid (show Below w3.heap.size w3 w4 from bt (ba (Below.refl _ _) _) hb4)
        go_wp2
        go_roundw
        case rel => exact ⟨t + 1, by omega, by go_num, Lib.hid ⟨by rw [HT2.out]; exact rowP_grow HS.out.own HB4.out, bt hb3 HB4.out⟩⟩
        case measure => simp [intOf]; omega
    · obtain rfl : n = t := by omega
      have HF := HS.out.own
      rw [show l.take n = l from by rw [HN.out]; exact List.take_length] at HF
      have HV := Lib.hid HF
      have HF9 := Lib.hid hb3
      clear HF
      go_wp2
      go_ret
      exact ⟨_, rfl, HV.out.vc, by have := HF9.out; (repeat (first | assumption | exact Below.refl _ _ | refine ba ?_ _ | refine bd ?_ | refine bdn ?_ _ | refine bs ?_ (by first | omega | (simp; done) | (simp; omega)) _ | refine bt ?_ (by assumption)))⟩
set_option maxRecDepth 100000 in
theorem index1 (w : World) (b : Nat) (x z : Int) (hb : b < w.heap.size) (h0 : w.cell? ⟨b, 0, none⟩ = some (.int .i64 x)) : Calls Try.prog 118 #[.slice (some ⟨b, 0, none⟩) 1 1, .int .i64 z] w fun e w' => e = .returned (.int .i64 (if z = x then 0 else -1)) ∧ Below w.heap.size w w' := by
  have H0 := Lib.hid h0; have HB := Lib.hid hb
  obtain ⟨q, hq⟩ : ∃ q : Int, (if z = x then 0 else -1) = q := ⟨_, rfl⟩
  rw [hq]
  have HQQ := Lib.hid hq
  clear h0 hb hq
  go_enter Try.func118, Try.ntmps118
  go_wp2
  go_loopw [8] (fun iv wr => ∃ t : Nat, t ≤ 1 ∧ iv = .int .i64 t ∧ Hid (Below w.heap.size w wr ∧ (t = 1 → ¬ z = x))) (fun iv _ => 1 - (intOf iv).toNat)
  case atStart => exact ⟨0, Nat.zero_le _, rfl, Lib.hid ⟨Below.refl _ _, fun e => by cases e⟩⟩
  case round =>
    obtain ⟨t, ht, rfl, HQ⟩ := hrel
    obtain ⟨w3, rfl⟩ : ∃ w3, w3 = wr := ⟨_, rfl⟩
    by_cases hlt : t < 1
    · obtain rfl : t = 0 := by omega
      have c0 := (HQ.out.1.cell (p := ⟨b, 0, none⟩) HB.out).trans H0.out
      have c1 : b < w3.heap.size := Nat.lt_of_lt_of_le HB.out HQ.out.1.size
      by_cases hz : z = x
      · have hzb : (z == x) = true := by simp [hz]
        have HR := Lib.hid (show q = 0 from HQQ.out ▸ if_pos hz)
        clear hz
        go_wp2
        go_ret
        exact ⟨by rw [HR.out]; rfl, HQ.out.1⟩
      · have hzb : (z == x) = false := by simp [hz]
        have HZ := Lib.hid hz
        clear hz
        go_wp2
        go_roundw
        case rel => exact ⟨1, Nat.le_refl _, by go_num, Lib.hid ⟨HQ.out.1, fun _ => HZ.out⟩⟩
        case measure => simp [intOf]
    · obtain rfl : t = 1 := by omega
      have HR := Lib.hid (show q = -1 from HQQ.out ▸ if_neg (HQ.out.2 rfl))
      go_wp2
      go_ret
      exact ⟨by rw [HR.out]; rfl, HQ.out.1⟩
set_option maxRecDepth 100000 in
theorem contains1 (W : World) (b : Nat) (x : Int) (hb : b < W.heap.size) (h0 : W.cell? ⟨b, 0, none⟩ = some (.int .i64 x)) : ∀ z w, Below W.heap.size W w → Calls Try.prog 87 #[.slice (some ⟨b, 0, none⟩) 1 1, .int .i64 z] w fun e w' => e = .returned (.bool (decide (z = x))) ∧ Below w.heap.size w w' := fun z w hw => by
  have HI := Lib.hid (index1 w b x z (Nat.lt_of_lt_of_le hb hw.size) ((hw.cell (p := ⟨b, 0, none⟩) hb).trans h0))
  clear h0 hb hw
  obtain ⟨q, hq⟩ : ∃ q : Bool, decide (z = x) = q := ⟨_, rfl⟩
  rw [hq]
  have HQQ := Lib.hid hq
  clear hq
  go_enter Try.func87, Try.ntmps87
  go_wp2_with fail
  refine HI.out.mono ?_
  rintro e w1 ⟨rfl, hb1⟩
  have HB1 := Lib.hid hb1
  clear hb1
  by_cases hz : z = x
  · have HR := Lib.hid (show q = true from HQQ.out ▸ decide_eq_true hz)
    rw [if_pos hz]
    go_wp2
    go_ret
    exact ⟨by rw [HR.out]; rfl, HB1.out⟩
  · have HR := Lib.hid (show q = false from HQQ.out ▸ decide_eq_false hz)
    rw [if_neg hz]
    go_wp2
    go_ret
    exact ⟨by rw [HR.out]; rfl, HB1.out⟩
end Go.Proofs.Ytnckjacbkhoppaa

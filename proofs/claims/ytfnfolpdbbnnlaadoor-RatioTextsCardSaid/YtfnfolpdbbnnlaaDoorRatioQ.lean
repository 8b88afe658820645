/- Contracts of mancipleref02.Parse and Text; the walk of RatioTexts. Condition: the powers of ten and the error values lie in their variables. -/
import Derived.Test.YtfnfolpdbbnnlaaDoorRatioT
import Derived.Test.YtfnfolpdbbnnlaaDoorRef2
import Derived.Test.YtfnfolpdbbnnlaaDoorRat3
namespace Go.Proofs.YtfnfolpdbbnnlaaDoor
open Go.RowKit
attribute [local go_sem] ext_cell ext_frozen Mix.calmUpon Mix.mUpon
theorem at_list (s : ByteArray) (j : Nat) (h : j < s.size) : s.data.toList[j]'h = s[j]'h := rfl
set_option maxRecDepth 100000 in
set_option maxHeartbeats 2000000 in
theorem refparse_any (s : ByteArray) (hs : s.size ≤ 9223372036854775806) : Pure Tryd.prog 15 #[.string s] (.tuple #[F2 (rQ s).1 (rQ s).2.1, .bool (rQ s).2.2]) := by
  intro W
  go_enter Tryd.func15, Tryd.ntmps15
  go_wp2
  go_loopw [4] (fun i wr => ∃ p : Nat, p ≤ s.size ∧ i = .int .i64 p ∧ Hid (∀ j (hj : j < s.size), j < p → s[j]'hj ≠ 47) ∧ wr = W.alloc (.cells #[.int .i64 0, .int .i64 0] 23)) (fun i _ => s.size - (intOf i).toNat)
  case atStart => exact ⟨0, by omega, rfl, Lib.hid (fun j _ h => by omega), rfl⟩
  case round =>
    obtain ⟨p, hp, rfl, HN, rfl⟩ := hrel
    by_cases hlt : p < s.size
    · by_cases h47 : s[p]'hlt = 47
      · have hix : Lib.indexByte s.data.toList 47 = p := index_at 47 _ p hlt (fun j hj hjp => HN.out j hj hjp) h47
        have hA : cutA 47 s = s.extract 0 p := by unfold cutA; rw [hix, if_pos (by omega)]; rfl
        have hB : cutB 47 s = s.extract (p + 1) s.size := by unfold cutB; rw [hix, if_pos (by omega)]; rfl
        have HA := refnumber_any (s.extract 0 p)
        have HB := refnumber_any (s.extract (p + 1) s.size)
        have hq : rQ s = if 0 ≤ Lib.indexByte s.data.toList 47 ∧ (rN (s.extract 0 p).data.toList).2 = true ∧ (rN (s.extract (p + 1) s.size).data.toList).2 = true ∧ 1 ≤ (rN (s.extract (p + 1) s.size).data.toList).1
            then ((((rN (s.extract 0 p).data.toList).1 : Nat) : Int), (((rN (s.extract (p + 1) s.size).data.toList).1 : Nat) : Int), true) else (0, 0, false) := by unfold rQ; rw [hA, hB]
        rcases ha : rN (s.extract 0 p).data.toList with ⟨a, x⟩
        rcases hb : rN (s.extract (p + 1) s.size).data.toList with ⟨b, y⟩
        rw [ha] at HA hq; rw [hb] at HB hq
        simp only at HA HB hq
        have hx0 : x = false → a = 0 := fun h => by subst h; exact (rN_no ha).1
        have hb0 : (b : Int) ≤ 9223372036854775807 := by
          cases y with
          | false => have := (rN_no hb).1; omega
          | true => have := (rN_yes hb).1; omega
        have HA := Lib.hid HA; have HB := Lib.hid HB
        have HQ := Lib.hid hq
        have HIX := Lib.hid hix
        have t1 : ((s[p]'hlt).toNat : Int) = 47 := by rw [h47]; rfl
        have t1 : (((s[p]'hlt).toNat : Int) == 47) = true := by rw [t1]; rfl
        clear hq hix hA hB ha hb h47 hx0 HN
        cases x with
        | false =>
          have hr : rQ s = (0, 0, false) := by rw [HQ.out, if_neg (fun h => by cases h.2.1)]
          have HR := Lib.hid hr
          clear hr
          go_wp2_with fail
          (with_reducible refine (HA.out _).mono ?_)
          rintro e w1 ⟨rfl, hb1⟩
          have hs1 : W.heap.size + 1 ≤ w1.heap.size := (by have h := hb1.size; first | omega | (simp at h; omega))
          have hz1_0 : W.heap.size < w1.heap.size := (by omega)
          obtain ⟨hc1, hf1, hl1⟩ := bcell hb1
          clear hl1
          go_wp2_with fail
          (with_reducible refine (HB.out _).mono ?_)
          rintro e w2 ⟨rfl, hb2⟩
          have hs2 : w1.heap.size + 0 ≤ w2.heap.size := (by have h := hb2.size; first | omega | (simp at h; omega))
          have hb1_2 := bel hb1 hb2 (by (repeat (first | assumption | exact Below.refl _ _ | refine ba ?_ _ | refine bd ?_ | refine bdn ?_ _ | refine bs ?_ (by first | omega | (simp; done) | (simp; omega)) _ | refine bt ?_ (by assumption))))
          clear hz1_0 hc1 hf1
          obtain ⟨hc1_2, hf1_2, hl1_2⟩ := bcell hb1_2
          clear hl1_2
          have hz2_0 : W.heap.size < w2.heap.size := (by omega)
          obtain ⟨hc2, hf2, hl2⟩ := bcell hb2
          clear hl2
          go_wp2
          have q0 : w2.cell? ⟨W.heap.size, 0, none⟩ = some (.int .i64 0) := ((show Below (W.alloc (.cells #[.int .i64 0, .int .i64 0] 23)).heap.size (W.alloc (.cells #[.int .i64 0, .int .i64 0] 23)) w2 by (repeat (first | assumption | exact Below.refl _ _ | refine ba ?_ _ | refine bd ?_ | refine bdn ?_ _ | refine bs ?_ (by first | omega | (simp; done) | (simp; omega)) _ | refine bt ?_ (by assumption)))).cell (p := ⟨W.heap.size, 0, none⟩) (by simp)).trans (by simp [go_sem])
          have q1 : w2.cell? ⟨W.heap.size, 1, none⟩ = some (.int .i64 0) := ((show Below (W.alloc (.cells #[.int .i64 0, .int .i64 0] 23)).heap.size (W.alloc (.cells #[.int .i64 0, .int .i64 0] 23)) w2 by (repeat (first | assumption | exact Below.refl _ _ | refine ba ?_ _ | refine bd ?_ | refine bdn ?_ _ | refine bs ?_ (by first | omega | (simp; done) | (simp; omega)) _ | refine bt ?_ (by assumption)))).cell (p := ⟨W.heap.size, 1, none⟩) (by simp)).trans (by simp [go_sem])
          refine bodyPost_ret (v := .tuple #[F2 0 0, .bool false]) (by simp [results, Tryd.results15, go_sem, q0, q1]) rfl ⟨by rw [HR.out], ?_⟩
          (repeat (first | assumption | exact Below.refl _ _ | refine ba ?_ _ | refine bd ?_ | refine bdn ?_ _ | refine bs ?_ (by first | omega | (simp; done) | (simp; omega)) _ | refine bt ?_ (by assumption)))
        | true =>
          cases y with
          | false =>
            have hr : rQ s = (0, 0, false) := by rw [HQ.out, if_neg (fun h => by cases h.2.2.1)]
            have HR := Lib.hid hr
            clear hr
            go_wp2_with fail
            (with_reducible refine (HA.out _).mono ?_)
            rintro e w1 ⟨rfl, hb1⟩
            have hs1 : W.heap.size + 1 ≤ w1.heap.size := (by have h := hb1.size; first | omega | (simp at h; omega))
            have hz1_0 : W.heap.size < w1.heap.size := (by omega)
            obtain ⟨hc1, hf1, hl1⟩ := bcell hb1
            clear hl1
            go_wp2_with fail
            (with_reducible refine (HB.out _).mono ?_)
            rintro e w2 ⟨rfl, hb2⟩
            have hs2 : w1.heap.size + 0 ≤ w2.heap.size := (by have h := hb2.size; first | omega | (simp at h; omega))
            have hb1_2 := bel hb1 hb2 (by (repeat (first | assumption | exact Below.refl _ _ | refine ba ?_ _ | refine bd ?_ | refine bdn ?_ _ | refine bs ?_ (by first | omega | (simp; done) | (simp; omega)) _ | refine bt ?_ (by assumption))))
            clear hz1_0 hc1 hf1
            obtain ⟨hc1_2, hf1_2, hl1_2⟩ := bcell hb1_2
            clear hl1_2
            have hz2_0 : W.heap.size < w2.heap.size := (by omega)
            obtain ⟨hc2, hf2, hl2⟩ := bcell hb2
            clear hl2
            go_wp2
            have q0 : w2.cell? ⟨W.heap.size, 0, none⟩ = some (.int .i64 0) := ((show Below (W.alloc (.cells #[.int .i64 0, .int .i64 0] 23)).heap.size (W.alloc (.cells #[.int .i64 0, .int .i64 0] 23)) w2 by (repeat (first | assumption | exact Below.refl _ _ | refine ba ?_ _ | refine bd ?_ | refine bdn ?_ _ | refine bs ?_ (by first | omega | (simp; done) | (simp; omega)) _ | refine bt ?_ (by assumption)))).cell (p := ⟨W.heap.size, 0, none⟩) (by simp)).trans (by simp [go_sem])
            have q1 : w2.cell? ⟨W.heap.size, 1, none⟩ = some (.int .i64 0) := ((show Below (W.alloc (.cells #[.int .i64 0, .int .i64 0] 23)).heap.size (W.alloc (.cells #[.int .i64 0, .int .i64 0] 23)) w2 by (repeat (first | assumption | exact Below.refl _ _ | refine ba ?_ _ | refine bd ?_ | refine bdn ?_ _ | refine bs ?_ (by first | omega | (simp; done) | (simp; omega)) _ | refine bt ?_ (by assumption)))).cell (p := ⟨W.heap.size, 1, none⟩) (by simp)).trans (by simp [go_sem])
            refine bodyPost_ret (v := .tuple #[F2 0 0, .bool false]) (by simp [results, Tryd.results15, go_sem, q0, q1]) rfl ⟨by rw [HR.out], ?_⟩
            (repeat (first | assumption | exact Below.refl _ _ | refine ba ?_ _ | refine bd ?_ | refine bdn ?_ _ | refine bs ?_ (by first | omega | (simp; done) | (simp; omega)) _ | refine bt ?_ (by assumption)))
          | true =>
            by_cases h1 : 1 ≤ b
            · have hr : rQ s = ((a : Int), (b : Int), true) := by rw [HQ.out, if_pos ⟨by rw [HIX.out]; omega, rfl, rfl, h1⟩]
              have HR := Lib.hid hr
              have h1I : 1 ≤ (b : Int) := by omega
              clear hr
              go_wp2_with fail
              (with_reducible refine (HA.out _).mono ?_)
              rintro e w1 ⟨rfl, hb1⟩
              have hs1 : W.heap.size + 1 ≤ w1.heap.size := (by have h := hb1.size; first | omega | (simp at h; omega))
              have hz1_0 : W.heap.size < w1.heap.size := (by omega)
              obtain ⟨hc1, hf1, hl1⟩ := bcell hb1
              clear hl1
              go_wp2_with fail
              (with_reducible refine (HB.out _).mono ?_)
              rintro e w2 ⟨rfl, hb2⟩
              have hs2 : w1.heap.size + 0 ≤ w2.heap.size := (by have h := hb2.size; first | omega | (simp at h; omega))
              have hb1_2 := bel hb1 hb2 (by (repeat (first | assumption | exact Below.refl _ _ | refine ba ?_ _ | refine bd ?_ | refine bdn ?_ _ | refine bs ?_ (by first | omega | (simp; done) | (simp; omega)) _ | refine bt ?_ (by assumption))))
              clear hz1_0 hc1 hf1
              obtain ⟨hc1_2, hf1_2, hl1_2⟩ := bcell hb1_2
              clear hl1_2
              have hz2_0 : W.heap.size < w2.heap.size := (by omega)
              obtain ⟨hc2, hf2, hl2⟩ := bcell hb2
              clear hl2
              go_wp2
              have q0 : w2.cell? ⟨W.heap.size, 0, none⟩ = some (.int .i64 0) := ((show Below (W.alloc (.cells #[.int .i64 0, .int .i64 0] 23)).heap.size (W.alloc (.cells #[.int .i64 0, .int .i64 0] 23)) w2 by (repeat (first | assumption | exact Below.refl _ _ | refine ba ?_ _ | refine bd ?_ | refine bdn ?_ _ | refine bs ?_ (by first | omega | (simp; done) | (simp; omega)) _ | refine bt ?_ (by assumption)))).cell (p := ⟨W.heap.size, 0, none⟩) (by simp)).trans (by simp [go_sem])
              have q1 : w2.cell? ⟨W.heap.size, 1, none⟩ = some (.int .i64 0) := ((show Below (W.alloc (.cells #[.int .i64 0, .int .i64 0] 23)).heap.size (W.alloc (.cells #[.int .i64 0, .int .i64 0] 23)) w2 by (repeat (first | assumption | exact Below.refl _ _ | refine ba ?_ _ | refine bd ?_ | refine bdn ?_ _ | refine bs ?_ (by first | omega | (simp; done) | (simp; omega)) _ | refine bt ?_ (by assumption)))).cell (p := ⟨W.heap.size, 1, none⟩) (by simp)).trans (by simp [go_sem])
              refine bodyPost_ret (v := .tuple #[F2 a b, .bool true]) (by simp [results, Tryd.results15, go_sem, q0, q1]) rfl ⟨by rw [HR.out], ?_⟩
              (repeat (first | assumption | exact Below.refl _ _ | refine ba ?_ _ | refine bd ?_ | refine bdn ?_ _ | refine bs ?_ (by first | omega | (simp; done) | (simp; omega)) _ | refine bt ?_ (by assumption)))
            · have hr : rQ s = (0, 0, false) := by rw [HQ.out, if_neg (fun h => h1 h.2.2.2)]
              have HR := Lib.hid hr
              have h1I : (b : Int) < 1 := by omega
              clear hr
              go_wp2_with fail
              (with_reducible refine (HA.out _).mono ?_)
              rintro e w1 ⟨rfl, hb1⟩
              have hs1 : W.heap.size + 1 ≤ w1.heap.size := (by have h := hb1.size; first | omega | (simp at h; omega))
              have hz1_0 : W.heap.size < w1.heap.size := (by omega)
              obtain ⟨hc1, hf1, hl1⟩ := bcell hb1
              clear hl1
              go_wp2_with fail
              (with_reducible refine (HB.out _).mono ?_)
              rintro e w2 ⟨rfl, hb2⟩
              have hs2 : w1.heap.size + 0 ≤ w2.heap.size := (by have h := hb2.size; first | omega | (simp at h; omega))
              have hb1_2 := bel hb1 hb2 (by (repeat (first | assumption | exact Below.refl _ _ | refine ba ?_ _ | refine bd ?_ | refine bdn ?_ _ | refine bs ?_ (by first | omega | (simp; done) | (simp; omega)) _ | refine bt ?_ (by assumption))))
              clear hz1_0 hc1 hf1
              obtain ⟨hc1_2, hf1_2, hl1_2⟩ := bcell hb1_2
              clear hl1_2
              have hz2_0 : W.heap.size < w2.heap.size := (by omega)
              obtain ⟨hc2, hf2, hl2⟩ := bcell hb2
              clear hl2
              go_wp2
              have q0 : w2.cell? ⟨W.heap.size, 0, none⟩ = some (.int .i64 0) := ((show Below (W.alloc (.cells #[.int .i64 0, .int .i64 0] 23)).heap.size (W.alloc (.cells #[.int .i64 0, .int .i64 0] 23)) w2 by (repeat (first | assumption | exact Below.refl _ _ | refine ba ?_ _ | refine bd ?_ | refine bdn ?_ _ | refine bs ?_ (by first | omega | (simp; done) | (simp; omega)) _ | refine bt ?_ (by assumption)))).cell (p := ⟨W.heap.size, 0, none⟩) (by simp)).trans (by simp [go_sem])
              have q1 : w2.cell? ⟨W.heap.size, 1, none⟩ = some (.int .i64 0) := ((show Below (W.alloc (.cells #[.int .i64 0, .int .i64 0] 23)).heap.size (W.alloc (.cells #[.int .i64 0, .int .i64 0] 23)) w2 by (repeat (first | assumption | exact Below.refl _ _ | refine ba ?_ _ | refine bd ?_ | refine bdn ?_ _ | refine bs ?_ (by first | omega | (simp; done) | (simp; omega)) _ | refine bt ?_ (by assumption)))).cell (p := ⟨W.heap.size, 1, none⟩) (by simp)).trans (by simp [go_sem])
              refine bodyPost_ret (v := .tuple #[F2 0 0, .bool false]) (by simp [results, Tryd.results15, go_sem, q0, q1]) rfl ⟨by rw [HR.out], ?_⟩
              (repeat (first | assumption | exact Below.refl _ _ | refine ba ?_ _ | refine bd ?_ | refine bdn ?_ _ | refine bs ?_ (by first | omega | (simp; done) | (simp; omega)) _ | refine bt ?_ (by assumption)))
      · have t1 : (((s[p]'hlt).toNat : Int) == 47) = false := by
          rw [beq_eq_false_iff_ne]
          intro h
          apply h47
          apply UInt8.toNat_inj.1
          have e : (47 : UInt8).toNat = 47 := rfl
          omega
        have HN2 := Lib.hid (show ∀ j (hj : j < s.size), j < p + 1 → s[j]'hj ≠ 47 from fun j hj h => by
          by_cases hjp : j = p
          · subst hjp; exact h47
          · exact HN.out j hj (by omega))
        clear h47
        go_wp2
        go_roundw
        case rel => exact ⟨p + 1, by omega, by go_num, HN2, by first | trivial | rfl⟩
        case measure => simp [intOf]; omega
    · have hpe : p = s.size := by omega
      have hix : Lib.indexByte s.data.toList 47 = -1 := index_none 47 _ (fun j hj => HN.out j hj (by have : s.data.toList.length = s.size := rfl; omega))
      have hr : rQ s = (0, 0, false) := by unfold rQ; rw [if_neg (fun h => by rw [hix] at h; exact absurd h.1 (by decide))]
      have HR := Lib.hid hr
      clear hr hix hpe
      go_wp2
      refine bodyPost_ret (v := .tuple #[F2 0 0, .bool false]) (by simp [results, Tryd.results15, go_sem]) rfl ⟨by rw [HR.out], ?_⟩
      (repeat (first | assumption | exact Below.refl _ _ | refine ba ?_ _ | refine bd ?_ | refine bdn ?_ _ | refine bs ?_ (by first | omega | (simp; done) | (simp; omega)) _ | refine bt ?_ (by assumption)))
/-- A fraction's text. -/
def tS (n d : Int) : ByteArray := if Rt n d then itoaS n ++ ⟨#[47]⟩ ++ itoaS d else ⟨#[]⟩
theorem ratiotext_any (n d : Int) (hn : n ≤ 9223372036854775807) (hd : d ≤ 9223372036854775807) : PureOn T10 Tryd.prog 16 #[F2 n d] (.string (tS n d)) := by
  unfold tS
  by_cases h : Rt n d
  · rw [if_pos h]
    have h1 := h.1; have h2 := h.2
    exact rtext_core T10 clo_T10 n d h1 h2 _ _ (by have := (itoaS_size h1 hn).2; omega) (by have := (itoaS_size (show 0 ≤ d by omega) hd).2; omega) (itoaS_ne (by omega) hd) (fmt_any n (by omega) hn) (fmt_any d (by omega) hd)
  · rw [if_neg h]; exact (rtext_no n d h).on _
set_option maxRecDepth 100000 in
theorem reftext2_yes (n d : Nat) (hn : n ≤ 9223372036854775807) (h1 : 1 ≤ d) (hd : d ≤ 9223372036854775807) : Pure Tryd.prog 17 #[F2 n d] (.string (itoaS n ++ ⟨#[47]⟩ ++ itoaS d)) := by
  intro W
  have HR := Lib.hid (rright_yes (n : Int) (d : Int) (by omega) (by omega))
  have HN := refdigits_any n hn
  have HD := refdigits_any d hd
  have en : (⟨(Lib.decDigits n).toArray⟩ : ByteArray) = itoaS n := by rw [itoaS_nonneg (by omega)]; rfl
  have ed : (⟨(Lib.decDigits d).toArray⟩ : ByteArray) = itoaS d := by rw [itoaS_nonneg (by omega)]; rfl
  rw [en] at HN; rw [ed] at HD
  have sn := (itoaS_size (n := (n : Int)) (by omega) (by omega)).2
  have sd := (itoaS_size (n := (d : Int)) (by omega) (by omega)).2
  have y1 : (itoaS n).size + (ByteArray.mk #[47]).size ≤ 9223372036854775807 := by have : (ByteArray.mk #[47]).size = 1 := rfl; omega
  have y2 : (itoaS n ++ ⟨#[47]⟩).size + (itoaS d).size ≤ 9223372036854775807 := by rw [ByteArray.size_append]; have : (ByteArray.mk #[47]).size = 1 := rfl; omega
  have HN := Lib.hid HN; have HD := Lib.hid HD
  clear en ed sn sd
  go_enter Tryd.func17, Tryd.ntmps17
  go_wp2_with fail
  (with_reducible refine (HR.out _).mono ?_)
  rintro e w1 ⟨rfl, hb1⟩
  have hs1 : W.heap.size + 1 ≤ w1.heap.size := (by have h := hb1.size; first | omega | (simp at h; omega))
  have hz1_0 : W.heap.size < w1.heap.size := (by omega)
  obtain ⟨hc1, hf1, hl1⟩ := bcell hb1
  clear hl1
  go_wp2_with fail
  refine wp_region_pure (by kernel_rfl) (by kernel_rfl) ?_
  repeat (first | go_big_quiet_step (((go_at_call 60; first | with_reducible exact HN.out.quiet | with_reducible exact HD.out.quiet))) | (quiet_step (((go_at_call 60; first | with_reducible exact HN.out.quiet | with_reducible exact HD.out.quiet)))))
  refine wpQuiet_nil ?_
  rintro w2 ⟨x2, hx2⟩
  have hb2 := ext_below _ x2
  rw [← hx2] at hb2
  clear hx2 x2
  have hs2 : w1.heap.size + 0 ≤ w2.heap.size := (by have h := hb2.size; first | omega | (simp at h; omega))
  have hb1_2 := bel hb1 hb2 (by (repeat (first | assumption | exact Below.refl _ _ | refine ba ?_ _ | refine bd ?_ | refine bdn ?_ _ | refine bs ?_ (by first | omega | (simp; done) | (simp; omega)) _ | refine bt ?_ (by assumption))))
  clear hz1_0 hc1 hf1
  obtain ⟨hc1_2, hf1_2, hl1_2⟩ := bcell hb1_2
  clear hl1_2
  have hz2_0 : W.heap.size < w2.heap.size := (by omega)
  obtain ⟨hc2, hf2, hl2⟩ := bcell hb2
  clear hl2
  go_wp2
  go_ret
  refine ⟨rfl, ?_⟩
  (repeat (first | assumption | exact Below.refl _ _ | refine ba ?_ _ | refine bd ?_ | refine bdn ?_ _ | refine bs ?_ (by first | omega | (simp; done) | (simp; omega)) _ | refine bt ?_ (by assumption)))
theorem reftext2_no (n d : Int) (h : ¬ Rt n d) : Pure Tryd.prog 17 #[F2 n d] (.string ⟨#[]⟩) := by
  intro W
  have HR := Lib.hid (rright_no n d h)
  clear h
  go_enter Tryd.func17, Tryd.ntmps17
  go_wp2_with fail
  (with_reducible refine (HR.out _).mono ?_)
  rintro e w1 ⟨rfl, hb1⟩
  have hs1 : W.heap.size + 1 ≤ w1.heap.size := (by have h := hb1.size; first | omega | (simp at h; omega))
  have hz1_0 : W.heap.size < w1.heap.size := (by omega)
  obtain ⟨hc1, hf1, hl1⟩ := bcell hb1
  clear hl1
  go_wp2
  go_ret
  refine ⟨rfl, ?_⟩
  (repeat (first | assumption | exact Below.refl _ _ | refine ba ?_ _ | refine bd ?_ | refine bdn ?_ _ | refine bs ?_ (by first | omega | (simp; done) | (simp; omega)) _ | refine bt ?_ (by assumption)))
theorem reftext2_any (n d : Int) (hn : n ≤ 9223372036854775807) (hd : d ≤ 9223372036854775807) : Pure Tryd.prog 17 #[F2 n d] (.string (tS n d)) := by
  unfold tS
  by_cases h : Rt n d
  · rw [if_pos h]
    have h1 := h.1; have h2 := h.2
    obtain ⟨a, rfl⟩ := Int.eq_ofNat_of_zero_le h1
    obtain ⟨b, rfl⟩ := Int.eq_ofNat_of_zero_le (show 0 ≤ d by omega)
    exact reftext2_yes a b (by omega) (by omega) (by omega)
  · rw [if_neg h]; exact reftext2_no n d h
theorem rlaw_long (n d : Int) (s : ByteArray) (h : 100 < s.size) : Pure Tryd.prog 3 #[F2 n d, .string s] (.bool true) := by
  intro W
  have hI : 100 < (s.size : Int) := by omega
  go_enter Tryd.func3, Tryd.ntmps3
  go_wp2
  go_ret
  refine ⟨rfl, ?_⟩
  (repeat (first | assumption | exact Below.refl _ _ | refine ba ?_ _ | refine bd ?_ | refine bdn ?_ _ | refine bs ?_ (by first | omega | (simp; done) | (simp; omega)) _ | refine bt ?_ (by assumption)))
set_option maxRecDepth 100000 in
set_option maxHeartbeats 4000000 in
theorem rlaw_short (n d : Int) (hn : n ≤ 9223372036854775807) (hd : d ≤ 9223372036854775807) (s : ByteArray) (hl : s.size ≤ 100) : PureOn TE Tryd.prog 3 #[F2 n d, .string s] (.bool true) := by
  intro W hT
  have HT := Lib.hid hT
  have hI : (s.size : Int) ≤ 100 := by omega
  have H1 := parseR_any s (by omega)
  have H2 := refparse_any s (by omega)
  rw [rP_rQ] at H1
  generalize rQ s = q at H1 H2
  obtain ⟨a, b, x⟩ := q
  simp only at H1 H2
  have H1 := Lib.hid H1; have H2 := Lib.hid H2
  have H3 := Lib.hid (ratiotext_any n d hn hd)
  have H4 := Lib.hid (reftext2_any n d hn hd)
  clear hT
  go_enter Tryd.func3, Tryd.ntmps3
  go_wp2_with fail
  (with_reducible refine (H1.out.app _ (TE.on HT.out (by (repeat (first | assumption | exact Below.refl _ _ | refine ba ?_ _ | refine bd ?_ | refine bdn ?_ _ | refine bs ?_ (by first | omega | (simp; done) | (simp; omega)) _ | refine bt ?_ (by assumption)))))).mono ?_)
  rintro e w1 ⟨rfl, hb1⟩
  have hs1 : W.heap.size + 1 ≤ w1.heap.size := (by have h := hb1.size; first | omega | (simp at h; omega))
  have hz1_0 : W.heap.size < w1.heap.size := (by omega)
  obtain ⟨hc1, hf1, hl1⟩ := bcell hb1
  clear hl1
  go_wp2_with fail
  (with_reducible refine (H2.out _).mono ?_)
  rintro e w2 ⟨rfl, hb2⟩
  have hs2 : w1.heap.size + 1 ≤ w2.heap.size := (by have h := hb2.size; first | omega | (simp at h; omega))
  have hb1_2 := bel hb1 hb2 (by (repeat (first | assumption | exact Below.refl _ _ | refine ba ?_ _ | refine bd ?_ | refine bdn ?_ _ | refine bs ?_ (by first | omega | (simp; done) | (simp; omega)) _ | refine bt ?_ (by assumption))))
  clear hz1_0 hc1 hf1
  obtain ⟨hc1_2, hf1_2, hl1_2⟩ := bcell hb1_2
  clear hl1_2
  have hz2_0 : W.heap.size < w2.heap.size := (by omega)
  have hz2_1 : w1.heap.size < w2.heap.size := (by omega)
  obtain ⟨hc2, hf2, hl2⟩ := bcell hb2
  clear hl2
  go_wp2_with fail
  have hTw : T10 (w2.alloc (.cells #[.int .i64 a, .int .i64 b] 23)) := T10.up HT.out.t (by (repeat (first | assumption | exact Below.refl _ _ | refine ba ?_ _ | refine bd ?_ | refine bdn ?_ _ | refine bs ?_ (by first | omega | (simp; done) | (simp; omega)) _ | refine bt ?_ (by assumption))))
  refine wp_region_pure (by kernel_rfl) (by kernel_rfl) ?_
  repeat (first | go_big_quiet_step (((first | (go_at_call 16; with_reducible exact H3.out.quiet clo_T10 hTw) | (go_at_call 17; with_reducible exact H4.out.quiet) | (go_at_call 18; with_reducible exact works2.quiet)))) | (quiet_step (((first | (go_at_call 16; with_reducible exact H3.out.quiet clo_T10 hTw) | (go_at_call 17; with_reducible exact H4.out.quiet) | (go_at_call 18; with_reducible exact works2.quiet))))))
  refine wpQuiet_nil ?_
  rintro w3 ⟨x3, hx3⟩
  have hb3 := ext_below _ x3
  rw [← hx3] at hb3
  clear hx3 x3
  have hs3 : w2.heap.size + 1 ≤ w3.heap.size := (by have h := hb3.size; first | omega | (simp at h; omega))
  have hb1_3 := bel hb1_2 hb3 (by (repeat (first | assumption | exact Below.refl _ _ | refine ba ?_ _ | refine bd ?_ | refine bdn ?_ _ | refine bs ?_ (by first | omega | (simp; done) | (simp; omega)) _ | refine bt ?_ (by assumption))))
  have hb2_3 := bel hb2 hb3 (by (repeat (first | assumption | exact Below.refl _ _ | refine ba ?_ _ | refine bd ?_ | refine bdn ?_ _ | refine bs ?_ (by first | omega | (simp; done) | (simp; omega)) _ | refine bt ?_ (by assumption))))
  clear hc1_2 hf1_2 hz2_0 hz2_1 hc2 hf2
  obtain ⟨hc1_3, hf1_3, hl1_3⟩ := bcell hb1_3
  clear hl1_3
  obtain ⟨hc2_3, hf2_3, hl2_3⟩ := bcell hb2_3
  clear hl2_3
  have hz3_0 : W.heap.size < w3.heap.size := (by omega)
  have hz3_1 : w1.heap.size < w3.heap.size := (by omega)
  have hz3_2 : w2.heap.size < w3.heap.size := (by omega)
  obtain ⟨hc3, hf3, hl3⟩ := bcell hb3
  clear hl3
  go_wp2
  go_ret
  refine ⟨rfl, ?_⟩
  (repeat (first | assumption | exact Below.refl _ _ | refine ba ?_ _ | refine bd ?_ | refine bdn ?_ _ | refine bs ?_ (by first | omega | (simp; done) | (simp; omega)) _ | refine bt ?_ (by assumption)))
theorem rt_any (n d : Int) (hn : n ≤ 9223372036854775807) (hd : d ≤ 9223372036854775807) (s : ByteArray) : PureOn TE Tryd.prog 3 #[F2 n d, .string s] (.bool true) := by
  by_cases hl : 100 < s.size
  · exact (rlaw_long n d s hl).on _
  · exact rlaw_short n d hn hd s (by omega)
end Go.Proofs.YtfnfolpdbbnnlaaDoor

/- Contracts of ratio's number, Parse and Text, and of the reference's. Condition: the powers of ten and the error values lie in their variables. -/
import Derived.Test.YtfnfolpdbbnnlaaDoorRm
import Derived.Test.YtfnfolpdbbnnlaaDoorNum
import Derived.Test.YtfnfolpdbbnnlaaDoorQuantT
import Derived.Test.YtfnfolpdbbnnlaaDoorRText
import Derived.Lib.ParseIntBTie
namespace Go.Proofs.YtfnfolpdbbnnlaaDoor
open Go.RowKit
attribute [local go_sem] ext_cell ext_frozen Mix.calmUpon Mix.mUpon
def TE (w : World) : Prop := T10 w ∧ EV w
theorem TE.t {w : World} (h : TE w) : T10 w := And.left h
theorem TE.e {w : World} (h : TE w) : EV w := And.right h
theorem clo_TE : Clo TE := fun w w' h hb => ⟨clo_T10 w w' h.1 hb, clo_EV w w' h.2 hb⟩
theorem TE.on {W w : World} (h : TE W) (hb : Below W.heap.size W w) : TE w := clo_TE _ _ h hb
theorem itoaS_eq (v : Int) (s : ByteArray) : itoaS v = s ↔ Lib.itoa v = s.data.toList := by
  constructor
  · rintro rfl; simp [itoaS]
  · intro h; apply Go.WideShapes.bytes_inj; simp [itoaS, h]
set_option maxRecDepth 100000 in
theorem number_any (s : ByteArray) (hs : s.size ≤ 281474976710656) : PureOn TE Tryd.prog 55 #[.string s] (.int .i64 (numR s.data.toList)) := by
  intro W hT
  have HT := Lib.hid hT
  have HP := Lib.hid (parse_any s hs)
  clear hT
  unfold numR
  cases hp : Lib.parseIntB 64 s.data.toList with
  | ok v =>
    have hb := Lib.parseIntB_bounds hp
    rw [show ((2 ^ (64 - 1) : Nat) : Int) = 9223372036854775808 by decide] at hb
    have HF := Lib.hid (fmt_any v (by omega) (by omega))
    have hpv : parseV s.data.toList = v := by unfold parseV; rw [hp]
    have hok : isOk (Lib.parseIntB 64 s.data.toList) = true := by rw [hp]; rfl
    rw [hok, hpv] at HP
    clear hp hok hpv
    simp only
    by_cases he : Lib.itoa v = s.data.toList
    · rw [if_pos he]
      have t1 := streq_yes ((itoaS_eq v s).2 he)
      clear he
      go_enter Tryd.func55, Tryd.ntmps55
      go_wp2_with fail
      (with_reducible refine (HP.out _ (EV.on HT.out.e (by (repeat (first | assumption | exact Below.refl _ _ | refine ba ?_ _ | refine bd ?_ | refine bdn ?_ _ | refine bs ?_ (by first | omega | (simp; done) | (simp; omega)) _ | refine bt ?_ (by assumption)))))).mono ?_)
      rintro e w1 ⟨x, rfl, hx, hb1⟩
      simp only [if_true] at hx
      subst hx
      have hs1 : W.heap.size + 0 ≤ w1.heap.size := (by have h := hb1.size; first | omega | (simp at h; omega))
      obtain ⟨hc1, hf1, hl1⟩ := bcell hb1
      clear hl1
      go_wp2_with fail
      (with_reducible refine (HF.out.app _ (T10.up HT.out.t (by (repeat (first | assumption | exact Below.refl _ _ | refine ba ?_ _ | refine bd ?_ | refine bdn ?_ _ | refine bs ?_ (by first | omega | (simp; done) | (simp; omega)) _ | refine bt ?_ (by assumption)))))).mono ?_)
      rintro e w2 ⟨rfl, hb2⟩
      have hs2 : w1.heap.size + 0 ≤ w2.heap.size := (by have h := hb2.size; first | omega | (simp at h; omega))
      have hb1_2 := bel hb1 hb2 (by (repeat (first | assumption | exact Below.refl _ _ | refine ba ?_ _ | refine bd ?_ | refine bdn ?_ _ | refine bs ?_ (by first | omega | (simp; done) | (simp; omega)) _ | refine bt ?_ (by assumption))))
      clear hc1 hf1
      obtain ⟨hc2, hf2, hl2⟩ := bcell hb2
      clear hl2
      go_wp2
      go_ret
      refine ⟨rfl, ?_⟩
      (repeat (first | assumption | exact Below.refl _ _ | refine ba ?_ _ | refine bd ?_ | refine bdn ?_ _ | refine bs ?_ (by first | omega | (simp; done) | (simp; omega)) _ | refine bt ?_ (by assumption)))
    · rw [if_neg he]
      have t1 := streq_no (fun h => he ((itoaS_eq v s).1 h))
      clear he
      go_enter Tryd.func55, Tryd.ntmps55
      go_wp2_with fail
      (with_reducible refine (HP.out _ (EV.on HT.out.e (by (repeat (first | assumption | exact Below.refl _ _ | refine ba ?_ _ | refine bd ?_ | refine bdn ?_ _ | refine bs ?_ (by first | omega | (simp; done) | (simp; omega)) _ | refine bt ?_ (by assumption)))))).mono ?_)
      rintro e w1 ⟨x, rfl, hx, hb1⟩
      simp only [if_true] at hx
      subst hx
      have hs1 : W.heap.size + 0 ≤ w1.heap.size := (by have h := hb1.size; first | omega | (simp at h; omega))
      obtain ⟨hc1, hf1, hl1⟩ := bcell hb1
      clear hl1
      go_wp2_with fail
      (with_reducible refine (HF.out.app _ (T10.up HT.out.t (by (repeat (first | assumption | exact Below.refl _ _ | refine ba ?_ _ | refine bd ?_ | refine bdn ?_ _ | refine bs ?_ (by first | omega | (simp; done) | (simp; omega)) _ | refine bt ?_ (by assumption)))))).mono ?_)
      rintro e w2 ⟨rfl, hb2⟩
      have hs2 : w1.heap.size + 0 ≤ w2.heap.size := (by have h := hb2.size; first | omega | (simp at h; omega))
      have hb1_2 := bel hb1 hb2 (by (repeat (first | assumption | exact Below.refl _ _ | refine ba ?_ _ | refine bd ?_ | refine bdn ?_ _ | refine bs ?_ (by first | omega | (simp; done) | (simp; omega)) _ | refine bt ?_ (by assumption))))
      clear hc1 hf1
      obtain ⟨hc2, hf2, hl2⟩ := bcell hb2
      clear hl2
      go_wp2
      go_ret
      refine ⟨rfl, ?_⟩
      (repeat (first | assumption | exact Below.refl _ _ | refine ba ?_ _ | refine bd ?_ | refine bdn ?_ _ | refine bs ?_ (by first | omega | (simp; done) | (simp; omega)) _ | refine bt ?_ (by assumption)))
  | _ =>
    have hok : isOk (Lib.parseIntB 64 s.data.toList) = false := by rw [hp]; rfl
    rw [hok] at HP
    clear hp hok
    go_enter Tryd.func55, Tryd.ntmps55
    go_wp2_with fail
    (with_reducible refine (HP.out _ (EV.on HT.out.e (by (repeat (first | assumption | exact Below.refl _ _ | refine ba ?_ _ | refine bd ?_ | refine bdn ?_ _ | refine bs ?_ (by first | omega | (simp; done) | (simp; omega)) _ | refine bt ?_ (by assumption)))))).mono ?_)
    rintro e w1 ⟨x, rfl, hx, hb1⟩
    simp only [Bool.false_eq_true, if_false] at hx
    obtain ⟨tp, a, rfl⟩ := hx
    have hs1 : W.heap.size + 0 ≤ w1.heap.size := (by have h := hb1.size; first | omega | (simp at h; omega))
    obtain ⟨hc1, hf1, hl1⟩ := bcell hb1
    clear hl1
    go_wp2
    go_ret
    refine ⟨rfl, ?_⟩
    (repeat (first | assumption | exact Below.refl _ _ | refine ba ?_ _ | refine bd ?_ | refine bdn ?_ _ | refine bs ?_ (by first | omega | (simp; done) | (simp; omega)) _ | refine bt ?_ (by assumption)))
instance decRt (n d : Int) : Decidable (Rt n d) := decidable_of_iff (0 ≤ n ∧ 1 ≤ d) ⟨fun h => ⟨h.1, h.2⟩, fun h => ⟨h.1, h.2⟩⟩
/-- What Parse answers. -/
def rP (s : ByteArray) : Int × Int × Bool := if Rt (numR (cutA 47 s).data.toList) (numR (cutB 47 s).data.toList) then (numR (cutA 47 s).data.toList, numR (cutB 47 s).data.toList, true) else (0, 0, false)
theorem cutBs (c : UInt8) (s : ByteArray) : (cutB c s).size ≤ s.size := by
  unfold cutB; split
  · rw [ByteArray.size_extract]; omega
  · exact Nat.zero_le _
theorem cutAs (c : UInt8) (s : ByteArray) : (cutA c s).size ≤ s.size := by
  unfold cutA; split
  · rw [ByteArray.size_extract]; omega
  · exact Nat.le_refl _
set_option maxRecDepth 100000 in
theorem parse_yes (s : ByteArray) (hs : s.size ≤ 281474976710656) (hr : Rt (numR (cutA 47 s).data.toList) (numR (cutB 47 s).data.toList)) : PureOn TE Tryd.prog 14 #[.string s] (.tuple #[F2 (numR (cutA 47 s).data.toList) (numR (cutB 47 s).data.toList), .bool true]) := by
  intro W hT
  have HT := Lib.hid hT
  have H1 := Lib.hid (cut_one s (by unfold maxLen; omega) 47)
  have H2 := Lib.hid (number_any (cutA 47 s) (by have := cutAs 47 s; omega))
  have H3 := Lib.hid (number_any (cutB 47 s) (by have := cutBs 47 s; omega))
  have H4 := Lib.hid (right_yes _ _ hr.1 hr.2)
  generalize numR (cutA 47 s).data.toList = a at *
  generalize numR (cutB 47 s).data.toList = b at *
  clear hT hr
  go_enter Tryd.func14, Tryd.ntmps14
  go_wp2_with fail
  (with_reducible refine (H1.out _).mono ?_)
  rintro e w1 ⟨rfl, hb1⟩
  have hs1 : W.heap.size + 1 ≤ w1.heap.size := (by have h := hb1.size; first | omega | (simp at h; omega))
  have hz1_0 : W.heap.size < w1.heap.size := (by omega)
  obtain ⟨hc1, hf1, hl1⟩ := bcell hb1
  clear hl1
  go_wp2_with fail
  (with_reducible refine (H2.out.app _ (TE.on HT.out (by (repeat (first | assumption | exact Below.refl _ _ | refine ba ?_ _ | refine bd ?_ | refine bdn ?_ _ | refine bs ?_ (by first | omega | (simp; done) | (simp; omega)) _ | refine bt ?_ (by assumption)))))).mono ?_)
  rintro e w2 ⟨rfl, hb2⟩
  have hs2 : w1.heap.size + 0 ≤ w2.heap.size := (by have h := hb2.size; first | omega | (simp at h; omega))
  have hb1_2 := bel hb1 hb2 (by (repeat (first | assumption | exact Below.refl _ _ | refine ba ?_ _ | refine bd ?_ | refine bdn ?_ _ | refine bs ?_ (by first | omega | (simp; done) | (simp; omega)) _ | refine bt ?_ (by assumption))))
  clear hz1_0 hc1 hf1
  obtain ⟨hc1_2, hf1_2, hl1_2⟩ := bcell hb1_2
  clear hl1_2
  have hz2_0 : W.heap.size < w2.heap.size := (by omega)
  obtain ⟨hc2, hf2, hl2⟩ := bcell hb2
  clear hl2
  go_wp2_with fail
  (with_reducible refine (H3.out.app _ (TE.on HT.out (by (repeat (first | assumption | exact Below.refl _ _ | refine ba ?_ _ | refine bd ?_ | refine bdn ?_ _ | refine bs ?_ (by first | omega | (simp; done) | (simp; omega)) _ | refine bt ?_ (by assumption)))))).mono ?_)
  rintro e w3 ⟨rfl, hb3⟩
  have hs3 : w2.heap.size + 0 ≤ w3.heap.size := (by have h := hb3.size; first | omega | (simp at h; omega))
  have hb1_3 := bel hb1_2 hb3 (by (repeat (first | assumption | exact Below.refl _ _ | refine ba ?_ _ | refine bd ?_ | refine bdn ?_ _ | refine bs ?_ (by first | omega | (simp; done) | (simp; omega)) _ | refine bt ?_ (by assumption))))
  have hb2_3 := bel hb2 hb3 (by (repeat (first | assumption | exact Below.refl _ _ | refine ba ?_ _ | refine bd ?_ | refine bdn ?_ _ | refine bs ?_ (by first | omega | (simp; done) | (simp; omega)) _ | refine bt ?_ (by assumption))))
  clear hc1_2 hf1_2 hz2_0 hc2 hf2
  obtain ⟨hc1_3, hf1_3, hl1_3⟩ := bcell hb1_3
  clear hl1_3
  have hz3_0 : W.heap.size < w3.heap.size := (by omega)
  obtain ⟨hc3, hf3, hl3⟩ := bcell hb3
  clear hl3
  go_wp2_with fail
  (with_reducible refine (H4.out _).mono ?_)
  rintro e w4 ⟨rfl, hb4⟩
  have hs4 : w3.heap.size + 1 ≤ w4.heap.size := (by have h := hb4.size; first | omega | (simp at h; omega))
  have hb1_4 := bel hb1_3 hb4 (by (repeat (first | assumption | exact Below.refl _ _ | refine ba ?_ _ | refine bd ?_ | refine bdn ?_ _ | refine bs ?_ (by first | omega | (simp; done) | (simp; omega)) _ | refine bt ?_ (by assumption))))
  have hb2_4 := bel hb2_3 hb4 (by (repeat (first | assumption | exact Below.refl _ _ | refine ba ?_ _ | refine bd ?_ | refine bdn ?_ _ | refine bs ?_ (by first | omega | (simp; done) | (simp; omega)) _ | refine bt ?_ (by assumption))))
  have hb3_4 := bel hb3 hb4 (by (repeat (first | assumption | exact Below.refl _ _ | refine ba ?_ _ | refine bd ?_ | refine bdn ?_ _ | refine bs ?_ (by first | omega | (simp; done) | (simp; omega)) _ | refine bt ?_ (by assumption))))
  clear hc1_3 hf1_3 hz3_0 hc3 hf3
  obtain ⟨hc1_4, hf1_4, hl1_4⟩ := bcell hb1_4
  clear hl1_4
  have hz4_0 : W.heap.size < w4.heap.size := (by omega)
  have hz4_1 : w3.heap.size < w4.heap.size := (by omega)
  obtain ⟨hc4, hf4, hl4⟩ := bcell hb4
  clear hl4
  go_wp2
  have q0 : w4.cell? ⟨W.heap.size, 0, none⟩ = some (.int .i64 0) := ((show Below (W.alloc (.cells #[.int .i64 0, .int .i64 0] 23)).heap.size (W.alloc (.cells #[.int .i64 0, .int .i64 0] 23)) w4 by (repeat (first | assumption | exact Below.refl _ _ | refine ba ?_ _ | refine bd ?_ | refine bdn ?_ _ | refine bs ?_ (by first | omega | (simp; done) | (simp; omega)) _ | refine bt ?_ (by assumption)))).cell (p := ⟨W.heap.size, 0, none⟩) (by simp)).trans (by simp [go_sem])
  have q1 : w4.cell? ⟨W.heap.size, 1, none⟩ = some (.int .i64 0) := ((show Below (W.alloc (.cells #[.int .i64 0, .int .i64 0] 23)).heap.size (W.alloc (.cells #[.int .i64 0, .int .i64 0] 23)) w4 by (repeat (first | assumption | exact Below.refl _ _ | refine ba ?_ _ | refine bd ?_ | refine bdn ?_ _ | refine bs ?_ (by first | omega | (simp; done) | (simp; omega)) _ | refine bt ?_ (by assumption)))).cell (p := ⟨W.heap.size, 1, none⟩) (by simp)).trans (by simp [go_sem])
  refine bodyPost_ret (v := .tuple #[F2 a b, .bool true]) (by simp [results, Tryd.results14, go_sem, q0, q1]) rfl ⟨rfl, ?_⟩
  (repeat (first | assumption | exact Below.refl _ _ | refine ba ?_ _ | refine bd ?_ | refine bdn ?_ _ | refine bs ?_ (by first | omega | (simp; done) | (simp; omega)) _ | refine bt ?_ (by assumption)))
set_option maxRecDepth 100000 in
theorem parse_no (s : ByteArray) (hs : s.size ≤ 281474976710656) (hr : ¬ Rt (numR (cutA 47 s).data.toList) (numR (cutB 47 s).data.toList)) : PureOn TE Tryd.prog 14 #[.string s] (.tuple #[F2 0 0, .bool false]) := by
  intro W hT
  have HT := Lib.hid hT
  have H1 := Lib.hid (cut_one s (by unfold maxLen; omega) 47)
  have H2 := Lib.hid (number_any (cutA 47 s) (by have := cutAs 47 s; omega))
  have H3 := Lib.hid (number_any (cutB 47 s) (by have := cutBs 47 s; omega))
  have H4 := Lib.hid (right_no _ _ hr)
  generalize numR (cutA 47 s).data.toList = a at *
  generalize numR (cutB 47 s).data.toList = b at *
  clear hT hr
  go_enter Tryd.func14, Tryd.ntmps14
  go_wp2_with fail
  (with_reducible refine (H1.out _).mono ?_)
  rintro e w1 ⟨rfl, hb1⟩
  have hs1 : W.heap.size + 1 ≤ w1.heap.size := (by have h := hb1.size; first | omega | (simp at h; omega))
  have hz1_0 : W.heap.size < w1.heap.size := (by omega)
  obtain ⟨hc1, hf1, hl1⟩ := bcell hb1
  clear hl1
  go_wp2_with fail
  (with_reducible refine (H2.out.app _ (TE.on HT.out (by (repeat (first | assumption | exact Below.refl _ _ | refine ba ?_ _ | refine bd ?_ | refine bdn ?_ _ | refine bs ?_ (by first | omega | (simp; done) | (simp; omega)) _ | refine bt ?_ (by assumption)))))).mono ?_)
  rintro e w2 ⟨rfl, hb2⟩
  have hs2 : w1.heap.size + 0 ≤ w2.heap.size := (by have h := hb2.size; first | omega | (simp at h; omega))
  have hb1_2 := bel hb1 hb2 (by (repeat (first | assumption | exact Below.refl _ _ | refine ba ?_ _ | refine bd ?_ | refine bdn ?_ _ | refine bs ?_ (by first | omega | (simp; done) | (simp; omega)) _ | refine bt ?_ (by assumption))))
  clear hz1_0 hc1 hf1
  obtain ⟨hc1_2, hf1_2, hl1_2⟩ := bcell hb1_2
  clear hl1_2
  have hz2_0 : W.heap.size < w2.heap.size := (by omega)
  obtain ⟨hc2, hf2, hl2⟩ := bcell hb2
  clear hl2
  go_wp2_with fail
  (with_reducible refine (H3.out.app _ (TE.on HT.out (by (repeat (first | assumption | exact Below.refl _ _ | refine ba ?_ _ | refine bd ?_ | refine bdn ?_ _ | refine bs ?_ (by first | omega | (simp; done) | (simp; omega)) _ | refine bt ?_ (by assumption)))))).mono ?_)
  rintro e w3 ⟨rfl, hb3⟩
  have hs3 : w2.heap.size + 0 ≤ w3.heap.size := (by have h := hb3.size; first | omega | (simp at h; omega))
  have hb1_3 := bel hb1_2 hb3 (by (repeat (first | assumption | exact Below.refl _ _ | refine ba ?_ _ | refine bd ?_ | refine bdn ?_ _ | refine bs ?_ (by first | omega | (simp; done) | (simp; omega)) _ | refine bt ?_ (by assumption))))
  have hb2_3 := bel hb2 hb3 (by (repeat (first | assumption | exact Below.refl _ _ | refine ba ?_ _ | refine bd ?_ | refine bdn ?_ _ | refine bs ?_ (by first | omega | (simp; done) | (simp; omega)) _ | refine bt ?_ (by assumption))))
  clear hc1_2 hf1_2 hz2_0 hc2 hf2
  obtain ⟨hc1_3, hf1_3, hl1_3⟩ := bcell hb1_3
  clear hl1_3
  have hz3_0 : W.heap.size < w3.heap.size := (by omega)
  obtain ⟨hc3, hf3, hl3⟩ := bcell hb3
  clear hl3
  go_wp2_with fail
  (with_reducible refine (H4.out _).mono ?_)
  rintro e w4 ⟨rfl, hb4⟩
  have hs4 : w3.heap.size + 1 ≤ w4.heap.size := (by have h := hb4.size; first | omega | (simp at h; omega))
  have hb1_4 := bel hb1_3 hb4 (by (repeat (first | assumption | exact Below.refl _ _ | refine ba ?_ _ | refine bd ?_ | refine bdn ?_ _ | refine bs ?_ (by first | omega | (simp; done) | (simp; omega)) _ | refine bt ?_ (by assumption))))
  have hb2_4 := bel hb2_3 hb4 (by (repeat (first | assumption | exact Below.refl _ _ | refine ba ?_ _ | refine bd ?_ | refine bdn ?_ _ | refine bs ?_ (by first | omega | (simp; done) | (simp; omega)) _ | refine bt ?_ (by assumption))))
  have hb3_4 := bel hb3 hb4 (by (repeat (first | assumption | exact Below.refl _ _ | refine ba ?_ _ | refine bd ?_ | refine bdn ?_ _ | refine bs ?_ (by first | omega | (simp; done) | (simp; omega)) _ | refine bt ?_ (by assumption))))
  clear hc1_3 hf1_3 hz3_0 hc3 hf3
  obtain ⟨hc1_4, hf1_4, hl1_4⟩ := bcell hb1_4
  clear hl1_4
  have hz4_0 : W.heap.size < w4.heap.size := (by omega)
  have hz4_1 : w3.heap.size < w4.heap.size := (by omega)
  obtain ⟨hc4, hf4, hl4⟩ := bcell hb4
  clear hl4
  go_wp2
  have q0 : w4.cell? ⟨W.heap.size, 0, none⟩ = some (.int .i64 0) := ((show Below (W.alloc (.cells #[.int .i64 0, .int .i64 0] 23)).heap.size (W.alloc (.cells #[.int .i64 0, .int .i64 0] 23)) w4 by (repeat (first | assumption | exact Below.refl _ _ | refine ba ?_ _ | refine bd ?_ | refine bdn ?_ _ | refine bs ?_ (by first | omega | (simp; done) | (simp; omega)) _ | refine bt ?_ (by assumption)))).cell (p := ⟨W.heap.size, 0, none⟩) (by simp)).trans (by simp [go_sem])
  have q1 : w4.cell? ⟨W.heap.size, 1, none⟩ = some (.int .i64 0) := ((show Below (W.alloc (.cells #[.int .i64 0, .int .i64 0] 23)).heap.size (W.alloc (.cells #[.int .i64 0, .int .i64 0] 23)) w4 by (repeat (first | assumption | exact Below.refl _ _ | refine ba ?_ _ | refine bd ?_ | refine bdn ?_ _ | refine bs ?_ (by first | omega | (simp; done) | (simp; omega)) _ | refine bt ?_ (by assumption)))).cell (p := ⟨W.heap.size, 1, none⟩) (by simp)).trans (by simp [go_sem])
  refine bodyPost_ret (v := .tuple #[F2 0 0, .bool false]) (by simp [results, Tryd.results14, go_sem, q0, q1]) rfl ⟨rfl, ?_⟩
  (repeat (first | assumption | exact Below.refl _ _ | refine ba ?_ _ | refine bd ?_ | refine bdn ?_ _ | refine bs ?_ (by first | omega | (simp; done) | (simp; omega)) _ | refine bt ?_ (by assumption)))
theorem parseR_any (s : ByteArray) (hs : s.size ≤ 281474976710656) : PureOn TE Tryd.prog 14 #[.string s] (.tuple #[F2 (rP s).1 (rP s).2.1, .bool (rP s).2.2]) := by
  unfold rP
  by_cases hr : Rt (numR (cutA 47 s).data.toList) (numR (cutB 47 s).data.toList)
  · rw [if_pos hr]; exact parse_yes s hs hr
  · rw [if_neg hr]; exact parse_no s hs hr
theorem rN_bad {l : List UInt8} (h : ¬ (l ≠ [] ∧ l.length ≤ 19 ∧ ¬ (l.head? = some 48 ∧ 1 < l.length) ∧ Dg l ∧ dval l ≤ 9223372036854775807)) : rN l = (0, false) := if_neg h
theorem head_at (s : ByteArray) (h : 0 < s.size) : s.data.toList.head? = some (s[0]'h) := by
  rw [List.head?_eq_getElem?, List.getElem?_eq_getElem (show 0 < s.data.toList.length from h)]; rfl
theorem take_snoc' (s : ByteArray) (p : Nat) (h : p < s.size) : s.data.toList.take (p + 1) = s.data.toList.take p ++ [s[p]] := by
  rw [List.take_succ_eq_append_getElem (by simpa using h)]; rfl
theorem mem_at (s : ByteArray) (p : Nat) (h : p < s.size) : (s[p]'h) ∈ s.data.toList := by
  have : s.data.toList[p]'h = s[p]'h := rfl
  rw [← this]; exact List.getElem_mem _
theorem dval_split (s : ByteArray) (p : Nat) : dval (s.data.toList.take p) ≤ dval s.data.toList := by
  conv => rhs; rw [← List.take_append_drop p s.data.toList]
  unfold dval
  rw [List.foldl_append]
  exact val_ge _ _
set_option maxRecDepth 100000 in
set_option maxHeartbeats 2000000 in
theorem refnumber_any (s : ByteArray) : Pure Tryd.prog 57 #[.string s] (.tuple #[.int .i64 ((rN s.data.toList).1 : Nat), .bool (rN s.data.toList).2]) := by
  intro W
  have hlen : s.data.toList.length = s.size := rfl
  by_cases h0 : s.size < 1
  · have hr : rN s.data.toList = (0, false) := rN_bad (fun h => by have := List.length_pos_iff.2 h.1; omega)
    rw [hr]
    have h0I : (s.size : Int) < 1 := by omega
    clear hr hlen
    go_enter Tryd.func57, Tryd.ntmps57
    go_wp2
    go_ret2
    refine ⟨rfl, ?_⟩
    (repeat (first | assumption | exact Below.refl _ _ | refine ba ?_ _ | refine bd ?_ | refine bdn ?_ _ | refine bs ?_ (by first | omega | (simp; done) | (simp; omega)) _ | refine bt ?_ (by assumption)))
  · by_cases h1 : 19 < s.size
    · have hr : rN s.data.toList = (0, false) := rN_bad (fun h => by have := h.2.1; omega)
      rw [hr]
      have h0I : ¬ (s.size : Int) < 1 := by omega
      have h1I : 19 < (s.size : Int) := by omega
      clear hr hlen
      go_enter Tryd.func57, Tryd.ntmps57
      go_wp2
      go_ret2
      refine ⟨rfl, ?_⟩
      (repeat (first | assumption | exact Below.refl _ _ | refine ba ?_ _ | refine bd ?_ | refine bdn ?_ _ | refine bs ?_ (by first | omega | (simp; done) | (simp; omega)) _ | refine bt ?_ (by assumption)))
    · have hpos : 0 < s.size := by omega
      have hh := head_at s hpos
      have h0I : ¬ (s.size : Int) < 1 := by omega
      have h1I : (s.size : Int) ≤ 19 := by omega
      by_cases h2 : (s[0]'hpos).toNat = 48 ∧ 1 < s.size
      · have hr : rN s.data.toList = (0, false) := rN_bad (fun h => h.2.2.1 ⟨by rw [hh]; exact congrArg some (UInt8.toNat_inj.1 h2.1), by omega⟩)
        rw [hr]
        have t1 : (((s[0]'hpos).toNat : Int) == 48) = true := by simp; omega
        have t2 : 1 < (s.size : Int) := by omega
        clear hr hh hlen
        go_enter Tryd.func57, Tryd.ntmps57
        go_wp2
        go_ret2
        refine ⟨rfl, ?_⟩
        (repeat (first | assumption | exact Below.refl _ _ | refine ba ?_ _ | refine bd ?_ | refine bdn ?_ _ | refine bs ?_ (by first | omega | (simp; done) | (simp; omega)) _ | refine bt ?_ (by assumption)))
      · have key : ∀ l, l = s.data.toList → Dg l → dval l ≤ 9223372036854775807 → rN l = (dval l, true) := fun l hl hd hv => by
          subst hl
          exact if_pos ⟨by intro h; rw [h] at hlen; simp at hlen; omega, by omega, fun h => h2 ⟨by rw [hh] at h; injection h.1 with h1; rw [h1]; rfl, by omega⟩, hd, hv⟩
        have KEY := Lib.hid (key _ rfl)
        clear key hh hlen
        by_cases h3 : (s[0]'hpos).toNat = 48
        · have t1 : (((s[0]'hpos).toNat : Int) == 48) = true := by simp; omega
          have t2 : ¬ 1 < (s.size : Int) := by omega
          clear h2 h3
          go_enter Tryd.func57, Tryd.ntmps57
          go_wp2
          go_loop [4, 5] (fun x i => ∃ p : Nat, p ≤ s.size ∧ i = .int .i64 p ∧ x = .int .i64 (dval (s.data.toList.take p) : Nat) ∧ Hid (Dg (s.data.toList.take p)) ∧ dval (s.data.toList.take p) ≤ 9223372036854775807) (fun _ i => s.size - (intOf i).toNat)
          case atStart => exact ⟨0, by omega, rfl, rfl, Lib.hid (fun b hb => by cases hb), by simp [dval]⟩
          case round =>
            obtain ⟨p, hp, rfl, rfl, HD, hv⟩ := hrel
            by_cases hlt : p < s.size
            · have hbad : ∀ l, l = s.data.toList → (¬ (48 ≤ (s[p]'hlt).toNat ∧ (s[p]'hlt).toNat ≤ 57) ∨ 9223372036854775807 < dval (s.data.toList.take (p + 1))) → rN l = (0, false) := fun l hl h => by
                subst hl
                refine rN_bad (fun hh => ?_)
                rcases h with h | h
                · exact h (hh.2.2.2.1 _ (mem_at s p hlt))
                · have := dval_split s (p + 1); have := hh.2.2.2.2; omega
              have HBAD := Lib.hid (hbad _ rfl)
              have hsn : dval (s.data.toList.take (p + 1)) = dval (s.data.toList.take p) * 10 + ((s[p]'hlt).toNat - 48) := by rw [take_snoc' s p hlt, dval_snoc]
              have HSN := Lib.hid hsn
              have hdg : 48 ≤ (s[p]'hlt).toNat ∧ (s[p]'hlt).toNat ≤ 57 → Dg (s.data.toList.take (p + 1)) := fun h b hb => by
                rw [take_snoc' s p hlt, List.mem_append] at hb
                rcases hb with hb | hb
                · exact HD.out b hb
                · simp at hb; subst hb; exact h
              have HDG := Lib.hid hdg
              clear hbad hsn hdg HD
              have hcc : (s[p]'hlt).toNat < 256 := (s[p]'hlt).toNat_lt
              generalize hvv : dval (s.data.toList.take p) = n at *
              clear hvv
              by_cases k1 : (s[p]'hlt).toNat < 48
              · have k1I : ((s[p]'hlt).toNat : Int) < 48 := by omega
                have hr := HBAD.out (.inl (by omega))
                have HR := Lib.hid hr
                clear hr
                go_wp2
                go_ret2
                refine ⟨by rw [HR.out]; rfl, ?_⟩
                (repeat (first | assumption | exact Below.refl _ _ | refine ba ?_ _ | refine bd ?_ | refine bdn ?_ _ | refine bs ?_ (by first | omega | (simp; done) | (simp; omega)) _ | refine bt ?_ (by assumption)))
              · by_cases k2 : 57 < (s[p]'hlt).toNat
                · have k2I : 57 < ((s[p]'hlt).toNat : Int) := by omega
                  have k1I : 48 ≤ ((s[p]'hlt).toNat : Int) := by omega
                  have hr := HBAD.out (.inl (by omega))
                  have HR := Lib.hid hr
                  clear hr
                  go_wp2
                  go_ret2
                  refine ⟨by rw [HR.out]; rfl, ?_⟩
                  (repeat (first | assumption | exact Below.refl _ _ | refine ba ?_ _ | refine bd ?_ | refine bdn ?_ _ | refine bs ?_ (by first | omega | (simp; done) | (simp; omega)) _ | refine bt ?_ (by assumption)))
                · have k2I : ((s[p]'hlt).toNat : Int) ≤ 57 := by omega
                  have k1I : 48 ≤ ((s[p]'hlt).toNat : Int) := by omega
                  by_cases k3 : 922337203685477580 < n
                  · have k3I : 922337203685477580 < (n : Int) := by omega
                    have hr := HBAD.out (.inr (by rw [HSN.out]; omega))
                    have HR := Lib.hid hr
                    clear hr
                    go_wp2
                    go_ret2
                    refine ⟨by rw [HR.out]; rfl, ?_⟩
                    (repeat (first | assumption | exact Below.refl _ _ | refine ba ?_ _ | refine bd ?_ | refine bdn ?_ _ | refine bs ?_ (by first | omega | (simp; done) | (simp; omega)) _ | refine bt ?_ (by assumption)))
                  · have k3I : (n : Int) ≤ 922337203685477580 := by omega
                    by_cases k4 : n = 922337203685477580
                    · by_cases k5 : 55 < (s[p]'hlt).toNat
                      · have k4I : ((n : Int) == 922337203685477580) = true := by simp; omega
                        have k5I : 7 < ((s[p]'hlt).toNat : Int) - 48 := by omega
                        have hr := HBAD.out (.inr (by rw [HSN.out]; omega))
                        have HR := Lib.hid hr
                        clear hr k4
                        go_wp2
                        go_ret2
                        refine ⟨by rw [HR.out]; rfl, ?_⟩
                        (repeat (first | assumption | exact Below.refl _ _ | refine ba ?_ _ | refine bd ?_ | refine bdn ?_ _ | refine bs ?_ (by first | omega | (simp; done) | (simp; omega)) _ | refine bt ?_ (by assumption)))
                      · have k4I : ((n : Int) == 922337203685477580) = true := by simp; omega
                        have k5I : ((s[p]'hlt).toNat : Int) - 48 ≤ 7 := by omega
                        have HK4 := Lib.hid k4
                        have hnI : 0 ≤ (n : Int) := by omega
                        clear k4
                        go_wp2
                        go_round
                        case rel => exact ⟨p + 1, by omega, by go_num, by rw [HSN.out]; exact congrArg (Value.int .i64) (by have := HK4.out; omega), Lib.hid (HDG.out ⟨by omega, by omega⟩), by rw [HSN.out]; have := HK4.out; omega⟩
                        case measure => simp [intOf]; omega
                    · have k4I : ((n : Int) == 922337203685477580) = false := by simp; omega
                      go_wp2
                      go_round
                      case rel => exact ⟨p + 1, by omega, by go_num, by rw [HSN.out]; exact congrArg (Value.int .i64) (by omega), Lib.hid (HDG.out ⟨by omega, by omega⟩), by rw [HSN.out]; omega⟩
                      case measure => simp [intOf]; omega
            · have hpe : p = s.size := by omega
              have hfull : s.data.toList.take p = s.data.toList := by rw [hpe]; exact List.take_of_length_le (Nat.le_refl _)
              rw [hfull] at hv HD ⊢
              have HR := Lib.hid (KEY.out HD.out hv)
              clear hfull hpe
              go_wp2
              go_ret2
              refine ⟨by rw [HR.out]; rfl, ?_⟩
              (repeat (first | assumption | exact Below.refl _ _ | refine ba ?_ _ | refine bd ?_ | refine bdn ?_ _ | refine bs ?_ (by first | omega | (simp; done) | (simp; omega)) _ | refine bt ?_ (by assumption)))
        · have t1 : (((s[0]'hpos).toNat : Int) == 48) = false := by simp; omega
          clear h2 h3
          go_enter Tryd.func57, Tryd.ntmps57
          go_wp2
          go_loop [4, 5] (fun x i => ∃ p : Nat, p ≤ s.size ∧ i = .int .i64 p ∧ x = .int .i64 (dval (s.data.toList.take p) : Nat) ∧ Hid (Dg (s.data.toList.take p)) ∧ dval (s.data.toList.take p) ≤ 9223372036854775807) (fun _ i => s.size - (intOf i).toNat)
          case atStart => exact ⟨0, by omega, rfl, rfl, Lib.hid (fun b hb => by cases hb), by simp [dval]⟩
          case round =>
            obtain ⟨p, hp, rfl, rfl, HD, hv⟩ := hrel
            by_cases hlt : p < s.size
            · have hbad : ∀ l, l = s.data.toList → (¬ (48 ≤ (s[p]'hlt).toNat ∧ (s[p]'hlt).toNat ≤ 57) ∨ 9223372036854775807 < dval (s.data.toList.take (p + 1))) → rN l = (0, false) := fun l hl h => by
                subst hl
                refine rN_bad (fun hh => ?_)
                rcases h with h | h
                · exact h (hh.2.2.2.1 _ (mem_at s p hlt))
                · have := dval_split s (p + 1); have := hh.2.2.2.2; omega
              have HBAD := Lib.hid (hbad _ rfl)
              have hsn : dval (s.data.toList.take (p + 1)) = dval (s.data.toList.take p) * 10 + ((s[p]'hlt).toNat - 48) := by rw [take_snoc' s p hlt, dval_snoc]
              have HSN := Lib.hid hsn
              have hdg : 48 ≤ (s[p]'hlt).toNat ∧ (s[p]'hlt).toNat ≤ 57 → Dg (s.data.toList.take (p + 1)) := fun h b hb => by
                rw [take_snoc' s p hlt, List.mem_append] at hb
                rcases hb with hb | hb
                · exact HD.out b hb
                · simp at hb; subst hb; exact h
              have HDG := Lib.hid hdg
              clear hbad hsn hdg HD
              have hcc : (s[p]'hlt).toNat < 256 := (s[p]'hlt).toNat_lt
              generalize hvv : dval (s.data.toList.take p) = n at *
              clear hvv
              by_cases k1 : (s[p]'hlt).toNat < 48
              · have k1I : ((s[p]'hlt).toNat : Int) < 48 := by omega
                have hr := HBAD.out (.inl (by omega))
                have HR := Lib.hid hr
                clear hr
                go_wp2
                go_ret2
                refine ⟨by rw [HR.out]; rfl, ?_⟩
                (repeat (first | assumption | exact Below.refl _ _ | refine ba ?_ _ | refine bd ?_ | refine bdn ?_ _ | refine bs ?_ (by first | omega | (simp; done) | (simp; omega)) _ | refine bt ?_ (by assumption)))
              · by_cases k2 : 57 < (s[p]'hlt).toNat
                · have k2I : 57 < ((s[p]'hlt).toNat : Int) := by omega
                  have k1I : 48 ≤ ((s[p]'hlt).toNat : Int) := by omega
                  have hr := HBAD.out (.inl (by omega))
                  have HR := Lib.hid hr
                  clear hr
                  go_wp2
                  go_ret2
                  refine ⟨by rw [HR.out]; rfl, ?_⟩
                  (repeat (first | assumption | exact Below.refl _ _ | refine ba ?_ _ | refine bd ?_ | refine bdn ?_ _ | refine bs ?_ (by first | omega | (simp; done) | (simp; omega)) _ | refine bt ?_ (by assumption)))
                · have k2I : ((s[p]'hlt).toNat : Int) ≤ 57 := by omega
                  have k1I : 48 ≤ ((s[p]'hlt).toNat : Int) := by omega
                  by_cases k3 : 922337203685477580 < n
                  · have k3I : 922337203685477580 < (n : Int) := by omega
                    have hr := HBAD.out (.inr (by rw [HSN.out]; omega))
                    have HR := Lib.hid hr
                    clear hr
                    go_wp2
                    go_ret2
                    refine ⟨by rw [HR.out]; rfl, ?_⟩
                    (repeat (first | assumption | exact Below.refl _ _ | refine ba ?_ _ | refine bd ?_ | refine bdn ?_ _ | refine bs ?_ (by first | omega | (simp; done) | (simp; omega)) _ | refine bt ?_ (by assumption)))
                  · have k3I : (n : Int) ≤ 922337203685477580 := by omega
                    by_cases k4 : n = 922337203685477580
                    · by_cases k5 : 55 < (s[p]'hlt).toNat
                      · have k4I : ((n : Int) == 922337203685477580) = true := by simp; omega
                        have k5I : 7 < ((s[p]'hlt).toNat : Int) - 48 := by omega
                        have hr := HBAD.out (.inr (by rw [HSN.out]; omega))
                        have HR := Lib.hid hr
                        clear hr k4
                        go_wp2
                        go_ret2
                        refine ⟨by rw [HR.out]; rfl, ?_⟩
                        (repeat (first | assumption | exact Below.refl _ _ | refine ba ?_ _ | refine bd ?_ | refine bdn ?_ _ | refine bs ?_ (by first | omega | (simp; done) | (simp; omega)) _ | refine bt ?_ (by assumption)))
                      · have k4I : ((n : Int) == 922337203685477580) = true := by simp; omega
                        have k5I : ((s[p]'hlt).toNat : Int) - 48 ≤ 7 := by omega
                        have HK4 := Lib.hid k4
                        have hnI : 0 ≤ (n : Int) := by omega
                        clear k4
                        go_wp2
                        go_round
                        case rel => exact ⟨p + 1, by omega, by go_num, by rw [HSN.out]; exact congrArg (Value.int .i64) (by have := HK4.out; omega), Lib.hid (HDG.out ⟨by omega, by omega⟩), by rw [HSN.out]; have := HK4.out; omega⟩
                        case measure => simp [intOf]; omega
                    · have k4I : ((n : Int) == 922337203685477580) = false := by simp; omega
                      go_wp2
                      go_round
                      case rel => exact ⟨p + 1, by omega, by go_num, by rw [HSN.out]; exact congrArg (Value.int .i64) (by omega), Lib.hid (HDG.out ⟨by omega, by omega⟩), by rw [HSN.out]; omega⟩
                      case measure => simp [intOf]; omega
            · have hpe : p = s.size := by omega
              have hfull : s.data.toList.take p = s.data.toList := by rw [hpe]; exact List.take_of_length_le (Nat.le_refl _)
              rw [hfull] at hv HD ⊢
              have HR := Lib.hid (KEY.out HD.out hv)
              clear hfull hpe
              go_wp2
              go_ret2
              refine ⟨by rw [HR.out]; rfl, ?_⟩
              (repeat (first | assumption | exact Below.refl _ _ | refine ba ?_ _ | refine bd ?_ | refine bdn ?_ _ | refine bs ?_ (by first | omega | (simp; done) | (simp; omega)) _ | refine bt ?_ (by assumption)))
theorem index_at (c : UInt8) : ∀ (l : List UInt8) (i : Nat) (h : i < l.length), (∀ j (hj : j < l.length), j < i → l[j] ≠ c) → l[i] = c → Lib.indexByte l c = i
  | [], i, h, _, _ => by simp at h
  | b :: l, 0, _, _, he => by
    unfold Lib.indexByte
    simp at he
    simp [he]
  | b :: l, i + 1, h, hn, he => by
    have hb : b ≠ c := hn 0 (by simp) (by omega)
    have ih := index_at c l i (by simpa using h) (fun j hj hji => hn (j + 1) (by simpa using hj) (by omega)) (by simpa using he)
    unfold Lib.indexByte
    rw [if_neg (by simpa using hb), ih, if_neg (by simp)]
    omega
theorem index_none (c : UInt8) : ∀ (l : List UInt8), (∀ j (hj : j < l.length), l[j] ≠ c) → Lib.indexByte l c = -1
  | [], _ => rfl
  | b :: l, hn => by
    have hb : b ≠ c := hn 0 (by simp)
    have ih := index_none c l (fun j hj => hn (j + 1) (by simpa using hj))
    unfold Lib.indexByte
    rw [if_neg (by simpa using hb), ih]
    rfl
/-- What the reference's Parse answers. -/
def rQ (s : ByteArray) : Int × Int × Bool :=
  if 0 ≤ Lib.indexByte s.data.toList 47 ∧ (rN (cutA 47 s).data.toList).2 = true ∧ (rN (cutB 47 s).data.toList).2 = true ∧ 1 ≤ (rN (cutB 47 s).data.toList).1
  then (((rN (cutA 47 s).data.toList).1 : Nat), ((rN (cutB 47 s).data.toList).1 : Nat), true) else (0, 0, false)
theorem numR_nil : numR [] = -1 := rfl
theorem rP_rQ (s : ByteArray) : rP s = rQ s := by
  unfold rP rQ
  by_cases hi : 0 ≤ Lib.indexByte s.data.toList 47
  · rcases ha : rN (cutA 47 s).data.toList with ⟨a, x⟩
    rcases hb : rN (cutB 47 s).data.toList with ⟨b, y⟩
    simp only
    cases x with
    | false =>
      have := (rN_no ha).2
      rw [if_neg (fun h => by have := h.1; omega), if_neg (fun h => by cases h.2.1)]
    | true =>
      cases y with
      | false =>
        have := (rN_no hb).2
        rw [if_neg (fun h => by have := h.2; omega), if_neg (fun h => by cases h.2.2.1)]
      | true =>
        rw [numR_rN ha, numR_rN hb]
        by_cases h1 : 1 ≤ b
        · rw [if_pos ⟨by omega, by omega⟩, if_pos ⟨hi, rfl, rfl, h1⟩]
        · rw [if_neg (fun h => by have := h.2; omega), if_neg (fun h => h1 h.2.2.2)]
  · have hB : (cutB 47 s).data.toList = [] := by unfold cutB; rw [if_neg hi]
    rw [hB, numR_nil, if_neg (fun h => by have := h.2; omega), if_neg (fun h => hi h.1)]
end Go.Proofs.YtfnfolpdbbnnlaaDoor

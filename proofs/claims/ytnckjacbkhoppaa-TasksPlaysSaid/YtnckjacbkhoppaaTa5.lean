/- tasks: Launch of a task that is there, or beyond the cap. -/
import Derived.Test.YtnckjacbkhoppaaTa4
namespace Go.Proofs.Ytnckjacbkhoppaa
open Go.RowKit Go.Maps
open Go.ChangeMaps (setBlock)
attribute [local go_sem] ext_cell ext_frozen extC_cell extC_frozen Mix.calmUpon Mix.mUpon
section
variable {w : World} {B tp M : Nat} {cap : Int} {S : List Tk} {L : List (K2 × Value)}
set_option maxRecDepth 100000 in
set_option maxHeartbeats 4000000 in
theorem tlaunch_there (h : TT w B tp M cap S L) (x : Tk) (hV : Vc w x.vv x.ps) (hL : x.ps.length < 1000000) (hok : TOk x) (hi : I64 x.frame ∧ I64 x.id) {y : Tk} (hy : fndT S (tkey x) = some y) : Calls Try.prog 57 #[ptr tp, tkval x] w fun e w' => e = .returned (.int .i64 42) ∧ Below w.heap.size w w' := by
  have HOK := Lib.hid hok; have HI := Lib.hid hi; have HY := Lib.hid hy
  clear hok hi
  obtain ⟨ya, yc, hyv, -, -⟩ := (h.vec y (Srt.fnd_mem hy).1).vc.form
  obtain ⟨yf, yi, yg, yv, ys⟩ := y
  simp only at hyv
  subst hyv
  generalize ys.length = m at *
  clear hy
  obtain ⟨va, vc, hvv, -, -⟩ := hV.form
  obtain ⟨f, i, a, vv, ps⟩ := x
  simp only at hvv hV hL
  subst hvv
  have hz := KB.made w f i a (.slice va ps.length vc)
  have hb := ba (Below.refl w.heap.size w) (.cells #[.int .i64 f, .int .i64 i, .int .i64 a, .slice va ps.length vc] 95)
  have hs : w.heap.size < (w.alloc (.cells #[.int .i64 f, .int .i64 i, .int .i64 a, .slice va ps.length vc] 95)).heap.size := by simp
  have H := Lib.hid (h.below hb); have HZ := Lib.hid hz; have HB := Lib.hid hb
  have HV := Lib.hid (hV.on hb); have HL := Lib.hid hL; have HV0 := Lib.hid hV
  have HS := Lib.hid hs
  clear h hz hb hV hL hs
  obtain ⟨n, hn⟩ : ∃ n, n = ps.length := ⟨_, rfl⟩
  have HN := Lib.hid hn
  rw [← hn] at HZ HB HV H HV0 HS ⊢
  clear hn
  go_enter Try.func57, Try.ntmps57
  go_wp2_with fail
  generalize w.alloc (.cells #[.int .i64 f, .int .i64 i, .int .i64 a, .slice va n vc] 95) = w1 at *
  generalize hbq : w.heap.size = b at *
  refine (tmade H.out).mono ?_
  rintro e w2 ⟨rfl, rfl⟩
  obtain ⟨x0, x1, x2, x3⟩ := HZ.out.cells
  have x4 := HZ.out.lt
  have hok := HOK.out
  unfold TOk at hok
  simp only at hok
  have q0 : ¬ f < 1 := by omega
  have q1 : ¬ i < 1 := by omega
  have q2 : ¬ a < 1 := by omega
  have q3b : ((n : Int) == 0) = false := by
    have : n ≠ 0 := fun e => hok.2.2.2.1 (List.eq_nil_of_length_eq_zero (by rw [← HN.out]; exact e))
    simp [this]
  have hR := vecright_v (.slice va n vc) ps (by have := HL.out; omega) w2 HV.out
  rw [decide_eq_true hok.2.2.2.2] at hR
  have HR := Lib.hid hR
  clear hR hok
  go_wp2_with fail
  refine HR.out.mono ?_
  rintro e w3 ⟨rfl, hb3⟩
  have HB3 := Lib.hid hb3
  have hZ3 := HZ.out.below hb3
  clear hb3 x0 x1 x2 x3 x4 q3b
  obtain ⟨x0, x1, x2, x3⟩ := hZ3.cells
  have x4 := hZ3.lt
  have HZ3 := Lib.hid hZ3
  clear hZ3
  go_wp2
  have hk0 := heap_alloc_new w3 (.cells #[.int .i64 f, .int .i64 i] 50)
  have hb34 := ba (Below.refl w3.heap.size w3) (.cells #[.int .i64 f, .int .i64 i] 50)
  generalize w3.alloc (.cells #[.int .i64 f, .int .i64 i] 50) = w4 at *
  have H4 := Lib.hid ((H.out.below HB3.out).below hb34)
  have HZ4 := Lib.hid (HZ3.out.below hb34)
  have HB04 := Lib.hid (show Below b w w4 from (HB.out.trans (HB3.out.mono (Nat.le_of_lt HS.out))).trans (hb34.mono (by have := HZ3.out.lt; omega)))
  have hlt5 := (Array.getElem?_eq_some_iff.1 hk0).1
  generalize w3.heap.size = b5 at *
  have HK0 := Lib.hid hk0
  have HB4 := Lib.hid hb34
  have hk00 : w4.cell? ⟨b5, 0, none⟩ = some (.int .i64 f) := by simp [World.cell?, hk0]
  have hk01 : w4.cell? ⟨b5, 1, none⟩ = some (.int .i64 i) := by simp [World.cell?, hk0]
  have c1 := H4.out.c1
  have hl := H4.out.lt
  have hl1 := hl.1
  clear x0 x1 x2 x3 x4 q0 q1 q2 hk0 hb34
  have hlk : ∀ x : ExtC w4 (fun _ => False), (Instr.lookup 112 (.map (some M)) (.agg #[.int .i64 f, .int .i64 i]) true).run Try.prog (extC w4 (fun _ => False) x) = .ok (.tuple #[.agg #[.int .i64 yf, .int .i64 yi, .int .i64 yg, .slice ya m yc], .bool true]) (extC w4 (fun _ => False) x) := fun x => by
    have h := (H4.out.chg (extC_chg w4 _ x) id id fun _ _ _ _ => id).find (k := ⟨f, i⟩) HI.out true
    rw [show fndT S ⟨f, i⟩ = some ⟨yf, yi, yg, .slice ya m yc, ys⟩ from HY.out] at h
    exact h
  refine Mix.regionC (fun _ => False) (by kernel_rfl) ?_
  intro w5 hb5
  refine Mix.take_exC _ _ 0 rfl (by kernel_rfl) (by kernel_rfl) (by kernel_rfl) (by kernel_rfl) (fun K hK => ?_)
  go_simp
  first | (refine hK _ ?_; clear hK K) | (apply Exists.intro; refine ⟨fun x => ?_, hK _ ?_⟩; (fail); clear hK K)
  refine Mix.take_exC _ _ 1 rfl (by kernel_rfl) (by kernel_rfl) (by kernel_rfl) (by kernel_rfl) (fun K hK => ?_)
  go_simp
  first | (refine hK _ ?_; clear hK K) | (apply Exists.intro; refine ⟨fun x => ?_, hK _ ?_⟩; (fail); clear hK K)
  refine Mix.take_exC _ _ 2 rfl (by kernel_rfl) (by kernel_rfl) (by kernel_rfl) (by kernel_rfl) (fun K hK => ?_)
  go_simp
  first | (refine hK _ ?_; clear hK K) | (apply Exists.intro; refine ⟨fun x => ?_, hK _ ?_⟩; (fail); clear hK K)
  refine Mix.take_exC _ _ 3 rfl (by kernel_rfl) (by kernel_rfl) (by kernel_rfl) (by kernel_rfl) (fun K hK => ?_)
  go_simp
  first | (refine hK _ ?_; clear hK K) | (apply Exists.intro; refine ⟨fun x => ?_, hK _ ?_⟩; (fail); clear hK K)
  refine Mix.take_exC _ _ 4 rfl (by kernel_rfl) (by kernel_rfl) (by kernel_rfl) (by kernel_rfl) (fun K hK => ?_)
  go_simp
  first | (refine hK _ ?_; clear hK K) | (apply Exists.intro; refine ⟨fun x => ?_, hK _ ?_⟩; (fail); clear hK K)
  refine Mix.take_exC _ _ 5 rfl (by kernel_rfl) (by kernel_rfl) (by kernel_rfl) (by kernel_rfl) (fun K hK => ?_)
  go_simp
  first | (refine hK _ ?_; clear hK K) | (apply Exists.intro; refine ⟨fun x => ?_, hK _ ?_⟩; (fail); clear hK K)
  refine Mix.take_exC _ _ 6 rfl (by kernel_rfl) (by kernel_rfl) (by kernel_rfl) (by kernel_rfl) (fun K hK => ?_)
  go_simp
  first | (refine hK _ ?_; clear hK K) | (apply Exists.intro; refine ⟨fun x => ?_, hK _ ?_⟩; (fail); clear hK K)
  refine Mix.take_exC _ _ 7 rfl (by kernel_rfl) (by kernel_rfl) (by kernel_rfl) (by kernel_rfl) (fun K hK => ?_)
  go_simp
  first | (refine hK _ ?_; clear hK K) | (apply Exists.intro; refine ⟨fun x => ?_, hK _ ?_⟩; (fail); clear hK K)
  refine Mix.take_exC _ _ 8 rfl (by kernel_rfl) (by kernel_rfl) (by kernel_rfl) (by kernel_rfl) (fun K hK => ?_)
  go_simp
  first | (refine hK _ ?_; clear hK K) | (apply Exists.intro; refine ⟨fun x => ?_, hK _ ?_⟩; (fail); clear hK K)
  refine Mix.all (rs := [9]) (by kernel_rfl) (by simp) (.of_below _ hb5) ?_
  intro i6 hi6 w6 hb6 hC6
  simp only [List.mem_cons, List.not_mem_nil, or_false] at hi6
  subst hi6
  have HB6 := Lib.hid (bt hb5 hb6)
  clear hC6 hb5 hb6
  refine Mix.op rfl (by kernel_rfl) ?_
  go_simp
  have hz6 := KB.made w6 0 0 0 (.slice none 0 0)
  have hb67 := ba HB6.out (.cells #[.int .i64 0, .int .i64 0, .int .i64 0, .slice none 0 0] 95)
  generalize w6.alloc (.cells #[.int .i64 0, .int .i64 0, .int .i64 0, .slice none 0 0] 95) = w7 at *
  obtain ⟨b6, hb6q⟩ : ∃ b6, b6 = w6.heap.size := ⟨_, rfl⟩
  rw [← hb6q] at hz6 ⊢
  have HG6 := Lib.hid (show w4.heap.size ≤ b6 by rw [hb6q]; exact HB6.out.size)
  have HZ6 := Lib.hid hz6; have HB7 := Lib.hid hb67
  clear hz6 hb67 hb6q
  refine Mix.all (rs := [10]) (by kernel_rfl) (by simp) (.of_below _ HB7.out) ?_
  intro i8 hi8 w8 hb8 hC8
  simp only [List.mem_cons, List.not_mem_nil, or_false] at hi8
  subst hi8
  have HB8 := Lib.hid (bt HB7.out hb8)
  have hz8 := HZ6.out.below hb8
  clear hC8 hb8
  obtain ⟨m0, m1, m2, m3⟩ := hz8.cells
  have o0 := hz8.fz 0; have o1 := hz8.fz 1; have o2 := hz8.fz 2; have o3 := hz8.fz 3
  have m4 := hz8.lt
  have HST := Lib.hid (show Chg (fun k => k = b6) w8 ((((w8.setCell ⟨b6, 0, none⟩ (.int .i64 yf)).setCell ⟨b6, 1, none⟩ (.int .i64 yi)).setCell ⟨b6, 2, none⟩ (.int .i64 yg)).setCell ⟨b6, 3, none⟩ (.slice ya m yc)) from ((((Chg.refl (fun k => k = b6) w8).setCell (p := ⟨b6, 0, none⟩) (.inl rfl) _).setCell (p := ⟨b6, 1, none⟩) (.inl rfl) _).setCell (p := ⟨b6, 2, none⟩) (.inl rfl) _).setCell (p := ⟨b6, 3, none⟩) (.inl rfl) _)
  clear hz8
  refine Mix.op rfl (by kernel_rfl) ?_
  go_simp
  clear m0 m1 m2 m3 m4 o0 o1 o2 o3
  generalize (((w8.setCell ⟨b6, 0, none⟩ (.int .i64 yf)).setCell ⟨b6, 1, none⟩ (.int .i64 yi)).setCell ⟨b6, 2, none⟩ (.int .i64 yg)).setCell ⟨b6, 3, none⟩ (.slice ya m yc) = w9 at *
  have HB9 := Lib.hid (show Below w4.heap.size w4 w9 from HB8.out.trans (HST.out.below HB8.out.size fun k e => by have e : k = b6 := e; have := HG6.out; omega))
  refine Mix.take_exC _ _ 11 rfl (by kernel_rfl) (by kernel_rfl) (by kernel_rfl) (by kernel_rfl) (fun K hK => ?_)
  go_simp
  first | (refine hK _ ?_; clear hK K) | (apply Exists.intro; refine ⟨fun x => ?_, hK _ ?_⟩; (fail); clear hK K)
  refine Mix.done (by kernel_rfl) (.of_below _ HB9.out) ?_
  intro w10 hb10
  have HB10 := Lib.hid (bt HB9.out hb10)
  clear hb10
  go_wp2
  go_ret
  exact ⟨rfl, HB04.out.trans (HB10.out.mono (by have := HZ4.out.lt; omega))⟩
end
end Go.Proofs.Ytnckjacbkhoppaa

/- tasks: Launch of a task that is not there. -/
import Derived.Test.YtnckjacbkhoppaaTa5
namespace Go.Proofs.Ytnckjacbkhoppaa
open Go.RowKit Go.Maps
open Go.ChangeMaps (setBlock)
attribute [local go_sem] ext_cell ext_frozen extC_cell extC_frozen Mix.calmUpon Mix.mUpon
section
variable {w : World} {B tp M : Nat} {cap : Int} {S : List Tk} {L : List (K2 × Value)}
set_option maxRecDepth 100000 in
set_option maxHeartbeats 4000000 in
theorem tlaunch_cap (h : TT w B tp M cap S L) (x : Tk) (hV : Vc w x.vv x.ps) (hL : x.ps.length < 1000000) (hok : TOk x) (hi : I64 x.frame ∧ I64 x.id) (hy : fndT S (tkey x) = none) (hcap : cap ≤ (S.length : Nat)) : Calls Try.prog 57 #[ptr tp, tkval x] w fun e w' => e = .returned (.int .i64 32) ∧ Below w.heap.size w w' := by
  have HOK := Lib.hid hok; have HI := Lib.hid hi; have HY := Lib.hid hy
  clear hok hi hy
  obtain ⟨va, vc, hvv, -, -⟩ := hV.form
  obtain ⟨f, i, a, vv, ps⟩ := x
  simp only at hvv hV hL
  subst hvv
  have hz := KB.made w f i a (.slice va ps.length vc)
  have hb := ba (Below.refl w.heap.size w) (.cells #[.int .i64 f, .int .i64 i, .int .i64 a, .slice va ps.length vc] 95)
  have hs : w.heap.size < (w.alloc (.cells #[.int .i64 f, .int .i64 i, .int .i64 a, .slice va ps.length vc] 95)).heap.size := by simp
  have H := Lib.hid (h.below hb); have HZ := Lib.hid hz; have HB := Lib.hid hb
  have HV := Lib.hid (hV.on hb); have HL := Lib.hid hL; have HV0 := Lib.hid hV
  have HS := Lib.hid hs
  clear h hz hb hV hL hs
  obtain ⟨n, hn⟩ : ∃ n, n = ps.length := ⟨_, rfl⟩
  have HN := Lib.hid hn
  rw [← hn] at HZ HB HV H HV0 HS ⊢
  clear hn
  go_enter Try.func57, Try.ntmps57
  go_wp2_with fail
  generalize w.alloc (.cells #[.int .i64 f, .int .i64 i, .int .i64 a, .slice va n vc] 95) = w1 at *
  generalize hbq : w.heap.size = b at *
  refine (tmade H.out).mono ?_
  rintro e w2 ⟨rfl, rfl⟩
  obtain ⟨x0, x1, x2, x3⟩ := HZ.out.cells
  have x4 := HZ.out.lt
  have hok := HOK.out
  unfold TOk at hok
  simp only at hok
  have q0 : ¬ f < 1 := by omega
  have q1 : ¬ i < 1 := by omega
  have q2 : ¬ a < 1 := by omega
  have q3b : ((n : Int) == 0) = false := by
    have : n ≠ 0 := fun e => hok.2.2.2.1 (List.eq_nil_of_length_eq_zero (by rw [← HN.out]; exact e))
    simp [this]
  have hR := vecright_v (.slice va n vc) ps (by have := HL.out; omega) w2 HV.out
  rw [decide_eq_true hok.2.2.2.2] at hR
  have HR := Lib.hid hR
  clear hR hok
  go_wp2_with fail
  refine HR.out.mono ?_
  rintro e w3 ⟨rfl, hb3⟩
  have HB3 := Lib.hid hb3
  have hZ3 := HZ.out.below hb3
  clear hb3 x0 x1 x2 x3 x4 q3b
  obtain ⟨x0, x1, x2, x3⟩ := hZ3.cells
  have x4 := hZ3.lt
  have HZ3 := Lib.hid hZ3
  clear hZ3
  go_wp2
  have hk0 := heap_alloc_new w3 (.cells #[.int .i64 f, .int .i64 i] 50)
  have hb34 := ba (Below.refl w3.heap.size w3) (.cells #[.int .i64 f, .int .i64 i] 50)
  generalize w3.alloc (.cells #[.int .i64 f, .int .i64 i] 50) = w4 at *
  have H4 := Lib.hid ((H.out.below HB3.out).below hb34)
  have HZ4 := Lib.hid (HZ3.out.below hb34)
  have HB04 := Lib.hid (show Below b w w4 from (HB.out.trans (HB3.out.mono (Nat.le_of_lt HS.out))).trans (hb34.mono (by have := HZ3.out.lt; omega)))
  have hlt5 := (Array.getElem?_eq_some_iff.1 hk0).1
  generalize w3.heap.size = b5 at *
  have HK0 := Lib.hid hk0
  have HB4 := Lib.hid hb34
  have hk00 : w4.cell? ⟨b5, 0, none⟩ = some (.int .i64 f) := by simp [World.cell?, hk0]
  have hk01 : w4.cell? ⟨b5, 1, none⟩ = some (.int .i64 i) := by simp [World.cell?, hk0]
  have c1 := H4.out.c1
  have hl := H4.out.lt
  have hl1 := hl.1
  have HX5 := Lib.hid (show b < b5 from x4)
  clear x0 x1 x2 x3 x4 q0 q1 q2 hk0 hb34
  have hlk : ∀ x : ExtC w4 (fun _ => False), (Instr.lookup 112 (.map (some M)) (.agg #[.int .i64 f, .int .i64 i]) true).run Try.prog (extC w4 (fun _ => False) x) = .ok (.tuple #[tkzero, .bool false]) (extC w4 (fun _ => False) x) := fun x => by
    have h := (H4.out.chg (extC_chg w4 _ x) id id fun _ _ _ _ => id).find (k := ⟨f, i⟩) HI.out true
    rw [show fndT S ⟨f, i⟩ = none from HY.out] at h
    exact h
  refine Mix.regionC (fun _ => False) (by kernel_rfl) ?_
  intro w5 hb5
  refine Mix.take_exC _ _ 0 rfl (by kernel_rfl) (by kernel_rfl) (by kernel_rfl) (by kernel_rfl) (fun K hK => ?_)
  go_simp
  first | (refine hK _ ?_; clear hK K) | (apply Exists.intro; refine ⟨fun x => ?_, hK _ ?_⟩; (fail); clear hK K)
  refine Mix.take_exC _ _ 1 rfl (by kernel_rfl) (by kernel_rfl) (by kernel_rfl) (by kernel_rfl) (fun K hK => ?_)
  go_simp
  first | (refine hK _ ?_; clear hK K) | (apply Exists.intro; refine ⟨fun x => ?_, hK _ ?_⟩; (fail); clear hK K)
  refine Mix.take_exC _ _ 2 rfl (by kernel_rfl) (by kernel_rfl) (by kernel_rfl) (by kernel_rfl) (fun K hK => ?_)
  go_simp
  first | (refine hK _ ?_; clear hK K) | (apply Exists.intro; refine ⟨fun x => ?_, hK _ ?_⟩; (fail); clear hK K)
  refine Mix.take_exC _ _ 3 rfl (by kernel_rfl) (by kernel_rfl) (by kernel_rfl) (by kernel_rfl) (fun K hK => ?_)
  go_simp
  first | (refine hK _ ?_; clear hK K) | (apply Exists.intro; refine ⟨fun x => ?_, hK _ ?_⟩; (fail); clear hK K)
  refine Mix.take_exC _ _ 4 rfl (by kernel_rfl) (by kernel_rfl) (by kernel_rfl) (by kernel_rfl) (fun K hK => ?_)
  go_simp
  first | (refine hK _ ?_; clear hK K) | (apply Exists.intro; refine ⟨fun x => ?_, hK _ ?_⟩; (fail); clear hK K)
  refine Mix.take_exC _ _ 5 rfl (by kernel_rfl) (by kernel_rfl) (by kernel_rfl) (by kernel_rfl) (fun K hK => ?_)
  go_simp
  first | (refine hK _ ?_; clear hK K) | (apply Exists.intro; refine ⟨fun x => ?_, hK _ ?_⟩; (fail); clear hK K)
  refine Mix.take_exC _ _ 6 rfl (by kernel_rfl) (by kernel_rfl) (by kernel_rfl) (by kernel_rfl) (fun K hK => ?_)
  go_simp
  first | (refine hK _ ?_; clear hK K) | (apply Exists.intro; refine ⟨fun x => ?_, hK _ ?_⟩; (fail); clear hK K)
  refine Mix.take_exC _ _ 7 rfl (by kernel_rfl) (by kernel_rfl) (by kernel_rfl) (by kernel_rfl) (fun K hK => ?_)
  go_simp
  first | (refine hK _ ?_; clear hK K) | (apply Exists.intro; refine ⟨fun x => ?_, hK _ ?_⟩; (fail); clear hK K)
  refine Mix.take_exC _ _ 8 rfl (by kernel_rfl) (by kernel_rfl) (by kernel_rfl) (by kernel_rfl) (fun K hK => ?_)
  go_simp
  first | (refine hK _ ?_; clear hK K) | (apply Exists.intro; refine ⟨fun x => ?_, hK _ ?_⟩; (fail); clear hK K)
  refine Mix.all (rs := [9]) (by kernel_rfl) (by simp) (.of_below _ hb5) ?_
  intro i6 hi6 w6 hb6 hC6
  simp only [List.mem_cons, List.not_mem_nil, or_false] at hi6
  subst hi6
  have HB6 := Lib.hid (bt hb5 hb6)
  clear hC6 hb5 hb6
  refine Mix.op rfl (by kernel_rfl) ?_
  go_simp
  have hz6 := KB.made w6 0 0 0 (.slice none 0 0)
  have hb67 := ba HB6.out (.cells #[.int .i64 0, .int .i64 0, .int .i64 0, .slice none 0 0] 95)
  generalize w6.alloc (.cells #[.int .i64 0, .int .i64 0, .int .i64 0, .slice none 0 0] 95) = w7 at *
  obtain ⟨b6, hb6q⟩ : ∃ b6, b6 = w6.heap.size := ⟨_, rfl⟩
  rw [← hb6q] at hz6 ⊢
  have HG6 := Lib.hid (show w4.heap.size ≤ b6 by rw [hb6q]; exact HB6.out.size)
  have HZ6 := Lib.hid hz6; have HB7 := Lib.hid hb67
  clear hz6 hb67 hb6q
  refine Mix.all (rs := [10]) (by kernel_rfl) (by simp) (.of_below _ HB7.out) ?_
  intro i8 hi8 w8 hb8 hC8
  simp only [List.mem_cons, List.not_mem_nil, or_false] at hi8
  subst hi8
  have HB8 := Lib.hid (bt HB7.out hb8)
  have hz8 := HZ6.out.below hb8
  clear hC8 hb8
  obtain ⟨m0, m1, m2, m3⟩ := hz8.cells
  have o0 := hz8.fz 0; have o1 := hz8.fz 1; have o2 := hz8.fz 2; have o3 := hz8.fz 3
  have m4 := hz8.lt
  have HST := Lib.hid (show Chg (fun k => k = b6) w8 ((((w8.setCell ⟨b6, 0, none⟩ (.int .i64 0)).setCell ⟨b6, 1, none⟩ (.int .i64 0)).setCell ⟨b6, 2, none⟩ (.int .i64 0)).setCell ⟨b6, 3, none⟩ (.slice none 0 0)) from ((((Chg.refl (fun k => k = b6) w8).setCell (p := ⟨b6, 0, none⟩) (.inl rfl) _).setCell (p := ⟨b6, 1, none⟩) (.inl rfl) _).setCell (p := ⟨b6, 2, none⟩) (.inl rfl) _).setCell (p := ⟨b6, 3, none⟩) (.inl rfl) _)
  clear hz8
  refine Mix.op rfl (by kernel_rfl) ?_
  go_simp
  clear m0 m1 m2 m3 m4 o0 o1 o2 o3
  generalize (((w8.setCell ⟨b6, 0, none⟩ (.int .i64 0)).setCell ⟨b6, 1, none⟩ (.int .i64 0)).setCell ⟨b6, 2, none⟩ (.int .i64 0)).setCell ⟨b6, 3, none⟩ (.slice none 0 0) = w9 at *
  have HB9 := Lib.hid (show Below w4.heap.size w4 w9 from HB8.out.trans (HST.out.below HB8.out.size fun k e => by have e : k = b6 := e; have := HG6.out; omega))
  refine Mix.take_exC _ _ 11 rfl (by kernel_rfl) (by kernel_rfl) (by kernel_rfl) (by kernel_rfl) (fun K hK => ?_)
  go_simp
  first | (refine hK _ ?_; clear hK K) | (apply Exists.intro; refine ⟨fun x => ?_, hK _ ?_⟩; (fail); clear hK K)
  refine Mix.done (by kernel_rfl) (.of_below _ HB9.out) ?_
  intro w10 hb10
  have HB10 := Lib.hid (bt HB9.out hb10)
  clear hb10
  have H10 := Lib.hid (H4.out.below HB10.out)
  clear hlk c1 hl1
  have c0 := H10.out.c0
  have c1 := H10.out.c1
  have hl1 := H10.out.lt.1
  have hlen : ∀ x : ExtC w10 (fun _ => False), (Builtin.len_ #[112] 3 #[.map (some M)]).run Try.prog (extC w10 (fun _ => False) x) = .ok (.int .i64 (S.length : Nat)) (extC w10 (fun _ => False) x) := fun x => by
    have h := (H10.out.chg (extC_chg w10 _ x) id id fun _ _ _ _ => id)
    have h2 := h.map.len Try.underlying112 3
    rw [h.len] at h2
    exact h2
  have hge : decide (cap ≤ ((S.length : Nat) : Int)) = true := decide_eq_true hcap
  go_wp2
  refine Mix.regionC (fun _ => False) (by kernel_rfl) ?_
  intro w11 hb11
  refine Mix.take_exC _ _ 0 rfl (by kernel_rfl) (by kernel_rfl) (by kernel_rfl) (by kernel_rfl) (fun K hK => ?_)
  go_simp
  first | (refine hK _ ?_; clear hK K) | (apply Exists.intro; refine ⟨fun x => ?_, hK _ ?_⟩; (fail); clear hK K)
  refine Mix.take_exC _ _ 1 rfl (by kernel_rfl) (by kernel_rfl) (by kernel_rfl) (by kernel_rfl) (fun K hK => ?_)
  go_simp
  first | (refine hK _ ?_; clear hK K) | (apply Exists.intro; refine ⟨fun x => ?_, hK _ ?_⟩; (fail); clear hK K)
  refine Mix.take_exC _ _ 2 rfl (by kernel_rfl) (by kernel_rfl) (by kernel_rfl) (by kernel_rfl) (fun K hK => ?_)
  go_simp
  first | (refine hK _ ?_; clear hK K) | (apply Exists.intro; refine ⟨fun x => ?_, hK _ ?_⟩; (fail); clear hK K)
  refine Mix.take_exC _ _ 3 rfl (by kernel_rfl) (by kernel_rfl) (by kernel_rfl) (by kernel_rfl) (fun K hK => ?_)
  go_simp
  first | (refine hK _ ?_; clear hK K) | (apply Exists.intro; refine ⟨fun x => ?_, hK _ ?_⟩; (fail); clear hK K)
  refine Mix.take_exC _ _ 4 rfl (by kernel_rfl) (by kernel_rfl) (by kernel_rfl) (by kernel_rfl) (fun K hK => ?_)
  go_simp
  first | (refine hK _ ?_; clear hK K) | (apply Exists.intro; refine ⟨fun x => ?_, hK _ ?_⟩; (fail); clear hK K)
  refine Mix.take_exC _ _ 5 rfl (by kernel_rfl) (by kernel_rfl) (by kernel_rfl) (by kernel_rfl) (fun K hK => ?_)
  go_simp
  first | (refine hK _ ?_; clear hK K) | (apply Exists.intro; refine ⟨fun x => ?_, hK _ ?_⟩; (fail); clear hK K)
  refine Mix.take_exC _ _ 6 rfl (by kernel_rfl) (by kernel_rfl) (by kernel_rfl) (by kernel_rfl) (fun K hK => ?_)
  go_simp
  first | (refine hK _ ?_; clear hK K) | (apply Exists.intro; refine ⟨fun x => ?_, hK _ ?_⟩; (fail); clear hK K)
  refine Mix.take_exC _ _ 7 rfl (by kernel_rfl) (by kernel_rfl) (by kernel_rfl) (by kernel_rfl) (fun K hK => ?_)
  go_simp
  first | (refine hK _ ?_; clear hK K) | (apply Exists.intro; refine ⟨fun x => ?_, hK _ ?_⟩; (fail); clear hK K)
  refine Mix.take_exC _ _ 8 rfl (by kernel_rfl) (by kernel_rfl) (by kernel_rfl) (by kernel_rfl) (fun K hK => ?_)
  go_simp
  first | (refine hK _ ?_; clear hK K) | (apply Exists.intro; refine ⟨fun x => ?_, hK _ ?_⟩; (fail); clear hK K)
  refine Mix.take_exC _ _ 9 rfl (by kernel_rfl) (by kernel_rfl) (by kernel_rfl) (by kernel_rfl) (fun K hK => ?_)
  go_simp
  first | (refine hK _ ?_; clear hK K) | (apply Exists.intro; refine ⟨fun x => ?_, hK _ ?_⟩; (fail); clear hK K)
  refine Mix.done (by kernel_rfl) (.of_below _ hb11) ?_
  intro w12 hb12
  have HB12 := Lib.hid (bt HB10.out (bt hb11 hb12))
  clear hb11 hb12 hlen
  go_wp2
  go_ret
  exact ⟨rfl, by rw [hbq]; exact HB04.out.trans (HB12.out.mono (by have := HZ4.out.lt; omega))⟩
theorem tmap_store {w : World} {M : Nat} {L : List (K2 × Value)} (h : MapK KP w M L) {k : K2} (hk : I64 k.a ∧ I64 k.b) (v : Value) :
    ∃ w', (Instr.mapUpdate 112 (.map (some M)) (pval k) v).run Try.prog w = .ok () w' ∧ MapK KP w' M (mput L k v) ∧ Chg (fun b => b = M) w w' := by
  obtain ⟨o, hrun, h3⟩ := h.store keyP Try.underlying112 hk v
  exact ⟨_, hrun, h3, .of_grown (grown_setBlock w M o) fun b e => by cases e; rfl⟩
set_option maxRecDepth 100000 in
set_option maxHeartbeats 8000000 in
theorem tlaunch_ok (h : TT w B tp M cap S L) (hB : B ≤ w.heap.size) (x : Tk) (hV : Vc w x.vv x.ps) (hL : x.ps.length < 1000000) (hok : TOk x) (hi : I64 x.frame ∧ I64 x.id) (hia : I64 x.agent) (hy : fndT S (tkey x) = none) (hcap : ((S.length : Nat) : Int) < cap) : Calls Try.prog 57 #[ptr tp, tkval x] w fun e w' => e = .returned (.int .i64 0) ∧
    ∃ u, TT w' B tp M cap (putT S ⟨x.frame, x.id, x.agent, u, x.ps⟩) (mput L (tkey x) (tkval ⟨x.frame, x.id, x.agent, u, x.ps⟩)) ∧ (∀ b, u.ownBlock = some b → w.heap.size ≤ b ∧ b < w'.heap.size) ∧ Chg (fun k => k = M) w w' := by
  have HOK := Lib.hid hok; have HI := Lib.hid hi; have HY := Lib.hid hy; have HIA := Lib.hid hia
  have HBW := Lib.hid hB
  have HLT := Lib.hid h.lt
  clear hok hi hy hia hB
  obtain ⟨va, vc, hvv, -, -⟩ := hV.form
  obtain ⟨f, i, a, vv, ps⟩ := x
  simp only at hvv hV hL
  subst hvv
  have hz := KB.made w f i a (.slice va ps.length vc)
  have hb := ba (Below.refl w.heap.size w) (.cells #[.int .i64 f, .int .i64 i, .int .i64 a, .slice va ps.length vc] 95)
  have hs : w.heap.size < (w.alloc (.cells #[.int .i64 f, .int .i64 i, .int .i64 a, .slice va ps.length vc] 95)).heap.size := by simp
  have H := Lib.hid (h.below hb); have HZ := Lib.hid hz; have HB := Lib.hid hb
  have HV := Lib.hid (hV.on hb); have HL := Lib.hid hL; have HV0 := Lib.hid hV
  have HS := Lib.hid hs
  clear h hz hb hV hL hs
  obtain ⟨n, hn⟩ : ∃ n, n = ps.length := ⟨_, rfl⟩
  have HN := Lib.hid hn
  rw [← hn] at HZ HB HV H HV0 HS ⊢
  clear hn
  go_enter Try.func57, Try.ntmps57
  go_wp2_with fail
  generalize w.alloc (.cells #[.int .i64 f, .int .i64 i, .int .i64 a, .slice va n vc] 95) = w1 at *
  generalize hbq : w.heap.size = b at *
  refine (tmade H.out).mono ?_
  rintro e w2 ⟨rfl, rfl⟩
  obtain ⟨x0, x1, x2, x3⟩ := HZ.out.cells
  have x4 := HZ.out.lt
  have hok := HOK.out
  unfold TOk at hok
  simp only at hok
  have q0 : ¬ f < 1 := by omega
  have q1 : ¬ i < 1 := by omega
  have q2 : ¬ a < 1 := by omega
  have q3b : ((n : Int) == 0) = false := by
    have : n ≠ 0 := fun e => hok.2.2.2.1 (List.eq_nil_of_length_eq_zero (by rw [← HN.out]; exact e))
    simp [this]
  have hR := vecright_v (.slice va n vc) ps (by have := HL.out; omega) w2 HV.out
  rw [decide_eq_true hok.2.2.2.2] at hR
  have HR := Lib.hid hR
  clear hR hok
  go_wp2_with fail
  refine HR.out.mono ?_
  rintro e w3 ⟨rfl, hb3⟩
  have HB3 := Lib.hid hb3
  have hZ3 := HZ.out.below hb3
  clear hb3 x0 x1 x2 x3 x4 q3b
  obtain ⟨x0, x1, x2, x3⟩ := hZ3.cells
  have x4 := hZ3.lt
  have HZ3 := Lib.hid hZ3
  clear hZ3
  go_wp2
  have hk0 := heap_alloc_new w3 (.cells #[.int .i64 f, .int .i64 i] 50)
  have hb34 := ba (Below.refl w3.heap.size w3) (.cells #[.int .i64 f, .int .i64 i] 50)
  generalize w3.alloc (.cells #[.int .i64 f, .int .i64 i] 50) = w4 at *
  have H4 := Lib.hid ((H.out.below HB3.out).below hb34)
  have HZ4 := Lib.hid (HZ3.out.below hb34)
  have HB04 := Lib.hid (show Below b w w4 from (HB.out.trans (HB3.out.mono (Nat.le_of_lt HS.out))).trans (hb34.mono (by have := HZ3.out.lt; omega)))
  have hlt5 := (Array.getElem?_eq_some_iff.1 hk0).1
  generalize w3.heap.size = b5 at *
  have HK0 := Lib.hid hk0
  have HB4 := Lib.hid hb34
  have hk00 : w4.cell? ⟨b5, 0, none⟩ = some (.int .i64 f) := by simp [World.cell?, hk0]
  have hk01 : w4.cell? ⟨b5, 1, none⟩ = some (.int .i64 i) := by simp [World.cell?, hk0]
  have c1 := H4.out.c1
  have hl := H4.out.lt
  have hl1 := hl.1
  have HX5 := Lib.hid (show b < b5 from x4)
  clear x0 x1 x2 x3 x4 q0 q1 q2 hk0 hb34
  have hlk : ∀ x : ExtC w4 (fun _ => False), (Instr.lookup 112 (.map (some M)) (.agg #[.int .i64 f, .int .i64 i]) true).run Try.prog (extC w4 (fun _ => False) x) = .ok (.tuple #[tkzero, .bool false]) (extC w4 (fun _ => False) x) := fun x => by
    have h := (H4.out.chg (extC_chg w4 _ x) id id fun _ _ _ _ => id).find (k := ⟨f, i⟩) HI.out true
    rw [show fndT S ⟨f, i⟩ = none from HY.out] at h
    exact h
  refine Mix.regionC (fun _ => False) (by kernel_rfl) ?_
  intro w5 hb5
  refine Mix.take_exC _ _ 0 rfl (by kernel_rfl) (by kernel_rfl) (by kernel_rfl) (by kernel_rfl) (fun K hK => ?_)
  go_simp
  first | (refine hK _ ?_; clear hK K) | (apply Exists.intro; refine ⟨fun x => ?_, hK _ ?_⟩; (fail); clear hK K)
  refine Mix.take_exC _ _ 1 rfl (by kernel_rfl) (by kernel_rfl) (by kernel_rfl) (by kernel_rfl) (fun K hK => ?_)
  go_simp
  first | (refine hK _ ?_; clear hK K) | (apply Exists.intro; refine ⟨fun x => ?_, hK _ ?_⟩; (fail); clear hK K)
  refine Mix.take_exC _ _ 2 rfl (by kernel_rfl) (by kernel_rfl) (by kernel_rfl) (by kernel_rfl) (fun K hK => ?_)
  go_simp
  first | (refine hK _ ?_; clear hK K) | (apply Exists.intro; refine ⟨fun x => ?_, hK _ ?_⟩; (fail); clear hK K)
  refine Mix.take_exC _ _ 3 rfl (by kernel_rfl) (by kernel_rfl) (by kernel_rfl) (by kernel_rfl) (fun K hK => ?_)
  go_simp
  first | (refine hK _ ?_; clear hK K) | (apply Exists.intro; refine ⟨fun x => ?_, hK _ ?_⟩; (fail); clear hK K)
  refine Mix.take_exC _ _ 4 rfl (by kernel_rfl) (by kernel_rfl) (by kernel_rfl) (by kernel_rfl) (fun K hK => ?_)
  go_simp
  first | (refine hK _ ?_; clear hK K) | (apply Exists.intro; refine ⟨fun x => ?_, hK _ ?_⟩; (fail); clear hK K)
  refine Mix.take_exC _ _ 5 rfl (by kernel_rfl) (by kernel_rfl) (by kernel_rfl) (by kernel_rfl) (fun K hK => ?_)
  go_simp
  first | (refine hK _ ?_; clear hK K) | (apply Exists.intro; refine ⟨fun x => ?_, hK _ ?_⟩; (fail); clear hK K)
  refine Mix.take_exC _ _ 6 rfl (by kernel_rfl) (by kernel_rfl) (by kernel_rfl) (by kernel_rfl) (fun K hK => ?_)
  go_simp
  first | (refine hK _ ?_; clear hK K) | (apply Exists.intro; refine ⟨fun x => ?_, hK _ ?_⟩; (fail); clear hK K)
  refine Mix.take_exC _ _ 7 rfl (by kernel_rfl) (by kernel_rfl) (by kernel_rfl) (by kernel_rfl) (fun K hK => ?_)
  go_simp
  first | (refine hK _ ?_; clear hK K) | (apply Exists.intro; refine ⟨fun x => ?_, hK _ ?_⟩; (fail); clear hK K)
  refine Mix.take_exC _ _ 8 rfl (by kernel_rfl) (by kernel_rfl) (by kernel_rfl) (by kernel_rfl) (fun K hK => ?_)
  go_simp
  first | (refine hK _ ?_; clear hK K) | (apply Exists.intro; refine ⟨fun x => ?_, hK _ ?_⟩; (fail); clear hK K)
  refine Mix.all (rs := [9]) (by kernel_rfl) (by simp) (.of_below _ hb5) ?_
  intro i6 hi6 w6 hb6 hC6
  simp only [List.mem_cons, List.not_mem_nil, or_false] at hi6
  subst hi6
  have HB6 := Lib.hid (bt hb5 hb6)
  clear hC6 hb5 hb6
  refine Mix.op rfl (by kernel_rfl) ?_
  go_simp
  have hz6 := KB.made w6 0 0 0 (.slice none 0 0)
  have hb67 := ba HB6.out (.cells #[.int .i64 0, .int .i64 0, .int .i64 0, .slice none 0 0] 95)
  generalize w6.alloc (.cells #[.int .i64 0, .int .i64 0, .int .i64 0, .slice none 0 0] 95) = w7 at *
  obtain ⟨b6, hb6q⟩ : ∃ b6, b6 = w6.heap.size := ⟨_, rfl⟩
  rw [← hb6q] at hz6 ⊢
  have HG6 := Lib.hid (show w4.heap.size ≤ b6 by rw [hb6q]; exact HB6.out.size)
  have HZ6 := Lib.hid hz6; have HB7 := Lib.hid hb67
  clear hz6 hb67 hb6q
  refine Mix.all (rs := [10]) (by kernel_rfl) (by simp) (.of_below _ HB7.out) ?_
  intro i8 hi8 w8 hb8 hC8
  simp only [List.mem_cons, List.not_mem_nil, or_false] at hi8
  subst hi8
  have HB8 := Lib.hid (bt HB7.out hb8)
  have hz8 := HZ6.out.below hb8
  clear hC8 hb8
  obtain ⟨m0, m1, m2, m3⟩ := hz8.cells
  have o0 := hz8.fz 0; have o1 := hz8.fz 1; have o2 := hz8.fz 2; have o3 := hz8.fz 3
  have m4 := hz8.lt
  have HST := Lib.hid (show Chg (fun k => k = b6) w8 ((((w8.setCell ⟨b6, 0, none⟩ (.int .i64 0)).setCell ⟨b6, 1, none⟩ (.int .i64 0)).setCell ⟨b6, 2, none⟩ (.int .i64 0)).setCell ⟨b6, 3, none⟩ (.slice none 0 0)) from ((((Chg.refl (fun k => k = b6) w8).setCell (p := ⟨b6, 0, none⟩) (.inl rfl) _).setCell (p := ⟨b6, 1, none⟩) (.inl rfl) _).setCell (p := ⟨b6, 2, none⟩) (.inl rfl) _).setCell (p := ⟨b6, 3, none⟩) (.inl rfl) _)
  clear hz8
  refine Mix.op rfl (by kernel_rfl) ?_
  go_simp
  clear m0 m1 m2 m3 m4 o0 o1 o2 o3
  generalize (((w8.setCell ⟨b6, 0, none⟩ (.int .i64 0)).setCell ⟨b6, 1, none⟩ (.int .i64 0)).setCell ⟨b6, 2, none⟩ (.int .i64 0)).setCell ⟨b6, 3, none⟩ (.slice none 0 0) = w9 at *
  have HB9 := Lib.hid (show Below w4.heap.size w4 w9 from HB8.out.trans (HST.out.below HB8.out.size fun k e => by have e : k = b6 := e; have := HG6.out; omega))
  refine Mix.take_exC _ _ 11 rfl (by kernel_rfl) (by kernel_rfl) (by kernel_rfl) (by kernel_rfl) (fun K hK => ?_)
  go_simp
  first | (refine hK _ ?_; clear hK K) | (apply Exists.intro; refine ⟨fun x => ?_, hK _ ?_⟩; (fail); clear hK K)
  refine Mix.done (by kernel_rfl) (.of_below _ HB9.out) ?_
  intro w10 hb10
  have HB10 := Lib.hid (bt HB9.out hb10)
  clear hb10
  have H10 := Lib.hid (H4.out.below HB10.out)
  clear hlk c1 hl1
  have c0 := H10.out.c0
  have c1 := H10.out.c1
  have hl1 := H10.out.lt.1
  have hlen : ∀ x : ExtC w10 (fun _ => False), (Builtin.len_ #[112] 3 #[.map (some M)]).run Try.prog (extC w10 (fun _ => False) x) = .ok (.int .i64 (S.length : Nat)) (extC w10 (fun _ => False) x) := fun x => by
    have h := (H10.out.chg (extC_chg w10 _ x) id id fun _ _ _ _ => id)
    have h2 := h.map.len Try.underlying112 3
    rw [h.len] at h2
    exact h2
  have hge : decide (cap ≤ ((S.length : Nat) : Int)) = false := decide_eq_false (by omega)
  go_wp2
  refine Mix.regionC (fun _ => False) (by kernel_rfl) ?_
  intro w11 hb11
  refine Mix.take_exC _ _ 0 rfl (by kernel_rfl) (by kernel_rfl) (by kernel_rfl) (by kernel_rfl) (fun K hK => ?_)
  go_simp
  first | (refine hK _ ?_; clear hK K) | (apply Exists.intro; refine ⟨fun x => ?_, hK _ ?_⟩; (fail); clear hK K)
  refine Mix.take_exC _ _ 1 rfl (by kernel_rfl) (by kernel_rfl) (by kernel_rfl) (by kernel_rfl) (fun K hK => ?_)
  go_simp
  first | (refine hK _ ?_; clear hK K) | (apply Exists.intro; refine ⟨fun x => ?_, hK _ ?_⟩; (fail); clear hK K)
  refine Mix.take_exC _ _ 2 rfl (by kernel_rfl) (by kernel_rfl) (by kernel_rfl) (by kernel_rfl) (fun K hK => ?_)
  go_simp
  first | (refine hK _ ?_; clear hK K) | (apply Exists.intro; refine ⟨fun x => ?_, hK _ ?_⟩; (fail); clear hK K)
  refine Mix.take_exC _ _ 3 rfl (by kernel_rfl) (by kernel_rfl) (by kernel_rfl) (by kernel_rfl) (fun K hK => ?_)
  go_simp
  first | (refine hK _ ?_; clear hK K) | (apply Exists.intro; refine ⟨fun x => ?_, hK _ ?_⟩; (fail); clear hK K)
  refine Mix.take_exC _ _ 4 rfl (by kernel_rfl) (by kernel_rfl) (by kernel_rfl) (by kernel_rfl) (fun K hK => ?_)
  go_simp
  first | (refine hK _ ?_; clear hK K) | (apply Exists.intro; refine ⟨fun x => ?_, hK _ ?_⟩; (fail); clear hK K)
  refine Mix.take_exC _ _ 5 rfl (by kernel_rfl) (by kernel_rfl) (by kernel_rfl) (by kernel_rfl) (fun K hK => ?_)
  go_simp
  first | (refine hK _ ?_; clear hK K) | (apply Exists.intro; refine ⟨fun x => ?_, hK _ ?_⟩; (fail); clear hK K)
  refine Mix.take_exC _ _ 6 rfl (by kernel_rfl) (by kernel_rfl) (by kernel_rfl) (by kernel_rfl) (fun K hK => ?_)
  go_simp
  first | (refine hK _ ?_; clear hK K) | (apply Exists.intro; refine ⟨fun x => ?_, hK _ ?_⟩; (fail); clear hK K)
  refine Mix.take_exC _ _ 7 rfl (by kernel_rfl) (by kernel_rfl) (by kernel_rfl) (by kernel_rfl) (fun K hK => ?_)
  go_simp
  first | (refine hK _ ?_; clear hK K) | (apply Exists.intro; refine ⟨fun x => ?_, hK _ ?_⟩; (fail); clear hK K)
  refine Mix.take_exC _ _ 8 rfl (by kernel_rfl) (by kernel_rfl) (by kernel_rfl) (by kernel_rfl) (fun K hK => ?_)
  go_simp
  first | (refine hK _ ?_; clear hK K) | (apply Exists.intro; refine ⟨fun x => ?_, hK _ ?_⟩; (fail); clear hK K)
  refine Mix.take_exC _ _ 9 rfl (by kernel_rfl) (by kernel_rfl) (by kernel_rfl) (by kernel_rfl) (fun K hK => ?_)
  go_simp
  first | (refine hK _ ?_; clear hK K) | (apply Exists.intro; refine ⟨fun x => ?_, hK _ ?_⟩; (fail); clear hK K)
  refine Mix.done (by kernel_rfl) (.of_below _ hb11) ?_
  intro w12 hb12
  have HB12 := Lib.hid (bt HB10.out (bt hb11 hb12))
  have H12 := Lib.hid (H10.out.below (bt hb11 hb12))
  clear hb11 hb12 hlen c0 c1 hl1
  have hZ12 := HZ4.out.below HB12.out
  obtain ⟨x0, x1, x2, x3⟩ := hZ12.cells
  have x4 := hZ12.lt
  have k0 := (HB12.out.cell (p := ⟨b5, 0, none⟩) hlt5).trans hk00
  have k1 := (HB12.out.cell (p := ⟨b5, 1, none⟩) hlt5).trans hk01
  have k2 : b5 < w12.heap.size := Nat.lt_of_lt_of_le hlt5 HB12.out.size
  have c1 := H12.out.c1
  have hl1 := H12.out.lt.1
  clear hZ12
  have HLTb := Lib.hid (show tp < b ∧ M < b from HLT.out)
  have n1 : ¬ b = M := by have := HLTb.out; omega
  have n2 : ¬ tp = M := H12.out.hM.1
  have HB5 := Lib.hid (show b < b5 from by have := HX5.out; omega)
  have n3 : ¬ b5 = M := by have := HLTb.out; have := HB5.out; omega
  go_wp2
  refine Mix.regionC (fun k => k = M) (by kernel_rfl) ?_
  intro w13 hb13
  refine Mix.take_exC _ _ 0 rfl (by kernel_rfl) (by kernel_rfl) (by kernel_rfl) (by kernel_rfl) (fun K hK => ?_)
  go_simp
  first | (refine hK _ ?_; clear hK K) | (apply Exists.intro; refine ⟨fun x => ?_, hK _ ?_⟩; (fail); clear hK K)
  refine Mix.take_exC _ _ 1 rfl (by kernel_rfl) (by kernel_rfl) (by kernel_rfl) (by kernel_rfl) (fun K hK => ?_)
  go_simp
  first | (refine hK _ ?_; clear hK K) | (apply Exists.intro; refine ⟨fun x => ?_, hK _ ?_⟩; (fail); clear hK K)
  refine Mix.take_exC _ _ 2 rfl (by kernel_rfl) (by kernel_rfl) (by kernel_rfl) (by kernel_rfl) (fun K hK => ?_)
  go_simp
  first | (refine hK _ ?_; clear hK K) | (apply Exists.intro; refine ⟨fun x => ?_, hK _ ?_⟩; (fail); clear hK K)
  refine Mix.take_exC _ _ 3 rfl (by kernel_rfl) (by kernel_rfl) (by kernel_rfl) (by kernel_rfl) (fun K hK => ?_)
  go_simp
  first | (refine hK _ ?_; clear hK K) | (apply Exists.intro; refine ⟨fun x => ?_, hK _ ?_⟩; (fail); clear hK K)
  refine Mix.take_exC _ _ 4 rfl (by kernel_rfl) (by kernel_rfl) (by kernel_rfl) (by kernel_rfl) (fun K hK => ?_)
  go_simp
  first | (refine hK _ ?_; clear hK K) | (apply Exists.intro; refine ⟨fun x => ?_, hK _ ?_⟩; (fail); clear hK K)
  refine Mix.take_exC _ _ 5 rfl (by kernel_rfl) (by kernel_rfl) (by kernel_rfl) (by kernel_rfl) (fun K hK => ?_)
  go_simp
  first | (refine hK _ ?_; clear hK K) | (apply Exists.intro; refine ⟨fun x => ?_, hK _ ?_⟩; (fail); clear hK K)
  refine Mix.all (rs := [6]) (by kernel_rfl) (by simp) (.of_below _ hb13) ?_
  intro i14 hi14 w14 hb14 hC14
  simp only [List.mem_cons, List.not_mem_nil, or_false] at hi14
  subst hi14
  have HB14 := Lib.hid (bt hb13 hb14)
  clear hC14 hb13 hb14
  refine Mix.op rfl (by kernel_rfl) ?_
  go_simp
  have HB014 := Lib.hid (show Below b w w14 from HB04.out.trans ((bt HB12.out HB14.out).mono (by have := HZ4.out.lt; omega)))
  refine (tcopied (w := w14) f i a (HV0.out.on (by rw [hbq]; exact HB014.out)) HL.out).mono ?_
  rintro e w15 ⟨u, rfl, hu, hb15⟩
  refine ⟨_, rfl, ?_⟩
  obtain ⟨ua, uc, rfl, -, -⟩ := hu.vc.form
  have HU := Lib.hid hu
  have HB15 := Lib.hid (bt HB14.out hb15)
  have HB015 := Lib.hid (show Below b w w15 from HB014.out.trans (hb15.mono (by have := HB014.out.size; have := hbq; omega)))
  have HS14 := Lib.hid (show b ≤ w14.heap.size from by have := HB014.out.size; omega)
  clear hu hb15
  refine Mix.all (rs := [7]) (by kernel_rfl) (by simp) (.of_below _ HB15.out) ?_
  intro i16 hi16 w16 hb16 hC16
  simp only [List.mem_cons, List.not_mem_nil, or_false] at hi16
  subst hi16
  have H16 := Lib.hid (H12.out.below (bt HB15.out hb16))
  have HU16 := Lib.hid (ownsRow_chg HU.out (.of_below (fun _ => False) hb16) fun _ _ => id)
  have HB016 := Lib.hid (show Below b w w16 from HB015.out.trans (hb16.mono (by have := HB015.out.size; have := hbq; omega)))
  have HB16 := Lib.hid (bt HB15.out hb16)
  clear hC16 hb16
  obtain ⟨w17, hst, hm17, hc17⟩ := tmap_store H16.out.map (k := ⟨f, i⟩) HI.out (.agg #[.int .i64 f, .int .i64 i, .int .i64 a, .slice ua ps.length uc])
  have HM17 := Lib.hid hm17; have HC17 := Lib.hid hc17
  clear hm17 hc17
  refine Mix.op rfl (by kernel_rfl) ?_
  go_simp
  clear hst
  refine Mix.done (by kernel_rfl) ((Chg.of_below _ HB16.out).same HC17.out) ?_
  intro w18 hb18
  have HB18 := Lib.hid hb18
  clear hb18
  go_wp2
  go_ret
  have hlt := HLTb.out
  have hok := HOK.out
  have hsz := HB016.out.size
  have hg17 := HC17.out.size
  have hub : ∀ k, Value.ownBlock (.slice ua ps.length uc) = some k → b ≤ k ∧ k < w16.heap.size := fun k hk => ⟨by have h1 := (HU.out.lt k hk).1; have := HS14.out; omega, (HU16.out.lt k hk).2⟩
  have hput := H16.out.put (x := ⟨f, i, a, .slice ua ps.length uc, ps⟩) HY.out ⟨⟨hok.1, HI.out.1⟩, ⟨hok.2.1, HI.out.2⟩, ⟨hok.2.2.1, HIA.out⟩, hok.2.2.2.1, HL.out⟩ HC17.out HM17.out
    (ownsRow_base (ownsRow_chg HU16.out HC17.out fun k hk e => by have := hub k hk; have e : k = M := e; omega) (by have := HBW.out; have := HS14.out; omega)) (fun k hk => by have := hub k hk; omega)
  refine ⟨rfl, _, hput.below HB18.out, fun k hk => ?_, ?_⟩
  · have := hub k hk; have := HB18.out.size; rw [hbq]; omega
  · exact ((Chg.of_below (fun k => k = M) (show Below w.heap.size w w16 by rw [hbq]; exact HB016.out)).same HC17.out).then_below HB18.out
end
end Go.Proofs.Ytnckjacbkhoppaa

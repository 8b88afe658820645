/- frames: Subscribe of a framework that is there. -/
import Derived.Test.YtajcelmnblncaaaFr3
namespace Go.Proofs.Ytajcelmnblncaaa
open Go.RowKit Go.Maps
open Go.ChangeMaps (setBlock)
attribute [local go_sem] ext_cell ext_frozen extC_cell extC_frozen Mix.calmUpon Mix.mUpon eqFr
section
variable {w : World} {tp M : Nat} {cap : Int} {S : List Fr}
/-- The arguments that may be. -/
structure SubOk (id : Int) (r : Nat) (wt t : Int) : Prop where
  i0 : 1 ≤ id
  r0 : 1 ≤ r
  r1 : r ≤ 32
  w0 : 1 ≤ wt
  w1 : wt ≤ 1000
  t0 : 0 ≤ t
  t1 : t ≤ 9007199254740992
theorem SubOk.good {id : Int} {r : Nat} {wt t : Int} (h : SubOk id r wt t) (k : Int) : ¬ subBad ⟨k, id, r, wt, t⟩ := by
  obtain ⟨a, b, c, d, e, f, g⟩ := h
  unfold subBad; simp only; omega
set_option maxRecDepth 100000 in
set_option maxHeartbeats 1000000 in
theorem fsub_old (h : TS w tp M cap S) {id : Int} {r : Nat} {wt t : Int} (hs : SubOk id r wt t) (hk : J64 id) (kind : Int) {y : Fr} (hf : fndF S id = some y) : Calls Try.prog 70 #[ptr tp, .int .i64 id, .int .i64 r, .int .i64 wt, .int .i64 t] w (SubPost w tp M cap S ⟨kind, id, r, wt, t⟩) := by
  have hym := Srt.fnd_mem hf
  have hyo := h.ok y hym.1
  have hya : ∀ a, fsub cap S ⟨kind, id, r, wt, t⟩ = a ↔ (if y.role ≠ r then (S, false, 21) else if y.weight ≠ wt then (S, false, 22) else (putF S (fresh ⟨kind, id, r, wt, t⟩ y.quiet), false, 0)) = a := fun a => by
    unfold fsub; rw [if_neg (hs.good kind)]; simp only; rw [hf]
  have HG := Lib.hid hs
  have HYA := Lib.hid hya
  have HYO := Lib.hid hyo
  have HYI := Lib.hid hym.2
  obtain ⟨i0, r0, r1, w0, w1', t0, t1⟩ := hs
  have n1 : ¬ id < 1 := by omega
  have n2 : ¬ wt < 1 := by omega
  have n3 : ¬ 1000 < wt := by omega
  have n4 : ¬ t < 0 := by omega
  have n5 : ¬ 9007199254740992 < t := by omega
  have hyz : (y.id == 0) = false := by have := hyo.id0; simp; omega
  have hidx : (r : Int) < 33 := by omega
  unfold SubPost
  clear hya hym hyo
  have H := Lib.hid h
  have HR := Lib.hid (fright r)
  rw [decide_eq_true (show (1 : Int) ≤ r by omega), decide_eq_true (show (r : Int) ≤ 32 by omega)] at HR
  go_enter Try.func70, Try.ntmps70
  go_wp2_with fail
  refine (fmade H.out).mono ?_
  rintro e w1 ⟨rfl, hb1⟩
  go_wp2_with fail
  refine (HR.out w1).mono ?_
  rintro e w2 ⟨rfl, hb2⟩
  have HB2 := Lib.hid (bt hb1 hb2)
  clear hb1 hb2
  obtain ⟨g, L, H2⟩ := H.out.below HB2.out
  have c1 := H2.c1
  have hl := H2.lt.1
  have hlook := H2.find hk false
  rw [hf] at hlook
  replace hlook := hlook.trans (show _ = .ok (fval y) w2 from rfl)
  by_cases hyr : y.role = r
  · have HYR := Lib.hid hyr
    have hrb : (y.role == (r : Int)) = true := by simpa using hyr
    obtain ⟨d0, d1⟩ := H2.cr r1
    have hgw : (g r).2 = y.weight := H2.ro.fwt y (Srt.fnd_mem hf).1 r hyr
    have hgl : 0 < (g r).1 := by rw [H2.g1 r1]; have := cnt_pos (Srt.fnd_mem hf).1; rw [hyr] at this; omega
    by_cases hyw : y.weight = wt
    · have HYW := Lib.hid hyw
      have hwb : ((g r).2 == wt) = true := by rw [hgw, hyw]; simp
      have E1 := Lib.hid ((HYA.out _).2 (by rw [if_neg (fun e => e hyr), if_neg (fun e => e hyw)]))
      clear hyr hyw hgw
      have hxo : FOk (fresh ⟨kind, id, r, wt, t⟩ y.quiet) := ⟨i0, hk.2, (by show (1 : Int) ≤ (r : Int); omega), (by show (r : Int) ≤ 32; omega), w0, w1', t0, t1, (by show (0 : Int) ≤ 0; omega), (by show (0 : Int) ≤ _; omega), fun _ => rfl⟩
      have HX := Lib.hid (show FOk (fresh ⟨kind, id, r, wt, t⟩ y.quiet) from hxo)
      have HF := Lib.hid hf
      clear hxo hf
      go_wp2
      have HFB := Lib.hid (FB.made w2 y)
      have HB3 := Lib.hid (ba HB2.out (.cells #[.int .i64 y.id, .int .i64 y.role, .int .i64 y.weight, .bool y.up, .bool y.quiet, .int .i64 y.time, .int .i64 y.til] 114))
      have hsz : w2.heap.size < (w2.alloc (.cells #[.int .i64 y.id, .int .i64 y.role, .int .i64 y.weight, .bool y.up, .bool y.quiet, .int .i64 y.time, .int .i64 y.til] 114)).heap.size := by simp
      have HM := Lib.hid (show w2.heap.size ≠ M from fun e => by have := H2.lt.2; omega)
      have H3 := H2.below (ba (Below.refl _ _) (.cells #[.int .i64 y.id, .int .i64 y.role, .int .i64 y.weight, .bool y.up, .bool y.quiet, .int .i64 y.time, .int .i64 y.til] 114))
      clear d0 d1 c1 hl hlook H2
      generalize w2.alloc (.cells #[.int .i64 y.id, .int .i64 y.role, .int .i64 y.weight, .bool y.up, .bool y.quiet, .int .i64 y.time, .int .i64 y.til] 114) = w3 at *
      have e4 := H3.lt.1; have e5 := H3.hM; have e6 := HM.out
      have c1 := H3.c1
      have x4 := HFB.out.cells.2.2.2.2.1
      have H3 := Lib.hid H3
      have HY := Lib.hid (show ∀ w4, Below w3.heap.size w3 w4 → ∃ w', (Instr.mapUpdate 124 (.map (some M)) (.int .i64 id) (.agg #[.int .i64 id, .int .i64 r, .int .i64 wt, .bool true, .bool y.quiet, .int .i64 t, .int .i64 0])).run Try.prog w4 = .ok () w' ∧ TS w' tp M cap (putF S (fresh ⟨kind, id, r, wt, t⟩ y.quiet)) ∧ w4.grownBy w' (some M) from fun w4 hb4 =>
        (H3.out.below hb4).over (f := fresh ⟨kind, id, r, wt, t⟩ y.quiet) (y := y) HF.out HYR.out.symm HYW.out.symm HX.out)
      refine Mix.regionC (fun k => k = M) (by kernel_rfl) ?_
      intro w4 hb4
      refine Mix.take_exC _ _ 0 rfl (by kernel_rfl) (by kernel_rfl) (by kernel_rfl) (by kernel_rfl) (fun K hK => ?_)
      go_simp
      first | (refine hK _ ?_; clear hK K) | (apply Exists.intro; refine ⟨fun x => ?_, hK _ ?_⟩; (fail); clear hK K)
      refine Mix.take_exC _ _ 1 rfl (by kernel_rfl) (by kernel_rfl) (by kernel_rfl) (by kernel_rfl) (fun K hK => ?_)
      go_simp
      first | (refine hK _ ?_; clear hK K) | (apply Exists.intro; refine ⟨fun x => ?_, hK _ ?_⟩; (fail); clear hK K)
      refine Mix.take_exC _ _ 2 rfl (by kernel_rfl) (by kernel_rfl) (by kernel_rfl) (by kernel_rfl) (fun K hK => ?_)
      go_simp
      first | (refine hK _ ?_; clear hK K) | (apply Exists.intro; refine ⟨fun x => ?_, hK _ ?_⟩; (fail); clear hK K)
      refine Mix.take_exC _ _ 3 rfl (by kernel_rfl) (by kernel_rfl) (by kernel_rfl) (by kernel_rfl) (fun K hK => ?_)
      go_simp
      first | (refine hK _ ?_; clear hK K) | (apply Exists.intro; refine ⟨fun x => ?_, hK _ ?_⟩; (fail); clear hK K)
      refine Mix.take_exC _ _ 4 rfl (by kernel_rfl) (by kernel_rfl) (by kernel_rfl) (by kernel_rfl) (fun K hK => ?_)
      go_simp
      first | (refine hK _ ?_; clear hK K) | (apply Exists.intro; refine ⟨fun x => ?_, hK _ ?_⟩; (fail); clear hK K)
      refine Mix.take_exC _ _ 5 rfl (by kernel_rfl) (by kernel_rfl) (by kernel_rfl) (by kernel_rfl) (fun K hK => ?_)
      go_simp
      first | (refine hK _ ?_; clear hK K) | (apply Exists.intro; refine ⟨fun x => ?_, hK _ ?_⟩; (fail); clear hK K)
      refine Mix.take_exC _ _ 6 rfl (by kernel_rfl) (by kernel_rfl) (by kernel_rfl) (by kernel_rfl) (fun K hK => ?_)
      go_simp
      first | (refine hK _ ?_; clear hK K) | (apply Exists.intro; refine ⟨fun x => ?_, hK _ ?_⟩; (fail); clear hK K)
      refine Mix.take_exC _ _ 7 rfl (by kernel_rfl) (by kernel_rfl) (by kernel_rfl) (by kernel_rfl) (fun K hK => ?_)
      go_simp
      first | (refine hK _ ?_; clear hK K) | (apply Exists.intro; refine ⟨fun x => ?_, hK _ ?_⟩; (fail); clear hK K)
      refine Mix.take_exC _ _ 8 rfl (by kernel_rfl) (by kernel_rfl) (by kernel_rfl) (by kernel_rfl) (fun K hK => ?_)
      go_simp
      first | (refine hK _ ?_; clear hK K) | (apply Exists.intro; refine ⟨fun x => ?_, hK _ ?_⟩; (fail); clear hK K)
      refine Mix.take_exC _ _ 9 rfl (by kernel_rfl) (by kernel_rfl) (by kernel_rfl) (by kernel_rfl) (fun K hK => ?_)
      go_simp
      first | (refine hK _ ?_; clear hK K) | (apply Exists.intro; refine ⟨fun x => ?_, hK _ ?_⟩; (fail); clear hK K)
      refine Mix.take_exC _ _ 10 rfl (by kernel_rfl) (by kernel_rfl) (by kernel_rfl) (by kernel_rfl) (fun K hK => ?_)
      go_simp
      first | (refine hK _ ?_; clear hK K) | (apply Exists.intro; refine ⟨fun x => ?_, hK _ ?_⟩; (fail); clear hK K)
      refine Mix.take_exC _ _ 11 rfl (by kernel_rfl) (by kernel_rfl) (by kernel_rfl) (by kernel_rfl) (fun K hK => ?_)
      go_simp
      first | (refine hK _ ?_; clear hK K) | (apply Exists.intro; refine ⟨fun x => ?_, hK _ ?_⟩; (fail); clear hK K)
      refine Mix.all (rs := [12]) (by kernel_rfl) (by simp) (.of_below _ hb4) ?_
      intro i7 hi7 w7 hb7 hC7
      simp only [List.mem_cons, List.not_mem_nil, or_false] at hi7
      subst hi7
      clear hC7
      obtain ⟨w5, hrun, hts, hgr⟩ := HY.out w7 (bt hb4 hb7)
      refine Mix.op rfl (by kernel_rfl) ?_
      have HP4 := Lib.hid hts
      have HC4 := Lib.hid (show Chg (fun k => k = M) w3 w5 from (Chg.of_below _ (bt hb4 hb7)).same (.of_grown hgr fun k e => by cases e; rfl))
      clear hts hgr hb4 hb7
      go_simp
      refine Mix.done (by kernel_rfl) HC4.out ?_
      intro w6 hb5
      have HB5 := Lib.hid hb5
      clear hb5 hrun
      go_wp2
      go_ret2
      rw [E1.out]
      exact ⟨rfl, HP4.out.below HB5.out, (Chg.of_below _ HB3.out).same ((HC4.out.then_below HB5.out).mono fun k e => .inr e)⟩
    · have E1 := Lib.hid ((HYA.out _).2 (by rw [if_neg (fun e => e hyr), if_pos hyw]))
      have hwb : ((g r).2 == wt) = false := by rw [hgw]; simpa using hyw
      clear hyr hyw hgw
      go_wp2
      go_ret2
      rw [E1.out]
      exact ⟨rfl, H.out.below (ba HB2.out _), .of_below _ (ba HB2.out _)⟩
  · have E1 := Lib.hid ((HYA.out _).2 (by rw [if_pos hyr]))
    have hrb : (y.role == (r : Int)) = false := by simpa using hyr
    clear hyr
    go_wp2
    go_ret2
    rw [E1.out]
    exact ⟨rfl, H.out.below (ba HB2.out _), .of_below _ (ba HB2.out _)⟩
end
end Go.Proofs.Ytajcelmnblncaaa

/- frames: Quiet, Disconnect, Drop. -/
import Derived.Test.YtajcelmnblncaaaFr1
namespace Go.Proofs.Ytajcelmnblncaaa
open Go.RowKit Go.Maps
open Go.ChangeMaps (setBlock)
attribute [local go_sem] ext_cell ext_frozen extC_cell extC_frozen Mix.calmUpon Mix.mUpon
section
variable {w : World} {tp M : Nat} {cap : Int} {S : List Fr} {g : Nat → It} {L : List (Int × Value)}
theorem id64 {f : Fr} (h : FOk f) : J64 f.id := ⟨by have := h.id0; omega, by have := h.id1; omega⟩
/-- A framework is put into the map. -/
theorem tb_put (obj : w.heap[tp]? = some (.cells (tcs cap M g).toArray 129 (0, 0))) (map : MapK K64 w M L) (look : ∀ k, L.lookup k = (fndF S k).map fval) (len : L.length = S.length) (hM : tp ≠ M) {f : Fr} (ro : RO (putF S f) (fun r => (g r).1) (fun r => (g r).2)) (hs : SF S) (big : (putF S f).length < 1000000) (hf : FOk f) :
    ∃ w', (Instr.mapUpdate 124 (.map (some M)) (.int .i64 f.id) (fval f)).run Try.prog w = .ok () w' ∧ TS w' tp M cap (putF S f) ∧ w.grownBy w' (some M) := by
  obtain ⟨o, hrun, h3⟩ := map.store key64 Try.underlying124 (id64 hf) (fval f)
  have hg := grown_setBlock w M o
  refine ⟨_, hrun, ⟨g, _, (hg.block tp (Array.getElem?_eq_some_iff.1 obj).1 (fun e => hM (by injection e))).trans obj, h3, fun k => ?_, ?_, ro, hM, big⟩, hg⟩
  · rw [look_mput, look, show fndF (putF S f) k = _ from Srt.fnd_put S f k]
    by_cases h : k = f.id
    · rw [if_pos h, if_pos h.symm]; rfl
    · rw [if_neg h, if_neg fun e => h e.symm]
  · rw [mput_length, look]
    cases h : fndF S f.id with
    | some y => rw [show ((some y).map fval).isSome = true from rfl, if_pos rfl, len]; exact (Srt.put_len_old hs h).symm
    | none => rw [show ((none : Option Fr).map fval).isSome = false from rfl, if_neg (by simp), len]; exact (Srt.put_len_new h).symm
theorem TB.over (h : TB w tp M cap S g L) {f y : Fr} (hy : fndF S f.id = some y) (hr : f.role = y.role) (hw : f.weight = y.weight) (hf : FOk f) :
    ∃ w', (Instr.mapUpdate 124 (.map (some M)) (.int .i64 f.id) (fval f)).run Try.prog w = .ok () w' ∧ TS w' tp M cap (putF S f) ∧ w.grownBy w' (some M) :=
  tb_put h.obj h.map h.look h.len h.hM (h.ro.over hy hr hw hf) h.ro.sf (by rw [Srt.put_len_old h.ro.sf hy]; exact h.big) hf
end
section
variable {w : World} {tp M : Nat} {cap : Int} {S : List Fr}
/-- What a call that changes a table leaves. -/
def TP (w : World) (tp M : Nat) (cap : Int) (S' : List Fr) (v : Value) (e : Ending) (w' : World) : Prop := e = .returned v ∧ TS w' tp M cap S' ∧ Chg (FT tp M) w w'
set_option maxRecDepth 100000 in
theorem fquiet (h : TS w tp M cap S) {k : Int} (hk : J64 k) (q : Bool) : Calls Try.prog 100 #[ptr tp, .int .i64 k, .bool q] w (TP w tp M cap (fqui S k q).1 (.int .i64 (fqui S k q).2)) := by
  have H := Lib.hid h
  clear h
  go_enter Try.func100, Try.ntmps100
  go_wp2_with fail
  refine (ffind H.out hk).mono ?_
  rintro e w1 ⟨rfl, hb1⟩
  have HB1 := Lib.hid hb1
  clear hb1
  cases hf : fndF S k with
  | none =>
    rw [show findA S k = .tuple #[fval fzero, .int .i64 43] by unfold findA; rw [hf]]
    go_wp2
    go_ret
    have e1 : fqui S k q = (S, 43) := by unfold fqui; rw [hf]
    rw [e1]
    exact ⟨rfl, H.out.below (ba HB1.out _), .of_below _ (ba HB1.out _)⟩
  | some y =>
    rw [show findA S k = .tuple #[fval y, .int .i64 0] by unfold findA; rw [hf]]
    go_wp2
    have hym := Srt.fnd_mem hf
    have hyo := H.out.ok y hym.1
    obtain ⟨x, hx⟩ : ∃ x : Fr, x = { y with quiet := q } := ⟨_, rfl⟩
    have hxo : FOk x := by subst hx; exact ⟨hyo.id0, hyo.id1, hyo.r0, hyo.r1, hyo.w0, hyo.w1, hyo.t0, hyo.t1, hyo.u0, hyo.u1, hyo.up⟩
    have hxi : x.id = k := by subst hx; exact hym.2
    have hxr : x.role = y.role ∧ x.weight = y.weight := by subst hx; exact ⟨rfl, rfl⟩
    have e1 : fqui S k q = (putF S x, 0) := by unfold fqui; rw [hf, hx]
    have E1 := Lib.hid e1
    clear e1
    have HFB := Lib.hid (FB.made w1 x)
    have HB2 := Lib.hid (show Below w.heap.size w (w1.alloc (.cells #[.int .i64 x.id, .int .i64 x.role, .int .i64 x.weight, .bool x.up, .bool x.quiet, .int .i64 x.time, .int .i64 x.til] 114)) from ba HB1.out _)
    have hsz : w1.heap.size < (w1.alloc (.cells #[.int .i64 x.id, .int .i64 x.role, .int .i64 x.weight, .bool x.up, .bool x.quiet, .int .i64 x.time, .int .i64 x.til] 114)).heap.size := by simp
    rw [show w1.alloc (.cells #[.int .i64 y.id, .int .i64 y.role, .int .i64 y.weight, .bool y.up, .bool q, .int .i64 y.time, .int .i64 y.til] 114) = w1.alloc (.cells #[.int .i64 x.id, .int .i64 x.role, .int .i64 x.weight, .bool x.up, .bool x.quiet, .int .i64 x.time, .int .i64 x.til] 114) by rw [hx]]
    generalize w1.alloc (.cells #[.int .i64 x.id, .int .i64 x.role, .int .i64 x.weight, .bool x.up, .bool x.quiet, .int .i64 x.time, .int .i64 x.til] 114) = w2 at *
    have HM := Lib.hid (show w1.heap.size ≠ M from fun e => by have := (H.out.below HB1.out).lt.2; omega)
    obtain ⟨g, L, H2⟩ := H.out.below HB2.out
    have e4 := H2.lt.1; have e5 := H2.hM; have e6 := HM.out
    have c1 := H2.c1
    obtain ⟨x0, x1, x2, x3, x4, x5, x6⟩ := HFB.out.cells
    have H2 := Lib.hid H2
    have HY := Lib.hid (show ∀ w3, Below w2.heap.size w2 w3 → ∃ w', (Instr.mapUpdate 124 (.map (some M)) (.int .i64 k) (fval x)).run Try.prog w3 = .ok () w' ∧ TS w' tp M cap (putF S x) ∧ w3.grownBy w' (some M) from fun w3 hb3 => by
      have := (H2.out.below hb3).over (f := x) (y := y) (by rw [hxi]; exact hf) hxr.1 hxr.2 hxo
      rw [hxi] at this; exact this)
    clear hym hyo hxo hxi hxr hx hf
    refine Mix.regionC (fun k => k = M) (by kernel_rfl) ?_
    intro w3 hb3
    refine Mix.take_exC _ _ 0 rfl (by kernel_rfl) (by kernel_rfl) (by kernel_rfl) (by kernel_rfl) (fun K hK => ?_)
    go_simp
    first | (refine hK _ ?_; clear hK K) | (apply Exists.intro; refine ⟨fun x => ?_, hK _ ?_⟩; (fail); clear hK K)
    refine Mix.take_exC _ _ 1 rfl (by kernel_rfl) (by kernel_rfl) (by kernel_rfl) (by kernel_rfl) (fun K hK => ?_)
    go_simp
    first | (refine hK _ ?_; clear hK K) | (apply Exists.intro; refine ⟨fun x => ?_, hK _ ?_⟩; (fail); clear hK K)
    refine Mix.take_exC _ _ 2 rfl (by kernel_rfl) (by kernel_rfl) (by kernel_rfl) (by kernel_rfl) (fun K hK => ?_)
    go_simp
    first | (refine hK _ ?_; clear hK K) | (apply Exists.intro; refine ⟨fun x => ?_, hK _ ?_⟩; (fail); clear hK K)
    refine Mix.take_exC _ _ 3 rfl (by kernel_rfl) (by kernel_rfl) (by kernel_rfl) (by kernel_rfl) (fun K hK => ?_)
    go_simp
    first | (refine hK _ ?_; clear hK K) | (apply Exists.intro; refine ⟨fun x => ?_, hK _ ?_⟩; (fail); clear hK K)
    refine Mix.take_exC _ _ 4 rfl (by kernel_rfl) (by kernel_rfl) (by kernel_rfl) (by kernel_rfl) (fun K hK => ?_)
    go_simp
    first | (refine hK _ ?_; clear hK K) | (apply Exists.intro; refine ⟨fun x => ?_, hK _ ?_⟩; (fail); clear hK K)
    refine Mix.take_exC _ _ 5 rfl (by kernel_rfl) (by kernel_rfl) (by kernel_rfl) (by kernel_rfl) (fun K hK => ?_)
    go_simp
    first | (refine hK _ ?_; clear hK K) | (apply Exists.intro; refine ⟨fun x => ?_, hK _ ?_⟩; (fail); clear hK K)
    refine Mix.all (rs := [6]) (by kernel_rfl) (by simp) (.of_below _ hb3) ?_
    intro i7 hi7 w7 hb7 hC7
    simp only [List.mem_cons, List.not_mem_nil, or_false] at hi7
    subst hi7
    clear hC7
    obtain ⟨w4, hrun, hts, hgr⟩ := HY.out w7 (bt hb3 hb7)
    refine Mix.op rfl (by kernel_rfl) ?_
    have HP4 := Lib.hid hts
    have HC4 := Lib.hid (show Chg (fun k => k = M) w2 w4 from (Chg.of_below _ (bt hb3 hb7)).same (.of_grown hgr fun k e => by cases e; rfl))
    clear hts hgr hb3 hb7
    go_simp
    refine Mix.done (by kernel_rfl) HC4.out ?_
    intro w5 hb5
    have HB5 := Lib.hid hb5
    clear hb5 hrun
    go_wp2
    go_ret
    rw [E1.out]
    exact ⟨rfl, HP4.out.below HB5.out, (Chg.of_below _ HB2.out).same ((HC4.out.then_below HB5.out).mono fun k e => .inr e)⟩
set_option maxRecDepth 100000 in
theorem fdisc (h : TS w tp M cap S) {k now : Int} (hk : J64 k) (role weight kind : Int) : Calls Try.prog 71 #[ptr tp, .int .i64 k, .int .i64 now] w (TP w tp M cap (fdis S ⟨kind, k, role, weight, now⟩).1 (.int .i64 (fdis S ⟨kind, k, role, weight, now⟩).2)) := by
  have H := Lib.hid h
  clear h
  go_enter Try.func71, Try.ntmps71
  go_wp2_with fail
  refine (ffind H.out hk).mono ?_
  rintro e w1 ⟨rfl, hb1⟩
  have HB1 := Lib.hid hb1
  clear hb1
  cases hf : fndF S k with
  | none =>
    rw [show findA S k = .tuple #[fval fzero, .int .i64 43] by unfold findA; rw [hf]]
    go_wp2
    go_ret
    have e1 : fdis S ⟨kind, k, role, weight, now⟩ = (S, 43) := by unfold fdis; rw [hf]
    rw [e1]
    exact ⟨rfl, H.out.below (ba HB1.out _), .of_below _ (ba HB1.out _)⟩
  | some y =>
    rw [show findA S k = .tuple #[fval y, .int .i64 0] by unfold findA; rw [hf]]
    cases hup : y.up with
    | false =>
      go_wp2
      go_ret
      have e1 : fdis S ⟨kind, k, role, weight, now⟩ = (S, 23) := by unfold fdis; rw [hf]; exact if_pos hup
      rw [e1]
      exact ⟨rfl, H.out.below (ba HB1.out _), .of_below _ (ba HB1.out _)⟩
    | true =>
      by_cases hn : now < 0
      · go_wp2
        go_ret
        have e1 : fdis S ⟨kind, k, role, weight, now⟩ = (S, 41) := by unfold fdis; rw [hf]; exact (if_neg (by rw [hup]; simp)).trans (if_pos (.inl hn))
        rw [e1]
        exact ⟨rfl, H.out.below (ba HB1.out _), .of_below _ (ba HB1.out _)⟩
      · by_cases hn2 : 9007199254740992 < now
        · go_wp2
          go_ret
          have e1 : fdis S ⟨kind, k, role, weight, now⟩ = (S, 41) := by unfold fdis; rw [hf]; exact (if_neg (by rw [hup]; simp)).trans (if_pos (.inr hn2))
          rw [e1]
          exact ⟨rfl, H.out.below (ba HB1.out _), .of_below _ (ba HB1.out _)⟩
        · have hyo := H.out.ok y (Srt.fnd_mem hf).1
          have hwr : IntKind.i64.wrap (now + y.time) = now + y.time := IntWalk.i64_in _ (by have := hyo.t0; have := hyo.t1; omega)
          have hup0 := Lib.hid hup
          go_wp2
          have hym := Srt.fnd_mem hf
          obtain ⟨x, hx⟩ : ∃ x : Fr, x = { y with up := false, til := now + y.time } := ⟨_, rfl⟩
          have hxo : FOk x := by subst hx; exact ⟨hyo.id0, hyo.id1, hyo.r0, hyo.r1, hyo.w0, hyo.w1, hyo.t0, hyo.t1, (by have := hyo.t0; show 0 ≤ now + y.time; omega), (by have := hyo.t1; show now + y.time ≤ _; omega), fun e => by cases e⟩
          have hxi : x.id = k := by subst hx; exact hym.2
          have hxr : x.role = y.role ∧ x.weight = y.weight := by subst hx; exact ⟨rfl, rfl⟩
          have e1 : fdis S ⟨kind, k, role, weight, now⟩ = (putF S x, 0) := by unfold fdis; rw [hf, hx]; exact (if_neg (by rw [hup0.out]; simp)).trans (if_neg (show ¬ (now < 0 ∨ 9007199254740992 < now) by omega))
          have E1 := Lib.hid e1
          clear e1
          have HFB := Lib.hid (FB.made w1 x)
          have HB2 := Lib.hid (show Below w.heap.size w (w1.alloc (.cells #[.int .i64 x.id, .int .i64 x.role, .int .i64 x.weight, .bool x.up, .bool x.quiet, .int .i64 x.time, .int .i64 x.til] 114)) from ba HB1.out _)
          have hsz : w1.heap.size < (w1.alloc (.cells #[.int .i64 x.id, .int .i64 x.role, .int .i64 x.weight, .bool x.up, .bool x.quiet, .int .i64 x.time, .int .i64 x.til] 114)).heap.size := by simp
          rw [show w1.alloc (.cells #[.int .i64 y.id, .int .i64 y.role, .int .i64 y.weight, .bool false, .bool y.quiet, .int .i64 y.time, .int .i64 (now + y.time)] 114) = w1.alloc (.cells #[.int .i64 x.id, .int .i64 x.role, .int .i64 x.weight, .bool x.up, .bool x.quiet, .int .i64 x.time, .int .i64 x.til] 114) by rw [hx]]
          generalize w1.alloc (.cells #[.int .i64 x.id, .int .i64 x.role, .int .i64 x.weight, .bool x.up, .bool x.quiet, .int .i64 x.time, .int .i64 x.til] 114) = w2 at *
          have HM := Lib.hid (show w1.heap.size ≠ M from fun e => by have := (H.out.below HB1.out).lt.2; omega)
          obtain ⟨g, L, H2⟩ := H.out.below HB2.out
          have e4 := H2.lt.1; have e5 := H2.hM; have e6 := HM.out
          have c1 := H2.c1
          obtain ⟨x0, x1, x2, x3, x4, x5, x6⟩ := HFB.out.cells
          have H2 := Lib.hid H2
          have HY := Lib.hid (show ∀ w3, Below w2.heap.size w2 w3 → ∃ w', (Instr.mapUpdate 124 (.map (some M)) (.int .i64 k) (fval x)).run Try.prog w3 = .ok () w' ∧ TS w' tp M cap (putF S x) ∧ w3.grownBy w' (some M) from fun w3 hb3 => by
            have := (H2.out.below hb3).over (f := x) (y := y) (by rw [hxi]; exact hf) hxr.1 hxr.2 hxo
            rw [hxi] at this; exact this)
          clear hym hyo hxo hxi hxr hx hf
          refine Mix.regionC (fun k => k = M) (by kernel_rfl) ?_
          intro w3 hb3
          refine Mix.take_exC _ _ 0 rfl (by kernel_rfl) (by kernel_rfl) (by kernel_rfl) (by kernel_rfl) (fun K hK => ?_)
          go_simp
          first | (refine hK _ ?_; clear hK K) | (apply Exists.intro; refine ⟨fun x => ?_, hK _ ?_⟩; (fail); clear hK K)
          refine Mix.take_exC _ _ 1 rfl (by kernel_rfl) (by kernel_rfl) (by kernel_rfl) (by kernel_rfl) (fun K hK => ?_)
          go_simp
          first | (refine hK _ ?_; clear hK K) | (apply Exists.intro; refine ⟨fun x => ?_, hK _ ?_⟩; (fail); clear hK K)
          refine Mix.take_exC _ _ 2 rfl (by kernel_rfl) (by kernel_rfl) (by kernel_rfl) (by kernel_rfl) (fun K hK => ?_)
          go_simp
          first | (refine hK _ ?_; clear hK K) | (apply Exists.intro; refine ⟨fun x => ?_, hK _ ?_⟩; (fail); clear hK K)
          refine Mix.take_exC _ _ 3 rfl (by kernel_rfl) (by kernel_rfl) (by kernel_rfl) (by kernel_rfl) (fun K hK => ?_)
          go_simp
          first | (refine hK _ ?_; clear hK K) | (apply Exists.intro; refine ⟨fun x => ?_, hK _ ?_⟩; (fail); clear hK K)
          refine Mix.take_exC _ _ 4 rfl (by kernel_rfl) (by kernel_rfl) (by kernel_rfl) (by kernel_rfl) (fun K hK => ?_)
          go_simp
          first | (refine hK _ ?_; clear hK K) | (apply Exists.intro; refine ⟨fun x => ?_, hK _ ?_⟩; (fail); clear hK K)
          refine Mix.take_exC _ _ 5 rfl (by kernel_rfl) (by kernel_rfl) (by kernel_rfl) (by kernel_rfl) (fun K hK => ?_)
          go_simp
          first | (refine hK _ ?_; clear hK K) | (apply Exists.intro; refine ⟨fun x => ?_, hK _ ?_⟩; (fail); clear hK K)
          refine Mix.all (rs := [6]) (by kernel_rfl) (by simp) (.of_below _ hb3) ?_
          intro i7 hi7 w7 hb7 hC7
          simp only [List.mem_cons, List.not_mem_nil, or_false] at hi7
          subst hi7
          clear hC7
          obtain ⟨w4, hrun, hts, hgr⟩ := HY.out w7 (bt hb3 hb7)
          refine Mix.op rfl (by kernel_rfl) ?_
          have HP4 := Lib.hid hts
          have HC4 := Lib.hid (show Chg (fun k => k = M) w2 w4 from (Chg.of_below _ (bt hb3 hb7)).same (.of_grown hgr fun k e => by cases e; rfl))
          clear hts hgr hb3 hb7
          go_simp
          refine Mix.done (by kernel_rfl) HC4.out ?_
          intro w5 hb5
          have HB5 := Lib.hid hb5
          clear hb5 hrun
          go_wp2
          go_ret
          rw [E1.out]
          exact ⟨rfl, HP4.out.below HB5.out, (Chg.of_below _ HB2.out).same ((HC4.out.then_below HB5.out).mono fun k e => .inr e)⟩
theorem set_same {α : Type} {l : List α} {i : Nat} {v : α} (h : l[i]? = some v) : l.set i v = l := by
  refine List.ext_getElem? fun j => ?_
  rw [List.getElem?_set]
  split
  · rename_i e; subst e
    split
    · exact h.symm
    · rename_i hn
      have := (List.getElem?_eq_some_iff.1 h).1
      omega
  · rfl
theorem tcs_set {g : Nat → It} (j : Nat) (v : Value) : (tcs cap M g).set (2 + j) v = [.int .i64 cap, .map (some M)] ++ (ics g 33).set j v := by
  unfold tcs
  rw [List.set_append_right _ _ (by simp)]
  simp
theorem tcs_set0 {g : Nat → It} {i : Nat} (hi : i ≤ 32) (x : Int) : (tcs cap M g).set (2 + i * 2) (.int .i64 x) = tcs cap M (put1 g i (x, (g i).2)) := by
  rw [tcs_set]
  have h := ics_set g (x, (g i).2) 33 i (by omega)
  rw [set_same (i := i * 2 + 1) (by rw [List.getElem?_set_ne (by omega)]; exact (ics_at g 33 i (by omega)).2)] at h
  rw [h]; rfl
theorem tcs_set1 {g : Nat → It} {i : Nat} (hi : i ≤ 32) (x : Int) : (tcs cap M g).set (2 + i * 2 + 1) (.int .i64 x) = tcs cap M (put1 g i ((g i).1, x)) := by
  rw [show 2 + i * 2 + 1 = 2 + (i * 2 + 1) by omega, tcs_set]
  have h := ics_set g ((g i).1, x) 33 i (by omega)
  rw [set_same (i := i * 2) (ics_at g 33 i (by omega)).1] at h
  rw [h]; rfl
theorem obj_set {w : World} {l : List Value} {t : TypeId} (h : w.heap[tp]? = some (.cells l.toArray t (0, 0))) (o : Nat) (v : Value) : (w.setCell ⟨tp, o, none⟩ v).heap[tp]? = some (.cells (l.set o v).toArray t (0, 0)) := by
  have := heap_setCell_at (o := o) v h
  rw [this]; simp
/-- A framework is taken out of the map. -/
theorem tb_del {g : Nat → It} {L : List (Int × Value)} (obj : w.heap[tp]? = some (.cells (tcs cap M g).toArray 129 (0, 0))) (map : MapK K64 w M L) (look : ∀ k, L.lookup k = (fndF S k).map fval) (hL : L.length = S.length) (hM : tp ≠ M) {k : Int} (hk : J64 k) {y : Fr} (hy : fndF S k = some y) (ro : RO (delF S k) (fun r => (g r).1) (fun r => (g r).2)) (hs : SF S) (big : S.length < 1000000) (ty : TypeId) :
    ∃ w', (Builtin.delete_ #[124, 2] ty #[.map (some M), .int .i64 k]).run Try.prog w = .ok (.tuple #[]) w' ∧ TS w' tp M cap (delF S k) ∧ w.grownBy w' (some M) := by
  have hnd := map.nodup
  obtain ⟨o, hrun, h3⟩ := map.drop key64 Try.underlying124 ty hk
  have hg := grown_setBlock w M o
  have hdl : (delF S k).length + 1 = S.length := Srt.del_len hs hy
  refine ⟨_, hrun, ⟨g, _, (hg.block tp (Array.getElem?_eq_some_iff.1 obj).1 (fun e => hM (by injection e))).trans obj, h3, fun k' => ?_, ?_, ro, hM, by omega⟩, hg⟩
  · rw [look_mdel, look, show fndF (delF S k) k' = _ from Srt.fnd_del S k k']
    by_cases h : k' = k
    · rw [if_pos h, if_pos h]; rfl
    · rw [if_neg h, if_neg h]
  · have hlm := look_mem (by rw [look, hy]; rfl : L.lookup k = some (fval y))
    have : (mdel L k).length + 1 = L.length := by
      clear h3 hrun hg look hL map
      unfold mdel
      induction L with
      | nil => cases hlm
      | cons p t ih =>
        rw [List.map_cons, List.nodup_cons] at hnd
        by_cases e : p.1 = k
        · rw [List.filter_cons, if_neg (by simpa using e), List.filter_eq_self.2 fun q hq => by simpa using fun e2 => hnd.1 (by rw [e]; exact List.mem_map.2 ⟨q, hq, e2⟩)]; rfl
        · rw [List.filter_cons, if_pos (by simpa using e)]
          have := ih hnd.2 (by rcases List.mem_cons.1 hlm with h | h; exact absurd (by rw [← h]) e; exact h)
          simp only [List.length_cons]; omega
    omega
theorem fst_put1 (g : Nat → It) (r : Nat) (x y : Int) : (fun k => (put1 g r (x, y) k).1) = up1 (fun k => (g k).1) r x := by
  funext k; unfold put1 up1; split <;> rfl
theorem snd_put1 (g : Nat → It) (r : Nat) (x y : Int) : (fun k => (put1 g r (x, y) k).2) = up1 (fun k => (g k).2) r y := by
  funext k; unfold put1 up1; split <;> rfl
theorem up1_same (g : Nat → Int) (r : Nat) : up1 g r (g r) = g := by
  funext k; unfold up1; split
  · rename_i h; rw [h]
  · rfl
set_option maxRecDepth 100000 in
theorem fdrop (h : TS w tp M cap S) {k : Int} (hk : J64 k) : Calls Try.prog 72 #[ptr tp, .int .i64 k] w (TP w tp M cap (delF S k) (.bool (fndF S k).isSome)) := by
  have H := Lib.hid h
  clear h
  go_enter Try.func72, Try.ntmps72
  go_wp2_with fail
  refine (ffind H.out hk).mono ?_
  rintro e w1 ⟨rfl, hb1⟩
  have HB1 := Lib.hid hb1
  clear hb1
  cases hf : fndF S k with
  | none =>
    rw [show findA S k = .tuple #[fval fzero, .int .i64 43] by unfold findA; rw [hf]]
    go_wp2
    go_ret
    rw [show delF S k = S from Srt.del_same hf, hf]
    exact ⟨rfl, H.out.below (ba HB1.out _), .of_below _ (ba HB1.out _)⟩
  | some y =>
    rw [show findA S k = .tuple #[fval y, .int .i64 0] by unfold findA; rw [hf]]
    have hyo := H.out.ok y (Srt.fnd_mem hf).1
    obtain ⟨yi, yr, yw, yu, yq, yt, yl⟩ := y
    obtain ⟨r, rfl⟩ : ∃ r : Nat, yr = r := ⟨yr.toNat, by have := hyo.r0; simp only at this; omega⟩
    have hr : r ≤ 32 := by have := hyo.r1; simp only at this; omega
    have hidx : (r : Int) < 33 := by omega
    obtain ⟨g, L, H2⟩ := H.out.below HB1.out
    obtain ⟨d0, d1⟩ := H2.cr hr
    have hl := H2.lt.1
    have z0 := H2.fz (2 + r * 2)
    have hcn := H2.g1 hr
    have hcl := cnt_le S (r : Int)
    have hbg := H2.big
    have hwr : IntKind.i64.wrap ((g r).1 - 1) = (g r).1 - 1 := IntWalk.i64_in _ (by omega)
    replace H2 := Lib.hid H2
    have HR := Lib.hid hr
    have HF := Lib.hid hf
    clear hyo hcn hcl hbg hf
    go_wp2
    go_region
    obtain ⟨f0, hf0⟩ : ∃ f0 : Fr, f0 = ⟨yi, r, yw, yu, yq, yt, yl⟩ := ⟨_, rfl⟩
    have o1 := obj_set H2.out.obj (2 + r * 2) (.int .i64 ((g r).1 - 1))
    rw [tcs_set0 HR.out] at o1
    have HC := Lib.hid (show Chg (fun k => k = tp) w1 ((w1.setCell ⟨tp, 2 + r * 2, none⟩ (.int .i64 ((g r).1 - 1))).alloc (.cells #[.int .i64 yi, .int .i64 r, .int .i64 yw, .bool yu, .bool yq, .int .i64 yt, .int .i64 yl] 114)).drew from
      (((Chg.refl (fun k => k = tp) w1).setCell (p := ⟨tp, 2 + r * 2, none⟩) (.inl rfl) _).alloc _).drew)
    have o2 : ((w1.setCell ⟨tp, 2 + r * 2, none⟩ (.int .i64 ((g r).1 - 1))).alloc (.cells #[.int .i64 yi, .int .i64 r, .int .i64 yw, .bool yu, .bool yq, .int .i64 yt, .int .i64 yl] 114)).drew.heap[tp]? = some (.cells (tcs cap M (put1 g r ((g r).1 - 1, (g r).2))).toArray 129 (0, 0)) :=
      (heap_alloc_old _ _ (by simpa [World.setCell] using hl)).trans o1
    generalize ((w1.setCell ⟨tp, 2 + r * 2, none⟩ (.int .i64 ((g r).1 - 1))).alloc (.cells #[.int .i64 yi, .int .i64 r, .int .i64 yw, .bool yu, .bool yq, .int .i64 yt, .int .i64 yl] 114)).drew = w2 at *
    have c1 : w2.cell? ⟨tp, 1, none⟩ = some (.map (some M)) := by simp [World.cell?, o2, tcs]
    have e2 : tp < w2.heap.size := (Array.getElem?_eq_some_iff.1 o2).1
    have ro' : RO (delF S k) (fun k => (put1 g r ((g r).1 - 1, (g r).2) k).1) (fun k => (put1 g r ((g r).1 - 1, (g r).2) k).2) := by
      rw [fst_put1, snd_put1, up1_same (fun k => (g k).2)]
      exact H2.out.ro.less HF.out rfl
    obtain ⟨w3, hrun, hts, hgr⟩ := tb_del o2 (H2.out.map.chg HC.out fun e => H2.out.hM e.symm) H2.out.look H2.out.len H2.out.hM hk HF.out ro' H2.out.ro.sf H2.out.big 0
    have HT := Lib.hid hts
    have HC3 := Lib.hid (show Chg (FT tp M) w w3 from (((Chg.of_below _ HB1.out).same (HC.out.mono fun k e => .inl e)).same (.of_grown hgr fun k e => by cases e; exact .inr rfl)))
    clear o1 o2 ro' hts hgr d0 d1 z0
    go_wp2
    go_ret
    rw [HF.out]
    exact ⟨rfl, HT.out, HC3.out⟩
end
end Go.Proofs.Ytajcelmnblncaaa

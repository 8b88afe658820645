/- Texts laid together: Tp6,Tp8,Tp9. -/
import Derived.Test.YtgfjmafdfbghnaaGreatSgC
namespace Go.Proofs.YtgfjmafdfbghnaaGreat
section
open Go.RowKit
attribute [local go_sem] ext_cell ext_frozen extC_cell extC_frozen Mix.calmUpon Mix.mUpon
theorem fn_eqIn (fn : Nat) (caps : Array Value) (w : World) : (Op.equalIn 10000 104 (.func (.func fn) #[] caps) .nilFunc).run Tryz.prog w = .ok false w := by
  rw [show (10000 : Nat) = 9999 + 1 from rfl, Op.equalIn]
  simp only [Sem.run_bind, run_underlying Tryz.underlying104, Result.andThen_ok]
  simp
theorem fn_ne (fn : Nat) (caps : Array Value) (w : World) : (binOp .neq 104 (.func (.func fn) #[] caps) .nilFunc).run Tryz.prog w = .ok (.bool true) w := by
  simp only [binOp]
  simp [Op.equal, Op.maxDepth, fn_eqIn]
theorem fn_eq (fn : Nat) (caps : Array Value) (w : World) : (binOp .eql 104 (.func (.func fn) #[] caps) .nilFunc).run Tryz.prog w = .ok (.bool false) w := by
  simp only [binOp]
  simp [Op.equal, Op.maxDepth, fn_eqIn]
abbrev TF (tp : Nat) : Nat → Prop := fun b => b = tp
section
variable {tp fn : Nat} {caps : Array Value} {C : World → Prop} {J : Pl → Prop} {o : Pl → Pl → Int}
theorem TO.nonode {w : World} {rv : Value} (h : TO w tp fn caps rv) : NoNode (TF tp) w := fun b hb cs e => by
  have hb : b = tp := hb
  subst hb
  unfold TO at h
  rw [h] at e
  cases e
theorem TO.set {w : World} {rv : Value} (h : TO w tp fn caps rv) (v : Value) : TO (w.setCell ⟨tp, 1, none⟩ v) tp fn caps v := by
  have := heap_setCell_at (o := 1) v h
  unfold TO
  rw [this]; simp
theorem TO.fz {w : World} {rv : Value} (h : TO w tp fn caps rv) : w.frozen? ⟨tp, 1, none⟩ = false := by
  unfold TO at h; simp [World.frozen?, h]
/-- A tree, told by its list. -/
def TU (tp fn : Nat) (caps : Array Value) (w : World) (L : List Pl) : Prop := ∃ p t, TO w tp fn caps (.pointer p) ∧ Tn w (.pointer p) t ∧ tl t = L
theorem TU.lt {w : World} {L : List Pl} (h : TU tp fn caps w L) : tp < w.heap.size := by obtain ⟨p, t, ht, _⟩ := h; exact ht.lt
theorem TU.chg {F : Nat → Prop} {w w' : World} {L : List Pl} (h : TU tp fn caps w L) (hc : Chg F w w') (hn : ¬ F tp) (hF : NoNode F w) : TU tp fn caps w' L := by
  obtain ⟨p, t, ht, hn', hl⟩ := h
  exact ⟨p, t, (hc.block _ ht.lt hn).trans ht, hn'.chg hc hF, hl⟩
theorem TU.below {w w' : World} {L : List Pl} (h : TU tp fn caps w L) (hb : Below w.heap.size w w') : TU tp fn caps w' L := h.chg (.of_below (fun _ => False) hb) id (fun _ e => e.elim)
theorem TU.obj {w : World} {L : List Pl} (h : TU tp fn caps w L) : ∃ c, w.heap[tp]? = some (.cells c 141 (0, 0)) := by
  obtain ⟨p, t, ht, _⟩ := h
  exact ⟨_, ht⟩
theorem insL_mem (O : OA J o) {L : List Pl} (h : SL J o L) {k : Pl} (hm : k ∈ L) : insL o k L = L := by
  obtain ⟨A, B, rfl⟩ := List.append_of_mem hm
  exact insL_here O h (h.1 k hm) ((O.zero k k (h.1 k hm) (h.1 k hm)).2 rfl)
set_option maxRecDepth 100000 in
theorem tnew (w : World) : Calls Tryz.prog 48 #[.func (.func fn) #[] caps] w fun e w' => e = .returned (tptr w.heap.size) ∧ w' = w.alloc (.cells #[.func (.func fn) #[] caps, .pointer none] 141) := by
  have hfe := fn_eq fn caps
  go_enter Tryz.func48, Tryz.ntmps48
  go_wp2
  go_ret
  exact ⟨rfl, rfl⟩
set_option maxRecDepth 100000 in
theorem tmade {w : World} {rv : Value} (h : TO w tp fn caps rv) : Calls Tryz.prog 103 #[tptr tp] w fun e w' => e = .returned (.bool true) ∧ w = w' := by
  obtain ⟨x0, x1⟩ := h.cells
  clear h
  have hfn := fn_ne fn caps
  go_enter Tryz.func103, Tryz.ntmps103
  go_wp2
  go_ret
  exact ⟨rfl, rfl⟩
theorem ttop {w : World} {p : Option Addr} (h : TO w tp fn caps (.pointer p)) : Calls Tryz.prog 105 #[tptr tp] w fun e w' => e = .returned (.pointer p) ∧ w = w' := by
  obtain ⟨x0, x1⟩ := h.cells
  clear h
  go_enter Tryz.func105, Tryz.ntmps105
  go_wp2
  go_ret
  exact ⟨rfl, rfl⟩
/-- What a call that changes a tree leaves. -/
def TP (tp fn : Nat) (caps : Array Value) (L' : List Pl) (q : Bool) (w : World) (e : Ending) (w' : World) : Prop := e = .returned (.bool q) ∧ TU tp fn caps w' L' ∧ Chg (TF tp) w w'
theorem tnew0 (w : World) : Calls Tryz.prog 48 #[.func (.func fn) #[] caps] w fun e w' => e = .returned (tptr w.heap.size) ∧ TU w.heap.size fn caps w' [] ∧ Below w.heap.size w w' ∧ w.heap.size < w'.heap.size :=
  (tnew w).mono fun e w' ⟨h1, h2⟩ => ⟨h1, ⟨none, .lf, by rw [h2]; exact heap_alloc_new w _, rfl, rfl⟩, by rw [h2]; exact ba (Below.refl _ _) _, by rw [h2]; simp⟩
set_option maxRecDepth 100000 in
set_option maxHeartbeats 2000000 in
theorem tput (hO : OV tp fn caps C J o) {w0 : World} {L : List Pl} (h0 : TU tp fn caps w0 L) (hC0 : C w0) (hS : SL J o L) {k : Pl} (hk : J k) (hl : L.length < 1000000) : Calls Tryz.prog 76 #[tptr tp, plv k] w0 (TP tp fn caps (insL o k L) (!hasL k L) w0) := by
  obtain ⟨w, hw⟩ : ∃ w, w = w0.alloc (.cells #[.int .i64 k.n, .int .i64 k.d, .int .i64 k.w, .int .i64 k.i] 103) := ⟨_, rfl⟩
  obtain ⟨kb, hkb⟩ : ∃ b, b = w0.heap.size := ⟨_, rfl⟩
  have hb0 : Below w0.heap.size w0 w := by rw [hw]; exact ba (Below.refl _ _) _
  have hkk : PK w kb k := by rw [hw, hkb]; exact PK.made w0 k
  obtain ⟨p, t, hT0, hn0, rfl⟩ := h0
  have hT := hT0.below hb0; have hn := hn0.below hb0; have hC := hO.on hC0 hb0
  have HB0 := Lib.hid hb0; have HKK := Lib.hid hkk
  have HT := Lib.hid hT; have HO := Lib.hid hO; have HN := Lib.hid hn; have HC := Lib.hid hC
  have HP := Lib.hid fun w' (hb : Below w.heap.size w w') => put_t hO hk t w' (.pointer p) (.pointer p) (hn.below hb) (hT.below hb) (hO.on hC hb) hS (by rw [← tl_len]; omega)
  have HI := Lib.hid (fun hm => insL_mem hO.ord hS (k := k) hm)
  obtain ⟨x0, x1⟩ := hT.cells
  have xs := hT.lt
  obtain ⟨k0, k1, k2, k3⟩ := hkk.cells
  have ks := hkk.lt
  obtain ⟨q, hq⟩ : ∃ q, hasL k (tl t) = q := ⟨_, rfl⟩
  rw [hq] at HP ⊢
  have HQ := Lib.hid hq
  have nf : ∀ q, ¬ (fun _ : Nat => False) q := fun _ h => h
  clear hT0 hT hn0 hn hC hC0 hS hO hk hl hq hb0 hkk
  go_enter Tryz.func76, Tryz.ntmps76
  go_upto_region 1 with (fail)
  rw [← hw, ← hkb]
  clear hw hkb
  go_wp2_with fail
  refine (tmade HT.out).mono ?_
  rintro e w1 ⟨rfl, rfl⟩
  go_wp2_with fail
  refine Mix.regionC (fun _ => False) (by kernel_rfl) ?_
  intro w3 hb3
  refine Mix.take_exC _ _ 0 rfl (by kernel_rfl) (by kernel_rfl) (by kernel_rfl) (by kernel_rfl) (fun K hK => ?_)
  go_simp
  first | (refine hK _ ?_; clear hK K) | (apply Exists.intro; refine ⟨fun x => ?_, hK _ ?_⟩; (fail); clear hK K)
  refine Mix.take_exC _ _ 1 rfl (by kernel_rfl) (by kernel_rfl) (by kernel_rfl) (by kernel_rfl) (fun K hK => ?_)
  go_simp
  first | (refine hK _ ?_; clear hK K) | (apply Exists.intro; refine ⟨fun x => ?_, hK _ ?_⟩; (fail); clear hK K)
  refine Mix.take_exC _ _ 2 rfl (by kernel_rfl) (by kernel_rfl) (by kernel_rfl) (by kernel_rfl) (fun K hK => ?_)
  go_simp
  first | (refine hK _ ?_; clear hK K) | (apply Exists.intro; refine ⟨fun x => ?_, hK _ ?_⟩; (fail); clear hK K)
  refine Mix.take_exC _ _ 3 rfl (by kernel_rfl) (by kernel_rfl) (by kernel_rfl) (by kernel_rfl) (fun K hK => ?_)
  go_simp
  first | (refine hK _ ?_; clear hK K) | (apply Exists.intro; refine ⟨fun x => ?_, hK _ ?_⟩; (fail); clear hK K)
  refine Mix.take_exC _ _ 4 rfl (by kernel_rfl) (by kernel_rfl) (by kernel_rfl) (by kernel_rfl) (fun K hK => ?_)
  go_simp
  first | (refine hK _ ?_; clear hK K) | (apply Exists.intro; refine ⟨fun x => ?_, hK _ ?_⟩; (fail); clear hK K)
  refine Mix.take_exC _ _ 5 rfl (by kernel_rfl) (by kernel_rfl) (by kernel_rfl) (by kernel_rfl) (fun K hK => ?_)
  go_simp
  first | (refine hK _ ?_; clear hK K) | (apply Exists.intro; refine ⟨fun x => ?_, hK _ ?_⟩; (fail); clear hK K)
  refine Mix.all (rs := [6]) (by kernel_rfl) (by simp) (.of_below _ hb3) ?_
  intro i4 hi4 w4 hb4 hC4
  simp only [List.mem_cons, List.not_mem_nil, or_false] at hi4
  subst hi4
  have HB4 := Lib.hid (bt hb3 hb4)
  clear hC4 hb3 hb4
  refine Mix.op rfl (by kernel_rfl) ?_
  go_simp
  refine (HP.out w4 HB4.out).mono ?_
  rintro e w5 ⟨p2, t2, rfl, h5, e2, hb5⟩
  refine ⟨_, rfl, ?_⟩
  have HB5 := Lib.hid (bt HB4.out hb5)
  have HT5 := Lib.hid h5; have HE2 := Lib.hid e2
  clear h5 e2 hb5
  refine Mix.take_exC _ _ 7 rfl (by kernel_rfl) (by kernel_rfl) (by kernel_rfl) (by kernel_rfl) (fun K hK => ?_)
  go_simp
  first | (refine hK _ ?_; clear hK K) | (apply Exists.intro; refine ⟨fun x => ?_, hK _ ?_⟩; (fail); clear hK K)
  refine Mix.take_exC _ _ 8 rfl (by kernel_rfl) (by kernel_rfl) (by kernel_rfl) (by kernel_rfl) (fun K hK => ?_)
  go_simp
  first | (refine hK _ ?_; clear hK K) | (apply Exists.intro; refine ⟨fun x => ?_, hK _ ?_⟩; (fail); clear hK K)
  refine Mix.take_exC _ _ 9 rfl (by kernel_rfl) (by kernel_rfl) (by kernel_rfl) (by kernel_rfl) (fun K hK => ?_)
  go_simp
  first | (refine hK _ ?_; clear hK K) | (apply Exists.intro; refine ⟨fun x => ?_, hK _ ?_⟩; (fail); clear hK K)
  refine Mix.take_exC _ _ 10 rfl (by kernel_rfl) (by kernel_rfl) (by kernel_rfl) (by kernel_rfl) (fun K hK => ?_)
  go_simp
  first | (refine hK _ ?_; clear hK K) | (apply Exists.intro; refine ⟨fun x => ?_, hK _ ?_⟩; (fail); clear hK K)
  refine Mix.take_exC _ _ 11 rfl (by kernel_rfl) (by kernel_rfl) (by kernel_rfl) (by kernel_rfl) (fun K hK => ?_)
  go_simp
  first | (refine hK _ ?_; clear hK K) | (apply Exists.intro; refine ⟨fun x => ?_, hK _ ?_⟩; (fail); clear hK K)
  refine Mix.done (by kernel_rfl) (.of_below _ HB5.out) ?_
  intro w2 hb2
  have HB2 := Lib.hid (bt HB5.out hb2)
  have HN2 := Lib.hid (HT5.out.below hb2)
  have HT2 := Lib.hid (HT.out.below HB2.out)
  have HB02 := Lib.hid (bt HB0.out HB2.out)
  clear hb2 x0 x1 xs k0 k1 k2 k3 ks nf
  obtain ⟨x0, x1⟩ := HT2.out.cells
  have xs := HT2.out.lt
  have xf := HT2.out.fz
  cases q with
  | true =>
    have HE := Lib.hid (show insL o k (tl t) = tl t from HI.out (by have := HQ.out; unfold hasL at this; simpa using this))
    clear x0 x1 xs xf
    go_wp2
    go_ret
    exact ⟨rfl, by rw [HE.out]; exact ⟨p, t, HT2.out, HN.out.below HB2.out, rfl⟩, .of_below _ HB02.out⟩
  | false =>
    have hst : Chg (TF tp) w2 (w2.setCell ⟨tp, 1, none⟩ (.pointer p2)) := (Chg.refl (TF tp) w2).setCell (.inl rfl) _
    have HW := Lib.hid (show TU tp fn caps (w2.setCell ⟨tp, 1, none⟩ (.pointer p2)) (tl t2) from ⟨p2, t2, HT2.out.set _, HN2.out.chg hst HT2.out.nonode, rfl⟩)
    have HG := Lib.hid ((Chg.of_below (TF tp) HB02.out).same hst)
    clear hst
    go_wp2
    go_ret
    exact ⟨rfl, by rw [← HE2.out]; exact HW.out, HG.out⟩
set_option maxRecDepth 100000 in
set_option maxHeartbeats 2000000 in
theorem tdrop (hO : OV tp fn caps C J o) {w0 : World} {L : List Pl} (h0 : TU tp fn caps w0 L) (hC0 : C w0) (hS : SL J o L) {k : Pl} (hk : J k) (hl : L.length < 1000000) : Calls Tryz.prog 108 #[tptr tp, plv k] w0 (TP tp fn caps (delL k L) (hasL k L) w0) := by
  obtain ⟨w, hw⟩ : ∃ w, w = w0.alloc (.cells #[.int .i64 k.n, .int .i64 k.d, .int .i64 k.w, .int .i64 k.i] 103) := ⟨_, rfl⟩
  obtain ⟨kb, hkb⟩ : ∃ b, b = w0.heap.size := ⟨_, rfl⟩
  have hb0 : Below w0.heap.size w0 w := by rw [hw]; exact ba (Below.refl _ _) _
  have hkk : PK w kb k := by rw [hw, hkb]; exact PK.made w0 k
  obtain ⟨p, t, hT0, hn0, rfl⟩ := h0
  have hT := hT0.below hb0; have hn := hn0.below hb0; have hC := hO.on hC0 hb0
  have HB0 := Lib.hid hb0; have HKK := Lib.hid hkk
  have HT := Lib.hid hT; have HO := Lib.hid hO; have HN := Lib.hid hn; have HC := Lib.hid hC
  have HP := Lib.hid fun w' (hb : Below w.heap.size w w') => drop_t hO hk t w' (.pointer p) (.pointer p) (hn.below hb) (hT.below hb) (hO.on hC hb) hS (by rw [← tl_len]; omega)
  obtain ⟨x0, x1⟩ := hT.cells
  have xs := hT.lt
  obtain ⟨k0, k1, k2, k3⟩ := hkk.cells
  have ks := hkk.lt
  obtain ⟨q, hq⟩ : ∃ q, hasL k (tl t) = q := ⟨_, rfl⟩
  rw [hq] at HP ⊢
  have HQ := Lib.hid hq
  have nf : ∀ q, ¬ (fun _ : Nat => False) q := fun _ h => h
  clear hT0 hT hn0 hn hC hC0 hS hO hk hl hq hb0 hkk
  go_enter Tryz.func108, Tryz.ntmps108
  go_upto_region 1 with (fail)
  rw [← hw, ← hkb]
  clear hw hkb
  go_wp2_with fail
  refine (tmade HT.out).mono ?_
  rintro e w1 ⟨rfl, rfl⟩
  go_wp2_with fail
  refine Mix.regionC (fun _ => False) (by kernel_rfl) ?_
  intro w3 hb3
  refine Mix.take_exC _ _ 0 rfl (by kernel_rfl) (by kernel_rfl) (by kernel_rfl) (by kernel_rfl) (fun K hK => ?_)
  go_simp
  first | (refine hK _ ?_; clear hK K) | (apply Exists.intro; refine ⟨fun x => ?_, hK _ ?_⟩; (fail); clear hK K)
  refine Mix.take_exC _ _ 1 rfl (by kernel_rfl) (by kernel_rfl) (by kernel_rfl) (by kernel_rfl) (fun K hK => ?_)
  go_simp
  first | (refine hK _ ?_; clear hK K) | (apply Exists.intro; refine ⟨fun x => ?_, hK _ ?_⟩; (fail); clear hK K)
  refine Mix.take_exC _ _ 2 rfl (by kernel_rfl) (by kernel_rfl) (by kernel_rfl) (by kernel_rfl) (fun K hK => ?_)
  go_simp
  first | (refine hK _ ?_; clear hK K) | (apply Exists.intro; refine ⟨fun x => ?_, hK _ ?_⟩; (fail); clear hK K)
  refine Mix.take_exC _ _ 3 rfl (by kernel_rfl) (by kernel_rfl) (by kernel_rfl) (by kernel_rfl) (fun K hK => ?_)
  go_simp
  first | (refine hK _ ?_; clear hK K) | (apply Exists.intro; refine ⟨fun x => ?_, hK _ ?_⟩; (fail); clear hK K)
  refine Mix.take_exC _ _ 4 rfl (by kernel_rfl) (by kernel_rfl) (by kernel_rfl) (by kernel_rfl) (fun K hK => ?_)
  go_simp
  first | (refine hK _ ?_; clear hK K) | (apply Exists.intro; refine ⟨fun x => ?_, hK _ ?_⟩; (fail); clear hK K)
  refine Mix.take_exC _ _ 5 rfl (by kernel_rfl) (by kernel_rfl) (by kernel_rfl) (by kernel_rfl) (fun K hK => ?_)
  go_simp
  first | (refine hK _ ?_; clear hK K) | (apply Exists.intro; refine ⟨fun x => ?_, hK _ ?_⟩; (fail); clear hK K)
  refine Mix.all (rs := [6]) (by kernel_rfl) (by simp) (.of_below _ hb3) ?_
  intro i4 hi4 w4 hb4 hC4
  simp only [List.mem_cons, List.not_mem_nil, or_false] at hi4
  subst hi4
  have HB4 := Lib.hid (bt hb3 hb4)
  clear hC4 hb3 hb4
  refine Mix.op rfl (by kernel_rfl) ?_
  go_simp
  refine (HP.out w4 HB4.out).mono ?_
  rintro e w5 ⟨p2, t2, rfl, h5, e2, hb5⟩
  refine ⟨_, rfl, ?_⟩
  have HB5 := Lib.hid (bt HB4.out hb5)
  have HT5 := Lib.hid h5; have HE2 := Lib.hid e2
  clear h5 e2 hb5
  refine Mix.take_exC _ _ 7 rfl (by kernel_rfl) (by kernel_rfl) (by kernel_rfl) (by kernel_rfl) (fun K hK => ?_)
  go_simp
  first | (refine hK _ ?_; clear hK K) | (apply Exists.intro; refine ⟨fun x => ?_, hK _ ?_⟩; (fail); clear hK K)
  refine Mix.take_exC _ _ 8 rfl (by kernel_rfl) (by kernel_rfl) (by kernel_rfl) (by kernel_rfl) (fun K hK => ?_)
  go_simp
  first | (refine hK _ ?_; clear hK K) | (apply Exists.intro; refine ⟨fun x => ?_, hK _ ?_⟩; (fail); clear hK K)
  refine Mix.take_exC _ _ 9 rfl (by kernel_rfl) (by kernel_rfl) (by kernel_rfl) (by kernel_rfl) (fun K hK => ?_)
  go_simp
  first | (refine hK _ ?_; clear hK K) | (apply Exists.intro; refine ⟨fun x => ?_, hK _ ?_⟩; (fail); clear hK K)
  refine Mix.take_exC _ _ 10 rfl (by kernel_rfl) (by kernel_rfl) (by kernel_rfl) (by kernel_rfl) (fun K hK => ?_)
  go_simp
  first | (refine hK _ ?_; clear hK K) | (apply Exists.intro; refine ⟨fun x => ?_, hK _ ?_⟩; (fail); clear hK K)
  refine Mix.take_exC _ _ 11 rfl (by kernel_rfl) (by kernel_rfl) (by kernel_rfl) (by kernel_rfl) (fun K hK => ?_)
  go_simp
  first | (refine hK _ ?_; clear hK K) | (apply Exists.intro; refine ⟨fun x => ?_, hK _ ?_⟩; (fail); clear hK K)
  refine Mix.done (by kernel_rfl) (.of_below _ HB5.out) ?_
  intro w2 hb2
  have HB2 := Lib.hid (bt HB5.out hb2)
  have HN2 := Lib.hid (HT5.out.below hb2)
  have HT2 := Lib.hid (HT.out.below HB2.out)
  have HB02 := Lib.hid (bt HB0.out HB2.out)
  clear hb2 x0 x1 xs k0 k1 k2 k3 ks nf
  obtain ⟨x0, x1⟩ := HT2.out.cells
  have xs := HT2.out.lt
  have xf := HT2.out.fz
  cases q with
  | false =>
    have HE := Lib.hid (show delL k (tl t) = tl t from delL_not (by have := HQ.out; unfold hasL at this; simpa using this))
    clear x0 x1 xs xf
    go_wp2
    go_ret
    exact ⟨rfl, by rw [HE.out]; exact ⟨p, t, HT2.out, HN.out.below HB2.out, rfl⟩, .of_below _ HB02.out⟩
  | true =>
    have hst : Chg (TF tp) w2 (w2.setCell ⟨tp, 1, none⟩ (.pointer p2)) := (Chg.refl (TF tp) w2).setCell (.inl rfl) _
    have HW := Lib.hid (show TU tp fn caps (w2.setCell ⟨tp, 1, none⟩ (.pointer p2)) (tl t2) from ⟨p2, t2, HT2.out.set _, HN2.out.chg hst HT2.out.nonode, rfl⟩)
    have HG := Lib.hid ((Chg.of_below (TF tp) HB02.out).same hst)
    clear hst
    go_wp2
    go_ret
    exact ⟨rfl, by rw [← HE2.out]; exact HW.out, HG.out⟩
end
end
section
open Go.RowKit
attribute [local go_sem] ext_cell ext_frozen extC_cell extC_frozen Mix.calmUpon Mix.mUpon
/-- How many places a tree has, by its node. -/
def lenAt (w : World) : Value → Nat
  | .pointer (some a) => match w.cell? ⟨a.block, 7, none⟩ with
    | some (.int _ n) => n.toNat
    | _ => 0
  | _ => 0
theorem lenAt_of {w : World} {v : Value} {t : Tr} (h : Tn w v t) : lenAt w v = sz t := by
  cases t with
  | lf => rw [h.lf_]; rfl
  | nd l k r =>
    obtain ⟨b, lv, rv, rfl, _, _, _, _, _, _, _, _, c7, _, _⟩ := h.nd_
    simp [lenAt, c7]
def atL (L : List Pl) (i : Int) : Option Pl := if 0 ≤ i then L[i.toNat]? else none
abbrev plz : Pl := ⟨0, 0, 0, 0⟩
def atV : Option Pl → Value
  | some x => .tuple #[plv x, .bool true]
  | none => .tuple #[plv plz, .bool false]
theorem atL_lt {A B : List Pl} {x : Pl} {i : Int} (h : i < A.length) : atL (A ++ x :: B) i = atL A i := by
  unfold atL
  split
  · rw [List.getElem?_append_left (by omega)]
  · rfl
theorem atL_here {A B : List Pl} {x : Pl} {i : Int} (h : i = A.length) : atL (A ++ x :: B) i = some x := by
  subst h
  unfold atL
  rw [if_pos (by omega)]; simp
theorem atL_gt {A B : List Pl} {x : Pl} {i : Int} (h : (A.length : Int) < i) : atL (A ++ x :: B) i = atL B (i - (A.length + 1)) := by
  unfold atL
  rw [if_pos (by omega), if_pos (by omega), List.getElem?_append_right (by omega)]
  rw [show i.toNat - A.length = (i - (A.length + 1)).toNat + 1 by omega]
  simp
-- the answer p is stored in the result's block at the world wq, and handed out
section
variable {tp fn : Nat} {caps : Array Value}
end
end
section
open Go.RowKit
attribute [local go_sem] ext_cell ext_frozen extC_cell extC_frozen Mix.calmUpon Mix.mUpon
def nenc (x : Pl) : List Value := [.int .i64 x.n, .int .i64 x.d, .int .i64 x.w, .int .i64 x.i]
theorem infoN : (Tryz.prog.info? 103).map (fun i => (i.zero, i.size, i.bytes)) = some (some (.agg #[.int .i64 0, .int .i64 0, .int .i64 0, .int .i64 0]), 4, 32) := by kernel_rfl
theorem nenc_len (x : Pl) : (nenc x).length = 4 := rfl
/-- A variable that holds a list of the call's own. -/
structure LV (w : World) (lb : Nat) (L : List Pl) : Prop where
  v : ∃ a n c, w.heap[lb]? = some (.cells #[.slice a n c] 137 (0, 0)) ∧ OwnL 103 4 nenc w (lb + 1) (.slice a n c) L
theorem OwnL.spelled {e k base : Nat} {α : Type} {enc : α → List Value} {w : World} {v : Value} {l : List α} (h : OwnL e k enc w base v l) : ∃ a n c, v = .slice a n c := by
  rcases h.2 with ⟨rfl, _⟩ | ⟨b, cap, cur, rfl, _⟩
  · exact ⟨_, _, _, rfl⟩
  · exact ⟨_, _, _, rfl⟩
theorem LV.lt {w : World} {lb : Nat} {L : List Pl} (h : LV w lb L) : lb < w.heap.size := by obtain ⟨a, n, c, h1, _⟩ := h.v; exact (Array.getElem?_eq_some_iff.1 h1).1
set_option maxRecDepth 100000 in
theorem add1 {w : World} {lb : Nat} {L : List Pl} (h : LV w lb L) (k : Pl) (hl : L.length < 1000000) : Calls Tryz.prog 107 #[plv k, .pointer (some ⟨lb, 0, none⟩)] w fun e w' => e = .returned (.tuple #[]) ∧ LV w' lb (L ++ [k]) ∧ Below lb w w' := by
  obtain ⟨i0, hi, hz0, hz1, hz2⟩ := info_parts infoN
  obtain ⟨a, n, c, hb, ho⟩ := h.v
  have hlt := h.lt
  have hkk := PK.made w k
  have hb1 : Below w.heap.size w (w.alloc (.cells #[.int .i64 k.n, .int .i64 k.d, .int .i64 k.w, .int .i64 k.i] 103)) := ba (Below.refl _ _) _
  have hbb : Below w.heap.size w ((w.alloc (.cells #[.int .i64 k.n, .int .i64 k.d, .int .i64 k.w, .int .i64 k.i] 103)).alloc (.cells #[.int .i64 k.n, .int .i64 k.d, .int .i64 k.w, .int .i64 k.i] 103)) := ba hb1 _
  have hq := PK.made (w.alloc (.cells #[.int .i64 k.n, .int .i64 k.d, .int .i64 k.w, .int .i64 k.i] 103)) k
  obtain ⟨v', w', hrun, o', g', _⟩ := (ho.below hbb).app (P := Tryz.prog) (ty := 137) (t := 137) Tryz.underlying137 hi hz0 hz1 hz2 rfl (by decide) nenc_len k (b := (w.alloc (.cells #[.int .i64 k.n, .int .i64 k.d, .int .i64 k.w, .int .i64 k.i] 103)).heap.size) (c := 1) (fun j u hj => by
    obtain ⟨q0, q1, q2, q3⟩ := hq.cells
    rcases j with _ | _ | _ | _ | j <;> simp [nenc] at hj
    · subst hj; exact q0
    · subst hj; exact q1
    · subst hj; exact q2
    · subst hj; exact q3) (fun u hu => by simp [nenc] at hu; rcases hu with rfl | rfl | rfl | rfl <;> rfl) (by omega) (by unfold maxLen; omega) (by simp; omega)
  rw [show (w.alloc (.cells #[.int .i64 k.n, .int .i64 k.d, .int .i64 k.w, .int .i64 k.i] 103)).heap.size = w.heap.size + 1 by simp] at hrun
  obtain ⟨a', n', c', rfl⟩ := o'.spelled
  have hne : some lb ≠ (Value.slice a n c).ownBlock := fun e => by have := (ho.lt lb e.symm).1; omega
  have hbA : ((w.alloc (.cells #[.int .i64 k.n, .int .i64 k.d, .int .i64 k.w, .int .i64 k.i] 103)).alloc (.cells #[.int .i64 k.n, .int .i64 k.d, .int .i64 k.w, .int .i64 k.i] 103)).heap[lb]? = some (.cells #[.slice a n c] 137 (0, 0)) := (hbb.block lb hlt).trans hb
  have hb2 : w'.heap[lb]? = some (.cells #[.slice a n c] 137 (0, 0)) := (g'.block lb (by simp; omega) hne).trans hbA
  have x0 := cell_hd ((hb1.block lb hlt).trans hb) 0
  have xs1 : lb < (w.alloc (.cells #[.int .i64 k.n, .int .i64 k.d, .int .i64 k.w, .int .i64 k.i] 103)).heap.size := by simp; omega
  have y0 := cell_hd hb2 0
  have yf : w'.frozen? ⟨lb, 0, none⟩ = false := by simp [World.frozen?, hb2]
  have xs' : lb < w'.heap.size := (Array.getElem?_eq_some_iff.1 hb2).1
  simp only [List.getElem?_toArray, List.getElem?_cons_zero] at x0 y0
  obtain ⟨k0, k1, k2, k3⟩ := hkk.cells
  have ks := hkk.lt
  have HR := Lib.hid hrun
  have HB := Lib.hid (show Below lb w w' from (hbb.mono (Nat.le_of_lt hlt)).trans ((Chg.of_grown g' (F := fun q => lb ≤ q) fun q e => Nat.le_of_succ_le ((ho.below hbb).lt q e).1).below (by simp; omega) (fun _ h => h)))
  have HW := Lib.hid (show LV (w'.setCell ⟨lb, 0, none⟩ (.slice a' n' c')) lb (L ++ [k]) from ⟨a', n', c', by rw [heap_setCell_at (o := 0) _ hb2]; simp, o'.chg ((Chg.refl (fun q => q = lb) w').setCell (p := ⟨lb, 0, none⟩) (.inl rfl) _) fun q e hq => by have := (o'.lt q e).1; have hq : q = lb := hq; omega⟩)
  clear hrun o' g' hbb ho h hb hb1 hb2 hbA hne hi hz0 hz1 hz2 hq hkk hlt
  go_enter Tryz.func107, Tryz.ntmps107
  go_wp2_with (at_builtin; refine wpList_app_run rfl _ _ _ rfl rfl rfl HR.out ?_)
  go_end0
  exact ⟨rfl, HW.out, HB.out.setCell (Nat.le_refl _) _⟩
set_option maxRecDepth 100000 in
set_option maxHeartbeats 2000000 in
theorem visit_t {W : World} {lb : Nat} (hlb : W.heap.size ≤ lb) : ∀ (t : Tr) (w : World) (v : Value) (L : List Pl), Tn W v t → Below W.heap.size W w → LV w lb L → L.length + sz t < 1000000 →
    Calls Tryz.prog 106 #[v, .func (.func 107) #[] #[.pointer (some ⟨lb, 0, none⟩)]] w fun e w' => e = .returned (.tuple #[]) ∧ LV w' lb (L ++ tl t) ∧ Below lb w w'
  | .lf, w, v, L, h, hb, hL, hz => by
    obtain rfl := h.lf_
    have HL := Lib.hid hL
    clear h hb hL hz
    go_enter Tryz.func106, Tryz.ntmps106
    go_wp2
    go_end0
    exact ⟨rfl, by simpa [tl] using HL.out, Below.refl _ _⟩
  | .nd l x r, w, v, L, h, hb, hL, hz => by
    obtain ⟨b, pl, pr, rfl, hN, hl, hr⟩ := h.node
    have hz' : L.length + (1 + sz l + sz r) < 1000000 := hz
    have hll := tl_len l
    have IHL := Lib.hid (visit_t hlb l w (.pointer pl) L hl hb hL (by omega))
    have IHR := Lib.hid (fun w' h1 h2 => visit_t hlb r w' (.pointer pr) (L ++ tl l ++ [x]) hr h1 h2 (by simp; omega))
    have HB0 := Lib.hid hb
    have HLB := Lib.hid hlb
    have hlen : (L ++ tl l).length < 1000000 := by simp; omega
    have HN := Lib.hid hN
    obtain ⟨x0, x1, x2, x3, x4, x5⟩ := (HN.out.below hb).cells
    have xs := (HN.out.below hb).lt
    clear h hN hl hr hL hb hz hz' hll
    go_enter Tryz.func106, Tryz.ntmps106
    go_wp2_with fail
    refine IHL.out.mono ?_
    rintro e w2 ⟨rfl, h2, hb2⟩
    have HB2 := Lib.hid (HB0.out.trans (hb2.mono HLB.out))
    have HV2 := Lib.hid h2; have HC2 := Lib.hid hb2
    clear h2 hb2 x0 x1 x2 x3 x4 x5 xs
    obtain ⟨x0, x1, x2, x3, x4, x5⟩ := (HN.out.below HB2.out).cells
    have xs := (HN.out.below HB2.out).lt
    go_wp2_with fail
    refine (add1 HV2.out x hlen).mono ?_
    rintro e w3 ⟨rfl, h3, hb3⟩
    have HB3 := Lib.hid (HB2.out.trans (hb3.mono HLB.out))
    have HV3 := Lib.hid h3; have HC3 := Lib.hid (HC2.out.trans hb3)
    clear h3 hb3 x0 x1 x2 x3 x4 x5 xs
    obtain ⟨x0, x1, x2, x3, x4, x5⟩ := (HN.out.below HB3.out).cells
    have xs := (HN.out.below HB3.out).lt
    go_wp2_with fail
    refine (IHR.out w3 HB3.out HV3.out).mono ?_
    rintro e w4 ⟨rfl, h4, hb4⟩
    have HV4 := Lib.hid h4; have HC4 := Lib.hid (HC3.out.trans hb4)
    clear h4 hb4 x0 x1 x2 x3 x4 x5 xs
    go_wp2
    go_end0
    refine ⟨rfl, ?_, HC4.out⟩
    have := HV4.out
    rw [show L ++ tl l ++ [x] ++ tl r = L ++ tl (.nd l x r) by simp [tl]] at this
    exact this
section
variable {tp fn : Nat} {caps : Array Value}
set_option maxRecDepth 100000 in
theorem tall {w : World} {L : List Pl} (h : TU tp fn caps w L) (hl : L.length < 1000000) : Calls Tryz.prog 77 #[tptr tp] w fun e w' => ∃ v, e = .returned v ∧ OwnL 103 4 nenc w' w.heap.size v L ∧ Below w.heap.size w w' := by
  have hmf : ∀ (fn : Fn) (first cap : Array Value) (w : World), (Instr.makeFunc fn first cap).run Tryz.prog w = .ok (.func fn first cap) w := fun _ _ _ _ => rfl
  obtain ⟨p, t, hT, hn, rfl⟩ := h
  rw [tl_len] at hl
  have hb : Below w.heap.size w (w.alloc (.cells #[.slice none 0 0] 137)) := ba (Below.refl _ _) _
  have HT := Lib.hid (hT.below hb)
  have HV := Lib.hid (visit_t (W := w) (lb := w.heap.size) (Nat.le_refl _) t (w.alloc (.cells #[.slice none 0 0] 137)) (.pointer p) [] hn hb ⟨none, 0, 0, heap_alloc_new w _, OwnL.nil _ _ _ _ _⟩ (by simpa using hl))
  have HB := Lib.hid hb
  clear hT hn hl hb
  go_enter Tryz.func77, Tryz.ntmps77
  go_wp2_with fail
  refine (ttop HT.out).mono ?_
  rintro e w1 ⟨rfl, rfl⟩
  go_wp2_with fail
  refine HV.out.mono ?_
  rintro e w2 ⟨rfl, h2, hb2⟩
  obtain ⟨a, n, c, hc, ho⟩ := h2.v
  have x0 := cell_hd hc 0
  simp only [List.getElem?_toArray, List.getElem?_cons_zero] at x0
  have HO := Lib.hid ho
  have HB2 := Lib.hid (HB.out.trans hb2)
  clear h2 hb2 hc ho
  go_wp2
  go_ret
  exact ⟨_, rfl, ownsRow_base HO.out (Nat.le_succ _), HB2.out⟩
end
end
end Go.Proofs.YtgfjmafdfbghnaaGreat

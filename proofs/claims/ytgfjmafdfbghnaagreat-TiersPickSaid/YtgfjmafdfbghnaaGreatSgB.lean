/- Texts laid together: Tp1,Tp2,Tp3. -/
import Derived.Test.YtgfjmafdfbghnaaGreatSgA
import Derived.Deep.DeepCutAuto
import Derived.Defers
import Derived.IntWalk
import Derived.Recover
namespace Go.Proofs.YtgfjmafdfbghnaaGreat
section
open Go.RowKit
attribute [local go_sem] ext_cell ext_frozen extC_cell extC_frozen Mix.calmUpon Mix.mUpon
theorem depth_t {w : World} {v : Value} {t : Tr} (h : Tn w v t) : Calls Tryz.prog 126 #[v] w fun e w' => e = .returned (.int .i64 (dp t : Nat)) ∧ w = w' := by
  cases t with
  | lf =>
    obtain rfl := h.lf_
    clear h
    go_enter Tryz.func126, Tryz.ntmps126
    go_wp2
    go_ret
    exact ⟨rfl, rfl⟩
  | nd l k r =>
    obtain ⟨b, lv, rv, rfl, hb, c0, c1, c2, c3, c4, c5, c6, c7, _, _⟩ := h.nd_
    generalize dp (.nd l k r) = q at *
    clear h c0 c1 c2 c3 c4 c5 c7
    go_enter Tryz.func126, Tryz.ntmps126
    go_wp2
    go_ret
    exact ⟨rfl, rfl⟩
theorem length_t {w : World} {v : Value} {t : Tr} (h : Tn w v t) : Calls Tryz.prog 127 #[v] w fun e w' => e = .returned (.int .i64 (sz t : Nat)) ∧ w = w' := by
  cases t with
  | lf =>
    obtain rfl := h.lf_
    clear h
    go_enter Tryz.func127, Tryz.ntmps127
    go_wp2
    go_ret
    exact ⟨rfl, rfl⟩
  | nd l k r =>
    obtain ⟨b, lv, rv, rfl, hb, c0, c1, c2, c3, c4, c5, c6, c7, _, _⟩ := h.nd_
    generalize sz (.nd l k r) = q at *
    clear h c0 c1 c2 c3 c4 c5 c6
    go_enter Tryz.func127, Tryz.ntmps127
    go_wp2
    go_ret
    exact ⟨rfl, rfl⟩
theorem Tn.ptr {w : World} {v : Value} {t : Tr} (h : Tn w v t) : ∃ a, v = .pointer a := by
  cases t with
  | lf => exact ⟨_, h.lf_⟩
  | nd l k r => obtain ⟨b, lv, rv, hv, _⟩ := h.nd_; exact ⟨_, hv⟩
/-- A call that answers a tree. -/
def RetT (P : Tr → Prop) (w : World) (e : Ending) (w' : World) : Prop := ∃ v t, e = .returned v ∧ Tn w' v t ∧ P t ∧ Below w.heap.size w w'
/-- Block b is a variable that holds a place. -/
def PK (w : World) (b : Nat) (p : Pl) : Prop := w.heap[b]? = some (.cells #[.int .i64 p.n, .int .i64 p.d, .int .i64 p.w, .int .i64 p.i] 103 (0, 0))
section
variable {w w' : World} {b : Nat} {p : Pl}
theorem PK.made (w : World) (p : Pl) : PK (w.alloc (.cells #[.int .i64 p.n, .int .i64 p.d, .int .i64 p.w, .int .i64 p.i] 103)) w.heap.size p := heap_alloc_new w _
theorem PK.lt (h : PK w b p) : b < w.heap.size := (Array.getElem?_eq_some_iff.1 h).1
theorem PK.below (h : PK w b p) (hb : Below w.heap.size w w') : PK w' b p := (hb.block b h.lt).trans h
theorem PK.cells (h : PK w b p) : w.cell? ⟨b, 0, none⟩ = some (.int .i64 p.n) ∧ w.cell? ⟨b, 1, none⟩ = some (.int .i64 p.d) ∧ w.cell? ⟨b, 2, none⟩ = some (.int .i64 p.w) ∧ w.cell? ⟨b, 3, none⟩ = some (.int .i64 p.i) := by unfold PK at h; simp [World.cell?, h]
theorem PK.fz (h : PK w b p) (o : Nat) : w.frozen? ⟨b, o, none⟩ = false := by unfold PK at h; simp [World.frozen?, h]
end
/-- Depth and length of a tree, asked in a world that extends one. -/
theorem depth_c {w : World} {v : Value} {t : Tr} (h : Tn w v t) (x : ExtC w (fun _ => False)) : Calls Tryz.prog 126 #[v] (extC w (fun _ => False) x) fun e w' => e = .returned (.int .i64 (dp t : Nat)) ∧ Below (extC w (fun _ => False) x).heap.size (extC w (fun _ => False) x) w' :=
  (depth_t (h.chg (extC_chg w _ x) (fun _ e => e.elim))).mono fun _ _ ⟨he, hw⟩ => ⟨he, by rw [← hw]; exact Below.refl _ _⟩
theorem length_c {w : World} {v : Value} {t : Tr} (h : Tn w v t) (x : ExtC w (fun _ => False)) : Calls Tryz.prog 127 #[v] (extC w (fun _ => False) x) fun e w' => e = .returned (.int .i64 (sz t : Nat)) ∧ Below (extC w (fun _ => False) x).heap.size (extC w (fun _ => False) x) w' :=
  (length_t (h.chg (extC_chg w _ x) (fun _ e => e.elim))).mono fun _ _ ⟨he, hw⟩ => ⟨he, by rw [← hw]; exact Below.refl _ _⟩
set_option maxRecDepth 100000 in
set_option maxHeartbeats 2000000 in
theorem join_t {w : World} {lv rv : Value} {l r : Tr} (hl : Tn w lv l) (hr : Tn w rv r) (k : Pl) (hs : sz l + sz r < 1000000000) : Calls Tryz.prog 118 #[lv, plv k, rv] w (RetT (fun t => t = .nd l k r) w) := by
  obtain ⟨pl, rfl⟩ := hl.ptr
  obtain ⟨pr, rfl⟩ := hr.ptr
  have hb1 := ba (Below.refl w.heap.size w) (.cells #[.int .i64 k.n, .int .i64 k.d, .int .i64 k.w, .int .i64 k.i] 103)
  have hk := PK.made w k
  have HL := Lib.hid (hl.below hb1); have HR := Lib.hid (hr.below hb1)
  have h1 := dp_le l; have h2 := dp_le r
  have HB0 := Lib.hid hb1
  have HD1 := Lib.hid (depth_c HL.out); have HD2 := Lib.hid (depth_c HR.out)
  have HD3 := Lib.hid (length_c HL.out); have HD4 := Lib.hid (length_c HR.out)
  have HKK := Lib.hid hk
  have ed : dp (.nd l k r) = 1 + max (dp l) (dp r) := rfl
  have es : sz (.nd l k r) = 1 + sz l + sz r := rfl
  clear hl hr hb1 hk
  generalize hdl : dp l = a at *
  generalize hdr : dp r = b at *
  generalize hsl : sz l = c at *
  generalize hsr : sz r = d at *
  have ED := Lib.hid ed; have ES := Lib.hid es
  clear hdl hdr hsl hsr ed es
  go_enter Tryz.func118, Tryz.ntmps118
  go_upto_region 1 with (fail)
  generalize w.alloc (.cells #[.int .i64 k.n, .int .i64 k.d, .int .i64 k.w, .int .i64 k.i] 103) = w1 at *
  generalize w.heap.size = kb at HKK ⊢
  obtain ⟨x0, x1, x2, x3⟩ := HKK.out.cells
  have xs := HKK.out.lt
  have hw2 : IntKind.i64.wrap (1 + (c : Int)) = 1 + (c : Int) := IntWalk.i64_in _ (by omega)
  have hw3 : IntKind.i64.wrap (1 + (c : Int) + (d : Int)) = 1 + (c : Int) + (d : Int) := IntWalk.i64_in _ (by omega)
  have hw4 : IntKind.i64.wrap (1 + (a : Int)) = 1 + (a : Int) := IntWalk.i64_in _ (by omega)
  have hw5 : IntKind.i64.wrap (1 + (b : Int)) = 1 + (b : Int) := IntWalk.i64_in _ (by omega)
  by_cases hab : (a : Int) < (b : Int)
  · have HX := Lib.hid (show (1 + b : Nat) = 1 + max a b by omega)
    have hmx : max (a : Int) (b : Int) = (b : Int) := by omega
    have nf : ∀ q, ¬ (fun _ : Nat => False) q := fun _ h => h
    refine Mix.regionC (fun _ => False) (by kernel_rfl) ?_
    intro w2 hb2
    refine Mix.take_exC _ _ 0 rfl (by kernel_rfl) (by kernel_rfl) (by kernel_rfl) (by kernel_rfl) (fun K hK => ?_)
    go_simp
    first | (refine hK _ ?_; clear hK K) | (apply Exists.intro; refine ⟨fun x => ?_, hK _ ?_⟩; (fail); clear hK K)
    refine Mix.take_exC _ _ 1 rfl (by kernel_rfl) (by kernel_rfl) (by kernel_rfl) (by kernel_rfl) (fun K hK => ?_)
    go_simp
    first | (refine hK _ ?_; clear hK K) | (apply Exists.intro; refine ⟨fun x => ?_, hK _ ?_⟩; (fail); clear hK K)
    refine Mix.take_exC _ _ 2 rfl (by kernel_rfl) (by kernel_rfl) (by kernel_rfl) (by kernel_rfl) (fun K hK => ?_)
    go_simp
    first | (refine hK _ ?_; clear hK K) | (apply Exists.intro; refine ⟨fun x => ?_, hK _ ?_⟩; (fail); clear hK K)
    refine Mix.take_exC _ _ 3 rfl (by kernel_rfl) (by kernel_rfl) (by kernel_rfl) (by kernel_rfl) (fun K hK => ?_)
    go_simp
    first | (refine hK _ ?_; clear hK K) | (apply Exists.intro; refine ⟨fun x => ?_, hK _ ?_⟩; (fail); clear hK K)
    refine Mix.take_exC _ _ 4 rfl (by kernel_rfl) (by kernel_rfl) (by kernel_rfl) (by kernel_rfl) (fun K hK => ?_)
    go_simp
    first | (refine hK _ ?_; clear hK K) | (apply Exists.intro; refine ⟨fun x => ?_, hK _ ?_⟩; (exact HD1.out x); clear hK K)
    refine Mix.take_exC _ _ 5 rfl (by kernel_rfl) (by kernel_rfl) (by kernel_rfl) (by kernel_rfl) (fun K hK => ?_)
    go_simp
    first | (refine hK _ ?_; clear hK K) | (apply Exists.intro; refine ⟨fun x => ?_, hK _ ?_⟩; (fail); clear hK K)
    refine Mix.take_exC _ _ 6 rfl (by kernel_rfl) (by kernel_rfl) (by kernel_rfl) (by kernel_rfl) (fun K hK => ?_)
    go_simp
    first | (refine hK _ ?_; clear hK K) | (apply Exists.intro; refine ⟨fun x => ?_, hK _ ?_⟩; (exact HD2.out x); clear hK K)
    refine Mix.take_exC _ _ 7 rfl (by kernel_rfl) (by kernel_rfl) (by kernel_rfl) (by kernel_rfl) (fun K hK => ?_)
    go_simp
    first | (refine hK _ ?_; clear hK K) | (apply Exists.intro; refine ⟨fun x => ?_, hK _ ?_⟩; (fail); clear hK K)
    refine Mix.take_exC _ _ 8 rfl (by kernel_rfl) (by kernel_rfl) (by kernel_rfl) (by kernel_rfl) (fun K hK => ?_)
    go_simp
    first | (refine hK _ ?_; clear hK K) | (apply Exists.intro; refine ⟨fun x => ?_, hK _ ?_⟩; (fail); clear hK K)
    refine Mix.take_exC _ _ 9 rfl (by kernel_rfl) (by kernel_rfl) (by kernel_rfl) (by kernel_rfl) (fun K hK => ?_)
    go_simp
    first | (refine hK _ ?_; clear hK K) | (apply Exists.intro; refine ⟨fun x => ?_, hK _ ?_⟩; (fail); clear hK K)
    refine Mix.take_exC _ _ 10 rfl (by kernel_rfl) (by kernel_rfl) (by kernel_rfl) (by kernel_rfl) (fun K hK => ?_)
    go_simp
    first | (refine hK _ ?_; clear hK K) | (apply Exists.intro; refine ⟨fun x => ?_, hK _ ?_⟩; (exact HD3.out x); clear hK K)
    refine Mix.take_exC _ _ 11 rfl (by kernel_rfl) (by kernel_rfl) (by kernel_rfl) (by kernel_rfl) (fun K hK => ?_)
    go_simp
    first | (refine hK _ ?_; clear hK K) | (apply Exists.intro; refine ⟨fun x => ?_, hK _ ?_⟩; (fail); clear hK K)
    refine Mix.take_exC _ _ 12 rfl (by kernel_rfl) (by kernel_rfl) (by kernel_rfl) (by kernel_rfl) (fun K hK => ?_)
    go_simp
    first | (refine hK _ ?_; clear hK K) | (apply Exists.intro; refine ⟨fun x => ?_, hK _ ?_⟩; (fail); clear hK K)
    refine Mix.take_exC _ _ 13 rfl (by kernel_rfl) (by kernel_rfl) (by kernel_rfl) (by kernel_rfl) (fun K hK => ?_)
    go_simp
    first | (refine hK _ ?_; clear hK K) | (apply Exists.intro; refine ⟨fun x => ?_, hK _ ?_⟩; (exact HD4.out x); clear hK K)
    refine Mix.take_exC _ _ 14 rfl (by kernel_rfl) (by kernel_rfl) (by kernel_rfl) (by kernel_rfl) (fun K hK => ?_)
    go_simp
    first | (refine hK _ ?_; clear hK K) | (apply Exists.intro; refine ⟨fun x => ?_, hK _ ?_⟩; (fail); clear hK K)
    refine Mix.take_exC _ _ 15 rfl (by kernel_rfl) (by kernel_rfl) (by kernel_rfl) (by kernel_rfl) (fun K hK => ?_)
    go_simp
    first | (refine hK _ ?_; clear hK K) | (apply Exists.intro; refine ⟨fun x => ?_, hK _ ?_⟩; (fail); clear hK K)
    refine Mix.all (rs := [16]) (by kernel_rfl) (by simp) (.of_below _ hb2) ?_
    intro i3 hi3 w3 hb3 hC3
    simp only [List.mem_cons, List.not_mem_nil, or_false] at hi3
    subst hi3
    have HB3 := Lib.hid (bt hb2 hb3)
    clear hC3 hb2 hb3
    refine Mix.op rfl (by kernel_rfl) ?_
    go_simp
    have HN := Lib.hid (Tn.made k (HL.out.below HB3.out) (HR.out.below HB3.out))
    rw [ED.out, ES.out, ← HX.out] at HN
    have HB4 := Lib.hid (ba HB3.out (.cells #[.int .i64 k.n, .int .i64 k.d, .int .i64 k.w, .int .i64 k.i, .pointer pl, .pointer pr, .int .i64 ((1 + b : Nat) : Int), .int .i64 ((1 + c + d : Nat) : Int)] 181))
    simp only [Int.natCast_add, Int.cast_ofNat_Int] at HN HB4
    refine Mix.take_exC _ _ 17 rfl (by kernel_rfl) (by kernel_rfl) (by kernel_rfl) (by kernel_rfl) (fun K hK => ?_)
    go_simp
    first | (refine hK _ ?_; clear hK K) | (apply Exists.intro; refine ⟨fun x => ?_, hK _ ?_⟩; (fail); clear hK K)
    refine Mix.done (by kernel_rfl) (.of_below _ HB4.out) ?_
    intro w5 hb5
    have HN5 := Lib.hid (HN.out.below hb5)
    have HB5 := Lib.hid (bt HB0.out (bt HB4.out hb5))
    clear hb5 HN x0 x1 x2 x3 xs nf
    go_wp2
    go_ret
    exact ⟨_, _, rfl, HN5.out, rfl, HB5.out⟩
  · have HX := Lib.hid (show (1 + a : Nat) = 1 + max a b by omega)
    have hmx : max (a : Int) (b : Int) = (a : Int) := by omega
    have nf : ∀ q, ¬ (fun _ : Nat => False) q := fun _ h => h
    refine Mix.regionC (fun _ => False) (by kernel_rfl) ?_
    intro w2 hb2
    refine Mix.take_exC _ _ 0 rfl (by kernel_rfl) (by kernel_rfl) (by kernel_rfl) (by kernel_rfl) (fun K hK => ?_)
    go_simp
    first | (refine hK _ ?_; clear hK K) | (apply Exists.intro; refine ⟨fun x => ?_, hK _ ?_⟩; (fail); clear hK K)
    refine Mix.take_exC _ _ 1 rfl (by kernel_rfl) (by kernel_rfl) (by kernel_rfl) (by kernel_rfl) (fun K hK => ?_)
    go_simp
    first | (refine hK _ ?_; clear hK K) | (apply Exists.intro; refine ⟨fun x => ?_, hK _ ?_⟩; (fail); clear hK K)
    refine Mix.take_exC _ _ 2 rfl (by kernel_rfl) (by kernel_rfl) (by kernel_rfl) (by kernel_rfl) (fun K hK => ?_)
    go_simp
    first | (refine hK _ ?_; clear hK K) | (apply Exists.intro; refine ⟨fun x => ?_, hK _ ?_⟩; (fail); clear hK K)
    refine Mix.take_exC _ _ 3 rfl (by kernel_rfl) (by kernel_rfl) (by kernel_rfl) (by kernel_rfl) (fun K hK => ?_)
    go_simp
    first | (refine hK _ ?_; clear hK K) | (apply Exists.intro; refine ⟨fun x => ?_, hK _ ?_⟩; (fail); clear hK K)
    refine Mix.take_exC _ _ 4 rfl (by kernel_rfl) (by kernel_rfl) (by kernel_rfl) (by kernel_rfl) (fun K hK => ?_)
    go_simp
    first | (refine hK _ ?_; clear hK K) | (apply Exists.intro; refine ⟨fun x => ?_, hK _ ?_⟩; (exact HD1.out x); clear hK K)
    refine Mix.take_exC _ _ 5 rfl (by kernel_rfl) (by kernel_rfl) (by kernel_rfl) (by kernel_rfl) (fun K hK => ?_)
    go_simp
    first | (refine hK _ ?_; clear hK K) | (apply Exists.intro; refine ⟨fun x => ?_, hK _ ?_⟩; (fail); clear hK K)
    refine Mix.take_exC _ _ 6 rfl (by kernel_rfl) (by kernel_rfl) (by kernel_rfl) (by kernel_rfl) (fun K hK => ?_)
    go_simp
    first | (refine hK _ ?_; clear hK K) | (apply Exists.intro; refine ⟨fun x => ?_, hK _ ?_⟩; (exact HD2.out x); clear hK K)
    refine Mix.take_exC _ _ 7 rfl (by kernel_rfl) (by kernel_rfl) (by kernel_rfl) (by kernel_rfl) (fun K hK => ?_)
    go_simp
    first | (refine hK _ ?_; clear hK K) | (apply Exists.intro; refine ⟨fun x => ?_, hK _ ?_⟩; (fail); clear hK K)
    refine Mix.take_exC _ _ 8 rfl (by kernel_rfl) (by kernel_rfl) (by kernel_rfl) (by kernel_rfl) (fun K hK => ?_)
    go_simp
    first | (refine hK _ ?_; clear hK K) | (apply Exists.intro; refine ⟨fun x => ?_, hK _ ?_⟩; (fail); clear hK K)
    refine Mix.take_exC _ _ 9 rfl (by kernel_rfl) (by kernel_rfl) (by kernel_rfl) (by kernel_rfl) (fun K hK => ?_)
    go_simp
    first | (refine hK _ ?_; clear hK K) | (apply Exists.intro; refine ⟨fun x => ?_, hK _ ?_⟩; (fail); clear hK K)
    refine Mix.take_exC _ _ 10 rfl (by kernel_rfl) (by kernel_rfl) (by kernel_rfl) (by kernel_rfl) (fun K hK => ?_)
    go_simp
    first | (refine hK _ ?_; clear hK K) | (apply Exists.intro; refine ⟨fun x => ?_, hK _ ?_⟩; (exact HD3.out x); clear hK K)
    refine Mix.take_exC _ _ 11 rfl (by kernel_rfl) (by kernel_rfl) (by kernel_rfl) (by kernel_rfl) (fun K hK => ?_)
    go_simp
    first | (refine hK _ ?_; clear hK K) | (apply Exists.intro; refine ⟨fun x => ?_, hK _ ?_⟩; (fail); clear hK K)
    refine Mix.take_exC _ _ 12 rfl (by kernel_rfl) (by kernel_rfl) (by kernel_rfl) (by kernel_rfl) (fun K hK => ?_)
    go_simp
    first | (refine hK _ ?_; clear hK K) | (apply Exists.intro; refine ⟨fun x => ?_, hK _ ?_⟩; (fail); clear hK K)
    refine Mix.take_exC _ _ 13 rfl (by kernel_rfl) (by kernel_rfl) (by kernel_rfl) (by kernel_rfl) (fun K hK => ?_)
    go_simp
    first | (refine hK _ ?_; clear hK K) | (apply Exists.intro; refine ⟨fun x => ?_, hK _ ?_⟩; (exact HD4.out x); clear hK K)
    refine Mix.take_exC _ _ 14 rfl (by kernel_rfl) (by kernel_rfl) (by kernel_rfl) (by kernel_rfl) (fun K hK => ?_)
    go_simp
    first | (refine hK _ ?_; clear hK K) | (apply Exists.intro; refine ⟨fun x => ?_, hK _ ?_⟩; (fail); clear hK K)
    refine Mix.take_exC _ _ 15 rfl (by kernel_rfl) (by kernel_rfl) (by kernel_rfl) (by kernel_rfl) (fun K hK => ?_)
    go_simp
    first | (refine hK _ ?_; clear hK K) | (apply Exists.intro; refine ⟨fun x => ?_, hK _ ?_⟩; (fail); clear hK K)
    refine Mix.all (rs := [16]) (by kernel_rfl) (by simp) (.of_below _ hb2) ?_
    intro i3 hi3 w3 hb3 hC3
    simp only [List.mem_cons, List.not_mem_nil, or_false] at hi3
    subst hi3
    have HB3 := Lib.hid (bt hb2 hb3)
    clear hC3 hb2 hb3
    refine Mix.op rfl (by kernel_rfl) ?_
    go_simp
    have HN := Lib.hid (Tn.made k (HL.out.below HB3.out) (HR.out.below HB3.out))
    rw [ED.out, ES.out, ← HX.out] at HN
    have HB4 := Lib.hid (ba HB3.out (.cells #[.int .i64 k.n, .int .i64 k.d, .int .i64 k.w, .int .i64 k.i, .pointer pl, .pointer pr, .int .i64 ((1 + a : Nat) : Int), .int .i64 ((1 + c + d : Nat) : Int)] 181))
    simp only [Int.natCast_add, Int.cast_ofNat_Int] at HN HB4
    refine Mix.take_exC _ _ 17 rfl (by kernel_rfl) (by kernel_rfl) (by kernel_rfl) (by kernel_rfl) (fun K hK => ?_)
    go_simp
    first | (refine hK _ ?_; clear hK K) | (apply Exists.intro; refine ⟨fun x => ?_, hK _ ?_⟩; (fail); clear hK K)
    refine Mix.done (by kernel_rfl) (.of_below _ HB4.out) ?_
    intro w5 hb5
    have HN5 := Lib.hid (HN.out.below hb5)
    have HB5 := Lib.hid (bt HB0.out (bt HB4.out hb5))
    clear hb5 HN x0 x1 x2 x3 xs nf
    go_wp2
    go_ret
    exact ⟨_, _, rfl, HN5.out, rfl, HB5.out⟩
end
section
open Go.RowKit
attribute [local go_sem] ext_cell ext_frozen extC_cell extC_frozen Mix.calmUpon Mix.mUpon
def ND (w : World) (b : Nat) (k : Pl) (lv rv : Value) (d s : Nat) : Prop := w.heap[b]? = some (.cells #[.int .i64 k.n, .int .i64 k.d, .int .i64 k.w, .int .i64 k.i, lv, rv, .int .i64 d, .int .i64 s] 181 (0, 0))
theorem ND.lt {w : World} {b : Nat} {k : Pl} {lv rv : Value} {d s : Nat} (h : ND w b k lv rv d s) : b < w.heap.size := (Array.getElem?_eq_some_iff.1 h).1
theorem ND.below {w w' : World} {b : Nat} {k : Pl} {lv rv : Value} {d s : Nat} (h : ND w b k lv rv d s) (hb : Below w.heap.size w w') : ND w' b k lv rv d s := (hb.block _ h.lt).trans h
theorem ND.cells {w : World} {b : Nat} {k : Pl} {lv rv : Value} {d s : Nat} (h : ND w b k lv rv d s) : w.cell? ⟨b, 0, none⟩ = some (.int .i64 k.n) ∧ w.cell? ⟨b, 1, none⟩ = some (.int .i64 k.d) ∧ w.cell? ⟨b, 2, none⟩ = some (.int .i64 k.w) ∧ w.cell? ⟨b, 3, none⟩ = some (.int .i64 k.i) ∧ w.cell? ⟨b, 4, none⟩ = some lv ∧ w.cell? ⟨b, 5, none⟩ = some rv := by
  unfold ND at h; simp [World.cell?, h]
theorem Tn.node {w : World} {v : Value} {l r : Tr} {k : Pl} (h : Tn w v (.nd l k r)) : ∃ b pl pr, v = .pointer (some ⟨b, 0, none⟩) ∧ ND w b k (.pointer pl) (.pointer pr) (dp (.nd l k r)) (sz (.nd l k r)) ∧ Tn w (.pointer pl) l ∧ Tn w (.pointer pr) r := by
  obtain ⟨b, lv, rv, hv, hb, hl, hr⟩ := h
  obtain ⟨pl, rfl⟩ := hl.ptr
  obtain ⟨pr, rfl⟩ := hr.ptr
  exact ⟨b, pl, pr, hv, hb, hl, hr⟩
/-- The depth of a tree, asked in a world that extends one. -/
theorem depth_q {w : World} {v : Value} {t : Tr} (h : Tn w v t) (x : Ext w) : Calls Tryz.prog 126 #[v] (ext w x) fun e w'' => e = .returned (.int .i64 (dp t : Nat)) ∧ ∃ y, w'' = ext w y :=
  (depth_t (h.below (ext_below w x))).mono fun _ _ ⟨he, hw⟩ => ⟨he, x, hw.symm⟩
set_option maxRecDepth 100000 in
set_option maxHeartbeats 2000000 in
theorem balance_l {w0 : World} {lv rv : Value} {l r : Tr} (hl0 : Tn w0 lv l) (hr0 : Tn w0 rv r) (k : Pl) (hs : sz l + sz r < 500000000) (hd : dp r + 1 < dp l) : Calls Tryz.prog 120 #[lv, plv k, rv] w0 (RetT (fun t => tl t = tl l ++ k :: tl r) w0) := by
  have hb0 := ba (Below.refl w0.heap.size w0) (.cells #[.int .i64 k.n, .int .i64 k.d, .int .i64 k.w, .int .i64 k.i] 103)
  have hkk := PK.made w0 k
  have HB0 := Lib.hid hb0
  have hl := hl0.below hb0; have hr := hr0.below hb0
  clear hl0 hr0 hb0
  go_enter Tryz.func120, Tryz.ntmps120
  go_upto_region 1 with (fail)
  generalize w0.alloc (.cells #[.int .i64 k.n, .int .i64 k.d, .int .i64 k.w, .int .i64 k.i] 103) = w at *
  obtain ⟨kb, hkb⟩ : ∃ b, b = w0.heap.size := ⟨_, rfl⟩
  rw [← hkb] at hkk ⊢
  clear hkb
  have HKK := Lib.hid hkk
  obtain ⟨k0, k1, k2, k3⟩ := hkk.cells
  have ks := hkk.lt
  clear hkk
  obtain ⟨ll, lk, lr, rfl⟩ := dp_pos (show 0 < dp l by omega)
  obtain ⟨b, pl, pr, rfl, hN, hll, hlr⟩ := hl.node
  obtain ⟨pw, rfl⟩ := hr.ptr
  have HL := Lib.hid hl; have HR := Lib.hid hr; have HN := Lib.hid hN; have HLL := Lib.hid hll; have HLR := Lib.hid hlr
  have HQ1 := Lib.hid (depth_q hll); have HQ2 := Lib.hid (depth_q hlr)
  have hdr := dp_le r
  have hdl := dp_le (.nd ll lk lr)
  have hdll := dp_le ll; have hdlr := dp_le lr
  have hsz : sz (.nd ll lk lr) = 1 + sz ll + sz lr := rfl
  have hg1 : sz lr + sz r < 1000000000 := by omega
  have hg2 : sz ll + sz (.nd lr k r) < 1000000000 := by simp only [sz] at hs ⊢; omega
  have hdI : ((dp r : Nat) : Int) + 1 < ((dp (.nd ll lk lr) : Nat) : Int) := by omega
  have HRO := Lib.hid (fun (h : dp ll < dp lr) => show ∃ m1 mk m2, lr = .nd m1 mk m2 from dp_pos (by omega))
  obtain ⟨x0, x1, x2, x3, x4, x5⟩ := hN.cells
  have xs := hN.lt
  clear hl hr hN hll hlr hsz
  by_cases hrot : dp lr ≤ dp ll
  · have hrI : ((dp lr : Nat) : Int) ≤ ((dp ll : Nat) : Int) := by omega
    go_wp2_with fail
    refine (depth_t HL.out).mono ?_
    rintro e w1 ⟨rfl, rfl⟩
    go_wp2_with fail
    refine (depth_t HR.out).mono ?_
    rintro e w1 ⟨rfl, rfl⟩
    go_wp2_with fail
    go_wp2
    refine wp_region_pure (by kernel_rfl) (by kernel_rfl) ?_
    repeat (first | go_big_quiet_step (((go_at_call 126; with_reducible first | exact HQ1.out _ | exact HQ2.out _))) | (quiet_step (((go_at_call 126; with_reducible first | exact HQ1.out _ | exact HQ2.out _)))))
    refine wpQuiet_nil ?_
    rintro w2 ⟨x2, hx2⟩
    have hb2 := ext_below _ x2
    rw [← hx2] at hb2
    clear hx2 x2
    have hs2 : w.heap.size + 0 ≤ w2.heap.size := (by have h := hb2.size; first | omega | (simp at h; omega))
    obtain ⟨hc2, hf2, hl2⟩ := bcell hb2
    clear hl2
    have HB2 := Lib.hid hb2
    have HN2 := Lib.hid (HN.out.below hb2)
    clear hb2 hc2 hf2 x0 x1 x2 x3 x4 x5 xs
    obtain ⟨x0, x1, x2, x3, x4, x5⟩ := HN2.out.cells
    have xs := HN2.out.lt
    have nf : ∀ q, ¬ (fun _ : Nat => False) q := fun _ h => h
    clear k0 k1 k2 k3 ks
    obtain ⟨k0, k1, k2, k3⟩ := (HKK.out.below HB2.out).cells
    have ks := (HKK.out.below HB2.out).lt
    go_wp2
    refine Mix.regionC (fun _ => False) (by kernel_rfl) ?_
    intro w3 hb3
    refine Mix.take_exC _ _ 0 rfl (by kernel_rfl) (by kernel_rfl) (by kernel_rfl) (by kernel_rfl) (fun K hK => ?_)
    go_simp
    first | (refine hK _ ?_; clear hK K) | (apply Exists.intro; refine ⟨fun x => ?_, hK _ ?_⟩; (fail); clear hK K)
    refine Mix.take_exC _ _ 1 rfl (by kernel_rfl) (by kernel_rfl) (by kernel_rfl) (by kernel_rfl) (fun K hK => ?_)
    go_simp
    first | (refine hK _ ?_; clear hK K) | (apply Exists.intro; refine ⟨fun x => ?_, hK _ ?_⟩; (fail); clear hK K)
    refine Mix.take_exC _ _ 2 rfl (by kernel_rfl) (by kernel_rfl) (by kernel_rfl) (by kernel_rfl) (fun K hK => ?_)
    go_simp
    first | (refine hK _ ?_; clear hK K) | (apply Exists.intro; refine ⟨fun x => ?_, hK _ ?_⟩; (fail); clear hK K)
    refine Mix.take_exC _ _ 3 rfl (by kernel_rfl) (by kernel_rfl) (by kernel_rfl) (by kernel_rfl) (fun K hK => ?_)
    go_simp
    first | (refine hK _ ?_; clear hK K) | (apply Exists.intro; refine ⟨fun x => ?_, hK _ ?_⟩; (fail); clear hK K)
    refine Mix.take_exC _ _ 4 rfl (by kernel_rfl) (by kernel_rfl) (by kernel_rfl) (by kernel_rfl) (fun K hK => ?_)
    go_simp
    first | (refine hK _ ?_; clear hK K) | (apply Exists.intro; refine ⟨fun x => ?_, hK _ ?_⟩; (fail); clear hK K)
    refine Mix.take_exC _ _ 5 rfl (by kernel_rfl) (by kernel_rfl) (by kernel_rfl) (by kernel_rfl) (fun K hK => ?_)
    go_simp
    first | (refine hK _ ?_; clear hK K) | (apply Exists.intro; refine ⟨fun x => ?_, hK _ ?_⟩; (fail); clear hK K)
    refine Mix.take_exC _ _ 6 rfl (by kernel_rfl) (by kernel_rfl) (by kernel_rfl) (by kernel_rfl) (fun K hK => ?_)
    go_simp
    first | (refine hK _ ?_; clear hK K) | (apply Exists.intro; refine ⟨fun x => ?_, hK _ ?_⟩; (fail); clear hK K)
    refine Mix.take_exC _ _ 7 rfl (by kernel_rfl) (by kernel_rfl) (by kernel_rfl) (by kernel_rfl) (fun K hK => ?_)
    go_simp
    first | (refine hK _ ?_; clear hK K) | (apply Exists.intro; refine ⟨fun x => ?_, hK _ ?_⟩; (fail); clear hK K)
    refine Mix.take_exC _ _ 8 rfl (by kernel_rfl) (by kernel_rfl) (by kernel_rfl) (by kernel_rfl) (fun K hK => ?_)
    go_simp
    first | (refine hK _ ?_; clear hK K) | (apply Exists.intro; refine ⟨fun x => ?_, hK _ ?_⟩; (fail); clear hK K)
    refine Mix.take_exC _ _ 9 rfl (by kernel_rfl) (by kernel_rfl) (by kernel_rfl) (by kernel_rfl) (fun K hK => ?_)
    go_simp
    first | (refine hK _ ?_; clear hK K) | (apply Exists.intro; refine ⟨fun x => ?_, hK _ ?_⟩; (fail); clear hK K)
    refine Mix.take_exC _ _ 10 rfl (by kernel_rfl) (by kernel_rfl) (by kernel_rfl) (by kernel_rfl) (fun K hK => ?_)
    go_simp
    first | (refine hK _ ?_; clear hK K) | (apply Exists.intro; refine ⟨fun x => ?_, hK _ ?_⟩; (fail); clear hK K)
    refine Mix.take_exC _ _ 11 rfl (by kernel_rfl) (by kernel_rfl) (by kernel_rfl) (by kernel_rfl) (fun K hK => ?_)
    go_simp
    first | (refine hK _ ?_; clear hK K) | (apply Exists.intro; refine ⟨fun x => ?_, hK _ ?_⟩; (fail); clear hK K)
    refine Mix.take_exC _ _ 12 rfl (by kernel_rfl) (by kernel_rfl) (by kernel_rfl) (by kernel_rfl) (fun K hK => ?_)
    go_simp
    first | (refine hK _ ?_; clear hK K) | (apply Exists.intro; refine ⟨fun x => ?_, hK _ ?_⟩; (fail); clear hK K)
    refine Mix.take_exC _ _ 13 rfl (by kernel_rfl) (by kernel_rfl) (by kernel_rfl) (by kernel_rfl) (fun K hK => ?_)
    go_simp
    first | (refine hK _ ?_; clear hK K) | (apply Exists.intro; refine ⟨fun x => ?_, hK _ ?_⟩; (fail); clear hK K)
    have HB3 := Lib.hid (bt HB2.out hb3)
    refine Mix.all (rs := [14]) (by kernel_rfl) (by simp) (.of_below _ hb3) ?_
    intro i4 hi4 w4 hb4 hC4
    simp only [List.mem_cons, List.not_mem_nil, or_false] at hi4
    subst hi4
    have HB4 := Lib.hid (bt hb3 hb4)
    have HX4 := Lib.hid (bt HB2.out HB4.out)
    clear hC4 hb4 hb3
    refine Mix.op rfl (by kernel_rfl) ?_
    go_simp
    refine (join_t (HLR.out.below HX4.out) (HR.out.below HX4.out) k hg1).mono ?_
    rintro e w5 ⟨v5, _, rfl, h5, rfl, hb5⟩
    refine ⟨_, rfl, ?_⟩
    obtain ⟨p5, rfl⟩ := h5.ptr
    have HT5 := Lib.hid h5
    have HB5 := Lib.hid (bt HB4.out hb5)
    clear h5 hb5
    refine Mix.all (rs := [15]) (by kernel_rfl) (by simp) (.of_below _ HB5.out) ?_
    intro i6 hi6 w6 hb6 hC6
    simp only [List.mem_cons, List.not_mem_nil, or_false] at hi6
    subst hi6
    have HB6 := Lib.hid (bt HB5.out hb6)
    have HT6 := Lib.hid (HT5.out.below hb6)
    have HX6 := Lib.hid (bt HB2.out HB6.out)
    clear hC6 hb6
    refine Mix.op rfl (by kernel_rfl) ?_
    go_simp
    refine (join_t (HLL.out.below HX6.out) HT6.out lk hg2).mono ?_
    rintro e w7 ⟨v7, _, rfl, h7, rfl, hb7⟩
    refine ⟨_, rfl, ?_⟩
    obtain ⟨p7, rfl⟩ := h7.ptr
    have HT7 := Lib.hid h7
    have HB7 := Lib.hid (bt HB6.out hb7)
    clear h7 hb7
    refine Mix.take_exC _ _ 16 rfl (by kernel_rfl) (by kernel_rfl) (by kernel_rfl) (by kernel_rfl) (fun K hK => ?_)
    go_simp
    first | (refine hK _ ?_; clear hK K) | (apply Exists.intro; refine ⟨fun x => ?_, hK _ ?_⟩; (fail); clear hK K)
    refine Mix.done (by kernel_rfl) (.of_below _ HB7.out) ?_
    intro w8 hb8
    have HT8 := Lib.hid (HT7.out.below hb8)
    have HX8 := Lib.hid (bt HB2.out (bt HB7.out hb8))
    clear hb8 x0 x1 x2 x3 x4 x5 xs nf
    go_wp2
    go_ret
    exact ⟨_, _, rfl, HT8.out, by simp [tl], bt HB0.out HX8.out⟩
  · have hrI : ((dp ll : Nat) : Int) < ((dp lr : Nat) : Int) := by omega
    obtain ⟨m1, mk, m2, rfl⟩ := HRO.out (by omega)
    obtain ⟨b', q1, q2, hq, hM, hm1, hm2⟩ := HLR.out.node
    cases hq
    have HM := Lib.hid hM; have HM1 := Lib.hid hm1; have HM2 := Lib.hid hm2
    have hg3 : sz ll + sz m1 < 1000000000 := by simp only [sz] at hs; omega
    have hg4 : sz m2 + sz r < 1000000000 := by simp only [sz] at hs; omega
    have hg5 : sz (.nd ll lk m1) + sz (.nd m2 k r) < 1000000000 := by simp only [sz] at hs ⊢; omega
    clear hM hm1 hm2 HRO
    go_wp2_with fail
    refine (depth_t HL.out).mono ?_
    rintro e w1 ⟨rfl, rfl⟩
    go_wp2_with fail
    refine (depth_t HR.out).mono ?_
    rintro e w1 ⟨rfl, rfl⟩
    go_wp2_with fail
    go_wp2
    refine wp_region_pure (by kernel_rfl) (by kernel_rfl) ?_
    repeat (first | go_big_quiet_step (((go_at_call 126; with_reducible first | exact HQ1.out _ | exact HQ2.out _))) | (quiet_step (((go_at_call 126; with_reducible first | exact HQ1.out _ | exact HQ2.out _)))))
    refine wpQuiet_nil ?_
    rintro w2 ⟨x2, hx2⟩
    have hb2 := ext_below _ x2
    rw [← hx2] at hb2
    clear hx2 x2
    have hs2 : w.heap.size + 0 ≤ w2.heap.size := (by have h := hb2.size; first | omega | (simp at h; omega))
    obtain ⟨hc2, hf2, hl2⟩ := bcell hb2
    clear hl2
    have HB2 := Lib.hid hb2
    have HN2 := Lib.hid (HN.out.below hb2)
    clear hb2 hc2 hf2 x0 x1 x2 x3 x4 x5 xs
    obtain ⟨x0, x1, x2, x3, x4, x5⟩ := HN2.out.cells
    have xs := HN2.out.lt
    have nf : ∀ q, ¬ (fun _ : Nat => False) q := fun _ h => h
    clear k0 k1 k2 k3 ks
    obtain ⟨k0, k1, k2, k3⟩ := (HKK.out.below HB2.out).cells
    have ks := (HKK.out.below HB2.out).lt
    go_wp2
    have HM2' := Lib.hid (HM.out.below HB2.out)
    obtain ⟨y0, y1, y2, y3, y4, y5⟩ := HM2'.out.cells
    have ys := HM2'.out.lt
    refine Mix.regionC (fun _ => False) (by kernel_rfl) ?_
    intro w3 hb3
    refine Mix.take_exC _ _ 0 rfl (by kernel_rfl) (by kernel_rfl) (by kernel_rfl) (by kernel_rfl) (fun K hK => ?_)
    go_simp
    first | (refine hK _ ?_; clear hK K) | (apply Exists.intro; refine ⟨fun x => ?_, hK _ ?_⟩; (fail); clear hK K)
    refine Mix.take_exC _ _ 1 rfl (by kernel_rfl) (by kernel_rfl) (by kernel_rfl) (by kernel_rfl) (fun K hK => ?_)
    go_simp
    first | (refine hK _ ?_; clear hK K) | (apply Exists.intro; refine ⟨fun x => ?_, hK _ ?_⟩; (fail); clear hK K)
    refine Mix.take_exC _ _ 2 rfl (by kernel_rfl) (by kernel_rfl) (by kernel_rfl) (by kernel_rfl) (fun K hK => ?_)
    go_simp
    first | (refine hK _ ?_; clear hK K) | (apply Exists.intro; refine ⟨fun x => ?_, hK _ ?_⟩; (fail); clear hK K)
    refine Mix.take_exC _ _ 3 rfl (by kernel_rfl) (by kernel_rfl) (by kernel_rfl) (by kernel_rfl) (fun K hK => ?_)
    go_simp
    first | (refine hK _ ?_; clear hK K) | (apply Exists.intro; refine ⟨fun x => ?_, hK _ ?_⟩; (fail); clear hK K)
    refine Mix.take_exC _ _ 4 rfl (by kernel_rfl) (by kernel_rfl) (by kernel_rfl) (by kernel_rfl) (fun K hK => ?_)
    go_simp
    first | (refine hK _ ?_; clear hK K) | (apply Exists.intro; refine ⟨fun x => ?_, hK _ ?_⟩; (fail); clear hK K)
    refine Mix.take_exC _ _ 5 rfl (by kernel_rfl) (by kernel_rfl) (by kernel_rfl) (by kernel_rfl) (fun K hK => ?_)
    go_simp
    first | (refine hK _ ?_; clear hK K) | (apply Exists.intro; refine ⟨fun x => ?_, hK _ ?_⟩; (fail); clear hK K)
    refine Mix.take_exC _ _ 6 rfl (by kernel_rfl) (by kernel_rfl) (by kernel_rfl) (by kernel_rfl) (fun K hK => ?_)
    go_simp
    first | (refine hK _ ?_; clear hK K) | (apply Exists.intro; refine ⟨fun x => ?_, hK _ ?_⟩; (fail); clear hK K)
    refine Mix.take_exC _ _ 7 rfl (by kernel_rfl) (by kernel_rfl) (by kernel_rfl) (by kernel_rfl) (fun K hK => ?_)
    go_simp
    first | (refine hK _ ?_; clear hK K) | (apply Exists.intro; refine ⟨fun x => ?_, hK _ ?_⟩; (fail); clear hK K)
    refine Mix.take_exC _ _ 8 rfl (by kernel_rfl) (by kernel_rfl) (by kernel_rfl) (by kernel_rfl) (fun K hK => ?_)
    go_simp
    first | (refine hK _ ?_; clear hK K) | (apply Exists.intro; refine ⟨fun x => ?_, hK _ ?_⟩; (fail); clear hK K)
    refine Mix.take_exC _ _ 9 rfl (by kernel_rfl) (by kernel_rfl) (by kernel_rfl) (by kernel_rfl) (fun K hK => ?_)
    go_simp
    first | (refine hK _ ?_; clear hK K) | (apply Exists.intro; refine ⟨fun x => ?_, hK _ ?_⟩; (fail); clear hK K)
    refine Mix.take_exC _ _ 10 rfl (by kernel_rfl) (by kernel_rfl) (by kernel_rfl) (by kernel_rfl) (fun K hK => ?_)
    go_simp
    first | (refine hK _ ?_; clear hK K) | (apply Exists.intro; refine ⟨fun x => ?_, hK _ ?_⟩; (fail); clear hK K)
    refine Mix.take_exC _ _ 11 rfl (by kernel_rfl) (by kernel_rfl) (by kernel_rfl) (by kernel_rfl) (fun K hK => ?_)
    go_simp
    first | (refine hK _ ?_; clear hK K) | (apply Exists.intro; refine ⟨fun x => ?_, hK _ ?_⟩; (fail); clear hK K)
    refine Mix.take_exC _ _ 13 rfl (by kernel_rfl) (by kernel_rfl) (by kernel_rfl) (by kernel_rfl) (fun K hK => ?_)
    go_simp
    first | (refine hK _ ?_; clear hK K) | (apply Exists.intro; refine ⟨fun x => ?_, hK _ ?_⟩; (fail); clear hK K)
    refine Mix.take_exC _ _ 14 rfl (by kernel_rfl) (by kernel_rfl) (by kernel_rfl) (by kernel_rfl) (fun K hK => ?_)
    go_simp
    first | (refine hK _ ?_; clear hK K) | (apply Exists.intro; refine ⟨fun x => ?_, hK _ ?_⟩; (fail); clear hK K)
    refine Mix.take_exC _ _ 15 rfl (by kernel_rfl) (by kernel_rfl) (by kernel_rfl) (by kernel_rfl) (fun K hK => ?_)
    go_simp
    first | (refine hK _ ?_; clear hK K) | (apply Exists.intro; refine ⟨fun x => ?_, hK _ ?_⟩; (fail); clear hK K)
    refine Mix.take_exC _ _ 16 rfl (by kernel_rfl) (by kernel_rfl) (by kernel_rfl) (by kernel_rfl) (fun K hK => ?_)
    go_simp
    first | (refine hK _ ?_; clear hK K) | (apply Exists.intro; refine ⟨fun x => ?_, hK _ ?_⟩; (fail); clear hK K)
    refine Mix.take_exC _ _ 17 rfl (by kernel_rfl) (by kernel_rfl) (by kernel_rfl) (by kernel_rfl) (fun K hK => ?_)
    go_simp
    first | (refine hK _ ?_; clear hK K) | (apply Exists.intro; refine ⟨fun x => ?_, hK _ ?_⟩; (fail); clear hK K)
    refine Mix.take_exC _ _ 18 rfl (by kernel_rfl) (by kernel_rfl) (by kernel_rfl) (by kernel_rfl) (fun K hK => ?_)
    go_simp
    first | (refine hK _ ?_; clear hK K) | (apply Exists.intro; refine ⟨fun x => ?_, hK _ ?_⟩; (fail); clear hK K)
    refine Mix.take_exC _ _ 19 rfl (by kernel_rfl) (by kernel_rfl) (by kernel_rfl) (by kernel_rfl) (fun K hK => ?_)
    go_simp
    first | (refine hK _ ?_; clear hK K) | (apply Exists.intro; refine ⟨fun x => ?_, hK _ ?_⟩; (fail); clear hK K)
    refine Mix.take_exC _ _ 20 rfl (by kernel_rfl) (by kernel_rfl) (by kernel_rfl) (by kernel_rfl) (fun K hK => ?_)
    go_simp
    first | (refine hK _ ?_; clear hK K) | (apply Exists.intro; refine ⟨fun x => ?_, hK _ ?_⟩; (fail); clear hK K)
    refine Mix.take_exC _ _ 21 rfl (by kernel_rfl) (by kernel_rfl) (by kernel_rfl) (by kernel_rfl) (fun K hK => ?_)
    go_simp
    first | (refine hK _ ?_; clear hK K) | (apply Exists.intro; refine ⟨fun x => ?_, hK _ ?_⟩; (fail); clear hK K)
    refine Mix.take_exC _ _ 22 rfl (by kernel_rfl) (by kernel_rfl) (by kernel_rfl) (by kernel_rfl) (fun K hK => ?_)
    go_simp
    first | (refine hK _ ?_; clear hK K) | (apply Exists.intro; refine ⟨fun x => ?_, hK _ ?_⟩; (fail); clear hK K)
    refine Mix.all (rs := [12]) (by kernel_rfl) (by simp) (.of_below _ hb3) ?_
    intro i4 hi4 w4 hb4 hC4
    simp only [List.mem_cons, List.not_mem_nil, or_false] at hi4
    subst hi4
    have HB4 := Lib.hid (bt hb3 hb4)
    have HX4 := Lib.hid (bt HB2.out HB4.out)
    clear hC4 hb4 hb3
    refine Mix.op rfl (by kernel_rfl) ?_
    go_simp
    refine (join_t (HLL.out.below HX4.out) (HM1.out.below HX4.out) lk hg3).mono ?_
    rintro e w5 ⟨v5, _, rfl, h5, rfl, hb5⟩
    refine ⟨_, rfl, ?_⟩
    obtain ⟨p5, rfl⟩ := h5.ptr
    have HT5 := Lib.hid h5
    have HB5 := Lib.hid (bt HB4.out hb5)
    clear h5 hb5
    refine Mix.all (rs := [23]) (by kernel_rfl) (by simp) (.of_below _ HB5.out) ?_
    intro i6 hi6 w6 hb6 hC6
    simp only [List.mem_cons, List.not_mem_nil, or_false] at hi6
    subst hi6
    have HB6 := Lib.hid (bt HB5.out hb6)
    have HT6 := Lib.hid (HT5.out.below hb6)
    have HX6 := Lib.hid (bt HB2.out HB6.out)
    clear hC6 hb6
    refine Mix.op rfl (by kernel_rfl) ?_
    go_simp
    refine (join_t (HM2.out.below HX6.out) (HR.out.below HX6.out) k hg4).mono ?_
    rintro e w7 ⟨v7, _, rfl, h7, rfl, hb7⟩
    refine ⟨_, rfl, ?_⟩
    obtain ⟨p7, rfl⟩ := h7.ptr
    have HT7 := Lib.hid h7
    have HU7 := Lib.hid (HT6.out.below hb7)
    have HB7 := Lib.hid (bt HB6.out hb7)
    clear h7 hb7
    refine Mix.all (rs := [24]) (by kernel_rfl) (by simp) (.of_below _ HB7.out) ?_
    intro i8 hi8 w8 hb8 hC8
    simp only [List.mem_cons, List.not_mem_nil, or_false] at hi8
    subst hi8
    have HB8 := Lib.hid (bt HB7.out hb8)
    have HT8 := Lib.hid (HT7.out.below hb8)
    have HU8 := Lib.hid (HU7.out.below hb8)
    clear hC8 hb8
    refine Mix.op rfl (by kernel_rfl) ?_
    go_simp
    refine (join_t HU8.out HT8.out mk hg5).mono ?_
    rintro e w9 ⟨v9, _, rfl, h9, rfl, hb9⟩
    refine ⟨_, rfl, ?_⟩
    obtain ⟨p9, rfl⟩ := h9.ptr
    have HT9 := Lib.hid h9
    have HB9 := Lib.hid (bt HB8.out hb9)
    clear h9 hb9
    refine Mix.take_exC _ _ 25 rfl (by kernel_rfl) (by kernel_rfl) (by kernel_rfl) (by kernel_rfl) (fun K hK => ?_)
    go_simp
    first | (refine hK _ ?_; clear hK K) | (apply Exists.intro; refine ⟨fun x => ?_, hK _ ?_⟩; (fail); clear hK K)
    refine Mix.done (by kernel_rfl) (.of_below _ HB9.out) ?_
    intro w10 hb10
    have HT10 := Lib.hid (HT9.out.below hb10)
    have HX10 := Lib.hid (bt HB2.out (bt HB9.out hb10))
    clear hb10 x0 x1 x2 x3 x4 x5 xs nf y0 y1 y2 y3 y4 y5 ys
    go_wp2
    go_ret
    exact ⟨_, _, rfl, HT10.out, by simp [tl], bt HB0.out HX10.out⟩
set_option maxRecDepth 100000 in
set_option maxHeartbeats 2000000 in
theorem balance_r {w0 : World} {lv rv : Value} {l r : Tr} (hl0 : Tn w0 lv l) (hr0 : Tn w0 rv r) (k : Pl) (hs : sz l + sz r < 500000000) (hd : dp l + 1 < dp r) : Calls Tryz.prog 120 #[lv, plv k, rv] w0 (RetT (fun t => tl t = tl l ++ k :: tl r) w0) := by
  have hb0 := ba (Below.refl w0.heap.size w0) (.cells #[.int .i64 k.n, .int .i64 k.d, .int .i64 k.w, .int .i64 k.i] 103)
  have hkk := PK.made w0 k
  have HB0 := Lib.hid hb0
  have hl := hl0.below hb0; have hr := hr0.below hb0
  clear hl0 hr0 hb0
  go_enter Tryz.func120, Tryz.ntmps120
  go_upto_region 1 with (fail)
  generalize w0.alloc (.cells #[.int .i64 k.n, .int .i64 k.d, .int .i64 k.w, .int .i64 k.i] 103) = w at *
  obtain ⟨kb, hkb⟩ : ∃ b, b = w0.heap.size := ⟨_, rfl⟩
  rw [← hkb] at hkk ⊢
  clear hkb
  have HKK := Lib.hid hkk
  obtain ⟨k0, k1, k2, k3⟩ := hkk.cells
  have ks := hkk.lt
  clear hkk
  obtain ⟨ll, lk, lr, rfl⟩ := dp_pos (show 0 < dp r by omega)
  obtain ⟨b, pl, pr, rfl, hN, hll, hlr⟩ := hr.node
  obtain ⟨pw, rfl⟩ := hl.ptr
  have HL := Lib.hid hl; have HR := Lib.hid hr; have HN := Lib.hid hN; have HLL := Lib.hid hll; have HLR := Lib.hid hlr
  have HQ1 := Lib.hid (depth_q hll); have HQ2 := Lib.hid (depth_q hlr)
  have hdr := dp_le l
  have hdl := dp_le (.nd ll lk lr)
  have hdll := dp_le ll; have hdlr := dp_le lr
  have hsz : sz (.nd ll lk lr) = 1 + sz ll + sz lr := rfl
  have hg1 : sz l + sz ll < 1000000000 := by omega
  have hg2 : sz (.nd l k ll) + sz lr < 1000000000 := by simp only [sz] at hs ⊢; omega
  have hdI : ((dp l : Nat) : Int) + 1 < ((dp (.nd ll lk lr) : Nat) : Int) := by omega
  have hdN : ((dp l : Nat) : Int) ≤ ((dp (.nd ll lk lr) : Nat) : Int) + 1 := by omega
  have HRO := Lib.hid (fun (h : dp lr < dp ll) => show ∃ m1 mk m2, ll = .nd m1 mk m2 from dp_pos (by omega))
  obtain ⟨x0, x1, x2, x3, x4, x5⟩ := hN.cells
  have xs := hN.lt
  clear hl hr hN hll hlr hsz
  by_cases hrot : dp ll ≤ dp lr
  · have hrI : ((dp ll : Nat) : Int) ≤ ((dp lr : Nat) : Int) := by omega
    go_wp2_with fail
    refine (depth_t HL.out).mono ?_
    rintro e w1 ⟨rfl, rfl⟩
    go_wp2_with fail
    refine (depth_t HR.out).mono ?_
    rintro e w1 ⟨rfl, rfl⟩
    go_wp2_with fail
    refine (depth_t HR.out).mono ?_
    rintro e w1 ⟨rfl, rfl⟩
    go_wp2_with fail
    refine (depth_t HL.out).mono ?_
    rintro e w1 ⟨rfl, rfl⟩
    go_wp2
    refine wp_region_pure (by kernel_rfl) (by kernel_rfl) ?_
    repeat (first | go_big_quiet_step (((go_at_call 126; with_reducible first | exact HQ1.out _ | exact HQ2.out _))) | (quiet_step (((go_at_call 126; with_reducible first | exact HQ1.out _ | exact HQ2.out _)))))
    refine wpQuiet_nil ?_
    rintro w2 ⟨x2, hx2⟩
    have hb2 := ext_below _ x2
    rw [← hx2] at hb2
    clear hx2 x2
    have hs2 : w.heap.size + 0 ≤ w2.heap.size := (by have h := hb2.size; first | omega | (simp at h; omega))
    obtain ⟨hc2, hf2, hl2⟩ := bcell hb2
    clear hl2
    have HB2 := Lib.hid hb2
    have HN2 := Lib.hid (HN.out.below hb2)
    clear hb2 hc2 hf2 x0 x1 x2 x3 x4 x5 xs
    obtain ⟨x0, x1, x2, x3, x4, x5⟩ := HN2.out.cells
    have xs := HN2.out.lt
    have nf : ∀ q, ¬ (fun _ : Nat => False) q := fun _ h => h
    clear k0 k1 k2 k3 ks
    obtain ⟨k0, k1, k2, k3⟩ := (HKK.out.below HB2.out).cells
    have ks := (HKK.out.below HB2.out).lt
    go_wp2
    refine Mix.regionC (fun _ => False) (by kernel_rfl) ?_
    intro w3 hb3
    refine Mix.take_exC _ _ 0 rfl (by kernel_rfl) (by kernel_rfl) (by kernel_rfl) (by kernel_rfl) (fun K hK => ?_)
    go_simp
    first | (refine hK _ ?_; clear hK K) | (apply Exists.intro; refine ⟨fun x => ?_, hK _ ?_⟩; (fail); clear hK K)
    refine Mix.take_exC _ _ 1 rfl (by kernel_rfl) (by kernel_rfl) (by kernel_rfl) (by kernel_rfl) (fun K hK => ?_)
    go_simp
    first | (refine hK _ ?_; clear hK K) | (apply Exists.intro; refine ⟨fun x => ?_, hK _ ?_⟩; (fail); clear hK K)
    refine Mix.take_exC _ _ 2 rfl (by kernel_rfl) (by kernel_rfl) (by kernel_rfl) (by kernel_rfl) (fun K hK => ?_)
    go_simp
    first | (refine hK _ ?_; clear hK K) | (apply Exists.intro; refine ⟨fun x => ?_, hK _ ?_⟩; (fail); clear hK K)
    refine Mix.take_exC _ _ 3 rfl (by kernel_rfl) (by kernel_rfl) (by kernel_rfl) (by kernel_rfl) (fun K hK => ?_)
    go_simp
    first | (refine hK _ ?_; clear hK K) | (apply Exists.intro; refine ⟨fun x => ?_, hK _ ?_⟩; (fail); clear hK K)
    refine Mix.take_exC _ _ 4 rfl (by kernel_rfl) (by kernel_rfl) (by kernel_rfl) (by kernel_rfl) (fun K hK => ?_)
    go_simp
    first | (refine hK _ ?_; clear hK K) | (apply Exists.intro; refine ⟨fun x => ?_, hK _ ?_⟩; (fail); clear hK K)
    refine Mix.take_exC _ _ 5 rfl (by kernel_rfl) (by kernel_rfl) (by kernel_rfl) (by kernel_rfl) (fun K hK => ?_)
    go_simp
    first | (refine hK _ ?_; clear hK K) | (apply Exists.intro; refine ⟨fun x => ?_, hK _ ?_⟩; (fail); clear hK K)
    refine Mix.take_exC _ _ 7 rfl (by kernel_rfl) (by kernel_rfl) (by kernel_rfl) (by kernel_rfl) (fun K hK => ?_)
    go_simp
    first | (refine hK _ ?_; clear hK K) | (apply Exists.intro; refine ⟨fun x => ?_, hK _ ?_⟩; (fail); clear hK K)
    refine Mix.take_exC _ _ 8 rfl (by kernel_rfl) (by kernel_rfl) (by kernel_rfl) (by kernel_rfl) (fun K hK => ?_)
    go_simp
    first | (refine hK _ ?_; clear hK K) | (apply Exists.intro; refine ⟨fun x => ?_, hK _ ?_⟩; (fail); clear hK K)
    refine Mix.take_exC _ _ 9 rfl (by kernel_rfl) (by kernel_rfl) (by kernel_rfl) (by kernel_rfl) (fun K hK => ?_)
    go_simp
    first | (refine hK _ ?_; clear hK K) | (apply Exists.intro; refine ⟨fun x => ?_, hK _ ?_⟩; (fail); clear hK K)
    refine Mix.take_exC _ _ 10 rfl (by kernel_rfl) (by kernel_rfl) (by kernel_rfl) (by kernel_rfl) (fun K hK => ?_)
    go_simp
    first | (refine hK _ ?_; clear hK K) | (apply Exists.intro; refine ⟨fun x => ?_, hK _ ?_⟩; (fail); clear hK K)
    refine Mix.take_exC _ _ 11 rfl (by kernel_rfl) (by kernel_rfl) (by kernel_rfl) (by kernel_rfl) (fun K hK => ?_)
    go_simp
    first | (refine hK _ ?_; clear hK K) | (apply Exists.intro; refine ⟨fun x => ?_, hK _ ?_⟩; (fail); clear hK K)
    refine Mix.take_exC _ _ 12 rfl (by kernel_rfl) (by kernel_rfl) (by kernel_rfl) (by kernel_rfl) (fun K hK => ?_)
    go_simp
    first | (refine hK _ ?_; clear hK K) | (apply Exists.intro; refine ⟨fun x => ?_, hK _ ?_⟩; (fail); clear hK K)
    refine Mix.take_exC _ _ 13 rfl (by kernel_rfl) (by kernel_rfl) (by kernel_rfl) (by kernel_rfl) (fun K hK => ?_)
    go_simp
    first | (refine hK _ ?_; clear hK K) | (apply Exists.intro; refine ⟨fun x => ?_, hK _ ?_⟩; (fail); clear hK K)
    refine Mix.take_exC _ _ 14 rfl (by kernel_rfl) (by kernel_rfl) (by kernel_rfl) (by kernel_rfl) (fun K hK => ?_)
    go_simp
    first | (refine hK _ ?_; clear hK K) | (apply Exists.intro; refine ⟨fun x => ?_, hK _ ?_⟩; (fail); clear hK K)
    have HB3 := Lib.hid (bt HB2.out hb3)
    refine Mix.all (rs := [6]) (by kernel_rfl) (by simp) (.of_below _ hb3) ?_
    intro i4 hi4 w4 hb4 hC4
    simp only [List.mem_cons, List.not_mem_nil, or_false] at hi4
    subst hi4
    have HB4 := Lib.hid (bt hb3 hb4)
    have HX4 := Lib.hid (bt HB2.out HB4.out)
    clear hC4 hb4 hb3
    refine Mix.op rfl (by kernel_rfl) ?_
    go_simp
    refine (join_t (HL.out.below HX4.out) (HLL.out.below HX4.out) k hg1).mono ?_
    rintro e w5 ⟨v5, _, rfl, h5, rfl, hb5⟩
    refine ⟨_, rfl, ?_⟩
    obtain ⟨p5, rfl⟩ := h5.ptr
    have HT5 := Lib.hid h5
    have HB5 := Lib.hid (bt HB4.out hb5)
    clear h5 hb5
    refine Mix.all (rs := [15]) (by kernel_rfl) (by simp) (.of_below _ HB5.out) ?_
    intro i6 hi6 w6 hb6 hC6
    simp only [List.mem_cons, List.not_mem_nil, or_false] at hi6
    subst hi6
    have HB6 := Lib.hid (bt HB5.out hb6)
    have HT6 := Lib.hid (HT5.out.below hb6)
    have HX6 := Lib.hid (bt HB2.out HB6.out)
    clear hC6 hb6
    refine Mix.op rfl (by kernel_rfl) ?_
    go_simp
    refine (join_t HT6.out (HLR.out.below HX6.out) lk hg2).mono ?_
    rintro e w7 ⟨v7, _, rfl, h7, rfl, hb7⟩
    refine ⟨_, rfl, ?_⟩
    obtain ⟨p7, rfl⟩ := h7.ptr
    have HT7 := Lib.hid h7
    have HB7 := Lib.hid (bt HB6.out hb7)
    clear h7 hb7
    refine Mix.take_exC _ _ 16 rfl (by kernel_rfl) (by kernel_rfl) (by kernel_rfl) (by kernel_rfl) (fun K hK => ?_)
    go_simp
    first | (refine hK _ ?_; clear hK K) | (apply Exists.intro; refine ⟨fun x => ?_, hK _ ?_⟩; (fail); clear hK K)
    refine Mix.done (by kernel_rfl) (.of_below _ HB7.out) ?_
    intro w8 hb8
    have HT8 := Lib.hid (HT7.out.below hb8)
    have HX8 := Lib.hid (bt HB2.out (bt HB7.out hb8))
    clear hb8 x0 x1 x2 x3 x4 x5 xs nf
    go_wp2
    go_ret
    exact ⟨_, _, rfl, HT8.out, by simp [tl], bt HB0.out HX8.out⟩
  · have hrI : ((dp lr : Nat) : Int) < ((dp ll : Nat) : Int) := by omega
    obtain ⟨m1, mk, m2, rfl⟩ := HRO.out (by omega)
    obtain ⟨b', q1, q2, hq, hM, hm1, hm2⟩ := HLL.out.node
    cases hq
    have HM := Lib.hid hM; have HM1 := Lib.hid hm1; have HM2 := Lib.hid hm2
    have hg3 : sz l + sz m1 < 1000000000 := by simp only [sz] at hs; omega
    have hg4 : sz m2 + sz lr < 1000000000 := by simp only [sz] at hs; omega
    have hg5 : sz (.nd l k m1) + sz (.nd m2 lk lr) < 1000000000 := by simp only [sz] at hs ⊢; omega
    clear hM hm1 hm2 HRO
    go_wp2_with fail
    refine (depth_t HL.out).mono ?_
    rintro e w1 ⟨rfl, rfl⟩
    go_wp2_with fail
    refine (depth_t HR.out).mono ?_
    rintro e w1 ⟨rfl, rfl⟩
    go_wp2_with fail
    refine (depth_t HR.out).mono ?_
    rintro e w1 ⟨rfl, rfl⟩
    go_wp2_with fail
    refine (depth_t HL.out).mono ?_
    rintro e w1 ⟨rfl, rfl⟩
    go_wp2
    refine wp_region_pure (by kernel_rfl) (by kernel_rfl) ?_
    repeat (first | go_big_quiet_step (((go_at_call 126; with_reducible first | exact HQ1.out _ | exact HQ2.out _))) | (quiet_step (((go_at_call 126; with_reducible first | exact HQ1.out _ | exact HQ2.out _)))))
    refine wpQuiet_nil ?_
    rintro w2 ⟨x2, hx2⟩
    have hb2 := ext_below _ x2
    rw [← hx2] at hb2
    clear hx2 x2
    have hs2 : w.heap.size + 0 ≤ w2.heap.size := (by have h := hb2.size; first | omega | (simp at h; omega))
    obtain ⟨hc2, hf2, hl2⟩ := bcell hb2
    clear hl2
    have HB2 := Lib.hid hb2
    have HN2 := Lib.hid (HN.out.below hb2)
    clear hb2 hc2 hf2 x0 x1 x2 x3 x4 x5 xs
    obtain ⟨x0, x1, x2, x3, x4, x5⟩ := HN2.out.cells
    have xs := HN2.out.lt
    have nf : ∀ q, ¬ (fun _ : Nat => False) q := fun _ h => h
    clear k0 k1 k2 k3 ks
    obtain ⟨k0, k1, k2, k3⟩ := (HKK.out.below HB2.out).cells
    have ks := (HKK.out.below HB2.out).lt
    go_wp2
    have HM2' := Lib.hid (HM.out.below HB2.out)
    obtain ⟨y0, y1, y2, y3, y4, y5⟩ := HM2'.out.cells
    have ys := HM2'.out.lt
    refine Mix.regionC (fun _ => False) (by kernel_rfl) ?_
    intro w3 hb3
    refine Mix.take_exC _ _ 0 rfl (by kernel_rfl) (by kernel_rfl) (by kernel_rfl) (by kernel_rfl) (fun K hK => ?_)
    go_simp
    first | (refine hK _ ?_; clear hK K) | (apply Exists.intro; refine ⟨fun x => ?_, hK _ ?_⟩; (fail); clear hK K)
    refine Mix.take_exC _ _ 1 rfl (by kernel_rfl) (by kernel_rfl) (by kernel_rfl) (by kernel_rfl) (fun K hK => ?_)
    go_simp
    first | (refine hK _ ?_; clear hK K) | (apply Exists.intro; refine ⟨fun x => ?_, hK _ ?_⟩; (fail); clear hK K)
    refine Mix.take_exC _ _ 2 rfl (by kernel_rfl) (by kernel_rfl) (by kernel_rfl) (by kernel_rfl) (fun K hK => ?_)
    go_simp
    first | (refine hK _ ?_; clear hK K) | (apply Exists.intro; refine ⟨fun x => ?_, hK _ ?_⟩; (fail); clear hK K)
    refine Mix.take_exC _ _ 3 rfl (by kernel_rfl) (by kernel_rfl) (by kernel_rfl) (by kernel_rfl) (fun K hK => ?_)
    go_simp
    first | (refine hK _ ?_; clear hK K) | (apply Exists.intro; refine ⟨fun x => ?_, hK _ ?_⟩; (fail); clear hK K)
    refine Mix.take_exC _ _ 4 rfl (by kernel_rfl) (by kernel_rfl) (by kernel_rfl) (by kernel_rfl) (fun K hK => ?_)
    go_simp
    first | (refine hK _ ?_; clear hK K) | (apply Exists.intro; refine ⟨fun x => ?_, hK _ ?_⟩; (fail); clear hK K)
    refine Mix.take_exC _ _ 5 rfl (by kernel_rfl) (by kernel_rfl) (by kernel_rfl) (by kernel_rfl) (fun K hK => ?_)
    go_simp
    first | (refine hK _ ?_; clear hK K) | (apply Exists.intro; refine ⟨fun x => ?_, hK _ ?_⟩; (fail); clear hK K)
    refine Mix.take_exC _ _ 7 rfl (by kernel_rfl) (by kernel_rfl) (by kernel_rfl) (by kernel_rfl) (fun K hK => ?_)
    go_simp
    first | (refine hK _ ?_; clear hK K) | (apply Exists.intro; refine ⟨fun x => ?_, hK _ ?_⟩; (fail); clear hK K)
    refine Mix.take_exC _ _ 8 rfl (by kernel_rfl) (by kernel_rfl) (by kernel_rfl) (by kernel_rfl) (fun K hK => ?_)
    go_simp
    first | (refine hK _ ?_; clear hK K) | (apply Exists.intro; refine ⟨fun x => ?_, hK _ ?_⟩; (fail); clear hK K)
    refine Mix.take_exC _ _ 9 rfl (by kernel_rfl) (by kernel_rfl) (by kernel_rfl) (by kernel_rfl) (fun K hK => ?_)
    go_simp
    first | (refine hK _ ?_; clear hK K) | (apply Exists.intro; refine ⟨fun x => ?_, hK _ ?_⟩; (fail); clear hK K)
    refine Mix.take_exC _ _ 10 rfl (by kernel_rfl) (by kernel_rfl) (by kernel_rfl) (by kernel_rfl) (fun K hK => ?_)
    go_simp
    first | (refine hK _ ?_; clear hK K) | (apply Exists.intro; refine ⟨fun x => ?_, hK _ ?_⟩; (fail); clear hK K)
    refine Mix.take_exC _ _ 11 rfl (by kernel_rfl) (by kernel_rfl) (by kernel_rfl) (by kernel_rfl) (fun K hK => ?_)
    go_simp
    first | (refine hK _ ?_; clear hK K) | (apply Exists.intro; refine ⟨fun x => ?_, hK _ ?_⟩; (fail); clear hK K)
    refine Mix.take_exC _ _ 12 rfl (by kernel_rfl) (by kernel_rfl) (by kernel_rfl) (by kernel_rfl) (fun K hK => ?_)
    go_simp
    first | (refine hK _ ?_; clear hK K) | (apply Exists.intro; refine ⟨fun x => ?_, hK _ ?_⟩; (fail); clear hK K)
    refine Mix.take_exC _ _ 13 rfl (by kernel_rfl) (by kernel_rfl) (by kernel_rfl) (by kernel_rfl) (fun K hK => ?_)
    go_simp
    first | (refine hK _ ?_; clear hK K) | (apply Exists.intro; refine ⟨fun x => ?_, hK _ ?_⟩; (fail); clear hK K)
    refine Mix.take_exC _ _ 14 rfl (by kernel_rfl) (by kernel_rfl) (by kernel_rfl) (by kernel_rfl) (fun K hK => ?_)
    go_simp
    first | (refine hK _ ?_; clear hK K) | (apply Exists.intro; refine ⟨fun x => ?_, hK _ ?_⟩; (fail); clear hK K)
    refine Mix.take_exC _ _ 15 rfl (by kernel_rfl) (by kernel_rfl) (by kernel_rfl) (by kernel_rfl) (fun K hK => ?_)
    go_simp
    first | (refine hK _ ?_; clear hK K) | (apply Exists.intro; refine ⟨fun x => ?_, hK _ ?_⟩; (fail); clear hK K)
    refine Mix.take_exC _ _ 16 rfl (by kernel_rfl) (by kernel_rfl) (by kernel_rfl) (by kernel_rfl) (fun K hK => ?_)
    go_simp
    first | (refine hK _ ?_; clear hK K) | (apply Exists.intro; refine ⟨fun x => ?_, hK _ ?_⟩; (fail); clear hK K)
    refine Mix.take_exC _ _ 17 rfl (by kernel_rfl) (by kernel_rfl) (by kernel_rfl) (by kernel_rfl) (fun K hK => ?_)
    go_simp
    first | (refine hK _ ?_; clear hK K) | (apply Exists.intro; refine ⟨fun x => ?_, hK _ ?_⟩; (fail); clear hK K)
    refine Mix.take_exC _ _ 18 rfl (by kernel_rfl) (by kernel_rfl) (by kernel_rfl) (by kernel_rfl) (fun K hK => ?_)
    go_simp
    first | (refine hK _ ?_; clear hK K) | (apply Exists.intro; refine ⟨fun x => ?_, hK _ ?_⟩; (fail); clear hK K)
    refine Mix.take_exC _ _ 19 rfl (by kernel_rfl) (by kernel_rfl) (by kernel_rfl) (by kernel_rfl) (fun K hK => ?_)
    go_simp
    first | (refine hK _ ?_; clear hK K) | (apply Exists.intro; refine ⟨fun x => ?_, hK _ ?_⟩; (fail); clear hK K)
    refine Mix.take_exC _ _ 20 rfl (by kernel_rfl) (by kernel_rfl) (by kernel_rfl) (by kernel_rfl) (fun K hK => ?_)
    go_simp
    first | (refine hK _ ?_; clear hK K) | (apply Exists.intro; refine ⟨fun x => ?_, hK _ ?_⟩; (fail); clear hK K)
    refine Mix.take_exC _ _ 21 rfl (by kernel_rfl) (by kernel_rfl) (by kernel_rfl) (by kernel_rfl) (fun K hK => ?_)
    go_simp
    first | (refine hK _ ?_; clear hK K) | (apply Exists.intro; refine ⟨fun x => ?_, hK _ ?_⟩; (fail); clear hK K)
    refine Mix.take_exC _ _ 22 rfl (by kernel_rfl) (by kernel_rfl) (by kernel_rfl) (by kernel_rfl) (fun K hK => ?_)
    go_simp
    first | (refine hK _ ?_; clear hK K) | (apply Exists.intro; refine ⟨fun x => ?_, hK _ ?_⟩; (fail); clear hK K)
    refine Mix.all (rs := [6]) (by kernel_rfl) (by simp) (.of_below _ hb3) ?_
    intro i4 hi4 w4 hb4 hC4
    simp only [List.mem_cons, List.not_mem_nil, or_false] at hi4
    subst hi4
    have HB4 := Lib.hid (bt hb3 hb4)
    have HX4 := Lib.hid (bt HB2.out HB4.out)
    clear hC4 hb4 hb3
    refine Mix.op rfl (by kernel_rfl) ?_
    go_simp
    refine (join_t (HL.out.below HX4.out) (HM1.out.below HX4.out) k hg3).mono ?_
    rintro e w5 ⟨v5, _, rfl, h5, rfl, hb5⟩
    refine ⟨_, rfl, ?_⟩
    obtain ⟨p5, rfl⟩ := h5.ptr
    have HT5 := Lib.hid h5
    have HB5 := Lib.hid (bt HB4.out hb5)
    clear h5 hb5
    refine Mix.all (rs := [23]) (by kernel_rfl) (by simp) (.of_below _ HB5.out) ?_
    intro i6 hi6 w6 hb6 hC6
    simp only [List.mem_cons, List.not_mem_nil, or_false] at hi6
    subst hi6
    have HB6 := Lib.hid (bt HB5.out hb6)
    have HT6 := Lib.hid (HT5.out.below hb6)
    have HX6 := Lib.hid (bt HB2.out HB6.out)
    clear hC6 hb6
    refine Mix.op rfl (by kernel_rfl) ?_
    go_simp
    refine (join_t (HM2.out.below HX6.out) (HLR.out.below HX6.out) lk hg4).mono ?_
    rintro e w7 ⟨v7, _, rfl, h7, rfl, hb7⟩
    refine ⟨_, rfl, ?_⟩
    obtain ⟨p7, rfl⟩ := h7.ptr
    have HT7 := Lib.hid h7
    have HU7 := Lib.hid (HT6.out.below hb7)
    have HB7 := Lib.hid (bt HB6.out hb7)
    clear h7 hb7
    refine Mix.all (rs := [24]) (by kernel_rfl) (by simp) (.of_below _ HB7.out) ?_
    intro i8 hi8 w8 hb8 hC8
    simp only [List.mem_cons, List.not_mem_nil, or_false] at hi8
    subst hi8
    have HB8 := Lib.hid (bt HB7.out hb8)
    have HT8 := Lib.hid (HT7.out.below hb8)
    have HU8 := Lib.hid (HU7.out.below hb8)
    clear hC8 hb8
    refine Mix.op rfl (by kernel_rfl) ?_
    go_simp
    refine (join_t HU8.out HT8.out mk hg5).mono ?_
    rintro e w9 ⟨v9, _, rfl, h9, rfl, hb9⟩
    refine ⟨_, rfl, ?_⟩
    obtain ⟨p9, rfl⟩ := h9.ptr
    have HT9 := Lib.hid h9
    have HB9 := Lib.hid (bt HB8.out hb9)
    clear h9 hb9
    refine Mix.take_exC _ _ 25 rfl (by kernel_rfl) (by kernel_rfl) (by kernel_rfl) (by kernel_rfl) (fun K hK => ?_)
    go_simp
    first | (refine hK _ ?_; clear hK K) | (apply Exists.intro; refine ⟨fun x => ?_, hK _ ?_⟩; (fail); clear hK K)
    refine Mix.done (by kernel_rfl) (.of_below _ HB9.out) ?_
    intro w10 hb10
    have HT10 := Lib.hid (HT9.out.below hb10)
    have HX10 := Lib.hid (bt HB2.out (bt HB9.out hb10))
    clear hb10 x0 x1 x2 x3 x4 x5 xs nf y0 y1 y2 y3 y4 y5 ys
    go_wp2
    go_ret
    exact ⟨_, _, rfl, HT10.out, by simp [tl], bt HB0.out HX10.out⟩
set_option maxRecDepth 100000 in
theorem balance_c {w0 : World} {lv rv : Value} {l r : Tr} (hl0 : Tn w0 lv l) (hr0 : Tn w0 rv r) (k : Pl) (hs : sz l + sz r < 500000000) (hd : dp l ≤ dp r + 1) (hd' : dp r ≤ dp l + 1) : Calls Tryz.prog 120 #[lv, plv k, rv] w0 (RetT (fun t => tl t = tl l ++ k :: tl r) w0) := by
  have hb0 := ba (Below.refl w0.heap.size w0) (.cells #[.int .i64 k.n, .int .i64 k.d, .int .i64 k.w, .int .i64 k.i] 103)
  have hkk := PK.made w0 k
  have HB0 := Lib.hid hb0
  have hl := hl0.below hb0; have hr := hr0.below hb0
  clear hl0 hr0 hb0
  go_enter Tryz.func120, Tryz.ntmps120
  go_upto_region 1 with (fail)
  generalize w0.alloc (.cells #[.int .i64 k.n, .int .i64 k.d, .int .i64 k.w, .int .i64 k.i] 103) = w at *
  obtain ⟨kb, hkb⟩ : ∃ b, b = w0.heap.size := ⟨_, rfl⟩
  rw [← hkb] at hkk ⊢
  clear hkb
  have HKK := Lib.hid hkk
  obtain ⟨k0, k1, k2, k3⟩ := hkk.cells
  have ks := hkk.lt
  clear hkk
  obtain ⟨pl, rfl⟩ := hl.ptr
  obtain ⟨pw, rfl⟩ := hr.ptr
  have HL := Lib.hid hl; have HR := Lib.hid hr
  have hdr := dp_le r
  have hdl := dp_le l
  have hg1 : sz l + sz r < 1000000000 := by omega
  have hdI : ((dp l : Nat) : Int) ≤ ((dp r : Nat) : Int) + 1 := by omega
  have hdN : ((dp r : Nat) : Int) ≤ ((dp l : Nat) : Int) + 1 := by omega
  clear hl hr
  go_wp2_with fail
  refine (depth_t HL.out).mono ?_
  rintro e w1 ⟨rfl, rfl⟩
  go_wp2_with fail
  refine (depth_t HR.out).mono ?_
  rintro e w1 ⟨rfl, rfl⟩
  go_wp2_with fail
  refine (depth_t HR.out).mono ?_
  rintro e w1 ⟨rfl, rfl⟩
  go_wp2_with fail
  refine (depth_t HL.out).mono ?_
  rintro e w1 ⟨rfl, rfl⟩
  go_wp2_with fail
  refine (join_t HL.out HR.out k hg1).mono ?_
  rintro e w5 ⟨v5, _, rfl, h5, rfl, hb5⟩
  obtain ⟨p5, rfl⟩ := h5.ptr
  have HT5 := Lib.hid h5
  have HB5 := Lib.hid hb5
  clear h5 hb5
  go_wp2
  go_ret
  exact ⟨_, _, rfl, HT5.out, rfl, bt HB0.out HB5.out⟩
theorem balance_t {w : World} {lv rv : Value} {l r : Tr} (hl : Tn w lv l) (hr : Tn w rv r) (k : Pl) (hs : sz l + sz r < 500000000) : Calls Tryz.prog 120 #[lv, plv k, rv] w (RetT (fun t => tl t = tl l ++ k :: tl r) w) := by
  by_cases h1 : dp r + 1 < dp l
  · exact balance_l hl hr k hs h1
  · by_cases h2 : dp l + 1 < dp r
    · exact balance_r hl hr k hs h2
    · exact balance_c hl hr k hs (by omega) (by omega)
end
section
open Go.RowKit
attribute [local go_sem] ext_cell ext_frozen extC_cell extC_frozen Mix.calmUpon Mix.mUpon
theorem cell_hd {w : World} {b : Nat} {c : Array Value} {e : TypeId} {fz : Nat × Nat} (h : w.heap[b]? = some (.cells c e fz)) (i : Nat) : w.cell? ⟨b, i, none⟩ = c[i]? := by simp [World.cell?, h]
/-- A function value that orders the numbers of J, in the worlds of C; tp is the tree that holds it. -/
structure OV (tp fn : Nat) (caps : Array Value) (C : World → Prop) (J : Pl → Prop) (o : Pl → Pl → Int) : Prop where
  ord : OA J o
  cf : ∀ (a b : Pl) (w : World), (callFunc fn (#[plv a, plv b] ++ caps)).run Tryz.prog w = .ok (.enter fn (#[plv a, plv b] ++ caps)) w
  call : ∀ (w : World) (a b : Pl), C w → J a → J b → Calls Tryz.prog fn (#[plv a, plv b] ++ caps) w fun e w' => e = .returned (.int .i64 (o a b)) ∧ Below w.heap.size w w'
  clo : ∀ w w', C w → Chg (fun b => b = tp) w w' → C w'
theorem OV.on {tp fn : Nat} {caps : Array Value} {C : World → Prop} {J : Pl → Prop} {o : Pl → Pl → Int} (h : OV tp fn caps C J o) {w w' : World} (hc : C w) (hb : Below w.heap.size w w') : C w' := h.clo w w' hc (.of_below _ hb)
/-- The tree's own block. -/
def TO (w : World) (tp fn : Nat) (caps : Array Value) (rv : Value) : Prop := w.heap[tp]? = some (.cells #[.func (.func fn) #[] caps, rv] 141 (0, 0))
theorem TO.lt {w : World} {tp fn : Nat} {caps : Array Value} {rv : Value} (h : TO w tp fn caps rv) : tp < w.heap.size := (Array.getElem?_eq_some_iff.1 h).1
theorem TO.below {w w' : World} {tp fn : Nat} {caps : Array Value} {rv : Value} (h : TO w tp fn caps rv) (hb : Below w.heap.size w w') : TO w' tp fn caps rv := (hb.block _ h.lt).trans h
theorem TO.cells {w : World} {tp fn : Nat} {caps : Array Value} {rv : Value} (h : TO w tp fn caps rv) : w.cell? ⟨tp, 0, none⟩ = some (.func (.func fn) #[] caps) ∧ w.cell? ⟨tp, 1, none⟩ = some rv := by
  unfold TO at h; simp [World.cell?, h]
theorem catch_idle (p : Addr) (w : World) :
    CallsD Tryz.prog 128 #[.pointer (some p)] .returning w fun e u' w' => e = .returned (.tuple #[]) ∧ u' = .returning ∧ w' = w := by
  refine callsD_of_wpS Tryz.func128 rfl fun c₀ cs hu => ?_
  apply wpS_seq
  apply wpS_region
  simp [wpOpsS, go_sem, recoverD, hu, Tryz.ntmps128, Exit.thenS]
  refine wpS_cond (t := false) (by simp [Act.eval, Array.replicate]) ?_
  simp only [Bool.false_eq_true, if_false]
  refine wpS_of_wp (wp_skip ?_)
  cases c₀
  simp_all [bodyPostS, results, Tryz.results128]
set_option maxRecDepth 100000 in
theorem compare_t {w : World} {tp fn : Nat} {caps : Array Value} {C : World → Prop} {J : Pl → Prop} {o : Pl → Pl → Int} {rv : Value} (hO : OV tp fn caps C J o) (h : TO w tp fn caps rv) (hC : C w) {a b : Pl} (ha : J a) (hb : J b) :
    Calls Tryz.prog 119 #[.pointer (some ⟨tp, 0, none⟩), plv a, plv b] w fun e w' => e = .returned (.int .i64 (o a b)) ∧ Below w.heap.size w w' := by
  have hmf : ∀ (fn : Fn) (first cap : Array Value) (w : World), (Instr.makeFunc fn first cap).run Tryz.prog w = .ok (.func fn first cap) w := fun _ _ _ _ => rfl
  have hcf := hO.cf a b
  have hx1 := ba (Below.refl w.heap.size w) (.cells #[.int .i64 a.n, .int .i64 a.d, .int .i64 a.w, .int .i64 a.i] 103)
  have hx2 := ba hx1 (.cells #[.int .i64 b.n, .int .i64 b.d, .int .i64 b.w, .int .i64 b.i] 103)
  have hx3 := ba hx2 (.cells #[.int .i64 0] 3)
  have s1 : (w.alloc (.cells #[.int .i64 a.n, .int .i64 a.d, .int .i64 a.w, .int .i64 a.i] 103)).heap.size = w.heap.size + 1 := by simp
  have s2 : ((w.alloc (.cells #[.int .i64 a.n, .int .i64 a.d, .int .i64 a.w, .int .i64 a.i] 103)).alloc (.cells #[.int .i64 b.n, .int .i64 b.d, .int .i64 b.w, .int .i64 b.i] 103)).heap.size = w.heap.size + 1 + 1 := by simp
  have hka := (PK.made w a).below (ba (ba (Below.refl _ _) (.cells #[.int .i64 b.n, .int .i64 b.d, .int .i64 b.w, .int .i64 b.i] 103)) (.cells #[.int .i64 0] 3))
  have hkb := (PK.made (w.alloc (.cells #[.int .i64 a.n, .int .i64 a.d, .int .i64 a.w, .int .i64 a.i] 103)) b).below (ba (Below.refl _ _) (.cells #[.int .i64 0] 3))
  have hkr := heap_alloc_new ((w.alloc (.cells #[.int .i64 a.n, .int .i64 a.d, .int .i64 a.w, .int .i64 a.i] 103)).alloc (.cells #[.int .i64 b.n, .int .i64 b.d, .int .i64 b.w, .int .i64 b.i] 103)) (.cells #[.int .i64 0] 3)
  rw [s1] at hkb; rw [s2] at hkr
  have HA := Lib.hid hka; have HB := Lib.hid hkb; have HR := Lib.hid hkr; have HBW := Lib.hid hx3
  have HT := Lib.hid (h.below hx3)
  have HCA := Lib.hid fun x : ExtC _ (fun _ => False) => hO.call (extC _ _ x) a b (hO.clo _ _ (hO.on hC hx3) ((extC_chg _ _ x).mono fun _ e => e.elim)) ha hb
  clear h hO hC ha hb hx1 hx2 hx3 s1 s2 hka hkb hkr
  go_enter_defers Tryz.func119, Tryz.ntmps119
  go_wp2_with fail
  generalize ((w.alloc (.cells #[.int .i64 a.n, .int .i64 a.d, .int .i64 a.w, .int .i64 a.i] 103)).alloc (.cells #[.int .i64 b.n, .int .i64 b.d, .int .i64 b.w, .int .i64 b.i] 103)).alloc (.cells #[.int .i64 0] 3) = w1 at *
  obtain ⟨ka, hka⟩ : ∃ b, b = w.heap.size := ⟨_, rfl⟩
  rw [← hka] at HA HB HR HBW ⊢
  have HKA := Lib.hid hka
  clear hka
  obtain ⟨kb, hkb⟩ : ∃ b, b = ka + 1 := ⟨_, rfl⟩
  rw [← hkb] at HB HR ⊢
  have HKB := Lib.hid hkb
  clear hkb
  obtain ⟨rb, hrb⟩ : ∃ b, b = kb + 1 := ⟨_, rfl⟩
  rw [← hrb] at HR ⊢
  have HRB := Lib.hid hrb
  clear hrb
  obtain ⟨x0, x1⟩ := HT.out.cells
  have xs := HT.out.lt
  obtain ⟨a0, a1, a2, a3⟩ := HA.out.cells
  have al := HA.out.lt
  obtain ⟨b0, b1, b2, b3⟩ := HB.out.cells
  have bs' := HB.out.lt
  have nf : ∀ q, ¬ (fun _ : Nat => False) q := fun _ h => h
  have ex : (fun b : Nat => b = rb) rb := rfl
  refine Mix.regionL (fun _ => False) (by kernel_rfl) ?_
  intro w2 hb2
  refine Mix.take_exL _ _ 0 rfl (by kernel_rfl) (by kernel_rfl) (by kernel_rfl) (by kernel_rfl) (by kernel_rfl) (by kernel_rfl) (fun K hK => ?_)
  go_simp
  first | (refine hK _ ?_; clear hK K) | (apply Exists.intro; refine ⟨fun x => ?_, hK _ ?_⟩; (fail); clear hK K)
  refine Mix.take_exL _ _ 1 rfl (by kernel_rfl) (by kernel_rfl) (by kernel_rfl) (by kernel_rfl) (by kernel_rfl) (by kernel_rfl) (fun K hK => ?_)
  go_simp
  first | (refine hK _ ?_; clear hK K) | (apply Exists.intro; refine ⟨fun x => ?_, hK _ ?_⟩; (fail); clear hK K)
  refine Mix.take_exL _ _ 2 rfl (by kernel_rfl) (by kernel_rfl) (by kernel_rfl) (by kernel_rfl) (by kernel_rfl) (by kernel_rfl) (fun K hK => ?_)
  go_simp
  first | (refine hK _ ?_; clear hK K) | (apply Exists.intro; refine ⟨fun x => ?_, hK _ ?_⟩; (fail); clear hK K)
  refine Mix.take_exL _ _ 3 rfl (by kernel_rfl) (by kernel_rfl) (by kernel_rfl) (by kernel_rfl) (by kernel_rfl) (by kernel_rfl) (fun K hK => ?_)
  go_simp
  first | (refine hK _ ?_; clear hK K) | (apply Exists.intro; refine ⟨fun x => ?_, hK _ ?_⟩; (fail); clear hK K)
  refine Mix.take_exL _ _ 4 rfl (by kernel_rfl) (by kernel_rfl) (by kernel_rfl) (by kernel_rfl) (by kernel_rfl) (by kernel_rfl) (fun K hK => ?_)
  go_simp
  first | (refine hK _ ?_; clear hK K) | (apply Exists.intro; refine ⟨fun x => ?_, hK _ ?_⟩; (fail); clear hK K)
  refine Mix.take_exL _ _ 5 rfl (by kernel_rfl) (by kernel_rfl) (by kernel_rfl) (by kernel_rfl) (by kernel_rfl) (by kernel_rfl) (fun K hK => ?_)
  go_simp
  first | (refine hK _ ?_; clear hK K) | (apply Exists.intro; refine ⟨fun x => ?_, hK _ ?_⟩; (fail); clear hK K)
  refine Mix.take_exL _ _ 6 rfl (by kernel_rfl) (by kernel_rfl) (by kernel_rfl) (by kernel_rfl) (by kernel_rfl) (by kernel_rfl) (fun K hK => ?_)
  go_simp
  first | (refine hK _ ?_; clear hK K) | (apply Exists.intro; refine ⟨fun x => ?_, hK _ ?_⟩; (exact HCA.out x); clear hK K)
  refine Mix.allL (rs := [7]) (by kernel_rfl) (by simp) (.of_below _ hb2) (by kernel_rfl) ?_
  intro i3 hi3 w3 hb3 hC3
  simp only [List.mem_cons, List.not_mem_nil, or_false] at hi3
  subst hi3
  have HB3 := Lib.hid (bt hb2 hb3)
  clear hC3 hb2 hb3
  have hr3 := (HB3.out.block rb (Array.getElem?_eq_some_iff.1 HR.out).1).trans HR.out
  have r0 := cell_hd hr3 0
  simp only [List.getElem?_toArray, List.getElem?_cons_zero] at r0
  have r1 : w3.frozen? ⟨rb, 0, none⟩ = false := by simp [World.frozen?, hr3]
  have rs : rb < w3.heap.size := (Array.getElem?_eq_some_iff.1 hr3).1
  have hr4 := heap_setCell_at (o := 0) (.int .i64 (o a b)) hr3
  refine Mix.op rfl (by kernel_rfl) ?_
  go_simp
  refine Mix.doneL (by kernel_rfl) (by kernel_rfl) ?_
  intro w4 hb4
  have c0 := (hb4.cell (p := ⟨rb, 0, none⟩) (by simp [World.setCell]; exact rs)).trans (cell_hd hr4 0)
  simp at c0
  have HBE := Lib.hid (show Below w.heap.size w w4 from by
    rw [← HKA.out]
    have h1 : Below ka w w3 := HBW.out.trans (HB3.out.mono (by have := HA.out.lt; omega))
    have h2 : Below ka w (w3.setCell ⟨rb, 0, none⟩ (.int .i64 (o a b))) := h1.setCell (show ka ≤ rb by have := HKB.out; have := HRB.out; omega) _
    exact h2.trans (hb4.mono (by have := h2.size; have := HKA.out; omega)))
  clear hb4 hr3 hr4 r0 r1 rs x0 x1 xs a0 a1 a2 a3 al b0 b1 b2 b3 bs' nf ex hcf
  go_wp2
  refine leaves_cons (f := 128) (args := #[.pointer (some ⟨rb, 0, none⟩)]) (by simp) (by simp [go_sem]) ?_
  refine (catch_idle ⟨rb, 0, none⟩ _).mono ?_
  rintro e u' w'' ⟨rfl, rfl, rfl⟩
  simp [Leaves, settle, results, Tryz.results119, go_sem, c0]
  exact HBE.out
end
end Go.Proofs.YtgfjmafdfbghnaaGreat

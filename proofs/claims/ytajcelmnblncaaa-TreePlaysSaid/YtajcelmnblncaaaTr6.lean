/- tree: an object; New, Put, Drop, Long. -/
import Derived.Test.YtajcelmnblncaaaTr5
namespace Go.Proofs.Ytajcelmnblncaaa
open Go.RowKit
attribute [local go_sem] ext_cell ext_frozen extC_cell extC_frozen Mix.calmUpon Mix.mUpon
theorem fn_eqIn (fn : Nat) (caps : Array Value) (w : World) : (Op.equalIn 10000 26 (.func (.func fn) #[] caps) .nilFunc).run Try.prog w = .ok false w := by
  rw [show (10000 : Nat) = 9999 + 1 from rfl, Op.equalIn]
  simp only [Sem.run_bind, run_underlying Try.underlying26, Result.andThen_ok]
  simp
theorem fn_ne (fn : Nat) (caps : Array Value) (w : World) : (binOp .neq 26 (.func (.func fn) #[] caps) .nilFunc).run Try.prog w = .ok (.bool true) w := by
  simp only [binOp]
  simp [Op.equal, Op.maxDepth, fn_eqIn]
theorem fn_eq (fn : Nat) (caps : Array Value) (w : World) : (binOp .eql 26 (.func (.func fn) #[] caps) .nilFunc).run Try.prog w = .ok (.bool false) w := by
  simp only [binOp]
  simp [Op.equal, Op.maxDepth, fn_eqIn]
abbrev TF (tp : Nat) : Nat → Prop := fun b => b = tp
section
variable {tp fn : Nat} {caps : Array Value} {C : World → Prop} {J : Int → Prop} {o : Int → Int → Int}
theorem TO.nonode {w : World} {rv : Value} (h : TO w tp fn caps rv) : NoNode (TF tp) w := fun b hb cs e => by
  have hb : b = tp := hb
  subst hb
  unfold TO at h
  rw [h] at e
  cases e
theorem TO.set {w : World} {rv : Value} (h : TO w tp fn caps rv) (v : Value) : TO (w.setCell ⟨tp, 1, none⟩ v) tp fn caps v := by
  have := heap_setCell_at (o := 1) v h
  unfold TO
  rw [this]; simp
theorem TO.fz {w : World} {rv : Value} (h : TO w tp fn caps rv) : w.frozen? ⟨tp, 1, none⟩ = false := by
  unfold TO at h; simp [World.frozen?, h]
/-- A tree, told by its list. -/
structure TT (tp fn : Nat) (caps : Array Value) (C : World → Prop) (J : Int → Prop) (o : Int → Int → Int) (w : World) (L : List Int) : Prop where
  t : ∃ p t, TO w tp fn caps (.pointer p) ∧ Tn w (.pointer p) t ∧ tl t = L
  c : C w
  s : SL J o L
theorem TT.lt {w : World} {L : List Int} (h : TT tp fn caps C J o w L) : tp < w.heap.size := by obtain ⟨p, t, ht, _⟩ := h.t; exact ht.lt
theorem TT.below {w w' : World} {L : List Int} (hO : OV tp fn caps C J o) (h : TT tp fn caps C J o w L) (hb : Below w.heap.size w w') : TT tp fn caps C J o w' L := by
  obtain ⟨p, t, ht, hn, hl⟩ := h.t
  exact ⟨⟨p, t, ht.below hb, hn.below hb, hl⟩, hO.on h.c hb, h.s⟩
theorem insL_mem (O : OA J o) {L : List Int} (h : SL J o L) {k : Int} (hm : k ∈ L) : insL o k L = L := by
  obtain ⟨A, B, rfl⟩ := List.append_of_mem hm
  exact insL_here O h (h.1 k hm) ((O.zero k k (h.1 k hm) (h.1 k hm)).2 rfl)
set_option maxRecDepth 100000 in
theorem tnew (w : World) : Calls Try.prog 14 #[.func (.func fn) #[] caps] w fun e w' => e = .returned (tptr w.heap.size) ∧ w' = w.alloc (.cells #[.func (.func fn) #[] caps, .pointer none] 45) := by
  have hfe := fn_eq fn caps
  go_enter Try.func14, Try.ntmps14
  go_wp2
  go_ret
  exact ⟨rfl, rfl⟩
set_option maxRecDepth 100000 in
theorem tmade {w : World} {rv : Value} (h : TO w tp fn caps rv) : Calls Try.prog 74 #[tptr tp] w fun e w' => e = .returned (.bool true) ∧ w = w' := by
  obtain ⟨x0, x1⟩ := h.cells
  clear h
  have hfn := fn_ne fn caps
  go_enter Try.func74, Try.ntmps74
  go_wp2
  go_ret
  exact ⟨rfl, rfl⟩
theorem ttop {w : World} {p : Option Addr} (h : TO w tp fn caps (.pointer p)) : Calls Try.prog 77 #[tptr tp] w fun e w' => e = .returned (.pointer p) ∧ w = w' := by
  obtain ⟨x0, x1⟩ := h.cells
  clear h
  go_enter Try.func77, Try.ntmps77
  go_wp2
  go_ret
  exact ⟨rfl, rfl⟩
/-- What a call that changes a tree leaves. -/
def TP (tp fn : Nat) (caps : Array Value) (C : World → Prop) (J : Int → Prop) (o : Int → Int → Int) (L' : List Int) (q : Bool) (w : World) (e : Ending) (w' : World) : Prop := e = .returned (.bool q) ∧ TT tp fn caps C J o w' L' ∧ Chg (TF tp) w w'
set_option maxRecDepth 100000 in
theorem tput (hO : OV tp fn caps C J o) {w : World} {L : List Int} (h : TT tp fn caps C J o w L) {k : Int} (hk : J k) (hl : L.length < 1000000) : Calls Try.prog 21 #[tptr tp, .int .i64 k] w (TP tp fn caps C J o (insL o k L) (!hasL k L) w) := by
  obtain ⟨p, t, hT, hn, rfl⟩ := h.t
  have HT := Lib.hid hT; have H := Lib.hid h; have HO := Lib.hid hO
  have HP := Lib.hid (put_t hO hk t w (.pointer p) (.pointer p) hn hT h.c h.s (by rw [← tl_len]; omega))
  have HI := Lib.hid (fun hm => insL_mem hO.ord h.s (k := k) hm)
  have HSI := Lib.hid (h.s.insL hO.ord hk)
  obtain ⟨x0, x1⟩ := hT.cells
  have xs := hT.lt
  obtain ⟨q, hq⟩ : ∃ q, hasL k (tl t) = q := ⟨_, rfl⟩
  rw [hq] at HP ⊢
  have HQ := Lib.hid hq
  clear hT hn h hO hk hl hq
  go_enter Try.func21, Try.ntmps21
  go_wp2_with fail
  refine (tmade HT.out).mono ?_
  rintro e w1 ⟨rfl, rfl⟩
  go_wp2_with fail
  refine HP.out.mono ?_
  rintro e w2 ⟨p2, t2, rfl, h2, e2, hb2⟩
  have HT2 := Lib.hid (HT.out.below hb2)
  have HN2 := Lib.hid h2; have HE2 := Lib.hid e2; have HB2 := Lib.hid hb2
  clear h2 e2 hb2 x0 x1 xs
  obtain ⟨x0, x1⟩ := HT2.out.cells
  have xs := HT2.out.lt
  have xf := HT2.out.fz
  cases q with
  | true =>
    have HM := Lib.hid (H.out.below HO.out HB2.out)
    have HE := Lib.hid (show insL o k (tl t) = tl t from HI.out (by have := HQ.out; unfold hasL at this; simpa using this))
    clear x0 x1 xs xf
    go_wp2
    go_ret
    exact ⟨rfl, by rw [HE.out]; exact HM.out, .of_below _ HB2.out⟩
  | false =>
    have hst : Chg (TF tp) w2 (w2.setCell ⟨tp, 1, none⟩ (.pointer p2)) := (Chg.refl (TF tp) w2).setCell (.inl rfl) _
    have HW := Lib.hid (show TT tp fn caps C J o (w2.setCell ⟨tp, 1, none⟩ (.pointer p2)) (insL o k (tl t)) from ⟨⟨p2, t2, HT2.out.set _, HN2.out.chg hst HT2.out.nonode, HE2.out⟩, HO.out.clo _ _ (HO.out.on H.out.c HB2.out) hst, HSI.out⟩)
    have HG := Lib.hid ((Chg.of_below (TF tp) HB2.out).same hst)
    clear hst
    go_wp2
    go_ret
    exact ⟨rfl, HW.out, HG.out⟩
set_option maxRecDepth 100000 in
theorem tdrop (hO : OV tp fn caps C J o) {w : World} {L : List Int} (h : TT tp fn caps C J o w L) {k : Int} (hk : J k) (hl : L.length < 1000000) : Calls Try.prog 19 #[tptr tp, .int .i64 k] w (TP tp fn caps C J o (delL k L) (hasL k L) w) := by
  obtain ⟨p, t, hT, hn, rfl⟩ := h.t
  have HT := Lib.hid hT; have H := Lib.hid h; have HO := Lib.hid hO
  have HP := Lib.hid (drop_t hO hk t w (.pointer p) (.pointer p) hn hT h.c h.s (by rw [← tl_len]; omega))
  have HSI := Lib.hid (h.s.delL (k := k))
  obtain ⟨x0, x1⟩ := hT.cells
  have xs := hT.lt
  obtain ⟨q, hq⟩ : ∃ q, hasL k (tl t) = q := ⟨_, rfl⟩
  rw [hq] at HP ⊢
  have HQ := Lib.hid hq
  clear hT hn h hO hk hl hq
  go_enter Try.func19, Try.ntmps19
  go_wp2_with fail
  refine (tmade HT.out).mono ?_
  rintro e w1 ⟨rfl, rfl⟩
  go_wp2_with fail
  refine HP.out.mono ?_
  rintro e w2 ⟨p2, t2, rfl, h2, e2, hb2⟩
  have HT2 := Lib.hid (HT.out.below hb2)
  have HN2 := Lib.hid h2; have HE2 := Lib.hid e2; have HB2 := Lib.hid hb2
  clear h2 e2 hb2 x0 x1 xs
  obtain ⟨x0, x1⟩ := HT2.out.cells
  have xs := HT2.out.lt
  have xf := HT2.out.fz
  cases q with
  | false =>
    have HM := Lib.hid (H.out.below HO.out HB2.out)
    have HE := Lib.hid (show delL k (tl t) = tl t from delL_not (by have := HQ.out; unfold hasL at this; simpa using this))
    clear x0 x1 xs xf
    go_wp2
    go_ret
    exact ⟨rfl, by rw [HE.out]; exact HM.out, .of_below _ HB2.out⟩
  | true =>
    have hst : Chg (TF tp) w2 (w2.setCell ⟨tp, 1, none⟩ (.pointer p2)) := (Chg.refl (TF tp) w2).setCell (.inl rfl) _
    have HW := Lib.hid (show TT tp fn caps C J o (w2.setCell ⟨tp, 1, none⟩ (.pointer p2)) (delL k (tl t)) from ⟨⟨p2, t2, HT2.out.set _, HN2.out.chg hst HT2.out.nonode, HE2.out⟩, HO.out.clo _ _ (HO.out.on H.out.c HB2.out) hst, HSI.out⟩)
    have HG := Lib.hid ((Chg.of_below (TF tp) HB2.out).same hst)
    clear hst
    go_wp2
    go_ret
    exact ⟨rfl, HW.out, HG.out⟩
theorem tlong {w : World} {L : List Int} (h : TT tp fn caps C J o w L) : Calls Try.prog 23 #[tptr tp] w fun e w' => e = .returned (.int .i64 L.length) ∧ w = w' := by
  obtain ⟨p, t, hT, hn, rfl⟩ := h.t
  have HT := Lib.hid hT; have HN := Lib.hid hn
  rw [tl_len]
  clear hT hn h
  go_enter Try.func23, Try.ntmps23
  go_wp2_with fail
  refine (ttop HT.out).mono ?_
  rintro e w1 ⟨rfl, rfl⟩
  go_wp2_with fail
  refine (length_t HN.out).mono ?_
  rintro e w1 ⟨rfl, rfl⟩
  go_wp2
  go_ret
  exact ⟨rfl, rfl⟩
end
end Go.Proofs.Ytajcelmnblncaaa

/- tree: All. -/
import Derived.Test.YtajcelmnblncaaaTr8
import Derived.Test.YtajcelmnblncaaaRS
namespace Go.Proofs.Ytajcelmnblncaaa
open Go.RowKit
attribute [local go_sem] ext_cell ext_frozen extC_cell extC_frozen Mix.calmUpon Mix.mUpon
def nenc (x : Int) : List Value := [.int .i64 x]
theorem infoN : (Try.prog.info? 3).map (fun i => (i.zero, i.size, i.bytes)) = some (some (.int .i64 0), 1, 8) := by kernel_rfl
/-- A variable that holds a list of the call's own. -/
structure LV (w : World) (lb : Nat) (L : List Int) : Prop where
  v : ∃ a n c, w.heap[lb]? = some (.cells #[.slice a n c] 27 (0, 0)) ∧ OwnL 3 1 nenc w (lb + 1) (.slice a n c) L
theorem OwnL.spelled {e k base : Nat} {α : Type} {enc : α → List Value} {w : World} {v : Value} {l : List α} (h : OwnL e k enc w base v l) : ∃ a n c, v = .slice a n c := by
  rcases h.2 with ⟨rfl, _⟩ | ⟨b, cap, cur, rfl, _⟩
  · exact ⟨_, _, _, rfl⟩
  · exact ⟨_, _, _, rfl⟩
theorem LV.lt {w : World} {lb : Nat} {L : List Int} (h : LV w lb L) : lb < w.heap.size := by obtain ⟨a, n, c, h1, _⟩ := h.v; exact (Array.getElem?_eq_some_iff.1 h1).1
set_option maxRecDepth 100000 in
theorem add1 {w : World} {lb : Nat} {L : List Int} (h : LV w lb L) (k : Int) (hl : L.length < 1000000) : Calls Try.prog 81 #[.int .i64 k, .pointer (some ⟨lb, 0, none⟩)] w fun e w' => e = .returned (.tuple #[]) ∧ LV w' lb (L ++ [k]) ∧ Below lb w w' := by
  obtain ⟨i0, hi, hz0, hz1, hz2⟩ := info_parts infoN
  obtain ⟨a, n, c, hb, ho⟩ := h.v
  have hlt := h.lt
  have hbb : Below w.heap.size w (w.alloc (.cells #[.int .i64 k] 3)) := ba (Below.refl _ _) _
  obtain ⟨v', w', hrun, o', g', _⟩ := (ho.below hbb).app (P := Try.prog) (ty := 27) (t := 27) Try.underlying27 hi hz0 hz1 hz2 rfl (by decide) (fun _ => rfl) k (b := w.heap.size) (c := 1) (fun j u hj => by
    rcases j with _ | j <;> simp [nenc] at hj
    subst hj
    exact cell_hd (heap_alloc_new w _) 0) (fun u hu => by simp [nenc] at hu; subst hu; rfl) (by omega) (by unfold maxLen; omega) (by simp; omega)
  obtain ⟨a', n', c', rfl⟩ := o'.spelled
  have hne : some lb ≠ (Value.slice a n c).ownBlock := fun e => by have := (ho.lt lb e.symm).1; omega
  have hb1 : (w.alloc (.cells #[.int .i64 k] 3)).heap[lb]? = some (.cells #[.slice a n c] 27 (0, 0)) := (hbb.block lb hlt).trans hb
  have hb2 : w'.heap[lb]? = some (.cells #[.slice a n c] 27 (0, 0)) := (g'.block lb (by simp; omega) hne).trans hb1
  have x0 := cell_hd hb 0
  have y0 := cell_hd hb2 0
  have yf : w'.frozen? ⟨lb, 0, none⟩ = false := by simp [World.frozen?, hb2]
  have xs' : lb < w'.heap.size := (Array.getElem?_eq_some_iff.1 hb2).1
  simp only [List.getElem?_toArray, List.getElem?_cons_zero] at x0 y0
  have HR := Lib.hid hrun
  have HB := Lib.hid (show Below lb w w' from (hbb.mono (Nat.le_of_lt hlt)).trans ((Chg.of_grown g' (F := fun q => lb ≤ q) fun q e => Nat.le_of_succ_le ((ho.below hbb).lt q e).1).below (by simp; omega) (fun _ h => h)))
  have HW := Lib.hid (show LV (w'.setCell ⟨lb, 0, none⟩ (.slice a' n' c')) lb (L ++ [k]) from ⟨a', n', c', by rw [heap_setCell_at (o := 0) _ hb2]; simp, o'.chg ((Chg.refl (fun q => q = lb) w').setCell (p := ⟨lb, 0, none⟩) (.inl rfl) _) fun q e hq => by have := (o'.lt q e).1; have hq : q = lb := hq; omega⟩)
  clear hrun o' g' hbb ho h hb hb1 hb2 hne hi hz0 hz1 hz2
  go_enter Try.func81, Try.ntmps81
  go_wp2_with (at_builtin; refine wpList_app_run rfl _ _ _ rfl rfl rfl HR.out ?_)
  go_end0
  exact ⟨rfl, HW.out, HB.out.setCell (Nat.le_refl _) _⟩
set_option maxRecDepth 100000 in
set_option maxHeartbeats 2000000 in
theorem visit_t {W : World} {lb : Nat} (hlb : W.heap.size ≤ lb) : ∀ (t : Tr) (w : World) (v : Value) (L : List Int), Tn W v t → Below W.heap.size W w → LV w lb L → L.length + sz t < 1000000 →
    Calls Try.prog 80 #[v, .func (.func 81) #[] #[.pointer (some ⟨lb, 0, none⟩)]] w fun e w' => e = .returned (.tuple #[]) ∧ LV w' lb (L ++ tl t) ∧ Below lb w w'
  | .lf, w, v, L, h, hb, hL, hz => by
    obtain rfl := h.lf_
    have HL := Lib.hid hL
    clear h hb hL hz
    go_enter Try.func80, Try.ntmps80
    go_wp2
    go_end0
    exact ⟨rfl, by simpa [tl] using HL.out, Below.refl _ _⟩
  | .nd l x r, w, v, L, h, hb, hL, hz => by
    obtain ⟨b, pl, pr, rfl, hN, hl, hr⟩ := h.node
    have hz' : L.length + (1 + sz l + sz r) < 1000000 := hz
    have hll := tl_len l
    have IHL := Lib.hid (visit_t hlb l w (.pointer pl) L hl hb hL (by omega))
    have IHR := Lib.hid (fun w' h1 h2 => visit_t hlb r w' (.pointer pr) (L ++ tl l ++ [x]) hr h1 h2 (by simp; omega))
    have HB0 := Lib.hid hb
    have HLB := Lib.hid hlb
    have hlen : (L ++ tl l).length < 1000000 := by simp; omega
    have HN := Lib.hid hN
    obtain ⟨x0, x1, x2⟩ := (HN.out.below hb).cells
    have xs := (HN.out.below hb).lt
    clear h hN hl hr hL hb hz hz' hll
    go_enter Try.func80, Try.ntmps80
    go_wp2_with fail
    refine IHL.out.mono ?_
    rintro e w2 ⟨rfl, h2, hb2⟩
    have HB2 := Lib.hid (HB0.out.trans (hb2.mono HLB.out))
    have HV2 := Lib.hid h2; have HC2 := Lib.hid hb2
    clear h2 hb2 x0 x1 x2 xs
    obtain ⟨x0, x1, x2⟩ := (HN.out.below HB2.out).cells
    have xs := (HN.out.below HB2.out).lt
    go_wp2_with fail
    refine (add1 HV2.out x hlen).mono ?_
    rintro e w3 ⟨rfl, h3, hb3⟩
    have HB3 := Lib.hid (HB2.out.trans (hb3.mono HLB.out))
    have HV3 := Lib.hid h3; have HC3 := Lib.hid (HC2.out.trans hb3)
    clear h3 hb3 x0 x1 x2 xs
    obtain ⟨x0, x1, x2⟩ := (HN.out.below HB3.out).cells
    have xs := (HN.out.below HB3.out).lt
    go_wp2_with fail
    refine (IHR.out w3 HB3.out HV3.out).mono ?_
    rintro e w4 ⟨rfl, h4, hb4⟩
    have HV4 := Lib.hid h4; have HC4 := Lib.hid (HC3.out.trans hb4)
    clear h4 hb4 x0 x1 x2 xs
    go_wp2
    go_end0
    refine ⟨rfl, ?_, HC4.out⟩
    have := HV4.out
    rw [show L ++ tl l ++ [x] ++ tl r = L ++ tl (.nd l x r) by simp [tl]] at this
    exact this
section
variable {tp fn : Nat} {caps : Array Value} {C : World → Prop} {J : Int → Prop} {o : Int → Int → Int}
set_option maxRecDepth 100000 in
theorem tall {w : World} {L : List Int} (h : TT tp fn caps C J o w L) (hl : L.length < 1000000) : Calls Try.prog 28 #[tptr tp] w fun e w' => ∃ v, e = .returned v ∧ OwnL 3 1 nenc w' w.heap.size v L ∧ Below w.heap.size w w' := by
  have hmf : ∀ (fn : Fn) (first cap : Array Value) (w : World), (Instr.makeFunc fn first cap).run Try.prog w = .ok (.func fn first cap) w := fun _ _ _ _ => rfl
  obtain ⟨p, t, hT, hn, rfl⟩ := h.t
  rw [tl_len] at hl
  have hb : Below w.heap.size w (w.alloc (.cells #[.slice none 0 0] 27)) := ba (Below.refl _ _) _
  have HT := Lib.hid (hT.below hb)
  have HV := Lib.hid (visit_t (W := w) (lb := w.heap.size) (Nat.le_refl _) t (w.alloc (.cells #[.slice none 0 0] 27)) (.pointer p) [] hn hb ⟨none, 0, 0, heap_alloc_new w _, OwnL.nil _ _ _ _ _⟩ (by simpa using hl))
  have HB := Lib.hid hb
  clear hT hn h hl hb
  go_enter Try.func28, Try.ntmps28
  go_wp2_with fail
  refine (ttop HT.out).mono ?_
  rintro e w1 ⟨rfl, rfl⟩
  go_wp2_with fail
  refine HV.out.mono ?_
  rintro e w2 ⟨rfl, h2, hb2⟩
  obtain ⟨a, n, c, hc, ho⟩ := h2.v
  have x0 := cell_hd hc 0
  simp only [List.getElem?_toArray, List.getElem?_cons_zero] at x0
  have HO := Lib.hid ho
  have HB2 := Lib.hid (HB.out.trans hb2)
  clear h2 hb2 hc ho
  go_wp2
  go_ret
  exact ⟨_, rfl, ownsRow_base HO.out (Nat.le_succ _), HB2.out⟩
end
end Go.Proofs.Ytajcelmnblncaaa

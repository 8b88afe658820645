/- queue: manciplelaw28.works. -/
import Derived.Test.YtnckjacbkhoppaaQ6
namespace Go.Proofs.Ytnckjacbkhoppaa
open Go.RowKit Go.Maps
attribute [local go_sem] ext_cell ext_frozen extC_cell extC_frozen Mix.calmUpon Mix.mUpon
/-- A slice of a whole block. -/
theorem rs_made {α : Type} {k : Nat} {enc : α → List Value} (hk : ∀ x, (enc x).length = k) {w : World} {b : Nat} {l : List α} {cap : Nat} {e : TypeId} {fz : Nat × Nat} (h : w.heap[b]? = some (.cells (l.flatMap enc).toArray e fz)) (hc : l.length ≤ cap) (hm : cap ≤ maxLen) :
    RS k enc w (.slice (some ⟨b, 0, none⟩) l.length cap) l := by
  refine ⟨_, cap, rfl, hc, hm, fun _ => ⟨b, 0, rfl, (Array.getElem?_eq_some_iff.1 h).1, fun i hi j u hu => ?_⟩⟩
  have hj : j < k := by
    have := (List.getElem?_eq_some_iff.1 hu).1
    rw [hk] at this; exact this
  have := flat_at hk l i hi j hj
  rw [hu] at this
  simp only [World.cell?, h, List.getElem?_toArray]
  rw [Nat.zero_add]; exact this
section
variable {w w' : World} {B qp M : Nat} {most : Int} {N N' : Nat} {T T' : List Pq} {F V A : Nat → Prop}
theorem QX.bel (h : QT w B qp M most N T F V) (hB : B ≤ w.heap.size) (hx : QX A w B qp M most N' T' F V w') : Below B w w' := by
  obtain ⟨F', V', -, -, -, hc, -, -⟩ := hx
  obtain ⟨S, L, -, -, -, -, c, -⟩ := h
  exact hc.below hB fun k hk => (c k hk).1
theorem QT.fb (h : QT w B qp M most N T F V) : (∀ k, F k → B ≤ k ∧ k < w.heap.size ∧ ¬ V k) ∧ ∀ k, V k → B ≤ k ∧ k < w.heap.size := by
  obtain ⟨S, L, -, -, -, -, c, d⟩ := h; exact ⟨c, d⟩
end
def w28 : List Ev := [⟨1, 4, 0, 0, .slice none 0 0, []⟩, ⟨2, 5, 0, 0, .slice none 0 0, []⟩, ⟨3, 4, 0, 0, .slice none 0 0, []⟩, ⟨4, 4, 0, 0, .slice none 0 0, []⟩]
theorem w28_put : cntM 2 (openM (openM [] 4) 4) (w28.map Ev.pl) = 3 := by decide
theorem w28_got : gotM (putM 2 (openM (openM [] 4) 4) (w28.map Ev.pl)) 4 1 = [(3, 4, 0, 0, [])] := rfl
theorem w28_long : ((fndP (takeM (putM 2 (openM (openM [] 4) 4) (w28.map Ev.pl)) 4 1) 4).map fun x => x.evs.length).getD 0 = 1 := by decide
theorem w28_lost : ((fndP (takeM (putM 2 (openM (openM [] 4) 4) (w28.map Ev.pl)) 4 1) 4).map fun x => x.lost).getD 0 = 1 := by decide
theorem w28_those : (takeM (putM 2 (openM (openM [] 4) 4) (w28.map Ev.pl)) 4 1).map Pq.frame = [4] := by decide
set_option maxRecDepth 100000 in
set_option maxHeartbeats 4000000 in
theorem works28 (W : World) : Calls Try.prog 67 #[] W fun e W' => e = .returned (.bool true) ∧ Below W.heap.size W W' := by
  go_enter Try.func67, Try.ntmps67
  go_wp2_with fail
  refine (qnew W (most := 2) (by decide)).mono ?_
  rintro e w1 ⟨rfl, h1, hb1⟩
  have H1 := Lib.hid h1; have HB1 := Lib.hid hb1
  clear h1 hb1
  obtain ⟨qp, hqp⟩ : ∃ qp, qp = W.heap.size + 1 := ⟨_, rfl⟩
  rw [← hqp] at H1
  rw [← hqp]
  clear hqp
  go_wp2_with fail
  refine (qopen H1.out HB1.out.size (k := 4) ⟨by decide, by decide⟩).mono ?_
  rintro e w2 ⟨rfl, hx2⟩
  have HB2 := Lib.hid (HB1.out.trans (hx2.bel H1.out HB1.out.size))
  obtain ⟨F2, V2, h2, -, -, -, -, -⟩ := hx2
  have H2 := Lib.hid h2
  clear h2
  rw [show (fndP [] 4).isNone = true from rfl]
  go_wp2_with fail
  refine (qopen H2.out HB2.out.size (k := 4) ⟨by decide, by decide⟩).mono ?_
  rintro e w3 ⟨rfl, hx3⟩
  have HB3 := Lib.hid (HB2.out.trans (hx3.bel H2.out HB2.out.size))
  obtain ⟨F3, V3, h3, -, -, -, -, -⟩ := hx3
  have H3 := Lib.hid h3
  clear h3
  rw [show (fndP (openM [] 4) 4).isNone = false from rfl]
  have hba := ba (Below.refl w3.heap.size w3) (.cells (w28.flatMap evenc).toArray 28)
  have HEL := Lib.hid (show EL (w3.alloc (.cells (w28.flatMap evenc).toArray 28)) (.slice (some ⟨w3.heap.size, 0, none⟩) 4 4) w28 from ⟨rs_made (cap := 4) evenc_len (heap_alloc_new w3 _) (Nat.le_refl _) (by decide), fun x hx => by
    simp only [w28, List.mem_cons, List.not_mem_nil, or_false] at hx
    rcases hx with rfl | rfl | rfl | rfl <;> exact Vc.nil _⟩)
  have HED := Lib.hid (show ED F3 (.slice (some ⟨w3.heap.size, 0, none⟩) 4 4) w28 from ⟨fun b hb hf => by
    cases hb
    have := (H3.out.fb.1 _ hf).2.1; simp at this, fun x hx => by
    simp only [w28, List.mem_cons, List.not_mem_nil, or_false] at hx
    rcases hx with rfl | rfl | rfl | rfl <;> exact .inl rfl⟩)
  have H3a := Lib.hid (H3.out.below hba)
  have HB3a := Lib.hid (HB3.out.trans (hba.mono HB3.out.size))
  clear hba
  go_wp2_with fail
  have hq := qput H3a.out HB3a.out.size HEL.out HED.out (fun b hb => by cases hb; simp) (fun x hx => by
    simp only [w28, List.mem_cons, List.not_mem_nil, or_false] at hx
    rcases hx with rfl | rfl | rfl | rfl <;> exact ⟨by decide, by decide⟩) (fun x hx => by
    simp only [w28, List.mem_cons, List.not_mem_nil, or_false] at hx
    rcases hx with rfl | rfl | rfl | rfl <;> decide) (by decide) (by decide)
  rw [w28_put] at hq
  refine hq.mono ?_
  rintro e w4 ⟨rfl, hx4⟩
  have HB4 := Lib.hid (HB3a.out.trans (hx4.bel H3a.out HB3a.out.size))
  obtain ⟨F4, V4, h4, -, -, -, -, -⟩ := hx4
  have H4 := Lib.hid h4
  clear h4 hq
  go_wp2_with fail
  refine (qtake H4.out HB4.out.size (k := 4) (n := 1) ⟨by decide, by decide⟩ (by decide)).mono ?_
  rintro e w5 ⟨u, lu, rfl, hu, hlu, hub, -, hx5⟩
  rw [w28_got] at hlu
  obtain ⟨y, rfl⟩ : ∃ y, lu = [y] := List.length_eq_one_iff.1 (by have := congrArg List.length hlu; simpa using this)
  have hyk : y.kind = 3 := by
    have := hlu; simp [Ev.pl] at this; exact this.1
  have HB5 := Lib.hid (HB4.out.trans (hx5.bel H4.out HB4.out.size))
  obtain ⟨F5, V5, h5, -, -, -, -, -⟩ := hx5
  have H5 := Lib.hid h5
  obtain ⟨a, n, cap, rfl, hn, hc, hm, hat⟩ := hu.rs.at_
  obtain rfl : n = 1 := hn
  obtain ⟨b, off, rfl, hb, hcell⟩ := hat 0 y rfl
  have c0 := hcell 0 _ rfl
  rw [hyk] at c0
  simp only [Nat.add_zero, Nat.zero_mul] at c0
  have hLo := qlost H5.out (k := 4) ⟨by decide, by decide⟩
  rw [w28_lost] at hLo
  have hLg := fun w6 (hb6 : Below w5.heap.size w5 w6) => qlong (H5.out.below hb6) (k := 4) ⟨by decide, by decide⟩
  rw [w28_long] at hLg
  have HLO := Lib.hid hLo; have HLG := Lib.hid hLg
  have HTH := Lib.hid (fun w6 (hb6 : Below w5.heap.size w5 w6) => qthose (H5.out.below hb6) (by decide))
  clear h5 hat hcell hu hub hlu hyk hLo hLg hm
  go_wp2_with fail
  refine HLO.out.mono ?_
  rintro e w6 ⟨rfl, hb6⟩
  have HB6 := Lib.hid hb6
  have c0' := (hb6.cell (p := ⟨b, off, none⟩) hb).trans c0
  have hb' : b < w6.heap.size := Nat.lt_of_lt_of_le hb hb6.size
  clear hb6 c0 hb
  go_wp2_with fail
  refine (HLG.out w6 HB6.out).mono ?_
  rintro e w7 ⟨rfl, hb7⟩
  have HB7 := Lib.hid (bt HB6.out hb7)
  clear hb7
  go_wp2_with fail
  refine (HTH.out w7 HB7.out).mono ?_
  rintro e w8 ⟨u8, rfl, hr8, -, hb8⟩
  rw [w28_those] at hr8
  obtain ⟨a8, n8, cap8, rfl, hn8, -, -, -⟩ := hr8.at_
  obtain rfl : n8 = 1 := hn8
  have HB8 := Lib.hid (bt HB7.out hb8)
  clear hr8 hb8
  go_wp2
  go_ret
  exact ⟨rfl, HB5.out.trans (HB8.out.mono HB5.out.size)⟩
end Go.Proofs.Ytnckjacbkhoppaa

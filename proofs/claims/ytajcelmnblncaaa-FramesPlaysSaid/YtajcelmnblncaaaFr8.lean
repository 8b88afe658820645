/- frames: Of, Roles; nil tables and plain ones. -/
import Derived.Test.YtajcelmnblncaaaFr7
namespace Go.Proofs.Ytajcelmnblncaaa
open Go.RowKit Go.Maps
attribute [local go_sem] ext_cell ext_frozen extC_cell extC_frozen Mix.calmUpon Mix.mUpon eqFr
def n1 (x : Int) : List Value := [.int .i64 x]
theorem infoI64 : (Try.prog.info? 2).map (fun i => (i.zero, i.size, i.bytes)) = some (some (.int .i64 0), 1, 8) := by kernel_rfl
theorem infoInt : (Try.prog.info? 3).map (fun i => (i.zero, i.size, i.bytes)) = some (some (.int .i64 0), 1, 8) := by kernel_rfl
theorem app_i64 {w : World} {base : Nat} {v : Value} {l : List Int} {b : Nat} (h : OwnL 2 1 n1 w base v l) (x : Int) (hx : w.cell? ⟨b, 0, none⟩ = some (.int .i64 x)) (hl : l.length < 1000000) (hb : base ≤ w.heap.size) :
    ∃ v' w', (Builtin.append_ #[63, 63] 63 #[v, .slice (some ⟨b, 0, none⟩) 1 1]).run Try.prog w = .ok v' w' ∧ OwnL 2 1 n1 w' base v' (l ++ [x]) ∧ w.grownBy w' v.ownBlock ∧ (v'.ownBlock = v.ownBlock ∨ v'.ownBlock = some w.heap.size) := by
  obtain ⟨i0, hi, hz0, hz1, hz2⟩ := info_parts infoI64
  exact OwnL.app h Try.underlying63 hi hz0 hz1 hz2 rfl (by decide) (fun _ => rfl) x (fun j u hj => by
      rcases j with _ | j <;> simp [n1] at hj
      subst hj; exact hx) (fun u hu => by simp [n1] at hu; subst hu; rfl) (by omega) (by unfold maxLen; omega) hb
theorem app_int {w : World} {base : Nat} {v : Value} {l : List Int} {b : Nat} (h : OwnL 3 1 n1 w base v l) (x : Int) (hx : w.cell? ⟨b, 0, none⟩ = some (.int .i64 x)) (hl : l.length < 1000000) (hb : base ≤ w.heap.size) :
    ∃ v' w', (Builtin.append_ #[27, 27] 27 #[v, .slice (some ⟨b, 0, none⟩) 1 1]).run Try.prog w = .ok v' w' ∧ OwnL 3 1 n1 w' base v' (l ++ [x]) ∧ w.grownBy w' v.ownBlock ∧ (v'.ownBlock = v.ownBlock ∨ v'.ownBlock = some w.heap.size) := by
  obtain ⟨i0, hi, hz0, hz1, hz2⟩ := info_parts infoInt
  exact OwnL.app h Try.underlying27 hi hz0 hz1 hz2 rfl (by decide) (fun _ => rfl) x (fun j u hj => by
      rcases j with _ | j <;> simp [n1] at hj
      subst hj; exact hx) (fun u hu => by simp [n1] at hu; subst hu; rfl) (by omega) (by unfold maxLen; omega) hb
/-- The numbers of those of a role. -/
def ofF (S : List Fr) (r : Int) : List Int := (S.filter fun f => decide (f.role = r)).map Fr.id
theorem ofF_snoc (S : List Fr) (x : Fr) (r : Int) : ofF (S ++ [x]) r = ofF S r ++ if x.role = r then [x.id] else [] := by
  unfold ofF
  rw [List.filter_append, List.map_append]
  by_cases h : x.role = r
  · rw [if_pos h, List.filter_cons, if_pos (by simpa using h)]; rfl
  · rw [if_neg h, List.filter_cons, if_neg (by simpa using h)]; rfl
theorem ofF_len (S : List Fr) (r : Int) : (ofF S r).length = cnt S r := by unfold ofF cnt; rw [List.length_map, List.countP_eq_length_filter]
/-- The roles that are there, up to n. -/
def rolesF (S : List Fr) : Nat → List Int
  | 0 => []
  | n + 1 => rolesF S n ++ if 0 < wtF S ((n + 1 : Nat) : Int) then [((n + 1 : Nat) : Int)] else []
theorem rolesF_len (S : List Fr) : ∀ n, (rolesF S n).length ≤ n
  | 0 => Nat.le_refl _
  | n + 1 => by
    have := rolesF_len S n
    rw [rolesF, List.length_append]
    split <;> simp <;> omega
/-- A list of numbers that a call answers, in new memory. -/
def RetN (w : World) (l : List Int) (e : Ending) (w' : World) : Prop := ∃ v, e = .returned v ∧ RS 1 n1 w' v l ∧ (∀ b, v.ownBlock = some b → w.heap.size ≤ b ∧ b < w'.heap.size) ∧ Below w.heap.size w w'
section
variable {w : World} {tp M : Nat} {cap : Int} {S : List Fr}
set_option maxRecDepth 100000 in
set_option maxHeartbeats 1000000 in
theorem froles (h : TS w tp M cap S) : Calls Try.prog 62 #[ptr tp] w (RetN w (rolesF S 32)) := by
  have H := Lib.hid h
  clear h
  go_enter Try.func62, Try.ntmps62
  go_wp2
  go_loopw [3, 4, 5, 6] (fun lv iv _ _ wr => ∃ t : Nat, t ≤ 32 ∧ iv = .int .i64 ((t + 1 : Nat) : Int) ∧ Hid (OwnL 3 1 n1 wr w.heap.size lv (rolesF S t) ∧ Below w.heap.size w wr)) (fun _ iv _ _ _ => 33 - (intOf iv).toNat)
  case atStart => exact ⟨0, Nat.zero_le _, rfl, Lib.hid ⟨OwnL.nil _ _ _ _ _, Below.refl _ _⟩⟩
  case round =>
    obtain ⟨t, ht, rfl, HQ⟩ := hrel
    obtain ⟨w1, rfl⟩ : ∃ w1, w1 = wr := ⟨_, rfl⟩
    by_cases hlt : t < 32
    · have hts : ((t + 1 : Nat) : Int) ≤ 32 := by omega
      have HRN := Lib.hid (show rolesF S (t + 1) = rolesF S t ++ if 0 < wtF S ((t + 1 : Nat) : Int) then [((t + 1 : Nat) : Int)] else [] from rfl)
      obtain ⟨r, hr⟩ : ∃ r : Nat, r = t + 1 := ⟨_, rfl⟩
      rw [← hr] at hts HRN ⊢
      have HR := Lib.hid hr
      clear hr
      go_wp2_with fail
      refine (fweight (H.out.below HQ.out.2) r).mono ?_
      rintro e w2 ⟨rfl, hb2⟩
      have HB2 := Lib.hid hb2
      have hq : IntKind.i64.wrap ((r : Int) + 1) = ((r + 1 : Nat) : Int) := by rw [IntWalk.i64_in _ (by omega)]; omega
      clear hb2
      by_cases hp : 0 < wtF S r
      · rw [show wtA S r = .tuple #[.int .i64 (wtF S r), .bool true] by unfold wtA; rw [decide_eq_true hp]]
        have hle : (rolesF S t).length < 1000000 := by have := rolesF_len S t; omega
        obtain ⟨v2, w3, hrun, o2, g2, _⟩ := app_int (b := w2.heap.size) ((HQ.out.1.below HB2.out).below (ba (Below.refl _ _) (.cells #[.int .i64 r] 3))) r (by simp [go_sem]) hle (by simp; have := HQ.out.2.size; have := HB2.out.size; omega)
        have HRA := Lib.hid hrun
        have HB := Lib.hid (show Below w.heap.size w w3 from (ba (bt HQ.out.2 HB2.out) _).grown g2 (by simp; have := HQ.out.2.size; have := HB2.out.size; omega) (fun j hj => (HQ.out.1.lt j hj).1))
        have O2 := Lib.hid (show OwnL 3 1 n1 w3 w.heap.size v2 (rolesF S r) by rw [HRN.out, if_pos hp]; exact o2)
        clear hp hrun o2 g2 hle
        go_wp2_with (at_builtin; refine wpList_app_run rfl _ _ _ rfl rfl rfl HRA.out ?_)
        go_roundw
        case rel => exact ⟨r, by have := HR.out; omega, by first | rfl | simp, Lib.hid ⟨O2.out, HB.out⟩⟩
        case measure => have := HR.out; simp [intOf]; omega
      · rw [show wtA S r = .tuple #[.int .i64 (wtF S r), .bool false] by unfold wtA; rw [decide_eq_false hp]]
        have HI := Lib.hid (show OwnL 3 1 n1 w2 w.heap.size u3 (rolesF S r) ∧ Below w.heap.size w w2 from ⟨by rw [HRN.out, if_neg hp, List.append_nil]; exact HQ.out.1.below HB2.out, bt HQ.out.2 HB2.out⟩)
        clear hp
        go_wp2
        go_roundw
        case rel => exact ⟨r, by have := HR.out; omega, by first | rfl | simp, HI⟩
        case measure => have := HR.out; simp [intOf]; omega
    · obtain rfl : t = 32 := by omega
      go_wp2
      go_ret
      exact ⟨u3, rfl, HQ.out.1.rs (fun _ => rfl), HQ.out.1.lt, HQ.out.2⟩
set_option maxRecDepth 100000 in
set_option maxHeartbeats 1000000 in
theorem fof (h : TS w tp M cap S) (r : Int) : Calls Try.prog 68 #[ptr tp, .int .i64 r] w (RetN w (ofF S r)) := by
  have H := Lib.hid h
  have hbg : S.length < 1000000 := by obtain ⟨_, _, h⟩ := h; exact h.big
  clear h
  go_enter Try.func68, Try.ntmps68
  go_wp2_with fail
  refine (fall H.out).mono ?_
  rintro e w1 ⟨v1, rfl, hrs, ho1, hb1⟩
  obtain ⟨a, n, cp, rfl, hn, hc, hm, hat⟩ := hrs.at_
  have HAT := Lib.hid hat; have HN := Lib.hid hn
  have HB1 := Lib.hid hb1
  have hnb : n < 1000000 := by omega
  have hw0 := hb1.size
  clear hat hrs ho1 hn hb1
  go_wp2
  go_loopw [5, 7, 11] (fun lv _ iv wr => ∃ t : Nat, t ≤ n ∧ iv = .int .i64 t ∧ Hid (OwnL 2 1 n1 wr w1.heap.size lv (ofF (S.take t) r) ∧ Below w1.heap.size w1 wr)) (fun _ _ iv _ => n - (intOf iv).toNat)
  case atStart => exact ⟨0, Nat.zero_le _, rfl, Lib.hid ⟨OwnL.nil _ _ _ _ _, Below.refl _ _⟩⟩
  case round =>
    obtain ⟨t, ht, rfl, HQ⟩ := hrel
    obtain ⟨w2, rfl⟩ : ∃ w2, w2 = wr := ⟨_, rfl⟩
    by_cases hlt : t < n
    · have hts : (t : Int) < (n : Int) := by omega
      obtain ⟨x, hx⟩ := at_lt (l := S) (i := t) (by rw [← HN.out]; exact hlt)
      obtain ⟨b, off, rfl, hb, hcell⟩ := HAT.out t x hx
      have e0 := (HQ.out.2.cell (p := ⟨b, off + t * 7 + 0, none⟩) hb).trans (hcell 0 _ rfl)
      have e1 := (HQ.out.2.cell (p := ⟨b, off + t * 7 + 1, none⟩) hb).trans (hcell 1 _ rfl)
      have e2 := (HQ.out.2.cell (p := ⟨b, off + t * 7 + 2, none⟩) hb).trans (hcell 2 _ rfl)
      have e3 := (HQ.out.2.cell (p := ⟨b, off + t * 7 + 3, none⟩) hb).trans (hcell 3 _ rfl)
      have e4 := (HQ.out.2.cell (p := ⟨b, off + t * 7 + 4, none⟩) hb).trans (hcell 4 _ rfl)
      have e5 := (HQ.out.2.cell (p := ⟨b, off + t * 7 + 5, none⟩) hb).trans (hcell 5 _ rfl)
      have e6 := (HQ.out.2.cell (p := ⟨b, off + t * 7 + 6, none⟩) hb).trans (hcell 6 _ rfl)
      simp only [Nat.add_zero] at e0
      have HX := Lib.hid (take_at hx)
      clear hcell hx
      have hw2 := HQ.out.2.size
      by_cases he : x.role = r
      · have heb : (x.role == r) = true := by simpa using he
        have HE := Lib.hid (show ofF (S.take (t + 1)) r = ofF (S.take t) r ++ [x.id] by rw [HX.out, ofF_snoc, if_pos he])
        have hle : (ofF (S.take t) r).length < 1000000 := by
          have h1 := ofF_len (S.take t) r
          have h2 := cnt_le (S.take t) r
          have h3 := List.length_take_le t S
          omega
        obtain ⟨v2, w3, hrun, o2, g2, _⟩ := app_i64 (b := w2.heap.size + 1) ((HQ.out.1.below (ba (ba (Below.refl _ _) (.cells #[.int .i64 x.id, .int .i64 x.role, .int .i64 x.weight, .bool x.up, .bool x.quiet, .int .i64 x.time, .int .i64 x.til] 114)) (.cells #[.int .i64 x.id] 2)))) x.id (by simp [go_sem]) hle (by simp; omega)
        have HRA := Lib.hid hrun
        have HB := Lib.hid (show Below w1.heap.size w1 w3 from (ba (ba HQ.out.2 _) _).grown g2 (by simp; omega) (fun j hj => (HQ.out.1.lt j hj).1))
        have O2 := Lib.hid o2
        clear he hrun o2 g2 hle
        go_wp2_with (at_builtin; refine wpList_app_run rfl _ _ _ rfl rfl rfl HRA.out ?_)
        go_roundw
        case rel => exact ⟨t + 1, by omega, by go_num, Lib.hid ⟨by rw [HE.out]; exact O2.out, HB.out⟩⟩
        case measure => simp [intOf]; omega
      · have heb : (x.role == r) = false := by simpa using he
        have HI := Lib.hid (show OwnL 2 1 n1 (w2.alloc (.cells #[.int .i64 x.id, .int .i64 x.role, .int .i64 x.weight, .bool x.up, .bool x.quiet, .int .i64 x.time, .int .i64 x.til] 114)) w1.heap.size u5 (ofF (S.take (t + 1)) r) ∧ Below w1.heap.size w1 (w2.alloc (.cells #[.int .i64 x.id, .int .i64 x.role, .int .i64 x.weight, .bool x.up, .bool x.quiet, .int .i64 x.time, .int .i64 x.til] 114)) from
          ⟨by rw [HX.out, ofF_snoc, if_neg he, List.append_nil]; exact HQ.out.1.below (ba (Below.refl _ _) _), ba HQ.out.2 _⟩)
        clear he
        go_wp2
        go_roundw
        case rel => exact ⟨t + 1, by omega, by go_num, HI⟩
        case measure => simp [intOf]; omega
    · obtain rfl : n = t := by omega
      have hT : S.take n = S := by rw [HN.out, List.take_length]
      have HQ2 := HQ.out
      rw [hT] at HQ2
      have HQ2 := Lib.hid HQ2
      clear hT HQ
      go_wp2
      go_ret
      exact ⟨u5, rfl, HQ2.out.1.rs (fun _ => rfl), fun b hb => by have := HQ2.out.1.lt b hb; omega, bt HB1.out HQ2.out.2⟩
end
/-! A nil table, and a plain one. -/
/-- No call made it. -/
def NoT (w : World) (p : Value) : Prop := p = .pointer none ∨ ∃ b, p = ptr b ∧ w.cell? ⟨b, 1, none⟩ = some (.map none)
theorem NoT.below {w w' : World} {p : Value} (h : NoT w p) (hl : ∀ b, p = ptr b → b < w.heap.size) (hb : Below w.heap.size w w') : NoT w' p := by
  rcases h with h | ⟨b, rfl, h⟩
  · exact .inl h
  · exact .inr ⟨b, rfl, (hb.cell (p := ⟨b, 1, none⟩) (hl b rfl)).trans h⟩
section
variable {w : World} {p : Value}
set_option maxRecDepth 100000 in
theorem made_no (h : NoT w p) : Calls Try.prog 101 #[p] w fun e w' => e = .returned (.bool false) ∧ Below w.heap.size w w' := by
  rcases h with rfl | ⟨b, rfl, h⟩
  · go_enter Try.func101, Try.ntmps101
    go_wp2
    go_ret
    exact ⟨rfl, Below.refl _ _⟩
  · have hmn := fun w : World => Go.run_neq_map_nil (P := Try.prog) w 124 _ _ none Try.underlying124
    go_enter Try.func101, Try.ntmps101
    go_wp2
    go_ret
    exact ⟨rfl, Below.refl _ _⟩
set_option maxRecDepth 100000 in
theorem sub_no (h : NoT w p) (a b c d : Int) : Calls Try.prog 70 #[p, .int .i64 a, .int .i64 b, .int .i64 c, .int .i64 d] w fun e w' => e = .returned (.tuple #[.bool false, .int .i64 40]) ∧ Below w.heap.size w w' := by
  have HM := Lib.hid (made_no h)
  clear h
  go_enter Try.func70, Try.ntmps70
  go_wp2_with fail
  refine HM.out.mono ?_
  rintro e w1 ⟨rfl, hb1⟩
  go_wp2
  go_ret2
  exact ⟨rfl, hb1⟩
set_option maxRecDepth 100000 in
theorem find_no (h : NoT w p) (hl : ∀ b, p = ptr b → b < w.heap.size) (k : Int) : Calls Try.prog 102 #[p, .int .i64 k] w fun e w' => e = .returned (.tuple #[fval fzero, .int .i64 40]) ∧ Below w.heap.size w w' := by
  have HM := Lib.hid (made_no (h.below hl (ba (Below.refl _ _) (.cells #[.int .i64 0, .int .i64 0, .int .i64 0, .bool false, .bool false, .int .i64 0, .int .i64 0] 114))))
  clear h hl
  go_enter Try.func102, Try.ntmps102
  go_wp2_with fail
  refine HM.out.mono ?_
  rintro e w1 ⟨rfl, hb1⟩
  obtain ⟨⟨y0, y1, y2, y3, y4, y5, y6⟩, ⟨z0, z1, z2, z3, z4, z5, z6⟩, hs1, hbb⟩ := new_fr (f := fzero) hb1
  have HBB := Lib.hid hbb
  have HFB := Lib.hid ((FB.made w fzero).below hb1)
  clear hb1 hbb
  go_wp2
  refine bodyPost_ret (v := .tuple #[fval fzero, .int .i64 40]) ?_ rfl ⟨rfl, ?_⟩
  · have hX := (HFB.out.set fzero)
    rw [results_cell_tmp Try.results102]
    simp [asAddr, Result.andThen, hX.load]
  · exact bset7 HBB.out (Nat.le_refl _) fzero
set_option maxRecDepth 100000 in
theorem disc_no (h : NoT w p) (hl : ∀ b, p = ptr b → b < w.heap.size) (k t : Int) : Calls Try.prog 71 #[p, .int .i64 k, .int .i64 t] w fun e w' => e = .returned (.int .i64 40) ∧ Below w.heap.size w w' := by
  have HM := Lib.hid (find_no h hl k)
  clear h hl
  go_enter Try.func71, Try.ntmps71
  go_wp2_with fail
  refine HM.out.mono ?_
  rintro e w1 ⟨rfl, hb1⟩
  go_wp2
  go_ret
  exact ⟨rfl, ba hb1 _⟩
set_option maxRecDepth 100000 in
theorem drop_no (h : NoT w p) (hl : ∀ b, p = ptr b → b < w.heap.size) (k : Int) : Calls Try.prog 72 #[p, .int .i64 k] w fun e w' => e = .returned (.bool false) ∧ Below w.heap.size w w' := by
  have HM := Lib.hid (find_no h hl k)
  clear h hl
  go_enter Try.func72, Try.ntmps72
  go_wp2_with fail
  refine HM.out.mono ?_
  rintro e w1 ⟨rfl, hb1⟩
  go_wp2
  go_ret
  exact ⟨rfl, ba hb1 _⟩
set_option maxRecDepth 100000 in
theorem all_no (h : NoT w p) : Calls Try.prog 66 #[p] w fun e w' => e = .returned (.slice none 0 0) ∧ Below w.heap.size w w' := by
  have HM := Lib.hid (made_no h)
  clear h
  go_enter Try.func66, Try.ntmps66
  go_wp2_with fail
  refine HM.out.mono ?_
  rintro e w1 ⟨rfl, hb1⟩
  go_wp2
  go_ret
  exact ⟨rfl, hb1⟩
end
end Go.Proofs.Ytajcelmnblncaaa

/- Tiers: a nil object. -/
import Derived.Test.YtgfjmafdfbghnaaGreatTpa
namespace Go.Proofs.YtgfjmafdfbghnaaGreat
open Go.RowKit Go.Maps
set_option maxRecDepth 100000 in
theorem timade_nil (w : World) : Calls Tryz.prog 39 #[.pointer none] w fun e w' => e = .returned (.bool false) ∧ w' = w := by
  go_enter Tryz.func39, Tryz.ntmps39
  go_wp2
  go_ret
  exact ⟨rfl, rfl⟩
set_option maxRecDepth 100000 in
theorem tput_nil (i r x : Int) (w : World) : Calls Tryz.prog 21 #[.pointer none, .int .i64 i, .int .i64 r, .int .i64 x] w fun e w' => e = .returned (.int .i64 40) ∧ w' = w := by
  go_enter Tryz.func21, Tryz.ntmps21
  go_wp2_with fail
  refine (timade_nil w).mono ?_
  rintro e w1 ⟨rfl, rfl⟩
  go_wp2
  go_ret
  exact ⟨rfl, rfl⟩
attribute [local go_sem] eqPr eqFn Oper.semAt_some
set_option maxRecDepth 100000 in
theorem twalk_stops_nil {w : World} {F : Nat → Prop} {Bn : Nat} (hB : w.cell? ⟨Bn, 0, none⟩ = some (.pointer none)) (hBl : Bn < w.heap.size) (hBF : ¬ F Bn) (n : Nat) (hn1 : 1 ≤ n) :
    SeqStopsK Fence.wide n Tryz.prog 58 #[.pointer (some ⟨Bn, 0, none⟩)] prv (Kw F w.heap.size) (fun xs => xs = []) (fun pre => pre <+: []) ([] : List (Int × Int)).length w := fun l J Jx W hW hJ hJx hY h0 => by
  have hb := (hW.cell (p := ⟨Bn, 0, none⟩) hBl).trans hB
  have hbl := Nat.lt_of_lt_of_le hBl hW.size
  refine callsIn_of_wp Tryz.func58 rfl trivial ?_ rfl
  simp only [Tryz.ntmps58, List.size_toArray, List.length_cons, List.length_nil, Nat.reduceAdd, Nat.reduceSub, Array.replicate_succ, Array.replicate_zero, List.push_toArray, List.append_toArray, List.nil_append, List.cons_append]
  have H0 := Lib.hid h0
  clear hY hJ hJx h0
  gi_wp2_with fail
  refine ⟨trivial, (callsIn_wide.2 (timade_nil W)).mono ?_⟩
  rintro e w1 ⟨rfl, rfl⟩
  gi_wp2
  refine bodyPost_ret (results_none rfl _ _ _) rfl ?_
  exact ⟨⟨_, rfl⟩, .inl ⟨[], rfl, H0.out⟩⟩
theorem twalk_stops_nil' {w : World} {F : Nat → Prop} {Bn : Nat} {Wk : List (Int × Int)} (hWk : Wk = []) (hB : w.cell? ⟨Bn, 0, none⟩ = some (.pointer none)) (hBl : Bn < w.heap.size) (hBF : ¬ F Bn) (n : Nat) (hn1 : 1 ≤ n) :
    SeqStopsK Fence.wide n Tryz.prog 58 #[.pointer (some ⟨Bn, 0, none⟩)] prv (Kw F w.heap.size) (fun xs => xs = Wk) (fun pre => pre <+: Wk) Wk.length w := by
  subst hWk; exact twalk_stops_nil hB hBl hBF n hn1
set_option maxRecDepth 100000 in
set_option maxHeartbeats 4000000 in
theorem walks10_nil {w : World} {lv : Value} {L Wk : List (Int × Int)} (hWk : Wk = []) (hL : RS 2 prenc w lv L) : Calls Tryz.prog 9 #[(.pointer none), lv] w fun e w' => e = .returned (.bool (decide (L = Wk))) ∧ Below w.heap.size w w' := by
  obtain ⟨a, n, cp, rfl, hn, hc, hm, hat⟩ := hL.at_
  have hn9 : n ≤ 9223372036854775807 := by unfold maxLen at hm; omega
  have HAT := Lib.hid hat; have HN := Lib.hid hn
  have HPL := Lib.hid (show Wk.length < 28800000 from by rw [hWk]; decide)
  obtain ⟨b0, hb0⟩ : ∃ b, b = w.heap.size := ⟨_, rfl⟩
  obtain ⟨b1, hb1⟩ : ∃ b, b = b0 + 1 := ⟨_, rfl⟩
  obtain ⟨b2, hb2⟩ : ∃ b, b = b1 + 1 := ⟨_, rfl⟩
  obtain ⟨b3, hb3⟩ : ∃ b, b = b2 + 1 := ⟨_, rfl⟩
  obtain ⟨w1, hw1⟩ : ∃ w1, w1 = ((w.alloc (.cells #[.slice a n cp] 35)).alloc (.cells #[.int .i64 0] 3)).alloc (.cells #[.bool true] 4) := ⟨_, rfl⟩
  obtain ⟨w2, hw2⟩ : ∃ w2, w2 = w1.alloc (.cells #[(.pointer none)] 23) := ⟨_, rfl⟩
  have s1 : w1.heap.size = b3 := by rw [hw1, hb3, hb2, hb1, hb0]; simp
  have s2 : w2.heap.size = b3 + 1 := by rw [hw2, ← s1]; simp
  have hB2 : Below w.heap.size w w2 := by rw [hw2, hw1]; exact ba (ba (ba (ba (Below.refl _ _) _) _) _) _
  have z1 : (w.alloc (.cells #[.slice a n cp] 35)).heap.size = b1 := by rw [hb1, hb0]; simp
  have z2 : ((w.alloc (.cells #[.slice a n cp] 35)).alloc (.cells #[.int .i64 0] 3)).heap.size = b2 := by rw [hb2, hb1, hb0]; simp
  have q0 : w2.heap[b0]? = some (.cells #[.slice a n cp] 35 (0, 0)) := by rw [hw2, hw1, hb0]; exact heap_new_below (ba (ba (ba (Below.refl _ _) _) _) _)
  have q1 : w2.heap[b1]? = some (.cells #[.int .i64 0] 3 (0, 0)) := by rw [hw2, hw1, ← z1]; exact heap_new_below (ba (ba (Below.refl _ _) _) _)
  have q2 : w2.heap[b2]? = some (.cells #[.bool true] 4 (0, 0)) := by rw [hw2, hw1, ← z2]; exact heap_new_below (ba (Below.refl _ _) _)
  have q3 : w2.heap[b3]? = some (.cells #[(.pointer none)] 23 (0, 0)) := by rw [hw2, ← s1]; exact heap_alloc_new w1 _
  have HS := Lib.hid s2; have HB2 := Lib.hid hB2; have HBB := Lib.hid (And.intro hb0 (And.intro hb1 (And.intro hb2 hb3)))
  have HQ := Lib.hid (And.intro q0 (And.intro q1 (And.intro q2 q3)))
  have HI0 := Lib.hid (show w2.cell? ⟨b3, 0, none⟩ = some ((.pointer none)) from by simp [World.cell?, q3])
  have hd : (b0 + 1 = b1) ∧ (b0 + 1 + 1 = b2) := ⟨hb1.symm, by rw [hb2, hb1]⟩
  have HD := Lib.hid hd
  clear hn hc hm hat hB2 q0 q1 q2 q3 hL hd s2 z1 z2
  refine (callsIn_wide (n := 5)).1 ?_
  refine callsIn_of_wp_marks Tryz.func9 rfl trivial ?_ rfl
  simp only [Tryz.ntmps9, List.size_toArray, List.length_cons, List.length_nil, Nat.reduceAdd, Nat.reduceSub, Array.replicate_succ, Array.replicate_zero, List.push_toArray, List.append_toArray, List.nil_append, List.cons_append]
  gi_wp2_with fail
  rw [← hb0, HD.out.2, HD.out.1, ← hw1]
  refine ⟨trivial, (callsIn_wide.2 (twalk ((.pointer none)) ⟨_, rfl⟩ w1)).mono ?_⟩
  rintro e w' ⟨rfl, hw'⟩
  rw [← hw2] at hw'
  subst hw'
  rw [s1]
  clear hb0 hb1 hb2 hb3 hw1 hw2 s1
  gi_wp2
  have HST := Lib.hid (twalk_stops_nil' hWk (F := fun k => k = b1 ∨ k = b2) (Bn := b3) HI0.out (by have := HS.out; omega) (by have := HBB.out; omega) 4 (by omega))
  refine wpIn_rangeFunc_ownF rfl (by omega) (gf := 58) (lb := #[.pointer (some ⟨b3, 0, none⟩)]) rfl trivial (enters_of Tryz.func58 (by kernel_rfl) rfl) HST.out (fun h k => h.trans k) (fun W l o o' hl h hc _ => Kw.putObj W l o o' hl h hc) (Below.refl _ _) (fun _ => rfl)
    (fun pre W => (W.heap[b0]? = some (.cells #[.slice a n cp] 35 (0, 0)) ∧ W.heap[b1]? = some (.cells #[.int .i64 pre.length] 3 (0, 0)) ∧ W.heap[b2]? = some (.cells #[.bool (gdW L pre)] 4 (0, 0))) ∧ Below w.heap.size w W)
    (fun _ _ _ => False)
    (fun s A B row hs hg hr => ⟨⟨heap_kept hs.1.1 hg (fun r e => (hr r e).2), heap_kept hs.1.2.1 hg (fun r e => (hr r e).2), heap_kept hs.1.2.2 hg (fun r e => (hr r e).2)⟩, hs.2.grown hg hs.2.size (fun k e => Nat.le_trans HB2.out.size (hr k e).1)⟩)
    (fun _ _ _ _ _ hs _ _ => hs)
    ⟨⟨HQ.out.1, HQ.out.2.1, by have := HQ.out.2.2.1; simpa [gdW] using this⟩, HB2.out⟩
    (fun x => { tmps := #[(.pointer none), .slice a n cp, undef, .pointer (some ⟨b0, 0, none⟩), .bool false, .pointer (some ⟨b1, 0, none⟩), .pointer (some ⟨b2, 0, none⟩), wkV b3, .int .i64 x.1, .int .i64 x.2, (.pointer none), wkV b3, wkV b3, .bool false, wkV b3, .int .i64 x.1, .int .i64 x.2, undef, undef, undef, undef, undef, undef, undef, undef, undef, undef, undef, undef, undef, undef, undef, undef, undef, undef, undef, undef, undef, undef, undef, undef, undef, undef], defers := [] }) ?assign ?body ?done ?stop
  case assign =>
    intro l x W K hK
    gi_wp2
    exact hK
  case body =>
    intro l pre x W hI hlen
    obtain ⟨⟨h0, h1, h2⟩, hB⟩ := hI
    have hlen' : pre.length < 28800000 := Nat.lt_trans hlen HPL.out
    have hne : b0 ≠ b1 ∧ b0 ≠ b2 ∧ b1 ≠ b2 := by have := HBB.out; omega
    have fin : ∀ (v : Bool), v = gdW L (pre ++ [x]) → ∀ m : Int, m = ((pre ++ [x]).length : Int) → ∀ W', W' = (W.setCell ⟨b2, 0, none⟩ (.bool v)).setCell ⟨b1, 0, none⟩ (.int .i64 m) →
        KeepsOthers W W' ∧ Kw (fun k => k = b1 ∨ k = b2) w'.heap.size W W' ∧ (W'.heap[b0]? = some (.cells #[.slice a n cp] 35 (0, 0)) ∧ W'.heap[b1]? = some (.cells #[.int .i64 (pre ++ [x]).length] 3 (0, 0)) ∧ W'.heap[b2]? = some (.cells #[.bool (gdW L (pre ++ [x]))] 4 (0, 0))) ∧ Below w.heap.size w W' := fun v hv m hm W' hW' => by
      subst hW'
      rw [← hv, ← hm]
      refine ⟨(KeepsOthers.setCell _ _ _).trans (KeepsOthers.setCell _ _ _), Kw.of_chg (((Chg.refl _ W).setCell (p := ⟨b2, 0, none⟩) (.inl (.inr rfl)) _).setCell (p := ⟨b1, 0, none⟩) (.inl (.inl rfl)) _), ⟨?_, ?_, ?_⟩, ?_⟩
      · exact (Below.heap_setCell _ ⟨b1, 0, none⟩ _ b0 hne.1).trans ((Below.heap_setCell _ ⟨b2, 0, none⟩ _ b0 hne.2.1).trans h0)
      · exact heap_setCell_at _ ((Below.heap_setCell _ ⟨b2, 0, none⟩ _ b1 hne.2.2).trans h1)
      · exact (Below.heap_setCell _ ⟨b1, 0, none⟩ _ b2 (Ne.symm hne.2.2)).trans (heap_setCell_at _ h2)
      · exact (hB.setCell (p := ⟨b2, 0, none⟩) (by have := HBB.out; show w.heap.size ≤ b2; omega) _).setCell (p := ⟨b1, 0, none⟩) (by have := HBB.out; show w.heap.size ≤ b1; omega) _
    have hsn := gdW_snoc L pre x
    obtain ⟨g, hg⟩ : ∃ g, g = gdW L pre := ⟨_, rfl⟩
    rw [← hg] at h2 hsn
    have e0 : W.cell? ⟨b0, 0, none⟩ = some (.slice a n cp) := by simp [World.cell?, h0]
    have e1 : W.cell? ⟨b1, 0, none⟩ = some (.int .i64 pre.length) := by simp [World.cell?, h1]
    have f1 : W.frozen? ⟨b1, 0, none⟩ = false := by simp [World.frozen?, h1]
    have e2 : W.cell? ⟨b2, 0, none⟩ = some (.bool g) := by simp [World.cell?, h2]
    have f2 : W.frozen? ⟨b2, 0, none⟩ = false := by simp [World.frozen?, h2]
    have k0 := (Array.getElem?_eq_some_iff.1 h0).1; have k1 := (Array.getElem?_eq_some_iff.1 h1).1; have k2 := (Array.getElem?_eq_some_iff.1 h2).1
    have HFIN := Lib.hid fin
    have HSN := Lib.hid hsn; have HB := Lib.hid hB
    have hne1 := hne.1; have hne2 := hne.2.1; have hne3 := hne.2.2
    clear fin hsn hg hlen h0 h1 h2 hB hne
    cases g with
    | false =>
      gi_wp2
      exact HFIN.out _ (by rw [HSN.out]; rfl) _ (by simp) _ rfl
    | true =>
      by_cases hlt : pre.length < n
      · have hls : (pre.length : Int) < (n : Int) := by omega
        obtain ⟨y, hy⟩ := at_lt (l := L) (i := pre.length) (by rw [← HN.out]; exact hlt)
        obtain ⟨b, off, rfl, hb, hcell⟩ := HAT.out _ y hy
        have c0 := (HB.out.cell (p := ⟨b, off + pre.length * 2 + 0, none⟩) hb).trans (hcell 0 _ rfl)
        have c1 := (HB.out.cell (p := ⟨b, off + pre.length * 2 + 1, none⟩) hb).trans (hcell 1 _ rfl)
        simp only [Nat.add_zero] at c0 c1
        have cl := Nat.lt_of_lt_of_le hb HB.out.size
        have hsn := HSN.out
        rw [hy] at hsn
        have HSY := Lib.hid hsn
        clear hsn hcell hy hb
        by_cases y1 : y.1 = x.1
        · by_cases y2 : y.2 = x.2
          · have HE := Lib.hid (show true = gdW L (pre ++ [x]) from by rw [HSY.out]; have : y = x := Prod.ext y1 y2; simp [this])
            have z1 : (y.1 == x.1) = true := by simpa using y1
            have z2 : (y.2 == x.2) = true := by simpa using y2
            clear y1 y2 HSY HSN
            gi_wp2
            exact HFIN.out _ HE.out _ (by simp) _ rfl
          · have HE := Lib.hid (show false = gdW L (pre ++ [x]) from by rw [HSY.out]; have : y ≠ x := fun e => y2 (by rw [e]); simp [this])
            have z1 : (y.1 == x.1) = true := by simpa using y1
            have z2 : (y.2 == x.2) = false := by simpa using y2
            clear y1 y2 HSY HSN
            gi_wp2
            exact HFIN.out _ HE.out _ (by simp) _ rfl
        · have HE := Lib.hid (show false = gdW L (pre ++ [x]) from by rw [HSY.out]; have : y ≠ x := fun e => y1 (by rw [e]); simp [this])
          have z1 : (y.1 == x.1) = false := by simpa using y1
          clear y1 HSY HSN
          gi_wp2
          exact HFIN.out _ HE.out _ (by simp) _ rfl
      · have hls : ¬ (pre.length : Int) < (n : Int) := by omega
        have HE := Lib.hid (show false = gdW L (pre ++ [x]) from by rw [HSN.out, List.getElem?_eq_none (by rw [← HN.out]; omega)]; rfl)
        clear HSN
        gi_wp2
        exact HFIN.out _ HE.out _ (by simp) _ rfl
  case done =>
    intro E xs W hE hS hI hK
    have HSX := Lib.hid (show xs = Wk from hS)
    obtain ⟨⟨h0, h1, h2⟩, hB⟩ := hI
    obtain ⟨g, hg⟩ : ∃ g, g = gdW L xs := ⟨_, rfl⟩
    rw [← hg] at h2
    have e0 : W.cell? ⟨b0, 0, none⟩ = some (.slice a n cp) := by simp [World.cell?, h0]
    have e1 : W.cell? ⟨b1, 0, none⟩ = some (.int .i64 xs.length) := by simp [World.cell?, h1]
    have e2 : W.cell? ⟨b2, 0, none⟩ = some (.bool g) := by simp [World.cell?, h2]
    have k0 := (Array.getElem?_eq_some_iff.1 h0).1; have k1 := (Array.getElem?_eq_some_iff.1 h1).1; have k2 := (Array.getElem?_eq_some_iff.1 h2).1
    have HA := Lib.hid (show decide (L = Wk) = (g && decide (xs.length = n)) from by rw [hg, HN.out, gdW_all, ← HSX.out])
    have HBE := Lib.hid (hB.trans (belowK_b (w := w) (Nat.le_refl _) W E _ (.deferred none) (by have := HB2.out.size; omega) hK rfl rfl))
    have HK := Lib.hid hK
    clear hg hS hB hE h0 h1 h2 hK
    cases g with
    | false =>
      gi_wp2
      refine ⟨by simp, .inl ⟨_, _, rfl, run_takeDeferred HK.out, ?_⟩⟩
      exact ⟨_, results_tmp rfl _ _ _, by rw [HA.out]; rfl, HBE.out⟩
    | true =>
      by_cases hx : xs.length = n
      · have hx' : ((xs.length : Int) == (n : Int)) = true := by simp [hx]
        have HA2 := Lib.hid (show decide (L = Wk) = true from by rw [HA.out]; simp [hx])
        clear hx
        gi_wp2
        refine ⟨by simp, .inl ⟨_, _, rfl, run_takeDeferred HK.out, ?_⟩⟩
        exact ⟨_, results_tmp rfl _ _ _, by rw [HA2.out]; rfl, HBE.out⟩
      · have hx' : ((xs.length : Int) == (n : Int)) = false := by simp; omega
        have HA2 := Lib.hid (show decide (L = Wk) = false from by rw [HA.out]; simp [hx])
        clear hx
        gi_wp2
        refine ⟨by simp, .inl ⟨_, _, rfl, run_takeDeferred HK.out, ?_⟩⟩
        exact ⟨_, results_tmp rfl _ _ _, by rw [HA2.out]; rfl, HBE.out⟩
  case stop =>
    rintro E c pre W _ _ h _
    exact h.elim
set_option maxRecDepth 100000 in
set_option maxHeartbeats 4000000 in
theorem tpick_nil {w : World} {v : Value} {l : List Int} (hs : RS 1 n1 w v l) (hsp : Spl v) (hvb : ∀ b, v.ownBlock = some b → b < w.heap.size) (hll : l.length < 1000000) : Calls Tryz.prog 19 #[(.pointer none), v] w fun e w' => e = .returned (.tuple #[.int .i64 0, .bool false]) ∧ Below w.heap.size w w' := by
  obtain ⟨Wk, hWk⟩ : ∃ Wk : List (Int × Int), Wk = [] := ⟨_, rfl⟩
  obtain ⟨O, hO⟩ : ∃ O : Option (Int × Int), O = none := ⟨_, rfl⟩
  have HO := Lib.hid (show O = Wk.find? fun x => l.contains x.2 from by rw [hO, hWk]; rfl)
  have HON := Lib.hid hO; have HWK := Lib.hid hWk
  clear hO hWk
  obtain ⟨a, n, cp, rfl⟩ : ∃ a n c, v = .slice a n c := by
    obtain ⟨a, n, c, rfl, -⟩ := hs.at_; exact ⟨_, _, _, rfl⟩
  have HS := Lib.hid hs; have HSP := Lib.hid hsp; have HLL := Lib.hid hll
  obtain ⟨b0, hb0⟩ : ∃ b, b = w.heap.size := ⟨_, rfl⟩
  obtain ⟨b1, hb1⟩ : ∃ b, b = b0 + 1 := ⟨_, rfl⟩
  obtain ⟨b2, hb2⟩ : ∃ b, b = b1 + 1 := ⟨_, rfl⟩
  obtain ⟨w1, hw1⟩ : ∃ w1, w1 = ((w.alloc (.cells #[.slice a n cp] 57)).alloc (.cells #[.int .i64 0] 2)).alloc (.cells #[.bool false] 4) := ⟨_, rfl⟩
  have s1 : w1.heap.size = b2 + 1 := by rw [hw1, hb2, hb1, hb0]; simp
  have z1 : (w.alloc (.cells #[.slice a n cp] 57)).heap.size = b1 := by rw [hb1, hb0]; simp
  have z2 : ((w.alloc (.cells #[.slice a n cp] 57)).alloc (.cells #[.int .i64 0] 2)).heap.size = b2 := by rw [hb2, hb1, hb0]; simp
  have hB1 : Below w.heap.size w w1 := by rw [hw1]; exact ba (ba (ba (Below.refl _ _) _) _) _
  have q0 : w1.heap[b0]? = some (.cells #[.slice a n cp] 57 (0, 0)) := by rw [hw1, hb0]; exact heap_new_below (ba (ba (Below.refl _ _) _) _)
  have q1 : w1.heap[b1]? = some (.cells #[.int .i64 0] 2 (0, 0)) := by rw [hw1, ← z1]; exact heap_new_below (ba (Below.refl _ _) _)
  have q2 : w1.heap[b2]? = some (.cells #[.bool false] 4 (0, 0)) := by rw [hw1, ← z2]; exact heap_new_below (Below.refl _ _)
  have HQ1 := Lib.hid (And.intro q0 (And.intro q1 q2)); have HB1 := Lib.hid hB1; have HS1 := Lib.hid s1
  have HBB := Lib.hid (And.intro hb0 (And.intro hb1 hb2))
  have HD := Lib.hid (show (b0 + 1 = b1) ∧ (b0 + 1 + 1 = b2) from ⟨hb1.symm, by rw [hb2, hb1]⟩)
  clear hs hsp hll q1 q2 hB1 z1 z2 s1
  refine (callsIn_wide (n := 5)).1 ?_
  refine callsIn_of_wp_marks Tryz.func19 rfl trivial ?_ rfl
  simp only [Tryz.ntmps19, List.size_toArray, List.length_cons, List.length_nil, Nat.reduceAdd, Nat.reduceSub, Array.replicate_succ, Array.replicate_zero, List.push_toArray, List.append_toArray, List.nil_append, List.cons_append]
  gi_wp2_with fail
  rw [← hb0, HD.out.2, HD.out.1, ← hw1]
  clear hb0 hb1 hb2 hw1
  refine ⟨trivial, (callsIn_wide.2 (iclone (HS.out.below HB1.out) HSP.out HLL.out)).mono ?_⟩
  rintro e w2 ⟨v2, rfl, hv2, hb2⟩
  obtain ⟨a2, m2, c2, rfl⟩ := hv2.spelled
  have r0 : w2.heap[b0]? = some (.cells #[.slice a n cp] 57 (0, 0)) := (hb2.block b0 (by have := HS1.out; have := HBB.out; omega)).trans q0
  have e0 : w2.cell? ⟨b0, 0, none⟩ = some (.slice a n cp) := by simp [World.cell?, r0]
  have f0 : w2.frozen? ⟨b0, 0, none⟩ = false := by simp [World.frozen?, r0]
  have k0 := (Array.getElem?_eq_some_iff.1 r0).1
  obtain ⟨w3, hw3⟩ : ∃ w3, w3 = w2.setCell ⟨b0, 0, none⟩ (.slice a2 m2 c2) := ⟨_, rfl⟩
  have hst : Chg (fun k => k = b0) w2 w3 := by rw [hw3]; exact (Chg.refl (fun k => k = b0) w2).setCell (p := ⟨b0, 0, none⟩) (.inl rfl) _
  have g0 : w3.heap[b0]? = some (.cells #[.slice a2 m2 c2] 57 (0, 0)) := by rw [hw3]; exact heap_setCell_at _ r0
  have o3 := hv2.chg hst fun k hk e => by have := (hv2.lt k hk).1; have := HS1.out; have := HBB.out; omega
  have HO3 := Lib.hid o3; have HG0 := Lib.hid g0
  have HC3 := Lib.hid ((Chg.of_below (fun k => k = b0) hb2).same hst)
  have e3 : w3.cell? ⟨b0, 0, none⟩ = some (.slice a2 m2 c2) := by simp [World.cell?, g0]
  have k3 := (Array.getElem?_eq_some_iff.1 g0).1
  clear hv2 hb2 r0 q0 hst g0 o3
  gi_wp2_with fail
  rw [← hw3]
  clear hw3 e0 f0 k0
  refine ⟨trivial, (callsIn_wide.2 (isort9 HO3.out HLL.out)).mono ?_⟩
  rintro e w4 ⟨rfl, hs4, hc4⟩
  clear e3 k3
  obtain ⟨b3, hb3⟩ : ∃ b, b = w4.heap.size := ⟨_, rfl⟩
  obtain ⟨w5, hw5⟩ : ∃ x, x = w4.alloc (.cells #[(.pointer none)] 23) := ⟨_, rfl⟩
  gi_wp2_with fail
  refine ⟨trivial, (callsIn_wide.2 (twalk ((.pointer none)) ⟨_, rfl⟩ w4)).mono ?_⟩
  rintro e w' ⟨rfl, hw'⟩
  rw [← hw5] at hw'
  subst hw'
  rw [← hb3]
  have hov := HO3.out.lt
  have hbb := HBB.out
  have hs1 := HS1.out
  have hb1' := HB1.out.size
  have hc3s := HC3.out.size
  have hB4 : Below w.heap.size w w4 := (HB1.out.trans (HC3.out.below (by omega) fun k e => by have e : k = b0 := e; omega)).trans (hc4.below (by omega) fun k e => by have := (hov k e).1; omega)
  have hB5 : Below w.heap.size w w' := by rw [hw5]; exact ba hB4 _
  have t0 : w4.heap[b0]? = some (.cells #[.slice a2 m2 c2] 57 (0, 0)) := (hc4.block b0 (Array.getElem?_eq_some_iff.1 HG0.out).1 fun e => by have := (hov b0 e).1; omega).trans HG0.out
  have t1 : w4.heap[b1]? = some (.cells #[.int .i64 0] 2 (0, 0)) := (hc4.block b1 (by omega) fun e => by have := (hov b1 e).1; omega).trans ((HC3.out.block b1 (by omega) (by omega)).trans HQ1.out.2.1)
  have t2 : w4.heap[b2]? = some (.cells #[.bool false] 4 (0, 0)) := (hc4.block b2 (by omega) fun e => by have := (hov b2 e).1; omega).trans ((HC3.out.block b2 (by omega) (by omega)).trans HQ1.out.2.2)
  have hl4 : b2 < w4.heap.size := (Array.getElem?_eq_some_iff.1 t2).1
  have hb45 : Below w4.heap.size w4 w' := by rw [hw5]; exact ba (Below.refl _ _) _
  have u0 := (hb45.block b0 (by omega)).trans t0
  have u1 := (hb45.block b1 (by omega)).trans t1
  have u2 := (hb45.block b2 (by omega)).trans t2
  have u3 : w'.heap[b3]? = some (.cells #[(.pointer none)] 23 (0, 0)) := by rw [hw5, hb3]; exact heap_alloc_new w4 _
  have HI0 := Lib.hid (And.intro u0 (And.intro u1 (And.intro u2 (And.intro (hs4.below hb45) hB5))))
  have HC5 := Lib.hid (show w'.cell? ⟨b3, 0, none⟩ = some ((.pointer none)) from by simp [World.cell?, u3])
  have HL5 := Lib.hid (show b3 < w'.heap.size from (Array.getElem?_eq_some_iff.1 u3).1)
  have HSP2 := Lib.hid HO3.out.spl
  have HSZ := Lib.hid (show w.heap.size ≤ b1 ∧ w.heap.size ≤ b2 ∧ b0 ≠ b1 ∧ b0 ≠ b2 ∧ b1 ≠ b2 from by omega)
  clear hov hbb hs1 hb1' hc3s hB4 hB5 t0 t1 t2 hl4 hb45 u0 u1 u2 u3 hs4 hc4 hb3 hw5 HO3 HG0 HC3 HQ1 HB1 HS1 HD HBB HS HSP
  gi_wp2
  have HST := Lib.hid (twalk_stops_nil' HWK.out (F := fun _ => False) (Bn := b3) HC5.out HL5.out id 4 (by omega))
  refine wpIn_rangeFunc_ownF rfl (by omega) (gf := 58) (lb := #[.pointer (some ⟨b3, 0, none⟩)]) rfl trivial (enters_of Tryz.func58 (by kernel_rfl) rfl) HST.out (fun h k => h.trans k) (fun W l o o' hl h hc _ => Kw.putObj W l o o' hl h hc) (Below.refl _ _) (fun _ => rfl)
    (fun pre W => (∀ x ∈ pre, l.contains x.2 = false) ∧ (W.heap[b0]? = some (.cells #[.slice a2 m2 c2] 57 (0, 0)) ∧ W.heap[b1]? = some (.cells #[.int .i64 0] 2 (0, 0)) ∧ W.heap[b2]? = some (.cells #[.bool false] 4 (0, 0)) ∧ RS 1 n1 W (.slice a2 m2 c2) (srt64 l)) ∧ Below w.heap.size w W)
    (fun c pre W => c = .ret ∧ (∃ q x, pre = q ++ [x] ∧ (∀ y ∈ q, l.contains y.2 = false) ∧ l.contains x.2 = true ∧ W.heap[b1]? = some (.cells #[.int .i64 x.2] 2 (0, 0)) ∧ W.heap[b2]? = some (.cells #[.bool true] 4 (0, 0))) ∧ Below w.heap.size w W)
    (fun s A B row hs hg hr => ⟨hs.1, ⟨heap_kept hs.2.1.1 hg (fun r e => (hr r e).2), heap_kept hs.2.1.2.1 hg (fun r e => (hr r e).2), heap_kept hs.2.1.2.2.1 hg (fun r e => (hr r e).2), hs.2.1.2.2.2.kept (by decide) n1_len hg (fun r e => (hr r e).2)⟩, hs.2.2.grown hg hs.2.2.size (fun k e => Nat.le_trans HI0.out.2.2.2.2.size (hr k e).1)⟩)
    (fun c s A B row hs hg hr => by
      obtain ⟨h1, ⟨q, x, h2, h3, h4, h5, h6⟩, h7⟩ := hs
      exact ⟨h1, ⟨q, x, h2, h3, h4, heap_kept h5 hg (fun r e => (hr r e).2), heap_kept h6 hg (fun r e => (hr r e).2)⟩, h7.grown hg h7.size (fun k e => Nat.le_trans HI0.out.2.2.2.2.size (hr k e).1)⟩)
    ⟨fun x hx => by (cases hx), ⟨HI0.out.1, HI0.out.2.1, HI0.out.2.2.1, HI0.out.2.2.2.1⟩, HI0.out.2.2.2.2⟩
    (fun x => { tmps := #[(.pointer none), .slice a n cp, undef, .pointer (some ⟨b0, 0, none⟩), .pointer (some ⟨b1, 0, none⟩), .pointer (some ⟨b2, 0, none⟩), undef, .int .i64 x.2, undef, undef, .slice a n cp, .slice a2 m2 c2, .slice a2 m2 c2, .tuple #[], (.pointer none), wkV b3, .int .i64 x.1, .int .i64 x.2, undef, undef, undef, undef, undef, undef, undef, undef], defers := [] }) ?assign ?body ?done ?stop
  case assign =>
    intro l x W K hK
    gi_wp2
    exact hK
  case body =>
    intro lr pre x W hI hlen
    obtain ⟨hp, ⟨h0, h1, h2, hr⟩, hB⟩ := hI
    have e0 : W.cell? ⟨b0, 0, none⟩ = some (.slice a2 m2 c2) := by simp [World.cell?, h0]
    have k0 := (Array.getElem?_eq_some_iff.1 h0).1
    gi_wp2_with fail
    refine ⟨trivial, (CallsIn.inRound lr (callsIn_wide.2 (isearch hr HSP2.out (by rw [(srt64_perm l).length_eq]; exact HLL.out) (srt64_le l) x.2))).mono ?_⟩
    rintro e W2 ⟨⟨i, rfl⟩, q, hW2⟩
    have hcx : (srt64 l).contains x.2 = l.contains x.2 := by
      rw [Bool.eq_iff_iff, List.contains_iff_mem, List.contains_iff_mem]; exact (srt64_perm l).mem_iff
    rw [hcx]
    have hb2 : Below W.heap.size W W2 := by rw [hW2]; exact ⟨rfl, rfl, rfl, Nat.le_refl _, fun _ _ => rfl⟩
    obtain ⟨g, hg⟩ : ∃ g, g = l.contains x.2 := ⟨_, rfl⟩
    rw [← hg]
    have HG := Lib.hid hg
    have r0 := (hb2.block b0 (Array.getElem?_eq_some_iff.1 h0).1).trans h0
    have r1 := (hb2.block b1 (Array.getElem?_eq_some_iff.1 h1).1).trans h1
    have r2 := (hb2.block b2 (Array.getElem?_eq_some_iff.1 h2).1).trans h2
    have e1 : W2.cell? ⟨b1, 0, none⟩ = some (.int .i64 0) := by simp [World.cell?, r1]
    have f1 : W2.frozen? ⟨b1, 0, none⟩ = false := by simp [World.frozen?, r1]
    have e2 : W2.cell? ⟨b2, 0, none⟩ = some (.bool false) := by simp [World.cell?, r2]
    have f2 : W2.frozen? ⟨b2, 0, none⟩ = false := by simp [World.frozen?, r2]
    have k1 := (Array.getElem?_eq_some_iff.1 r1).1; have k2 := (Array.getElem?_eq_some_iff.1 r2).1
    have HKO := Lib.hid (KeepsOthers.of_grownBy (grown_none hb2) (fun j o e => by cases e))
    have HKW := Lib.hid (Kw.of_chg (F := fun _ => False) (m := w'.heap.size) (Chg.of_below _ hb2))
    have HRS := Lib.hid (hr.below hb2)
    have HBL := Lib.hid (hB.trans (hb2.mono hB.size))
    have HR := Lib.hid (And.intro r0 (And.intro r1 r2)); have HP := Lib.hid hp
    clear hg hW2 hcx hb2 h0 h1 h2 hr hB e0 k0 hp r0 r1 r2 hlen
    cases g with
    | false =>
      gi_wp2
      refine ⟨HKO.out, HKW.out, fun y hy => ?_, ⟨HR.out.1, HR.out.2.1, HR.out.2.2, HRS.out⟩, HBL.out⟩
      rcases List.mem_append.1 hy with hy | hy
      · exact HP.out y hy
      · rw [List.mem_singleton.1 hy]; exact HG.out.symm
    | true =>
      have hne12 := HSZ.out.2.2.2.2
      have hne21 := Ne.symm hne12
      gi_wp2
      refine ⟨HKO.out.trans ((KeepsOthers.setCell _ _ _).trans (KeepsOthers.setCell _ _ _)), rfl, ⟨pre, x, rfl, HP.out, HG.out.symm, ?_, ?_⟩, ?_⟩
      · exact (Below.heap_setCell _ ⟨b2, 0, none⟩ _ b1 HSZ.out.2.2.2.2).trans (heap_setCell_at _ HR.out.2.1)
      · exact heap_setCell_at _ ((Below.heap_setCell _ ⟨b1, 0, none⟩ _ b2 (Ne.symm HSZ.out.2.2.2.2)).trans HR.out.2.2)
      · exact (HBL.out.setCell (p := ⟨b1, 0, none⟩) HSZ.out.1 _).setCell (p := ⟨b2, 0, none⟩) HSZ.out.2.1 _
  case done =>
    intro E xs W hE hS hI hK
    have HF := Lib.hid (show O = none from by
      have hS : xs = Wk := hS
      rw [HO.out, ← hS]
      exact List.find?_eq_none.2 fun y hy => by rw [hI.1 y hy]; simp)
    obtain ⟨hp, ⟨h0, h1, h2, hr⟩, hB⟩ := hI
    have e1 : W.cell? ⟨b1, 0, none⟩ = some (.int .i64 0) := by simp [World.cell?, h1]
    have f1 : W.frozen? ⟨b1, 0, none⟩ = false := by simp [World.frozen?, h1]
    have e2 : W.cell? ⟨b2, 0, none⟩ = some (.bool false) := by simp [World.cell?, h2]
    have f2 : W.frozen? ⟨b2, 0, none⟩ = false := by simp [World.frozen?, h2]
    have k1 := (Array.getElem?_eq_some_iff.1 h1).1; have k2 := (Array.getElem?_eq_some_iff.1 h2).1
    obtain ⟨W8, hW8⟩ : ∃ W8, W8 = (W.setCell ⟨b1, 0, none⟩ (.int .i64 0)).setCell ⟨b2, 0, none⟩ (.bool false) := ⟨_, rfl⟩
    have hK8 : W8.heap[E]? = some (.deferred (some [])) := by rw [hW8]; exact (KeepsOthers.setCell _ _ _).same E _ ((KeepsOthers.setCell _ _ _).same E _ hK rfl) rfl
    have c1 : W8.heap[b1]? = some (.cells #[.int .i64 0] 2 (0, 0)) := by rw [hW8]; exact (Below.heap_setCell _ ⟨b2, 0, none⟩ _ b1 HSZ.out.2.2.2.2).trans (heap_setCell_at _ h1)
    have c2 : W8.heap[b2]? = some (.cells #[.bool false] 4 (0, 0)) := by rw [hW8]; exact heap_setCell_at _ ((Below.heap_setCell _ ⟨b1, 0, none⟩ _ b2 (Ne.symm HSZ.out.2.2.2.2)).trans h2)
    have hB8 : Below w.heap.size w W8 := by rw [hW8]; exact (hB.setCell (p := ⟨b1, 0, none⟩) HSZ.out.1 _).setCell (p := ⟨b2, 0, none⟩) HSZ.out.2.1 _
    have HE := Lib.hid (hB8.trans (belowK_b (w := w) (Nat.le_refl _) W8 E _ (.deferred none) (by have := HI0.out.2.2.2.2.size; omega) hK8 rfl rfl))
    have HC1 := Lib.hid (heap_kept c1 (grownBy_putObj' W8 E (.deferred none)) (fun r e => by cases e; exact ⟨_, hK8, rfl⟩))
    have HC2 := Lib.hid (heap_kept c2 (grownBy_putObj' W8 E (.deferred none)) (fun r e => by cases e; exact ⟨_, hK8, rfl⟩))
    have HK8 := Lib.hid hK8; have HW8 := Lib.hid hW8
    clear hK8 c1 c2 hB8 hW8 hp h0 h1 h2 hr hB hS hE hK
    have hne12 := HSZ.out.2.2.2.2
    have hne21 := Ne.symm hne12
    gi_wp2
    rw [← HW8.out]
    refine ⟨by simp, .inl ⟨_, _, rfl, run_takeDeferred HK8.out, ?_⟩⟩
    exact ⟨_, res_pick Tryz.results19 rfl rfl HC1.out HC2.out, rfl, HE.out⟩
  case stop =>
    intro E c pre W hE hS hX hK
    obtain ⟨-, ⟨q, x, rfl, -⟩, -⟩ := hX
    have hS : q ++ [x] <+: Wk := hS
    rw [HWK.out] at hS
    have := hS.length_le
    simp at this
end Go.Proofs.YtgfjmafdfbghnaaGreat

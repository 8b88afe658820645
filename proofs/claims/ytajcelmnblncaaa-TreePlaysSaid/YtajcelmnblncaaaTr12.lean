/- tree: the document's Put, Drop, Place. -/
import Derived.Test.YtajcelmnblncaaaTr11
namespace Go.Proofs.Ytajcelmnblncaaa
open Go.RowKit
attribute [local go_sem] ext_cell ext_frozen extC_cell extC_frozen Mix.calmUpon Mix.mUpon
abbrev NV (w : World) (v : Value) (L : List Int) : Prop := RS 1 nenc w v L
abbrev ON (w : World) (base : Nat) (v : Value) (L : List Int) : Prop := OwnL 3 1 nenc w base v L
theorem ON.app {w : World} {base : Nat} {v : Value} {L : List Int} {b : Nat} (h : ON w base v L) (x : Int) (hx : w.heap[b]? = some (.cells #[.int .i64 x] 3 (0, 0))) (hl : L.length < 1000000) (hb : base ≤ w.heap.size) :
    ∃ v' w', (Builtin.append_ #[27, 27] 27 #[v, .slice (some ⟨b, 0, none⟩) 1 1]).run Try.prog w = .ok v' w' ∧ ON w' base v' (L ++ [x]) ∧ w.grownBy w' v.ownBlock ∧ (v'.ownBlock = v.ownBlock ∨ v'.ownBlock = some w.heap.size) := by
  obtain ⟨i0, hi, hz0, hz1, hz2⟩ := info_parts infoN
  exact OwnL.app h Try.underlying27 hi hz0 hz1 hz2 rfl (by decide) (fun _ => rfl) x (fun j u hj => by
      rcases j with _ | j <;> simp [nenc] at hj
      subst hj; exact cell_hd hx 0) (fun u hu => by simp [nenc] at hu; subst hu; rfl) (by omega) (by unfold maxLen; omega) hb
theorem plL_some {A B : List Int} {k : Int} (h : k ∉ A) : plL (A ++ k :: B) k = A.length := by
  unfold plL
  rw [if_pos (by simp), List.idxOf_append, if_neg h]; simp
theorem plL_none {A : List Int} {k : Int} (h : k ∉ A) : plL A k = -1 := if_neg h
set_option maxRecDepth 100000 in
theorem rplace {w : World} {v : Value} {L : List Int} (h : NV w v L) (k : Int) (hl : L.length < 1000000) : Calls Try.prog 17 #[v, .int .i64 k] w fun e w' => e = .returned (.int .i64 (plL L k)) ∧ w = w' := by
  obtain ⟨a, n, cap, rfl, hn, hc, hm, hat⟩ := h.at_
  have HA := Lib.hid hat
  have HN := Lib.hid hn
  have hlm : n < 1000000 := by omega
  have HB := Lib.hid (Below.refl w.heap.size w)
  obtain ⟨w2, hw2⟩ : ∃ w2, w2 = w := ⟨_, rfl⟩
  clear hat h hn hl
  go_enter Try.func17, Try.ntmps17
  go_wp2
  go_loop [5] (fun iv => ∃ t : Nat, t ≤ n ∧ iv = .int .i64 t ∧ Hid (k ∉ L.take t)) (fun iv => n - (intOf iv).toNat)
  case atStart => exact ⟨0, Nat.zero_le _, rfl, Lib.hid (by simp)⟩
  case round =>
    obtain ⟨t, ht, rfl, HK⟩ := hrel
    by_cases hlt : t < n
    · have hts : (t : Int) < (n : Int) := by omega
      obtain ⟨p, hx⟩ := at_lt (l := L) (i := t) (by rw [← HN.out]; exact hlt)
      obtain ⟨b, off, rfl, hb, hcell⟩ := HA.out t p hx
      have e0 := hcell 0 _ rfl
      simp only [Nat.add_zero, Nat.mul_one] at e0
      have HX := Lib.hid hx
      clear hcell hx
      by_cases hp : p = k
      · have hpe : (p == k) = true := by simpa using hp
        have HE := Lib.hid (show plL L k = t by
          rw [parted_at HX.out, hp, plL_some HK.out, List.length_take, Nat.min_eq_left (by rw [← HN.out]; omega)])
        clear hp
        go_wp2
        go_ret
        exact ⟨by rw [HE.out]; rfl, rfl⟩
      · have hpe : (p == k) = false := by simpa using hp
        have HE := Lib.hid (show k ∉ L.take (t + 1) by
          rw [take_at HX.out]; simp [HK.out]; exact fun e => hp e.symm)
        clear hp
        go_wp2
        go_round
        case rel => exact ⟨t + 1, by omega, by go_num, HE⟩
        case measure => simp [intOf]; omega
    · obtain rfl : n = t := by omega
      have HE := Lib.hid (show plL L k = -1 from plL_none (by have := HK.out; rw [HN.out, List.take_length] at this; exact this))
      go_wp2
      go_ret
      exact ⟨by rw [HE.out]; rfl, rfl⟩
def RetL (L : List Int) (w : World) (e : Ending) (w' : World) : Prop := ∃ v, e = .returned v ∧ ON w' w.heap.size v L ∧ Below w.heap.size w w'
theorem del_snoc (L : List Int) (x k : Int) : delL k (L ++ [x]) = delL k L ++ if x = k then [] else [x] := by
  unfold delL
  rw [List.filter_append]
  by_cases h : x = k <;> simp [h]
set_option maxRecDepth 100000 in
set_option maxHeartbeats 1000000 in
theorem rdrop {w : World} {v : Value} {L : List Int} (h : NV w v L) (k : Int) (hl : L.length < 100000) : Calls Try.prog 20 #[v, .int .i64 k] w (RetL (delL k L) w) := by
  obtain ⟨a, n, cap, rfl, hn, hc, hm, hat⟩ := h.at_
  have HA := Lib.hid hat
  have HN := Lib.hid hn
  have hlm : n < 100000 := by omega
  clear hat h hn hl
  go_enter Try.func20, Try.ntmps20
  go_wp2
  go_loopw [5, 6] (fun ov iv wr => ∃ t : Nat, t ≤ n ∧ iv = .int .i64 t ∧ Hid (ON wr w.heap.size ov (delL k (L.take t))) ∧ Hid (Below w.heap.size w wr)) (fun _ iv _ => n - (intOf iv).toNat)
  case atStart => exact ⟨0, Nat.zero_le _, rfl, Lib.hid (OwnL.nil _ _ _ _ _), Lib.hid (Below.refl _ _)⟩
  case round =>
    obtain ⟨t, ht, rfl, HO, HB⟩ := hrel
    obtain ⟨w2, rfl⟩ : ∃ w2, w2 = wr := ⟨_, rfl⟩
    by_cases hlt : t < n
    · have hts : (t : Int) < (n : Int) := by omega
      obtain ⟨p, hx⟩ := at_lt (l := L) (i := t) (by rw [← HN.out]; exact hlt)
      obtain ⟨b, off, rfl, hb, hcell⟩ := HA.out t p hx
      have e0 := (HB.out.cell (p := ⟨b, off + t * 1 + 0, none⟩) hb).trans (hcell 0 _ rfl)
      simp only [Nat.add_zero, Nat.mul_one] at e0
      have hbw : b < w2.heap.size := Nat.lt_of_lt_of_le hb HB.out.size
      have HX := Lib.hid hx
      clear hcell hx hb
      by_cases hp : p = k
      · have hpe : (p != k) = false := by simpa using hp
        have HE := Lib.hid (show delL k (L.take (t + 1)) = delL k (L.take t) by rw [take_at HX.out, del_snoc, if_pos hp, List.append_nil])
        clear hp
        go_wp2
        go_roundw
        case rel => exact ⟨t + 1, by omega, by go_num, Lib.hid (by rw [HE.out]; exact HO.out), HB⟩
        case measure => simp [intOf]; omega
      · have hpe : (p != k) = true := by simpa using hp
        have HE := Lib.hid (show delL k (L.take (t + 1)) = delL k (L.take t) ++ [p] by rw [take_at HX.out, del_snoc, if_neg hp])
        have hbb : Below w2.heap.size w2 (w2.alloc (.cells #[.int .i64 p] 3)) := ba (Below.refl _ _) _
        obtain ⟨v4, w4, hrun, o4, g4, _⟩ := ON.app (HO.out.below hbb) p (heap_alloc_new w2 _) (by
          have h1 : (delL k (L.take t)).length ≤ (L.take t).length := List.length_filter_le _ _
          have h2 := List.length_take_le t L
          omega) (by simp; have := HB.out.size; omega)
        have HR := Lib.hid hrun
        have HB4 := Lib.hid (show Below w.heap.size w w4 from (bt HB.out hbb).grown g4 (by simp; have := HB.out.size; omega) (fun j hj => (HO.out.lt j hj).1))
        have O4 := Lib.hid (show ON w4 w.heap.size v4 (delL k (L.take (t + 1))) by rw [HE.out]; exact o4)
        clear hp hrun o4 g4 hbb
        go_wp2_with (at_builtin; refine wpList_app_run rfl _ _ _ rfl rfl rfl HR.out ?_)
        go_roundw
        case rel => exact ⟨t + 1, by omega, by go_num, O4, HB4⟩
        case measure => simp [intOf]; omega
    · obtain rfl : n = t := by omega
      have HT := Lib.hid (show L.take n = L by rw [HN.out, List.take_length])
      go_wp2
      go_ret
      have hq := HO.out
      rw [HT.out] at hq
      exact ⟨_, rfl, hq, HB.out⟩
theorem insL_done {o : Int → Int → Int} {k x : Int} : ∀ {A : List Int}, (∃ q ∈ A, o k q ≤ 0) → insL o k (A ++ [x]) = insL o k A ++ [x]
  | [], h => by simp at h
  | p :: A, h => by
    simp only [List.cons_append, insL]
    split
    · rfl
    · split
      · rfl
      · rw [insL_done (A := A) (by
          obtain ⟨q, hq, hl⟩ := h
          rcases List.mem_cons.1 hq with rfl | hq
          · omega
          · exact ⟨q, hq, hl⟩)]
        rfl
/-- Where a walk that puts a number in stands. -/
def PI (o : Int → Int → Int) (k : Int) (A : List Int) (d : Bool) (out : List Int) : Prop := (d = false ∧ out = A ∧ ∀ y ∈ A, 0 < o k y) ∨ (d = true ∧ out = insL o k A ∧ ∃ q ∈ A, o k q ≤ 0)
theorem PI.len {o : Int → Int → Int} {k : Int} {A : List Int} {d : Bool} {out : List Int} (h : PI o k A d out) : out.length ≤ A.length + 1 := by
  rcases h with ⟨_, rfl, _⟩ | ⟨_, rfl, _⟩
  · omega
  · exact insL_len o k A
set_option maxRecDepth 100000 in
set_option maxHeartbeats 2000000 in
theorem rput {w : World} {v : Value} {L : List Int} (h : NV w v L) (m k : Int) (hm1 : m ≤ 1000) (hl : L.length < 100000) : Calls Try.prog 22 #[.int .i64 m, v, .int .i64 k] w (RetL (insL (oM m) k L) w) := by
  obtain ⟨a, n, cap, rfl, hn, hc, hm, hat⟩ := h.at_
  have HA := Lib.hid hat
  have HN := Lib.hid hn
  have HZ := Lib.hid (fun y => (oaM hm1).zero k y trivial trivial)
  have hlm : n < 100000 := by omega
  clear hat h hn hl
  go_enter Try.func22, Try.ntmps22
  go_wp2
  go_loopw [7, 8, 9] (fun ov dv iv wr => ∃ (t : Nat) (d : Bool) (out : List Int), t ≤ n ∧ iv = .int .i64 t ∧ dv = .bool d ∧ Hid (PI (oM m) k (L.take t) d out) ∧ Hid (ON wr w.heap.size ov out) ∧ Hid (Below w.heap.size w wr)) (fun _ _ iv _ => n - (intOf iv).toNat)
  case atStart => exact ⟨0, false, [], Nat.zero_le _, rfl, rfl, Lib.hid (.inl ⟨rfl, by simp, by simp⟩), Lib.hid (OwnL.nil _ _ _ _ _), Lib.hid (Below.refl _ _)⟩
  case round =>
    obtain ⟨t, d, out, ht, rfl, rfl, HP, HO, HB⟩ := hrel
    obtain ⟨w2, rfl⟩ : ∃ w2, w2 = wr := ⟨_, rfl⟩
    have hlo : out.length < 900000 := by have h1 := HP.out.len; have h2 := List.length_take_le t L; omega
    have hs2 := HB.out.size
    by_cases hlt : t < n
    · have hts : (t : Int) < (n : Int) := by omega
      obtain ⟨p, hx⟩ := at_lt (l := L) (i := t) (by rw [← HN.out]; exact hlt)
      obtain ⟨b, off, rfl, hb, hcell⟩ := HA.out t p hx
      have e0 := (HB.out.cell (p := ⟨b, off + t * 1 + 0, none⟩) hb).trans (hcell 0 _ rfl)
      simp only [Nat.add_zero, Nat.mul_one] at e0
      have hbw : b < w2.heap.size := Nat.lt_of_lt_of_le hb HB.out.size
      have HX := Lib.hid hx
      clear hcell hx hb
      cases d with
      | true =>
        have HP2 := Lib.hid (show PI (oM m) k (L.take (t + 1)) true (out ++ [p]) by
          rcases HP.out with ⟨h, _⟩ | ⟨_, rfl, h⟩
          · cases h
          · refine .inr ⟨rfl, by rw [take_at HX.out, insL_done h], ?_⟩
            obtain ⟨q, hq, hl⟩ := h
            exact ⟨q, by rw [take_at HX.out]; simp [hq], hl⟩)
        have hbb : Below w2.heap.size w2 (w2.alloc (.cells #[.int .i64 p] 3)) := ba (Below.refl _ _) _
        obtain ⟨v4, w4, hrun, o4, g4, _⟩ := ON.app (HO.out.below hbb) p (heap_alloc_new w2 _) (by omega) (by simp; omega)
        have HR := Lib.hid hrun
        have HB4 := Lib.hid (show Below w.heap.size w w4 from (bt HB.out hbb).grown g4 (by simp; omega) (fun j hj => (HO.out.lt j hj).1))
        have O4 := Lib.hid o4
        clear hrun o4 g4 hbb
        go_wp2_with (at_builtin; refine wpList_app_run rfl _ _ _ rfl rfl rfl HR.out ?_)
        go_roundw
        case rel => exact ⟨t + 1, true, out ++ [p], by omega, by go_num, rfl, HP2, O4, HB4⟩
        case measure => simp [intOf]; omega
      | false =>
        by_cases hq : oM m k p < 0
        · have hpk : (p == k) = false := by
            have : ¬ k = p := fun e => by have := (HZ.out p).2 e; omega
            simpa using fun e => this (Eq.symm e)
          have HP2 := Lib.hid (show PI (oM m) k (L.take (t + 1)) true (out ++ [k] ++ [p]) by
            rcases HP.out with ⟨_, rfl, h⟩ | ⟨h, _⟩
            · refine .inr ⟨rfl, ?_, p, by rw [take_at HX.out]; simp, by omega⟩
              rw [take_at HX.out, insL_gt h]
              simp [insL, hq]
            · cases h)
          have hbb : Below w2.heap.size w2 (w2.alloc (.cells #[.int .i64 k] 3)) := ba (Below.refl _ _) _
          obtain ⟨v4, w4, hrun, o4, g4, _⟩ := ON.app (HO.out.below hbb) k (heap_alloc_new w2 _) (by omega) (by simp; omega)
          have HR := Lib.hid hrun
          have HB4 := Lib.hid (show Below w.heap.size w w4 from (bt HB.out hbb).grown g4 (by simp; omega) (fun j hj => (HO.out.lt j hj).1))
          have O4 := Lib.hid o4
          have hs4 := HB4.out.size
          have hbb4 : Below w4.heap.size w4 (w4.alloc (.cells #[.int .i64 p] 3)) := ba (Below.refl _ _) _
          obtain ⟨v5, w5, hrun5, o5, g5, _⟩ := ON.app (O4.out.below hbb4) p (heap_alloc_new w4 _) (by simp; omega) (by simp; omega)
          have HR5 := Lib.hid hrun5
          have HB5 := Lib.hid (show Below w.heap.size w w5 from (bt HB4.out hbb4).grown g5 (by simp; omega) (fun j hj => (O4.out.lt j hj).1))
          have O5 := Lib.hid o5
          have e4 : w4.cell? ⟨b, off + t, none⟩ = some (.int .i64 p) := by
            obtain ⟨b', off', he, hb', hcell'⟩ := HA.out t p HX.out
            cases he
            have := (HB4.out.cell (p := ⟨b, off + t * 1 + 0, none⟩) hb').trans (hcell' 0 _ rfl)
            simpa using this
          have hbw4 : b < w4.heap.size := by
            obtain ⟨b', off', he, hb', hcell'⟩ := HA.out t p HX.out
            cases he
            omega
          clear hrun o4 g4 hbb hrun5 o5 g5 hbb4
          have tok1 : True := trivial
          go_wp2_with fail
          refine (order_any m k p w2 hm1).mono ?_
          rintro e w3 ⟨rfl, rfl⟩
          go_wp2_with (at_builtin; first | (have _t := tok1; refine wpList_app_run rfl _ _ _ rfl rfl rfl HR.out ?_; clear tok1) | (refine wpList_app_run rfl _ _ _ rfl rfl rfl HR5.out ?_))
          go_roundw
          case rel => exact ⟨t + 1, true, out ++ [k] ++ [p], by omega, by go_num, rfl, HP2, O5, HB5⟩
          case measure => simp [intOf]; omega
        · by_cases hq0 : oM m k p = 0
          · have hkp := (HZ.out p).1 hq0
            subst hkp
            have hpk : (k == k) = true := by simp
            have HP2 := Lib.hid (show PI (oM m) k (L.take (t + 1)) true (out ++ [k]) by
              rcases HP.out with ⟨_, rfl, h⟩ | ⟨h, _⟩
              · refine .inr ⟨rfl, ?_, k, by rw [take_at HX.out]; simp, by omega⟩
                rw [take_at HX.out, insL_gt h]
                simp [insL, hq0]
              · cases h)
            have hle : oM m k k ≤ 0 := by omega
            have hbb : Below w2.heap.size w2 (w2.alloc (.cells #[.int .i64 k] 3)) := ba (Below.refl _ _) _
            obtain ⟨v4, w4, hrun, o4, g4, _⟩ := ON.app (HO.out.below hbb) k (heap_alloc_new w2 _) (by omega) (by simp; omega)
            have HR := Lib.hid hrun
            have HB4 := Lib.hid (show Below w.heap.size w w4 from (bt HB.out hbb).grown g4 (by simp; omega) (fun j hj => (HO.out.lt j hj).1))
            have O4 := Lib.hid o4
            have e4 : w4.cell? ⟨b, off + t, none⟩ = some (.int .i64 k) := by
              obtain ⟨b', off', he, hb', hcell'⟩ := HA.out t k HX.out
              cases he
              have := (HB4.out.cell (p := ⟨b, off + t * 1 + 0, none⟩) hb').trans (hcell' 0 _ rfl)
              simpa using this
            have hbw4 : b < w4.heap.size := by
              obtain ⟨b', off', he, hb', hcell'⟩ := HA.out t k HX.out
              cases he
              have := HB4.out.size
              omega
            clear hrun o4 g4 hbb hq hq0
            go_wp2_with fail
            refine (order_any m k k w2 hm1).mono ?_
            rintro e w3 ⟨rfl, rfl⟩
            go_wp2_with (at_builtin; refine wpList_app_run rfl _ _ _ rfl rfl rfl HR.out ?_)
            go_roundw
            case rel => exact ⟨t + 1, true, out ++ [k], by omega, by go_num, rfl, HP2, O4, HB4⟩
            case measure => simp [intOf]; omega
          · have hgt : 0 < oM m k p := by omega
            have HP2 := Lib.hid (show PI (oM m) k (L.take (t + 1)) false (out ++ [p]) by
              rcases HP.out with ⟨_, rfl, h⟩ | ⟨h, _⟩
              · refine .inl ⟨rfl, by rw [take_at HX.out], fun y hy => ?_⟩
                rw [take_at HX.out] at hy
                rcases List.mem_append.1 hy with h' | h'
                · exact h y h'
                · rw [List.mem_singleton.1 h']; exact hgt
              · cases h)
            have hbb : Below w2.heap.size w2 (w2.alloc (.cells #[.int .i64 p] 3)) := ba (Below.refl _ _) _
            obtain ⟨v4, w4, hrun, o4, g4, _⟩ := ON.app (HO.out.below hbb) p (heap_alloc_new w2 _) (by omega) (by simp; omega)
            have HR := Lib.hid hrun
            have HB4 := Lib.hid (show Below w.heap.size w w4 from (bt HB.out hbb).grown g4 (by simp; omega) (fun j hj => (HO.out.lt j hj).1))
            have O4 := Lib.hid o4
            clear hrun o4 g4 hbb hq hq0
            go_wp2_with fail
            refine (order_any m k p w2 hm1).mono ?_
            rintro e w3 ⟨rfl, rfl⟩
            go_wp2_with (at_builtin; refine wpList_app_run rfl _ _ _ rfl rfl rfl HR.out ?_)
            go_roundw
            case rel => exact ⟨t + 1, false, out ++ [p], by omega, by go_num, rfl, HP2, O4, HB4⟩
            case measure => simp [intOf]; omega
    · obtain rfl : n = t := by omega
      have HT := Lib.hid (show L.take n = L by rw [HN.out, List.take_length])
      cases d with
      | true =>
        have HE := Lib.hid (show out = insL (oM m) k L by
          rcases HP.out with ⟨h, _⟩ | ⟨_, h, _⟩
          · cases h
          · rw [h, HT.out])
        go_wp2
        go_ret
        exact ⟨_, rfl, by rw [← HE.out]; exact HO.out, HB.out⟩
      | false =>
        have HE := Lib.hid (show out ++ [k] = insL (oM m) k L by
          rcases HP.out with ⟨_, h, h2⟩ | ⟨h, _⟩
          · rw [HT.out] at h h2
            have := insL_gt (o := oM m) (B := []) h2
            rw [List.append_nil] at this
            rw [this, h]; rfl
          · cases h)
        have hbb : Below w2.heap.size w2 (w2.alloc (.cells #[.int .i64 k] 3)) := ba (Below.refl _ _) _
        obtain ⟨v4, w4, hrun, o4, g4, _⟩ := ON.app (HO.out.below hbb) k (heap_alloc_new w2 _) (by omega) (by simp; omega)
        have HR := Lib.hid hrun
        have HB4 := Lib.hid (show Below w.heap.size w w4 from (bt HB.out hbb).grown g4 (by simp; omega) (fun j hj => (HO.out.lt j hj).1))
        have O4 := Lib.hid o4
        clear hrun o4 g4 hbb
        go_wp2_with (at_builtin; refine wpList_app_run rfl _ _ _ rfl rfl rfl HR.out ?_)
        go_ret
        exact ⟨_, rfl, by rw [← HE.out]; exact O4.out, HB4.out⟩
end Go.Proofs.Ytajcelmnblncaaa

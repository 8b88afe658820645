/- The document's filters by a list (layer 26); table and list side by side. Laid together out of XRf7, XRf8, XRf9, XRg0. -/
import Derived.Test.YtennhfkhdfalfaaRfA
import Derived.Test.YtennhfkhdfalfaaFi7
import Derived.Test.YtennhfkhdfalfaaMixL
import Derived.Test.YtennhfkhdfalfaaSrt0
import Derived.Test.YtennhfkhdfalfaaFi6
import Derived.Test.YtennhfkhdfalfaaFgA
namespace Go.Proofs.Ytennhfkhdfalfaa
section
open Go.RowKit Go.Maps
attribute [local go_sem] ext_cell ext_frozen extC_cell extC_frozen Mix.calmUpon Mix.mUpon
theorem quiet_extG {P : Program} {f : Nat} {args : Array Value} {v : Value} {W : World} (x : Ext W) (h : Calls P f args (ext W x) fun e w' => e = .returned v ∧ Below (ext W x).heap.size (ext W x) w') :
    Calls P f args (ext W x) fun e w'' => e = .returned v ∧ ∃ y, w'' = ext W y := h.mono fun _ _ ⟨he, hb⟩ => ⟨he, ext_of (bt (ext_below W x) hb)⟩
/-- A filter in the document's list. -/
structure Fo where
  fr : Int
  ag : Int
  ti : Int
  a : Option Addr
  n : Nat
  c : Nat
  ps : List Pt
instance : Inhabited Fo := ⟨⟨0, 0, 0, none, 0, 0, []⟩⟩
abbrev Fo.f (o : Fo) : Fl := ⟨o.fr, o.ag, o.ti, .slice o.a o.n o.c, o.ps⟩
abbrev Fo.pl (o : Fo) : Pf := (o.fr, o.ag, o.ti, o.ps)
abbrev foval (o : Fo) : Value := .agg #[.int .i64 o.fr, .int .i64 o.ag, .int .i64 o.ti, .slice o.a o.n o.c]
def foenc (o : Fo) : List Value := [.int .i64 o.fr, .int .i64 o.ag, .int .i64 o.ti, .slice o.a o.n o.c]
abbrev FOB (w : World) (b : Nat) (o : Fo) : Prop := FB w b o.fr o.ag o.ti (.slice o.a o.n o.c)
theorem own_appO6 {w : World} {base : Nat} {v : Value} {l : List Fo} {b : Nat} (h : OwnL 72 4 foenc w base v l) (x : Fo) (hx : FOB w b x) (hl : l.length < 1000000) (hb : base ≤ w.heap.size) :
    ∃ v' w', (Builtin.append_ #[68, 68] 68 #[v, .slice (some ⟨b, 0, none⟩) 1 1]).run Try.prog w = .ok v' w' ∧ OwnL 72 4 foenc w' base v' (l ++ [x]) ∧ w.grownBy w' v.ownBlock ∧ (v'.ownBlock = v.ownBlock ∨ v'.ownBlock = some w.heap.size) := by
  obtain ⟨i0, hi, hz0, hz1, hz2⟩ := info_parts infoFl
  obtain ⟨x0, x1, x2, x3⟩ := hx.cells
  exact OwnL.app h Try.underlying68 hi hz0 hz1 hz2 rfl (by decide) (fun _ => rfl) x (fun j u hj => by
      rcases j with _ | _ | _ | _ | j <;> simp [foenc] at hj
      · subst hj; exact x0
      · subst hj; exact x1
      · subst hj; exact x2
      · subst hj; exact x3) (fun u hu => by simp [foenc] at hu; rcases hu with rfl | rfl | rfl | rfl <;> rfl) (by omega) (by unfold maxLen; omega) hb
abbrev mval6 (cap : Int) (v : Value) : Value := .agg #[.int .i64 cap, v]
/-- A block that holds a list with a cap. -/
def MB6 (w : World) (b : Nat) (cap : Int) (v : Value) : Prop := w.heap[b]? = some (.cells #[.int .i64 cap, v] 70 (0, 0))
section
variable {F : Nat → Prop} {w w' : World} {b : Nat} {cap : Int} {v : Value}
theorem MB6.made (w : World) (cap : Int) (v : Value) : MB6 (w.alloc (.cells #[.int .i64 cap, v] 70)) w.heap.size cap v := heap_alloc_new w _
theorem MB6.lt (h : MB6 w b cap v) : b < w.heap.size := (Array.getElem?_eq_some_iff.1 h).1
theorem MB6.chg (h : MB6 w b cap v) (hb : Chg F w w') (hf : ¬ F b) : MB6 w' b cap v := (hb.block _ h.lt hf).trans h
theorem MB6.below (h : MB6 w b cap v) (hb : Below w.heap.size w w') : MB6 w' b cap v := h.chg (.of_below (fun _ => False) hb) id
theorem MB6.cells (h : MB6 w b cap v) : w.cell? ⟨b, 0, none⟩ = some (.int .i64 cap) ∧ w.cell? ⟨b, 1, none⟩ = some v := by unfold MB6 at h; simp [World.cell?, h]
theorem MB6.fz (h : MB6 w b cap v) (o : Nat) : w.frozen? ⟨b, o, none⟩ = false := by unfold MB6 at h; simp [World.frozen?, h]
theorem MB6.set1 (h : MB6 w b cap v) (v' : Value) : MB6 (w.setCell ⟨b, 1, none⟩ v') b cap v' := heap_setCell_at v' h
theorem MB6.set2 (h : MB6 w b cap v) (c' : Int) (v' : Value) : MB6 ((w.setCell ⟨b, 0, none⟩ (.int .i64 c')).setCell ⟨b, 1, none⟩ v') b c' v' := heap_setCell_at v' (heap_setCell_at _ h)
theorem MB6.load (h : MB6 w b cap v) : (loadVar 70 ⟨b, 0, none⟩).run Try.prog w = .ok (mval6 cap v) w := by
  obtain ⟨x0, x1⟩ := h.cells
  simp [go_sem, x0, x1]
theorem res_m6 {fn : Func} {tmps : Array Value} {p : Nat} (h : fn.results = #[.cell p 70]) (hp : tmps.getD p undef = .pointer (some ⟨b, 0, none⟩)) (hb : MB6 w b cap v) :
    (results fn tmps).run Try.prog w = .ok (mval6 cap v) w := by
  simp only [results, h]
  have hp' : tmps[p]?.getD undef = .pointer (some ⟨b, 0, none⟩) := by simpa [Array.getD_eq_getD_getElem?] using hp
  simp [Sem.run_bind, Result.andThen, hp', asAddr, hb.load]
end
/-- What the document says is blocked. -/
def blkM (P : List Pf) (fr ag : Int) (vs : List Pt) : Bool := P.any fun f => (f.1 == fr) && (f.2.1 == ag) && hB f.2.2.2 vs
theorem blkM_eq {P S : List Pf} (h : P.Perm S) (fr ag : Int) (vs : List Pt) : blkM P fr ag vs = blk S fr ag vs := by
  rw [Bool.eq_iff_iff]
  unfold blkM blk fk
  rw [List.any_eq_true, List.any_eq_true]
  constructor
  · rintro ⟨f, hf, hh⟩
    simp only [Bool.and_eq_true, beq_iff_eq] at hh
    refine ⟨f, List.mem_filter.2 ⟨h.mem_iff.1 hf, decide_eq_true ?_⟩, hh.2⟩
    show K2.mk f.1 f.2.1 = K2.mk fr ag
    rw [hh.1.1, hh.1.2]
  · rintro ⟨f, hf, hh⟩
    obtain ⟨h1, h2⟩ := List.mem_filter.1 hf
    have h3 : K2.mk f.1 f.2.1 = K2.mk fr ag := of_decide_eq_true h2
    injection h3 with h4 h5
    exact ⟨f, h.mem_iff.2 h1, by simp [h4, h5]; exact hh⟩
/-- The least of some numbers; 0: there is none. -/
def mU : List Int → Int
  | [] => 0
  | a :: t => t.foldl min a
theorem mU_snoc (L : List Int) (u : Int) : mU (L ++ [u]) = if L = [] then u else min (mU L) u := by
  cases L with
  | nil => rfl
  | cons a t => rw [if_neg (by simp)]; simp [mU, List.foldl_append]
section
variable {w : World} {v : Value} {l : List Fo} {cap : Int}
set_option maxRecDepth 100000 in
set_option maxHeartbeats 2000000 in
theorem rblocks (h : RS 4 foenc w v l) (hv : ∀ x ∈ l, Vc w (.slice x.a x.n x.c) x.ps) (hl : ∀ x ∈ l, x.ps.length < 1000000000) (fr ag : Int) (u : Value) (us : List Pt) (hu : Vc w u us) (hul : us.length < 1000000000) :
    Calls Try.prog 39 #[mval6 cap v, .int .i64 fr, .int .i64 ag, u] w fun e w' => e = .returned (.bool (blkM (l.map Fo.pl) fr ag us)) ∧ Below w.heap.size w w' := by
  obtain ⟨a, n, cp, rfl, hn, hc, hm, hat⟩ := h.at_
  obtain ⟨ua, uc, rfl, -, -⟩ := hu.form
  obtain ⟨un, hun⟩ : ∃ un, un = us.length := ⟨_, rfl⟩
  rw [← hun] at hu ⊢
  have hnm : n ≤ 9223372036854775807 := by unfold maxLen at hm; omega
  have hb1 := ba (Below.refl w.heap.size w) (.cells #[.int .i64 cap, .slice a n cp] 70)
  have HM := Lib.hid (MB6.made w cap (.slice a n cp))
  have HB := Lib.hid hb1
  have HAT := Lib.hid hat; have HN := Lib.hid hn; have HV := Lib.hid hv; have HL := Lib.hid hl; have HU := Lib.hid hu; have HUL := Lib.hid hul; have HUN := Lib.hid hun
  obtain ⟨bl, hbl⟩ : ∃ bl, bl = blkM (l.map Fo.pl) fr ag us := ⟨_, rfl⟩
  have HBL := Lib.hid hbl
  rw [← hbl]
  clear h hat hn hv hl hu hul hb1 hm hc hbl hun
  go_enter Try.func39, Try.ntmps39
  go_wp2
  generalize w.alloc (.cells #[.int .i64 cap, .slice a n cp] 70) = w1 at *
  obtain ⟨b, hbq⟩ : ∃ b, b = w.heap.size := ⟨_, rfl⟩
  rw [← hbq] at HM ⊢
  clear hbq
  go_loopw [9] (fun iv wr => ∃ t : Nat, t ≤ n ∧ iv = .int .i64 t ∧ Hid (Below w1.heap.size w1 wr ∧ blkM ((l.map Fo.pl).take t) fr ag us = false)) (fun iv _ => n - (intOf iv).toNat)
  case atStart => exact ⟨0, Nat.zero_le _, rfl, Lib.hid ⟨Below.refl _ _, rfl⟩⟩
  case round =>
    obtain ⟨t, ht, rfl, HQ⟩ := hrel
    obtain ⟨w2, rfl⟩ : ∃ w2, w2 = wr := ⟨_, rfl⟩
    have hm2 := HM.out.below HQ.out.1
    obtain ⟨m0, m1⟩ := hm2.cells
    have ml := hm2.lt
    clear hm2
    by_cases hlt : t < n
    · have hts : (t : Int) < (n : Int) := by omega
      obtain ⟨x, hx⟩ := at_lt (l := l) (i := t) (by rw [← HN.out]; exact hlt)
      obtain ⟨bs, off, rfl, hbs, hcell⟩ := HAT.out t x hx
      have hbw : Below w.heap.size w w2 := bt HB.out HQ.out.1
      have c0 := (hbw.cell (p := ⟨bs, _, none⟩) hbs).trans (hcell 0 _ rfl)
      have c1 := (hbw.cell (p := ⟨bs, _, none⟩) hbs).trans (hcell 1 _ rfl)
      have c3 := (hbw.cell (p := ⟨bs, _, none⟩) hbs).trans (hcell 3 _ rfl)
      simp only [Nat.add_zero] at c0
      have hbs2 : bs < w2.heap.size := Nat.lt_of_lt_of_le hbs hbw.size
      have hpx : (l.map Fo.pl)[t]? = some x.pl := by rw [List.getElem?_map, hx]; rfl
      have HH := Lib.hid (rholds_any (.slice x.a x.n x.c) (.slice ua un uc) x.ps us (HL.out x (mem_at hx)) HUL.out w2 ⟨(HV.out x (mem_at hx)).on hbw, HU.out.on hbw⟩)
      have HT := Lib.hid (show blkM ((l.map Fo.pl).take (t + 1)) fr ag us = ((x.fr == fr) && (x.ag == ag) && hB x.ps us) from by
        rw [take_at hpx]; unfold blkM; rw [List.any_append]
        have := HQ.out.2; unfold blkM at this; rw [this]; simp)
      have HA := Lib.hid (show blkM ((l.map Fo.pl).take (t + 1)) fr ag us = true → bl = true from fun h => by
        rw [HBL.out]; unfold blkM at h ⊢
        obtain ⟨z, hz, hz2⟩ := List.any_eq_true.1 h
        exact List.any_eq_true.2 ⟨z, List.mem_of_mem_take hz, hz2⟩)
      clear hcell hx hpx hbw hbs
      obtain ⟨xi, xg, xt, xa, xn, xc, xs⟩ := x
      simp only at c0 c1 c3 HH HT
      by_cases h1 : xi = fr
      · have b1 : (xi == fr) = true := by simpa using h1
        by_cases h2 : xg = ag
        · have b2 : (xg == ag) = true := by simpa using h2
          rw [b1, b2, Bool.true_and, Bool.true_and] at HT
          clear h1 h2
          go_wp2_with fail
          clear c0 c1 c3 m0 m1 ml
          refine HH.out.mono ?_
          rintro e w3 ⟨rfl, hb3⟩
          have HB3 := Lib.hid (bt HQ.out.1 hb3)
          clear hb3
          obtain ⟨r, hr⟩ : ∃ r, r = hB xs us := ⟨_, rfl⟩
          rw [← hr] at HT ⊢
          clear hr HH
          cases r with
          | true =>
            have HR := Lib.hid (HA.out HT.out)
            go_wp2
            go_ret
            exact ⟨by rw [HR.out]; rfl, bt HB.out HB3.out⟩
          | false =>
            go_wp2
            go_roundw
            case rel => exact ⟨t + 1, by omega, by go_num, Lib.hid ⟨HB3.out, HT.out⟩⟩
            case measure => simp [intOf]; omega
        · have b2 : (xg == ag) = false := by simpa using h2
          rw [b2, Bool.and_false, Bool.false_and] at HT
          clear h1 h2
          go_wp2
          go_roundw
          case rel => exact ⟨t + 1, by omega, by go_num, Lib.hid ⟨HQ.out.1, HT.out⟩⟩
          case measure => simp [intOf]; omega
      · have b1 : (xi == fr) = false := by simpa using h1
        rw [b1, Bool.false_and, Bool.false_and] at HT
        clear h1
        go_wp2
        go_roundw
        case rel => exact ⟨t + 1, by omega, by go_num, Lib.hid ⟨HQ.out.1, HT.out⟩⟩
        case measure => simp [intOf]; omega
    · obtain rfl : n = t := by omega
      have HR := Lib.hid (show bl = false from by
        rw [HBL.out]
        have h1 := HQ.out.2
        rw [List.take_of_length_le (by rw [List.length_map, HN.out]; exact Nat.le_refl _)] at h1
        exact h1)
      go_wp2
      go_ret
      exact ⟨by rw [HR.out]; rfl, bt HB.out HQ.out.1⟩
set_option maxRecDepth 100000 in
set_option maxHeartbeats 2000000 in
theorem rnext (h : RS 4 foenc w v l) : Calls Try.prog 37 #[mval6 cap v] w fun e w' => e = .returned (.tuple #[.int .i64 (mU (l.map Fo.ti)), .bool (decide (0 < l.length))]) ∧ Below w.heap.size w w' := by
  obtain ⟨a, n, cp, rfl, hn, hc, hm, hat⟩ := h.at_
  have hnm : n ≤ 9223372036854775807 := by unfold maxLen at hm; omega
  have hb1 := ba (Below.refl w.heap.size w) (.cells #[.int .i64 cap, .slice a n cp] 70)
  have HM := Lib.hid (MB6.made w cap (.slice a n cp))
  have HB := Lib.hid hb1
  have HAT := Lib.hid hat; have HN := Lib.hid hn
  rw [← hn]
  clear h hat hn hb1 hm hc
  go_enter Try.func37, Try.ntmps37
  go_wp2
  generalize w.alloc (.cells #[.int .i64 cap, .slice a n cp] 70) = w1 at *
  obtain ⟨b, hbq⟩ : ∃ b, b = w.heap.size := ⟨_, rfl⟩
  rw [← hbq] at HM ⊢
  clear hbq
  go_loopw [4, 5] (fun nv iv wr => ∃ t : Nat, t ≤ n ∧ iv = .int .i64 t ∧ nv = .int .i64 (mU ((l.map Fo.ti).take t)) ∧ Hid (Below w1.heap.size w1 wr)) (fun _ iv _ => n - (intOf iv).toNat)
  case atStart => exact ⟨0, Nat.zero_le _, rfl, rfl, Lib.hid (Below.refl _ _)⟩
  case round =>
    obtain ⟨t, ht, rfl, rfl, HQ⟩ := hrel
    obtain ⟨w2, rfl⟩ : ∃ w2, w2 = wr := ⟨_, rfl⟩
    have hm2 := HM.out.below HQ.out
    obtain ⟨m0, m1⟩ := hm2.cells
    have ml := hm2.lt
    clear hm2
    by_cases hlt : t < n
    · have hts : (t : Int) < (n : Int) := by omega
      obtain ⟨x, hx⟩ := at_lt (l := l) (i := t) (by rw [← HN.out]; exact hlt)
      obtain ⟨bs, off, rfl, hbs, hcell⟩ := HAT.out t x hx
      have hbw : Below w.heap.size w w2 := bt HB.out HQ.out
      have c2 := (hbw.cell (p := ⟨bs, _, none⟩) hbs).trans (hcell 2 _ rfl)
      have hbs2 : bs < w2.heap.size := Nat.lt_of_lt_of_le hbs hbw.size
      have hpx : (l.map Fo.ti)[t]? = some x.ti := by rw [List.getElem?_map, hx]; rfl
      have hst := mU_snoc ((l.map Fo.ti).take t) x.ti
      rw [← take_at hpx] at hst
      clear hcell hx hpx hbw hbs
      obtain ⟨U, hU⟩ : ∃ U, U = mU ((l.map Fo.ti).take t) := ⟨_, rfl⟩
      rw [← hU] at hst ⊢
      by_cases ht0 : t = 0
      · have HS := Lib.hid (show mU ((l.map Fo.ti).take (t + 1)) = x.ti from by rw [hst, if_pos (by rw [ht0]; rfl)])
        have b0 : ((t : Int) == 0) = true := by simp; omega
        clear hst hU ht0
        go_wp2
        go_roundw
        case rel => exact ⟨t + 1, by omega, by go_num, by rw [HS.out], HQ⟩
        case measure => simp [intOf]; omega
      · have HS := Lib.hid (show mU ((l.map Fo.ti).take (t + 1)) = min U x.ti from by
          rw [hst, if_neg fun e => by
            have h1 := congrArg List.length e
            rw [List.length_take, List.length_map, ← HN.out] at h1
            simp at h1; omega])
        have b0 : ((t : Int) == 0) = false := by simp; omega
        clear hst hU
        by_cases hu : x.ti < U
        · have HM2 := Lib.hid (show min U x.ti = x.ti from by omega)
          clear ht0
          go_wp2
          go_roundw
          case rel => exact ⟨t + 1, by omega, by go_num, by rw [HS.out, HM2.out], HQ⟩
          case measure => simp [intOf]; omega
        · have HM2 := Lib.hid (show min U x.ti = U from by omega)
          clear ht0
          go_wp2
          go_roundw
          case rel => exact ⟨t + 1, by omega, by go_num, by rw [HS.out, HM2.out], HQ⟩
          case measure => simp [intOf]; omega
    · obtain rfl : n = t := by omega
      rw [List.take_of_length_le (by rw [List.length_map, HN.out]; exact Nat.le_refl _)]
      obtain ⟨U, hU⟩ : ∃ U, U = mU (l.map Fo.ti) := ⟨_, rfl⟩
      rw [← hU]
      have HU := Lib.hid hU
      have HD := Lib.hid (show decide ((0 : Int) < (n : Int)) = decide (0 < n) from by
        by_cases h0 : 0 < n
        · rw [decide_eq_true h0]; exact decide_eq_true (by omega)
        · rw [decide_eq_false h0]; exact decide_eq_false (by omega))
      clear hU
      go_wp2
      refine wp_region_pure (by kernel_rfl) (by kernel_rfl) ?_
      repeat (first | go_big_quiet_step (fail) | (quiet_step (fail)))
      refine wpQuiet_nil ?_
      rintro w3 ⟨x3, hx3⟩
      have hb3 := ext_below _ x3
      rw [← hx3] at hb3
      have HB3 := Lib.hid (bt HQ.out hb3)
      clear hx3 x3 hb3 m0 m1 ml
      go_wp2
      go_ret2
      exact ⟨by rw [← HD.out, ← HU.out]; rfl, bt HB.out HB3.out⟩
set_option maxRecDepth 100000 in
set_option maxHeartbeats 2000000 in
/-- Two lists that tell the same are alike. -/
theorem rsameL {u : Value} {m : List Fl} (hr : RS 4 flenc w u m) (hm : ∀ x ∈ m, Vc w x.vv x.ps) (h : RS 4 foenc w v l) (hv : ∀ x ∈ l, Vc w (.slice x.a x.n x.c) x.ps) (he : m.map Fl.pl = l.map Fo.pl) (hl : ∀ x ∈ m, x.ps.length < 1000000000) :
    Calls Try.prog 41 #[u, v] w fun e w' => e = .returned (.bool true) ∧ Below w.heap.size w w' := by
  obtain ⟨a, n, cp, rfl, hn, hc, hmx, hat⟩ := h.at_
  obtain ⟨a', n', cp', rfl, hn', hc', hmx', hat'⟩ := hr.at_
  have hnn : n' = n := by
    have := congrArg List.length he
    rw [List.length_map, List.length_map] at this; omega
  subst hnn
  have hnm : n' ≤ 9223372036854775807 := by unfold maxLen at hmx; omega
  have HAT := Lib.hid hat; have HN := Lib.hid hn; have HAT' := Lib.hid hat'; have HN' := Lib.hid hn'; have HV := Lib.hid hv; have HM := Lib.hid hm; have HE := Lib.hid he; have HL := Lib.hid hl
  clear h hr hat hat' hn hn' hv hm he hl hc hc' hmx hmx'
  go_enter Try.func41, Try.ntmps41
  go_wp2
  go_loopw [5] (fun iv wr => ∃ t : Nat, t ≤ n' ∧ iv = .int .i64 t ∧ Hid (Below w.heap.size w wr)) (fun iv _ => n' - (intOf iv).toNat)
  case atStart => exact ⟨0, Nat.zero_le _, rfl, Lib.hid (Below.refl _ _)⟩
  case round =>
    obtain ⟨t, ht, rfl, HQ⟩ := hrel
    obtain ⟨w2, rfl⟩ : ∃ w2, w2 = wr := ⟨_, rfl⟩
    by_cases hlt : t < n'
    · have hts : (t : Int) < (n' : Int) := by omega
      obtain ⟨x, hx⟩ := at_lt (l := l) (i := t) (by rw [← HN.out]; exact hlt)
      obtain ⟨bs, off, rfl, hbs, hcell⟩ := HAT.out t x hx
      obtain ⟨y, hy⟩ := at_lt (l := m) (i := t) (by rw [← HN'.out]; exact hlt)
      obtain ⟨bs', off', rfl, hbs', hcell'⟩ := HAT'.out t y hy
      have hxy : y.pl = x.pl := by
        have h1 := congrArg (fun L => L[t]?) HE.out
        simp only [List.getElem?_map, hx, hy, Option.map_some, Option.some.injEq] at h1
        exact h1
      have hbw := HQ.out
      have c0 := (hbw.cell (p := ⟨bs, _, none⟩) hbs).trans (hcell 0 _ rfl)
      have c1 := (hbw.cell (p := ⟨bs, _, none⟩) hbs).trans (hcell 1 _ rfl)
      have c2 := (hbw.cell (p := ⟨bs, _, none⟩) hbs).trans (hcell 2 _ rfl)
      have c3 := (hbw.cell (p := ⟨bs, _, none⟩) hbs).trans (hcell 3 _ rfl)
      have d0 := (hbw.cell (p := ⟨bs', _, none⟩) hbs').trans (hcell' 0 _ rfl)
      have d1 := (hbw.cell (p := ⟨bs', _, none⟩) hbs').trans (hcell' 1 _ rfl)
      have d2 := (hbw.cell (p := ⟨bs', _, none⟩) hbs').trans (hcell' 2 _ rfl)
      have d3 := (hbw.cell (p := ⟨bs', _, none⟩) hbs').trans (hcell' 3 _ rfl)
      simp only [Nat.add_zero] at c0 d0
      have hbs2 : bs < w2.heap.size := Nat.lt_of_lt_of_le hbs hbw.size
      have hbs2' : bs' < w2.heap.size := Nat.lt_of_lt_of_le hbs' hbw.size
      have HH := Lib.hid fun z : Ext w2 => quiet_extG z (rsameF y x.f (ext w2 z) (((HM.out y (mem_at hy)).on hbw).on (ext_below _ z)) (((HV.out x (mem_at hx)).on hbw).on (ext_below _ z)) (HL.out y (mem_at hy)))
      have hdd : decide (y.pl = x.f.pl) = true := decide_eq_true hxy
      simp only [hdd] at HH
      obtain ⟨ya, yc, hyv, -, -⟩ := (HM.out y (mem_at hy)).form
      clear hcell hx hcell' hy hxy hbw hbs hbs' hdd
      obtain ⟨yi, yg, yt, yv, ys⟩ := y
      simp only at hyv d0 d1 d2 d3 HH
      subst hyv
      obtain ⟨yn, hyn⟩ : ∃ yn, yn = ys.length := ⟨_, rfl⟩
      rw [← hyn] at HH d3
      clear hyn
      obtain ⟨xi, xg, xt, xa, xn, xc, xs⟩ := x
      simp only at c0 c1 c2 c3 HH
      go_wp2_with fail
      refine wp_region_pure (by kernel_rfl) (by kernel_rfl) ?_
      repeat (first | go_big_quiet_step ((go_at_call 79; with_reducible exact HH.out _)) | (quiet_step ((go_at_call 79; with_reducible exact HH.out _))))
      refine wpQuiet_nil ?_
      rintro w3 ⟨x3, hx3⟩
      have hb3 := ext_below _ x3
      rw [← hx3] at hb3
      have HB3 := Lib.hid (bt HQ.out hb3)
      clear hx3 x3 hb3 c0 c1 c2 c3 d0 d1 d2 d3 HH
      go_wp2
      go_roundw
      case rel => exact ⟨t + 1, by omega, by go_num, HB3⟩
      case measure => simp [intOf]; omega
    · obtain rfl : n' = t := by omega
      go_wp2
      go_ret
      exact ⟨rfl, HQ.out⟩
end
end
section
open Go.RowKit Go.Maps
attribute [local go_sem] ext_cell ext_frozen extC_cell extC_frozen Mix.calmUpon Mix.mUpon
def OB6 (v : Value) : Nat → Prop := fun k => v.ownBlock = some k
/-- A list that a call makes: its record lies in block b3, which was the newest of w3; C is what it holds so far. -/
structure OC (w3 wr : World) (b3 : Nat) (cap : Int) (vo : Value) (C : List Fo) : Prop where
  bel : Below b3 w3 wr
  lt : b3 < w3.heap.size
  m : MB6 wr b3 cap vo
  own : OwnL 72 4 foenc wr (b3 + 1) vo C
section
variable {w w3 wr wr' : World} {b3 : Nat} {cap : Int} {vo : Value} {C : List Fo} {x : Fo}
theorem OC.no (h : OC w3 wr b3 cap vo C) {k : Nat} (hk : k ≤ b3) : ¬ OB6 vo k := fun e => by have := (h.own.lt k e).1; omega
theorem OC.sz (h : OC w3 wr b3 cap vo C) : b3 < wr.heap.size := h.m.lt
theorem OC.on (h : OC w3 wr b3 cap vo C) (hb : Below wr.heap.size wr wr') : OC w3 wr' b3 cap vo C :=
  ⟨h.bel.trans (hb.mono (by have := h.sz; omega)), h.lt, h.m.below hb, h.own.below hb⟩
/-- One more element, which lies in a new block. -/
theorem OC.app (h : OC w3 wr b3 cap vo C) (hl : C.length < 1000000) {w1 : World} (hb : Below wr.heap.size wr w1) {q : Nat} (hx : FOB w1 q x) :
    ∃ a' m' c' w2, (Builtin.append_ #[68, 68] 68 #[vo, .slice (some ⟨q, 0, none⟩) 1 1]).run Try.prog w1 = .ok (.slice a' m' c') w2 ∧ Chg (OB6 vo) w1 w2 ∧ (∀ w4, Chg (OB6 vo) w1 w4 → Below w2.heap.size w2 w4 → OC w3 (w4.setCell ⟨b3, 1, none⟩ (.slice a' m' c')) b3 cap (.slice a' m' c') (C ++ [x])) := by
  have h1 := h.on hb
  have hd := h1.sz
  obtain ⟨v', w2, hrun, o2, g2, hv2⟩ := own_appO6 h1.own x hx hl (by omega)
  obtain ⟨a', m', c', rfl⟩ : ∃ a' m' c', v' = .slice a' m' c' := by
    rcases o2.2 with ⟨_, h0⟩ | ⟨g', cap', cur', rfl, _⟩
    · simp at h0
    · exact ⟨_, _, _, rfl⟩
  have hc : Chg (OB6 vo) w1 w2 := .of_grown g2 fun k e => e
  refine ⟨a', m', c', w2, hrun, hc, fun w4 hc3 hb3 => ?_⟩
  have hst : Chg (fun k => k = b3) w4 (w4.setCell ⟨b3, 1, none⟩ (.slice a' m' c')) := (Chg.refl (fun k => k = b3) w4).setCell (p := ⟨b3, 1, none⟩) (.inl rfl) _
  have own3 := o2.below hb3
  have hs3 := hc3.size
  have nb : ∀ k, Value.ownBlock (.slice a' m' c') = some k → k ≠ b3 := fun k hk e => by have := (o2.lt k hk).1; omega
  exact ⟨h1.bel.trans ((hc3.below (by omega) (fun k hk => by have := (h1.own.lt k hk).1; omega)).trans (hst.below (by omega) (fun k e => by rw [e]; omega))), h1.lt,
    (h1.m.chg hc3 (h1.no (by omega))).set1 _, own3.chg hst nb⟩
end
def unwW (k n : Int) : Pf → Bool := if k = 1 then fun f => f.1 == n else if k = 2 then fun f => f.2.1 == n else fun f => decide (f.2.2.1 ≤ n)
/-- What a call of the document's that answers a table gives. -/
def RetM6 (w : World) (cap : Int) (Q : List Fo → Prop) (e : Ending) (w' : World) : Prop := ∃ v C, e = .returned (mval6 cap v) ∧ OwnL 72 4 foenc w' w.heap.size v C ∧ Q C ∧ Below w.heap.size w w'
-- an element is appended to the list in block bo (state H at the world wq), which was laid in the variable bx
section
variable {w : World} {v : Value} {l : List Fo} {cap : Int}
set_option maxRecDepth 100000 in
set_option maxHeartbeats 4000000 in
theorem rwithout (h : RS 4 foenc w v l) (hln : l.length < 900000) {k : Int} (hk : k = 1 ∨ k = 2 ∨ k = 3) (n : Int) :
    Calls Try.prog 35 #[mval6 cap v, .int .i64 k, .int .i64 n] w (RetM6 w cap fun C => C = l.filter fun o => !unwW k n o.pl) := by
  obtain ⟨a, n0, cp, rfl, hn, hc, hm, hat⟩ := h.at_
  have HAT := Lib.hid hat; have HN := Lib.hid hn; have HK := Lib.hid hk
  have hn9 : n0 < 900000 := by omega
  obtain ⟨b0, hb0⟩ : ∃ b, b = w.heap.size := ⟨_, rfl⟩
  obtain ⟨b1, hb1⟩ : ∃ b, b = b0 + 1 := ⟨_, rfl⟩
  obtain ⟨b2, hb2⟩ : ∃ b, b = b1 + 1 := ⟨_, rfl⟩
  have hx1 := ba (Below.refl w.heap.size w) (.cells #[.int .i64 cap, .slice a n0 cp] 70)
  have hx2 := ba hx1 (.cells #[.int .i64 0, .slice none 0 0] 70)
  have hx3 := ba hx2 (.cells #[.int .i64 cap, .slice none 0 0] 70)
  have s1 : (w.alloc (.cells #[.int .i64 cap, .slice a n0 cp] 70)).heap.size = b1 := by rw [hb1, hb0]; simp
  have s2 : ((w.alloc (.cells #[.int .i64 cap, .slice a n0 cp] 70)).alloc (.cells #[.int .i64 0, .slice none 0 0] 70)).heap.size = b2 := by rw [hb2, hb1, hb0]; simp
  have hm0 := (MB6.made w cap (.slice a n0 cp)).below (ba (ba (Below.refl _ _) (.cells #[.int .i64 0, .slice none 0 0] 70)) (.cells #[.int .i64 cap, .slice none 0 0] 70))
  have hm1 := (MB6.made (w.alloc (.cells #[.int .i64 cap, .slice a n0 cp] 70)) 0 (.slice none 0 0)).below (ba (Below.refl _ _) (.cells #[.int .i64 cap, .slice none 0 0] 70))
  have hm2 := MB6.made ((w.alloc (.cells #[.int .i64 cap, .slice a n0 cp] 70)).alloc (.cells #[.int .i64 0, .slice none 0 0] 70)) cap (.slice none 0 0)
  rw [← hb0] at hm0; rw [s1] at hm1; rw [s2] at hm2
  have HB := Lib.hid hx3; have H0 := Lib.hid hm0; have H1 := Lib.hid hm1
  have HI := Lib.hid (show OC _ _ b2 cap (.slice none 0 0) ((l.take 0).filter fun o => !unwW k n o.pl) from ⟨Below.refl _ _, hm2.lt, hm2, OwnL.nil _ _ _ _ _⟩)
  have HBB := Lib.hid (And.intro hb0 (And.intro hb1 hb2))
  clear h hat hn hk hm0 hm1 hm2 hx1 hx2 hx3 s1 s2 hm hc
  go_enter Try.func35, Try.ntmps35
  go_wp2
  rw [← hb0, ← hb1, ← hb2]
  clear hb0 hb1 hb2
  generalize ((w.alloc (.cells #[.int .i64 cap, .slice a n0 cp] 70)).alloc (.cells #[.int .i64 0, .slice none 0 0] 70)).alloc (.cells #[.int .i64 cap, .slice none 0 0] 70) = w1 at *
  go_loopw [8] (fun iv wr => ∃ (t : Nat) (vo : Value), t ≤ n0 ∧ iv = .int .i64 t ∧ Hid (OC w1 wr b2 cap vo ((l.take t).filter fun o => !unwW k n o.pl))) (fun iv _ => n0 - (intOf iv).toNat)
  case atStart => exact ⟨0, _, Nat.zero_le _, rfl, HI⟩
  case round =>
    clear HI
    obtain ⟨t, vo, ht, rfl, HQ⟩ := hrel
    obtain ⟨w2, rfl⟩ : ∃ w2, w2 = wr := ⟨_, rfl⟩
    have hm0 : MB6 w2 b0 cap (.slice a n0 cp) := (HQ.out.bel.block b0 (by have := HBB.out; omega)).trans H0.out
    obtain ⟨m0, m1⟩ := hm0.cells
    have ml := hm0.lt
    clear hm0
    by_cases hlt : t < n0
    · have hts : (t : Int) < (n0 : Int) := by omega
      obtain ⟨x, hx⟩ := at_lt (l := l) (i := t) (by rw [← HN.out]; exact hlt)
      obtain ⟨bs, off, rfl, hbs, hcell⟩ := HAT.out t x hx
      have hbw : Below w.heap.size w w2 := HB.out.trans (HQ.out.bel.mono (by have := HBB.out; omega))
      have c0 := (hbw.cell (p := ⟨bs, _, none⟩) hbs).trans (hcell 0 _ rfl)
      have c1 := (hbw.cell (p := ⟨bs, _, none⟩) hbs).trans (hcell 1 _ rfl)
      have c2 := (hbw.cell (p := ⟨bs, _, none⟩) hbs).trans (hcell 2 _ rfl)
      have c3 := (hbw.cell (p := ⟨bs, _, none⟩) hbs).trans (hcell 3 _ rfl)
      simp only [Nat.add_zero] at c0
      have hbs2 : bs < w2.heap.size := Nat.lt_of_lt_of_le hbs hbw.size
      have hcl : ((l.take t).filter fun o => !unwW k n o.pl).length < 1000000 := by
        have h1 : ((l.take t).filter fun o => !unwW k n o.pl).length ≤ (l.take t).length := List.length_filter_le _ _
        have h2 := List.length_take_le t l
        omega
      obtain ⟨xi, xg, xt, xa, xn, xc, xs⟩ := x
      simp only at c0 c1 c2 c3
      have HX := Lib.hid hx
      have hb4 := ba (Below.refl w2.heap.size w2) (.cells #[.int .i64 xi, .int .i64 xg, .int .i64 xt, .slice xa xn xc] 72)
      have HK4 := Lib.hid (FB.made w2 xi xg xt (.slice xa xn xc))
      have HQ4 := Lib.hid (HQ.out.on hb4)
      clear hcell hx hbw hbs hb4 HQ
      go_upto_region 6 with (fail)
      clear c0 c1 c2 c3 hbs2 m0 m1 ml
      generalize w2.alloc (.cells #[.int .i64 xi, .int .i64 xg, .int .i64 xt, .slice xa xn xc] 72) = w4 at *
      obtain ⟨fb, hfb⟩ : ∃ b, b = w2.heap.size := ⟨_, rfl⟩
      rw [← hfb] at HK4 ⊢
      clear hfb
      obtain ⟨z0, z1, z2, z3⟩ := HK4.out.cells
      have z4 := HK4.out.lt
      rcases HK.out with hk | hk | hk
      · have k1 : (k == 1) = true := by simpa using hk
        have k2 : (k == 2) = false := by simp; omega
        have k3 : (k == 3) = false := by simp; omega
        have hU := Lib.hid (show unwW k n (xi, xg, xt, xs) = (xi == n) from by unfold unwW; rw [if_pos hk])
        clear hk
        by_cases hxn : xi = n
        · have hxb : (xi == n) = true := by simpa using hxn
          have HU := Lib.hid (show unwW k n (Fo.pl ⟨xi, xg, xt, xa, xn, xc, xs⟩) = true from by show unwW k n (xi, xg, xt, xs) = true; rw [hU.out, hxb])
          clear hU hxn
          have HW := Lib.hid (show (l.take (t + 1)).filter (fun o => !unwW k n o.pl) = (l.take t).filter (fun o => !unwW k n o.pl) from by
            rw [take_at HX.out, List.filter_append]; simp only [List.filter_cons, List.filter_nil]; rw [if_neg (by rw [HU.out]; simp), List.append_nil])
          obtain ⟨z0, z1, z2, z3⟩ := HK4.out.cells
          have z4 := HK4.out.lt
          go_upto_region 7 with (fail)
          clear z0 z1 z2 z3 z4
          go_wp2
          go_roundw
          case rel => exact ⟨t + 1, _, by omega, by go_num, Lib.hid (by rw [HW.out]; exact HQ4.out)⟩
          case measure => simp [intOf]; omega
        · have hxb : (xi == n) = false := by simpa using hxn
          have HU := Lib.hid (show unwW k n (Fo.pl ⟨xi, xg, xt, xa, xn, xc, xs⟩) = false from by show unwW k n (xi, xg, xt, xs) = false; rw [hU.out, hxb])
          clear hU hxn
          have HW := Lib.hid (show (l.take (t + 1)).filter (fun o => !unwW k n o.pl) = (l.take t).filter (fun o => !unwW k n o.pl) ++ [⟨xi, xg, xt, xa, xn, xc, xs⟩] from by
            rw [take_at HX.out, List.filter_append]; congr 1; simp only [List.filter_cons, List.filter_nil]; rw [if_pos (by rw [HU.out]; rfl)])
          go_upto_region 7 with (fail)
          obtain ⟨z0, z1, z2, z3⟩ := HK4.out.cells
          have z4 := HK4.out.lt
          obtain ⟨a9, m9, c9, w8, hrun, hch, hnx⟩ := HQ4.out.app (x := ⟨xi, xg, xt, xa, xn, xc, xs⟩) hcl (ba (Below.refl _ _) _) (FB.made w4 _ _ _ _)
          have HP9 := Lib.hid (hnx w8 hch (Below.refl _ _))
          have HRA := Lib.hid hrun
          obtain ⟨y0, y1⟩ := HQ4.out.m.cells
          have q3 := HQ4.out.m.lt
          have n3 : ¬ OB6 vo b2 := HQ4.out.no (Nat.le_refl _)
          have y9 : w8.cell? ⟨b2, 1, none⟩ = some vo := (hch.cell (b := b2) (by simp; omega) n3 1).trans (((ba (Below.refl _ _) _ : Below w4.heap.size w4 (w4.alloc _)).cell (p := ⟨b2, 1, none⟩) q3).trans y1)
          have y8 : w8.frozen? ⟨b2, 1, none⟩ = false := (hch.frozen (b := b2) (by simp; omega) n3 1).trans ((World.frozen?_of_block (a := ⟨b2, 1, none⟩) ((ba (Below.refl _ _) _ : Below w4.heap.size w4 (w4.alloc _)).block b2 q3)).trans (HQ4.out.m.fz 1))
          have q9 : b2 < w8.heap.size := by have := hch.size; simp at this; omega
          clear hrun hch hnx
          go_wp2_with (at_builtin; refine wpList_app_run rfl _ _ _ rfl rfl rfl HRA.out ?_)
          clear y0 y1 q3 n3 y9 y8 q9
          clear z0 z1 z2 z3 z4
          generalize w8.setCell ⟨b2, 1, none⟩ (.slice a9 m9 c9) = w9 at *
          go_roundw
          case rel => exact ⟨t + 1, _, by omega, by go_num, Lib.hid (by rw [HW.out]; exact HP9.out)⟩
          case measure => simp [intOf]; omega
      · have k1 : (k == 1) = false := by simp; omega
        have k2 : (k == 2) = true := by simpa using hk
        have k3 : (k == 3) = false := by simp; omega
        have hU := Lib.hid (show unwW k n (xi, xg, xt, xs) = (xg == n) from by unfold unwW; rw [if_neg (by omega), if_pos hk])
        clear hk
        by_cases hxn : xg = n
        · have hxb : (xg == n) = true := by simpa using hxn
          have HU := Lib.hid (show unwW k n (Fo.pl ⟨xi, xg, xt, xa, xn, xc, xs⟩) = true from by show unwW k n (xi, xg, xt, xs) = true; rw [hU.out, hxb])
          clear hU hxn
          have HW := Lib.hid (show (l.take (t + 1)).filter (fun o => !unwW k n o.pl) = (l.take t).filter (fun o => !unwW k n o.pl) from by
            rw [take_at HX.out, List.filter_append]; simp only [List.filter_cons, List.filter_nil]; rw [if_neg (by rw [HU.out]; simp), List.append_nil])
          obtain ⟨z0, z1, z2, z3⟩ := HK4.out.cells
          have z4 := HK4.out.lt
          go_upto_region 7 with (fail)
          clear z0 z1 z2 z3 z4
          go_wp2
          go_roundw
          case rel => exact ⟨t + 1, _, by omega, by go_num, Lib.hid (by rw [HW.out]; exact HQ4.out)⟩
          case measure => simp [intOf]; omega
        · have hxb : (xg == n) = false := by simpa using hxn
          have HU := Lib.hid (show unwW k n (Fo.pl ⟨xi, xg, xt, xa, xn, xc, xs⟩) = false from by show unwW k n (xi, xg, xt, xs) = false; rw [hU.out, hxb])
          clear hU hxn
          have HW := Lib.hid (show (l.take (t + 1)).filter (fun o => !unwW k n o.pl) = (l.take t).filter (fun o => !unwW k n o.pl) ++ [⟨xi, xg, xt, xa, xn, xc, xs⟩] from by
            rw [take_at HX.out, List.filter_append]; congr 1; simp only [List.filter_cons, List.filter_nil]; rw [if_pos (by rw [HU.out]; rfl)])
          go_upto_region 7 with (fail)
          obtain ⟨z0, z1, z2, z3⟩ := HK4.out.cells
          have z4 := HK4.out.lt
          obtain ⟨a9, m9, c9, w8, hrun, hch, hnx⟩ := HQ4.out.app (x := ⟨xi, xg, xt, xa, xn, xc, xs⟩) hcl (ba (Below.refl _ _) _) (FB.made w4 _ _ _ _)
          have HP9 := Lib.hid (hnx w8 hch (Below.refl _ _))
          have HRA := Lib.hid hrun
          obtain ⟨y0, y1⟩ := HQ4.out.m.cells
          have q3 := HQ4.out.m.lt
          have n3 : ¬ OB6 vo b2 := HQ4.out.no (Nat.le_refl _)
          have y9 : w8.cell? ⟨b2, 1, none⟩ = some vo := (hch.cell (b := b2) (by simp; omega) n3 1).trans (((ba (Below.refl _ _) _ : Below w4.heap.size w4 (w4.alloc _)).cell (p := ⟨b2, 1, none⟩) q3).trans y1)
          have y8 : w8.frozen? ⟨b2, 1, none⟩ = false := (hch.frozen (b := b2) (by simp; omega) n3 1).trans ((World.frozen?_of_block (a := ⟨b2, 1, none⟩) ((ba (Below.refl _ _) _ : Below w4.heap.size w4 (w4.alloc _)).block b2 q3)).trans (HQ4.out.m.fz 1))
          have q9 : b2 < w8.heap.size := by have := hch.size; simp at this; omega
          clear hrun hch hnx
          go_wp2_with (at_builtin; refine wpList_app_run rfl _ _ _ rfl rfl rfl HRA.out ?_)
          clear y0 y1 q3 n3 y9 y8 q9
          clear z0 z1 z2 z3 z4
          generalize w8.setCell ⟨b2, 1, none⟩ (.slice a9 m9 c9) = w9 at *
          go_roundw
          case rel => exact ⟨t + 1, _, by omega, by go_num, Lib.hid (by rw [HW.out]; exact HP9.out)⟩
          case measure => simp [intOf]; omega
      · have k1 : (k == 1) = false := by simp; omega
        have k2 : (k == 2) = false := by simp; omega
        have k3 : (k == 3) = true := by simpa using hk
        have hU := Lib.hid (show unwW k n (xi, xg, xt, xs) = decide (xt ≤ n) from by unfold unwW; rw [if_neg (by omega), if_neg (by omega)])
        clear hk
        by_cases hxn : xt ≤ n
        · have hxb : decide (xt ≤ n) = true := decide_eq_true hxn
          have HU := Lib.hid (show unwW k n (Fo.pl ⟨xi, xg, xt, xa, xn, xc, xs⟩) = true from by show unwW k n (xi, xg, xt, xs) = true; rw [hU.out, hxb])
          clear hU hxn
          have HW := Lib.hid (show (l.take (t + 1)).filter (fun o => !unwW k n o.pl) = (l.take t).filter (fun o => !unwW k n o.pl) from by
            rw [take_at HX.out, List.filter_append]; simp only [List.filter_cons, List.filter_nil]; rw [if_neg (by rw [HU.out]; simp), List.append_nil])
          obtain ⟨z0, z1, z2, z3⟩ := HK4.out.cells
          have z4 := HK4.out.lt
          go_upto_region 7 with (fail)
          clear z0 z1 z2 z3 z4
          go_wp2
          go_roundw
          case rel => exact ⟨t + 1, _, by omega, by go_num, Lib.hid (by rw [HW.out]; exact HQ4.out)⟩
          case measure => simp [intOf]; omega
        · have hxb : decide (xt ≤ n) = false := decide_eq_false hxn
          have HU := Lib.hid (show unwW k n (Fo.pl ⟨xi, xg, xt, xa, xn, xc, xs⟩) = false from by show unwW k n (xi, xg, xt, xs) = false; rw [hU.out, hxb])
          clear hU hxn
          have HW := Lib.hid (show (l.take (t + 1)).filter (fun o => !unwW k n o.pl) = (l.take t).filter (fun o => !unwW k n o.pl) ++ [⟨xi, xg, xt, xa, xn, xc, xs⟩] from by
            rw [take_at HX.out, List.filter_append]; congr 1; simp only [List.filter_cons, List.filter_nil]; rw [if_pos (by rw [HU.out]; rfl)])
          go_upto_region 7 with (fail)
          obtain ⟨z0, z1, z2, z3⟩ := HK4.out.cells
          have z4 := HK4.out.lt
          obtain ⟨a9, m9, c9, w8, hrun, hch, hnx⟩ := HQ4.out.app (x := ⟨xi, xg, xt, xa, xn, xc, xs⟩) hcl (ba (Below.refl _ _) _) (FB.made w4 _ _ _ _)
          have HP9 := Lib.hid (hnx w8 hch (Below.refl _ _))
          have HRA := Lib.hid hrun
          obtain ⟨y0, y1⟩ := HQ4.out.m.cells
          have q3 := HQ4.out.m.lt
          have n3 : ¬ OB6 vo b2 := HQ4.out.no (Nat.le_refl _)
          have y9 : w8.cell? ⟨b2, 1, none⟩ = some vo := (hch.cell (b := b2) (by simp; omega) n3 1).trans (((ba (Below.refl _ _) _ : Below w4.heap.size w4 (w4.alloc _)).cell (p := ⟨b2, 1, none⟩) q3).trans y1)
          have y8 : w8.frozen? ⟨b2, 1, none⟩ = false := (hch.frozen (b := b2) (by simp; omega) n3 1).trans ((World.frozen?_of_block (a := ⟨b2, 1, none⟩) ((ba (Below.refl _ _) _ : Below w4.heap.size w4 (w4.alloc _)).block b2 q3)).trans (HQ4.out.m.fz 1))
          have q9 : b2 < w8.heap.size := by have := hch.size; simp at this; omega
          clear hrun hch hnx
          go_wp2_with (at_builtin; refine wpList_app_run rfl _ _ _ rfl rfl rfl HRA.out ?_)
          clear y0 y1 q3 n3 y9 y8 q9
          clear z0 z1 z2 z3 z4
          generalize w8.setCell ⟨b2, 1, none⟩ (.slice a9 m9 c9) = w9 at *
          go_roundw
          case rel => exact ⟨t + 1, _, by omega, by go_num, Lib.hid (by rw [HW.out]; exact HP9.out)⟩
          case measure => simp [intOf]; omega
    · obtain rfl : n0 = t := by omega
      have hq := HQ.out
      rw [List.take_of_length_le (by rw [HN.out]; exact Nat.le_refl _)] at hq
      have HQ2 := Lib.hid hq
      obtain ⟨C, hC⟩ : ∃ C, C = l.filter fun o => !unwW k n o.pl := ⟨_, rfl⟩
      rw [← hC] at HQ2
      have HC := Lib.hid hC
      clear hq HQ hC
      obtain ⟨ao, mo, co, hvo⟩ : ∃ ao mo co, vo = .slice ao mo co := by
        rcases HQ2.out.own.2 with ⟨hv, h0⟩ | ⟨g', cap', cur', hv, _⟩
        · exact ⟨_, _, _, hv⟩
        · exact ⟨_, _, _, hv⟩
      subst hvo
      have hm1 : MB6 w2 b1 0 (.slice none 0 0) := (HQ2.out.bel.block b1 (by have := HBB.out; omega)).trans H1.out
      obtain ⟨y0, y1⟩ := HQ2.out.m.cells
      have q2 := HQ2.out.m.lt
      obtain ⟨s0, s1⟩ := hm1.cells
      have s2 := hm1.fz 0; have s3 := hm1.fz 1
      have q1 := hm1.lt
      have HR := Lib.hid (hm1.set2 cap (.slice ao mo co))
      have HST := Lib.hid (show Chg (fun k => k = b1) w2 ((w2.setCell ⟨b1, 0, none⟩ (.int .i64 cap)).setCell ⟨b1, 1, none⟩ (.slice ao mo co)) from ((Chg.refl (fun k => k = b1) w2).setCell (p := ⟨b1, 0, none⟩) (.inl rfl) _).setCell (p := ⟨b1, 1, none⟩) (.inl rfl) _)
      clear hm1
      go_wp2
      refine bodyPost_ret (res_m6 Try.results35 rfl HR.out) rfl ?_
      have hbb := HBB.out
      have hol := HQ2.out.own.lt
      refine ⟨_, C, rfl, ownsRow_base (HQ2.out.own.chg HST.out fun k hk e => by have := (hol k hk).1; have e : k = b1 := e; omega) (by omega), HC.out, ?_⟩
      exact (HB.out.trans (HQ2.out.bel.mono (by omega))).trans (HST.out.below (by have := HQ2.out.sz; omega) fun k e => by have e : k = b1 := e; omega)
end
end
section
open Go.RowKit Go.Maps
attribute [local go_sem] ext_cell ext_frozen extC_cell extC_frozen Mix.calmUpon Mix.mUpon
/-- What the document's Put leaves. -/
def putM (cap : Int) (P : List Pf) (f : Pf) : List Pf := if PArg f then (if f ∈ P then P else if cap ≤ (P.length : Int) then P else Srt.ins flt f P) else P
theorem res_mE {fn : Func} {tmps : Array Value} {w : World} {p q b : Nat} {cap : Int} {v e : Value} (h : fn.results = #[.cell p 70, .tmp q]) (hp : tmps.getD p undef = .pointer (some ⟨b, 0, none⟩)) (hq : tmps.getD q undef = e) (hb : MB6 w b cap v) :
    (results fn tmps).run Try.prog w = .ok (.tuple #[mval6 cap v, e]) w := by
  simp only [results, h]
  have hp' : tmps[p]?.getD undef = .pointer (some ⟨b, 0, none⟩) := by simpa [Array.getD_eq_getD_getElem?] using hp
  have hq' : tmps[q]?.getD undef = e := by simpa [Array.getD_eq_getD_getElem?] using hq
  simp [Sem.run_bind, Result.andThen, hp', hq', asAddr, hb.load]
/-- What Put answers. -/
def RetP7 (w : World) (base : Nat) (cap : Int) (v0 : Value) (l : List Fo) (f : Fo) (E : Int) (Q : List Pf) (e : Ending) (w' : World) : Prop := ∃ v C, e = .returned (.tuple #[mval6 cap v, .int .i64 E]) ∧ OwnL 72 4 foenc w' base v C ∧ C.map Fo.pl = Q ∧ (∀ x ∈ C, x ∈ l ∨ x = f) ∧ (∀ q, v.ownBlock = some q → v0.ownBlock = some q ∨ w.heap.size ≤ q) ∧ Below w.heap.size w w'
abbrev RetP6 (w : World) (base : Nat) (cap : Int) (v0 : Value) (l : List Fo) (f : Fo) : Ending → World → Prop := RetP7 w base cap v0 l f (putE cap (l.map Fo.pl) f.pl) (putM cap (l.map Fo.pl) f.pl)
theorem ps_step {f : Pf} {P : List Pf} {t : Nat} {d : Bool} {o : List Pf} (h : Srt.PS flt f P t d o) {x : Pf} (hx : P[t]? = some x) :
    (d = true → Srt.PS flt f P (t + 1) true (o ++ [x])) ∧ (d = false → flt f x = true → Srt.PS flt f P (t + 1) true (o ++ [f] ++ [x])) ∧ (d = false → flt f x = false → Srt.PS flt f P (t + 1) false (o ++ [x])) := by
  have ht := take_at hx
  refine ⟨fun hd => ?_, fun hd hl => ?_, fun hd hl => ?_⟩
  · rcases h with ⟨h1, _, _⟩ | ⟨_, h2, q, hq, hl⟩
    · rw [hd] at h1; cases h1
    · refine .inr ⟨rfl, ?_, q, by rw [ht]; simp [hq], hl⟩
      rw [ht, Srt.ins_app ⟨q, hq, hl⟩, ← h2]
  · rcases h with ⟨_, h2, h3⟩ | ⟨h1, _, _⟩
    · refine .inr ⟨rfl, ?_, x, by rw [ht]; simp, hl⟩
      rw [ht, Srt.ins_here h3 hl, h2]
    · rw [hd] at h1; cases h1
  · rcases h with ⟨_, h2, h3⟩ | ⟨h1, _, _⟩
    · refine .inl ⟨rfl, by rw [ht, h2], fun q hq => ?_⟩
      rw [ht] at hq
      rcases List.mem_append.1 hq with hq | hq
      · exact h3 q hq
      · rw [List.mem_singleton.1 hq]; exact hl
    · rw [hd] at h1; cases h1
theorem ps_fin {f : Pf} {P : List Pf} {d : Bool} {o : List Pf} (h : Srt.PS flt f P P.length d o) : (d = true → o = Srt.ins flt f P) ∧ (d = false → o ++ [f] = Srt.ins flt f P) := by
  unfold Srt.PS at h
  rw [List.take_length] at h
  refine ⟨fun hd => ?_, fun hd => ?_⟩
  · rcases h with ⟨h1, _, _⟩ | ⟨_, h2, _⟩
    · rw [hd] at h1; cases h1
    · exact h2
  · rcases h with ⟨_, h2, h3⟩ | ⟨h1, _, _⟩
    · rw [Srt.ins_end h3, h2]
    · rw [hd] at h1; cases h1
-- the way out with the table as it was, at the world wq (its cells stand in the context)
-- region 18: the element at hand is appended; H4: the state at the world w4; HPS, HMB: what it tells behind it
section
variable {w : World} {v : Value} {l : List Fo} {cap : Int}
set_option maxRecDepth 100000 in
set_option maxHeartbeats 8000000 in
theorem rput {base : Nat} (h : OwnL 72 4 foenc w base v l) (hbase : base ≤ w.heap.size) (hv : ∀ x ∈ l, Vc w (.slice x.a x.n x.c) x.ps) (hl : ∀ x ∈ l, x.ps.length < 1000000000) (hln : l.length < 900000) (f : Fo) (hf : Vc w (.slice f.a f.n f.c) f.ps) (hfl : f.ps.length < 1000000000) :
    Calls Try.prog 34 #[mval6 cap v, foval f] w (RetP6 w base cap v l f) := by
  have HO := Lib.hid h
  obtain ⟨a, n0, cp, rfl, hn, hc, hm, hat⟩ := (h.rs (fun _ => rfl)).at_
  have HAT := Lib.hid hat; have HN := Lib.hid hn; have HV := Lib.hid hv; have HL := Lib.hid hl; have HBASE := Lib.hid hbase; have HFL := Lib.hid hfl
  have hn9 : n0 < 900000 := by omega
  obtain ⟨i, g, ti, fa, fn, fc, ps⟩ := f
  simp only at hf hfl HFL
  have hpn : fn = ps.length := by
    obtain ⟨_, _, e, _, _⟩ := hf.form
    simp only [Value.slice.injEq] at e
    exact e.2.1
  have HPN := Lib.hid hpn; have HFV := Lib.hid hf
  obtain ⟨P, hP⟩ : ∃ P, P = l.map Fo.pl := ⟨_, rfl⟩
  have HPE := Lib.hid hP
  have hPL : P.length = n0 := by rw [hP, List.length_map, hn]
  have HPL := Lib.hid hPL
  obtain ⟨E, hE⟩ : ∃ E, E = putE cap P (i, g, ti, ps) := ⟨_, rfl⟩
  obtain ⟨Q, hQ⟩ : ∃ Q, Q = putM cap P (i, g, ti, ps) := ⟨_, rfl⟩
  have HE := Lib.hid hE; have HQM := Lib.hid hQ
  show Calls _ _ _ _ (RetP7 w base cap (.slice a n0 cp) l ⟨i, g, ti, fa, fn, fc, ps⟩ (putE cap (l.map Fo.pl) (i, g, ti, ps)) (putM cap (l.map Fo.pl) (i, g, ti, ps)))
  rw [← hP, ← hE, ← hQ]
  obtain ⟨b0, hb0⟩ : ∃ b, b = w.heap.size := ⟨_, rfl⟩
  obtain ⟨b1, hb1⟩ : ∃ b, b = b0 + 1 := ⟨_, rfl⟩
  obtain ⟨b2, hb2⟩ : ∃ b, b = b1 + 1 := ⟨_, rfl⟩
  have hx1 := ba (Below.refl w.heap.size w) (.cells #[.int .i64 cap, .slice a n0 cp] 70)
  have hx2 := ba hx1 (.cells #[.int .i64 i, .int .i64 g, .int .i64 ti, .slice fa fn fc] 72)
  have hx3 := ba hx2 (.cells #[.int .i64 0, .slice none 0 0] 70)
  have s1 : (w.alloc (.cells #[.int .i64 cap, .slice a n0 cp] 70)).heap.size = b1 := by rw [hb1, hb0]; simp
  have s2 : ((w.alloc (.cells #[.int .i64 cap, .slice a n0 cp] 70)).alloc (.cells #[.int .i64 i, .int .i64 g, .int .i64 ti, .slice fa fn fc] 72)).heap.size = b2 := by rw [hb2, hb1, hb0]; simp
  have hm0 := (MB6.made w cap (.slice a n0 cp)).below (ba (ba (Below.refl _ _) (.cells #[.int .i64 i, .int .i64 g, .int .i64 ti, .slice fa fn fc] 72)) (.cells #[.int .i64 0, .slice none 0 0] 70))
  have hm1 := (FB.made (w.alloc (.cells #[.int .i64 cap, .slice a n0 cp] 70)) i g ti (.slice fa fn fc)).below (ba (Below.refl _ _) (.cells #[.int .i64 0, .slice none 0 0] 70))
  have hm2 := MB6.made ((w.alloc (.cells #[.int .i64 cap, .slice a n0 cp] 70)).alloc (.cells #[.int .i64 i, .int .i64 g, .int .i64 ti, .slice fa fn fc] 72)) 0 (.slice none 0 0)
  rw [← hb0] at hm0; rw [s1] at hm1; rw [s2] at hm2
  have HBW := Lib.hid hx3; have H0 := Lib.hid hm0; have HF := Lib.hid hm1; have H2 := Lib.hid hm2
  have HBB := Lib.hid (And.intro hb0 (And.intro hb1 hb2))
  clear h hat hn hv hl hf hbase hfl hm0 hm1 hm2 hx1 hx2 hx3 s1 s2 hm hc hP hPL hE hQ hpn
  go_enter Try.func34, Try.ntmps34
  go_upto_region 1 with (fail)
  rw [← hb0, ← hb1, ← hb2]
  clear hb0 hb1 hb2
  generalize ((w.alloc (.cells #[.int .i64 cap, .slice a n0 cp] 70)).alloc (.cells #[.int .i64 i, .int .i64 g, .int .i64 ti, .slice fa fn fc] 72)).alloc (.cells #[.int .i64 0, .slice none 0 0] 70) = w1 at *
  have HB1 := Lib.hid (Below.refl w1.heap.size w1)
  have hm0 := H0.out.below HB1.out
  obtain ⟨m0, m1⟩ := hm0.cells
  have ml := hm0.lt
  obtain ⟨x0, x1, x2, x3⟩ := (HF.out.below HB1.out).cells
  have x4 := (HF.out.below HB1.out).lt
  have hm2 := H2.out.below HB1.out
  obtain ⟨s0, s1⟩ := hm2.cells
  have s2 := hm2.fz 0
  have s3 := hm2.fz 1
  have q2 := hm2.lt
  clear hm0 hm2
  by_cases h1 : i < 1
  · have hno : ¬ PArg (i, g, ti, ps) := fun e => by have := e.1; simp only at this; omega
    have hE41 := Lib.hid (show E = 41 from by rw [HE.out]; unfold putE; rw [if_neg hno])
    have hQP := Lib.hid (show Q = P from by rw [HQM.out]; unfold putM; rw [if_neg hno])
    clear hno
    have HR := Lib.hid ((H2.out.below HB1.out).set2 cap (.slice a n0 cp))
    have HST := Lib.hid (show Chg (fun k => k = b2) w1 ((w1.setCell ⟨b2, 0, none⟩ (.int .i64 cap)).setCell ⟨b2, 1, none⟩ (.slice a n0 cp)) from ((Chg.refl (fun k => k = b2) w1).setCell (p := ⟨b2, 0, none⟩) (.inl rfl) _).setCell (p := ⟨b2, 1, none⟩) (.inl rfl) _)
    go_wp2
    refine bodyPost_ret (res_mE Try.results34 rfl rfl HR.out) rfl ?_
    have hbb := HBB.out
    have hbw := HBW.out.trans (HB1.out.mono HBW.out.size)
    have hsz := HBW.out.size
    refine ⟨_, l, by rw [hE41.out]; rfl, (HO.out.chg (Chg.of_below (fun _ => False) hbw) fun _ _ => id).chg HST.out fun k hk e => by have := (HO.out.lt k hk).2; have e : k = b2 := e; omega, by rw [hQP.out, HPE.out], fun x hx => .inl hx, fun q hq => .inl hq, ?_⟩
    exact hbw.trans (HST.out.below (by have := hbw.size; omega) fun k e => by have e : k = b2 := e; omega)
  by_cases h2 : g < 1
  · have hno : ¬ PArg (i, g, ti, ps) := fun e => by have := e.2.1; simp only at this; omega
    have hE41 := Lib.hid (show E = 41 from by rw [HE.out]; unfold putE; rw [if_neg hno])
    have hQP := Lib.hid (show Q = P from by rw [HQM.out]; unfold putM; rw [if_neg hno])
    clear hno
    have HR := Lib.hid ((H2.out.below HB1.out).set2 cap (.slice a n0 cp))
    have HST := Lib.hid (show Chg (fun k => k = b2) w1 ((w1.setCell ⟨b2, 0, none⟩ (.int .i64 cap)).setCell ⟨b2, 1, none⟩ (.slice a n0 cp)) from ((Chg.refl (fun k => k = b2) w1).setCell (p := ⟨b2, 0, none⟩) (.inl rfl) _).setCell (p := ⟨b2, 1, none⟩) (.inl rfl) _)
    go_wp2
    refine bodyPost_ret (res_mE Try.results34 rfl rfl HR.out) rfl ?_
    have hbb := HBB.out
    have hbw := HBW.out.trans (HB1.out.mono HBW.out.size)
    have hsz := HBW.out.size
    refine ⟨_, l, by rw [hE41.out]; rfl, (HO.out.chg (Chg.of_below (fun _ => False) hbw) fun _ _ => id).chg HST.out fun k hk e => by have := (HO.out.lt k hk).2; have e : k = b2 := e; omega, by rw [hQP.out, HPE.out], fun x hx => .inl hx, fun q hq => .inl hq, ?_⟩
    exact hbw.trans (HST.out.below (by have := hbw.size; omega) fun k e => by have e : k = b2 := e; omega)
  by_cases h3 : ti < 0
  · have hno : ¬ PArg (i, g, ti, ps) := fun e => by have := e.2.2.1; simp only at this; omega
    have hE41 := Lib.hid (show E = 41 from by rw [HE.out]; unfold putE; rw [if_neg hno])
    have hQP := Lib.hid (show Q = P from by rw [HQM.out]; unfold putM; rw [if_neg hno])
    clear hno
    have HR := Lib.hid ((H2.out.below HB1.out).set2 cap (.slice a n0 cp))
    have HST := Lib.hid (show Chg (fun k => k = b2) w1 ((w1.setCell ⟨b2, 0, none⟩ (.int .i64 cap)).setCell ⟨b2, 1, none⟩ (.slice a n0 cp)) from ((Chg.refl (fun k => k = b2) w1).setCell (p := ⟨b2, 0, none⟩) (.inl rfl) _).setCell (p := ⟨b2, 1, none⟩) (.inl rfl) _)
    go_wp2
    refine bodyPost_ret (res_mE Try.results34 rfl rfl HR.out) rfl ?_
    have hbb := HBB.out
    have hbw := HBW.out.trans (HB1.out.mono HBW.out.size)
    have hsz := HBW.out.size
    refine ⟨_, l, by rw [hE41.out]; rfl, (HO.out.chg (Chg.of_below (fun _ => False) hbw) fun _ _ => id).chg HST.out fun k hk e => by have := (HO.out.lt k hk).2; have e : k = b2 := e; omega, by rw [hQP.out, HPE.out], fun x hx => .inl hx, fun q hq => .inl hq, ?_⟩
    exact hbw.trans (HST.out.below (by have := hbw.size; omega) fun k e => by have e : k = b2 := e; omega)
  by_cases h4 : fn = 0
  · have hno : ¬ PArg (i, g, ti, ps) := fun e => e.2.2.2.1 (List.eq_nil_of_length_eq_zero (by rw [← HPN.out]; exact h4))
    have hE41 := Lib.hid (show E = 41 from by rw [HE.out]; unfold putE; rw [if_neg hno])
    have hQP := Lib.hid (show Q = P from by rw [HQM.out]; unfold putM; rw [if_neg hno])
    have b4 : ((fn : Int) == 0) = true := by simp; omega
    clear hno h4
    have HR := Lib.hid ((H2.out.below HB1.out).set2 cap (.slice a n0 cp))
    have HST := Lib.hid (show Chg (fun k => k = b2) w1 ((w1.setCell ⟨b2, 0, none⟩ (.int .i64 cap)).setCell ⟨b2, 1, none⟩ (.slice a n0 cp)) from ((Chg.refl (fun k => k = b2) w1).setCell (p := ⟨b2, 0, none⟩) (.inl rfl) _).setCell (p := ⟨b2, 1, none⟩) (.inl rfl) _)
    go_wp2
    refine bodyPost_ret (res_mE Try.results34 rfl rfl HR.out) rfl ?_
    have hbb := HBB.out
    have hbw := HBW.out.trans (HB1.out.mono HBW.out.size)
    have hsz := HBW.out.size
    refine ⟨_, l, by rw [hE41.out]; rfl, (HO.out.chg (Chg.of_below (fun _ => False) hbw) fun _ _ => id).chg HST.out fun k hk e => by have := (HO.out.lt k hk).2; have e : k = b2 := e; omega, by rw [hQP.out, HPE.out], fun x hx => .inl hx, fun q hq => .inl hq, ?_⟩
    exact hbw.trans (HST.out.below (by have := hbw.size; omega) fun k e => by have e : k = b2 := e; omega)
  have b4 : ((fn : Int) == 0) = false := by simp; omega
  have HNE := Lib.hid (show ps ≠ [] from fun e => h4 (by rw [HPN.out, e]; rfl))
  have HRT := Lib.hid (rright_v (.slice fa fn fc) ps HFL.out w1 (HFV.out.on HBW.out))
  have HCD := Lib.hid (And.intro h1 (And.intro h2 h3))
  clear h4
  go_wp2_with fail
  clear m0 m1 ml x0 x1 x2 x3 x4 s0 s1 s2 s3 q2
  clear h1 h2 h3 b4
  refine HRT.out.mono ?_
  rintro e w2 ⟨rfl, hb2⟩
  have HB2 := Lib.hid hb2
  clear hb2
  by_cases hvr : VR ps
  case neg =>
    rw [decide_eq_false hvr]
    have hno : ¬ PArg (i, g, ti, ps) := fun e => hvr e.2.2.2.2
    have hE41 := Lib.hid (show E = 41 from by rw [HE.out]; unfold putE; rw [if_neg hno])
    have hQP := Lib.hid (show Q = P from by rw [HQM.out]; unfold putM; rw [if_neg hno])
    clear hno hvr
    have hm0 := H0.out.below HB2.out
    obtain ⟨m0, m1⟩ := hm0.cells
    have ml := hm0.lt
    obtain ⟨x0, x1, x2, x3⟩ := (HF.out.below HB2.out).cells
    have x4 := (HF.out.below HB2.out).lt
    have hm2 := H2.out.below HB2.out
    obtain ⟨s0, s1⟩ := hm2.cells
    have s2 := hm2.fz 0
    have s3 := hm2.fz 1
    have q2 := hm2.lt
    clear hm0 hm2
    have HR := Lib.hid ((H2.out.below HB2.out).set2 cap (.slice a n0 cp))
    have HST := Lib.hid (show Chg (fun k => k = b2) w2 ((w2.setCell ⟨b2, 0, none⟩ (.int .i64 cap)).setCell ⟨b2, 1, none⟩ (.slice a n0 cp)) from ((Chg.refl (fun k => k = b2) w2).setCell (p := ⟨b2, 0, none⟩) (.inl rfl) _).setCell (p := ⟨b2, 1, none⟩) (.inl rfl) _)
    go_wp2
    refine bodyPost_ret (res_mE Try.results34 rfl rfl HR.out) rfl ?_
    have hbb := HBB.out
    have hbw := HBW.out.trans (HB2.out.mono HBW.out.size)
    have hsz := HBW.out.size
    refine ⟨_, l, by rw [hE41.out]; rfl, (HO.out.chg (Chg.of_below (fun _ => False) hbw) fun _ _ => id).chg HST.out fun k hk e => by have := (HO.out.lt k hk).2; have e : k = b2 := e; omega, by rw [hQP.out, HPE.out], fun x hx => .inl hx, fun q hq => .inl hq, ?_⟩
    exact hbw.trans (HST.out.below (by have := hbw.size; omega) fun k e => by have e : k = b2 := e; omega)
  rw [decide_eq_true hvr]
  have HPA := Lib.hid (show PArg (i, g, ti, ps) from ⟨by have := HCD.out; show 1 ≤ i; omega, by have := HCD.out; show 1 ≤ g; omega, by have := HCD.out; show 0 ≤ ti; omega, HNE.out, hvr⟩)
  clear hvr HRT
  go_wp2
  go_loopw [6] (fun iv wr => ∃ t : Nat, t ≤ n0 ∧ iv = .int .i64 t ∧ Hid (Below w1.heap.size w1 wr ∧ (i, g, ti, ps) ∉ P.take t)) (fun iv _ => n0 - (intOf iv).toNat)
  case atStart => exact ⟨0, Nat.zero_le _, rfl, Lib.hid ⟨HB2.out, by simp⟩⟩
  case round =>
    obtain ⟨t, ht, rfl, HQ⟩ := hrel
    obtain ⟨w3, rfl⟩ : ∃ w3, w3 = wr := ⟨_, rfl⟩
    have HB3 := Lib.hid HQ.out.1
    have hm0 := H0.out.below HB3.out
    obtain ⟨m0, m1⟩ := hm0.cells
    have ml := hm0.lt
    obtain ⟨x0, x1, x2, x3⟩ := (HF.out.below HB3.out).cells
    have x4 := (HF.out.below HB3.out).lt
    have hm2 := H2.out.below HB3.out
    obtain ⟨s0, s1⟩ := hm2.cells
    have s2 := hm2.fz 0
    have s3 := hm2.fz 1
    have q2 := hm2.lt
    clear hm0 hm2
    by_cases hlt : t < n0
    · have hts : (t : Int) < (n0 : Int) := by omega
      obtain ⟨x, hx⟩ := at_lt (l := l) (i := t) (by rw [← HN.out]; exact hlt)
      obtain ⟨bs, off, rfl, hbs, hcell⟩ := HAT.out t x hx
      have hbw : Below w.heap.size w w3 := HBW.out.trans (HB3.out.mono HBW.out.size)
      have c0 := (hbw.cell (p := ⟨bs, _, none⟩) hbs).trans (hcell 0 _ rfl)
      have c1 := (hbw.cell (p := ⟨bs, _, none⟩) hbs).trans (hcell 1 _ rfl)
      have c2 := (hbw.cell (p := ⟨bs, _, none⟩) hbs).trans (hcell 2 _ rfl)
      have c3 := (hbw.cell (p := ⟨bs, _, none⟩) hbs).trans (hcell 3 _ rfl)
      simp only [Nat.add_zero] at c0
      have hbs2 : bs < w3.heap.size := Nat.lt_of_lt_of_le hbs hbw.size
      have hpx : P[t]? = some x.pl := by rw [HPE.out, List.getElem?_map, hx]; rfl
      have hvx := (HV.out x (mem_at hx)).on hbw
      have hvf := HFV.out.on hbw
      have hh := fun z : Ext w3 => quiet_extG z (rsameF x.f ⟨i, g, ti, .slice fa fn fc, ps⟩ (ext w3 z) (hvx.on (ext_below _ z)) (hvf.on (ext_below _ z)) (HL.out x (mem_at hx)))
      have HPX := Lib.hid hpx
      clear hcell hx hbw hbs hpx hvx hvf
      obtain ⟨xi, xg, xt, xa, xn, xc, xs⟩ := x
      simp only at c0 c1 c2 c3 hh HPX
      by_cases he : ((xi, xg, xt, xs) : Pf) = (i, g, ti, ps)
      · rw [decide_eq_true (show Fl.pl ⟨xi, xg, xt, .slice xa xn xc, xs⟩ = Fl.pl ⟨i, g, ti, .slice fa fn fc, ps⟩ from he)] at hh
        have HH := Lib.hid hh
        have hin : (i, g, ti, ps) ∈ P := by rw [← he]; exact mem_at HPX.out
        have hE0 := Lib.hid (show E = 0 from by rw [HE.out]; unfold putE; rw [if_pos HPA.out, if_pos hin])
        have hQP := Lib.hid (show Q = P from by rw [HQM.out]; unfold putM; rw [if_pos HPA.out, if_pos hin])
        clear hh he hin
        go_wp2_with fail
        refine wp_region_pure (by kernel_rfl) (by kernel_rfl) ?_
        repeat (first | go_big_quiet_step ((go_at_call 79; with_reducible exact HH.out _)) | (quiet_step ((go_at_call 79; with_reducible exact HH.out _))))
        refine wpQuiet_nil ?_
        rintro w4 ⟨x4', hx4⟩
        have hb4 := ext_below _ x4'
        rw [← hx4] at hb4
        have HB4 := Lib.hid (bt HB3.out hb4)
        clear hx4 x4' hb4 c0 c1 c2 c3 HH
        clear m0 m1 ml x0 x1 x2 x3 x4 s0 s1 s2 s3 q2
        have hm0 := H0.out.below HB4.out
        obtain ⟨m0, m1⟩ := hm0.cells
        have ml := hm0.lt
        obtain ⟨x0, x1, x2, x3⟩ := (HF.out.below HB4.out).cells
        have x4 := (HF.out.below HB4.out).lt
        have hm2 := H2.out.below HB4.out
        obtain ⟨s0, s1⟩ := hm2.cells
        have s2 := hm2.fz 0
        have s3 := hm2.fz 1
        have q2 := hm2.lt
        clear hm0 hm2
        have HR := Lib.hid ((H2.out.below HB4.out).set2 cap (.slice (some ⟨bs, off, none⟩) n0 cp))
        have HST := Lib.hid (show Chg (fun k => k = b2) w4 ((w4.setCell ⟨b2, 0, none⟩ (.int .i64 cap)).setCell ⟨b2, 1, none⟩ (.slice (some ⟨bs, off, none⟩) n0 cp)) from ((Chg.refl (fun k => k = b2) w4).setCell (p := ⟨b2, 0, none⟩) (.inl rfl) _).setCell (p := ⟨b2, 1, none⟩) (.inl rfl) _)
        go_wp2
        refine bodyPost_ret (res_mE Try.results34 rfl rfl HR.out) rfl ?_
        have hbb := HBB.out
        have hbw := HBW.out.trans (HB4.out.mono HBW.out.size)
        have hsz := HBW.out.size
        refine ⟨_, l, by rw [hE0.out]; rfl, (HO.out.chg (Chg.of_below (fun _ => False) hbw) fun _ _ => id).chg HST.out fun k hk e => by have := (HO.out.lt k hk).2; have e : k = b2 := e; omega, by rw [hQP.out, HPE.out], fun x hx => .inl hx, fun q hq => .inl hq, ?_⟩
        exact hbw.trans (HST.out.below (by have := hbw.size; omega) fun k e => by have e : k = b2 := e; omega)
      · rw [decide_eq_false (show ¬ Fl.pl ⟨xi, xg, xt, .slice xa xn xc, xs⟩ = Fl.pl ⟨i, g, ti, .slice fa fn fc, ps⟩ from he)] at hh
        have HH := Lib.hid hh
        have HNI := Lib.hid (show (i, g, ti, ps) ∉ P.take (t + 1) from by
          rw [take_at HPX.out]
          intro e
          rcases List.mem_append.1 e with e | e
          · exact HQ.out.2 e
          · exact he (List.mem_singleton.1 e).symm)
        clear hh he
        go_wp2_with fail
        refine wp_region_pure (by kernel_rfl) (by kernel_rfl) ?_
        repeat (first | go_big_quiet_step ((go_at_call 79; with_reducible exact HH.out _)) | (quiet_step ((go_at_call 79; with_reducible exact HH.out _))))
        refine wpQuiet_nil ?_
        rintro w4 ⟨x4', hx4⟩
        have hb4 := ext_below _ x4'
        rw [← hx4] at hb4
        have HB4 := Lib.hid (bt HB3.out hb4)
        clear hx4 x4' hb4 c0 c1 c2 c3 HH
        clear m0 m1 ml x0 x1 x2 x3 x4 s0 s1 s2 s3 q2
        go_wp2
        go_roundw
        case rel => exact ⟨t + 1, by omega, by go_num, Lib.hid ⟨HB4.out, HNI.out⟩⟩
        case measure => simp [intOf]; omega
    · obtain rfl : n0 = t := by omega
      have hni := HQ.out.2
      rw [List.take_of_length_le (by rw [HPL.out]; exact Nat.le_refl _)] at hni
      have HNI := Lib.hid hni
      clear hni HQ
      by_cases hcp : cap ≤ (n0 : Int)
      · have hE32 := Lib.hid (show E = 32 from by rw [HE.out]; unfold putE; rw [if_pos HPA.out, if_neg HNI.out, if_pos (by rw [HPL.out]; exact hcp)])
        have hQP := Lib.hid (show Q = P from by rw [HQM.out]; unfold putM; rw [if_pos HPA.out, if_neg HNI.out, if_pos (by rw [HPL.out]; exact hcp)])
        have HR := Lib.hid ((H2.out.below HB3.out).set2 cap (.slice a n0 cp))
        have HST := Lib.hid (show Chg (fun k => k = b2) w3 ((w3.setCell ⟨b2, 0, none⟩ (.int .i64 cap)).setCell ⟨b2, 1, none⟩ (.slice a n0 cp)) from ((Chg.refl (fun k => k = b2) w3).setCell (p := ⟨b2, 0, none⟩) (.inl rfl) _).setCell (p := ⟨b2, 1, none⟩) (.inl rfl) _)
        go_wp2
        refine bodyPost_ret (res_mE Try.results34 rfl rfl HR.out) rfl ?_
        have hbb := HBB.out
        have hbw := HBW.out.trans (HB3.out.mono HBW.out.size)
        have hsz := HBW.out.size
        refine ⟨_, l, by rw [hE32.out]; rfl, (HO.out.chg (Chg.of_below (fun _ => False) hbw) fun _ _ => id).chg HST.out fun k hk e => by have := (HO.out.lt k hk).2; have e : k = b2 := e; omega, by rw [hQP.out, HPE.out], fun x hx => .inl hx, fun q hq => .inl hq, ?_⟩
        exact hbw.trans (HST.out.below (by have := hbw.size; omega) fun k e => by have e : k = b2 := e; omega)
      · have HE0 := Lib.hid (show E = 0 from by rw [HE.out]; unfold putE; rw [if_pos HPA.out, if_neg HNI.out, if_neg (by rw [HPL.out]; exact hcp)])
        have HQI := Lib.hid (show Q = Srt.ins flt (i, g, ti, ps) P from by rw [HQM.out]; unfold putM; rw [if_pos HPA.out, if_neg HNI.out, if_neg (by rw [HPL.out]; exact hcp)])
        have hx5 := ba (Below.refl w3.heap.size w3) (.cells #[.int .i64 cap, .slice none 0 0] 70)
        have hm3 := MB6.made w3 cap (.slice none 0 0)
        have HBW3 := Lib.hid (bt HB3.out hx5)
        have HI := Lib.hid (show OC _ _ w3.heap.size cap (.slice none 0 0) [] ∧ Srt.PS flt (i, g, ti, ps) P 0 false (([] : List Fo).map Fo.pl) ∧ (∀ x ∈ ([] : List Fo), x ∈ l ∨ x = (⟨i, g, ti, fa, fn, fc, ps⟩ : Fo)) from
          ⟨⟨Below.refl _ _, hm3.lt, hm3, OwnL.nil _ _ _ _ _⟩, .inl ⟨rfl, rfl, by simp⟩, by simp⟩)
        have HB3Q := Lib.hid (show w1.heap.size ≤ w3.heap.size from HB3.out.size)
        clear hx5 hm3
        go_wp2
        clear m0 m1 ml x0 x1 x2 x3 x4 s0 s1 s2 s3 q2
        clear hcp
        obtain ⟨b3, hb3⟩ : ∃ b, b = w3.heap.size := ⟨_, rfl⟩
        rw [← hb3] at HI HB3Q ⊢
        clear hb3
        generalize w3.alloc (.cells #[.int .i64 cap, .slice none 0 0] 70) = w5 at *
        go_loopw [8, 9] (fun dv iv wr => ∃ (t : Nat) (d : Bool) (vo : Value) (C : List Fo), t ≤ n0 ∧ iv = .int .i64 t ∧ dv = .bool d ∧ Hid (OC w5 wr b3 cap vo C ∧ Srt.PS flt (i, g, ti, ps) P t d (C.map Fo.pl) ∧ ∀ x ∈ C, x ∈ l ∨ x = (⟨i, g, ti, fa, fn, fc, ps⟩ : Fo))) (fun _ iv _ => n0 - (intOf iv).toNat)
        case atStart => exact ⟨0, false, _, [], Nat.zero_le _, rfl, rfl, HI⟩
        case round =>
          clear HI
          obtain ⟨t, d, vo, C, ht, rfl, rfl, HQ⟩ := hrel
          obtain ⟨w2, rfl⟩ : ∃ w2, w2 = wr := ⟨_, rfl⟩
          have H6 := Lib.hid HQ.out.1
          have hw6 : Below w1.heap.size w1 w2 := HBW3.out.trans (H6.out.bel.mono (by have := HB3Q.out; have := HBW3.out.size; omega))
          have HB6 := Lib.hid hw6
          by_cases hlt : t < n0
          · have hts : (t : Int) < (n0 : Int) := by omega
            obtain ⟨x, hx⟩ := at_lt (l := l) (i := t) (by rw [← HN.out]; exact hlt)
            obtain ⟨bs, off, rfl, hbs, hcell⟩ := HAT.out t x hx
            have hpx : P[t]? = some x.pl := by rw [HPE.out, List.getElem?_map, hx]; rfl
            have hst := ps_step HQ.out.2.1 hpx
            have hbw : Below w.heap.size w w2 := HBW.out.trans (hw6.mono HBW.out.size)
            have HHQ := Lib.hid fun z : Ext w2 => quiet_extG z (rahead ⟨i, g, ti, .slice fa fn fc, ps⟩ x.f (ext w2 z) ((HFV.out.on hbw).on (ext_below _ z)) (((HV.out x (mem_at hx)).on hbw).on (ext_below _ z)))
            have hcl : C.length ≤ n0 + 1 := by
              have h1 := HQ.out.2.1.len
              rw [List.length_map] at h1; omega
            have HMX := Lib.hid (show x ∈ l from mem_at hx)
            obtain ⟨xi, xg, xt, xa, xn, xc, xs⟩ := x
            have HCX := Lib.hid hcell; have HBS := Lib.hid hbs; have HCL := Lib.hid hcl; have HST := Lib.hid hst; have HBW2 := Lib.hid hbw
            clear hcell hx hbs hpx hst hbw hw6 hcl
            cases d with
            | true =>
              have HPS := Lib.hid (show Srt.PS flt (i, g, ti, ps) P (t + 1) true ((C ++ [(⟨xi, xg, xt, xa, xn, xc, xs⟩ : Fo)]).map Fo.pl) from by rw [List.map_append]; exact HST.out.1 rfl)
              have HMB := Lib.hid (show ∀ x ∈ C ++ [(⟨xi, xg, xt, xa, xn, xc, xs⟩ : Fo)], x ∈ l ∨ x = (⟨i, g, ti, fa, fn, fc, ps⟩ : Fo) from fun z hz => by
                rcases List.mem_append.1 hz with hz | hz
                · exact HQ.out.2.2 z hz
                · rw [List.mem_singleton.1 hz]; exact .inl HMX.out)
              have hm0 := H0.out.below HB6.out
              obtain ⟨m0, m1⟩ := hm0.cells
              have ml := hm0.lt
              obtain ⟨x0, x1, x2, x3⟩ := (HF.out.below HB6.out).cells
              have x4 := (HF.out.below HB6.out).lt
              have hm2 := H2.out.below HB6.out
              obtain ⟨s0, s1⟩ := hm2.cells
              have s2 := hm2.fz 0
              have s3 := hm2.fz 1
              have q2 := hm2.lt
              clear hm0 hm2
              have e0 := (HBW2.out.cell (p := ⟨bs, _, none⟩) HBS.out).trans (HCX.out 0 _ rfl)
              go_wp2
              refine wp_region_pure (by kernel_rfl) (by kernel_rfl) ?_
              repeat (first | go_big_quiet_step (fail) | (quiet_step (fail)))
              refine wpQuiet_nil ?_
              rintro w4 ⟨x4', hx4⟩
              have hb4 := ext_below _ x4'
              rw [← hx4] at hb4
              have H4 := Lib.hid (H6.out.on hb4)
              clear hx4 x4' hb4 e0
              clear m0 m1 ml x0 x1 x2 x3 x4 s0 s1 s2 s3 q2
              have hw4 : Below w1.heap.size w1 w4 := HBW3.out.trans (H4.out.bel.mono (by have := HB3Q.out; have := HBW3.out.size; omega))
              have HW4 := Lib.hid hw4
              have hb4 : Below w.heap.size w w4 := HBW.out.trans (hw4.mono HBW.out.size)
              have e0 := (hb4.cell (p := ⟨bs, _, none⟩) HBS.out).trans (HCX.out 0 _ rfl)
              have e1 := (hb4.cell (p := ⟨bs, _, none⟩) HBS.out).trans (HCX.out 1 _ rfl)
              have e2 := (hb4.cell (p := ⟨bs, _, none⟩) HBS.out).trans (HCX.out 2 _ rfl)
              have e3 := (hb4.cell (p := ⟨bs, _, none⟩) HBS.out).trans (HCX.out 3 _ rfl)
              simp only [Nat.add_zero] at e0
              have e4 : bs < w4.heap.size := Nat.lt_of_lt_of_le HBS.out hb4.size
              have hm0 := H0.out.below hw4
              obtain ⟨m0, m1⟩ := hm0.cells
              have ml := hm0.lt
              obtain ⟨y0, y1⟩ := H4.out.m.cells
              have q3 := H4.out.m.lt
              have n3 : ¬ OB6 vo b3 := H4.out.no (Nat.le_refl _)
              have n2 : ¬ OB6 vo b0 := H4.out.no (by have := HB3Q.out; have := H0.out.lt; omega)
              have ns : ¬ OB6 vo bs := fun e => by have := (H4.out.own.lt _ e).1; have := HBS.out; have := HB3Q.out; have := HBW.out.size; omega
              clear hw4 hb4 hm0
              go_wp2
              refine Mix.regionL (OB6 vo) (by kernel_rfl) ?_
              intro w5 hb5
              refine Mix.take_exL _ _ 0 rfl (by kernel_rfl) (by kernel_rfl) (by kernel_rfl) (by kernel_rfl) (by kernel_rfl) (by kernel_rfl) (fun K hK => ?_)
              go_simp
              first | (refine hK _ ?_; clear hK K) | (apply Exists.intro; refine ⟨fun x => ?_, hK _ ?_⟩; (fail); clear hK K)
              refine Mix.take_exL _ _ 1 rfl (by kernel_rfl) (by kernel_rfl) (by kernel_rfl) (by kernel_rfl) (by kernel_rfl) (by kernel_rfl) (fun K hK => ?_)
              go_simp
              first | (refine hK _ ?_; clear hK K) | (apply Exists.intro; refine ⟨fun x => ?_, hK _ ?_⟩; (fail); clear hK K)
              refine Mix.take_exL _ _ 2 rfl (by kernel_rfl) (by kernel_rfl) (by kernel_rfl) (by kernel_rfl) (by kernel_rfl) (by kernel_rfl) (fun K hK => ?_)
              go_simp
              first | (refine hK _ ?_; clear hK K) | (apply Exists.intro; refine ⟨fun x => ?_, hK _ ?_⟩; (fail); clear hK K)
              refine Mix.take_exL _ _ 3 rfl (by kernel_rfl) (by kernel_rfl) (by kernel_rfl) (by kernel_rfl) (by kernel_rfl) (by kernel_rfl) (fun K hK => ?_)
              go_simp
              first | (refine hK _ ?_; clear hK K) | (apply Exists.intro; refine ⟨fun x => ?_, hK _ ?_⟩; (fail); clear hK K)
              refine Mix.take_exL _ _ 4 rfl (by kernel_rfl) (by kernel_rfl) (by kernel_rfl) (by kernel_rfl) (by kernel_rfl) (by kernel_rfl) (fun K hK => ?_)
              go_simp
              first | (refine hK _ ?_; clear hK K) | (apply Exists.intro; refine ⟨fun x => ?_, hK _ ?_⟩; (fail); clear hK K)
              refine Mix.take_exL _ _ 5 rfl (by kernel_rfl) (by kernel_rfl) (by kernel_rfl) (by kernel_rfl) (by kernel_rfl) (by kernel_rfl) (fun K hK => ?_)
              go_simp
              first | (refine hK _ ?_; clear hK K) | (apply Exists.intro; refine ⟨fun x => ?_, hK _ ?_⟩; (fail); clear hK K)
              refine Mix.take_exL _ _ 6 rfl (by kernel_rfl) (by kernel_rfl) (by kernel_rfl) (by kernel_rfl) (by kernel_rfl) (by kernel_rfl) (fun K hK => ?_)
              go_simp
              first | (refine hK _ ?_; clear hK K) | (apply Exists.intro; refine ⟨fun x => ?_, hK _ ?_⟩; (fail); clear hK K)
              refine Mix.allL (rs := [7]) (by kernel_rfl) (by simp) (.of_below _ hb5) (by kernel_rfl) ?_
              intro i6 hi6 w6 hb6 hC6
              simp only [List.mem_cons, List.not_mem_nil, or_false] at hi6
              subst hi6
              have HB6 := Lib.hid (bt hb5 hb6)
              clear hC6 hb5 hb6
              refine Mix.op rfl (by kernel_rfl) ?_
              go_simp
              refine Mix.allL (rs := [8]) (by kernel_rfl) (by simp) (.of_below _ (ba HB6.out _)) (by kernel_rfl) ?_
              intro i7 hi7 w7 hb7 hC7
              simp only [List.mem_cons, List.not_mem_nil, or_false] at hi7
              subst hi7
              have HB7 := Lib.hid (bt (ba HB6.out (.cells #[.int .i64 xi, .int .i64 xg, .int .i64 xt, .slice xa xn xc] 72)) hb7)
              have hFX := (FB.made w6 xi xg xt (.slice xa xn xc)).below hb7
              clear hC7 hb7
              obtain ⟨a', m', c', w8, hrun, hch, hnx⟩ := H4.out.app (x := ⟨xi, xg, xt, xa, xn, xc, xs⟩) (by have := HCL.out; omega) HB7.out hFX
              have HCH := Lib.hid hch; have HNX := Lib.hid hnx; have HRA := Lib.hid hrun
              clear hch hnx hrun hFX
              refine Mix.opApp rfl (by kernel_rfl) _ _ _ rfl rfl rfl HRA.out ?_
              go_simp
              refine Mix.take_exL _ _ 9 rfl (by kernel_rfl) (by kernel_rfl) (by kernel_rfl) (by kernel_rfl) (by kernel_rfl) (by kernel_rfl) (fun K hK => ?_)
              go_simp
              first | (refine hK _ ?_; clear hK K) | (apply Exists.intro; refine ⟨fun x => ?_, hK _ ?_⟩; (fail); clear hK K)
              refine Mix.allL (rs := [10]) (by kernel_rfl) (by simp) ((Chg.of_below _ HB7.out).same HCH.out) (by kernel_rfl) ?_
              intro i9 hi9 w9 hb9 hC9
              simp only [List.mem_cons, List.not_mem_nil, or_false] at hi9
              subst hi9
              have hp9 := HNX.out w9 (HCH.out.then_below hb9) hb9
              have y9 : w9.cell? ⟨b3, 1, none⟩ = some vo := ((HCH.out.then_below hb9).cell (b := b3) (by have := HB7.out.size; omega) n3 1).trans ((HB7.out.cell (p := ⟨b3, 1, none⟩) q3).trans y1)
              have y8 : w9.frozen? ⟨b3, 1, none⟩ = false := ((HCH.out.then_below hb9).frozen (b := b3) (by have := HB7.out.size; omega) n3 1).trans ((World.frozen?_of_block (a := ⟨b3, 1, none⟩) (HB7.out.block b3 q3)).trans (H4.out.m.fz 1))
              have q9 : b3 < w9.heap.size := by have := HB7.out.size; have := HCH.out.size; have := hb9.size; omega
              have HP9 := Lib.hid hp9
              clear hC9 hp9 hb9 e0 e1 e2 e3 e4 m0 m1 ml y0 y1 q3 n3 n2 ns
              refine Mix.op rfl (by kernel_rfl) ?_
              go_simp
              refine Mix.doneL (by kernel_rfl) (by kernel_rfl) ?_
              intro w10 hb10
              have HP10 := Lib.hid (HP9.out.on hb10)
              clear hb10 y9 y8 q9
              go_wp2
              go_roundw
              case rel => exact ⟨t + 1, true, _, _, by omega, by go_num, rfl, Lib.hid ⟨HP10.out, HPS.out, HMB.out⟩⟩
              case measure => simp [intOf]; omega
            | false =>
              have HS1 := Lib.hid (HST.out.2.1 rfl)
              have HS2 := Lib.hid (HST.out.2.2 rfl)
              have hm0 := H0.out.below HB6.out
              obtain ⟨m0, m1⟩ := hm0.cells
              have ml := hm0.lt
              obtain ⟨x0, x1, x2, x3⟩ := (HF.out.below HB6.out).cells
              have x4 := (HF.out.below HB6.out).lt
              have hm2 := H2.out.below HB6.out
              obtain ⟨s0, s1⟩ := hm2.cells
              have s2 := hm2.fz 0
              have s3 := hm2.fz 1
              have q2 := hm2.lt
              clear hm0 hm2
              have e0 := (HBW2.out.cell (p := ⟨bs, _, none⟩) HBS.out).trans (HCX.out 0 _ rfl)
              have e1 := (HBW2.out.cell (p := ⟨bs, _, none⟩) HBS.out).trans (HCX.out 1 _ rfl)
              have e2 := (HBW2.out.cell (p := ⟨bs, _, none⟩) HBS.out).trans (HCX.out 2 _ rfl)
              have e3 := (HBW2.out.cell (p := ⟨bs, _, none⟩) HBS.out).trans (HCX.out 3 _ rfl)
              simp only [Nat.add_zero] at e0
              have e4 : bs < w2.heap.size := Nat.lt_of_lt_of_le HBS.out HBW2.out.size
              obtain ⟨r, hr⟩ : ∃ r, r = flt (i, g, ti, ps) (xi, xg, xt, xs) := ⟨_, rfl⟩
              have hhq := HHQ.out
              simp only [Fl.pl] at hhq
              rw [← hr] at hhq
              have HHR := Lib.hid hhq; have HR := Lib.hid hr
              clear hhq hr HHQ
              go_wp2_with fail
              refine wp_region_pure (by kernel_rfl) (by kernel_rfl) ?_
              repeat (first | go_big_quiet_step ((go_at_call 80; with_reducible exact HHR.out _)) | (quiet_step ((go_at_call 80; with_reducible exact HHR.out _))))
              refine wpQuiet_nil ?_
              rintro w4 ⟨x4', hx4⟩
              have hb4 := ext_below _ x4'
              rw [← hx4] at hb4
              have H4 := Lib.hid (H6.out.on hb4)
              have HB7' := Lib.hid (bt HB6.out hb4)
              clear hx4 x4' hb4 e0 e1 e2 e3 e4 HHR
              clear m0 m1 ml x0 x1 x2 x3 x4 s0 s1 s2 s3 q2
              cases r with
              | true =>
                have HPS := Lib.hid (show Srt.PS flt (i, g, ti, ps) P (t + 1) true ((C ++ [(⟨i, g, ti, fa, fn, fc, ps⟩ : Fo)] ++ [(⟨xi, xg, xt, xa, xn, xc, xs⟩ : Fo)]).map Fo.pl) from by rw [List.map_append, List.map_append]; exact HS1.out HR.out.symm)
                have HMB := Lib.hid (show ∀ x ∈ C ++ [(⟨i, g, ti, fa, fn, fc, ps⟩ : Fo)] ++ [(⟨xi, xg, xt, xa, xn, xc, xs⟩ : Fo)], x ∈ l ∨ x = (⟨i, g, ti, fa, fn, fc, ps⟩ : Fo) from fun z hz => by
                  rcases List.mem_append.1 hz with hz | hz
                  · rcases List.mem_append.1 hz with hz | hz
                    · exact HQ.out.2.2 z hz
                    · exact .inr (List.mem_singleton.1 hz)
                  · rw [List.mem_singleton.1 hz]; exact .inl HMX.out)
                have HCL2 := Lib.hid (show (C ++ [(⟨i, g, ti, fa, fn, fc, ps⟩ : Fo)]).length ≤ n0 + 2 by have := HCL.out; rw [List.length_append, List.length_singleton]; omega)
                have hm0 := H0.out.below HB7'.out
                obtain ⟨m0, m1⟩ := hm0.cells
                have ml := hm0.lt
                obtain ⟨x0, x1, x2, x3⟩ := (HF.out.below HB7'.out).cells
                have x4 := (HF.out.below HB7'.out).lt
                have hm2 := H2.out.below HB7'.out
                obtain ⟨s0, s1⟩ := hm2.cells
                have s2 := hm2.fz 0
                have s3 := hm2.fz 1
                have q2 := hm2.lt
                clear hm0 hm2
                have hcl2 : C.length < 1000000 := by have := HCL.out; omega
                obtain ⟨a9, m9, c9, w8, hrun, hch, hnx⟩ := H4.out.app (x := ⟨i, g, ti, fa, fn, fc, ps⟩) hcl2 (ba (Below.refl _ _) _) (FB.made w4 _ _ _ _)
                have HP9 := Lib.hid (hnx w8 hch (Below.refl _ _))
                have HRA := Lib.hid hrun
                obtain ⟨y0, y1⟩ := H4.out.m.cells
                have q3 := H4.out.m.lt
                have n3 : ¬ OB6 vo b3 := H4.out.no (Nat.le_refl _)
                have y9 : w8.cell? ⟨b3, 1, none⟩ = some vo := (hch.cell (b := b3) (by simp; omega) n3 1).trans (((ba (Below.refl _ _) _ : Below w4.heap.size w4 (w4.alloc _)).cell (p := ⟨b3, 1, none⟩) q3).trans y1)
                have y8 : w8.frozen? ⟨b3, 1, none⟩ = false := (hch.frozen (b := b3) (by simp; omega) n3 1).trans ((World.frozen?_of_block (a := ⟨b3, 1, none⟩) ((ba (Below.refl _ _) _ : Below w4.heap.size w4 (w4.alloc _)).block b3 q3)).trans (H4.out.m.fz 1))
                have q9 : b3 < w8.heap.size := by have := hch.size; simp at this; omega
                clear hrun hch hnx
                go_wp2_with (at_builtin; refine wpList_app_run rfl _ _ _ rfl rfl rfl HRA.out ?_)
                clear y0 y1 q3 n3 y9 y8 q9
                clear m0 m1 ml x0 x1 x2 x3 x4 s0 s1 s2 s3 q2
                generalize w8.setCell ⟨b3, 1, none⟩ (.slice a9 m9 c9) = w7 at *
                clear hcl2
                have hw4 : Below w1.heap.size w1 w7 := HBW3.out.trans (HP9.out.bel.mono (by have := HB3Q.out; have := HBW3.out.size; omega))
                have HW4 := Lib.hid hw4
                have hb4 : Below w.heap.size w w7 := HBW.out.trans (hw4.mono HBW.out.size)
                have e0 := (hb4.cell (p := ⟨bs, _, none⟩) HBS.out).trans (HCX.out 0 _ rfl)
                have e1 := (hb4.cell (p := ⟨bs, _, none⟩) HBS.out).trans (HCX.out 1 _ rfl)
                have e2 := (hb4.cell (p := ⟨bs, _, none⟩) HBS.out).trans (HCX.out 2 _ rfl)
                have e3 := (hb4.cell (p := ⟨bs, _, none⟩) HBS.out).trans (HCX.out 3 _ rfl)
                simp only [Nat.add_zero] at e0
                have e4 : bs < w7.heap.size := Nat.lt_of_lt_of_le HBS.out hb4.size
                have hm0 := H0.out.below hw4
                obtain ⟨m0, m1⟩ := hm0.cells
                have ml := hm0.lt
                obtain ⟨y0, y1⟩ := HP9.out.m.cells
                have q3 := HP9.out.m.lt
                have n3 : ¬ OB6 (Value.slice a9 m9 c9) b3 := HP9.out.no (Nat.le_refl _)
                have n2 : ¬ OB6 (Value.slice a9 m9 c9) b0 := HP9.out.no (by have := HB3Q.out; have := H0.out.lt; omega)
                have ns : ¬ OB6 (Value.slice a9 m9 c9) bs := fun e => by have := (HP9.out.own.lt _ e).1; have := HBS.out; have := HB3Q.out; have := HBW.out.size; omega
                clear hw4 hb4 hm0
                go_wp2
                refine Mix.regionL (OB6 (Value.slice a9 m9 c9)) (by kernel_rfl) ?_
                intro w5 hb5
                refine Mix.take_exL _ _ 0 rfl (by kernel_rfl) (by kernel_rfl) (by kernel_rfl) (by kernel_rfl) (by kernel_rfl) (by kernel_rfl) (fun K hK => ?_)
                go_simp
                first | (refine hK _ ?_; clear hK K) | (apply Exists.intro; refine ⟨fun x => ?_, hK _ ?_⟩; (fail); clear hK K)
                refine Mix.take_exL _ _ 1 rfl (by kernel_rfl) (by kernel_rfl) (by kernel_rfl) (by kernel_rfl) (by kernel_rfl) (by kernel_rfl) (fun K hK => ?_)
                go_simp
                first | (refine hK _ ?_; clear hK K) | (apply Exists.intro; refine ⟨fun x => ?_, hK _ ?_⟩; (fail); clear hK K)
                refine Mix.take_exL _ _ 2 rfl (by kernel_rfl) (by kernel_rfl) (by kernel_rfl) (by kernel_rfl) (by kernel_rfl) (by kernel_rfl) (fun K hK => ?_)
                go_simp
                first | (refine hK _ ?_; clear hK K) | (apply Exists.intro; refine ⟨fun x => ?_, hK _ ?_⟩; (fail); clear hK K)
                refine Mix.take_exL _ _ 3 rfl (by kernel_rfl) (by kernel_rfl) (by kernel_rfl) (by kernel_rfl) (by kernel_rfl) (by kernel_rfl) (fun K hK => ?_)
                go_simp
                first | (refine hK _ ?_; clear hK K) | (apply Exists.intro; refine ⟨fun x => ?_, hK _ ?_⟩; (fail); clear hK K)
                refine Mix.take_exL _ _ 4 rfl (by kernel_rfl) (by kernel_rfl) (by kernel_rfl) (by kernel_rfl) (by kernel_rfl) (by kernel_rfl) (fun K hK => ?_)
                go_simp
                first | (refine hK _ ?_; clear hK K) | (apply Exists.intro; refine ⟨fun x => ?_, hK _ ?_⟩; (fail); clear hK K)
                refine Mix.take_exL _ _ 5 rfl (by kernel_rfl) (by kernel_rfl) (by kernel_rfl) (by kernel_rfl) (by kernel_rfl) (by kernel_rfl) (fun K hK => ?_)
                go_simp
                first | (refine hK _ ?_; clear hK K) | (apply Exists.intro; refine ⟨fun x => ?_, hK _ ?_⟩; (fail); clear hK K)
                refine Mix.take_exL _ _ 6 rfl (by kernel_rfl) (by kernel_rfl) (by kernel_rfl) (by kernel_rfl) (by kernel_rfl) (by kernel_rfl) (fun K hK => ?_)
                go_simp
                first | (refine hK _ ?_; clear hK K) | (apply Exists.intro; refine ⟨fun x => ?_, hK _ ?_⟩; (fail); clear hK K)
                refine Mix.allL (rs := [7]) (by kernel_rfl) (by simp) (.of_below _ hb5) (by kernel_rfl) ?_
                intro i6 hi6 w6 hb6 hC6
                simp only [List.mem_cons, List.not_mem_nil, or_false] at hi6
                subst hi6
                have HB6 := Lib.hid (bt hb5 hb6)
                clear hC6 hb5 hb6
                refine Mix.op rfl (by kernel_rfl) ?_
                go_simp
                refine Mix.allL (rs := [8]) (by kernel_rfl) (by simp) (.of_below _ (ba HB6.out _)) (by kernel_rfl) ?_
                intro i7 hi7 w7 hb7 hC7
                simp only [List.mem_cons, List.not_mem_nil, or_false] at hi7
                subst hi7
                have HB7 := Lib.hid (bt (ba HB6.out (.cells #[.int .i64 xi, .int .i64 xg, .int .i64 xt, .slice xa xn xc] 72)) hb7)
                have hFX := (FB.made w6 xi xg xt (.slice xa xn xc)).below hb7
                clear hC7 hb7
                obtain ⟨a', m', c', w8, hrun, hch, hnx⟩ := HP9.out.app (x := ⟨xi, xg, xt, xa, xn, xc, xs⟩) (by have := HCL2.out; omega) HB7.out hFX
                have HCH := Lib.hid hch; have HNX := Lib.hid hnx; have HRA := Lib.hid hrun
                clear hch hnx hrun hFX
                refine Mix.opApp rfl (by kernel_rfl) _ _ _ rfl rfl rfl HRA.out ?_
                go_simp
                refine Mix.take_exL _ _ 9 rfl (by kernel_rfl) (by kernel_rfl) (by kernel_rfl) (by kernel_rfl) (by kernel_rfl) (by kernel_rfl) (fun K hK => ?_)
                go_simp
                first | (refine hK _ ?_; clear hK K) | (apply Exists.intro; refine ⟨fun x => ?_, hK _ ?_⟩; (fail); clear hK K)
                refine Mix.allL (rs := [10]) (by kernel_rfl) (by simp) ((Chg.of_below _ HB7.out).same HCH.out) (by kernel_rfl) ?_
                intro i9 hi9 w9 hb9 hC9
                simp only [List.mem_cons, List.not_mem_nil, or_false] at hi9
                subst hi9
                have hp9 := HNX.out w9 (HCH.out.then_below hb9) hb9
                have y9 : w9.cell? ⟨b3, 1, none⟩ = some (Value.slice a9 m9 c9) := ((HCH.out.then_below hb9).cell (b := b3) (by have := HB7.out.size; omega) n3 1).trans ((HB7.out.cell (p := ⟨b3, 1, none⟩) q3).trans y1)
                have y8 : w9.frozen? ⟨b3, 1, none⟩ = false := ((HCH.out.then_below hb9).frozen (b := b3) (by have := HB7.out.size; omega) n3 1).trans ((World.frozen?_of_block (a := ⟨b3, 1, none⟩) (HB7.out.block b3 q3)).trans (HP9.out.m.fz 1))
                have q9 : b3 < w9.heap.size := by have := HB7.out.size; have := HCH.out.size; have := hb9.size; omega
                have HP9 := Lib.hid hp9
                clear hC9 hp9 hb9 e0 e1 e2 e3 e4 m0 m1 ml y0 y1 q3 n3 n2 ns
                refine Mix.op rfl (by kernel_rfl) ?_
                go_simp
                refine Mix.doneL (by kernel_rfl) (by kernel_rfl) ?_
                intro w10 hb10
                have HP10 := Lib.hid (HP9.out.on hb10)
                clear hb10 y9 y8 q9
                go_wp2
                go_roundw
                case rel => exact ⟨t + 1, true, _, _, by omega, by go_num, rfl, Lib.hid ⟨HP10.out, HPS.out, HMB.out⟩⟩
                case measure => simp [intOf]; omega
              | false =>
                have HPS := Lib.hid (show Srt.PS flt (i, g, ti, ps) P (t + 1) false ((C ++ [(⟨xi, xg, xt, xa, xn, xc, xs⟩ : Fo)]).map Fo.pl) from by rw [List.map_append]; exact HS2.out HR.out.symm)
                have HMB := Lib.hid (show ∀ x ∈ C ++ [(⟨xi, xg, xt, xa, xn, xc, xs⟩ : Fo)], x ∈ l ∨ x = (⟨i, g, ti, fa, fn, fc, ps⟩ : Fo) from fun z hz => by
                  rcases List.mem_append.1 hz with hz | hz
                  · exact HQ.out.2.2 z hz
                  · rw [List.mem_singleton.1 hz]; exact .inl HMX.out)
                have hw4 : Below w1.heap.size w1 w4 := HBW3.out.trans (H4.out.bel.mono (by have := HB3Q.out; have := HBW3.out.size; omega))
                have HW4 := Lib.hid hw4
                have hb4 : Below w.heap.size w w4 := HBW.out.trans (hw4.mono HBW.out.size)
                have e0 := (hb4.cell (p := ⟨bs, _, none⟩) HBS.out).trans (HCX.out 0 _ rfl)
                have e1 := (hb4.cell (p := ⟨bs, _, none⟩) HBS.out).trans (HCX.out 1 _ rfl)
                have e2 := (hb4.cell (p := ⟨bs, _, none⟩) HBS.out).trans (HCX.out 2 _ rfl)
                have e3 := (hb4.cell (p := ⟨bs, _, none⟩) HBS.out).trans (HCX.out 3 _ rfl)
                simp only [Nat.add_zero] at e0
                have e4 : bs < w4.heap.size := Nat.lt_of_lt_of_le HBS.out hb4.size
                have hm0 := H0.out.below hw4
                obtain ⟨m0, m1⟩ := hm0.cells
                have ml := hm0.lt
                obtain ⟨y0, y1⟩ := H4.out.m.cells
                have q3 := H4.out.m.lt
                have n3 : ¬ OB6 vo b3 := H4.out.no (Nat.le_refl _)
                have n2 : ¬ OB6 vo b0 := H4.out.no (by have := HB3Q.out; have := H0.out.lt; omega)
                have ns : ¬ OB6 vo bs := fun e => by have := (H4.out.own.lt _ e).1; have := HBS.out; have := HB3Q.out; have := HBW.out.size; omega
                clear hw4 hb4 hm0
                go_wp2
                refine Mix.regionL (OB6 vo) (by kernel_rfl) ?_
                intro w5 hb5
                refine Mix.take_exL _ _ 0 rfl (by kernel_rfl) (by kernel_rfl) (by kernel_rfl) (by kernel_rfl) (by kernel_rfl) (by kernel_rfl) (fun K hK => ?_)
                go_simp
                first | (refine hK _ ?_; clear hK K) | (apply Exists.intro; refine ⟨fun x => ?_, hK _ ?_⟩; (fail); clear hK K)
                refine Mix.take_exL _ _ 1 rfl (by kernel_rfl) (by kernel_rfl) (by kernel_rfl) (by kernel_rfl) (by kernel_rfl) (by kernel_rfl) (fun K hK => ?_)
                go_simp
                first | (refine hK _ ?_; clear hK K) | (apply Exists.intro; refine ⟨fun x => ?_, hK _ ?_⟩; (fail); clear hK K)
                refine Mix.take_exL _ _ 2 rfl (by kernel_rfl) (by kernel_rfl) (by kernel_rfl) (by kernel_rfl) (by kernel_rfl) (by kernel_rfl) (fun K hK => ?_)
                go_simp
                first | (refine hK _ ?_; clear hK K) | (apply Exists.intro; refine ⟨fun x => ?_, hK _ ?_⟩; (fail); clear hK K)
                refine Mix.take_exL _ _ 3 rfl (by kernel_rfl) (by kernel_rfl) (by kernel_rfl) (by kernel_rfl) (by kernel_rfl) (by kernel_rfl) (fun K hK => ?_)
                go_simp
                first | (refine hK _ ?_; clear hK K) | (apply Exists.intro; refine ⟨fun x => ?_, hK _ ?_⟩; (fail); clear hK K)
                refine Mix.take_exL _ _ 4 rfl (by kernel_rfl) (by kernel_rfl) (by kernel_rfl) (by kernel_rfl) (by kernel_rfl) (by kernel_rfl) (fun K hK => ?_)
                go_simp
                first | (refine hK _ ?_; clear hK K) | (apply Exists.intro; refine ⟨fun x => ?_, hK _ ?_⟩; (fail); clear hK K)
                refine Mix.take_exL _ _ 5 rfl (by kernel_rfl) (by kernel_rfl) (by kernel_rfl) (by kernel_rfl) (by kernel_rfl) (by kernel_rfl) (fun K hK => ?_)
                go_simp
                first | (refine hK _ ?_; clear hK K) | (apply Exists.intro; refine ⟨fun x => ?_, hK _ ?_⟩; (fail); clear hK K)
                refine Mix.take_exL _ _ 6 rfl (by kernel_rfl) (by kernel_rfl) (by kernel_rfl) (by kernel_rfl) (by kernel_rfl) (by kernel_rfl) (fun K hK => ?_)
                go_simp
                first | (refine hK _ ?_; clear hK K) | (apply Exists.intro; refine ⟨fun x => ?_, hK _ ?_⟩; (fail); clear hK K)
                refine Mix.allL (rs := [7]) (by kernel_rfl) (by simp) (.of_below _ hb5) (by kernel_rfl) ?_
                intro i6 hi6 w6 hb6 hC6
                simp only [List.mem_cons, List.not_mem_nil, or_false] at hi6
                subst hi6
                have HB6 := Lib.hid (bt hb5 hb6)
                clear hC6 hb5 hb6
                refine Mix.op rfl (by kernel_rfl) ?_
                go_simp
                refine Mix.allL (rs := [8]) (by kernel_rfl) (by simp) (.of_below _ (ba HB6.out _)) (by kernel_rfl) ?_
                intro i7 hi7 w7 hb7 hC7
                simp only [List.mem_cons, List.not_mem_nil, or_false] at hi7
                subst hi7
                have HB7 := Lib.hid (bt (ba HB6.out (.cells #[.int .i64 xi, .int .i64 xg, .int .i64 xt, .slice xa xn xc] 72)) hb7)
                have hFX := (FB.made w6 xi xg xt (.slice xa xn xc)).below hb7
                clear hC7 hb7
                obtain ⟨a', m', c', w8, hrun, hch, hnx⟩ := H4.out.app (x := ⟨xi, xg, xt, xa, xn, xc, xs⟩) (by have := HCL.out; omega) HB7.out hFX
                have HCH := Lib.hid hch; have HNX := Lib.hid hnx; have HRA := Lib.hid hrun
                clear hch hnx hrun hFX
                refine Mix.opApp rfl (by kernel_rfl) _ _ _ rfl rfl rfl HRA.out ?_
                go_simp
                refine Mix.take_exL _ _ 9 rfl (by kernel_rfl) (by kernel_rfl) (by kernel_rfl) (by kernel_rfl) (by kernel_rfl) (by kernel_rfl) (fun K hK => ?_)
                go_simp
                first | (refine hK _ ?_; clear hK K) | (apply Exists.intro; refine ⟨fun x => ?_, hK _ ?_⟩; (fail); clear hK K)
                refine Mix.allL (rs := [10]) (by kernel_rfl) (by simp) ((Chg.of_below _ HB7.out).same HCH.out) (by kernel_rfl) ?_
                intro i9 hi9 w9 hb9 hC9
                simp only [List.mem_cons, List.not_mem_nil, or_false] at hi9
                subst hi9
                have hp9 := HNX.out w9 (HCH.out.then_below hb9) hb9
                have y9 : w9.cell? ⟨b3, 1, none⟩ = some vo := ((HCH.out.then_below hb9).cell (b := b3) (by have := HB7.out.size; omega) n3 1).trans ((HB7.out.cell (p := ⟨b3, 1, none⟩) q3).trans y1)
                have y8 : w9.frozen? ⟨b3, 1, none⟩ = false := ((HCH.out.then_below hb9).frozen (b := b3) (by have := HB7.out.size; omega) n3 1).trans ((World.frozen?_of_block (a := ⟨b3, 1, none⟩) (HB7.out.block b3 q3)).trans (H4.out.m.fz 1))
                have q9 : b3 < w9.heap.size := by have := HB7.out.size; have := HCH.out.size; have := hb9.size; omega
                have HP9 := Lib.hid hp9
                clear hC9 hp9 hb9 e0 e1 e2 e3 e4 m0 m1 ml y0 y1 q3 n3 n2 ns
                refine Mix.op rfl (by kernel_rfl) ?_
                go_simp
                refine Mix.doneL (by kernel_rfl) (by kernel_rfl) ?_
                intro w10 hb10
                have HP10 := Lib.hid (HP9.out.on hb10)
                clear hb10 y9 y8 q9
                go_wp2
                go_roundw
                case rel => exact ⟨t + 1, false, _, _, by omega, by go_num, rfl, Lib.hid ⟨HP10.out, HPS.out, HMB.out⟩⟩
                case measure => simp [intOf]; omega
          · obtain rfl : n0 = t := by omega
            have hfin := HQ.out.2.1
            rw [show n0 = P.length from HPL.out.symm] at hfin
            have hfn := ps_fin hfin
            have hcl : C.length < 1000000 := by
              have h1 := HQ.out.2.1.len
              rw [List.length_map] at h1; omega
            have HFN := Lib.hid hfn
            have HMB := Lib.hid HQ.out.2.2
            clear hfin hfn hw6
            have hb2e : b2 < b3 := by have := HB3Q.out; have := H2.out.lt; omega
            have hne : b2 ≠ b3 := by omega
            have hne' : b3 ≠ b2 := by omega
            cases d with
            | true =>
              have HC := Lib.hid (show C.map Fo.pl = Q from by rw [HQI.out]; exact HFN.out.1 rfl)
              obtain ⟨ao, mo, co, hvo⟩ : ∃ ao mo co, vo = .slice ao mo co := by
                rcases H6.out.own.2 with ⟨hv, h0⟩ | ⟨g', cap', cur', hv, _⟩
                · exact ⟨_, _, _, hv⟩
                · exact ⟨_, _, _, hv⟩
              subst hvo
              obtain ⟨y0, y1⟩ := H6.out.m.cells
              have q3 := H6.out.m.lt
              have hm0 := H0.out.below HB6.out
              obtain ⟨m0, m1⟩ := hm0.cells
              have ml := hm0.lt
              obtain ⟨x0, x1, x2, x3⟩ := (HF.out.below HB6.out).cells
              have x4 := (HF.out.below HB6.out).lt
              have hm2 := H2.out.below HB6.out
              obtain ⟨s0, s1⟩ := hm2.cells
              have s2 := hm2.fz 0
              have s3 := hm2.fz 1
              have q2 := hm2.lt
              clear hm0 hm2
              have HR := Lib.hid ((H2.out.below HB6.out).set2 cap (.slice ao mo co))
              have HSX := Lib.hid (show Chg (fun k => k = b2) w2 ((w2.setCell ⟨b2, 0, none⟩ (.int .i64 cap)).setCell ⟨b2, 1, none⟩ (.slice ao mo co)) from ((Chg.refl (fun k => k = b2) w2).setCell (p := ⟨b2, 0, none⟩) (.inl rfl) _).setCell (p := ⟨b2, 1, none⟩) (.inl rfl) _)
              go_wp2
              refine bodyPost_ret (res_mE Try.results34 rfl rfl HR.out) rfl ?_
              have hbb := HBB.out
              have hbw := HBW.out.trans (HB6.out.mono HBW.out.size)
              have hsz := HBW.out.size
              refine ⟨_, C, by rw [HE0.out]; rfl, ownsRow_base (H6.out.own.chg HSX.out fun k hk e => by have := (H6.out.own.lt k hk).1; have e : k = b2 := e; omega) (by have := HBASE.out; have := HB3Q.out; omega), HC.out, HMB.out, fun q hq => .inr (by have := (H6.out.own.lt q hq).1; have := HB3Q.out; have := HBW.out.size; omega), ?_⟩
              exact hbw.trans (HSX.out.below (by have := hbw.size; omega) fun k e => by have e : k = b2 := e; omega)
            | false =>
              have HC := Lib.hid (show (C ++ [(⟨i, g, ti, fa, fn, fc, ps⟩ : Fo)]).map Fo.pl = Q from by rw [HQI.out, List.map_append]; exact HFN.out.2 rfl)
              have hm0 := H0.out.below HB6.out
              obtain ⟨m0, m1⟩ := hm0.cells
              have ml := hm0.lt
              obtain ⟨x0, x1, x2, x3⟩ := (HF.out.below HB6.out).cells
              have x4 := (HF.out.below HB6.out).lt
              have hm2 := H2.out.below HB6.out
              obtain ⟨s0, s1⟩ := hm2.cells
              have s2 := hm2.fz 0
              have s3 := hm2.fz 1
              have q2 := hm2.lt
              clear hm0 hm2
              obtain ⟨a9, m9, c9, w8, hrun, hch, hnx⟩ := H6.out.app (x := ⟨i, g, ti, fa, fn, fc, ps⟩) hcl (ba (Below.refl _ _) _) (FB.made w2 _ _ _ _)
              have HP9 := Lib.hid (hnx w8 hch (Below.refl _ _))
              have HRA := Lib.hid hrun
              obtain ⟨y0, y1⟩ := H6.out.m.cells
              have q3 := H6.out.m.lt
              have n3 : ¬ OB6 vo b3 := H6.out.no (Nat.le_refl _)
              have y9 : w8.cell? ⟨b3, 1, none⟩ = some vo := (hch.cell (b := b3) (by simp; omega) n3 1).trans (((ba (Below.refl _ _) _ : Below w2.heap.size w2 (w2.alloc _)).cell (p := ⟨b3, 1, none⟩) q3).trans y1)
              have y8 : w8.frozen? ⟨b3, 1, none⟩ = false := (hch.frozen (b := b3) (by simp; omega) n3 1).trans ((World.frozen?_of_block (a := ⟨b3, 1, none⟩) ((ba (Below.refl _ _) _ : Below w2.heap.size w2 (w2.alloc _)).block b3 q3)).trans (H6.out.m.fz 1))
              have q9 : b3 < w8.heap.size := by have := hch.size; simp at this; omega
              clear hrun hch hnx
              have hbx : Below w2.heap.size w2 (w2.alloc (.cells #[.int .i64 i, .int .i64 g, .int .i64 ti, .slice fa fn fc] 72)) := ba (Below.refl _ _) _
              obtain ⟨z0, z1⟩ := HP9.out.m.cells
              have z2 := HP9.out.m.lt
              have hw9 : Below w1.heap.size w1 (w8.setCell ⟨b3, 1, none⟩ (.slice a9 m9 c9)) := HBW3.out.trans (HP9.out.bel.mono (by have := HB3Q.out; have := HBW3.out.size; omega))
              have HW9 := Lib.hid hw9
              have hk2 := H2.out.below hw9
              obtain ⟨k0, k1⟩ := hk2.cells
              have k2 := hk2.fz 0; have k3 := hk2.fz 1
              have k4 := hk2.lt
              have HR := Lib.hid (hk2.set2 cap (.slice a9 m9 c9))
              have HSX := Lib.hid (show Chg (fun k => k = b2) (w8.setCell ⟨b3, 1, none⟩ (.slice a9 m9 c9)) (((w8.setCell ⟨b3, 1, none⟩ (.slice a9 m9 c9)).setCell ⟨b2, 0, none⟩ (.int .i64 cap)).setCell ⟨b2, 1, none⟩ (.slice a9 m9 c9)) from ((Chg.refl (fun k => k = b2) _).setCell (p := ⟨b2, 0, none⟩) (.inl rfl) _).setCell (p := ⟨b2, 1, none⟩) (.inl rfl) _)
              clear hw9 hk2 hbx
              go_upto_region 21 with (at_builtin; refine wpList_app_run rfl _ _ _ rfl rfl rfl HRA.out ?_)
              clear y0 y1 q3 n3 y9 y8 q9
              clear m0 m1 ml x0 x1 x2 x3 x4 s0 s1 s2 s3 q2
              generalize w8.setCell ⟨b3, 1, none⟩ (.slice a9 m9 c9) = w7 at *
              go_wp2
              refine bodyPost_ret (res_mE Try.results34 rfl rfl HR.out) rfl ?_
              have hbb := HBB.out
              have hbw := HBW.out.trans (HW9.out.mono HBW.out.size)
              have hsz := HBW.out.size
              refine ⟨_, _, by rw [HE0.out]; rfl, ownsRow_base (HP9.out.own.chg HSX.out fun k hk e => by have := (HP9.out.own.lt k hk).1; have e : k = b2 := e; omega) (by have := HBASE.out; have := HB3Q.out; omega), HC.out, fun z hz => ?_, fun q hq => .inr (by have := (HP9.out.own.lt q hq).1; have := HB3Q.out; have := HBW.out.size; omega), ?_⟩
              · rcases List.mem_append.1 hz with hz | hz
                · exact HMB.out z hz
                · exact .inr (List.mem_singleton.1 hz)
              · exact hbw.trans (HSX.out.below (by have := hbw.size; omega) fun k e => by have e : k = b2 := e; omega)
end
end
section
open Go.RowKit Go.Maps
attribute [local go_sem] ext_cell ext_frozen extC_cell extC_frozen Mix.calmUpon Mix.mUpon
abbrev untilF (f : Pf) : Int := f.2.2.1
section
variable {W w : World} {tp M : Nat} {cap : Int} {F : K2 → Option Fx} {S P : List Pf}
set_option maxRecDepth 100000 in
set_option maxHeartbeats 2000000 in
theorem fnext (h : FT W w tp M cap F S) (hln : S.length < 1000000) (hnd : S.Nodup) (hs : Srt.In (fun f : Pf => f) flt P) (hp : P.Perm S) :
    Calls Try.prog 36 #[fptr tp] w fun e w' => e = .returned (.tuple #[.int .i64 (mU (P.map untilF)), .bool (decide (0 < P.length))]) ∧ Below w.heap.size w w' := by
  have HA := Lib.hid (fall h hln hnd)
  have HS := Lib.hid hs; have HP := Lib.hid hp
  clear h hln hnd hs hp
  go_enter Try.func36, Try.ntmps36
  go_wp2_with fail
  refine HA.out.mono ?_
  rintro e w1 ⟨v, l, rfl, hr, hv, hin, hpm, -, hb⟩
  have he : l.map Fl.pl = P := Srt.In.ext ordF hin HS.out fun x => by rw [hpm.mem_iff, HP.out.mem_iff]
  have hU : P.map untilF = l.map Fl.ti := by rw [← he, List.map_map]; rfl
  have hlen : P.length = l.length := by rw [← he, List.length_map]
  obtain ⟨a, n, c, rfl, hn, hc, hm, hat⟩ := hr.at_
  have HU := Lib.hid hU; have HPN := Lib.hid (hlen.trans hn.symm)
  have hvf : ∀ x ∈ l, ∃ a m c, x.vv = .slice a m c := fun x hx => by
    obtain ⟨a, c, e, -, -⟩ := (hv x hx).vc.form
    exact ⟨a, _, c, e⟩
  have hnm : n ≤ 9223372036854775807 := by unfold maxLen at hm; omega
  have HB := Lib.hid hb; have HN := Lib.hid hn; have HAT := Lib.hid hat; have HVF := Lib.hid hvf
  clear hr hv hin hpm hb he hU hlen hn hc hm hat hvf HA
  by_cases h0 : n = 0
  · subst h0
    have HL := Lib.hid (show l = [] from List.eq_nil_of_length_eq_zero HN.out.symm)
    go_wp2
    go_ret2
    exact ⟨by rw [HU.out, HPN.out, HL.out]; rfl, HB.out⟩
  · have h0b : ((n : Int) == 0) = false := by simp; omega
    obtain ⟨x, hx⟩ := at_lt (l := l) (i := 0) (by rw [← HN.out]; omega)
    obtain ⟨bs, off, rfl, hbs, hcell⟩ := HAT.out 0 x hx
    have c2 := hcell 2 _ rfl
    simp only [Nat.zero_mul, Nat.add_zero] at c2
    have hn0 : (0 : Int) < (n : Int) := by omega
    have HX := Lib.hid hx
    clear hcell hx h0
    go_wp2
    clear c2 h0b
    go_loopw [5, 19] (fun nv iv wr => ∃ (t : Nat) (N : Int), t ≤ n ∧ iv = .int .i64 t ∧ nv = .int .i64 N ∧ Hid ((t = 0 ∧ N = x.ti) ∨ (0 < t ∧ N = mU ((l.map Fl.ti).take t))) ∧ Hid (Below w1.heap.size w1 wr)) (fun _ iv _ => n - (intOf iv).toNat)
    case atStart => exact ⟨0, _, Nat.zero_le _, rfl, rfl, Lib.hid (.inl ⟨rfl, rfl⟩), Lib.hid (Below.refl _ _)⟩
    case round =>
      obtain ⟨t, N, ht, rfl, rfl, HI, HQ⟩ := hrel
      obtain ⟨w2, rfl⟩ : ∃ w2, w2 = wr := ⟨_, rfl⟩
      by_cases hlt : t < n
      · have hts : (t : Int) < (n : Int) := by omega
        obtain ⟨y, hy⟩ := at_lt (l := l) (i := t) (by rw [← HN.out]; exact hlt)
        obtain ⟨b', off', hbe, hbs', hcell⟩ := HAT.out t y hy
        cases hbe
        have hbw := HQ.out
        have c0 := (hbw.cell (p := ⟨bs, _, none⟩) hbs).trans (hcell 0 _ rfl)
        have c1 := (hbw.cell (p := ⟨bs, _, none⟩) hbs).trans (hcell 1 _ rfl)
        have c2 := (hbw.cell (p := ⟨bs, _, none⟩) hbs).trans (hcell 2 _ rfl)
        have c3 := (hbw.cell (p := ⟨bs, _, none⟩) hbs).trans (hcell 3 _ rfl)
        simp only [Nat.add_zero] at c0
        have hbs2 : bs < w2.heap.size := Nat.lt_of_lt_of_le hbs hbw.size
        have hpy : (l.map Fl.ti)[t]? = some y.ti := by rw [List.getElem?_map, hy]; rfl
        obtain ⟨N', hN'⟩ : ∃ N', min N y.ti = N' := ⟨_, rfl⟩
        have HI2 := Lib.hid (show N' = mU ((l.map Fl.ti).take (t + 1)) from by
          rw [take_at hpy, mU_snoc, ← hN']
          rcases HI.out with ⟨h1, h2⟩ | ⟨h1, h2⟩
          · subst h1
            rw [if_pos (by simp), h2]
            have : y = x := by
              have h3 := HX.out
              rw [hy] at h3; exact Option.some.inj h3
            rw [this]; exact Int.min_self _
          · rw [if_neg (fun e => by
              have h3 := congrArg List.length e
              rw [List.length_take, List.length_map, ← HN.out] at h3
              simp at h3; omega), h2])
        obtain ⟨ya, yn, yc, hyv⟩ := HVF.out y (mem_at hy)
        obtain ⟨yi, yg, yt, yv, ys⟩ := y
        simp only at hyv c0 c1 c2 c3 hN'
        subst hyv
        have HB3 := Lib.hid (bt hbw (ba (Below.refl w2.heap.size w2) (.cells #[.int .i64 yi, .int .i64 yg, .int .i64 yt, .slice ya yn yc] 72)))
        clear hcell hy hbw hpy HI
        go_wp2
        go_roundw
        case rel => exact ⟨t + 1, N', by omega, by go_num, rfl, Lib.hid (.inr ⟨by omega, HI2.out⟩), HB3⟩
        case measure => simp [intOf]; omega
      · obtain rfl : n = t := by omega
        have HNE := Lib.hid (show N = mU (l.map Fl.ti) from by
          rcases HI.out with ⟨h1, h2⟩ | ⟨h1, h2⟩
          · omega
          · rw [h2, List.take_of_length_le (by rw [List.length_map, HN.out]; exact Nat.le_refl _)])
        have HTR := Lib.hid (show decide (0 < n) = true from decide_eq_true (by omega))
        go_wp2
        go_ret2
        exact ⟨by rw [HU.out, HPN.out, ← HNE.out, HTR.out]; rfl, bt HB.out HQ.out⟩
end
theorem putE_perm {cap : Int} {P S : List Pf} (h : P.Perm S) (f : Pf) : putE cap P f = putE cap S f := by
  unfold putE
  simp only [h.mem_iff, h.length_eq]
theorem putM_perm {cap : Int} {P S : List Pf} (h : P.Perm S) (f : Pf) : (putM cap P f).Perm (putP cap S f) := by
  unfold putM putP
  simp only [h.mem_iff, h.length_eq]
  split
  · split
    · exact h
    · split
      · exact h
      · exact (ins_perm f P).trans ((List.Perm.cons f h).trans (List.perm_append_comm (l₁ := [f]) (l₂ := S)))
  · exact h
where
  ins_perm (f : Pf) : ∀ P : List Pf, (Srt.ins flt f P).Perm (f :: P)
    | [] => .refl _
    | p :: t => by
      unfold Srt.ins
      split
      · exact .refl _
      · exact (List.Perm.cons p (ins_perm f t)).trans (List.Perm.swap f p t)
theorem putM_in {cap : Int} {P : List Pf} (h : Srt.In (fun f : Pf => f) flt P) (f : Pf) : Srt.In (fun f : Pf => f) flt (putM cap P f) := by
  unfold putM
  split
  · split
    · exact h
    · rename_i hn
      split
      · exact h
      · exact h.ins ordF fun p hp e => hn (e ▸ hp)
  · exact h
theorem in_nodup {P : List Pf} (h : Srt.In (fun f : Pf => f) flt P) : P.Nodup := List.Pairwise.imp (fun e => e.2) h
/-- What an act's kind asks the document's Without for. -/
def whatF (k : Int) : Int := if k = 1 then 1 else if k = 2 then 2 else 3
theorem what_unw (a : Fa) : unwP a = unwW (whatF a.kind) a.n := by
  unfold unwP unwW whatF
  by_cases h1 : a.kind = 1
  · simp [h1]
  · by_cases h2 : a.kind = 2
    · simp [h2]
    · simp [h1, h2]
theorem what3 (k : Int) : whatF k = 1 ∨ whatF k = 2 ∨ whatF k = 3 := by
  unfold whatF
  split
  · exact .inl rfl
  · split
    · exact .inr (.inl rfl)
    · exact .inr (.inr rfl)
/-- A block that holds what no table is made of. -/
theorem FT.var {W w w' : World} {tp M : Nat} {cap : Int} {F : K2 → Option Fx} {S : List Pf} (h : FT W w tp M cap F S) {q : Nat} {c : Array Value} {t : TypeId} {z : Nat × Nat} (ho : w.heap[q]? = some (.cells c t z)) (h1 : t ≠ 92) (h2 : t ≠ 134) (h3 : t ≠ 72) (h4 : t ≠ 57)
    (hc : Chg (fun k => k = q) w w') (hi : W.heap.size ≤ q) : FT W w' tp M cap F S := by
  obtain ⟨es, cc, hmo⟩ := MapF.obj h.map
  have n1 : tp ≠ q := fun e => by have := h.obj; rw [e, ho] at this; exact h1 (Obj.cells.inj (Option.some.inj this)).2.1
  have n2 : M ≠ q := fun e => by rw [e, ho] at hmo; cases hmo
  refine ⟨⟨(hc.block tp h.lt.1 n1).trans h.obj, h.map.chg hc n2, h.bel.trans (hc.below h.bel.size fun k e => by rw [e]; exact hi), h.new, h.ne, fun k x hx => ?_, h.one, h.pl, h.ok, h.cp, h.c1⟩, h.nem⟩
  have := (h.lst k x hx).off ho (fun _ _ e => h2 (Obj.cells.inj e).2.1) (fun _ _ e => h3 (Obj.cells.inj e).2.1) (fun _ _ e => h4 (Obj.cells.inj e).2.1)
  exact (h.lst k x hx).chg hc this.1 this.2.1 this.2.2
/-- Table and list side by side. -/
structure PS6 (W wr : World) (tp M : Nat) (cap : Int) (mb : Nat) (F : K2 → Option Fx) (S P : List Pf) (mv : Value) (C : List Fo) : Prop where
  ft : FT W wr tp M cap F S
  srt : Srt.In (fun f : Pf => f) flt P
  pm : P.Perm S
  m : MB6 wr mb cap mv
  own : OwnL 72 4 foenc wr W.heap.size mv C
  pl : C.map Fo.pl = P
  cv : ∀ x ∈ C, Vc W (.slice x.a x.n x.c) x.ps
  off : ∀ q, mv.ownBlock = some q → ¬ TB tp M F q
  nb : ¬ TB tp M F mb
  mbn : W.heap.size ≤ mb
  mo : ∀ q, mv.ownBlock = some q → q ≠ mb
section
variable {W w w' : World} {tp M mb : Nat} {cap : Int} {F : K2 → Option Fx} {S P : List Pf} {mv : Value} {C : List Fo}
theorem PS6.on (h : PS6 W w tp M cap mb F S P mv C) (hb : Below w.heap.size w w') : PS6 W w' tp M cap mb F S P mv C :=
  ⟨h.ft.below hb, h.srt, h.pm, h.m.below hb, h.own.below hb, h.pl, h.cv, h.off, h.nb, h.mbn, h.mo⟩
theorem PS6.len (h : PS6 W w tp M cap mb F S P mv C) : C.length = S.length := by
  rw [← h.pm.length_eq, ← h.pl, List.length_map]
theorem PS6.short (h : PS6 W w tp M cap mb F S P mv C) : ∀ x ∈ C, x.ps.length < 1000000000 := fun x hx => by
  have h1 : x.pl ∈ P := by rw [← h.pl]; exact List.mem_map.2 ⟨x, hx, rfl⟩
  exact Nat.lt_of_le_of_lt (vr_len (h.ft.ok _ (h.pm.mem_iff.1 h1)).vr) (by decide)
end
end
end Go.Proofs.Ytennhfkhdfalfaa

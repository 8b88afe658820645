/- Acts on filters that came in, each vector told its reach; Few of the law. -/
import Derived.Test.YtennhfkhdfalfaaFie
import Derived.Test.YtennhfkhdfalfaaSized
namespace Go.Proofs.Ytennhfkhdfalfaa
open Go.RowKit Go.ChangeShapes Go.WideShapes Go.ChangeAt Go.Joins Go.Deep Go.Maps
attribute [local go_sem] ext_cell ext_frozen extC_cell extC_frozen Mix.calmUpon Mix.mUpon
instance : Inhabited Fl := ⟨⟨0, 0, 0, .slice none 0 0, []⟩⟩
structure Fa where
  kind : Int
  n : Int
  f : Fl
instance : Inhabited Fa := ⟨⟨0, 0, default⟩⟩
def faenc (a : Fa) : List Value := [.int .i64 a.kind, .int .i64 a.n, .int .i64 a.f.fr, .int .i64 a.f.ag, .int .i64 a.f.ti, a.f.vv]
/-- A filter that came in. -/
structure FlIn (W : World) (x : Fl) : Prop where
  i1 : I64 x.fr
  i2 : I64 x.ag
  i3 : I64 x.ti
  vc : Vc W x.vv x.ps
  vi : I64s x.ps
  vl : x.ps.length ≤ reachBytes
set_option maxRecDepth 100000 in
theorem vec_sized {H : Type} {enc : TypeId × Value → H} {W : World} {base : Nat} {sp : Nat → Bool} {held : Bool} {m0 : Nat} {v : Value} {x : DataW H × List MemPlace} {l : List Pt}
    (hf : DataW.trod enc Try.prog W base sp held m0 32 [v] = some x) (hw : WB Try.prog 32 x.1) (hv : Vc W v l) : l.length ≤ reachBytes := by
  rcases open_slice Try.underlying32 hf with ⟨hc, rfl⟩ | ⟨a, len, cap, m, k, D, Pl, hc, _, hl, hm, hmm, rfl, hall⟩
  · cases hc
    rcases hv with ⟨_, rfl⟩ | ⟨b, off, cap, h, _⟩
    · exact Nat.zero_le _
    · cases h
  · cases hc
    have hn := hw.slice Try.underlying32
    simp only [List.length_map, List.length_range] at hn
    have hb : 1 ≤ Try.prog.bytesOf 57 := of_decide_eq_true (by kernel_rfl)
    rcases hv with ⟨_, rfl⟩ | ⟨b, off, cap, h, _⟩
    · exact Nat.zero_le _
    · cases h
      exact Nat.le_trans (Nat.le_trans (Nat.le_add_right _ _) (Nat.le_mul_of_pos_right _ hb)) hn
theorem c6fa : Try.prog.cellsOf 74 = 6 := by kernel_rfl
set_option maxRecDepth 100000 in
theorem open_facts {H : Type} {enc : TypeId × Value → H} {W : World} {base : Nat} {sp : Nat → Bool} {held : Bool} {r : Reach} {b0 : Nat} {v : Value} {d : DataW H} {p : List MemPlace}
    (hv : Value.okWide Try.prog W r b0 64 v) (h : DataW.Trod enc Try.prog W base sp held 64 v d p) (hw : WB Try.prog 64 d) : ∃ l : List Fa, RS 6 faenc W v l ∧ (∀ x ∈ l, FlIn W x.f) ∧ l.length ≤ reachBytes := by
  obtain ⟨a0, n0, c0, rfl⟩ := okWide_slice Try.underlying64 hv
  obtain ⟨m0, hf⟩ := h
  obtain ⟨l, h1, h2, h3, _⟩ := open_rsz (ec := enc) (W := W) (base := base) (sp := sp) (held := held) (P := Try.prog) (k := 6) (enc := faenc) (ok := fun a => FlIn W a.f) Try.underlying64 c6fa (by omega) (fun _ => rfl) (by
    intro m cs x hl hf hw
    match cs, hl with
    | [c0, c1, c2, c3, c4, c5], _ =>
      obtain ⟨xs, n, _, rfl, _, hlen, hff⟩ := DataW.trod_struct Try.underlying74 hf
      match xs, hlen with
      | [y0, y1, y2], _ =>
        have k0 : DataW.trod enc Try.prog W base sp held n 3 [c0] = some y0 := hff 0 _ rfl
        have k1 : DataW.trod enc Try.prog W base sp held n 2 [c1] = some y1 := hff 1 _ rfl
        have k2 : DataW.trod enc Try.prog W base sp held n 72 [c2, c3, c4, c5] = some y2 := hff 2 _ rfl
        have w2 : WB Try.prog 72 y2.1 := hw.part Try.underlying74 (j := 2) rfl rfl
        obtain ⟨xs2, n2, _, rfl, _, hlen2, hff2⟩ := DataW.trod_struct Try.underlying72 k2
        match xs2, hlen2 with
        | [z0, z1, z2, z3], _ =>
          have j0 : DataW.trod enc Try.prog W base sp held n2 2 [c2] = some z0 := hff2 0 _ rfl
          have j1 : DataW.trod enc Try.prog W base sp held n2 2 [c3] = some z1 := hff2 1 _ rfl
          have j2 : DataW.trod enc Try.prog W base sp held n2 2 [c4] = some z2 := hff2 2 _ rfl
          have j3 : DataW.trod enc Try.prog W base sp held n2 32 [c5] = some z3 := hff2 3 _ rfl
          have w3 : WB Try.prog 32 z3.1 := w2.part Try.underlying72 (j := 3) rfl rfl
          obtain ⟨e, ee, _, we⟩ := DataW.trod_int Try.underlying3 k0
          obtain ⟨f, ef, _, wf⟩ := DataW.trod_int Try.underlying2 k1
          obtain ⟨a, ea, _, wa⟩ := DataW.trod_int Try.underlying2 j0
          obtain ⟨b, eb, _, wb⟩ := DataW.trod_int Try.underlying2 j1
          obtain ⟨c, ec, _, wc⟩ := DataW.trod_int Try.underlying2 j2
          obtain ⟨l, hvc, hi⟩ := parts_field j3
          have hz := vec_sized j3 w3 hvc
          simp at ee ef ea eb ec
          subst ee ef ea eb ec
          exact ⟨⟨e, f, ⟨a, b, c, c5, l⟩⟩, rfl, ⟨i64_wf' wa, i64_wf' wb, i64_wf' wc, hvc, hi, hz⟩⟩) hw hf
  have hb : 1 ≤ Try.prog.bytesOf 74 := of_decide_eq_true (by kernel_rfl)
  exact ⟨l, h1, h2, Nat.le_trans (Nat.le_mul_of_pos_right _ hb) h3⟩
def faW (a : Fa) : Nat := a.f.ps.length
theorem fa_sum {α : Type} {l : List α} {f : α → Nat} {t : Nat} {x : α} (h : l[t]? = some x) : ((l.take (t + 1)).map f).sum = ((l.take t).map f).sum + f x := by
  rw [take_at h, List.map_append, List.sum_append]; simp
theorem fa_le {W : World} {l : List Fa} (h : ∀ x ∈ l, FlIn W x.f) : (l.map faW).sum ≤ l.length * reachBytes := by
  induction l with
  | nil => simp
  | cons a l ih =>
    have h1 := h a List.mem_cons_self
    have h2 := ih fun x hx => h x (List.mem_cons_of_mem _ hx)
    simp only [List.map_cons, List.sum_cons, List.length_cons]
    rw [Nat.succ_mul]; have := h1.vl; unfold faW at h2 ⊢; omega
theorem few_each {l : List Fa} (h : (l.map faW).sum ≤ 400) : ∀ x ∈ l, x.f.ps.length < 1000000 := by
  have key : ∀ (l : List Fa) x, x ∈ l → faW x ≤ (l.map faW).sum := by
    intro l
    induction l with
    | nil => intro x hx; cases hx
    | cons a l ih =>
      intro x hx
      rw [List.map_cons, List.sum_cons]
      rcases List.mem_cons.1 hx with rfl | hx
      · omega
      · have := ih x hx; omega
  intro x hx
  have h1 := key l x hx
  have h2 : x.f.ps.length ≤ (l.map faW).sum := h1
  omega
set_option maxRecDepth 100000 in
set_option maxHeartbeats 4000000 in
theorem few26 (v : Value) (l : List Fa) (W : World) (hr : RS 6 faenc W v l) (ha : ∀ x ∈ l, FlIn W x.f) :
    Calls Try.prog 30 #[v] W fun e w' => e = .returned (.bool (decide (l.length ≤ 100 ∧ (l.map faW).sum ≤ 400))) ∧ Below W.heap.size W w' := by
  obtain ⟨a, n, c, rfl, hn, hc, hm, hat⟩ := hr.at_
  have hn9 : n ≤ 9223372036854775807 := by have h := hm; unfold maxLen at h; omega
  have HN := Lib.hid hn; have HAT := Lib.hid hat; have HA := Lib.hid ha
  clear hr hn hat ha hm hc
  go_enter Try.func30, Try.ntmps30
  go_wp2
  go_loopw [3, 4] (fun sv iv wr => ∃ (t : Nat) (z : Int), t ≤ n ∧ iv = .int .i64 t ∧ sv = .int .i64 z ∧ Hid (n ≤ 100 → z = (((l.take t).map faW).sum : Nat)) ∧ Below W.heap.size W wr) (fun sv iv _ => n - (intOf iv).toNat)
  case atStart => exact ⟨0, 0, Nat.zero_le _, rfl, rfl, Lib.hid fun _ => rfl, by (repeat (first | assumption | exact Below.refl _ _ | refine ba ?_ _ | refine bd ?_ | refine bdn ?_ _ | refine bs ?_ (by first | omega | (simp; done) | (simp; omega)) _ | refine bt ?_ (by assumption)))⟩
  case round =>
    obtain ⟨t, z, ht, rfl, rfl, HZ, hb1⟩ := hrel
    obtain ⟨w1, rfl⟩ : ∃ w1, w1 = wr := ⟨_, rfl⟩
    have hs1 : W.heap.size + 0 ≤ w1.heap.size := (by have h := hb1.size; first | omega | (simp at h; omega))
    obtain ⟨hc1, hf1, hl1⟩ := bcell hb1
    clear hl1
    by_cases hlt : t < n
    · have hts : (t : Int) < (n : Int) := by omega
      obtain ⟨x, hx⟩ := at_lt (l := l) (i := t) (by rw [← HN.out]; exact hlt)
      obtain ⟨b, off, rfl, hb, hcell⟩ := HAT.out t x hx
      have c2 := hcell 5 _ rfl
      have hxi := HA.out x (mem_at hx)
      obtain ⟨va, vc, hvv, -, -⟩ := hxi.vc.form
      have hsum := fa_sum (f := faW) hx
      have hle : ((l.take (t + 1)).map faW).sum ≤ (t + 1) * reachBytes := by
        refine Nat.le_trans (fa_le fun y hy => HA.out y (List.mem_of_mem_take hy)) (Nat.mul_le_mul_right _ ?_)
        rw [List.length_take]; omega
      obtain ⟨xk, xn, ⟨xi, xg, xt, xv, xs⟩⟩ := x
      simp only at hvv c2
      subst hvv
      obtain ⟨m, hmq⟩ : ∃ m, m = xs.length := ⟨_, rfl⟩
      have htw : faW ⟨xk, xn, ⟨xi, xg, xt, .slice va xs.length vc, xs⟩⟩ = m := by rw [hmq]; rfl
      rw [htw] at hsum
      rw [← hmq] at c2
      have HNX := Lib.hid (show n ≤ 100 → IntKind.i64.wrap (z + (m : Int)) = (((l.take (t + 1)).map faW).sum : Nat) from fun h100 => by
        have h1 := HZ.out h100
        have h2 : reachBytes < 140737488355328 := reachBytes_lt
        have h3 : (t + 1) * reachBytes ≤ 100 * reachBytes := Nat.mul_le_mul_right _ (by omega)
        rw [IntWalk.i64_in _ (by omega), h1, hsum]; omega)
      have hbl : b < w1.heap.size := Nat.lt_of_lt_of_le hb hb1.size
      clear hcell hx hxi hsum hle htw hmq
      go_wp2
      go_roundw
      case rel => exact ⟨t + 1, _, by omega, by go_num, rfl, Lib.hid fun h => by first | exact HNX.out h | exact (IntWalk.i64_left _).symm.trans (HNX.out h) | (have := HNX.out h; simp only [IntWalk.i64_left] at this ⊢; exact this), by (repeat (first | assumption | exact Below.refl _ _ | refine ba ?_ _ | refine bd ?_ | refine bdn ?_ _ | refine bs ?_ (by first | omega | (simp; done) | (simp; omega)) _ | refine bt ?_ (by assumption)))⟩
      case measure => simp [intOf]; omega
    · obtain rfl : n = t := by omega
      have hall : l.take n = l := by rw [HN.out]; exact List.take_length
      have HZ2 := Lib.hid (show n ≤ 100 → z = ((l.map faW).sum : Nat) from by have := HZ.out; rw [hall] at this; exact this)
      by_cases hq : n ≤ 100
      · have hq1 : ((n : Int)) ≤ 100 := by omega
        have hz := HZ2.out hq
        by_cases h4 : z ≤ 400
        · clear hall
          have HZ3 := Lib.hid hz
          clear hz
          go_wp2
          go_ret
          exact ⟨by have h1 := HZ3.out; have h2 := HN.out; simp; omega, by (repeat (first | assumption | exact Below.refl _ _ | refine ba ?_ _ | refine bd ?_ | refine bdn ?_ _ | refine bs ?_ (by first | omega | (simp; done) | (simp; omega)) _ | refine bt ?_ (by assumption)))⟩
        · clear hall
          have HZ3 := Lib.hid hz
          clear hz
          go_wp2
          go_ret
          exact ⟨by have h1 := HZ3.out; have h2 := HN.out; simp; omega, by (repeat (first | assumption | exact Below.refl _ _ | refine ba ?_ _ | refine bd ?_ | refine bdn ?_ _ | refine bs ?_ (by first | omega | (simp; done) | (simp; omega)) _ | refine bt ?_ (by assumption)))⟩
      · have hq1 : ¬ ((n : Int)) ≤ 100 := by omega
        clear hall
        go_wp2
        go_ret
        exact ⟨by have h2 := HN.out; simp; omega, by (repeat (first | assumption | exact Below.refl _ _ | refine ba ?_ _ | refine bd ?_ | refine bdn ?_ _ | refine bs ?_ (by first | omega | (simp; done) | (simp; omega)) _ | refine bt ?_ (by assumption)))⟩
end Go.Proofs.Ytennhfkhdfalfaa

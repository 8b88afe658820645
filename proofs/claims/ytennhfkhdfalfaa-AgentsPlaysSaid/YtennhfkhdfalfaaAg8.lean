/- Acts on agents that came in, each vector told its reach; mancipleref22.Few. -/
import Derived.Test.YtennhfkhdfalfaaAg0
import Derived.Test.YtennhfkhdfalfaaVecN
import Derived.Test.YtennhfkhdfalfaaSized
namespace Go.Proofs.Ytennhfkhdfalfaa
open Go.RowKit Go.ChangeShapes Go.WideShapes Go.ChangeAt Go.Joins Go.Deep Go.Maps
attribute [local go_sem] ext_cell ext_frozen extC_cell extC_frozen Mix.calmUpon Mix.mUpon
structure Aa where
  kind : Int
  id : Int
  v : Value
  vs : List Pt
  u : Value
  us : List Pt
instance : Inhabited Aa := ⟨⟨0, 0, .slice none 0 0, [], .slice none 0 0, []⟩⟩
def aaenc (a : Aa) : List Value := [.int .i64 a.kind, .int .i64 a.id, a.v, a.u]
/-- An act that came in. -/
structure AaIn (W : World) (x : Aa) : Prop where
  kd : I64 x.kind
  id : I64 x.id
  vc : Vc W x.v x.vs
  uc : Vc W x.u x.us
  vi : I64s x.vs
  ui : I64s x.us
  vl : x.vs.length ≤ reachBytes
  ul : x.us.length ≤ reachBytes
set_option maxRecDepth 100000 in
theorem vec_sized {H : Type} {enc : TypeId × Value → H} {W : World} {base : Nat} {sp : Nat → Bool} {held : Bool} {m0 : Nat} {v : Value} {x : DataW H × List MemPlace} {l : List Pt}
    (hf : DataW.trod enc Try.prog W base sp held m0 32 [v] = some x) (hw : WB Try.prog 32 x.1) (hv : Vc W v l) : l.length ≤ reachBytes := by
  rcases open_slice Try.underlying32 hf with ⟨hc, rfl⟩ | ⟨a, len, cap, m, k, D, Pl, hc, _, hl, hm, hmm, rfl, hall⟩
  · cases hc
    rcases hv with ⟨_, rfl⟩ | ⟨b, off, cap, h, _⟩
    · exact Nat.zero_le _
    · cases h
  · cases hc
    have hn := hw.slice Try.underlying32
    simp only [List.length_map, List.length_range] at hn
    have hb : 1 ≤ Try.prog.bytesOf 57 := of_decide_eq_true (by kernel_rfl)
    rcases hv with ⟨_, rfl⟩ | ⟨b, off, cap, h, _⟩
    · exact Nat.zero_le _
    · cases h
      exact Nat.le_trans (Nat.le_trans (Nat.le_add_right _ _) (Nat.le_mul_of_pos_right _ hb)) hn
theorem c4aa : Try.prog.cellsOf 34 = 4 := by kernel_rfl
set_option maxRecDepth 100000 in
theorem open_aacts {H : Type} {enc : TypeId × Value → H} {W : World} {base : Nat} {sp : Nat → Bool} {held : Bool} {r : Reach} {b0 : Nat} {v : Value} {d : DataW H} {p : List MemPlace}
    (hv : Value.okWide Try.prog W r b0 22 v) (h : DataW.Trod enc Try.prog W base sp held 22 v d p) (hw : WB Try.prog 22 d) : ∃ l : List Aa, RS 4 aaenc W v l ∧ (∀ x ∈ l, AaIn W x) ∧ l.length ≤ reachBytes := by
  obtain ⟨a0, n0, c0, rfl⟩ := okWide_slice Try.underlying22 hv
  obtain ⟨m0, hf⟩ := h
  obtain ⟨l, h1, h2, h3, _⟩ := open_rsz (ec := enc) (W := W) (base := base) (sp := sp) (held := held) (P := Try.prog) (k := 4) (enc := aaenc) (ok := fun a => AaIn W a) Try.underlying22 c4aa (by omega) (fun _ => rfl) (by
    intro m cs x hl hf hw
    match cs, hl with
    | [c0, c1, c2, c3], _ =>
      obtain ⟨xs, n, _, rfl, _, hlen, hff⟩ := DataW.trod_struct Try.underlying34 hf
      match xs, hlen with
      | [z0, z1, z2, z3], _ =>
        have j0 : DataW.trod enc Try.prog W base sp held n 3 [c0] = some z0 := hff 0 _ rfl
        have j1 : DataW.trod enc Try.prog W base sp held n 2 [c1] = some z1 := hff 1 _ rfl
        have j2 : DataW.trod enc Try.prog W base sp held n 32 [c2] = some z2 := hff 2 _ rfl
        have j3 : DataW.trod enc Try.prog W base sp held n 32 [c3] = some z3 := hff 3 _ rfl
        have w2 : WB Try.prog 32 z2.1 := hw.part Try.underlying34 (j := 2) rfl rfl
        have w3 : WB Try.prog 32 z3.1 := hw.part Try.underlying34 (j := 3) rfl rfl
        obtain ⟨a, ea, _, wa⟩ := DataW.trod_int Try.underlying3 j0
        obtain ⟨b, eb, _, wb⟩ := DataW.trod_int Try.underlying2 j1
        obtain ⟨l, hvc, hi⟩ := parts_field j2
        obtain ⟨l', hvc', hi'⟩ := parts_field j3
        have hz := vec_sized j2 w2 hvc
        have hz' := vec_sized j3 w3 hvc'
        simp at ea eb
        subst ea eb
        exact ⟨⟨a, b, c2, l, c3, l'⟩, rfl, ⟨i64_wf' wa, i64_wf' wb, hvc, hvc', hi, hi', hz, hz'⟩⟩) hw hf
  have hb : 1 ≤ Try.prog.bytesOf 34 := of_decide_eq_true (by kernel_rfl)
  exact ⟨l, h1, h2, Nat.le_trans (Nat.le_mul_of_pos_right _ hb) h3⟩
def aaW (a : Aa) : Nat := a.vs.length + a.us.length
theorem aa_sum {α : Type} {l : List α} {f : α → Nat} {t : Nat} {x : α} (h : l[t]? = some x) : ((l.take (t + 1)).map f).sum = ((l.take t).map f).sum + f x := by
  rw [take_at h, List.map_append, List.sum_append]; simp
theorem aa_le {W : World} {l : List Aa} (h : ∀ x ∈ l, AaIn W x) : (l.map aaW).sum ≤ l.length * (2 * reachBytes) := by
  induction l with
  | nil => simp
  | cons a l ih =>
    have h1 := h a List.mem_cons_self
    have h2 := ih fun x hx => h x (List.mem_cons_of_mem _ hx)
    simp only [List.map_cons, List.sum_cons, List.length_cons]
    rw [Nat.succ_mul]; have := h1.vl; have := h1.ul; unfold aaW at h2 ⊢; omega
theorem few_each {l : List Aa} (h : (l.map aaW).sum ≤ 600) : ∀ x ∈ l, x.vs.length < 1000000 ∧ x.us.length < 1000000 := by
  have key : ∀ (l : List Aa) x, x ∈ l → aaW x ≤ (l.map aaW).sum := by
    intro l
    induction l with
    | nil => intro x hx; cases hx
    | cons a l ih =>
      intro x hx
      rw [List.map_cons, List.sum_cons]
      rcases List.mem_cons.1 hx with rfl | hx
      · omega
      · have := ih x hx; omega
  intro x hx
  have h1 := key l x hx
  unfold aaW at h1
  have h2 : x.vs.length + x.us.length ≤ (l.map aaW).sum := h1
  omega
set_option maxRecDepth 100000 in
set_option maxHeartbeats 4000000 in
theorem few22 (v : Value) (l : List Aa) (W : World) (hr : RS 4 aaenc W v l) (ha : ∀ x ∈ l, AaIn W x) :
    Calls Try.prog 11 #[v] W fun e w' => e = .returned (.bool (decide (l.length ≤ 80 ∧ (l.map aaW).sum ≤ 600))) ∧ Below W.heap.size W w' := by
  obtain ⟨a, n, c, rfl, hn, hc, hm, hat⟩ := hr.at_
  have hn9 : n ≤ 9223372036854775807 := by have h := hm; unfold maxLen at h; omega
  have HN := Lib.hid hn; have HAT := Lib.hid hat; have HA := Lib.hid ha
  clear hr hn hat ha hm hc
  go_enter Try.func11, Try.ntmps11
  go_wp2
  go_loopw [3, 4] (fun sv iv wr => ∃ (t : Nat) (z : Int), t ≤ n ∧ iv = .int .i64 t ∧ sv = .int .i64 z ∧ Hid (n ≤ 80 → z = (((l.take t).map aaW).sum : Nat)) ∧ Below W.heap.size W wr) (fun sv iv _ => n - (intOf iv).toNat)
  case atStart => exact ⟨0, 0, Nat.zero_le _, rfl, rfl, Lib.hid fun _ => rfl, by (repeat (first | assumption | exact Below.refl _ _ | refine ba ?_ _ | refine bd ?_ | refine bdn ?_ _ | refine bs ?_ (by first | omega | (simp; done) | (simp; omega)) _ | refine bt ?_ (by assumption)))⟩
  case round =>
    obtain ⟨t, z, ht, rfl, rfl, HZ, hb1⟩ := hrel
    obtain ⟨w1, rfl⟩ : ∃ w1, w1 = wr := ⟨_, rfl⟩
    have hs1 : W.heap.size + 0 ≤ w1.heap.size := (by have h := hb1.size; first | omega | (simp at h; omega))
    obtain ⟨hc1, hf1, hl1⟩ := bcell hb1
    clear hl1
    by_cases hlt : t < n
    · have hts : (t : Int) < (n : Int) := by omega
      obtain ⟨x, hx⟩ := at_lt (l := l) (i := t) (by rw [← HN.out]; exact hlt)
      obtain ⟨b, off, rfl, hb, hcell⟩ := HAT.out t x hx
      have c2 := hcell 2 _ rfl
      have c3 := hcell 3 _ rfl
      have hxi := HA.out x (mem_at hx)
      obtain ⟨va, vc, hvv, -, -⟩ := hxi.vc.form
      obtain ⟨ua, uc, huv, -, -⟩ := hxi.uc.form
      have hsum := aa_sum (f := aaW) hx
      have hle : ((l.take (t + 1)).map aaW).sum ≤ (t + 1) * (2 * reachBytes) := by
        refine Nat.le_trans (aa_le fun y hy => HA.out y (List.mem_of_mem_take hy)) (Nat.mul_le_mul_right _ ?_)
        rw [List.length_take]; omega
      obtain ⟨xk, xi, xv, xs, xu, xt⟩ := x
      simp only at hvv huv c2 c3
      subst hvv huv
      obtain ⟨m, hmq⟩ : ∃ m, m = xs.length := ⟨_, rfl⟩
      obtain ⟨m2, hmq2⟩ : ∃ m, m = xt.length := ⟨_, rfl⟩
      have htw : aaW ⟨xk, xi, .slice va xs.length vc, xs, .slice ua xt.length uc, xt⟩ = m + m2 := by rw [hmq, hmq2]; rfl
      rw [htw] at hsum
      rw [← hmq] at c2
      rw [← hmq2] at c3
      have HNX := Lib.hid (show n ≤ 80 → IntKind.i64.wrap (IntKind.i64.wrap (z + (m : Int)) + (m2 : Int)) = (((l.take (t + 1)).map aaW).sum : Nat) from fun h100 => by
        have h1 := HZ.out h100
        have h2 : reachBytes < 140737488355328 := reachBytes_lt
        have h3 : (t + 1) * (2 * reachBytes) ≤ 80 * (2 * reachBytes) := Nat.mul_le_mul_right _ (by omega)
        rw [IntWalk.i64_in (z + (m : Int)) (by omega), IntWalk.i64_in _ (by omega), h1, hsum]; omega)
      have hbl : b < w1.heap.size := Nat.lt_of_lt_of_le hb hb1.size
      clear hcell hx hxi hsum hle htw hmq hmq2
      go_wp2_with fail
      refine wp_region_pure (by kernel_rfl) (by kernel_rfl) ?_
      repeat (first | go_big_quiet_step ((fail)) | (quiet_step ((fail))))
      refine wpQuiet_nil ?_
      rintro w2 ⟨x2, hx2⟩
      have hb2 := ext_below _ x2
      rw [← hx2] at hb2
      clear hx2 x2
      have hs2 : w1.heap.size + 0 ≤ w2.heap.size := (by have h := hb2.size; first | omega | (simp at h; omega))
      have hb1_2 := bel hb1 hb2 (by (repeat (first | assumption | exact Below.refl _ _ | refine ba ?_ _ | refine bd ?_ | refine bdn ?_ _ | refine bs ?_ (by first | omega | (simp; done) | (simp; omega)) _ | refine bt ?_ (by assumption))))
      clear hc1 hf1
      obtain ⟨hc2, hf2, hl2⟩ := bcell hb2
      clear hl2
      go_wp2
      go_roundw
      case rel => exact ⟨t + 1, _, by omega, by go_num, rfl, Lib.hid fun h => by first | exact HNX.out h | exact (IntWalk.i64_left _).symm.trans (HNX.out h) | (have := HNX.out h; simp only [IntWalk.i64_left] at this ⊢; exact this), by (repeat (first | assumption | exact Below.refl _ _ | refine ba ?_ _ | refine bd ?_ | refine bdn ?_ _ | refine bs ?_ (by first | omega | (simp; done) | (simp; omega)) _ | refine bt ?_ (by assumption)))⟩
      case measure => simp [intOf]; omega
    · obtain rfl : n = t := by omega
      have hall : l.take n = l := by rw [HN.out]; exact List.take_length
      have HZ2 := Lib.hid (show n ≤ 80 → z = ((l.map aaW).sum : Nat) from by have := HZ.out; rw [hall] at this; exact this)
      by_cases hq : n ≤ 80
      · have hq1 : ((n : Int)) ≤ 80 := by omega
        have hz := HZ2.out hq
        by_cases h4 : z ≤ 600
        · clear hall
          have HZ3 := Lib.hid hz
          clear hz
          go_wp2
          go_ret
          exact ⟨by have h1 := HZ3.out; have h2 := HN.out; simp; omega, by (repeat (first | assumption | exact Below.refl _ _ | refine ba ?_ _ | refine bd ?_ | refine bdn ?_ _ | refine bs ?_ (by first | omega | (simp; done) | (simp; omega)) _ | refine bt ?_ (by assumption)))⟩
        · clear hall
          have HZ3 := Lib.hid hz
          clear hz
          go_wp2
          go_ret
          exact ⟨by have h1 := HZ3.out; have h2 := HN.out; simp; omega, by (repeat (first | assumption | exact Below.refl _ _ | refine ba ?_ _ | refine bd ?_ | refine bdn ?_ _ | refine bs ?_ (by first | omega | (simp; done) | (simp; omega)) _ | refine bt ?_ (by assumption)))⟩
      · have hq1 : ¬ ((n : Int)) ≤ 80 := by omega
        clear hall
        go_wp2
        go_ret
        exact ⟨by have h2 := HN.out; simp; omega, by (repeat (first | assumption | exact Below.refl _ _ | refine ba ?_ _ | refine bd ?_ | refine bdn ?_ _ | refine bs ?_ (by first | omega | (simp; done) | (simp; omega)) _ | refine bt ?_ (by assumption)))⟩
end Go.Proofs.Ytennhfkhdfalfaa

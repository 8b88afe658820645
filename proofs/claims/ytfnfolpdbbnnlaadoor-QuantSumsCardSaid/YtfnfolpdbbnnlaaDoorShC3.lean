/- Contract of the statement ShareCmps at an empty slice, at a long one, at any one; and what a slice of shares that came in is. -/
import Derived.Test.YtfnfolpdbbnnlaaDoorShC2
import Derived.Test.YtfnfolpdbbnnlaaDoorOpen
import Derived.Deep.Slices
namespace Go.Proofs.YtfnfolpdbbnnlaaDoor
open Go.RowKit Go.ChangeShapes Go.WideShapes Go.ChangeAt Go.Joins Go.Deep
attribute [local go_sem] ext_cell ext_frozen Mix.calmUpon Mix.mUpon
theorem scmps_big (an ad aw bn bd bw : Int) (a : Option Addr) (len cap : Nat) (hlen : 40 < len) : Pure Tryd.prog 10 #[S3 an ad aw, S3 bn bd bw, .slice a len cap] (.bool true) := by
  intro W
  have hn40 : decide ((40 : Int) < (len : Int)) = true := by simp; omega
  go_enter Tryd.func10, Tryd.ntmps10
  go_wp2
  go_ret
  refine ⟨rfl, ?_⟩
  (repeat (first | assumption | exact Below.refl _ _ | refine ba ?_ _ | refine bd ?_ | refine bdn ?_ _ | refine bs ?_ (by first | omega | (simp; done) | (simp; omega)) _ | refine bt ?_ (by assumption)))
theorem least_zero (a : Option Addr) (cap : Nat) : Pure Tryd.prog 48 #[.slice a 0 cap] (.slice none 0 0) := by
  intro W
  go_enter Tryd.func48, Tryd.ntmps48
  go_wp2
  go_loopw [3, 9] (fun v i wr => i = .int .i64 0 ∧ v = .slice none 0 0 ∧ Below W.heap.size W wr) (fun _ _ _ => 0)
  case atStart => exact ⟨rfl, rfl, by (repeat (first | assumption | exact Below.refl _ _ | refine ba ?_ _ | refine bd ?_ | refine bdn ?_ _ | refine bs ?_ (by first | omega | (simp; done) | (simp; omega)) _ | refine bt ?_ (by assumption)))⟩
  case round =>
    obtain ⟨rfl, rfl, hb1⟩ := hrel
    go_wp2
    go_ret
    exact ⟨rfl, hb1⟩
set_option maxRecDepth 100000 in
set_option maxHeartbeats 2000000 in
theorem scmps_zero (an ad aw bn bd bw x : Int) (r : Bool) (a : Option Addr) (cap : Nat)
    (hC : Pure Tryd.prog 44 #[S3 an ad aw, S3 bn bd bw] (.int .i64 x)) (hD : Pure Tryd.prog 45 #[F2 an ad, .int .i64 aw, F2 bn bd, .int .i64 bw] (.int .i64 x))
    (hR : Pure Tryd.prog 46 #[S3 an ad aw] (.bool r)) (hS : Pure Tryd.prog 47 #[F2 an ad, .int .i64 aw] (.bool r)) :
    Pure Tryd.prog 10 #[S3 an ad aw, S3 bn bd bw, .slice a 0 cap] (.bool true) := by
  intro W
  have HC := Lib.hid hC; have HD := Lib.hid hD; have HR := Lib.hid hR; have HS := Lib.hid hS
  have HL := Lib.hid (least_zero a cap)
  clear hC hD hR hS
  go_enter Tryd.func10, Tryd.ntmps10
  go_wp2_with fail
  refine wp_region_pure (by kernel_rfl) (by kernel_rfl) ?_
  repeat (first | go_big_quiet_step (((first | (go_at_call 44; with_reducible exact HC.out.quiet) | (go_at_call 45; with_reducible exact HD.out.quiet) | (go_at_call 46; with_reducible exact HR.out.quiet) | (go_at_call 47; with_reducible exact HS.out.quiet)))) | (quiet_step (((first | (go_at_call 44; with_reducible exact HC.out.quiet) | (go_at_call 45; with_reducible exact HD.out.quiet) | (go_at_call 46; with_reducible exact HR.out.quiet) | (go_at_call 47; with_reducible exact HS.out.quiet))))))
  refine wpQuiet_nil ?_
  rintro w1 ⟨x1, hx1⟩
  have hb1 := ext_below _ x1
  rw [← hx1] at hb1
  clear hx1 x1
  have hs1 : W.heap.size + 2 ≤ w1.heap.size := (by have h := hb1.size; first | omega | (simp at h; omega))
  have hz1_0 : W.heap.size < w1.heap.size := (by omega)
  have hz1_1 : W.heap.size + 1 < w1.heap.size := (by omega)
  obtain ⟨hc1, hf1, hl1⟩ := bcell hb1
  clear hl1
  go_wp2_with fail
  (with_reducible refine (HL.out _).mono ?_)
  rintro e w2 ⟨rfl, hb2⟩
  have hs2 : w1.heap.size + 0 ≤ w2.heap.size := (by have h := hb2.size; first | omega | (simp at h; omega))
  have hb1_2 := bel hb1 hb2 (by (repeat (first | assumption | exact Below.refl _ _ | refine ba ?_ _ | refine bd ?_ | refine bdn ?_ _ | refine bs ?_ (by first | omega | (simp; done) | (simp; omega)) _ | refine bt ?_ (by assumption))))
  clear hz1_0 hz1_1 hc1 hf1
  obtain ⟨hc1_2, hf1_2, hl1_2⟩ := bcell hb1_2
  clear hl1_2
  have hz2_0 : W.heap.size < w2.heap.size := (by omega)
  have hz2_1 : W.heap.size + 1 < w2.heap.size := (by omega)
  obtain ⟨hc2, hf2, hl2⟩ := bcell hb2
  clear hl2
  go_wp2
  go_loopw [8, 9] (fun kk i wr => i = .int .i64 0 ∧ kk = .int .i64 0 ∧ Below W.heap.size W wr) (fun _ _ _ => 0)
  case atStart => exact ⟨rfl, rfl, by (repeat (first | assumption | exact Below.refl _ _ | refine ba ?_ _ | refine bd ?_ | refine bdn ?_ _ | refine bs ?_ (by first | omega | (simp; done) | (simp; omega)) _ | refine bt ?_ (by assumption)))⟩
  case round =>
    obtain ⟨rfl, rfl, hb3⟩ := hrel
    obtain ⟨w3, rfl⟩ : ∃ w3, w3 = wr := ⟨_, rfl⟩
    go_wp2_with fail
    refine (works7 _).mono ?_
    rintro e w4 ⟨rfl, hb4⟩
    go_wp2
    go_ret
    refine ⟨rfl, ?_⟩
    exact bt hb3 hb4
theorem scmps_any (an ad aw bn bd bw : Int) (a : Option Addr) (len cap : Nat) (n d w : Nat → Int) (W : World) (h : len = 0 ∨ ∃ b off, a = some ⟨b, off, none⟩ ∧ b < W.heap.size ∧ Shares W b off len n d w) :
    Calls Tryd.prog 10 #[S3 an ad aw, S3 bn bd bw, .slice a len cap] W fun e w' => e = .returned (.bool true) ∧ Below W.heap.size W w' := by
  rcases h with rfl | ⟨b, off, rfl, hb, hF⟩
  · exact scmps_zero _ _ _ _ _ _ _ _ _ _ (scmp_any _ _ _ _ _ _) (rscmp_any _ _ _ _ _ _) (sright_any _ _ _) (refright7_any _ _ _) W
  · by_cases h0 : len = 0
    · subst h0
      exact scmps_zero _ _ _ _ _ _ _ _ _ _ (scmp_any _ _ _ _ _ _) (rscmp_any _ _ _ _ _ _) (sright_any _ _ _) (refright7_any _ _ _) W
    · by_cases h40 : len ≤ 40
      · exact scmps_walk _ _ _ _ _ _ _ _ b off len cap n d w _ (leastK_filter len) W hb (by omega) h40 hF (scmp_any _ _ _ _ _ _) (rscmp_any _ _ _ _ _ _) (sright_any _ _ _) (refright7_any _ _ _)
          (fun X hX => least_some b off len cap n d w X (Nat.lt_of_lt_of_le hb hX.size) (by omega) (by omega) (hF.grow hb hX))
      · exact scmps_big _ _ _ _ _ _ _ _ _ (by omega) W
theorem cell_plain {W : World} {a : Addr} {v : Value} (h : W.cell? a = some v) : ∃ b off, a = ⟨b, off, none⟩ ∧ b < W.heap.size := by
  obtain ⟨b, off, s⟩ := a
  have hlt : b < W.heap.size := by
    by_cases hb : b < W.heap.size
    · exact hb
    · exfalso
      unfold World.cell? at h
      simp [Array.getElem?_eq_none (Nat.le_of_not_lt hb)] at h
  cases s with
  | none => exact ⟨b, off, rfl, hlt⟩
  | some s =>
    exfalso
    unfold World.cell? at h
    simp at h
    split at h <;> simp_all
set_option maxRecDepth 100000 in
theorem share_cells {H : Type} {enc : TypeId × Value → H} {W : World} {base : Nat} {sp : Nat → Bool} {held : Bool} {m : Nat} {cs : List Value} {x : DataW H × List MemPlace} (hl : cs.length = 3)
    (hf : DataW.trod enc Tryd.prog W base sp held m 63 cs = some x) : ∃ q : Int × Int × Int, cs = [.int .i64 q.1, .int .i64 q.2.1, .int .i64 q.2.2] := by
  match cs, hl with
  | [c0, c1, c2], _ =>
    obtain ⟨y0, y1, n, _, _, h0, h1⟩ := trod_struct2 Tryd.underlying63 hf
    have h0' : DataW.trod enc Tryd.prog W base sp held n 23 [c0, c1] = some y0 := h0
    have h1' : DataW.trod enc Tryd.prog W base sp held n 2 [c2] = some y1 := h1
    obtain ⟨z0, z1, n', _, _, k0, k1⟩ := trod_struct2 Tryd.underlying23 h0'
    have k0' : DataW.trod enc Tryd.prog W base sp held n' 2 [c0] = some z0 := k0
    have k1' : DataW.trod enc Tryd.prog W base sp held n' 2 [c1] = some z1 := k1
    obtain ⟨a, ea, _, _⟩ := DataW.trod_int Tryd.underlying2 k0'
    obtain ⟨b, eb, _, _⟩ := DataW.trod_int Tryd.underlying2 k1'
    obtain ⟨c, ec, _, _⟩ := DataW.trod_int Tryd.underlying2 h1'
    simp at ea eb ec
    subst ea eb ec
    exact ⟨(a, b, c), rfl⟩
theorem c3s : Tryd.prog.cellsOf 63 = 3 := by kernel_rfl
set_option maxRecDepth 100000 in
/-- A slice of shares that came in. -/
theorem open_shares {H : Type} {enc : TypeId × Value → H} {W : World} {base : Nat} {sp : Nat → Bool} {held : Bool} {r : Reach} {b0 : Nat} {v : Value} {d : DataW H} {p : List MemPlace}
    (hv : Value.okWide Tryd.prog W r b0 64 v) (h : DataW.Trod enc Tryd.prog W base sp held 64 v d p) :
    ∃ (a : Option Addr) (len cap : Nat) (n d' w : Nat → Int), v = .slice a len cap ∧ (len = 0 ∨ ∃ b off, a = some ⟨b, off, none⟩ ∧ b < W.heap.size ∧ Shares W b off len n d' w) := by
  obtain ⟨a0, len0, cap0, rfl⟩ := okWide_slice Tryd.underlying64 hv
  obtain ⟨fuel, hf⟩ := h
  rcases open_slice Tryd.underlying64 hf with ⟨hc, _⟩ | ⟨a, len, cap, m, k, D, Pl, hc, _, hl, hm, hmm, hx, hall⟩
  · cases hc
    exact ⟨none, 0, 0, fun _ => 0, fun _ => 0, fun _ => 0, rfl, .inl rfl⟩
  · cases hc
    have hlm : len0 ≤ m := by rw [hmm]; split <;> omega
    rw [c3s] at hall
    have each : ∀ i, i < len0 → ∃ q : Int × Int × Int, W.cell? (a.add (i * 3)) = some (.int .i64 q.1) ∧ W.cell? ((a.add (i * 3)).add 1) = some (.int .i64 q.2.1) ∧ W.cell? ((a.add (i * 3)).add 2) = some (.int .i64 q.2.2) := by
      intro i hi
      obtain ⟨cs', h1, h2⟩ := hall i (by omega)
      obtain ⟨_, hlen, hcell⟩ := World.cells?_some h1
      obtain ⟨q, rfl⟩ := share_cells hlen h2
      have e0 := hcell 0 (by omega)
      have e1 := hcell 1 (by omega)
      have e2 := hcell 2 (by omega)
      exact ⟨q, by simpa [Addr.add] using e0, by simpa using e1, by simpa using e2⟩
    obtain ⟨q, hq⟩ := choose_lt each
    refine ⟨some a, len0, cap0, fun i => (q i).1, fun i => (q i).2.1, fun i => (q i).2.2, rfl, ?_⟩
    by_cases h0 : len0 = 0
    · exact .inl h0
    · right
      obtain ⟨b, off, rfl, hb⟩ := cell_plain (show W.cell? a = _ by simpa [Addr.add] using (hq 0 (by omega)).1)
      refine ⟨b, off, rfl, hb, fun i hi => ?_⟩
      obtain ⟨h1, h2, h3⟩ := hq i hi
      rw [add_plain] at h1 h2 h3
      rw [add_plain] at h2 h3
      exact ⟨h1, h2, h3⟩
end Go.Proofs.YtfnfolpdbbnnlaaDoor

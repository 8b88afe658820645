/- manciplelaw24.Few. -/
import Derived.Test.YtnckjacbkhoppaaOa8
namespace Go.Proofs.Ytnckjacbkhoppaa
open Go.RowKit Go.Maps
attribute [local go_sem] ext_cell ext_frozen extC_cell extC_frozen Mix.calmUpon Mix.mUpon
def oaW (a : Oa) : Nat := a.o.ps.length
theorem oa_sum {α : Type} {l : List α} {f : α → Nat} {t : Nat} {x : α} (h : l[t]? = some x) : ((l.take (t + 1)).map f).sum = ((l.take t).map f).sum + f x := by
  rw [take_at h, List.map_append, List.sum_append]; simp
theorem oa_le {l : List Oa} (h : ∀ x ∈ l, x.o.ps.length ≤ reachBytes) : (l.map oaW).sum ≤ l.length * reachBytes := by
  induction l with
  | nil => simp
  | cons a l ih =>
    have h1 := h a List.mem_cons_self
    have h2 := ih fun x hx => h x (List.mem_cons_of_mem _ hx)
    simp only [List.map_cons, List.sum_cons, List.length_cons]
    rw [Nat.succ_mul]; unfold oaW at h2 ⊢; omega
set_option maxRecDepth 100000 in
set_option maxHeartbeats 4000000 in
theorem few24 (v : Value) (l : List Oa) (W : World) (hr : RS 6 oaenc W v l) (ha : ∀ x ∈ l, OIn W x.o) :
    Calls Try.prog 29 #[v] W fun e w' => e = .returned (.bool (decide (l.length ≤ 100 ∧ (l.map oaW).sum ≤ 400))) ∧ w' = W := by
  obtain ⟨a, n, c, rfl, hn, hc, hm, hat⟩ := hr.at_
  have hn9 : n ≤ 9223372036854775807 := by have h := hm; unfold maxLen at h; omega
  have HN := Lib.hid hn; have HAT := Lib.hid hat; have HA := Lib.hid ha
  clear hr hn hat ha hm hc
  go_enter Try.func29, Try.ntmps29
  go_wp2
  go_loopw [3, 4] (fun sv iv wr => ∃ (t : Nat) (z : Int), t ≤ n ∧ iv = .int .i64 t ∧ sv = .int .i64 z ∧ Hid (n ≤ 100 → z = (((l.take t).map oaW).sum : Nat)) ∧ Hid (wr = W)) (fun sv iv _ => n - (intOf iv).toNat)
  case atStart => exact ⟨0, 0, Nat.zero_le _, rfl, rfl, Lib.hid fun _ => rfl, Lib.hid rfl⟩
  case round =>
    obtain ⟨t, z, ht, rfl, rfl, HZ, HW⟩ := hrel
    obtain rfl := HW.out
    by_cases hlt : t < n
    · have hts : (t : Int) < (n : Int) := by omega
      obtain ⟨x, hx⟩ := at_lt (l := l) (i := t) (by rw [← HN.out]; exact hlt)
      obtain ⟨b, off, rfl, hb, hcell⟩ := HAT.out t x hx
      have c4 := hcell 4 _ rfl
      have hxi := HA.out x (mem_at hx)
      obtain ⟨va, vc, hvv, -, -⟩ := hxi.vc.form
      have hsum := oa_sum (f := oaW) hx
      have hle : ((l.take (t + 1)).map oaW).sum ≤ (t + 1) * reachBytes := by
        refine Nat.le_trans (oa_le fun y hy => (HA.out y (List.mem_of_mem_take hy)).len) (Nat.mul_le_mul_right _ ?_)
        rw [List.length_take]; omega
      obtain ⟨xe, ⟨xi, xf, xg, xv, xs, xu⟩⟩ := x
      simp only at hvv c4
      subst hvv
      obtain ⟨m, hmq⟩ : ∃ m, m = xs.length := ⟨_, rfl⟩
      have htw : oaW ⟨xe, ⟨xi, xf, xg, .slice va xs.length vc, xs, xu⟩⟩ = m := hmq.symm
      rw [htw] at hsum
      rw [← hmq] at c4
      have HNX := Lib.hid (show n ≤ 100 → IntKind.i64.wrap (z + (m : Int)) = (((l.take (t + 1)).map oaW).sum : Nat) from fun h100 => by
        have h1 := HZ.out h100
        have h2 : reachBytes < 140737488355328 := reachBytes_lt
        have h3 : (t + 1) * reachBytes ≤ 100 * reachBytes := Nat.mul_le_mul_right _ (by omega)
        rw [IntWalk.i64_in _ (by omega), h1, hsum]; omega)
      clear hcell hx hxi hsum hle htw hmq
      go_wp2
      go_roundw
      case rel => exact ⟨t + 1, _, by omega, by go_num, rfl, Lib.hid fun h => (IntWalk.i64_left _).symm.trans (HNX.out h), Lib.hid trivial⟩
      case measure => simp [intOf]; omega
    · obtain rfl : n = t := by omega
      have hall : l.take n = l := by rw [HN.out]; exact List.take_length
      have HZ2 := Lib.hid (show n ≤ 100 → z = ((l.map oaW).sum : Nat) from by have := HZ.out; rw [hall] at this; exact this)
      by_cases hq : n ≤ 100
      · have hq1 : ((n : Int)) ≤ 100 := by omega
        have hz := HZ2.out hq
        by_cases h4 : z ≤ 400
        · clear hall
          have HZ3 := Lib.hid hz
          clear hz
          go_wp2
          go_ret
          exact ⟨by have h1 := HZ3.out; have h2 := HN.out; simp; omega, rfl⟩
        · clear hall
          have HZ3 := Lib.hid hz
          clear hz
          go_wp2
          go_ret
          exact ⟨by have h1 := HZ3.out; have h2 := HN.out; simp; omega, rfl⟩
      · have hq1 : ¬ ((n : Int)) ≤ 100 := by omega
        clear hall
        go_wp2
        go_ret
        exact ⟨by have h2 := HN.out; simp; omega, rfl⟩
end Go.Proofs.Ytnckjacbkhoppaa

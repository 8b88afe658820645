/- manciplelaw28.Few: is what came in short? -/
import Derived.Test.YtnckjacbkhoppaaQP0
namespace Go.Proofs.Ytnckjacbkhoppaa
open Go.RowKit Go.Maps
attribute [local go_sem] ext_cell ext_frozen extC_cell extC_frozen Mix.calmUpon Mix.mUpon
theorem take_sum {α : Type} {l : List α} {f : α → Nat} {t : Nat} {x : α} (h : l[t]? = some x) : ((l.take (t + 1)).map f).sum = ((l.take t).map f).sum + f x := by
  rw [take_at h, List.map_append, List.sum_append]; simp
theorem sum_take_le {α : Type} (l : List α) (f : α → Nat) (t : Nat) : ((l.take t).map f).sum ≤ (l.map f).sum := by
  have h := congrArg (fun z => (z.map f).sum) (List.take_append_drop t l)
  simp only [List.map_append, List.sum_append] at h
  omega
theorem mem_sum_le {α : Type} {l : List α} {f : α → Nat} {x : α} (h : x ∈ l) : f x ≤ (l.map f).sum := by
  induction l with
  | nil => cases h
  | cons y l ih =>
    simp only [List.map_cons, List.sum_cons]
    rcases List.mem_cons.1 h with rfl | h
    · omega
    · have := ih h; omega
theorem len_evW : ∀ l : List Ev, l.length ≤ (l.map evW).sum
  | [] => by simp
  | y :: l => by
    have h1 := len_evW l
    have h2 : 1 ≤ evW y := Nat.le_add_right _ _
    simp only [List.length_cons, List.map_cons, List.sum_cons]; omega
set_option maxRecDepth 100000 in
set_option maxHeartbeats 4000000 in
theorem few28 (v : Value) (l : List Ac) (W : World) (hr : RS 4 acenc W v l) (ha : ∀ x ∈ l, AOk W x) (hl : l.length < 1000000000) (hs : (l.map aW).sum < 1000000000) :
    Calls Try.prog 65 #[v] W fun e w' => e = .returned (.bool (decide (l.length ≤ 100 ∧ (l.map aW).sum ≤ 600))) ∧ w' = W := by
  obtain ⟨a, n, c, rfl, hn, hc, hm, hat⟩ := hr.at_
  have HN := Lib.hid hn; have HAT := Lib.hid hat; have HA := Lib.hid ha; have HS := Lib.hid hs
  have hn9 : n < 1000000000 := by omega
  clear hr hn hat ha hs hm hc hl
  go_enter Try.func65, Try.ntmps65
  go_wp2
  go_loopw [3, 4] (fun sv iv wr => ∃ t : Nat, t ≤ n ∧ iv = .int .i64 t ∧ sv = .int .i64 (((l.take t).map aW).sum : Nat) ∧ Hid (wr = W)) (fun sv iv _ => n - (intOf iv).toNat)
  case atStart => exact ⟨0, Nat.zero_le _, rfl, rfl, Lib.hid rfl⟩
  case round =>
    obtain ⟨t, ht, rfl, rfl, HW⟩ := hrel
    obtain rfl := HW.out
    by_cases hlt : t < n
    · have hts : (t : Int) < (n : Int) := by omega
      obtain ⟨x, hx⟩ := at_lt (l := l) (i := t) (by rw [← HN.out]; exact hlt)
      obtain ⟨b, off, rfl, hb, hcell⟩ := HAT.out t x hx
      have c3 := hcell 3 _ rfl
      have HXA := Lib.hid (HA.out x (mem_at hx))
      have HTS := Lib.hid (take_sum (f := aW) hx)
      have HTL := Lib.hid (sum_take_le l aW (t + 1))
      obtain ⟨a2, n2, c2, hv2, hn2, hc2, hm2, hat2⟩ := HXA.out.ev.rs.at_
      obtain ⟨x0, x1, x2, xa, xn, xc, xl⟩ := x
      cases hv2
      have HN2 := Lib.hid hn2; have HAT2 := Lib.hid hat2
      have HAW := Lib.hid (show aW ⟨x0, x1, x2, xa, xn, xc, xl⟩ = (xl.map evW).sum from rfl)
      have HSL := Lib.hid (show ∀ k, ((l.take t).map aW).sum + ((xl.take k).map evW).sum ≤ ((l.take (t + 1)).map aW).sum from fun k => by
        rw [HTS.out, HAW.out]; have := sum_take_le xl evW k; omega)
      have hxn : xn < 1000000000 := by
        have h1 := HSL.out xl.length
        have h2 := HTL.out; have h3 := HS.out
        have h4 := len_evW xl
        rw [List.take_length] at h1
        simp only at hn2
        omega
      clear hcell hx hn2 hat2 hm2 hc2
      simp only at c3
      go_wp2
      go_loopw [3, 5] (fun sv kv w2 => ∃ k : Nat, k ≤ xn ∧ kv = .int .i64 k ∧ sv = .int .i64 ((((l.take t).map aW).sum + ((xl.take k).map evW).sum : Nat)) ∧ Hid (w2 = wr)) (fun sv kv _ => xn - (intOf kv).toNat)
      case atStart => exact ⟨0, Nat.zero_le _, rfl, by simp, Lib.hid rfl⟩
      case round =>
        obtain ⟨k, hk, rfl, rfl, HW2⟩ := hrel
        obtain rfl := HW2.out
        by_cases hlk : k < xn
        · have hks : (k : Int) < (xn : Int) := by omega
          obtain ⟨y, hy⟩ := at_lt (l := xl) (i := k) (by have := HN2.out; rw [← this]; exact hlk)
          obtain ⟨b2, off2, hp2, hb2, hcell2⟩ := HAT2.out k y hy
          subst hp2
          have d4 := hcell2 4 _ rfl
          have HVY := Lib.hid (HXA.out.ev.vec y (mem_at hy))
          have HTY := Lib.hid (take_sum (f := evW) hy)
          obtain ⟨va, vc, hvv, -, -⟩ := HVY.out.form
          have hle := HSL.out (k + 1)
          rw [HTY.out] at hle
          obtain ⟨y0, y1, y2, y3, yv, ys⟩ := y
          obtain ⟨m, hmn⟩ : ∃ m, m = ys.length := ⟨_, rfl⟩
          simp only at hvv d4
          rw [← hmn] at hvv
          subst hvv
          have hew : evW ⟨y0, y1, y2, y3, .slice va m vc, ys⟩ = 1 + m := by rw [hmn]; rfl
          rw [hew] at hle
          rw [hew] at HTY
          have h2 := HTL.out; have h3 := HS.out
          obtain ⟨A, hA⟩ : ∃ A, A = ((l.take t).map aW).sum + ((xl.take k).map evW).sum := ⟨_, rfl⟩
          have hA9 : A + (1 + m) < 1000000000 := by omega
          have HAe := Lib.hid (show ((l.take t).map aW).sum + ((xl.take (k + 1)).map evW).sum = A + 1 + m by rw [HTY.out]; omega)
          rw [← hA]
          have e1 : IntKind.i64.wrap ((A : Int) + 1) = ((A + 1 : Nat) : Int) := by rw [IntWalk.i64_in _ (by omega)]; omega
          have e2 : IntKind.i64.wrap (((A + 1 : Nat) : Int) + (m : Int)) = ((A + 1 + m : Nat) : Int) := by rw [IntWalk.i64_in _ (by omega)]; omega
          clear hcell2 hy hle hew hmn h2 h3 hA
          go_wp2
          go_roundw
          case rel => exact ⟨k + 1, by omega, by go_num, by rw [HAe.out]; congr 1, Lib.hid trivial⟩
          case measure => simp [intOf]; omega
        · obtain rfl : xn = k := by omega
          go_wp2
          go_roundw
          case rel => exact ⟨t + 1, by omega, by go_num, by
            rw [HTS.out, HAW.out, show xl.take xn = xl from by rw [show xn = xl.length from HN2.out]; exact List.take_length], Lib.hid trivial⟩
          case measure => simp [intOf]; omega
    · obtain rfl : n = t := by omega
      have hall : l.take n = l := by rw [HN.out]; exact List.take_length
      rw [hall]
      have HNl := Lib.hid HN.out
      by_cases hq : l.length ≤ 100
      · have hq1 : ((n : Int)) ≤ 100 := by have := HN.out; omega
        obtain ⟨A, hA⟩ : ∃ A, A = (l.map aW).sum := ⟨_, rfl⟩
        have HAA := Lib.hid hA
        rw [← hA]
        by_cases hA6 : A ≤ 600
        · have hA7 : (A : Int) ≤ 600 := by omega
          clear hA hall
          go_wp2
          go_ret
          exact ⟨by simp [hq, ← HAA.out, hA6], rfl⟩
        · have hA7 : ¬ (A : Int) ≤ 600 := by omega
          clear hA hall
          go_wp2
          go_ret
          exact ⟨by simp [← HAA.out]; omega, rfl⟩
      · have hq1 : ¬ ((n : Int)) ≤ 100 := by have := HN.out; omega
        clear hall
        go_wp2
        go_ret
        exact ⟨by simp [hq], rfl⟩
end Go.Proofs.Ytnckjacbkhoppaa

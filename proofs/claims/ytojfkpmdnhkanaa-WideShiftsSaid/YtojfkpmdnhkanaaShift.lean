/- Contracts of (wide.Wide).Up and Down. Conditions: as each says. -/
import Derived.Test.YtojfkpmdnhkanaaWide2
namespace Go.Proofs.Ytojfkpmdnhkanaa
open Go.RowKit DivM
attribute [local go_sem] ext_cell ext_frozen

set_option maxHeartbeats 1000000 in
theorem up_low (ah al : Int) (k : Nat) (hk : k < 64) : Pure Try.prog 27 #[W2 ah al, .int .i64 (k : Int)] (W2 (bits .or .u64 (IntKind.u64.wrap (ah * 2 ^ k)) (al / 2 ^ (64 - k))) (IntKind.u64.wrap (al * 2 ^ k))) := by
  intro w
  have hk' : (k : Int) < 64 := by omega
  go_enter Try.func27, Try.ntmps27
  go_wp2
  go_region
  all_goals (go_wp2; refine bodyPost_ret (v := W2 (bits .or .u64 (IntKind.u64.wrap (ah * 2 ^ k)) (al / 2 ^ (64 - k))) (IntKind.u64.wrap (al * 2 ^ k))) (by simp [results, Try.results27, go_sem, *]) rfl ⟨rfl, ?_⟩; (repeat (first | assumption | exact Below.refl _ _ | refine ba ?_ _ | refine bd ?_ | refine bdn ?_ _ | refine bs ?_ (by first | omega | (simp; done) | (simp; omega)) _ | refine bt ?_ (by assumption))))
set_option maxHeartbeats 1000000 in
theorem down_low (ah al : Int) (k : Nat) (hk : k < 64) : Pure Try.prog 28 #[W2 ah al, .int .i64 (k : Int)] (W2 (ah / 2 ^ k) (bits .or .u64 (al / 2 ^ k) (IntKind.u64.wrap (ah * 2 ^ (64 - k))))) := by
  intro w
  have hk' : (k : Int) < 64 := by omega
  go_enter Try.func28, Try.ntmps28
  go_wp2
  go_region
  all_goals (go_wp2; refine bodyPost_ret (v := W2 (ah / 2 ^ k) (bits .or .u64 (al / 2 ^ k) (IntKind.u64.wrap (ah * 2 ^ (64 - k))))) (by simp [results, Try.results28, go_sem, *]) rfl ⟨rfl, ?_⟩; (repeat (first | assumption | exact Below.refl _ _ | refine ba ?_ _ | refine bd ?_ | refine bdn ?_ _ | refine bs ?_ (by first | omega | (simp; done) | (simp; omega)) _ | refine bt ?_ (by assumption))))
theorem up_neg (ah al n : Int) (h : n < 0) : Pure Try.prog 27 #[W2 ah al, .int .i64 n] (W2 0 0) := by
  intro w
  go_enter Try.func27, Try.ntmps27
  go_wp2
  refine bodyPost_ret (v := W2 0 0) (by simp [results, Try.results27, go_sem, *]) rfl ⟨rfl, ?_⟩
  (repeat (first | assumption | exact Below.refl _ _ | refine ba ?_ _ | refine bd ?_ | refine bdn ?_ _ | refine bs ?_ (by first | omega | (simp; done) | (simp; omega)) _ | refine bt ?_ (by assumption)))
theorem down_neg (ah al n : Int) (h : n < 0) : Pure Try.prog 28 #[W2 ah al, .int .i64 n] (W2 0 0) := by
  intro w
  go_enter Try.func28, Try.ntmps28
  go_wp2
  refine bodyPost_ret (v := W2 0 0) (by simp [results, Try.results28, go_sem, *]) rfl ⟨rfl, ?_⟩
  (repeat (first | assumption | exact Below.refl _ _ | refine ba ?_ _ | refine bd ?_ | refine bdn ?_ _ | refine bs ?_ (by first | omega | (simp; done) | (simp; omega)) _ | refine bt ?_ (by assumption)))
theorem up_high (ah al : Int) (k : Nat) (hk : k ≤ 64) : Pure Try.prog 27 #[W2 ah al, .int .i64 ((k : Int) + 64)] (W2 (IntKind.u64.wrap (al * 2 ^ k)) 0) := by
  intro w
  have hk' : (k : Int) ≤ 64 := by omega
  have hk2 : ¬ (k : Int) + 64 < 64 := by omega
  have hk3 : ¬ (k : Int) + 64 < 0 := by omega
  go_enter Try.func27, Try.ntmps27
  go_wp2
  refine bodyPost_ret (v := W2 (IntKind.u64.wrap (al * 2 ^ k)) 0) (by simp [results, Try.results27, go_sem, *]) rfl ⟨rfl, ?_⟩
  (repeat (first | assumption | exact Below.refl _ _ | refine ba ?_ _ | refine bd ?_ | refine bdn ?_ _ | refine bs ?_ (by first | omega | (simp; done) | (simp; omega)) _ | refine bt ?_ (by assumption)))
theorem down_high (ah al : Int) (k : Nat) (hk : k ≤ 64) : Pure Try.prog 28 #[W2 ah al, .int .i64 ((k : Int) + 64)] (W2 0 (ah / 2 ^ k)) := by
  intro w
  have hk' : (k : Int) ≤ 64 := by omega
  have hk2 : ¬ (k : Int) + 64 < 64 := by omega
  have hk3 : ¬ (k : Int) + 64 < 0 := by omega
  go_enter Try.func28, Try.ntmps28
  go_wp2
  refine bodyPost_ret (v := W2 0 (ah / 2 ^ k)) (by simp [results, Try.results28, go_sem, *]) rfl ⟨rfl, ?_⟩
  (repeat (first | assumption | exact Below.refl _ _ | refine ba ?_ _ | refine bd ?_ | refine bdn ?_ _ | refine bs ?_ (by first | omega | (simp; done) | (simp; omega)) _ | refine bt ?_ (by assumption)))
end Go.Proofs.Ytojfkpmdnhkanaa

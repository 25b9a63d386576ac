/- The reference implementation: the walk of Valid. -/
import Derived.Test.YtpdknjbhnelidaaQfA
namespace Go.Proofs.Ytpdknjbhnelidaa
open Go.RowKit

set_option maxRecDepth 100000 in
set_option maxHeartbeats 3200000 in
theorem rv_low (n d : Int) (w : World) (h : d < 1) :
    Calls Try.prog 23 #[.agg #[.int .i64 n, .int .i64 d]] w fun e w' => e = .returned (.bool false) ∧ Below w.heap.size w w' := by
  have v1 : decide (1 ≤ d) = false := by simp; omega
  go_enter Try.func23, Try.ntmps23
  go_wp2
  go_quiet (first | (go_at_call 42; exact size_q _ _ _ (by omega) (by omega)) | (go_at_call 41; exact rgcd_q n.natAbs d.natAbs _ _ (by omega) (by omega)))
  go_wp2
  go_ret
  exact ⟨rfl, (by repeat (first | exact Below.refl _ _ | assumption | refine below_drewN ?_ _ | refine Below.setCell ?_ (by first | (simp; done) | (simp; omega)) _ | refine Below.alloc ?_ (by first | (simp; done) | (simp; omega) | omega) _ | refine Below.drew ?_ | refine Below.trans ?_ (Below.mono (by assumption) (by first | (simp; done) | (simp; omega) | omega))))⟩
set_option maxRecDepth 100000 in
set_option maxHeartbeats 3200000 in
theorem rv_all (n d : Int) (w : World) (h1 : 1 ≤ d) (h2 : d ≤ 1000000) (h3 : -1000000000000 ≤ n) (h4 : n ≤ 1000000000000) :
    Calls Try.prog 23 #[.agg #[.int .i64 n, .int .i64 d]] w fun e w' => e = .returned (.bool (((Nat.gcd n.natAbs d.natAbs : Nat) : Int) == 1)) ∧ Below w.heap.size w w' := by
  have v1 : decide (1 ≤ d) = true := by simp; omega
  have v2 : decide (d ≤ 1000000) = true := by simp; omega
  have v3 : decide (-1000000000000 ≤ n) = true := by simp; omega
  have v4 : decide (n ≤ 1000000000000) = true := by simp; omega
  go_enter Try.func23, Try.ntmps23
  go_wp2
  go_quiet (first | (go_at_call 42; exact size_q _ _ _ (by omega) (by omega)) | (go_at_call 41; exact rgcd_q n.natAbs d.natAbs _ _ (by omega) (by omega)))
  go_wp2
  go_goals
  go_ret
  exact ⟨rfl, (by repeat (first | exact Below.refl _ _ | assumption | refine below_drewN ?_ _ | refine Below.setCell ?_ (by first | (simp; done) | (simp; omega)) _ | refine Below.alloc ?_ (by first | (simp; done) | (simp; omega) | omega) _ | refine Below.drew ?_ | refine Below.trans ?_ (Below.mono (by assumption) (by first | (simp; done) | (simp; omega) | omega))))⟩
end Go.Proofs.Ytpdknjbhnelidaa

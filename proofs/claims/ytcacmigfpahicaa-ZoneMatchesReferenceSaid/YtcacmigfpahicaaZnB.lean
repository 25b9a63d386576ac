/- The closures of zone; the walk of zone.find. -/
import Derived.Test.YtcacmigfpahicaaZnA
namespace Go.Proofs.Ytcacmigfpahicaa
open Go.RowKit
attribute [local go_sem] Oper.semAt_some

theorem until_calls (f t u v x : Int) (ab : Nat) (w : World) (ha : ab < w.heap.size) (hc : w.cell? ⟨ab, 0, none⟩ = some (.int .i64 x)) :
    Calls Try.prog 25 #[.agg #[.int .i64 f, .int .i64 t, .int .i64 u, .int .i64 v], .pointer (some ⟨ab, 0, none⟩)] w fun e w' => e = .returned (.bool (decide (x < t))) ∧ Below w.heap.size w w' := by
  go_enter Try.func25, Try.ntmps25
  go_wp2
  go_ret
  exact ⟨rfl, (by repeat (first | exact Below.refl _ _ | assumption | refine below_drewN ?_ _ | refine Below.setCell ?_ (by first | (simp; done) | (simp; omega)) _ | refine Below.alloc ?_ (by first | (simp; done) | (simp; omega) | omega) _ | refine Below.drew ?_ | refine Below.trans ?_ (Below.mono (by assumption) (by first | (simp; done) | (simp; omega) | omega))))⟩
set_option maxHeartbeats 800000 in
theorem skips_calls (f t u v x : Int) (ab : Nat) (w : World) (ha : ab < w.heap.size) (hc : w.cell? ⟨ab, 0, none⟩ = some (.int .i64 x)) (h1 : wrap64 (f + u) = f + u) (h2 : wrap64 (f + v) = f + v) :
    Calls Try.prog 33 #[.agg #[.int .i64 f, .int .i64 t, .int .i64 u, .int .i64 v], .pointer (some ⟨ab, 0, none⟩)] w fun e w' => e = .returned (.bool (decide (f + u ≤ x ∧ x < f + v))) ∧ Below w.heap.size w w' := by
  by_cases q1 : f + u ≤ x
  · by_cases q2 : x < f + v
    · rw [decide_eq_true (And.intro q1 q2)]
      go_enter Try.func33, Try.ntmps33
      go_wp2
      go_ret
      exact ⟨rfl, (by repeat (first | exact Below.refl _ _ | assumption | refine below_drewN ?_ _ | refine Below.setCell ?_ (by first | (simp; done) | (simp; omega)) _ | refine Below.alloc ?_ (by first | (simp; done) | (simp; omega) | omega) _ | refine Below.drew ?_ | refine Below.trans ?_ (Below.mono (by assumption) (by first | (simp; done) | (simp; omega) | omega))))⟩
    · rw [decide_eq_false (fun h => q2 h.2)]
      go_enter Try.func33, Try.ntmps33
      go_wp2
      go_ret
      exact ⟨rfl, (by repeat (first | exact Below.refl _ _ | assumption | refine below_drewN ?_ _ | refine Below.setCell ?_ (by first | (simp; done) | (simp; omega)) _ | refine Below.alloc ?_ (by first | (simp; done) | (simp; omega) | omega) _ | refine Below.drew ?_ | refine Below.trans ?_ (Below.mono (by assumption) (by first | (simp; done) | (simp; omega) | omega))))⟩
  · rw [decide_eq_false (fun h => q1 h.1)]
    go_enter Try.func33, Try.ntmps33
    go_wp2
    go_ret
    exact ⟨rfl, (by repeat (first | exact Below.refl _ _ | assumption | refine below_drewN ?_ _ | refine Below.setCell ?_ (by first | (simp; done) | (simp; omega)) _ | refine Below.alloc ?_ (by first | (simp; done) | (simp; omega) | omega) _ | refine Below.drew ?_ | refine Below.trans ?_ (Below.mono (by assumption) (by first | (simp; done) | (simp; omega) | omega))))⟩
end Go.Proofs.Ytcacmigfpahicaa

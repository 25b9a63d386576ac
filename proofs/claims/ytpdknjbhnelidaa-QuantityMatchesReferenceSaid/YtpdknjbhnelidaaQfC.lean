/- The reference implementation: Valid for all arguments. -/
import Derived.Test.YtpdknjbhnelidaaQfB
namespace Go.Proofs.Ytpdknjbhnelidaa
open Go.RowKit

set_option maxRecDepth 100000 in
set_option maxHeartbeats 3200000 in
theorem rv_high (n d : Int) (w : World) (h1 : 1 ≤ d) (h2 : 1000000 < d) :
    Calls Try.prog 23 #[.agg #[.int .i64 n, .int .i64 d]] w fun e w' => e = .returned (.bool false) ∧ Below w.heap.size w w' := by
  have v1 : decide (1 ≤ d) = true := by simp; omega
  have v2 : decide (d ≤ 1000000) = false := by simp; omega
  go_enter Try.func23, Try.ntmps23
  go_wp2
  go_quiet (first | (go_at_call 42; exact size_q _ _ _ (by omega) (by omega)) | (go_at_call 41; exact rgcd_q n.natAbs d.natAbs _ _ (by omega) (by omega)))
  go_wp2
  go_ret
  exact ⟨rfl, (by repeat (first | exact Below.refl _ _ | assumption | refine below_drewN ?_ _ | refine Below.setCell ?_ (by first | (simp; done) | (simp; omega)) _ | refine Below.alloc ?_ (by first | (simp; done) | (simp; omega) | omega) _ | refine Below.drew ?_ | refine Below.trans ?_ (Below.mono (by assumption) (by first | (simp; done) | (simp; omega) | omega))))⟩
set_option maxRecDepth 100000 in
set_option maxHeartbeats 3200000 in
theorem rv_nlow (n d : Int) (w : World) (h1 : 1 ≤ d) (h2 : d ≤ 1000000) (h3 : n < -1000000000000) :
    Calls Try.prog 23 #[.agg #[.int .i64 n, .int .i64 d]] w fun e w' => e = .returned (.bool false) ∧ Below w.heap.size w w' := by
  have v1 : decide (1 ≤ d) = true := by simp; omega
  have v2 : decide (d ≤ 1000000) = true := by simp; omega
  have v3 : decide (-1000000000000 ≤ n) = false := by simp; omega
  go_enter Try.func23, Try.ntmps23
  go_wp2
  go_quiet (first | (go_at_call 42; exact size_q _ _ _ (by omega) (by omega)) | (go_at_call 41; exact rgcd_q n.natAbs d.natAbs _ _ (by omega) (by omega)))
  go_wp2
  go_ret
  exact ⟨rfl, (by repeat (first | exact Below.refl _ _ | assumption | refine below_drewN ?_ _ | refine Below.setCell ?_ (by first | (simp; done) | (simp; omega)) _ | refine Below.alloc ?_ (by first | (simp; done) | (simp; omega) | omega) _ | refine Below.drew ?_ | refine Below.trans ?_ (Below.mono (by assumption) (by first | (simp; done) | (simp; omega) | omega))))⟩
set_option maxRecDepth 100000 in
set_option maxHeartbeats 3200000 in
theorem rv_nhigh (n d : Int) (w : World) (h1 : 1 ≤ d) (h2 : d ≤ 1000000) (h3 : -1000000000000 ≤ n) (h4 : 1000000000000 < n) :
    Calls Try.prog 23 #[.agg #[.int .i64 n, .int .i64 d]] w fun e w' => e = .returned (.bool false) ∧ Below w.heap.size w w' := by
  have v1 : decide (1 ≤ d) = true := by simp; omega
  have v2 : decide (d ≤ 1000000) = true := by simp; omega
  have v3 : decide (-1000000000000 ≤ n) = true := by simp; omega
  have v4 : decide (n ≤ 1000000000000) = false := by simp; omega
  go_enter Try.func23, Try.ntmps23
  go_wp2
  go_quiet (first | (go_at_call 42; exact size_q _ _ _ (by omega) (by omega)) | (go_at_call 41; exact rgcd_q n.natAbs d.natAbs _ _ (by omega) (by omega)))
  go_wp2
  go_ret
  exact ⟨rfl, (by repeat (first | exact Below.refl _ _ | assumption | refine below_drewN ?_ _ | refine Below.setCell ?_ (by first | (simp; done) | (simp; omega)) _ | refine Below.alloc ?_ (by first | (simp; done) | (simp; omega) | omega) _ | refine Below.drew ?_ | refine Below.trans ?_ (Below.mono (by assumption) (by first | (simp; done) | (simp; omega) | omega))))⟩
theorem rvalid_true (n d : Int) (w : World) (h : Rt.Ok n d) :
    Calls Try.prog 23 #[.agg #[.int .i64 n, .int .i64 d]] w fun e w' => e = .returned (.bool true) ∧ Below w.heap.size w w' := by
  obtain ⟨h1, h2, h3, h4, h5⟩ := h
  refine (rv_all n d w h1 h2 h3 h4).mono ?_
  rintro e w' ⟨rfl, hb⟩
  refine ⟨?_, hb⟩
  rw [h5]
  rfl
theorem rvalid_false (n d : Int) (w : World) (h : ¬ Rt.Ok n d) :
    Calls Try.prog 23 #[.agg #[.int .i64 n, .int .i64 d]] w fun e w' => e = .returned (.bool false) ∧ Below w.heap.size w w' := by
  by_cases h1 : d < 1
  · exact rv_low n d w h1
  by_cases h2 : 1000000 < d
  · exact rv_high n d w (by omega) h2
  by_cases h3 : n < -1000000000000
  · exact rv_nlow n d w (by omega) (by omega) h3
  by_cases h4 : 1000000000000 < n
  · exact rv_nhigh n d w (by omega) (by omega) (by omega) h4
  refine (rv_all n d w (by omega) (by omega) (by omega) (by omega)).mono ?_
  rintro e w' ⟨rfl, hb⟩
  refine ⟨?_, hb⟩
  have hn : (((Nat.gcd n.natAbs d.natAbs : Nat) : Int) == 1) = false := by
    rw [beq_eq_false_iff_ne]
    intro hc
    exact h ⟨by omega, by omega, by omega, by omega, by omega⟩
  rw [hn]
theorem rvalid_any (n d : Int) (w : World) :
    Calls Try.prog 23 #[.agg #[.int .i64 n, .int .i64 d]] w fun e w' => e = .returned (.bool (Rt.vB n d)) ∧ Below w.heap.size w w' := by
  unfold Rt.vB
  by_cases h : Rt.Ok n d
  · rw [decide_eq_true h]; exact rvalid_true n d w h
  · rw [decide_eq_false h]; exact rvalid_false n d w h
end Go.Proofs.Ytpdknjbhnelidaa

/- The walk of ratio.Valid. -/
import Derived.Test.YtpdknjbhnelidaaRtB
import Derived.Deep.RegionWith
namespace Go.Proofs.Ytpdknjbhnelidaa
open Go.RowKit

set_option maxHeartbeats 400000 in
theorem valid_low (n d : Int) (w : World) (h : d < 1) :
    Calls Try.prog 21 #[.agg #[.int .i64 n, .int .i64 d]] w fun e w' => e = .returned (.bool false) ∧ Below w.heap.size w w' := by
  go_enter Try.func21, Try.ntmps21
  go_wp2
  go_ret
  exact ⟨rfl, (by repeat (first | exact Below.refl _ _ | refine below_drewN ?_ _ | refine Below.setCell ?_ (by first | (simp; done) | (simp; omega)) _ | refine Below.alloc ?_ (by first | (simp; done) | (simp; omega)) _))⟩
set_option maxHeartbeats 400000 in
theorem valid_high (n d : Int) (w : World) (h1 : 1 ≤ d) (h : 1000000 < d) :
    Calls Try.prog 21 #[.agg #[.int .i64 n, .int .i64 d]] w fun e w' => e = .returned (.bool false) ∧ Below w.heap.size w w' := by
  go_enter Try.func21, Try.ntmps21
  go_wp2
  go_ret
  exact ⟨rfl, (by repeat (first | exact Below.refl _ _ | refine below_drewN ?_ _ | refine Below.setCell ?_ (by first | (simp; done) | (simp; omega)) _ | refine Below.alloc ?_ (by first | (simp; done) | (simp; omega)) _))⟩
set_option maxHeartbeats 400000 in
theorem valid_num (n d : Int) (w : World) (h1 : 1 ≤ d) (h2 : d ≤ 1000000) (k1 : -9223372036854775808 ≤ n) (k2 : n ≤ 9223372036854775807) (h : 1000000000000 < n.natAbs) :
    Calls Try.prog 21 #[.agg #[.int .i64 n, .int .i64 d]] w fun e w' => e = .returned (.bool false) ∧ Below w.heap.size w w' := by
  go_enter Try.func21, Try.ntmps21
  go_wp2_with fail
  refine (mag_any _ _ k1 k2).mono ?_
  rintro e w' ⟨rfl, rfl⟩
  generalize n.natAbs = x at *
  go_wp2
  go_ret
  exact ⟨rfl, (by repeat (first | exact Below.refl _ _ | refine below_drewN ?_ _ | refine Below.setCell ?_ (by first | (simp; done) | (simp; omega)) _ | refine Below.alloc ?_ (by first | (simp; done) | (simp; omega)) _))⟩
set_option maxHeartbeats 400000 in
theorem valid_gcd (n d : Int) (w : World) (h1 : 1 ≤ d) (h2 : d ≤ 1000000) (k1 : -9223372036854775808 ≤ n) (k2 : n ≤ 9223372036854775807) (h : n.natAbs ≤ 1000000000000) :
    Calls Try.prog 21 #[.agg #[.int .i64 n, .int .i64 d]] w fun e w' => e = .returned (.bool (((Nat.gcd n.natAbs d.natAbs : Nat) : Int) == 1)) ∧ Below w.heap.size w w' := by
  go_enter Try.func21, Try.ntmps21
  go_wp2_with fail
  refine (mag_any _ _ k1 k2).mono ?_
  rintro e w' ⟨rfl, rfl⟩
  go_wp2
  go_region_with (first | (go_at_call 38; refine (mag_any _ _ (by omega) (by omega)).mono ?_; rintro e w' ⟨rfl, rfl⟩) | (go_at_call 39; refine (divisor_any _ n.natAbs d.natAbs _ (by omega) (by omega) (by go_simp) (by go_simp)).mono ?_; rintro e w' ⟨rfl, m, rfl⟩))
  all_goals
    go_wp2
    go_ret
    exact ⟨rfl, (by repeat (first | exact Below.refl _ _ | refine below_drewN ?_ _ | refine Below.setCell ?_ (by first | (simp; done) | (simp; omega)) _ | refine Below.alloc ?_ (by first | (simp; done) | (simp; omega)) _ | refine Below.drew ?_))⟩
theorem valid_true (n d : Int) (w : World) (h : Rt.Ok n d) :
    Calls Try.prog 21 #[.agg #[.int .i64 n, .int .i64 d]] w fun e w' => e = .returned (.bool true) ∧ Below w.heap.size w w' := by
  obtain ⟨h1, h2, h3, h4, h5⟩ := h
  refine (valid_gcd n d w h1 h2 (by omega) (by omega) (by omega)).mono ?_
  rintro e w' ⟨rfl, hb⟩
  exact ⟨by rw [h5]; rfl, hb⟩
theorem valid_false (n d : Int) (w : World) (k1 : -9223372036854775808 ≤ n) (k2 : n ≤ 9223372036854775807) (h : ¬ Rt.Ok n d) :
    Calls Try.prog 21 #[.agg #[.int .i64 n, .int .i64 d]] w fun e w' => e = .returned (.bool false) ∧ Below w.heap.size w w' := by
  by_cases h1 : d < 1
  · exact valid_low n d w h1
  by_cases h2 : 1000000 < d
  · exact valid_high n d w (by omega) h2
  by_cases h3 : 1000000000000 < n.natAbs
  · exact valid_num n d w (by omega) (by omega) k1 k2 h3
  refine (valid_gcd n d w (by omega) (by omega) k1 k2 (by omega)).mono ?_
  rintro e w' ⟨rfl, hb⟩
  refine ⟨?_, hb⟩
  have : ¬ Nat.gcd n.natAbs d.natAbs = 1 := fun h5 => h ⟨by omega, by omega, by omega, by omega, h5⟩
  have e : (((Nat.gcd n.natAbs d.natAbs : Nat) : Int) == 1) = false := by rw [beq_eq_false_iff_ne]; omega
  rw [e]
end Go.Proofs.Ytpdknjbhnelidaa

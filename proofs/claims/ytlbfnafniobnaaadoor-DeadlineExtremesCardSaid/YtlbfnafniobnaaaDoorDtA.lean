/- The walks of date's leaves: days, leap years, the beginnings of years and months. -/
import Derived.Test.YtlbfnafniobnaaaDoorRows
import Derived.Test.YtlbfnafniobnaaaDoorDtMath
import Derived.WalkKit
import Derived.WalkSpells
import Derived.WalkLawsBesides
import Derived.Deep.LoopGhost
import Derived.Deep.QuietTactic
import Derived.BigQuiet
import Derived.Lib.Hide
import Derived.Deep.Draws
import Derived.Lib.LaidTab
import Derived.Lib.SmallJoins
namespace Go.Proofs.YtlbfnafniobnaaaDoor
open Go.RowKit

theorem ret_int {k : IntKind} {a b : Int} (h : a = b) : Ending.returned (.int k a) = .returned (.int k b) := by rw [h]
theorem ret_bool {a b : Bool} (h : a = b) : Ending.returned (.bool a) = .returned (.bool b) := by rw [h]
set_option maxHeartbeats 400000 in
theorem isDay_any (d : Int) (w : World) :
    Calls Tryd.prog 32 #[.int .i64 d] w fun e w' => e = .returned (.bool (decide (0 ≤ d ∧ d ≤ 73048))) ∧ w = w' := by
  by_cases h0 : 0 ≤ d
  · by_cases h1 : d ≤ 73048
    · go_enter Tryd.func32, Tryd.ntmps32
      go_wp2
      go_ret
      exact ⟨ret_bool (decide_eq_true ⟨h0, h1⟩).symm, rfl⟩
    · go_enter Tryd.func32, Tryd.ntmps32
      go_wp2
      go_ret
      exact ⟨ret_bool (decide_eq_false (fun h => by omega)).symm, rfl⟩
  · go_enter Tryd.func32, Tryd.ntmps32
    go_wp2
    go_ret
    exact ⟨ret_bool (by have h := h0; simp; omega), rfl⟩
theorem tmod_pos {y k : Int} (h : 0 ≤ y) : y.tmod k = y % k := Int.tmod_eq_emod_of_nonneg h
theorem tdiv_pos {y k : Int} (h : 0 ≤ y) : y.tdiv k = y / k := Int.tdiv_eq_ediv_of_nonneg h
set_option maxHeartbeats 800000 in
theorem isLeap_any (y : Int) (w : World) (h0 : 0 ≤ y) :
    Calls Tryd.prog 88 #[.int .i64 y] w fun e w' => e = .returned (.bool (Dt.leap y)) ∧ w = w' := by
  have l : Dt.leap y = decide ((y % 4 = 0 ∧ ¬ y % 100 = 0) ∨ y % 400 = 0) := rfl
  rw [l]
  clear l
  by_cases a : y % 4 = 0
  · by_cases b : y % 100 = 0
    · by_cases c : y % 400 = 0
      · rw [decide_eq_true (show (y % 4 = 0 ∧ ¬ y % 100 = 0) ∨ y % 400 = 0 from .inr c)]
        go_enter Tryd.func88, Tryd.ntmps88
        go_wp2
        go_ret
        exact ⟨rfl, rfl⟩
      · rw [decide_eq_false (show ¬ ((y % 4 = 0 ∧ ¬ y % 100 = 0) ∨ y % 400 = 0) by omega)]
        go_enter Tryd.func88, Tryd.ntmps88
        go_wp2
        go_ret
        exact ⟨ret_bool (beq_eq_false_iff_ne.2 c), rfl⟩
    · rw [decide_eq_true (show (y % 4 = 0 ∧ ¬ y % 100 = 0) ∨ y % 400 = 0 from .inl ⟨a, b⟩)]
      go_enter Tryd.func88, Tryd.ntmps88
      go_wp2
      go_ret
      exact ⟨rfl, rfl⟩
  · by_cases c : y % 400 = 0
    · omega
    · rw [decide_eq_false (show ¬ ((y % 4 = 0 ∧ ¬ y % 100 = 0) ∨ y % 400 = 0) by omega)]
      go_enter Tryd.func88, Tryd.ntmps88
      go_wp2
      go_ret
      exact ⟨ret_bool (beq_eq_false_iff_ne.2 c), rfl⟩
set_option maxHeartbeats 800000 in
theorem leapYears_any (y : Int) (w : World) (h0 : 0 ≤ y) (h1 : y ≤ 1000000) :
    Calls Tryd.prog 87 #[.int .i64 y] w fun e w' => e = .returned (.int .i64 (Dt.ly y)) ∧ w = w' := by
  go_enter Tryd.func87, Tryd.ntmps87
  go_wp2
  go_ret
  exact ⟨ret_int (by unfold Dt.ly; omega), rfl⟩
set_option maxHeartbeats 800000 in
theorem yearBegin_any (y : Int) (w : World) (h0 : 1990 ≤ y) (h1 : y ≤ 2190) :
    Calls Tryd.prog 80 #[.int .i64 y] w fun e w' => e = .returned (.int .i64 (Dt.yb y)) ∧ w = w' := by
  have b : 482 ≤ Dt.ly (y - 1) ∧ Dt.ly (y - 1) ≤ 531 := by unfold Dt.ly; omega
  have r : Dt.yb y = 365 * (y - 1990) + Dt.ly (y - 1) - 482 := rfl
  have R := Lib.hid r
  clear r
  go_enter Tryd.func80, Tryd.ntmps80
  go_wp2_with fail
  refine (leapYears_any _ _ (by omega) (by omega)).mono ?_
  rintro e w' ⟨rfl, rfl⟩
  generalize Dt.ly (y - 1) = z at *
  go_wp2_with fail
  refine (leapYears_any _ _ (by omega) (by omega)).mono ?_
  rintro e w' ⟨rfl, rfl⟩
  rw [show Dt.ly 1989 = 482 by decide]
  go_wp2
  go_ret
  exact ⟨ret_int (by rw [R.out]), rfl⟩
theorem yearBegin_q (y : Int) (w : World) (k : Nat) (h0 : 1990 ≤ y) (h1 : y ≤ 2190) :
    Calls Tryd.prog 80 #[.int .i64 y] (w.drewN k) fun e w' => e = .returned (.int .i64 (Dt.yb y)) ∧ ∃ m, w' = w.drewN m :=
  (yearBegin_any y _ h0 h1).mono fun _ _ ⟨he, hw⟩ => ⟨he, k, hw.symm⟩

/-- the table of the days before each month -/
def dbTab : List Int := [0, 31, 59, 90, 120, 151, 181, 212, 243, 273, 304, 334, 365]
def Env (w : World) : Prop := ∀ k : Nat, k ≤ 12 → w.cell? ⟨0, k, none⟩ = some (.int .i64 (Dt.dbN k))
theorem env_drew {w : World} (h : Env w) (n : Nat) : Env (w.drewN n) := h
theorem dbN_bd : ∀ k : Nat, k ≤ 12 → 0 ≤ Dt.dbN k ∧ Dt.dbN k ≤ 365 := by decide
set_option maxHeartbeats 800000 in
theorem monthBegin_draws (y m : Int) (w : World) (h0 : 1990 ≤ y) (h1 : y ≤ 2189) (h2 : 1 ≤ m) (h3 : m ≤ 13) (hE : Env w) :
    Calls Tryd.prog 81 #[.int .i64 y, .int .i64 m] w fun e w' => e = .returned (.int .i64 (Dt.mb y m)) ∧ ∃ n, w' = w.drewN n := by
  have hc := hE (m.toNat - 1) (by omega)
  have db1 := dbN_bd (m.toNat - 1) (by omega)
  have yb1 := Dt.yb_bd h0 (by omega)
  have r : Dt.mb y m = Dt.yb y + Dt.dbN (m.toNat - 1) + (if 2 < m ∧ Dt.leap y = true then 1 else 0) := by rw [show m.toNat - 1 = (m - 1).toNat by omega]; rfl
  have R := Lib.hid r
  clear r hE
  generalize hD : Dt.dbN (m.toNat - 1) = D at *
  have HD := Lib.hid hD
  clear hD
  have e1 : IntKind.i64.wrap (m - 1) = m - 1 := IntWalk.i64_in _ (by omega)
  have e2 : IntKind.i64.wrap (Dt.yb y + D) = Dt.yb y + D := IntWalk.i64_in _ (by omega)
  have i1 : 0 ≤ m - 1 := by omega
  have i2 : m - 1 < 13 := by omega
  by_cases h : 2 < m
  · cases hl : Dt.leap y
    · have HL := Lib.hid hl
      clear hl
      go_enter Tryd.func81, Tryd.ntmps81
      go_wp2
      go_quiet (first | (go_at_call 80; exact yearBegin_q _ _ _ (by omega) (by omega)))
      go_wp2_with (go_at_call 88; refine (isLeap_any _ _ (by omega)).mono ?_; rintro e w' ⟨rfl, rfl⟩; rw [HL.out])
      go_ret
      exact ⟨ret_int (by rw [R.out, HL.out]; simp), _, rfl⟩
    · have HL := Lib.hid hl
      clear hl
      go_enter Tryd.func81, Tryd.ntmps81
      go_wp2
      go_quiet (first | (go_at_call 80; exact yearBegin_q _ _ _ (by omega) (by omega)))
      go_wp2_with (go_at_call 88; refine (isLeap_any _ _ (by omega)).mono ?_; rintro e w' ⟨rfl, rfl⟩; rw [HL.out])
      go_ret
      exact ⟨ret_int (by rw [R.out, HL.out, if_pos ⟨h, rfl⟩]), _, rfl⟩
  · go_enter Tryd.func81, Tryd.ntmps81
    go_wp2
    go_quiet (first | (go_at_call 80; exact yearBegin_q _ _ _ (by omega) (by omega)))
    go_wp2
    go_ret
    exact ⟨ret_int (by rw [R.out, if_neg (show ¬ (2 < m ∧ Dt.leap y = true) from fun hx => by have := hx.1; omega)]; omega), _, rfl⟩
end Go.Proofs.YtlbfnafniobnaaaDoor

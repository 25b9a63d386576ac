/- Two arrays of seven truth values compared. -/
import Derived.Test.YtlbfnafniobnaaaDoorRows
import Derived.ChangeKeysEq
import Derived.WalkKit
namespace Go.Proofs.YtlbfnafniobnaaaDoor
open Go.RowKit

theorem info_bool : ∃ i, Tryd.prog.info? 4 = some i := by
  have hs : (Tryd.prog.info? 4).isSome = true := by kernel_rfl
  cases h : Tryd.prog.info? 4 with
  | none => rw [h] at hs; cases hs
  | some i => exact ⟨i, rfl⟩
theorem cells_bool : Tryd.prog.cellsOf 4 = 1 := by kernel_rfl
theorem eqItems_step (xs ys : Array Value) (k : Nat) (a b : Bool) (is : List Nat) (hx : xs[k]? = some (.bool a)) (hy : ys[k]? = some (.bool b)) (w : World) :
    (Op.eqItems 9999 4 1 xs ys (k :: is)).run Tryd.prog w = if (a == b) = true then (Op.eqItems 9999 4 1 xs ys is).run Tryd.prog w else .ok false w := by
  have e : ∀ (w : World), (Op.equalIn 9999 4 (.bool a) (.bool b)).run Tryd.prog w = .ok (a == b) w := fun w => run_equalIn_bool' w 9998 _ a b Tryd.underlying4
  have q : ∀ (xs : Array Value) (b : Bool), xs[k]? = some (.bool b) → ∀ w, (part 4 xs (k * 1)).run Tryd.prog w = .ok (.bool b) w := fun xs b h w => by
    simp [part, isAgg, run_underlying Tryd.underlying4, h]
  simp only [Op.eqItems, Sem.run_bind, q xs a hx, q ys b hy, Result.andThen_ok, e]
  cases h : (a == b)
  · simp
  · simp
theorem run_week_eq (b0 b1 b2 b3 b4 b5 b6 : Bool) (w : World) :
    (Op.equalIn 10000 25 (.agg #[.bool b0, .bool b1, .bool b2, .bool b3, .bool b4, .bool b5, .bool b6]) (.agg #[.bool true, .bool true, .bool true, .bool true, .bool true, .bool true, .bool true])).run Tryd.prog w = .ok (b0 && b1 && b2 && b3 && b4 && b5 && b6) w := by
  obtain ⟨i, hi⟩ := info_bool
  rw [run_equalIn_array w 9999 _ _ Tryd.underlying25 hi, cells_bool]
  rw [show List.range 7 = [0, 1, 2, 3, 4, 5, 6] from rfl]
  rw [eqItems_step _ _ 0 b0 true _ rfl rfl, eqItems_step _ _ 1 b1 true _ rfl rfl, eqItems_step _ _ 2 b2 true _ rfl rfl, eqItems_step _ _ 3 b3 true _ rfl rfl, eqItems_step _ _ 4 b4 true _ rfl rfl, eqItems_step _ _ 5 b5 true _ rfl rfl, eqItems_step _ _ 6 b6 true _ rfl rfl]
  simp only [Op.eqItems, Sem.run_pure]
  cases b0 <;> cases b1 <;> cases b2 <;> cases b3 <;> cases b4 <;> cases b5 <;> cases b6 <;> rfl
end Go.Proofs.YtlbfnafniobnaaaDoor

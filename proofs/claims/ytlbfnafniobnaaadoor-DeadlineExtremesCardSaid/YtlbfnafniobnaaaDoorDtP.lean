/- The frame: from a law's walk to the row and its tied card: what the listed variable gives; the wrap that hands the world's shape and the listed variable to the walk. -/
import Derived.Test.YtlbfnafniobnaaaDoorDtA
import Derived.Test.YtlbfnafniobnaaaDoorTie
import Derived.Test.YtlbfnafniobnaaaDoorCards
import Derived.ProofKit
import Derived.LaidMore
import Derived.OpenShut
import Derived.Stop.Joined
import Derived.Stop.LaidErr
import Derived.Lib.LaidTab
import Derived.SevenTiedAt
import Derived.Lib.SmallJoins
namespace Go.Proofs.YtlbfnafniobnaaaDoor
open Go.ChangeShapes Go.WideShapes Go.ChangeAt Go.WideMaps Go.WideElems Go.RowKit Go.Joins

theorem own : ownKnob Tryd.prog.godebug = none := by kernel_rfl
/-- the listed variables, as the rows list them -/
def laid5 {H : Type} : List (String × DataW H) := [("estoppel/date.daysBefore", Rows.laid_estoppel_date_daysBefore)]
theorem door_met (os : Os) (args : Array Value) : laidMetH Tryd.prog laid5 ((World.doorLaid Tryd.prog 400 os).forCall (fun _ _ => 0) ⟨#[], args, []⟩).memory :=
  laidMetH_of_parts3 (fuel := 10) (laidMet_of_run' 10 (by kernel_rfl) (by kernel_rfl)) (by kernel_rfl) (by kernel_rfl)
theorem g_db : Tryd.prog.globalNamed "estoppel/date.daysBefore" = some 0 := by kernel_rfl
theorem ty_db : (Tryd.prog.globals[0]?).map (·.type) = some 128 := by kernel_rfl
theorem cells_int : Tryd.prog.cellsOf 3 = 1 := by kernel_rfl
theorem cells_tab : Tryd.prog.cellsOf 128 = 13 := by kernel_rfl
theorem db_data : (Rows.laid_estoppel_date_daysBefore : DataW Unit) = Lib.tabData .i64 dbTab := by kernel_rfl
theorem db_tab : ∀ k : Nat, k ≤ 12 → dbTab.getD k 0 = Dt.dbN k := by decide
/-- what the row's condition gives the walks -/
theorem env_of {W : World} (h : laidMetH Tryd.prog laid5 W) : Env W := by
  rw [MakeChecks.laidMetH_plain _ _ _ (by kernel_rfl)] at h
  have h3 : laidMet Tryd.prog (("estoppel/date.daysBefore", Lib.tabData .i64 dbTab) :: []) W := by
    rw [← db_data]; exact h
  have t := Lib.tabIs_of_head g_db ty_db Tryd.underlying128 Tryd.underlying3 cells_int cells_tab h3
  intro k hk
  rw [t.cell g_db k (Nat.lt_of_le_of_lt hk (by decide)), db_tab k hk]
theorem start_shaped (os : Os) (args : Array Value) : ((World.doorLaid Tryd.prog 400 os).forCall (fun _ _ => 0) ⟨#[], args, []⟩).Shaped Tryd.prog := World.shaped_of_RefB (by kernel_rfl) (by kernel_rfl)
set_option maxRecDepth 100000 in
/-- THE WRAP of a law: the walk is handed the world's shape and the listed variables. -/
theorem law_wrap {H : Type} {enc : TypeId × Value → H} {os : Os} {f : FuncId} {fn : Func} {s : ChangeSpec} (started : os.Started) (noInit : Tryd.prog.inits.idxOf? f = none) (hfn : Tryd.prog.funcs[f]? = some fn)
    (witness : ∃ (w : World) (tape : Tape) (i : Input), w.os = os ∧ (w.forCall tape i).Shaped Tryd.checked.prog ∧ i.vars = [] ∧ Input.okWide Tryd.checked.prog (w.forCall tape i) .any w.heap.size f i ∧
      ((s.pre enc Tryd.checked.prog fn [] false (w.forCall tape i).memory i.args ∧ laidMetH Tryd.prog laid5 (w.forCall tape i).memory) ∧ sizedMet enc Tryd.checked.prog fn (OpenSpec.ofChange s) false (w.forCall tape i).memory i.args) ∧ ({} : Assume).holds Tryd.checked.prog (lone (Frame.enter Tryd.checked.prog f i.args .normal) [] (w.forCall tape i)))
    (walk : ∀ (W : World) (base : Nat) (args : Array Value) (ds gs : List (DataW H)) (before : List MemPlace),
      (∀ (j : Nat) t v, fn.params[j]? = some t → args[j]? = some v → Value.okWide Tryd.prog W .any base t v) → DataW.Whole enc Tryd.prog fn.params.toList s.vars false W args.toList ds gs before → Env W →
      Calls Tryd.prog f args W fun e W' => ∃ v, e = .returned v ∧ s.post enc Tryd.prog fn false true false false W args v W') :
    ReturnsInHanded {} Tryd.checked os f .any (fun w args => (s.pre enc Tryd.prog fn [] false w args ∧ laidMetH Tryd.prog laid5 w) ∧ sizedMet enc Tryd.prog fn (OpenSpec.ofChange s) false w args) (s.post enc Tryd.prog fn false true false false) := by
  refine returnsInHanded_of_calls own started noInit witness ?_
  intro w tape i _ _ _ hok hpre _
  obtain ⟨_, _, _, fn', hfn', _, _, _, _, hval⟩ := hok
  obtain rfl : fn' = fn := Option.some.inj (hfn'.symm.trans hfn)
  obtain ⟨⟨⟨ds, gs, before, whole, _⟩, laid⟩, _⟩ := hpre
  have whole2 := DataW.Whole.of_heap (w' := w.forCall tape i) (by rfl) whole
  have here : laidMetH Tryd.prog laid5 (w.forCall tape i) := laid.of_heap (w' := w.forCall tape i) (by rfl)
  refine (walk (w.forCall tape i) w.heap.size i.args ds gs before hval whole2 (env_of here)).mono fun e W' h => ?_
  obtain ⟨v, rfl, hp⟩ := h
  exact ChangeSpec.post_blind hp
end Go.Proofs.YtlbfnafniobnaaaDoor

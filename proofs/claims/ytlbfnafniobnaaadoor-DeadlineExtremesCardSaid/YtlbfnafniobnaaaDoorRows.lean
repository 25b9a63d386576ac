/-
  NARROWER THAN 'FOR EVERY INPUT', by the rows' own cells (each row's printed sentence says how): DeadlineMonotone: loops, laid · DeadlineBounds: loops, laid · DeadlineNeeds: loops, laid · DeadlineExtremes: loops, laid · DeadlineSums: loops, laid · DeadlineCuts: laid.
  DERIVED. THE GIVEN ROWS OF THIS SEAT. 6 by the template 'for every input the law returns true; each argument reads behind the call as it read before'; 0 by the template 'total and deterministic' (their statements: YtlbfnafniobnaaaDoorTotals.lean).
  GIVEN WITH THE SEED: the statements are not yours to turn. If you find one false, say at which input.
  Laid BY PROGRAM, IN A SANDBOX (cutbox-rows.mjs): the forced cells as the released guide's own fill.sh prints them over the translation fdea72e13bf1cfcf… (all of the seat's roots in one cut). By AI agents, Wed Nov 11 2026. No macro, syntax, notation, axiom, sorry.
-/
import Derived.Test.YtlbfnafniobnaaaDoorChecked
import GoSem.Claim
import GoSem.ClaimJoined
import GoSem.ClaimMapViews
import Derived.JoinedTies
import Derived.KernelRfl
namespace Go.Proofs.YtlbfnafniobnaaaDoor
/- THE CELL 'sum', in the pinned program and in every row, IS THE sha256 OF THE DUMP (.gsa) THAT YtlbfnafniobnaaaDoorProg.lean LOADS. Nothing in Lean hashes anything: it is a label: what it is worth is what the hold of that sum in a sandbox is worth. -/
noncomputable def Tryd.pinned : Pinned := { name := "ytlbfnafniobnaaadoor", sum := "fdea72e13bf1cfcfb5681894d11fe1aac171a591420fa730149b8a501faa144f", checked := Tryd.checked }
namespace Rows
def none {H : Type} : Left H := { results := [], args := [] }

/- WHAT THE LISTED PACKAGE-LEVEL VARIABLES READ AS WHEN THE CALL BEGINS. Each datum BY PROGRAM (the guide's laid-datum.mjs) off the statement by which the dump's own 'gosem.cut.vars' lays the variable. In a bare row this is a premise. The card (YtlbfnafniobnaaaDoorCards.lean) ties it to the program's text. -/
def laid_estoppel_date_daysBefore {H : Type} : DataW H := .agg [.lit (.int .i64 0), .lit (.int .i64 31), .lit (.int .i64 59), .lit (.int .i64 90), .lit (.int .i64 120), .lit (.int .i64 151), .lit (.int .i64 181), .lit (.int .i64 212), .lit (.int .i64 243), .lit (.int .i64 273), .lit (.int .i64 304), .lit (.int .i64 334), .lit (.int .i64 365)]

/-- 'estoppellaw05.DeadlineMonotone': WHATEVER THE INPUT: true; the input reads as it did. -/
def deadlineMonotoneSpec : ChangeSpec := { name := "deadlineMonotone", fn := fun _ => fun
  | [d1, d2, d3, d4] => { results := [.lit (.bool true)], args := [d1, d2, d3, d4] }
  | _ => none }
def deadlineMonotoneRow : OpenClaim := { program := "ytlbfnafniobnaaadoor", sum := "fdea72e13bf1cfcfb5681894d11fe1aac171a591420fa730149b8a501faa144f", func := "estoppel/estoppellaw05.DeadlineMonotone", spec := "deadlineMonotone", unfollowed := true, recurses := true, named := ["estoppel/date.daysBefore"], loops := true, apart := false, laid := [("estoppel/date.daysBefore", laid_estoppel_date_daysBefore)] }
def DeadlineMonotoneSaid : Prop := deadlineMonotoneRow.holds Tryd.pinned (OpenSpec.ofChange deadlineMonotoneSpec)

/-- ITS FALSE NEIGHBOUR: 'it returns false'. Refute it at one input. -/
def deadlineMonotoneWrong : ChangeSpec := { name := "deadlineMonotone", fn := fun _ => fun
  | [d1, d2, d3, d4] => { results := [.lit (.bool false)], args := [d1, d2, d3, d4] }
  | _ => none }
def DeadlineMonotoneWrongFalsely : Prop := deadlineMonotoneRow.holds Tryd.pinned (OpenSpec.ofChange deadlineMonotoneWrong)

/-- 'estoppellaw05.DeadlineBounds': WHATEVER THE INPUT: true; the input reads as it did. -/
def deadlineBoundsSpec : ChangeSpec := { name := "deadlineBounds", fn := fun _ => fun
  | [d1, d2, d3, d4, d5] => { results := [.lit (.bool true)], args := [d1, d2, d3, d4, d5] }
  | _ => none }
def deadlineBoundsRow : OpenClaim := { program := "ytlbfnafniobnaaadoor", sum := "fdea72e13bf1cfcfb5681894d11fe1aac171a591420fa730149b8a501faa144f", func := "estoppel/estoppellaw05.DeadlineBounds", spec := "deadlineBounds", unfollowed := true, recurses := true, named := ["estoppel/date.daysBefore"], loops := true, apart := false, laid := [("estoppel/date.daysBefore", laid_estoppel_date_daysBefore)] }
def DeadlineBoundsSaid : Prop := deadlineBoundsRow.holds Tryd.pinned (OpenSpec.ofChange deadlineBoundsSpec)

/-- ITS FALSE NEIGHBOUR: 'it returns false'. Refute it at one input. -/
def deadlineBoundsWrong : ChangeSpec := { name := "deadlineBounds", fn := fun _ => fun
  | [d1, d2, d3, d4, d5] => { results := [.lit (.bool false)], args := [d1, d2, d3, d4, d5] }
  | _ => none }
def DeadlineBoundsWrongFalsely : Prop := deadlineBoundsRow.holds Tryd.pinned (OpenSpec.ofChange deadlineBoundsWrong)

/-- 'estoppellaw05.DeadlineNeeds': WHATEVER THE INPUT: true; the input reads as it did. -/
def deadlineNeedsSpec : ChangeSpec := { name := "deadlineNeeds", fn := fun _ => fun
  | [d1, d2, d3] => { results := [.lit (.bool true)], args := [d1, d2, d3] }
  | _ => none }
def deadlineNeedsRow : OpenClaim := { program := "ytlbfnafniobnaaadoor", sum := "fdea72e13bf1cfcfb5681894d11fe1aac171a591420fa730149b8a501faa144f", func := "estoppel/estoppellaw05.DeadlineNeeds", spec := "deadlineNeeds", unfollowed := true, recurses := true, named := ["estoppel/date.daysBefore"], loops := true, apart := false, laid := [("estoppel/date.daysBefore", laid_estoppel_date_daysBefore)] }
def DeadlineNeedsSaid : Prop := deadlineNeedsRow.holds Tryd.pinned (OpenSpec.ofChange deadlineNeedsSpec)

/-- ITS FALSE NEIGHBOUR: 'it returns false'. Refute it at one input. -/
def deadlineNeedsWrong : ChangeSpec := { name := "deadlineNeeds", fn := fun _ => fun
  | [d1, d2, d3] => { results := [.lit (.bool false)], args := [d1, d2, d3] }
  | _ => none }
def DeadlineNeedsWrongFalsely : Prop := deadlineNeedsRow.holds Tryd.pinned (OpenSpec.ofChange deadlineNeedsWrong)

/-- 'estoppellaw05.DeadlineExtremes': WHATEVER THE INPUT: true; the input reads as it did. -/
def deadlineExtremesSpec : ChangeSpec := { name := "deadlineExtremes", fn := fun _ => fun
  | [d1, d2, d3] => { results := [.lit (.bool true)], args := [d1, d2, d3] }
  | _ => none }
def deadlineExtremesRow : OpenClaim := { program := "ytlbfnafniobnaaadoor", sum := "fdea72e13bf1cfcfb5681894d11fe1aac171a591420fa730149b8a501faa144f", func := "estoppel/estoppellaw05.DeadlineExtremes", spec := "deadlineExtremes", unfollowed := true, recurses := true, named := ["estoppel/date.daysBefore"], loops := true, apart := false, laid := [("estoppel/date.daysBefore", laid_estoppel_date_daysBefore)] }
def DeadlineExtremesSaid : Prop := deadlineExtremesRow.holds Tryd.pinned (OpenSpec.ofChange deadlineExtremesSpec)

/-- ITS FALSE NEIGHBOUR: 'it returns false'. Refute it at one input. -/
def deadlineExtremesWrong : ChangeSpec := { name := "deadlineExtremes", fn := fun _ => fun
  | [d1, d2, d3] => { results := [.lit (.bool false)], args := [d1, d2, d3] }
  | _ => none }
def DeadlineExtremesWrongFalsely : Prop := deadlineExtremesRow.holds Tryd.pinned (OpenSpec.ofChange deadlineExtremesWrong)

/-- 'estoppellaw05.DeadlineSums': WHATEVER THE INPUT: true; the input reads as it did. -/
def deadlineSumsSpec : ChangeSpec := { name := "deadlineSums", fn := fun _ => fun
  | [d1, d2, d3, d4, d5] => { results := [.lit (.bool true)], args := [d1, d2, d3, d4, d5] }
  | _ => none }
def deadlineSumsRow : OpenClaim := { program := "ytlbfnafniobnaaadoor", sum := "fdea72e13bf1cfcfb5681894d11fe1aac171a591420fa730149b8a501faa144f", func := "estoppel/estoppellaw05.DeadlineSums", spec := "deadlineSums", unfollowed := true, recurses := true, named := ["estoppel/date.daysBefore"], loops := true, apart := false, laid := [("estoppel/date.daysBefore", laid_estoppel_date_daysBefore)] }
def DeadlineSumsSaid : Prop := deadlineSumsRow.holds Tryd.pinned (OpenSpec.ofChange deadlineSumsSpec)

/-- ITS FALSE NEIGHBOUR: 'it returns false'. Refute it at one input. -/
def deadlineSumsWrong : ChangeSpec := { name := "deadlineSums", fn := fun _ => fun
  | [d1, d2, d3, d4, d5] => { results := [.lit (.bool false)], args := [d1, d2, d3, d4, d5] }
  | _ => none }
def DeadlineSumsWrongFalsely : Prop := deadlineSumsRow.holds Tryd.pinned (OpenSpec.ofChange deadlineSumsWrong)

/-- 'estoppellaw05.DeadlineCuts': WHATEVER THE INPUT: true; the input reads as it did. -/
def deadlineCutsSpec : ChangeSpec := { name := "deadlineCuts", fn := fun _ => fun
  | [d1, d2, d3, d4] => { results := [.lit (.bool true)], args := [d1, d2, d3, d4] }
  | _ => none }
def deadlineCutsRow : OpenClaim := { program := "ytlbfnafniobnaaadoor", sum := "fdea72e13bf1cfcfb5681894d11fe1aac171a591420fa730149b8a501faa144f", func := "estoppel/estoppellaw05.DeadlineCuts", spec := "deadlineCuts", unfollowed := true, recurses := true, named := ["estoppel/date.daysBefore"], apart := false, laid := [("estoppel/date.daysBefore", laid_estoppel_date_daysBefore)] }
def DeadlineCutsSaid : Prop := deadlineCutsRow.holds Tryd.pinned (OpenSpec.ofChange deadlineCutsSpec)

/-- ITS FALSE NEIGHBOUR: 'it returns false'. Refute it at one input. -/
def deadlineCutsWrong : ChangeSpec := { name := "deadlineCuts", fn := fun _ => fun
  | [d1, d2, d3, d4] => { results := [.lit (.bool false)], args := [d1, d2, d3, d4] }
  | _ => none }
def DeadlineCutsWrongFalsely : Prop := deadlineCutsRow.holds Tryd.pinned (OpenSpec.ofChange deadlineCutsWrong)

/- THE SECOND FORM. 'bulk': how many values and letters a reading holds, each counted each time it is reached (what is shared counts as often as it is met; a slice's spare places count too). A statement '..UptoSaid' is the law's where the arguments, and the package variables that the reading takes, are together of bulk at most 1048576: NARROWER than '..Said'. Prove '..Said' where nothing that the law and all that it calls make is longer than what came in: it says more and counts as full. Else prove '..UptoSaid'. A law counts once. -/
mutual
def uptoBulk {H : Type} : DataW H → Nat
  | .lit (.string bytes) => bytes.length + 1
  | .lit _ => 1
  | .nil => 1
  | .ptr d => uptoBulk d + 1
  | .slice elems spare => uptoBulkAll elems + uptoBulkAll spare + 1
  | .agg parts => uptoBulkAll parts + 1
  | .iface _ d => uptoBulk d + 1
  | .map entries => uptoBulkEntries entries + 1
  | .held _ => 1
def uptoBulkAll {H : Type} : List (DataW H) → Nat
  | [] => 0
  | d :: r => uptoBulk d + uptoBulkAll r
def uptoBulkEntries {H : Type} : List (Lit × DataW H) → Nat
  | [] => 0
  | x :: r => uptoBulkEntry x + uptoBulkEntries r
def uptoBulkEntry {H : Type} : Lit × DataW H → Nat
  | (.string bytes, d) => bytes.length + uptoBulk d + 1
  | (_, d) => uptoBulk d + 1
 end
def uptoSmall : (H : Type) → List (DataW H) → Bool := fun _ ds => decide (uptoBulkAll ds ≤ 1048576)
def OpenSpec.upto (s : _root_.Go.ChangeSpec) : _root_.Go.OpenSpec := { _root_.Go.OpenSpec.ofChange s with cond := some uptoSmall }

/-- 'estoppellaw05.DeadlineMonotone', WHERE WHAT IT READS IS OF BULK AT MOST 1048576: true; the input reads as it did. -/
def deadlineMonotoneUptoRow : OpenClaim := { program := "ytlbfnafniobnaaadoor", sum := "fdea72e13bf1cfcfb5681894d11fe1aac171a591420fa730149b8a501faa144f", func := "estoppel/estoppellaw05.DeadlineMonotone", spec := "deadlineMonotone", unfollowed := true, recurses := true, named := ["estoppel/date.daysBefore"], loops := true, apart := false, laid := [("estoppel/date.daysBefore", laid_estoppel_date_daysBefore)], narrowed := true }
def DeadlineMonotoneUptoSaid : Prop := deadlineMonotoneUptoRow.holds Tryd.pinned (OpenSpec.upto deadlineMonotoneSpec)

/-- 'estoppellaw05.DeadlineBounds', WHERE WHAT IT READS IS OF BULK AT MOST 1048576: true; the input reads as it did. -/
def deadlineBoundsUptoRow : OpenClaim := { program := "ytlbfnafniobnaaadoor", sum := "fdea72e13bf1cfcfb5681894d11fe1aac171a591420fa730149b8a501faa144f", func := "estoppel/estoppellaw05.DeadlineBounds", spec := "deadlineBounds", unfollowed := true, recurses := true, named := ["estoppel/date.daysBefore"], loops := true, apart := false, laid := [("estoppel/date.daysBefore", laid_estoppel_date_daysBefore)], narrowed := true }
def DeadlineBoundsUptoSaid : Prop := deadlineBoundsUptoRow.holds Tryd.pinned (OpenSpec.upto deadlineBoundsSpec)

/-- 'estoppellaw05.DeadlineNeeds', WHERE WHAT IT READS IS OF BULK AT MOST 1048576: true; the input reads as it did. -/
def deadlineNeedsUptoRow : OpenClaim := { program := "ytlbfnafniobnaaadoor", sum := "fdea72e13bf1cfcfb5681894d11fe1aac171a591420fa730149b8a501faa144f", func := "estoppel/estoppellaw05.DeadlineNeeds", spec := "deadlineNeeds", unfollowed := true, recurses := true, named := ["estoppel/date.daysBefore"], loops := true, apart := false, laid := [("estoppel/date.daysBefore", laid_estoppel_date_daysBefore)], narrowed := true }
def DeadlineNeedsUptoSaid : Prop := deadlineNeedsUptoRow.holds Tryd.pinned (OpenSpec.upto deadlineNeedsSpec)

/-- 'estoppellaw05.DeadlineExtremes', WHERE WHAT IT READS IS OF BULK AT MOST 1048576: true; the input reads as it did. -/
def deadlineExtremesUptoRow : OpenClaim := { program := "ytlbfnafniobnaaadoor", sum := "fdea72e13bf1cfcfb5681894d11fe1aac171a591420fa730149b8a501faa144f", func := "estoppel/estoppellaw05.DeadlineExtremes", spec := "deadlineExtremes", unfollowed := true, recurses := true, named := ["estoppel/date.daysBefore"], loops := true, apart := false, laid := [("estoppel/date.daysBefore", laid_estoppel_date_daysBefore)], narrowed := true }
def DeadlineExtremesUptoSaid : Prop := deadlineExtremesUptoRow.holds Tryd.pinned (OpenSpec.upto deadlineExtremesSpec)

/-- 'estoppellaw05.DeadlineSums', WHERE WHAT IT READS IS OF BULK AT MOST 1048576: true; the input reads as it did. -/
def deadlineSumsUptoRow : OpenClaim := { program := "ytlbfnafniobnaaadoor", sum := "fdea72e13bf1cfcfb5681894d11fe1aac171a591420fa730149b8a501faa144f", func := "estoppel/estoppellaw05.DeadlineSums", spec := "deadlineSums", unfollowed := true, recurses := true, named := ["estoppel/date.daysBefore"], loops := true, apart := false, laid := [("estoppel/date.daysBefore", laid_estoppel_date_daysBefore)], narrowed := true }
def DeadlineSumsUptoSaid : Prop := deadlineSumsUptoRow.holds Tryd.pinned (OpenSpec.upto deadlineSumsSpec)

/-- 'estoppellaw05.DeadlineCuts', WHERE WHAT IT READS IS OF BULK AT MOST 1048576: true; the input reads as it did. -/
def deadlineCutsUptoRow : OpenClaim := { program := "ytlbfnafniobnaaadoor", sum := "fdea72e13bf1cfcfb5681894d11fe1aac171a591420fa730149b8a501faa144f", func := "estoppel/estoppellaw05.DeadlineCuts", spec := "deadlineCuts", unfollowed := true, recurses := true, named := ["estoppel/date.daysBefore"], apart := false, laid := [("estoppel/date.daysBefore", laid_estoppel_date_daysBefore)], narrowed := true }
def DeadlineCutsUptoSaid : Prop := deadlineCutsUptoRow.holds Tryd.pinned (OpenSpec.upto deadlineCutsSpec)

end Rows
end Go.Proofs.YtlbfnafniobnaaaDoor

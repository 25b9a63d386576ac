/- Plain mathematics of ratios' texts: no program in it. -/
import Derived.Test.YtmdgccnpcmjpbaaDoorRtMath
import Derived.Lib.ItoaMem
import Derived.Lib.AtoiAll
import Derived.Lib.IndexMore
namespace Go.Proofs.YtmdgccnpcmjpbaaDoor.Rt
/-- the text of a ratio; empty where it is not valid -/
def textS (n d : Int) : List UInt8 := if Ok n d then (if d = 1 then Lib.itoa n else Lib.itoa n ++ 47 :: Lib.itoa d) else []
theorem textS_ok {n d : Int} (h : Ok n d) : textS n d = if d = 1 then Lib.itoa n else Lib.itoa n ++ 47 :: Lib.itoa d := by unfold textS; rw [if_pos h]
end Go.Proofs.YtmdgccnpcmjpbaaDoor.Rt

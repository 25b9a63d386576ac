/- QuantityBaskets: the law, all cases. -/
import Derived.Test.YtfddfjokpaepfaaQlI
namespace Go.Proofs.Ytfddfjokpaepfaa
open Go.RowKit

theorem baskets_law (p : Option Addr) (cap : Nat) (us : List Qn.Un) (q r : Option Addr) (capl capm : Nat) (l m : List Qn.Am) (tt : Int) (w : World) (ht : Tab w p us) (hcap : us.length ≤ cap) (hl : Amts w q l) (hm : Amts w r m) (hq0 : q = none → capl = 0) (hr0 : r = none → capm = 0) :
    Calls Try.prog 9 #[.slice p us.length cap, .slice q l.length capl, .slice r m.length capm, .int .i64 tt] w fun e w' => e = .returned (.bool true) ∧ Below w.heap.size w w' := by
  cases hs : smallB us l.length
  · exact baskets_big p cap us q r capl capm l m tt w ht hl hm hs
  by_cases h1 : 30 < l.length
  · exact baskets_l p cap us q r capl capm l m tt w ht hl hm hs h1
  by_cases h2 : 30 < m.length
  · exact baskets_m p cap us q r capl capm l m tt w ht hl hm hs (by omega) h2
  exact baskets_go p cap us q r capl capm l m tt (l ++ m) ((l ++ m).map (Qn.moveS us tt)) (Qn.basketS us l).1 (Qn.basketS us m).1 (Qn.basketS us (l ++ m)).1 (Qn.basketS us ((l ++ m).map (Qn.moveS us tt))).1 _ _ _ _ (Qn.basketS us l).2 (Qn.basketS us m).2 (Qn.basketS us (l ++ m)).2 (Qn.basketS us ((l ++ m).map (Qn.moveS us tt))).2 w ht hcap hl hm hs (by omega) (by omega) hq0 hr0 rfl rfl rfl rfl rfl rfl rfl rfl rfl rfl
end Go.Proofs.Ytfddfjokpaepfaa

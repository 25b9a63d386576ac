/- QuantityCovers: the law, all cases. -/
import Derived.Test.YtfddfjokpaepfaaQlD
namespace Go.Proofs.Ytfddfjokpaepfaa
open Go.RowKit

theorem covers_law (p1 p2 p3 p4 : Option Addr) (c1 c2 c3 c4 : Nat) (a b c d : List Qn.R) (w : World) (ha : Rats w p1 a) (hb : Rats w p2 b) (hc : Rats w p3 c) (hd : Rats w p4 d) :
    Calls Try.prog 10 #[.slice p1 a.length c1, .slice p2 b.length c2, .slice p3 c.length c3, .slice p4 d.length c4] w fun e w' => e = .returned (.bool true) ∧ Below w.heap.size w w' := by
  by_cases h1 : 60 < a.length
  · exact cov_len1 p1 p2 p3 p4 c1 c2 c3 c4 a b c d w ha hb hc hd h1
  by_cases h2 : 60 < b.length
  · exact cov_len2 p1 p2 p3 p4 c1 c2 c3 c4 a b c d w ha hb hc hd (by omega) h2
  by_cases h3 : 60 < c.length
  · exact cov_len3 p1 p2 p3 p4 c1 c2 c3 c4 a b c d w ha hb hc hd (by omega) (by omega) h3
  cases k1 : covB a a
  · exact cov_aa p1 p2 p3 p4 c1 c2 c3 c4 a b c d w ha hb hc hd (by omega) (by omega) (by omega) k1
  cases k2 : covB b b
  · exact cov_bb p1 p2 p3 p4 c1 c2 c3 c4 a b c d w ha hb hc hd (by omega) (by omega) (by omega) k1 k2
  cases k3 : covB c c
  · exact cov_cc p1 p2 p3 p4 c1 c2 c3 c4 a b c d w ha hb hc hd (by omega) (by omega) (by omega) k1 k2 k3
  exact cov_go p1 p2 p3 p4 c1 c2 c3 c4 a b c d _ w ha hb hc hd (by omega) (by omega) (by omega) k1 k2 k3 rfl
end Go.Proofs.Ytfddfjokpaepfaa

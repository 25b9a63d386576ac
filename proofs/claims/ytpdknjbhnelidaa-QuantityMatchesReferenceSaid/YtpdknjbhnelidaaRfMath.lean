/- What the reference implementation computes: no program in it. -/
import Derived.Test.YtpdknjbhnelidaaRtMath
namespace Go.Proofs.Ytpdknjbhnelidaa.Rt
def ofS (neg : Bool) (x y : Nat) : Int × Int × Int :=
  if y = 0 then (0, 0, 1) else
  if 1000000000000 < x / Nat.gcd x y ∨ 1000000 < y / Nat.gcd x y then (0, 0, 2) else
  (if neg then -((x / Nat.gcd x y : Nat) : Int) else ((x / Nat.gcd x y : Nat) : Int), ((y / Nat.gcd x y : Nat) : Int), 0)
theorem mk_of (n d : Int) : mk n d = ofS (decide (n < 0) != decide (d < 0)) n.natAbs d.natAbs := by
  unfold mk ofS
  by_cases h : d = 0
  · rw [if_pos h, if_pos (show d.natAbs = 0 by omega)]
  · rw [if_neg h, if_neg (show ¬ d.natAbs = 0 by omega)]
theorem ofS_zero (s : Bool) (y : Nat) : ofS s 0 y = ofS false 0 y := by
  unfold ofS
  cases s <;> simp
theorem ofS_sign {n m : Int} {x y : Nat} (hn : n.natAbs = x) (hm : 0 < m) (hy : m.natAbs = y) (s : Bool) (hs : n ≠ 0 → s = decide (n < 0)) : ofS s x y = mk n m := by
  rw [mk_of, hn, hy]
  by_cases h : n = 0
  · subst h
    have hx : x = 0 := by omega
    subst hx
    rw [ofS_zero s, ofS_zero (decide _ != _)]
  · rw [hs h, show decide (m < 0) = false from by simp; omega]
    simp
theorem div_of {an ad bn bd : Int} (ha : Ok an ad) (hb : Ok bn bd) : ofS (decide (an < 0) != decide (bn < 0)) (an.natAbs * bd.natAbs) (ad.natAbs * bn.natAbs) = mk (an * bd) (ad * bn) := by
  have a0 := ok_pos ha
  have b0 := ok_pos hb
  rw [mk_of, Int.natAbs_mul, Int.natAbs_mul]
  have e1 : decide (an * bd < 0) = decide (an < 0) := by
    rw [decide_eq_decide]
    constructor
    · intro h; refine Classical.byContradiction fun hc => ?_
      have : 0 ≤ an * bd := Int.mul_nonneg (by omega) (by omega)
      omega
    · intro h; exact Int.mul_neg_of_neg_of_pos h b0
  have e2 : decide (ad * bn < 0) = decide (bn < 0) := by
    rw [decide_eq_decide]
    constructor
    · intro h; refine Classical.byContradiction fun hc => ?_
      have : 0 ≤ ad * bn := Int.mul_nonneg (by omega) (by omega)
      omega
    · intro h; exact Int.mul_neg_of_pos_of_neg a0 h
  rw [e1, e2]
end Go.Proofs.Ytpdknjbhnelidaa.Rt

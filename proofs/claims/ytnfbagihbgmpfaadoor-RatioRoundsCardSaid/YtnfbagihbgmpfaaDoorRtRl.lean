/- RatioRounds: the law, out of its ways. -/
import Derived.Test.YtnfbagihbgmpfaaDoorRtRa
import Derived.Test.YtnfbagihbgmpfaaDoorRtRb
import Derived.Test.YtnfbagihbgmpfaaDoorRtRc
namespace Go.Proofs.YtnfbagihbgmpfaaDoor
open Go.RowKit

theorem Rt.rh_abs {x d : Int} (hd : 1 ≤ d) : (Rt.rh x d).natAbs ≤ x.natAbs + 1 := by
  have h := Rt.ediv_abs x d hd
  unfold Rt.rh
  split <;> omega
/-- what Round returns for numerators of at most 10^9 and at most 1000 parts -/
theorem Rt.round_in {an ad n : Int} (ha : Rt.Ok an ad) (h1 : max an (-an) ≤ 1000000000) (n1 : 1 ≤ n) (n2 : n ≤ 1000) :
    ∃ x1 x2 : Int, Rt.roundS an ad n = (x1, x2, 0) ∧ Rt.Ok x1 x2 ∧ x1 * n = Rt.rh (an * n) ad * x2 ∧ n % x2 = 0 ∧ x1 * (n / x2) = Rt.rh (an * n) ad ∧ Rt.roundS x1 x2 n = (x1, x2, 0) := by
  have m1 := mulb (a := an) (m := 1000000000) (b := n) (k := 1000) (by omega) (by omega) n1 n2 (by omega)
  obtain ⟨c1, c2, c3⟩ := Rt.rh_near (x := an * n) (d := ad) (Rt.ok_pos ha)
  have hb : -1000000000000 ≤ Rt.rh (an * n) ad ∧ Rt.rh (an * n) ad ≤ 1000000000000 := by
    have a1 := ha.1
    have e := Rt.ediv_abs (an * n) ad a1
    have h := Int.ediv_mul_add_emod (an * n) ad
    have r0 := Int.emod_nonneg (an * n) (show ad ≠ 0 by omega)
    have r1 := Int.emod_lt_of_pos (an * n) (show 0 < ad by omega)
    unfold Rt.rh
    generalize an * n / ad = q at *
    generalize an * n % ad = r at *
    split
    · rename_i hs
      have hr : 1 ≤ r := by omega
      refine ⟨by omega, ?_⟩
      refine Classical.byContradiction fun hc => ?_
      have hq : 1000000000000 ≤ q := by omega
      have : 1000000000000 * ad ≤ q * ad := Int.mul_le_mul_of_nonneg_right hq (by omega)
      omega
    · omega
  have hg : 1 ≤ Nat.gcd (Rt.rh (an * n) ad).natAbs n.natAbs := Nat.gcd_pos_of_pos_right _ (by omega)
  rcases Rt.mk_ok (n := Rt.rh (an * n) ad) (d := n) (by omega) with ⟨p, q, e1, e2, e3, e4⟩ | ⟨_, _, h⟩
  · have q0 := Rt.ok_pos e2
    have hn : n = q * (Nat.gcd (Rt.rh (an * n) ad).natAbs n.natAbs : Int) := by omega
    have hmod : n % q = 0 := by rw [hn]; exact Int.mul_emod_right _ _
    have hdiv : n / q * q = n := Int.ediv_mul_cancel (Int.dvd_of_emod_eq_zero hmod)
    have hpr : p * (n / q) = Rt.rh (an * n) ad := by
      apply Int.eq_of_mul_eq_mul_right (show q ≠ 0 by omega)
      rw [Int.mul_assoc, hdiv]; exact e3
    refine ⟨p, q, ?_, e2, e3, hmod, hpr, ?_⟩
    · unfold Rt.roundS; rw [if_pos ⟨ha, n1, by omega⟩]; exact e1
    · unfold Rt.roundS; rw [if_pos ⟨e2, n1, by omega⟩, e3, Rt.rh_exact q0]; exact e1
  · omega
theorem rounds_law (an ad bn bd raw : Int) (w : World) (ka1 : -9223372036854775808 ≤ an) (ka2 : an ≤ 9223372036854775807) (_ : -9223372036854775808 ≤ ad) (_ : ad ≤ 9223372036854775807)
    (kb1 : -9223372036854775808 ≤ bn) (kb2 : bn ≤ 9223372036854775807) (_ : -9223372036854775808 ≤ bd) (_ : bd ≤ 9223372036854775807) (_ : -9223372036854775808 ≤ raw) (_ : raw ≤ 9223372036854775807) (hE : Env w) :
    Calls Tryd.prog 8 #[.agg #[.int .i64 an, .int .i64 ad], .agg #[.int .i64 bn, .int .i64 bd], .int .i64 raw] w fun e w' => e = .returned (.bool true) ∧ Below w.heap.size w w' := by
  by_cases ha : Rt.Ok an ad
  · by_cases hb : Rt.Ok bn bd
    · by_cases g1 : 1000000000 < max an (-an)
      · exact rr_m1 an ad bn bd raw w hE ha hb g1
      by_cases g2 : 1000000000 < max bn (-bn)
      · exact rr_m2 an ad bn bd raw w hE ha hb (by omega) g2
      obtain ⟨n, hn⟩ : ∃ n, 1 + max (raw.tmod 1000) (-(raw.tmod 1000)) = n := ⟨_, rfl⟩
      obtain ⟨_, _, t1, t2, _⟩ := tdiv_facts (x := raw) (d := 1000) (by omega)
      have n1 : 1 ≤ n := by omega
      have n2 : n ≤ 1000 := by omega
      obtain ⟨x1, x2, X1, X2, X3, X4, X5, X6⟩ := Rt.round_in ha (by omega) n1 n2
      obtain ⟨y1, y2, Y1, Y2, Y3, Y4, Y5, Y6⟩ := Rt.round_in hb (by omega) n1 n2
      obtain ⟨c1, c2, c3⟩ := Rt.rh_near (x := an * n) (d := ad) (Rt.ok_pos ha)
      have m1 := mulb (a := an) (m := 1000000000) (b := n) (k := 1000) (by omega) (by omega) n1 n2 (by omega)
      have gr : -1000000000001 ≤ Rt.rh (an * n) ad ∧ Rt.rh (an * n) ad ≤ 1000000000001 := by
        have := Rt.rh_abs (x := an * n) ha.1; omega
      have hc : Rt.cmpS an ad bn bd = cmpI (an * bd) (bn * ad) := by unfold Rt.cmpS cmpI; rw [if_pos ⟨ha, hb⟩]
      have hd : Rt.cmpS x1 x2 y1 y2 = cmpI (x1 * y2) (y1 * x2) := by unfold Rt.cmpS cmpI; rw [if_pos ⟨X2, Y2⟩]
      by_cases hgt : 0 < cmpI (an * bd) (bn * ad)
      · by_cases e : 2 * (Rt.rh (an * n) ad * ad - an * n) = ad
        · exact rr_gt_a an ad bn bd raw w hE ha hb (by omega) (by omega) n _ _ x1 x2 y1 y2 _ hn X1 Y1 X2 Y2 rfl X4 X5 X6 c1 c2 c3 hc gr hgt e
        by_cases e' : 2 * (Rt.rh (an * n) ad * ad - an * n) = -ad
        · exact rr_gt_b an ad bn bd raw w hE ha hb (by omega) (by omega) n _ _ x1 x2 y1 y2 _ hn X1 Y1 X2 Y2 rfl X4 X5 X6 c1 c2 c3 hc gr hgt e'
        exact rr_gt_c an ad bn bd raw w hE ha hb (by omega) (by omega) n _ _ x1 x2 y1 y2 _ hn X1 Y1 X2 Y2 rfl X4 X5 X6 c1 c2 c3 hc gr hgt e e'
      · have hle : an * bd ≤ bn * ad := by
          refine Classical.byContradiction fun h => hgt ?_
          unfold cmpI; rw [if_neg (by omega), if_pos (by omega)]; omega
        have hrh : Rt.rh (an * n) ad ≤ Rt.rh (bn * n) bd := Rt.rh_mono (Rt.ok_pos ha) (Rt.ok_pos hb) (by
          have : an * bd * n ≤ bn * ad * n := Int.mul_le_mul_of_nonneg_right hle (by omega)
          grind)
        have hxy : x1 * y2 ≤ y1 * x2 := by
          have p2 : 0 ≤ x2 * y2 := Int.le_of_lt (Int.mul_pos (Rt.ok_pos X2) (Rt.ok_pos Y2))
          have := Int.mul_le_mul_of_nonneg_right hrh p2
          have e1 : Rt.rh (an * n) ad * (x2 * y2) = (x1 * y2) * n := by grind
          have e2 : Rt.rh (bn * n) bd * (x2 * y2) = (y1 * x2) * n := by grind
          rw [e1, e2] at this
          exact Int.le_of_mul_le_mul_right this (by omega)
        have hdle : cmpI (x1 * y2) (y1 * x2) ≤ 0 := by unfold cmpI; split <;> (try split) <;> omega
        by_cases e : 2 * (Rt.rh (an * n) ad * ad - an * n) = ad
        · exact rr_le_a an ad bn bd raw w hE ha hb (by omega) (by omega) n _ _ x1 x2 y1 y2 _ hn X1 Y1 X2 Y2 rfl X4 X5 X6 c1 c2 c3 hc gr (by omega) _ hd hdle e
        by_cases e' : 2 * (Rt.rh (an * n) ad * ad - an * n) = -ad
        · exact rr_le_b an ad bn bd raw w hE ha hb (by omega) (by omega) n _ _ x1 x2 y1 y2 _ hn X1 Y1 X2 Y2 rfl X4 X5 X6 c1 c2 c3 hc gr (by omega) _ hd hdle e'
        exact rr_le_c an ad bn bd raw w hE ha hb (by omega) (by omega) n _ _ x1 x2 y1 y2 _ hn X1 Y1 X2 Y2 rfl X4 X5 X6 c1 c2 c3 hc gr (by omega) _ hd hdle e e'
    · exact rr_b an ad bn bd raw w hE kb1 kb2 ha hb
  · exact rr_a an ad bn bd raw w hE ka1 ka2 ha
end Go.Proofs.YtnfbagihbgmpfaaDoor

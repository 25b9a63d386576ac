/- Plain mathematics of ratios, for the laws: order, floors, rounding. No program in it. -/
import Derived.Test.YtnfbagihbgmpfaaDoorRtMath
namespace Go.Proofs.YtnfbagihbgmpfaaDoor.Rt
/-- equal quotients have the same floor -/
theorem floor_cross {x d y e : Int} (hd : 0 < d) (he : 0 < e) (h : x * e = y * d) : x / d = y / e := by
  have h1 : (x * e) / (d * e) = x / d := Int.mul_ediv_mul_of_pos_left x d he
  have h2 : (y * d) / (e * d) = y / e := Int.mul_ediv_mul_of_pos_left y e hd
  rw [← h1, ← h2, h, Int.mul_comm d e]
theorem floor_shift {an ad n s t : Int} (ha : 0 < ad) (ht : 0 < t) (h : s * (ad * 1) = (an * 1 + n * ad) * t) : s / t = an / ad + n := by
  rw [floor_cross ht ha (y := an + n * ad) (by grind)]
  exact Int.add_mul_ediv_right an n (by omega)
theorem floor_le {n d : Int} (hd : 0 < d) : n / d * d ≤ n ∧ n < (n / d + 1) * d := by
  have h := Int.ediv_mul_add_emod n d
  have h1 := Int.emod_nonneg n (show d ≠ 0 by omega)
  have h2 := Int.emod_lt_of_pos n hd
  rw [Int.add_mul]
  omega
/-- what is nearest: twice its distance is at most the denominator; where it is just that, it is even -/
theorem rh_near {x d : Int} (hd : 0 < d) : -d ≤ 2 * (rh x d * d - x) ∧ 2 * (rh x d * d - x) ≤ d ∧ (2 * (rh x d * d - x) = d ∨ 2 * (rh x d * d - x) = -d → rh x d % 2 = 0) := by
  have h := Int.ediv_mul_add_emod x d
  have h1 := Int.emod_nonneg x (show d ≠ 0 by omega)
  have h2 := Int.emod_lt_of_pos x hd
  unfold rh
  generalize x / d = q at *
  generalize x % d = r at *
  split
  · rw [Int.add_mul]; omega
  · omega
theorem rh_exact {x d : Int} (hd : 0 < d) : rh (x * d) d = x := by
  unfold rh
  rw [Int.mul_emod_left, Int.mul_ediv_cancel _ (by omega), if_neg (by omega)]
theorem rh_mono {x d y e : Int} (hd : 0 < d) (he : 0 < e) (h : x * e ≤ y * d) : rh x d ≤ rh y e := by
  obtain ⟨a1, a2, a3⟩ := rh_near (x := x) hd
  obtain ⟨b1, b2, b3⟩ := rh_near (x := y) he
  generalize rh x d = p at *
  generalize rh y e = q at *
  refine Classical.byContradiction fun hc => ?_
  have hpq : q + 1 ≤ p := by omega
  have c1 : (2 * p * d - d) * e ≤ 2 * x * e := Int.mul_le_mul_of_nonneg_right (by grind) (by omega)
  have c2 : 2 * y * d ≤ (2 * q * e + e) * d := Int.mul_le_mul_of_nonneg_right (by grind) (by omega)
  have c3 : 2 * x * e ≤ 2 * y * d := by grind
  have de : 0 < d * e := Int.mul_pos hd he
  have c4 : (2 * p - 1) * (d * e) ≤ (2 * q + 1) * (d * e) := by grind
  have c5 : 2 * p - 1 ≤ 2 * q + 1 := Int.le_of_mul_le_mul_right c4 de
  have hp : p = q + 1 := by omega
  subst hp
  have key : (2 * (q + 1) * d - d) * e = (2 * q * e + e) * d := by grind
  have t1 : 2 * ((q + 1) * d - x) = d := by
    have : (2 * (q + 1) * d - d) * e = 2 * x * e := Int.le_antisymm c1 (Int.le_trans c3 (Int.le_trans c2 (Int.le_of_eq key.symm)))
    have := Int.eq_of_mul_eq_mul_right (show e ≠ 0 by omega) this
    grind
  have t2 : 2 * (q * e - y) = -e := by
    have : (2 * q * e + e) * d = 2 * y * d := Int.le_antisymm (Int.le_trans (Int.le_of_eq key.symm) (Int.le_trans c1 c3)) c2
    have := Int.eq_of_mul_eq_mul_right (show d ≠ 0 by omega) this
    grind
  have e1 := a3 (Or.inl t1)
  have e2 := b3 (Or.inr t2)
  omega
/-- equal signs -/
theorem lt_of_scaled {a b c d P Q : Int} (hP : 0 < P) (hQ : 0 < Q) (h : (a - b) * P = (c - d) * Q) : (a < b ↔ c < d) ∧ (b < a ↔ d < c) := by
  have k1 : ∀ {u v P Q : Int}, 0 < P → 0 < Q → u * P = v * Q → u < 0 → v < 0 := by
    intro u v P Q hP hQ h hu
    have : u * P < 0 := Int.mul_neg_of_neg_of_pos hu hP
    refine Classical.byContradiction fun hv => ?_
    have : 0 ≤ v * Q := Int.mul_nonneg (by omega) (by omega)
    omega
  have k2 : (b - a) * P = (d - c) * Q := by grind
  refine ⟨⟨fun x => ?_, fun x => ?_⟩, ⟨fun x => ?_, fun x => ?_⟩⟩
  · have := k1 hP hQ h (by omega); omega
  · have := k1 hQ hP h.symm (by omega); omega
  · have := k1 hP hQ k2 (by omega); omega
  · have := k1 hQ hP k2.symm (by omega); omega
end Go.Proofs.YtnfbagihbgmpfaaDoor.Rt

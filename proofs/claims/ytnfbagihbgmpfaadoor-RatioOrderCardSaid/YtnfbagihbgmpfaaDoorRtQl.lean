/- RatioOrder: the law, out of its ways. -/
import Derived.Test.YtnfbagihbgmpfaaDoorRtQ
import Derived.Test.YtnfbagihbgmpfaaDoorRtMath4
namespace Go.Proofs.YtnfbagihbgmpfaaDoor
open Go.RowKit

theorem Rt.add_any3 {an ad bn bd : Int} (ha : Rt.Ok an ad) (hb : Rt.Ok bn bd) : ∃ p q e : Int, Rt.addS an ad bn bd = (p, q, e) ∧ (-1000000000000 ≤ p ∧ p ≤ 1000000000000) ∧ (e = 0 → Rt.Ok p q ∧ p * (ad * bd) = (an * bd + bn * ad) * q) := by
  unfold Rt.addS
  rw [if_pos ⟨ha, hb⟩]
  rcases Rt.mk_ok (n := an * bd + bn * ad) (Rt.mul_ne (Rt.ok_ne ha) (Rt.ok_ne hb)) with ⟨p, q, e, o, x, _⟩ | ⟨e, _⟩
  · exact ⟨p, q, 0, e, ⟨o.2.2.1, o.2.2.2.1⟩, fun _ => ⟨o, x⟩⟩
  · exact ⟨0, 0, 2, e, by omega, fun h => absurd h (by omega)⟩
theorem Rt.mul_any3 {an ad bn bd : Int} (ha : Rt.Ok an ad) (hb : Rt.Ok bn bd) : ∃ p q e : Int, Rt.mulS an ad bn bd = (p, q, e) ∧ (-1000000000000 ≤ p ∧ p ≤ 1000000000000) ∧ (e = 0 → Rt.Ok p q ∧ p * (ad * bd) = (an * bn) * q) := by
  unfold Rt.mulS
  rw [if_pos ⟨ha, hb⟩]
  rcases Rt.mk_ok (n := an * bn) (Rt.mul_ne (Rt.ok_ne ha) (Rt.ok_ne hb)) with ⟨p, q, e, o, x, _⟩ | ⟨e, _⟩
  · exact ⟨p, q, 0, e, ⟨o.2.2.1, o.2.2.2.1⟩, fun _ => ⟨o, x⟩⟩
  · exact ⟨0, 0, 2, e, by omega, fun h => absurd h (by omega)⟩
theorem Rt.cmp_eq {an ad bn bd : Int} (ha : Rt.Ok an ad) (hb : Rt.Ok bn bd) : Rt.cmpS an ad bn bd = cmpI (an * bd) (bn * ad) := by unfold Rt.cmpS cmpI; rw [if_pos ⟨ha, hb⟩]
theorem cmpI_le {x y : Int} : cmpI x y ≤ 0 ↔ x ≤ y := by unfold cmpI; split <;> (try split) <;> omega
theorem cmpI_congr {a b c d : Int} (h1 : a < b ↔ c < d) (h2 : b < a ↔ d < c) : cmpI a b = cmpI c d := by unfold cmpI; simp only [h1, h2]
theorem order_law (an ad bn bd cn cd : Int) (w : World) (ka1 : -9223372036854775808 ≤ an) (ka2 : an ≤ 9223372036854775807) (_ : -9223372036854775808 ≤ ad) (_ : ad ≤ 9223372036854775807)
    (kb1 : -9223372036854775808 ≤ bn) (kb2 : bn ≤ 9223372036854775807) (_ : -9223372036854775808 ≤ bd) (_ : bd ≤ 9223372036854775807) (kc1 : -9223372036854775808 ≤ cn) (kc2 : cn ≤ 9223372036854775807) (_ : -9223372036854775808 ≤ cd) (_ : cd ≤ 9223372036854775807) (hE : Env w) :
    Calls Tryd.prog 6 #[.agg #[.int .i64 an, .int .i64 ad], .agg #[.int .i64 bn, .int .i64 bd], .agg #[.int .i64 cn, .int .i64 cd]] w fun e w' => e = .returned (.bool true) ∧ Below w.heap.size w w' := by
  refine (Classical.em (Rt.Ok an ad)).elim (fun ha => ?_) (fun ha => or_a an ad bn bd cn cd w hE ka1 ka2 ha)
  refine (Classical.em (Rt.Ok bn bd)).elim (fun hb => ?_) (fun hb => or_b an ad bn bd cn cd w hE kb1 kb2 ha hb)
  refine (Classical.em (Rt.Ok cn cd)).elim (fun hc => ?_) (fun hc => or_c an ad bn bd cn cd w hE kc1 kc2 ha hb hc)
  have a0 := Rt.ok_pos ha
  have b0 := Rt.ok_pos hb
  have c0 := Rt.ok_pos hc
  have ek := Rt.cmp_eq ha hb
  have ek2 : Rt.cmpS bn bd an ad = -cmpI (an * bd) (bn * ad) := by
    rw [Rt.cmp_eq hb ha]; unfold cmpI; split <;> (try split) <;> (try split) <;> omega
  have hkb : -1 ≤ cmpI (an * bd) (bn * ad) ∧ cmpI (an * bd) (bn * ad) ≤ 1 := by unfold cmpI; split <;> (try split) <;> omega
  have heq : (cmpI (an * bd) (bn * ad) = 0 ∧ an = bn ∧ ad = bd) ∨ (cmpI (an * bd) (bn * ad) ≠ 0 ∧ (an ≠ bn ∨ ad ≠ bd)) := by
    by_cases hx : an * bd = bn * ad
    · obtain ⟨e1, e2⟩ := Rt.ok_unique ha hb hx
      refine Or.inl ⟨?_, e1, e2⟩
      unfold cmpI; rw [if_neg (by omega), if_neg (by omega)]
    · refine Or.inr ⟨?_, ?_⟩
      · unfold cmpI; split <;> (try split) <;> omega
      · by_cases h : an = bn
        · refine Or.inr fun h2 => hx ?_
          rw [h, h2]
        · exact Or.inl h
  have htr : cmpI (an * bd) (bn * ad) ≤ 0 → cmpI (bn * cd) (cn * bd) ≤ 0 → cmpI (an * cd) (cn * ad) ≤ 0 := by
    rw [cmpI_le, cmpI_le, cmpI_le]
    intro h1 h2
    have t1 : an * bd * cd ≤ bn * ad * cd := Int.mul_le_mul_of_nonneg_right h1 (by omega)
    have t2 : bn * cd * ad ≤ cn * bd * ad := Int.mul_le_mul_of_nonneg_right h2 (by omega)
    have t3 : an * cd * bd ≤ cn * ad * bd := by grind
    exact Int.le_of_mul_le_mul_right t3 b0
  obtain ⟨s1, s2, se, hs, sb, so⟩ := Rt.add_any3 ha hc
  obtain ⟨t1, t2, te, ht, tb, tk⟩ := Rt.add_any3 hb hc
  obtain ⟨p1, p2, pe, hp, pb, po⟩ := Rt.mul_any3 ha hc
  obtain ⟨q1, q2, qe, hq, qb, qo⟩ := Rt.mul_any3 hb hc
  refine or_in an ad bn bd cn cd w hE ha hb hc _ _ _ ek ek2 (Rt.cmp_eq hb hc) (Rt.cmp_eq ha hc) hkb heq htr s1 s2 se t1 t2 te hs ht sb tb ?_ p1 p2 pe q1 q2 qe hp hq pb qb ?_
  · intro e1 e2
    obtain ⟨o1, x1⟩ := so e1
    obtain ⟨o2, x2⟩ := tk e2
    have s0 := Rt.ok_pos o1
    have t0 := Rt.ok_pos o2
    rw [Rt.cmp_eq o1 o2]
    have P : 0 < ad * cd * (bd * cd) := Int.mul_pos (Int.mul_pos a0 c0) (Int.mul_pos b0 c0)
    have Q : 0 < cd * cd * (s2 * t2) := Int.mul_pos (Int.mul_pos c0 c0) (Int.mul_pos s0 t0)
    obtain ⟨l1, l2⟩ := Rt.lt_of_scaled P Q (a := s1 * t2) (b := t1 * s2) (c := an * bd) (d := bn * ad) (by grind)
    exact cmpI_congr l1 l2
  · intro e1 e2 e3
    obtain ⟨o1, x1⟩ := po e1
    obtain ⟨o2, x2⟩ := qo e2
    have s0 := Rt.ok_pos o1
    have t0 := Rt.ok_pos o2
    rw [Rt.cmp_eq o1 o2]
    have P : 0 < ad * cd * (bd * cd) := Int.mul_pos (Int.mul_pos a0 c0) (Int.mul_pos b0 c0)
    have Q : 0 < cn * cd * (p2 * q2) := Int.mul_pos (Int.mul_pos e3 c0) (Int.mul_pos s0 t0)
    obtain ⟨l1, l2⟩ := Rt.lt_of_scaled P Q (a := p1 * q2) (b := q1 * p2) (c := an * bd) (d := bn * ad) (by grind)
    exact cmpI_congr l1 l2
end Go.Proofs.YtnfbagihbgmpfaaDoor

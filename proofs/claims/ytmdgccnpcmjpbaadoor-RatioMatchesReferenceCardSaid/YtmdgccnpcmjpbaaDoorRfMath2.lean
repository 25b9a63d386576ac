/- The reference implementation's product: no program in it. -/
import Derived.Test.YtmdgccnpcmjpbaaDoorRfMath
namespace Go.Proofs.YtmdgccnpcmjpbaaDoor.Rt
theorem ofS_scale (s : Bool) (k x y : Nat) (hk : 0 < k) : ofS s (k * x) (k * y) = ofS s x y := by
  unfold ofS
  by_cases h : y = 0
  · rw [if_pos h, if_pos (by rw [h]; rfl)]
  · rw [if_neg h, if_neg (Nat.mul_ne_zero (by omega) h), Nat.gcd_mul_left, Nat.mul_div_mul_left _ _ hk, Nat.mul_div_mul_left _ _ hk]
theorem cop4 {a b c d g h : Nat} (h1 : Nat.gcd a c = 1) (h2 : Nat.gcd b d = 1) (hg : Nat.gcd a d = g) (hh : Nat.gcd b c = h) (g0 : 0 < g) (h0 : 0 < h) :
    Nat.gcd (a / g * (b / h)) (c / h * (d / g)) = 1 := by
  have ga : g ∣ a := hg ▸ Nat.gcd_dvd_left a d
  have gd : g ∣ d := hg ▸ Nat.gcd_dvd_right a d
  have hb : h ∣ b := hh ▸ Nat.gcd_dvd_left b c
  have hc : h ∣ c := hh ▸ Nat.gcd_dvd_right b c
  have pa : a / g ∣ a := Nat.div_dvd_of_dvd ga
  have pd : d / g ∣ d := Nat.div_dvd_of_dvd gd
  have qb : b / h ∣ b := Nat.div_dvd_of_dvd hb
  have qc : c / h ∣ c := Nat.div_dvd_of_dvd hc
  have c1 : Nat.Coprime (a / g) (c / h) := Nat.Coprime.coprime_dvd_left pa (Nat.Coprime.coprime_dvd_right qc h1)
  have c2 : Nat.Coprime (b / h) (d / g) := Nat.Coprime.coprime_dvd_left qb (Nat.Coprime.coprime_dvd_right pd h2)
  have c3 : Nat.Coprime (a / g) (d / g) := by rw [← hg] at g0 ⊢; exact Nat.coprime_div_gcd_div_gcd g0
  have c4 : Nat.Coprime (b / h) (c / h) := by rw [← hh] at h0 ⊢; exact Nat.coprime_div_gcd_div_gcd h0
  exact Nat.Coprime.mul_left (Nat.Coprime.mul_right c1 c3) (Nat.Coprime.mul_right c4 c2)
theorem sgn_mul {x y : Int} (h : x * y ≠ 0) : (decide (x < 0) != decide (y < 0)) = decide (x * y < 0) := by
  have hx : x ≠ 0 := fun e => h (by rw [e, Int.zero_mul])
  have hy : y ≠ 0 := fun e => h (by rw [e, Int.mul_zero])
  by_cases h1 : x < 0 <;> by_cases h2 : y < 0
  · have : 0 < x * y := Int.mul_pos_of_neg_of_neg h1 h2
    simp [h1, h2]; omega
  · have : x * y < 0 := Int.mul_neg_of_neg_of_pos h1 (by omega)
    simp [h1, h2, this]
  · have : x * y < 0 := Int.mul_neg_of_pos_of_neg (by omega) h2
    simp [h1, h2, this]
  · have : 0 < x * y := Int.mul_pos (by omega) (by omega)
    simp [h1, h2]; omega
theorem mul_of {an ad bn bd : Int} (ha : Ok an ad) (hb : Ok bn bd) {a b c d g h : Nat} (e1 : an.natAbs = a) (e2 : bn.natAbs = b) (e3 : ad.natAbs = c) (e4 : bd.natAbs = d) (hg : Nat.gcd a d = g) (hh : Nat.gcd b c = h) :
    ofS (decide (an < 0) != decide (bn < 0)) (a / g * (b / h)) (c / h * (d / g)) = mk (an * bn) (ad * bd) := by
  have a0 := ok_pos ha
  have b0 := ok_pos hb
  have g0 : 0 < g := by rw [← hg]; exact Nat.gcd_pos_of_pos_right _ (by omega)
  have h0 : 0 < h := by rw [← hh]; exact Nat.gcd_pos_of_pos_right _ (by omega)
  have ga : g ∣ a := hg ▸ Nat.gcd_dvd_left a d
  have gd : g ∣ d := hg ▸ Nat.gcd_dvd_right a d
  have hb' : h ∣ b := hh ▸ Nat.gcd_dvd_left b c
  have hc' : h ∣ c := hh ▸ Nat.gcd_dvd_right b c
  rw [← ofS_scale _ (g * h) _ _ (Nat.mul_pos g0 h0)]
  have x1 : g * h * (a / g * (b / h)) = a * b := by
    have u := Nat.mul_div_cancel' ga
    have v := Nat.mul_div_cancel' hb'
    calc g * h * (a / g * (b / h)) = (g * (a / g)) * (h * (b / h)) := by ac_rfl
      _ = a * b := by rw [u, v]
  have x2 : g * h * (c / h * (d / g)) = c * d := by
    have u := Nat.mul_div_cancel' hc'
    have v := Nat.mul_div_cancel' gd
    calc g * h * (c / h * (d / g)) = (h * (c / h)) * (g * (d / g)) := by ac_rfl
      _ = c * d := by rw [u, v]
  rw [x1, x2]
  exact ofS_sign (by rw [Int.natAbs_mul, e1, e2]) (Int.mul_pos a0 b0) (by rw [Int.natAbs_mul, e3, e4]) _ (fun hz => sgn_mul hz)
theorem mul_far_of {an ad bn bd : Int} (ha : Ok an ad) (hb : Ok bn bd) {a b c d g h : Nat} (e1 : an.natAbs = a) (e2 : bn.natAbs = b) (e3 : ad.natAbs = c) (e4 : bd.natAbs = d) (hg : Nat.gcd a d = g) (hh : Nat.gcd b c = h)
    (hf : 1000000000000 < a / g * (b / h)) : mk (an * bn) (ad * bd) = (0, 0, 2) := by
  have a0 := ok_pos ha
  have b0 := ok_pos hb
  have g0 : 0 < g := by rw [← hg]; exact Nat.gcd_pos_of_pos_right _ (by omega)
  have h0 : 0 < h := by rw [← hh]; exact Nat.gcd_pos_of_pos_right _ (by omega)
  have k1 : Nat.gcd a c = 1 := by rw [← e1, ← e3]; exact ha.2.2.2.2
  have k2 : Nat.gcd b d = 1 := by rw [← e2, ← e4]; exact hb.2.2.2.2
  rw [← mul_of ha hb e1 e2 e3 e4 hg hh]
  have c0 : c / h * (d / g) ≠ 0 := by
    have u : 0 < c / h := Nat.div_pos (Nat.le_of_dvd (by omega) (hh ▸ Nat.gcd_dvd_right b c)) h0
    have v : 0 < d / g := Nat.div_pos (Nat.le_of_dvd (by omega) (hg ▸ Nat.gcd_dvd_right a d)) g0
    exact Nat.mul_ne_zero (by omega) (by omega)
  unfold ofS
  rw [if_neg c0, cop4 k1 k2 hg hh g0 h0, if_pos (Or.inl (by rw [Nat.div_one]; exact hf))]
end Go.Proofs.YtmdgccnpcmjpbaaDoor.Rt

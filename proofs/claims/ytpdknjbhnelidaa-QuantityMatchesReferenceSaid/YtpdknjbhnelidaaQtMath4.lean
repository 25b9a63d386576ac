/- A quotient of two products of three numbers in lowest terms: common divisors removed pair by pair (as the reference does). No program in it. -/
import Derived.Test.YtpdknjbhnelidaaQtMath
namespace Go.Proofs.Ytpdknjbhnelidaa.Qn
/-- Make's answer, by the lowest terms -/
theorem mk_low {n d p q : Int} (hd : d ≠ 0) (hq : 0 < q) (hx : p * d = n * q) (hg : Nat.gcd p.natAbs q.natAbs = 1) :
    Rt.mk n d = if p.natAbs ≤ 1000000000000 ∧ q ≤ 1000000 then (p, q, 0) else (0, 0, 2) := by
  split
  · next h => exact Rt.mk_of_ok hd ⟨by omega, by omega, by omega, by omega, hg⟩ hx
  · next h =>
    rcases mk_err (n := n) hd with ⟨a, b, k⟩ | k
    · exfalso
      obtain ⟨k1, k2⟩ := Rt.mk_spec hd k
      have hb := Rt.ok_pos k1
      have e : a * q = p * b := by
        have : (a * q) * d = (p * b) * d := by grind
        exact Int.eq_of_mul_eq_mul_right hd this
      have c1 : Nat.Coprime a.natAbs b.natAbs := k1.2.2.2.2
      have c2 : Nat.Coprime p.natAbs q.natAbs := hg
      have en : a.natAbs * q.natAbs = p.natAbs * b.natAbs := by rw [← Int.natAbs_mul, e, Int.natAbs_mul]
      have d1 : b.natAbs ∣ q.natAbs := c1.symm.dvd_of_dvd_mul_left ⟨p.natAbs, by rw [en, Nat.mul_comm]⟩
      have d2 : q.natAbs ∣ b.natAbs := c2.symm.dvd_of_dvd_mul_left ⟨a.natAbs, by rw [← en, Nat.mul_comm]⟩
      have hqb := Nat.dvd_antisymm d1 d2
      have hqb' : b = q := by omega
      subst hqb'
      have : a = p := Int.eq_of_mul_eq_mul_right (Int.ne_of_gt hb) e
      subst this
      have := k1.1; have := k1.2.1; have := k1.2.2.1; have := k1.2.2.2.1
      exact h ⟨by omega, by omega⟩
    · exact k
def put (u : Nat → Int) (i : Nat) (x : Int) : Nat → Int := fun j => if j = i then x else u j
theorem put_at (u : Nat → Int) (i : Nat) (x : Int) : put u i x i = x := if_pos rfl
theorem put_ne (u : Nat → Int) {i j : Nat} (x : Int) (h : j ≠ i) : put u i x j = u j := if_neg h
/-- three numbers over three others, after m pairs -/
structure Inv (N D : Int) (m : Nat) (u d : Nat → Int) : Prop where
  dpos : ∀ k, k < 3 → 0 < d k
  upos : 0 < u 1 ∧ 0 < u 2
  eq : u 0 * u 1 * u 2 * D = N * (d 0 * d 1 * d 2)
  cop : ∀ i k, i < 3 → k < 3 → 3 * i + k < m → Nat.Coprime (u i).natAbs (d k).natAbs
/-- the greatest common divisor of a pair -/
def cd (x y : Int) : Int := (Nat.gcd x.natAbs y.natAbs : Nat)
theorem cd_spec {x y : Int} (hy : 0 < y) : 0 < cd x y ∧ x / cd x y * cd x y = x ∧ y / cd x y * cd x y = y ∧ 0 < y / cd x y ∧ (0 < x → 0 < x / cd x y) ∧ Nat.Coprime (x / cd x y).natAbs (y / cd x y).natAbs ∧
    (x / cd x y).natAbs ∣ x.natAbs ∧ (y / cd x y).natAbs ∣ y.natAbs := by
  have hg : 0 < Nat.gcd x.natAbs y.natAbs := Nat.gcd_pos_of_pos_right _ (by omega)
  have hG : (0 : Int) < cd x y := by unfold cd; omega
  have h1 : cd x y ∣ x := by unfold cd; exact Int.ofNat_dvd_left.2 (Nat.gcd_dvd_left _ _)
  have h2 : cd x y ∣ y := by unfold cd; exact Int.ofNat_dvd_left.2 (Nat.gcd_dvd_right _ _)
  have e1 := Int.ediv_mul_cancel h1
  have e2 := Int.ediv_mul_cancel h2
  refine ⟨hG, e1, e2, ?_, ?_, ?_, ?_, ?_⟩
  · exact Int.pos_of_mul_pos_left (by rw [e2]; exact hy) hG
  · intro hx
    exact Int.pos_of_mul_pos_left (by rw [e1]; exact hx) hG
  · have n1 : (x / cd x y).natAbs = x.natAbs / Nat.gcd x.natAbs y.natAbs := by
      rw [Int.natAbs_ediv_of_dvd h1]; rfl
    have n2 : (y / cd x y).natAbs = y.natAbs / Nat.gcd x.natAbs y.natAbs := by
      rw [Int.natAbs_ediv_of_dvd h2]; rfl
    rw [n1, n2]
    exact Nat.coprime_div_gcd_div_gcd hg
  · exact ⟨(cd x y).natAbs, by rw [← Int.natAbs_mul, e1]⟩
  · exact ⟨(cd x y).natAbs, by rw [← Int.natAbs_mul, e2]⟩
theorem Inv.step {N D : Int} {i k : Nat} {u d : Nat → Int} (hi : i < 3) (hk : k < 3) (h : Inv N D (3 * i + k) u d) :
    Inv N D (3 * i + k + 1) (put u i (u i / cd (u i) (d k))) (put d k (d k / cd (u i) (d k))) := by
  obtain ⟨g1, g2, g3, g4, g5, g6, g7, g8⟩ := cd_spec (x := u i) (h.dpos k hk)
  generalize cd (u i) (d k) = g at *
  generalize hx : u i / g = x at *
  generalize hy : d k / g = y at *
  refine ⟨fun j hj => ?_, ?_, ?_, fun a b ha hb hab => ?_⟩
  · by_cases e : j = k
    · subst e; rw [put_at]; exact g4
    · rw [put_ne _ _ e]; exact h.dpos j hj
  · constructor
    · by_cases e : 1 = i
      · subst e; rw [put_at]; exact g5 h.upos.1
      · rw [put_ne _ _ e]; exact h.upos.1
    · by_cases e : 2 = i
      · subst e; rw [put_at]; exact g5 h.upos.2
      · rw [put_ne _ _ e]; exact h.upos.2
  · have q := h.eq
    have hu : put u i x 0 * put u i x 1 * put u i x 2 * g = u 0 * u 1 * u 2 := by
      rcases (by omega : i = 0 ∨ i = 1 ∨ i = 2) with rfl | rfl | rfl <;> simp only [put] <;> simp <;> rw [← g2] <;> grind
    have hd : put d k y 0 * put d k y 1 * put d k y 2 * g = d 0 * d 1 * d 2 := by
      rcases (by omega : k = 0 ∨ k = 1 ∨ k = 2) with rfl | rfl | rfl <;> simp only [put] <;> simp <;> rw [← g3] <;> grind
    rw [← hu, ← hd] at q
    refine Int.eq_of_mul_eq_mul_right (Int.ne_of_gt g1) ?_
    grind
  · have div : ∀ j, (put u i x j).natAbs ∣ (u j).natAbs := fun j => by
      by_cases e : j = i
      · subst e; rw [put_at]; exact g7
      · rw [put_ne _ _ e]; exact Nat.dvd_refl _
    have div2 : ∀ j, (put d k y j).natAbs ∣ (d j).natAbs := fun j => by
      by_cases e : j = k
      · subst e; rw [put_at]; exact g8
      · rw [put_ne _ _ e]; exact Nat.dvd_refl _
    by_cases e : a = i ∧ b = k
    · obtain ⟨rfl, rfl⟩ := e
      rw [put_at, put_at]
      exact g6
    · exact Nat.Coprime.coprime_dvd_left (div a) (Nat.Coprime.coprime_dvd_right (div2 b) (h.cop a b ha hb (by omega)))
theorem Inv.last {N D : Int} {u d : Nat → Int} (hD : D ≠ 0) (h : Inv N D 9 u d) :
    Rt.mk N D = if (u 0 * u 1 * u 2).natAbs ≤ 1000000000000 ∧ d 0 * d 1 * d 2 ≤ 1000000 then (u 0 * u 1 * u 2, d 0 * d 1 * d 2, 0) else (0, 0, 2) := by
  have p0 := h.dpos 0 (by decide)
  have p1 := h.dpos 1 (by decide)
  have p2 := h.dpos 2 (by decide)
  refine mk_low hD (Int.mul_pos (Int.mul_pos p0 p1) p2) h.eq ?_
  have c : ∀ i, i < 3 → Nat.Coprime (u i).natAbs (d 0 * d 1 * d 2).natAbs := fun i hi => by
    rw [Int.natAbs_mul, Int.natAbs_mul]
    exact ((h.cop i 0 hi (by decide) (by omega)).mul_right (h.cop i 1 hi (by decide) (by omega))).mul_right (h.cop i 2 hi (by decide) (by omega))
  rw [Int.natAbs_mul, Int.natAbs_mul]
  exact ((c 0 (by decide)).mul_left (c 1 (by decide))).mul_left (c 2 (by decide))
theorem Inv.start {v f g : R} (hv : RO v) (hf : Fac f) (hg : Fac g) (u d : Nat → Int) (h0 : u 0 = v.1) (h1 : u 1 = f.1) (h2 : u 2 = g.2) (k0 : d 0 = v.2) (k1 : d 1 = f.2) (k2 : d 2 = g.1) :
    Inv (v.1 * f.1 * g.2) (v.2 * f.2 * g.1) 0 u d := by
  have a := Rt.ok_pos hv
  have b := Rt.ok_pos hf.1
  have c := Rt.ok_pos hg.1
  have e := hf.2
  have f' := hg.2
  refine ⟨fun k hk => ?_, ⟨by omega, by omega⟩, by rw [h0, h1, h2, k0, k1, k2], fun _ _ _ _ h => by omega⟩
  rcases (by omega : k = 0 ∨ k = 1 ∨ k = 2) with rfl | rfl | rfl <;> omega
/-- a product with a limit, factor by factor -/
theorem times_limit {p l lim : Int} (hl : 0 < l) (_ : 0 ≤ lim) : ((p.natAbs : Int) ≤ lim / l) ↔ ((p * l).natAbs : Int) ≤ lim := by
  rw [Int.le_ediv_iff_mul_le hl, Int.natAbs_mul, Int.natCast_mul, show ((l.natAbs : Nat) : Int) = l by omega]
theorem times_grow {p l : Int} (hl : 0 < l) : p.natAbs ≤ (p * l).natAbs := by
  rw [Int.natAbs_mul]
  exact Nat.le_mul_of_pos_right _ (by omega)
end Go.Proofs.Ytpdknjbhnelidaa.Qn

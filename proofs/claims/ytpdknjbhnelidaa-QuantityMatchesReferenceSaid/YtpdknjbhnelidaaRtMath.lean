/- Plain mathematics of ratios: no program in it. -/
namespace Go.Proofs.Ytpdknjbhnelidaa.Rt
/-- a ratio's numbers are valid -/
def Ok (n d : Int) : Prop := 1 ≤ d ∧ d ≤ 1000000 ∧ -1000000000000 ≤ n ∧ n ≤ 1000000000000 ∧ Nat.gcd n.natAbs d.natAbs = 1
instance (n d : Int) : Decidable (Ok n d) := by unfold Ok; infer_instance
def vB (n d : Int) : Bool := decide (Ok n d)
def mkSign (neg : Bool) (x : Nat) : Int := if neg then -(x : Int) else x
/-- Make's results: numerator, denominator, error -/
def mk (n d : Int) : Int × Int × Int :=
  if d = 0 then (0, 0, 1) else
  let g := Nat.gcd n.natAbs d.natAbs
  if 1000000000000 < n.natAbs / g ∨ 1000000 < d.natAbs / g then (0, 0, 2) else
  (if (decide (n < 0)) != (decide (d < 0)) then -((n.natAbs / g : Nat) : Int) else ((n.natAbs / g : Nat) : Int), ((d.natAbs / g : Nat) : Int), 0)

theorem ok_unique {n d m e : Int} (h : Ok n d) (k : Ok m e) (hx : n * e = m * d) : n = m ∧ d = e := by
  obtain ⟨h1, h2, h3, h4, h5⟩ := h
  obtain ⟨k1, k2, k3, k4, k5⟩ := k
  have hd : (d.natAbs) ∣ e.natAbs := by
    have : d.natAbs ∣ n.natAbs * e.natAbs := ⟨m.natAbs, by rw [← Int.natAbs_mul, hx, Int.natAbs_mul, Nat.mul_comm]⟩
    exact Nat.Coprime.dvd_of_dvd_mul_left (Nat.Coprime.symm h5) this
  have he : (e.natAbs) ∣ d.natAbs := by
    have : e.natAbs ∣ m.natAbs * d.natAbs := ⟨n.natAbs, by rw [← Int.natAbs_mul, ← hx, Int.natAbs_mul, Nat.mul_comm]⟩
    exact Nat.Coprime.dvd_of_dvd_mul_left (Nat.Coprime.symm k5) this
  have hde : d.natAbs = e.natAbs := Nat.dvd_antisymm hd he
  have hde' : d = e := by omega
  subst hde'
  refine ⟨?_, rfl⟩
  exact Int.eq_of_mul_eq_mul_right (by omega) hx
/-- what Make returns: the valid ratio that stands for n / d, or an error -/
theorem mk_ok {n d : Int} (hd : d ≠ 0) :
    (∃ p q : Int, mk n d = (p, q, 0) ∧ Ok p q ∧ p * d = n * q ∧ q * (Nat.gcd n.natAbs d.natAbs : Int) = d.natAbs) ∨
    (mk n d = (0, 0, 2) ∧ (∀ p q : Int, Ok p q → p * d ≠ n * q) ∧ (1000000000000 * Nat.gcd n.natAbs d.natAbs < n.natAbs ∨ 1000000 * Nat.gcd n.natAbs d.natAbs < d.natAbs)) := by
  have hg : 0 < Nat.gcd n.natAbs d.natAbs := Nat.gcd_pos_of_pos_right _ (by omega)
  have hab := Nat.coprime_div_gcd_div_gcd hg
  have ha := Nat.div_mul_cancel (Nat.gcd_dvd_left n.natAbs d.natAbs)
  have hb := Nat.div_mul_cancel (Nat.gcd_dvd_right n.natAbs d.natAbs)
  unfold mk
  rw [if_neg hd]
  dsimp only
  generalize Nat.gcd n.natAbs d.natAbs = g at *
  generalize n.natAbs / g = a at *
  generalize d.natAbs / g = b at *
  have hb0 : 0 < b := by
    rcases Nat.eq_zero_or_pos b with h | h
    · subst h; omega
    · exact h
  by_cases hr : 1000000000000 < a ∨ 1000000 < b
  · rw [if_pos hr]
    refine Or.inr ⟨rfl, ?_, ?_⟩
    · rintro p q ⟨h1, h2, h3, h4, h5⟩ hx
      have hx' : p.natAbs * d.natAbs = n.natAbs * q.natAbs := by rw [← Int.natAbs_mul, hx, Int.natAbs_mul]
      have e1 : p.natAbs * b = a * q.natAbs := by
        rw [← ha, ← hb] at hx'
        apply Nat.eq_of_mul_eq_mul_right hg
        rw [Nat.mul_assoc, hx', Nat.mul_right_comm]
      have d1 : b ∣ q.natAbs := Nat.Coprime.dvd_of_dvd_mul_left (Nat.Coprime.symm hab) ⟨p.natAbs, by rw [← e1, Nat.mul_comm]⟩
      have d2 : q.natAbs ∣ b := Nat.Coprime.dvd_of_dvd_mul_left (Nat.Coprime.symm h5) ⟨a, by rw [e1, Nat.mul_comm]⟩
      have e2 : q.natAbs = b := Nat.dvd_antisymm d2 d1
      rw [e2] at e1
      have e3 := Nat.eq_of_mul_eq_mul_right hb0 e1
      omega
    · rcases hr with h | h
      · left; rw [← ha]; exact Nat.mul_lt_mul_of_pos_right h hg
      · right; rw [← hb]; exact Nat.mul_lt_mul_of_pos_right h hg
  · rw [if_neg hr]
    refine Or.inl ⟨_, _, rfl, ?_, ?_, ?_⟩
    · refine ⟨by omega, by omega, by split <;> omega, by split <;> omega, ?_⟩
      have e : (if (decide (n < 0) != decide (d < 0)) = true then -(a : Int) else (a : Int)).natAbs = a := by split <;> omega
      rw [e, Int.natAbs_natCast]; exact hab
    · have en : n = (if n < 0 then -((a : Int) * g) else (a : Int) * g) := by
        have : ((a * g : Nat) : Int) = n.natAbs := by rw [ha]
        rw [Int.natCast_mul] at this
        split <;> omega
      have ed : d = (if d < 0 then -((b : Int) * g) else (b : Int) * g) := by
        have : ((b * g : Nat) : Int) = d.natAbs := by rw [hb]
        rw [Int.natCast_mul] at this
        split <;> omega
      by_cases hn : n < 0 <;> by_cases hd' : d < 0 <;> simp only [hn, hd', if_true, if_false, decide_true, decide_false, bne_self_eq_false, Bool.false_eq_true, Bool.true_bne, Bool.false_bne, Bool.not_false] at en ed ⊢ <;> rw [en, ed] <;> grind
    · rw [← Int.natCast_mul, hb]
/-- two quotients that are equal give the same, error included -/
theorem mk_congr {n d m e : Int} (hd : d ≠ 0) (he : e ≠ 0) (h : n * e = m * d) : mk n d = mk m e := by
  rcases mk_ok (n := n) hd with ⟨p, q, h1, h2, h3, _⟩ | ⟨h1, h2, _⟩ <;> rcases mk_ok (n := m) he with ⟨r, s, k1, k2, k3, _⟩ | ⟨k1, k2, _⟩
  · have : p * s = r * q := by
      apply Int.eq_of_mul_eq_mul_right (mt Int.mul_eq_zero.1 (by rintro (h | h) <;> contradiction) : d * e ≠ 0)
      grind
    obtain ⟨rfl, rfl⟩ := ok_unique h2 k2 this
    rw [h1, k1]
  · exact absurd (by apply Int.eq_of_mul_eq_mul_right hd; grind) (k2 p q h2)
  · exact absurd (by apply Int.eq_of_mul_eq_mul_right he; grind) (h2 r s k2)
  · rw [h1, k1]
theorem mk_of_ok {n d p q : Int} (hd : d ≠ 0) (h : Ok p q) (hx : p * d = n * q) : mk n d = (p, q, 0) := by
  rcases mk_ok (n := n) hd with ⟨r, s, h1, h2, h3, _⟩ | ⟨h1, h2, _⟩
  · have : r * q = p * s := by
      apply Int.eq_of_mul_eq_mul_right hd
      grind
    obtain ⟨rfl, rfl⟩ := ok_unique h2 h this
    exact h1
  · exact absurd hx (h2 p q h)

theorem mk_spec {n d p q : Int} (hd : d ≠ 0) (h : mk n d = (p, q, 0)) : Ok p q ∧ p * d = n * q := by
  rcases mk_ok (n := n) hd with ⟨r, s, h1, h2, h3, _⟩ | ⟨h1, _⟩
  · rw [h1] at h; simp only [Prod.mk.injEq] at h; obtain ⟨rfl, rfl, _⟩ := h; exact ⟨h2, h3⟩
  · rw [h1] at h; simp at h
theorem mk_zero (n : Int) : mk n 0 = (0, 0, 1) := by unfold mk; rw [if_pos rfl]
def addS (an ad bn bd : Int) : Int × Int × Int := if Ok an ad ∧ Ok bn bd then mk (an * bd + bn * ad) (ad * bd) else (0, 0, 1)
def subS (an ad bn bd : Int) : Int × Int × Int := if Ok an ad ∧ Ok bn bd then mk (an * bd - bn * ad) (ad * bd) else (0, 0, 1)
def mulS (an ad bn bd : Int) : Int × Int × Int := if Ok an ad ∧ Ok bn bd then mk (an * bn) (ad * bd) else (0, 0, 1)
def divS (an ad bn bd : Int) : Int × Int × Int := if Ok an ad ∧ Ok bn bd then mk (an * bd) (ad * bn) else (0, 0, 1)
def cmpS (an ad bn bd : Int) : Int := if Ok an ad ∧ Ok bn bd then (if an * bd < bn * ad then -1 else if bn * ad < an * bd then 1 else 0) else 0
def floorS (n d : Int) : Int := if Ok n d then n / d else 0
/-- the integer nearest to x / d, of two the even one -/
def rh (x d : Int) : Int := if d < 2 * (x % d) ∨ (2 * (x % d) = d ∧ (x / d) % 2 ≠ 0) then x / d + 1 else x / d
def roundS (n d k : Int) : Int × Int × Int := if Ok n d ∧ 1 ≤ k ∧ k ≤ 1000000 then mk (rh (n * k) d) k else (0, 0, 1)

theorem ok_pos {n d : Int} (h : Ok n d) : 0 < d := by have := h.1; omega
theorem ok_ne {n d : Int} (h : Ok n d) : d ≠ 0 := by have := h.1; omega
theorem mul_ne {a b : Int} (ha : a ≠ 0) (hb : b ≠ 0) : a * b ≠ 0 := mt Int.mul_eq_zero.1 (by rintro (h | h) <;> contradiction)
theorem add_spec {an ad bn bd p q : Int} (ha : Ok an ad) (hb : Ok bn bd) (h : addS an ad bn bd = (p, q, 0)) : Ok p q ∧ p * (ad * bd) = (an * bd + bn * ad) * q := by
  unfold addS at h; rw [if_pos ⟨ha, hb⟩] at h; exact mk_spec (mul_ne (ok_ne ha) (ok_ne hb)) h
theorem sub_spec {an ad bn bd p q : Int} (ha : Ok an ad) (hb : Ok bn bd) (h : subS an ad bn bd = (p, q, 0)) : Ok p q ∧ p * (ad * bd) = (an * bd - bn * ad) * q := by
  unfold subS at h; rw [if_pos ⟨ha, hb⟩] at h; exact mk_spec (mul_ne (ok_ne ha) (ok_ne hb)) h
theorem mul_spec {an ad bn bd p q : Int} (ha : Ok an ad) (hb : Ok bn bd) (h : mulS an ad bn bd = (p, q, 0)) : Ok p q ∧ p * (ad * bd) = (an * bn) * q := by
  unfold mulS at h; rw [if_pos ⟨ha, hb⟩] at h; exact mk_spec (mul_ne (ok_ne ha) (ok_ne hb)) h
theorem div_spec {an ad bn bd p q : Int} (ha : Ok an ad) (hb : Ok bn bd) (h0 : bn ≠ 0) (h : divS an ad bn bd = (p, q, 0)) : Ok p q ∧ p * (ad * bn) = (an * bd) * q := by
  unfold divS at h; rw [if_pos ⟨ha, hb⟩] at h; exact mk_spec (mul_ne (ok_ne ha) h0) h
theorem add_comm (an ad bn bd : Int) : addS an ad bn bd = addS bn bd an ad := by
  unfold addS; rw [Int.add_comm, Int.mul_comm ad bd]; simp only [and_comm]
theorem mul_comm (an ad bn bd : Int) : mulS an ad bn bd = mulS bn bd an ad := by
  unfold mulS; rw [Int.mul_comm an bn, Int.mul_comm ad bd]; simp only [and_comm]
theorem sub_add {an ad bn bd p q : Int} (ha : Ok an ad) (hb : Ok bn bd) (h : addS an ad bn bd = (p, q, 0)) : subS p q bn bd = (an, ad, 0) := by
  obtain ⟨h1, h2⟩ := add_spec ha hb h
  unfold subS; rw [if_pos ⟨h1, hb⟩]
  have := ok_ne h1; have := ok_ne hb; have := ok_ne ha
  exact mk_of_ok (mul_ne (ok_ne h1) (ok_ne hb)) ha (by grind)
theorem div_mul {an ad bn bd p q : Int} (ha : Ok an ad) (hb : Ok bn bd) (h0 : bn ≠ 0) (h : mulS an ad bn bd = (p, q, 0)) : divS p q bn bd = (an, ad, 0) := by
  obtain ⟨h1, h2⟩ := mul_spec ha hb h
  unfold divS; rw [if_pos ⟨h1, hb⟩]
  exact mk_of_ok (mul_ne (ok_ne h1) h0) ha (by grind)
theorem add_assoc {an ad bn bd cn cd p q r s : Int} (ha : Ok an ad) (hb : Ok bn bd) (hc : Ok cn cd) (h : addS an ad bn bd = (p, q, 0)) (k : addS bn bd cn cd = (r, s, 0)) : addS p q cn cd = addS an ad r s := by
  obtain ⟨h1, h2⟩ := add_spec ha hb h
  obtain ⟨k1, k2⟩ := add_spec hb hc k
  unfold addS; rw [if_pos ⟨h1, hc⟩, if_pos ⟨ha, k1⟩]
  refine mk_congr (mul_ne (ok_ne h1) (ok_ne hc)) (mul_ne (ok_ne ha) (ok_ne k1)) ?_
  apply Int.eq_of_mul_eq_mul_right (mul_ne (ok_ne hb) (ok_ne hb))
  grind
theorem mul_assoc {an ad bn bd cn cd p q r s : Int} (ha : Ok an ad) (hb : Ok bn bd) (hc : Ok cn cd) (h : mulS an ad bn bd = (p, q, 0)) (k : mulS bn bd cn cd = (r, s, 0)) : mulS p q cn cd = mulS an ad r s := by
  obtain ⟨h1, h2⟩ := mul_spec ha hb h
  obtain ⟨k1, k2⟩ := mul_spec hb hc k
  unfold mulS; rw [if_pos ⟨h1, hc⟩, if_pos ⟨ha, k1⟩]
  refine mk_congr (mul_ne (ok_ne h1) (ok_ne hc)) (mul_ne (ok_ne ha) (ok_ne k1)) ?_
  apply Int.eq_of_mul_eq_mul_right (mul_ne (ok_ne hb) (ok_ne hb))
  grind
theorem distrib {an ad bn bd cn cd p q r s t u : Int} (ha : Ok an ad) (hb : Ok bn bd) (hc : Ok cn cd) (h : mulS an ad bn bd = (p, q, 0)) (k : addS bn bd cn cd = (r, s, 0)) (l : mulS an ad cn cd = (t, u, 0)) : mulS an ad r s = addS p q t u := by
  obtain ⟨h1, h2⟩ := mul_spec ha hb h
  obtain ⟨k1, k2⟩ := add_spec hb hc k
  obtain ⟨l1, l2⟩ := mul_spec ha hc l
  unfold addS mulS; rw [if_pos ⟨ha, k1⟩, if_pos ⟨h1, l1⟩]
  refine mk_congr (mul_ne (ok_ne ha) (ok_ne k1)) (mul_ne (ok_ne h1) (ok_ne l1)) ?_
  apply Int.eq_of_mul_eq_mul_right (mul_ne (mul_ne (ok_ne ha) (ok_ne hb)) (ok_ne hc))
  grind

theorem mk_in {n d : Int} (h1 : -1000000000000 ≤ n) (h2 : n ≤ 1000000000000) (h3 : 1 ≤ d) (h4 : d ≤ 1000000) : ∃ p q : Int, mk n d = (p, q, 0) ∧ Ok p q ∧ p * d = n * q := by
  rcases mk_ok (n := n) (show d ≠ 0 by omega) with ⟨p, q, a, b, c, _⟩ | ⟨_, _, h⟩
  · exact ⟨p, q, a, b, c⟩
  · have hg : 1 ≤ Nat.gcd n.natAbs d.natAbs := Nat.gcd_pos_of_pos_right _ (by omega)
    omega
theorem ok_coprime {p q : Int} (h : Ok p q) : Nat.Coprime p.natAbs q.natAbs := h.2.2.2.2
theorem mul_near {an ad bn bd p1 q1 p2 q2 : Int} (ha : Ok an ad) (hb : Ok bn bd) (o1 : Ok p1 q1) (o2 : Ok p2 q2) (x1 : p1 * ad = bn * q1) (x2 : p2 * bd = an * q2) :
    mk (an * bn) (ad * bd) = mk (p1 * p2) (q1 * q2) :=
  mk_congr (mul_ne (ok_ne ha) (ok_ne hb)) (mul_ne (ok_ne o1) (ok_ne o2)) (by grind)
theorem mk_dvd {n d p q : Int} (hd : d ≠ 0) (h : mk n d = (p, q, 0)) : p.natAbs ∣ n.natAbs ∧ q.natAbs ∣ d.natAbs := by
  obtain ⟨h1, h2⟩ := mk_spec hd h
  have e : p.natAbs * d.natAbs = n.natAbs * q.natAbs := by rw [← Int.natAbs_mul, h2, Int.natAbs_mul]
  have c := ok_coprime h1
  exact ⟨c.dvd_of_dvd_mul_right ⟨d.natAbs, e.symm⟩, c.symm.dvd_of_dvd_mul_left ⟨n.natAbs, by rw [e, Nat.mul_comm]⟩⟩
theorem mul_far {an ad bn bd p1 q1 p2 q2 : Int} (ha : Ok an ad) (hb : Ok bn bd) (o1 : Ok p1 q1) (o2 : Ok p2 q2) (h1 : mk bn ad = (p1, q1, 0)) (h2 : mk an bd = (p2, q2, 0)) (x1 : p1 * ad = bn * q1) (x2 : p2 * bd = an * q2)
    (hr : 1000000000000 < p1.natAbs * p2.natAbs) : mk (an * bn) (ad * bd) = (0, 0, 2) := by
  rw [mul_near ha hb o1 o2 x1 x2]
  obtain ⟨d1, e1⟩ := mk_dvd (ok_ne ha) h1
  obtain ⟨d2, e2⟩ := mk_dvd (ok_ne hb) h2
  have k1 := ok_coprime o1
  have k2 := ok_coprime o2
  have k3 : Nat.Coprime p1.natAbs q2.natAbs := Nat.Coprime.coprime_dvd_left d1 (Nat.Coprime.coprime_dvd_right e2 (ok_coprime hb))
  have k4 : Nat.Coprime p2.natAbs q1.natAbs := Nat.Coprime.coprime_dvd_left d2 (Nat.Coprime.coprime_dvd_right e1 (ok_coprime ha))
  have k : Nat.gcd (p1 * p2).natAbs (q1 * q2).natAbs = 1 := by
    rw [Int.natAbs_mul, Int.natAbs_mul]
    exact Nat.Coprime.mul_left (Nat.Coprime.mul_right k1 k3) (Nat.Coprime.mul_right k4 k2)
  unfold mk
  rw [if_neg (mul_ne (ok_ne o1) (ok_ne o2)), k]
  dsimp only
  rw [if_pos (Or.inl (by rw [Nat.div_one, Int.natAbs_mul]; exact hr))]
end Go.Proofs.Ytpdknjbhnelidaa.Rt

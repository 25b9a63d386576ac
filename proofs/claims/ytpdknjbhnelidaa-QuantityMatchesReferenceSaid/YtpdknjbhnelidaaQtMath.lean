/- Plain mathematics of amounts: ratios as rational numbers, conversions, sums, baskets, lists that cover others. No program in it. -/
import Derived.Test.YtpdknjbhnelidaaRtMath
namespace Go.Proofs.Ytpdknjbhnelidaa.Qn
abbrev R := Int × Int
/-- a valid ratio -/
abbrev RO (r : R) : Prop := Rt.Ok r.1 r.2
/-- the number that a ratio stands for -/
def val (r : R) : Rat := Rat.divInt r.1 r.2
theorem val_inj {a b : R} (ha : RO a) (hb : RO b) (h : val a = val b) : a = b := by
  have := (Rat.divInt_eq_divInt_iff (Rt.ok_ne ha) (Rt.ok_ne hb)).1 h
  exact Prod.ext_iff.2 (Rt.ok_unique ha hb this)
theorem mk_val {n d p q : Int} (hd : d ≠ 0) (h : Rt.mk n d = (p, q, 0)) : RO (p, q) ∧ val (p, q) = Rat.divInt n d := by
  obtain ⟨h1, h2⟩ := Rt.mk_spec hd h
  exact ⟨h1, (Rat.divInt_eq_divInt_iff (Rt.ok_ne h1) hd).2 h2⟩
theorem mk_of_val {n d p q : Int} (hd : d ≠ 0) (h : RO (p, q)) (hv : val (p, q) = Rat.divInt n d) : Rt.mk n d = (p, q, 0) :=
  Rt.mk_of_ok hd h ((Rat.divInt_eq_divInt_iff (Rt.ok_ne h) hd).1 hv)
theorem add_val {a b : R} {p q : Int} (ha : RO a) (hb : RO b) (h : Rt.addS a.1 a.2 b.1 b.2 = (p, q, 0)) : RO (p, q) ∧ val (p, q) = val a + val b := by
  unfold Rt.addS at h
  rw [if_pos ⟨ha, hb⟩] at h
  have := mk_val (Rt.mul_ne (Rt.ok_ne ha) (Rt.ok_ne hb)) h
  refine ⟨this.1, this.2.trans ?_⟩
  unfold val
  rw [Rat.divInt_add_divInt _ _ (Rt.ok_ne ha) (Rt.ok_ne hb)]
theorem add_of_val {a b c : R} (ha : RO a) (hb : RO b) (hc : RO c) (h : val c = val a + val b) : Rt.addS a.1 a.2 b.1 b.2 = (c.1, c.2, 0) := by
  unfold Rt.addS
  rw [if_pos ⟨ha, hb⟩]
  refine mk_of_val (Rt.mul_ne (Rt.ok_ne ha) (Rt.ok_ne hb)) hc (h.trans ?_)
  unfold val
  rw [Rat.divInt_add_divInt _ _ (Rt.ok_ne ha) (Rt.ok_ne hb)]
/-- a factor: a valid ratio above 0 -/
def Fac (f : R) : Prop := RO f ∧ 1 ≤ f.1
theorem Fac.ne {f : R} (h : Fac f) : val f ≠ 0 := by
  unfold val
  rw [← Rat.zero_divInt 1, Ne, Rat.divInt_eq_divInt_iff (Rt.ok_ne h.1) (by decide)]
  have := h.2
  omega
/-- a value of a unit with the factor f, in one with the factor g -/
def conv (v f g : R) : Int × Int × Int := Rt.mk (v.1 * f.1 * g.2) (v.2 * f.2 * g.1)
theorem conv_ne {v f g : R} (hv : RO v) (hf : Fac f) (hg : Fac g) : v.2 * f.2 * g.1 ≠ 0 :=
  Rt.mul_ne (Rt.mul_ne (Rt.ok_ne hv) (Rt.ok_ne hf.1)) (by have := hg.2; omega)
theorem conv_eq {v f g : R} (hv : RO v) (hf : Fac f) (hg : Fac g) : Rat.divInt (v.1 * f.1 * g.2) (v.2 * f.2 * g.1) = val v * val f / val g := by
  have h1 : val v * val f = Rat.divInt (v.1 * f.1) (v.2 * f.2) := by unfold val; rw [Rat.divInt_mul_divInt]
  have h2 : Rat.divInt (v.1 * f.1 * g.2) (v.2 * f.2 * g.1) * val g = val v * val f := by
    rw [h1]
    unfold val
    rw [Rat.divInt_mul_divInt, Rat.divInt_eq_divInt_iff (Rt.mul_ne (conv_ne hv hf hg) (Rt.ok_ne hg.1)) (Rt.mul_ne (Rt.ok_ne hv) (Rt.ok_ne hf.1))]
    grind
  rw [← h2, Rat.mul_div_cancel hg.ne]
theorem conv_val {v f g : R} {p q : Int} (hv : RO v) (hf : Fac f) (hg : Fac g) (h : conv v f g = (p, q, 0)) : RO (p, q) ∧ val (p, q) = val v * val f / val g := by
  have := mk_val (conv_ne hv hf hg) h
  exact ⟨this.1, this.2.trans (conv_eq hv hf hg)⟩
theorem conv_of_val {v f g r : R} (hv : RO v) (hf : Fac f) (hg : Fac g) (hr : RO r) (h : val r = val v * val f / val g) : conv v f g = (r.1, r.2, 0) :=
  mk_of_val (conv_ne hv hf hg) hr (h.trans (conv_eq hv hf hg).symm)
theorem conv_back {v f g r : R} (hv : RO v) (hf : Fac f) (hg : Fac g) (h : conv v f g = (r.1, r.2, 0)) : conv r g f = (v.1, v.2, 0) := by
  obtain ⟨h1, h2⟩ := conv_val hv hf hg h
  refine conv_of_val h1 hg hf hv ?_
  rw [show val r = val v * val f / val g from h2, Rat.div_mul_cancel hg.ne, Rat.mul_div_cancel hf.ne]
theorem conv_way {v f g k r s : R} (hv : RO v) (hf : Fac f) (hg : Fac g) (hk : Fac k) (h : conv v f g = (r.1, r.2, 0)) (h' : conv r g k = (s.1, s.2, 0)) : conv v f k = (s.1, s.2, 0) := by
  obtain ⟨h1, h2⟩ := conv_val hv hf hg h
  obtain ⟨h3, h4⟩ := conv_val h1 hg hk h'
  refine conv_of_val hv hf hk h3 (h4.trans ?_)
  rw [show val r = val v * val f / val g from h2, Rat.div_mul_cancel hg.ne]
theorem conv_self {v f : R} (hv : RO v) (hf : Fac f) : conv v f f = (v.1, v.2, 0) := conv_of_val hv hf hf hv (Rat.mul_div_cancel hf.ne).symm
theorem conv_linear {a b s x y z f g : R} (ha : RO a) (hb : RO b) (hf : Fac f) (hg : Fac g) (hs : Rt.addS a.1 a.2 b.1 b.2 = (s.1, s.2, 0))
    (hx : conv a f g = (x.1, x.2, 0)) (hy : conv b f g = (y.1, y.2, 0)) (hz : conv s f g = (z.1, z.2, 0)) : Rt.addS x.1 x.2 y.1 y.2 = (z.1, z.2, 0) := by
  obtain ⟨s1, s2⟩ := add_val ha hb hs
  obtain ⟨x1, x2⟩ := conv_val ha hf hg hx
  obtain ⟨y1, y2⟩ := conv_val hb hf hg hy
  obtain ⟨z1, z2⟩ := conv_val s1 hf hg hz
  refine add_of_val x1 y1 z1 ?_
  rw [show val z = _ from z2, show val x = _ from x2, show val y = _ from y2, show val s = _ from s2, Rat.div_def, Rat.div_def, Rat.div_def, Rat.add_mul, Rat.add_mul]
/-- errors: 0 or 2 -/
theorem mk_err {n d : Int} (hd : d ≠ 0) : (∃ p q, Rt.mk n d = (p, q, 0)) ∨ Rt.mk n d = (0, 0, 2) := by
  unfold Rt.mk
  rw [if_neg hd]
  grind
theorem conv_err {v f g : R} (hv : RO v) (hf : Fac f) (hg : Fac g) : (∃ p q, conv v f g = (p, q, 0)) ∨ conv v f g = (0, 0, 2) := mk_err (conv_ne hv hf hg)

/-- the sum of amounts, each of them a value and the factor of its unit, in a unit with the factor g, from s on -/
def sumC (g : R) : R → List (R × R) → Int × Int × Int
  | s, [] => (s.1, s.2, 0)
  | s, x :: l =>
    if (conv x.1 x.2 g).2.2 = 0 then
      (if (Rt.addS s.1 s.2 (conv x.1 x.2 g).1 (conv x.1 x.2 g).2.1).2.2 = 0 then
        sumC g ((Rt.addS s.1 s.2 (conv x.1 x.2 g).1 (conv x.1 x.2 g).2.1).1, (Rt.addS s.1 s.2 (conv x.1 x.2 g).1 (conv x.1 x.2 g).2.1).2.1) l
      else (0, 0, 2))
    else (0, 0, 2)
theorem sumC_cons {g s : R} {x : R × R} {l : List (R × R)} {p q : Int} (h : sumC g s (x :: l) = (p, q, 0)) :
    ∃ v t : R, conv x.1 x.2 g = (v.1, v.2, 0) ∧ Rt.addS s.1 s.2 v.1 v.2 = (t.1, t.2, 0) ∧ sumC g t l = (p, q, 0) := by
  rw [sumC] at h
  split at h
  · next h1 =>
    split at h
    · next h2 => exact ⟨((conv x.1 x.2 g).1, (conv x.1 x.2 g).2.1), _, by rw [← h1], by rw [← h2], h⟩
    · simp at h
  · simp at h
theorem sumC_cons_of {g s v t : R} {x : R × R} (l : List (R × R)) (h1 : conv x.1 x.2 g = (v.1, v.2, 0)) (h2 : Rt.addS s.1 s.2 v.1 v.2 = (t.1, t.2, 0)) : sumC g s (x :: l) = sumC g t l := by
  rw [sumC, h1, if_pos rfl]
  simp only [h2, if_true]
/-- the amounts' values and factors are valid -/
def VF (l : List (R × R)) : Prop := ∀ x ∈ l, RO x.1 ∧ Fac x.2
theorem sumC_val {g : R} (hg : Fac g) : ∀ (l : List (R × R)) (s : R) (p q : Int), RO s → VF l → sumC g s l = (p, q, 0) → RO (p, q) ∧ val (p, q) = val s + (l.map fun x => val x.1 * val x.2 / val g).sum
  | [], s, p, q, hs, _, h => by
    simp only [sumC, Prod.mk.injEq, and_true] at h
    obtain ⟨rfl, rfl⟩ := h
    exact ⟨hs, by simp [Rat.add_zero]⟩
  | x :: l, s, p, q, hs, hl, h => by
    obtain ⟨v, t, h1, h2, h3⟩ := sumC_cons h
    obtain ⟨k1, k2⟩ := hl x (by simp)
    obtain ⟨v1, v2⟩ := conv_val k1 k2 hg h1
    obtain ⟨t1, t2⟩ := add_val hs v1 h2
    obtain ⟨r1, r2⟩ := sumC_val hg l t p q t1 (fun y hy => hl y (by simp [hy])) h3
    refine ⟨r1, ?_⟩
    rw [r2, show val t = _ from t2, show val v = _ from v2, List.map_cons, List.sum_cons, Rat.add_assoc]
theorem sumC_append {g : R} : ∀ (l m : List (R × R)) (s : R) (p q : Int), sumC g s (l ++ m) = (p, q, 0) → ∃ t : R, sumC g s l = (t.1, t.2, 0) ∧ sumC g t m = (p, q, 0)
  | [], m, s, p, q, h => ⟨s, rfl, h⟩
  | x :: l, m, s, p, q, h => by
    obtain ⟨v, t, h1, h2, h3⟩ := sumC_cons h
    obtain ⟨u, k1, k2⟩ := sumC_append l m t p q h3
    exact ⟨u, by rw [sumC_cons_of l h1 h2, k1], k2⟩
theorem nil_ok : RO ((0, 1) : R) := by decide
theorem nil_val : val ((0, 1) : R) = 0 := by unfold val; rw [Rat.zero_divInt]
theorem sum_append (l m : List Rat) : (l ++ m).sum = l.sum + m.sum := by
  induction l with
  | nil => simp [Rat.zero_add]
  | cons x l ih => simp only [List.cons_append, List.sum_cons, ih, Rat.add_assoc]
theorem sum_reverse (l : List Rat) : l.reverse.sum = l.sum := by
  induction l with
  | nil => rfl
  | cons x l ih => rw [List.reverse_cons, sum_append, ih]; simp [Rat.add_comm, Rat.add_zero]
theorem sums_reversed {g c d : R} (hg : Fac g) {l : List (R × R)} (hl : VF l) (hc : sumC g (0, 1) l = (c.1, c.2, 0)) (hd : sumC g (0, 1) l.reverse = (d.1, d.2, 0)) : c = d := by
  obtain ⟨c1, c2⟩ := sumC_val hg l _ _ _ nil_ok hl hc
  obtain ⟨d1, d2⟩ := sumC_val hg l.reverse _ _ _ nil_ok (fun x hx => hl x (by simpa using hx)) hd
  refine val_inj c1 d1 (c2.trans (Eq.trans ?_ d2.symm))
  rw [List.map_reverse, sum_reverse]
theorem sums_split {g a b c : R} (hg : Fac g) {l m : List (R × R)} (hl : VF l) (hm : VF m) (ha : sumC g (0, 1) l = (a.1, a.2, 0)) (hb : sumC g (0, 1) m = (b.1, b.2, 0))
    (hc : sumC g (0, 1) (l ++ m) = (c.1, c.2, 0)) : sumC g (0, 1) [(a, g), (b, g)] = (c.1, c.2, 0) := by
  obtain ⟨a1, a2⟩ := sumC_val hg l _ _ _ nil_ok hl ha
  obtain ⟨b1, b2⟩ := sumC_val hg m _ _ _ nil_ok hm hb
  obtain ⟨c1, c2⟩ := sumC_val hg (l ++ m) _ _ _ nil_ok (fun x hx => (List.mem_append.1 hx).elim (hl x) (hm x)) hc
  rw [nil_val, Rat.zero_add] at a2 b2 c2
  rw [sumC_cons_of (v := a) (t := a) _ (conv_self a1 hg) (add_of_val nil_ok a1 a1 (by rw [nil_val, Rat.zero_add])),
    sumC_cons_of (v := b) (t := c) _ (conv_self b1 hg) (add_of_val a1 b1 c1 ?_)]
  · rfl
  · rw [show val c = _ from c2, show val a = _ from a2, show val b = _ from b2, List.map_append, sum_append]
/-- one list's ratio against the other's -/
theorem cmp_val {a b : R} (ha : RO a) (hb : RO b) : 0 ≤ Rt.cmpS a.1 a.2 b.1 b.2 ↔ val b ≤ val a := by
  have h1 := Rt.ok_pos ha
  have h2 := Rt.ok_pos hb
  have hle : val b ≤ val a ↔ b.1 * a.2 ≤ a.1 * b.2 := by
    unfold val
    rw [Rat.le_iff_sub_nonneg, Rat.divInt_sub_divInt _ _ (Rt.ok_ne ha) (Rt.ok_ne hb), Rat.divInt_nonneg_iff_of_pos_right (Int.mul_pos h1 h2)]
    omega
  rw [hle]
  unfold Rt.cmpS
  rw [if_pos ⟨ha, hb⟩]
  split
  · omega
  · split <;> omega
/-- a basket: for each unit a ratio; each amount is the index of its base unit, its value and its factor -/
def bask : List R → List (Nat × R × R) → Option (List R)
  | out, [] => some out
  | out, x :: l =>
    if (conv x.2.1 x.2.2 (1, 1)).2.2 = 0 then
      (if (Rt.addS (out.getD x.1 (0, 1)).1 (out.getD x.1 (0, 1)).2 (conv x.2.1 x.2.2 (1, 1)).1 (conv x.2.1 x.2.2 (1, 1)).2.1).2.2 = 0 then
        bask (out.set x.1 ((Rt.addS (out.getD x.1 (0, 1)).1 (out.getD x.1 (0, 1)).2 (conv x.2.1 x.2.2 (1, 1)).1 (conv x.2.1 x.2.2 (1, 1)).2.1).1, (Rt.addS (out.getD x.1 (0, 1)).1 (out.getD x.1 (0, 1)).2 (conv x.2.1 x.2.2 (1, 1)).1 (conv x.2.1 x.2.2 (1, 1)).2.1).2.1)) l
      else none)
    else none
theorem getD_get {l : List R} {i : Nat} (h : i < l.length) : l.getD i (0, 1) = l[i] := by simp [List.getD_eq_getElem?_getD, h]
theorem bask_cons {out o : List R} {x : Nat × R × R} {l : List (Nat × R × R)} (h : bask out (x :: l) = some o) :
    ∃ v t : R, conv x.2.1 x.2.2 (1, 1) = (v.1, v.2, 0) ∧ Rt.addS (out.getD x.1 (0, 1)).1 (out.getD x.1 (0, 1)).2 v.1 v.2 = (t.1, t.2, 0) ∧ bask (out.set x.1 t) l = some o := by
  rw [bask] at h
  split at h
  · next h1 =>
    split at h
    · next h2 => exact ⟨((conv x.2.1 x.2.2 (1, 1)).1, (conv x.2.1 x.2.2 (1, 1)).2.1), _, Prod.ext rfl (Prod.ext rfl h1), Prod.ext rfl (Prod.ext rfl h2), h⟩
    · simp at h
  · simp at h
theorem bask_cons_of {out : List R} {x : Nat × R × R} {v t : R} (l : List (Nat × R × R)) (h1 : conv x.2.1 x.2.2 (1, 1) = (v.1, v.2, 0)) (h2 : Rt.addS (out.getD x.1 (0, 1)).1 (out.getD x.1 (0, 1)).2 v.1 v.2 = (t.1, t.2, 0)) :
    bask out (x :: l) = bask (out.set x.1 t) l := by
  rw [bask, h1, if_pos rfl]
  simp only [h2, if_true]
theorem fac_one : Fac (1, 1) := by unfold Fac RO; decide
theorem val_one : val (1, 1) = 1 := by unfold val; rw [Rat.divInt_self' (by decide)]
/-- the values, in a base unit, of the amounts that have it -/
def part (i : Nat) (l : List (Nat × R × R)) : List Rat := (l.filter fun x => x.1 == i).map fun x => val x.2.1 * val x.2.2
def VB (n : Nat) (l : List (Nat × R × R)) : Prop := ∀ x ∈ l, x.1 < n ∧ RO x.2.1 ∧ Fac x.2.2
theorem bask_val : ∀ (l : List (Nat × R × R)) (out o : List R), (∀ r ∈ out, RO r) → VB out.length l → bask out l = some o →
    o.length = out.length ∧ (∀ r ∈ o, RO r) ∧ ∀ i, i < out.length → val (o.getD i (0, 1)) = val (out.getD i (0, 1)) + (part i l).sum
  | [], out, o, ho, _, h => by
    simp only [bask, Option.some.injEq] at h
    subst h
    exact ⟨rfl, ho, fun i _ => by simp [part, Rat.add_zero]⟩
  | x :: l, out, o, ho, hl, h => by
    obtain ⟨v, t, h1, h2, h3⟩ := bask_cons h
    obtain ⟨k0, k1, k2⟩ := hl x (by simp)
    obtain ⟨v1, v2⟩ := conv_val k1 k2 fac_one h1
    have hx : RO (out.getD x.1 (0, 1)) := by
      rw [getD_get k0]
      exact ho _ (List.getElem_mem _)
    obtain ⟨t1, t2⟩ := add_val hx v1 h2
    obtain ⟨r1, r2, r3⟩ := bask_val l (out.set x.1 t) o (fun r hr => (List.mem_or_eq_of_mem_set hr).elim (ho r) (fun e => e ▸ t1)) (by rw [List.length_set]; exact fun y hy => hl y (by simp [hy])) h3
    rw [List.length_set] at r1 r3
    refine ⟨r1, r2, fun i hi => ?_⟩
    rw [r3 i hi]
    by_cases hxi : x.1 = i
    · subst hxi
      have e1 : (out.set x.1 t).getD x.1 (0, 1) = t := by simp [k0]
      have e2 : part x.1 (x :: l) = val x.2.1 * val x.2.2 :: part x.1 l := by simp [part]
      rw [e1, e2, List.sum_cons, show val t = _ from t2, show val v = _ from v2, val_one, Rat.add_assoc]
      congr 2
      have q := Rat.mul_div_cancel (a := val x.2.1 * val x.2.2) (b := 1) (by decide)
      rw [Rat.mul_one] at q
      exact q
    · have e1 : (out.set x.1 t).getD i (0, 1) = out.getD i (0, 1) := by simp [List.getD_eq_getElem?_getD, List.getElem?_set_ne hxi]
      have e2 : part i (x :: l) = part i l := by simp [part, hxi]
      rw [e1, e2]
theorem part_append (i : Nat) (l m : List (Nat × R × R)) : (part i (l ++ m)).sum = (part i l).sum + (part i m).sum := by
  unfold part
  rw [List.filter_append, List.map_append, sum_append]
/-- the empty basket -/
def zeros (n : Nat) : List R := List.replicate n (0, 1)
theorem zeros_ok (n : Nat) : ∀ r ∈ zeros n, RO r := fun r hr => by rw [List.eq_of_mem_replicate hr]; exact nil_ok
theorem zeros_get (n i : Nat) : (zeros n).getD i (0, 1) = (0, 1) := by
  unfold zeros
  rw [List.getD_eq_getElem?_getD, List.getElem?_replicate]
  split <;> rfl
theorem bask_zero {n : Nat} {l : List (Nat × R × R)} {o : List R} (hl : VB n l) (h : bask (zeros n) l = some o) :
    o.length = n ∧ (∀ i, i < n → RO (o.getD i (0, 1)) ∧ val (o.getD i (0, 1)) = (part i l).sum) := by
  have hn : (zeros n).length = n := List.length_replicate
  obtain ⟨h1, h2, h3⟩ := bask_val l (zeros n) o (zeros_ok n) (by rw [hn]; exact hl) h
  rw [hn] at h1 h3
  refine ⟨h1, fun i hi => ⟨?_, ?_⟩⟩
  · rw [getD_get (by omega)]
    exact h2 _ (List.getElem_mem _)
  · rw [h3 i hi, zeros_get, nil_val, Rat.zero_add]
theorem bask_sum {n : Nat} {l m : List (Nat × R × R)} {x y z : List R} (hl : VB n l) (hm : VB n m) (hx : bask (zeros n) l = some x) (hy : bask (zeros n) m = some y) (hz : bask (zeros n) (l ++ m) = some z) (i : Nat) (hi : i < n) :
    Rt.addS (x.getD i (0, 1)).1 (x.getD i (0, 1)).2 (y.getD i (0, 1)).1 (y.getD i (0, 1)).2 = ((z.getD i (0, 1)).1, (z.getD i (0, 1)).2, 0) := by
  obtain ⟨x1, x2⟩ := (bask_zero hl hx).2 i hi
  obtain ⟨y1, y2⟩ := (bask_zero hm hy).2 i hi
  obtain ⟨z1, z2⟩ := (bask_zero (fun u hu => (List.mem_append.1 hu).elim (hl u) (hm u)) hz).2 i hi
  exact add_of_val x1 y1 z1 (by rw [z2, x2, y2, part_append])
theorem bask_same {n : Nat} {l m : List (Nat × R × R)} {x y : List R} (hl : VB n l) (hm : VB n m) (hx : bask (zeros n) l = some x) (hy : bask (zeros n) m = some y) (h : ∀ i, i < n → (part i l).sum = (part i m).sum) : x = y := by
  obtain ⟨hx0, hx1⟩ := bask_zero hl hx
  obtain ⟨hy0, hy1⟩ := bask_zero hm hy
  refine List.ext_getElem (by omega) fun i h1 h2 => ?_
  have a := hx1 i (by omega)
  have b := hy1 i (by omega)
  rw [getD_get h1] at a
  rw [getD_get h2] at b
  exact val_inj a.1 b.1 (a.2.trans ((h i (by omega)).trans b.2.symm))
theorem bask_none {n : Nat} {l : List (Nat × R × R)} {x : List R} (hl : VB n l) (hx : bask (zeros n) l = some x) (i : Nat) (hi : i < n) (h : ∀ u ∈ l, u.1 ≠ i) : x.getD i (0, 1) = (0, 1) := by
  obtain ⟨a, b⟩ := (bask_zero hl hx).2 i hi
  refine val_inj a nil_ok (b.trans ?_)
  rw [nil_val]
  unfold part
  rw [List.filter_eq_nil_iff.2 fun u hu => by simpa using h u hu]
  rfl
end Go.Proofs.Ytpdknjbhnelidaa.Qn

/- What Convert, Sum and Basket answer, each as one function of a table and the arguments, and what the laws ask of these. No program in it. -/
import Derived.Test.YtpdknjbhnelidaaQtMath2
namespace Go.Proofs.Ytpdknjbhnelidaa.Qn
/-- the unit with an index -/
def un (us : List Un) (i : Int) : Un := us.getD i.toNat ⟨[], 0, 0, (0, 0)⟩
def In (us : List Un) (i : Int) : Prop := 0 ≤ i ∧ i < us.length
/-- an amount that is valid for a table: its unit, its value -/
abbrev Am := Int × R
def May (us : List Un) (a : Am) : Prop := In us a.1 ∧ RO a.2
theorem un_get {us : List Un} {i : Int} (h : In us i) : us[i.toNat]? = some (un us i) := by
  have := h.1
  have := h.2
  have hi : i.toNat < us.length := by omega
  unfold un
  rw [List.getD_eq_getElem?_getD, List.getElem?_eq_getElem hi]
  rfl
theorem fac_un {us : List Un} {i : Int} (hv : AllGood us) (h : In us i) : Fac (un us i).fac := (hv _ _ (un_get h)).2.2.2.2.1
theorem base_in {us : List Un} {i : Int} (hv : AllGood us) (h : In us i) : In us (un us i).base := ⟨(hv _ _ (un_get h)).2.2.2.2.2.1, (hv _ _ (un_get h)).2.2.2.2.2.2.1⟩
theorem base_base {us : List Un} {i : Int} (hv : AllGood us) (h : In us i) : (un us (un us i).base).base = (un us i).base := by
  obtain ⟨b, h1, h2, _⟩ := (hv _ _ (un_get h)).2.2.2.2.2.2.2.1
  rw [un_get (base_in hv h)] at h1
  obtain rfl := Option.some.inj h1
  exact h2
theorem base_fac {us : List Un} {i : Int} (hv : AllGood us) (h : In us i) (hb : (un us i).base = i) : (un us i).fac = (1, 1) :=
  (hv _ _ (un_get h)).2.2.2.2.2.2.2.2 (by have := h.1; omega)
/-- an error's answer, and another one -/
def amt (to : Int) (x : Int × Int × Int) : Int × R × Int := if x.2.2 = 0 then (to, (x.1, x.2.1), 0) else (0, (0, 0), x.2.2)
open Classical in
noncomputable def convertS (us : List Un) (a : Am) (to : Int) : Int × R × Int :=
  if AllGood us ∧ May us a ∧ In us to then
    (if (un us a.1).base = (un us to).base then amt to (conv a.2 (un us a.1).fac (un us to).fac) else (0, (0, 0), 11))
  else (0, (0, 0), 1)
theorem convert_ok {us : List Un} {a : Am} {to b : Int} {r : R} (h : convertS us a to = (b, r, 0)) :
    AllGood us ∧ May us a ∧ In us to ∧ (un us a.1).base = (un us to).base ∧ b = to ∧ conv a.2 (un us a.1).fac (un us to).fac = (r.1, r.2, 0) := by
  unfold convertS at h
  split at h
  · next k =>
    split at h
    · next k2 =>
      unfold amt at h
      split at h
      · next k3 =>
        simp only [Prod.mk.injEq, and_true] at h
        obtain ⟨rfl, rfl⟩ := h
        exact ⟨k.1, k.2.1, k.2.2, k2, rfl, Prod.ext rfl (Prod.ext rfl k3)⟩
      · next k3 => simp only [Prod.mk.injEq] at h; exact absurd h.2.2 k3
    · simp at h
  · simp at h
theorem convert_of {us : List Un} {a : Am} {to : Int} {r : R} (h1 : AllGood us) (h2 : May us a) (h3 : In us to) (h4 : (un us a.1).base = (un us to).base) (h5 : conv a.2 (un us a.1).fac (un us to).fac = (r.1, r.2, 0)) :
    convertS us a to = (to, r, 0) := by
  unfold convertS amt
  rw [if_pos ⟨h1, h2, h3⟩, if_pos h4, h5, if_pos rfl]
theorem convert_zero {us : List Un} {a : Am} {to b e : Int} {r : R} (h : convertS us a to = (b, r, e)) (he : e ≠ 0) : b = 0 ∧ r = (0, 0) := by
  unfold convertS amt at h
  split at h
  · split at h
    · split at h
      · simp only [Prod.mk.injEq] at h; exact absurd h.2.2.symm he
      · simp only [Prod.mk.injEq] at h; exact ⟨h.1.symm, h.2.1.symm⟩
    · simp only [Prod.mk.injEq] at h; exact ⟨h.1.symm, h.2.1.symm⟩
  · simp only [Prod.mk.injEq] at h; exact ⟨h.1.symm, h.2.1.symm⟩
theorem convert_val {us : List Un} {a : Am} {to b : Int} {r : R} (h : convertS us a to = (b, r, 0)) : RO r := by
  obtain ⟨h1, h2, h3, h4, h5, h6⟩ := convert_ok h
  exact (conv_val h2.2 (fac_un h1 h2.1) (fac_un h1 h3) h6).1
/-- P4.3 -/
theorem convert_back {us : List Un} {a : Am} {to b : Int} {r : R} (h : convertS us a to = (b, r, 0)) : b = to ∧ RO r ∧ convertS us (b, r) a.1 = (a.1, a.2, 0) := by
  obtain ⟨h1, h2, h3, h4, rfl, h6⟩ := convert_ok h
  have f1 := fac_un h1 h2.1
  have f2 := fac_un h1 h3
  have hr := (conv_val h2.2 f1 f2 h6).1
  exact ⟨rfl, hr, convert_of h1 ⟨h3, hr⟩ h2.1 h4.symm (conv_back h2.2 f1 f2 h6)⟩
/-- P4.4 -/
theorem convert_way {us : List Un} {a : Am} {to u b c : Int} {r s : R} (h : convertS us a u = (b, r, 0)) (h' : convertS us (b, r) to = (c, s, 0)) : convertS us a to = (c, s, 0) := by
  obtain ⟨h1, h2, h3, h4, rfl, h6⟩ := convert_ok h
  obtain ⟨_, k2, k3, k4, rfl, k6⟩ := convert_ok h'
  exact convert_of h1 h2 k3 (h4.trans k4) (conv_way h2.2 (fac_un h1 h2.1) (fac_un h1 h3) (fac_un h1 k3) h6 k6)
/-- P4.5 -/
theorem convert_linear {us : List Un} {a b s x y z : R} {u to i j k : Int} (hs : Rt.addS a.1 a.2 b.1 b.2 = (s.1, s.2, 0)) (hx : convertS us (u, a) to = (i, x, 0)) (hy : convertS us (u, b) to = (j, y, 0)) (hz : convertS us (u, s) to = (k, z, 0)) :
    Rt.addS x.1 x.2 y.1 y.2 = (z.1, z.2, 0) := by
  obtain ⟨h1, h2, h3, h4, rfl, h6⟩ := convert_ok hx
  obtain ⟨_, k2, _, _, rfl, k6⟩ := convert_ok hy
  obtain ⟨_, _, _, _, rfl, l6⟩ := convert_ok hz
  exact conv_linear h2.2 k2.2 (fac_un h1 h2.1) (fac_un h1 h3) hs h6 k6 l6
/-- amounts as values and factors -/
def vf (us : List Un) (l : List Am) : List (R × R) := l.map fun a => (a.2, (un us a.1).fac)
theorem vf_ok {us : List Un} {l : List Am} (hv : AllGood us) (h : ∀ a ∈ l, May us a) : VF (vf us l) := by
  intro x hx
  obtain ⟨a, ha, rfl⟩ := List.mem_map.1 hx
  exact ⟨(h a ha).2, fac_un hv (h a ha).1⟩
open Classical in
noncomputable def sumS (us : List Un) (l : List Am) (to : Int) : Int × R × Int :=
  if AllGood us ∧ (∀ a ∈ l, May us a) ∧ In us to then
    (if ∀ a ∈ l, (un us a.1).base = (un us to).base then amt to (sumC (un us to).fac (0, 1) (vf us l)) else (0, (0, 0), 11))
  else (0, (0, 0), 1)
theorem sum_ok {us : List Un} {l : List Am} {to b : Int} {r : R} (h : sumS us l to = (b, r, 0)) :
    AllGood us ∧ (∀ a ∈ l, May us a) ∧ In us to ∧ (∀ a ∈ l, (un us a.1).base = (un us to).base) ∧ b = to ∧ sumC (un us to).fac (0, 1) (vf us l) = (r.1, r.2, 0) := by
  unfold sumS at h
  split at h
  · next k =>
    split at h
    · next k2 =>
      unfold amt at h
      split at h
      · next k3 =>
        simp only [Prod.mk.injEq, and_true] at h
        obtain ⟨rfl, rfl⟩ := h
        exact ⟨k.1, k.2.1, k.2.2, k2, rfl, Prod.ext rfl (Prod.ext rfl k3)⟩
      · next k3 => simp only [Prod.mk.injEq] at h; exact absurd h.2.2 k3
    · simp at h
  · simp at h
theorem sum_of {us : List Un} {l : List Am} {to : Int} {r : R} (h1 : AllGood us) (h2 : ∀ a ∈ l, May us a) (h3 : In us to) (h4 : ∀ a ∈ l, (un us a.1).base = (un us to).base) (h5 : sumC (un us to).fac (0, 1) (vf us l) = (r.1, r.2, 0)) :
    sumS us l to = (to, r, 0) := by
  unfold sumS amt
  rw [if_pos ⟨h1, h2, h3⟩, if_pos h4, h5, if_pos rfl]
/-- P4.6: the other order -/
theorem sum_reversed {us : List Un} {l : List Am} {to b c : Int} {r s : R} (h : sumS us l to = (b, r, 0)) (k : sumS us l.reverse to = (c, s, 0)) : b = c ∧ r = s := by
  obtain ⟨h1, h2, h3, h4, rfl, h6⟩ := sum_ok h
  obtain ⟨_, _, _, _, rfl, k6⟩ := sum_ok k
  refine ⟨rfl, sums_reversed (fac_un h1 h3) (vf_ok h1 h2) h6 ?_⟩
  rw [show (vf us l).reverse = vf us l.reverse by unfold vf; rw [List.map_reverse]]
  exact k6
/-- P4.6: of two lists -/
theorem sum_first {us : List Un} {l m : List Am} {to b : Int} {r : R} (h : sumS us (l ++ m) to = (b, r, 0)) : ∃ s, sumS us l to = (to, s, 0) := by
  obtain ⟨h1, h2, h3, h4, rfl, h6⟩ := sum_ok h
  rw [show vf us (l ++ m) = vf us l ++ vf us m by unfold vf; rw [List.map_append]] at h6
  obtain ⟨t, ht, _⟩ := sumC_append _ _ _ _ _ h6
  exact ⟨t, sum_of h1 (fun a ha => h2 a (by simp [ha])) h3 (fun a ha => h4 a (by simp [ha])) ht⟩
theorem sum_split {us : List Un} {l m : List Am} {to b c d : Int} {r s t : R} (h : sumS us l to = (b, r, 0)) (k : sumS us m to = (c, s, 0)) (j : sumS us (l ++ m) to = (d, t, 0)) : sumS us [(b, r), (c, s)] to = (d, t, 0) := by
  obtain ⟨h1, h2, h3, h4, rfl, h6⟩ := sum_ok h
  obtain ⟨_, k2, _, k4, rfl, k6⟩ := sum_ok k
  obtain ⟨_, _, _, _, rfl, j6⟩ := sum_ok j
  rw [show vf us (l ++ m) = vf us l ++ vf us m by unfold vf; rw [List.map_append]] at j6
  have f := fac_un h1 h3
  have hr := (sumC_val f _ _ _ _ nil_ok (vf_ok h1 h2) h6).1
  have hs := (sumC_val f _ _ _ _ nil_ok (vf_ok h1 k2) k6).1
  refine sum_of h1 (fun a ha => ?_) h3 (fun a ha => ?_) (sums_split f (vf_ok h1 h2) (vf_ok h1 k2) h6 k6 j6)
  · rcases (by simpa using ha : a = _ ∨ a = _) with rfl | rfl
    · exact ⟨h3, hr⟩
    · exact ⟨h3, hs⟩
  · rcases (by simpa using ha : a = _ ∨ a = _) with rfl | rfl <;> rfl
/-- amounts as base units, values and factors -/
def bvf (us : List Un) (l : List Am) : List (Nat × R × R) := l.map fun a => ((un us a.1).base.toNat, a.2, (un us a.1).fac)
theorem bvf_ok {us : List Un} {l : List Am} (hv : AllGood us) (h : ∀ a ∈ l, May us a) : VB us.length (bvf us l) := by
  intro x hx
  obtain ⟨a, ha, rfl⟩ := List.mem_map.1 hx
  have hb := base_in hv (h a ha).1
  exact ⟨by have := hb.1; have := hb.2; simp only; omega, (h a ha).2, fac_un hv (h a ha).1⟩
open Classical in
noncomputable def basketS (us : List Un) (l : List Am) : Option (List R) × Int :=
  if AllGood us ∧ (∀ a ∈ l, May us a) then (match bask (zeros us.length) (bvf us l) with | some o => (some o, 0) | none => (none, 2)) else (none, 1)
theorem basket_ok {us : List Un} {l : List Am} {x : Option (List R)} (h : basketS us l = (x, 0)) : ∃ o, x = some o ∧ AllGood us ∧ (∀ a ∈ l, May us a) ∧ bask (zeros us.length) (bvf us l) = some o := by
  unfold basketS at h
  split at h
  · next k =>
    split at h
    · next o ho => exact ⟨o, by simpa using (Prod.mk.inj h).1.symm, k.1, k.2, ho⟩
    · simp at h
  · simp at h
/-- P4.7: of two lists -/
theorem basket_sum {us : List Un} {l m : List Am} {x y z : List R} (hx : basketS us l = (some x, 0)) (hy : basketS us m = (some y, 0)) (hz : basketS us (l ++ m) = (some z, 0)) :
    x.length = us.length ∧ y.length = us.length ∧ z.length = us.length ∧ ∀ i, i < us.length → Rt.addS (x.getD i (0, 1)).1 (x.getD i (0, 1)).2 (y.getD i (0, 1)).1 (y.getD i (0, 1)).2 = ((z.getD i (0, 1)).1, (z.getD i (0, 1)).2, 0) ∧
      ((us.getD i ⟨[], 0, 0, (0, 0)⟩).base ≠ i → z.getD i (0, 1) = (0, 1)) := by
  obtain ⟨x', ex, h1, h2, h3⟩ := basket_ok hx
  cases ex
  obtain ⟨y', ey, _, k2, k3⟩ := basket_ok hy
  cases ey
  obtain ⟨z', ez, _, l2, l3⟩ := basket_ok hz
  cases ez
  have e : bvf us (l ++ m) = bvf us l ++ bvf us m := by unfold bvf; rw [List.map_append]
  refine ⟨(bask_zero (bvf_ok h1 h2) h3).1, (bask_zero (bvf_ok h1 k2) k3).1, (bask_zero (bvf_ok h1 l2) l3).1, fun i hi => ⟨bask_sum (bvf_ok h1 h2) (bvf_ok h1 k2) h3 k3 (e ▸ l3) i hi, fun hb => ?_⟩⟩
  refine bask_none (bvf_ok h1 l2) l3 i hi fun u hu => ?_
  obtain ⟨a, ha, rfl⟩ := List.mem_map.1 hu
  intro hia
  have q := base_base h1 (l2 a ha).1
  have b0 := (base_in h1 (l2 a ha).1).1
  simp only at hia
  rw [show (un us a.1).base = ((i : Nat) : Int) by omega] at q
  exact hb (by simpa [un] using q)
/-- an amount that is converted, if it can be -/
noncomputable def moveS (us : List Un) (to : Int) (a : Am) : Am := if (convertS us a to).2.2 = 0 then ((convertS us a to).1, (convertS us a to).2.1) else a
theorem move_part {us : List Un} {to : Int} {a : Am} :
    (un us (moveS us to a).1).base = (un us a.1).base ∧ val (moveS us to a).2 * val (un us (moveS us to a).1).fac = val a.2 * val (un us a.1).fac := by
  unfold moveS
  split
  · next k =>
    obtain ⟨h1, h2, h3, h4, h5, h6⟩ := convert_ok (b := (convertS us a to).1) (r := (convertS us a to).2.1) (us := us) (a := a) (to := to) (by rw [← k])
    have f := fac_un h1 h3
    have q := (conv_val h2.2 (fac_un h1 h2.1) f h6).2
    refine ⟨by simp only [h5, h4], ?_⟩
    simp only [h5]
    rw [show val (convertS us a to).2.1 = _ from q, Rat.div_mul_cancel f.ne]
  · exact ⟨rfl, rfl⟩
theorem part_moved {us : List Un} {to : Int} (i : Nat) : ∀ (l : List Am), part i (bvf us (l.map (moveS us to))) = part i (bvf us l)
  | [] => rfl
  | a :: l => by
    have ih := part_moved (us := us) (to := to) i l
    obtain ⟨q1, q2⟩ := move_part (us := us) (to := to) (a := a)
    unfold part bvf at ih ⊢
    simp only [List.map_cons, List.filter_cons, q1]
    split
    · simp only [List.map_cons, q2]
      rw [ih]
    · exact ih
/-- P4.7: converted first -/
theorem basket_moved {us : List Un} {l : List Am} {to : Int} {z w : List R} (hz : basketS us l = (some z, 0)) (hw : basketS us (l.map (moveS us to)) = (some w, 0)) : z = w := by
  obtain ⟨z', ez, h1, h2, h3⟩ := basket_ok hz
  cases ez
  obtain ⟨w', ew, _, k2, k3⟩ := basket_ok hw
  cases ew
  exact bask_same (bvf_ok h1 h2) (bvf_ok h1 k2) h3 k3 fun i _ => by rw [part_moved i l]
end Go.Proofs.Ytpdknjbhnelidaa.Qn

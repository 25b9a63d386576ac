/- What Sum and Basket call, in the words of the table; the arithmetic of what add answers. -/
import Derived.Test.YtpdknjbhnelidaaQtK
namespace Go.Proofs.Ytpdknjbhnelidaa
open Go.RowKit

theorem good_len {us : List Qn.Un} (h : Qn.AllGood us) : us.length ≤ 20 := by
  rcases Nat.lt_or_ge 20 us.length with k | k
  · have := (h 20 us[20] (List.getElem?_eq_getElem k)).1
    omega
  · exact k
theorem in_nat {us : List Qn.Un} {i : Int} (h : Qn.In us i) : ∃ k : Nat, i = (k : Int) ∧ us[k]? = some (Qn.un us i) := ⟨i.toNat, by have := h.1; omega, Qn.un_get h⟩
/-- an amount in a unit with another base -/
def othB (us : List Qn.Un) (tt : Int) (a : Qn.Am) : Bool := (Qn.un us a.1).base != (Qn.un us tt).base
theorem other_am (p : Option Addr) (cap ub vb : Nat) (a : Qn.Am) (tt : Int) (us : List Qn.Un) (w : World) (ha : Qn.In us a.1) (hto : Qn.In us tt) (ht : Tab w p us) (hlt : ub < w.heap.size) (hc : w.cell? ⟨ub, 0, none⟩ = some (.slice p us.length cap)) (hlv : vb < w.heap.size) (hcv : w.cell? ⟨vb, 0, none⟩ = some (.int .i64 tt)) :
    Calls Try.prog 30 #[AV a, .pointer (some ⟨ub, 0, none⟩), .pointer (some ⟨vb, 0, none⟩)] w fun e w' => e = .returned (.bool (othB us tt a)) ∧ Below w.heap.size w w' := by
  obtain ⟨i, hi, hu⟩ := in_nat ha
  obtain ⟨j, hj, hv⟩ := in_nat hto
  obtain ⟨x, r⟩ := a
  simp only at hi hu
  subst hi hj
  exact other_calls p cap ub vb i j r us _ _ w hu hv ht hlt hc hlv hcv
theorem base_am (p : Option Addr) (cap ub : Nat) (a : Qn.Am) (us : List Qn.Un) (w : World) (hg : Qn.AllGood us) (ha : Qn.In us a.1) (ht : Tab w p us) (hlt : ub < w.heap.size) (hc : w.cell? ⟨ub, 0, none⟩ = some (.slice p us.length cap)) :
    Calls Try.prog 35 #[AV a, .pointer (some ⟨ub, 0, none⟩)] w fun e w' => e = .returned (.int .i64 ((Qn.un us a.1).base.toNat : Nat)) ∧ Below w.heap.size w w' := by
  have hb := (Qn.base_in hg ha).1
  obtain ⟨i, hi, hu⟩ := in_nat ha
  obtain ⟨x, r⟩ := a
  simp only at hi hu
  subst hi
  rw [Int.toNat_of_nonneg hb]
  exact base_calls p cap ub i r us _ w hu ht hlt hc
theorem conv_am (p : Option Addr) (cap : Nat) (a : Qn.Am) (tt : Int) (us : List Qn.Un) (w : World) (hg : Qn.AllGood us) (ha : Qn.May us a) (hto : Qn.In us tt) (ht : Tab w p us) :
    Calls Try.prog 32 #[.slice p us.length cap, AV a, .int .i64 tt] w fun e w' => e = .returned (RV (Qn.conv a.2 (Qn.un us a.1).fac (Qn.un us tt).fac)) ∧ Below w.heap.size w w' := by
  have f1 := Qn.fac_un hg ha.1
  have f2 := Qn.fac_un hg hto
  obtain ⟨i, hi, hu⟩ := in_nat ha.1
  obtain ⟨j, hj, hv⟩ := in_nat hto
  have hr := ha.2
  obtain ⟨x, r⟩ := a
  simp only at hi hu hr f1
  subst hi hj
  exact convert_walk p cap us i j _ _ r w hu hv ht hr f1 f2
theorem conv_two {v f g : Qn.R} (hv : Qn.RO v) (hf : Qn.Fac f) (hg : Qn.Fac g) : (∃ x y, Qn.conv v f g = (x, y, 0) ∧ Qn.RO (x, y)) ∨ Qn.conv v f g = (0, 0, 2) := by
  rcases Qn.conv_err hv hf hg with ⟨p, q, h⟩ | h
  · exact .inl ⟨p, q, h, (Qn.conv_val hv hf hg h).1⟩
  · exact .inr h
/-- what add answers for Sum -/
theorem acc_sum (us : List Qn.Un) (g : Qn.R) (j : Nat) : ∀ (l : List Qn.Am) (o : List Qn.R) (s : Qn.R), o[j]? = some s →
    accS (fun a => Qn.conv a.2 (Qn.un us a.1).fac g) (fun _ => j) o l = if (Qn.sumC g s (Qn.vf us l)).2.2 = 0 then some (o.set j ((Qn.sumC g s (Qn.vf us l)).1, (Qn.sumC g s (Qn.vf us l)).2.1)) else none
  | [], o, s, h => by
    have hj := (List.getElem?_eq_some_iff.1 h).1
    have e : o.set j (s.1, s.2) = o := by
      apply List.ext_getElem?
      intro k
      by_cases hk : j = k
      · subst hk; rw [List.getElem?_set_self hj, h]
      · rw [List.getElem?_set_ne hk]
    simp only [accS, Qn.vf, List.map_nil, Qn.sumC, if_true, e]
  | a :: l, o, s, h => by
    have hj := (List.getElem?_eq_some_iff.1 h).1
    have hd : o.getD j (0, 1) = s := by rw [List.getD_eq_getElem?_getD, h]; rfl
    simp only [accS, Qn.vf, List.map_cons, Qn.sumC, hd]
    by_cases h1 : (Qn.conv a.2 (Qn.un us a.1).fac g).2.2 = 0
    · rw [if_pos h1, if_pos h1]
      by_cases h2 : (Rt.addS s.1 s.2 (Qn.conv a.2 (Qn.un us a.1).fac g).1 (Qn.conv a.2 (Qn.un us a.1).fac g).2.1).2.2 = 0
      · rw [if_pos h2, if_pos h2]
        have ih := acc_sum us g j l (o.set j ((Rt.addS s.1 s.2 (Qn.conv a.2 (Qn.un us a.1).fac g).1 (Qn.conv a.2 (Qn.un us a.1).fac g).2.1).1, (Rt.addS s.1 s.2 (Qn.conv a.2 (Qn.un us a.1).fac g).1 (Qn.conv a.2 (Qn.un us a.1).fac g).2.1).2.1)) _ (List.getElem?_set_self hj)
        rw [ih, List.set_set]
        rfl
      · rw [if_neg h2, if_neg h2]
        simp
    · rw [if_neg h1, if_neg h1]
      simp
/-- what add answers for Basket -/
theorem acc_bask (us : List Qn.Un) : ∀ (l : List Qn.Am) (o : List Qn.R), (∀ a ∈ l, (Qn.un us (Qn.un us a.1).base).fac = (1, 1)) →
    accS (fun a => Qn.conv a.2 (Qn.un us a.1).fac (Qn.un us (Qn.un us a.1).base).fac) (fun a => (Qn.un us a.1).base.toNat) o l = Qn.bask o (Qn.bvf us l)
  | [], o, _ => rfl
  | a :: l, o, h => by
    have h1 := h a (by simp)
    have ih := fun o' => acc_bask us l o' (fun b hb => h b (by simp [hb]))
    have e : Qn.bvf us (a :: l) = ((Qn.un us a.1).base.toNat, a.2, (Qn.un us a.1).fac) :: Qn.bvf us l := rfl
    rw [e, accS, Qn.bask]
    simp only [h1]
    by_cases h2 : (Qn.conv a.2 (Qn.un us a.1).fac (1, 1)).2.2 = 0
    · rw [if_pos h2, if_pos h2]
      by_cases h3 : (Rt.addS (o.getD (Qn.un us a.1).base.toNat (0, 1)).1 (o.getD (Qn.un us a.1).base.toNat (0, 1)).2 (Qn.conv a.2 (Qn.un us a.1).fac (1, 1)).1 (Qn.conv a.2 (Qn.un us a.1).fac (1, 1)).2.1).2.2 = 0
      · rw [if_pos h3, if_pos h3, ih]
      · rw [if_neg h3, if_neg h3]
    · rw [if_neg h2, if_neg h2]
/-- an amount and an error, as a result -/
def RA (t : Int × Qn.R × Int) : Value := .tuple #[.agg #[.int .i64 t.1, .int .i64 t.2.1.1, .int .i64 t.2.1.2], .int .i64 t.2.2]
end Go.Proofs.Ytpdknjbhnelidaa

/- The days that the rules give. -/
import Derived.Test.YtlbfnafniobnaaaDoorDlM
namespace Go.Proofs.YtlbfnafniobnaaaDoor
open Go.RowKit Go.Shelf

theorem foldl_min (l : List Int) : ∀ a : Int, (l.foldl min a = a ∨ l.foldl min a ∈ l) ∧ l.foldl min a ≤ a ∧ ∀ x ∈ l, l.foldl min a ≤ x := by
  induction l with
  | nil => intro a; exact ⟨.inl rfl, Int.le_refl _, fun x hx => by simp at hx⟩
  | cons y l ih =>
    intro a
    obtain ⟨h1, h2, h3⟩ := ih (min a y)
    rw [List.foldl_cons]
    refine ⟨?_, by omega, fun x hx => ?_⟩
    · rcases h1 with h1 | h1
      · rw [h1]
        rcases Int.le_total a y with h | h
        · exact .inl (Int.min_eq_left h)
        · exact .inr (by rw [Int.min_eq_right h]; simp)
      · exact .inr (by simp [h1])
    · rcases List.mem_cons.1 hx with rfl | hx
      · omega
      · exact h3 x hx
theorem foldl_max (l : List Int) : ∀ a : Int, (l.foldl max a = a ∨ l.foldl max a ∈ l) ∧ a ≤ l.foldl max a ∧ ∀ x ∈ l, x ≤ l.foldl max a := by
  induction l with
  | nil => intro a; exact ⟨.inl rfl, Int.le_refl _, fun x hx => by simp at hx⟩
  | cons y l ih =>
    intro a
    obtain ⟨h1, h2, h3⟩ := ih (max a y)
    rw [List.foldl_cons]
    refine ⟨?_, by omega, fun x hx => ?_⟩
    · rcases h1 with h1 | h1
      · rw [h1]
        rcases Int.le_total a y with h | h
        · exact .inr (by rw [Int.max_eq_right h]; simp)
        · exact .inl (Int.max_eq_left h)
      · exact .inr (by simp [h1])
    · rcases List.mem_cons.1 hx with rfl | hx
      · omega
      · exact h3 x hx
theorem min_spec {l : List Int} (h : l ≠ []) : Lib.minOf l ∈ l ∧ ∀ x ∈ l, Lib.minOf l ≤ x := by
  cases l with
  | nil => exact absurd rfl h
  | cons y l =>
    obtain ⟨h1, h2, h3⟩ := foldl_min (y :: l) y
    exact ⟨h1.elim (fun e => by unfold Lib.minOf; rw [List.headD_cons, e]; simp) id, h3⟩
theorem max_spec {l : List Int} (h : l ≠ []) : Lib.maxOf l ∈ l ∧ ∀ x ∈ l, x ≤ Lib.maxOf l := by
  cases l with
  | nil => exact absurd rfl h
  | cons y l =>
    obtain ⟨h1, h2, h3⟩ := foldl_max (y :: l) y
    exact ⟨h1.elim (fun e => by unfold Lib.maxOf; rw [List.headD_cons, e]; simp) id, h3⟩
theorem FA_spec {c : Cal} (hc : CalOK c) {a m : Int} (h0 : 0 ≤ a) (h1 : a ≤ 73048) (hm : 0 ≤ m) : (∃ r : Int, FA c a m = (r, 0) ∧ 0 ≤ r ∧ r ≤ 73048) ∨ FA c a m = (0, 2) := by
  unfold FA
  rw [if_pos ⟨hc, h0, h1, hm⟩]
  rcases Dt.add_spec (W := c.wk) hc.2.2 (day := a.toNat) (by omega) hm with ⟨r, h, hr, _⟩ | ⟨h, _⟩
  · exact .inl ⟨r, h, by omega, by omega⟩
  · exact .inr h
theorem FN_spec {c : Cal} (hc : CalOK c) {a : Int} (h0 : 0 ≤ a) (h1 : a ≤ 73048) : (∃ r : Int, FN c a = (r, 0) ∧ 0 ≤ r ∧ r ≤ 73048) ∨ FN c a = (0, 2) := by
  have e : FN c a = FA c a 0 := by
    unfold FN FA
    rw [if_pos ⟨hc, h0, h1⟩, if_pos ⟨hc, h0, h1, by omega⟩]
  rw [e]
  exact FA_spec hc h0 h1 (by omega)
theorem FM_spec {a k : Int} (h0 : 0 ≤ a) (h1 : a ≤ 73048) (hk : 0 ≤ k) : (∃ r : Int, FM a k = (r, 0) ∧ 0 ≤ r ∧ r ≤ 73048) ∨ FM a k = (0, 2) := by
  obtain ⟨y, m, d, hc⟩ := Dt.civ_exists h0 h1
  rw [months_eq hc]
  have hy := hc
  obtain ⟨k1, k2, k3, k4, _⟩ := hy
  by_cases h2 : 12 * (y - 1990) + m - 1 + k < 2400
  · obtain ⟨r, y', m', d', hr, he, _⟩ := Dt.mon_civ hc (k := k) (by omega) h2
    exact .inl ⟨r, he, Dt.civ_range hr⟩
  · unfold Dt.mon
    rw [if_pos (.inr (by omega))]
    exact .inr rfl
/-- what a rule gives: a day that is not less than 0, or the error 2 -/
theorem rule_spec {c : Cal} {l : List Wh} {t : Dl.T} {ks : List Int} (hc : CalOK c) (hok : okN t l.length = true) (hkn : isEv t = true → knownAt l t.ev = true) (hg : goodE l = true) (hks : ∀ d ∈ ks, 0 ≤ d ∧ d ≤ 73048) (hkl : ks.length = t.kids.length) :
    (∃ r : Int, ruleS c l t ks = (r, 0) ∧ 0 ≤ r) ∨ ruleS c l t ks = (0, 2) := by
  have hd0 : 1 ≤ ks.length → 0 ≤ ks.getD 0 0 ∧ ks.getD 0 0 ≤ 73048 := fun h => by
    refine hks _ ?_
    rw [List.getD_eq_getElem?_getD, List.getElem?_eq_getElem (by omega)]
    simp
  have hdy : isEv t = true → 0 ≤ t.ev → t.ev < l.length → 0 ≤ (whAt l t.ev).day ∧ (whAt l t.ev).day ≤ 73048 := fun hi h1 h2 => by
    obtain ⟨j, hj, he⟩ := ev_get h1 h2
    have := hkn hi
    rw [known_wh] at this
    exact good_day hg (List.mem_of_getElem? he) this
  rcases okN_cases hok with ⟨hk, h1, h2⟩ | ⟨hk, h1, h2⟩ | ⟨hk, h1, h2, h3, h4⟩ | ⟨hk, h1, h2, h3⟩ | ⟨hk, h1, h2, h3⟩ | ⟨hk, h3⟩ | ⟨hk, h3, h4⟩ | ⟨hk, h3, h4⟩
  · exact .inl ⟨_, by unfold ruleS; rw [if_pos hk], h1⟩
  · exact .inl ⟨_, by unfold ruleS; rw [if_neg (by omega), if_pos hk], (hdy (by unfold isEv; rw [hk]; rfl) h1 h2).1⟩
  · refine .inl ⟨_, by unfold ruleS; rw [if_neg (by omega), if_neg (by omega), if_pos hk], ?_⟩
    have := (hdy (by unfold isEv; rw [hk]; rfl) h3 h4).1
    unfold cutD
    split <;> omega
  · have hr : ruleS c l t ks = (if t.bz then FA c (ks.getD 0 0) t.n else (ks.getD 0 0 + t.n, 0)) := by unfold ruleS; rw [if_neg (by omega), if_neg (by omega), if_neg (by omega), if_pos hk]
    rw [hr]
    have hb := hd0 (by omega)
    cases t.bz with
    | true =>
      rw [if_pos rfl]
      exact (FA_spec hc hb.1 hb.2 h1).imp (fun ⟨r, h, h0, _⟩ => ⟨r, h, h0⟩) id
    | false =>
      rw [if_neg (by simp)]
      exact .inl ⟨_, rfl, by omega⟩
  · have hb := hd0 (by omega)
    rw [show ruleS c l t ks = FM (ks.getD 0 0) t.n by unfold ruleS; rw [if_neg (by omega), if_neg (by omega), if_neg (by omega), if_neg (by omega), if_pos hk]]
    exact (FM_spec hb.1 hb.2 h1).imp (fun ⟨r, h, h0, _⟩ => ⟨r, h, h0⟩) id
  · have hb := hd0 (by omega)
    rw [show ruleS c l t ks = FN c (ks.getD 0 0) by unfold ruleS; rw [if_neg (by omega), if_neg (by omega), if_neg (by omega), if_neg (by omega), if_neg (by omega), if_pos hk]]
    exact (FN_spec hc hb.1 hb.2).imp (fun ⟨r, h, h0, _⟩ => ⟨r, h, h0⟩) id
  · rw [show ruleS c l t ks = (Lib.minOf ks, 0) by unfold ruleS; rw [if_neg (by omega), if_neg (by omega), if_neg (by omega), if_neg (by omega), if_neg (by omega), if_neg (by omega), if_pos hk]]
    exact .inl ⟨_, rfl, (hks _ (min_spec (fun e => by rw [e] at hkl; simp at hkl; omega)).1).1⟩
  · rw [show ruleS c l t ks = (Lib.maxOf ks, 0) by unfold ruleS; rw [if_neg (by omega), if_neg (by omega), if_neg (by omega), if_neg (by omega), if_neg (by omega), if_neg (by omega), if_neg (by omega)]]
    exact .inl ⟨_, rfl, (hks _ (max_spec (fun e => by rw [e] at hkl; simp at hkl; omega)).1).1⟩
end Go.Proofs.YtlbfnafniobnaaaDoor

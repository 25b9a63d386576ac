/- What DeadlineNeeds needs: the events of a term increase and are in range; other events do not matter. -/
import Derived.Test.YtlbfnafniobnaaaDoorDnMath
namespace Go.Proofs.YtlbfnafniobnaaaDoor
open Go.RowKit Go.Shelf

theorem upto_mem {d : Array Int} {m : Nat} {x : Int} (h : x ∈ Lib.compactUpTo d m) : ∃ j, j < m ∧ d[j]! = x := by
  unfold Lib.compactUpTo at h
  obtain ⟨j, hj, rfl⟩ := List.mem_map.1 h
  exact ⟨j, List.mem_range.1 (List.mem_filter.1 hj).1, rfl⟩
theorem upto_asc {d : Array Int} (hs : ∀ i j, i ≤ j → j < d.size → d[i]! ≤ d[j]!) : ∀ m, m ≤ d.size → (Lib.compactUpTo d m).Pairwise (· < ·)
  | 0, _ => by simp [Lib.compactUpTo]
  | m + 1, hm => by
    have ih := upto_asc hs m (by omega)
    rw [Lib.compactUpTo_succ]
    cases hk : Lib.keeps d m with
    | false => simpa using ih
    | true =>
      rw [if_pos rfl, List.pairwise_append]
      refine ⟨ih, by simp, fun x hx y hy => ?_⟩
      obtain rfl : y = d[m]! := by simpa using hy
      obtain ⟨j, hj, rfl⟩ := upto_mem hx
      have hne : d[m]! ≠ d[m - 1]! := by
        simp [Lib.keeps] at hk
        rcases hk with h0 | h0
        · omega
        · exact h0
      have h1 := hs j (m - 1) (by omega) (by omega)
      have h2 := hs (m - 1) m (by omega) (by omega)
      omega
theorem evT_asc (t : Dl.T) : (evT t).Pairwise (· < ·) := by
  unfold evT
  obtain ⟨zs, hz⟩ : ∃ zs, zs = ((evs (Dl.nds t 1)).mergeSort fun x y => decide (x ≤ y)) := ⟨_, rfl⟩
  rw [← hz]
  have hp : zs.Pairwise (fun x y => decide (x ≤ y) = true) := by
    rw [hz]
    exact List.pairwise_mergeSort (fun a b c h1 h2 => by simp at h1 h2 ⊢; omega) (fun a b => by simp; omega) _
  refine upto_asc (fun i j hij hj => ?_) zs.length (by simp)
  simp only [List.size_toArray] at hj
  rcases Nat.lt_or_eq_of_le hij with h | h
  · have := List.pairwise_iff_getElem.1 hp i j (by omega) hj h
    simpa [getElem!_pos, hj, show i < zs.length by omega] using this
  · subst h
    exact Int.le_refl _
theorem evT_next {t : Dl.T} {k : Nat} {a b : Int} (h1 : (evT t)[k]? = some a) (h2 : (evT t)[k + 1]? = some b) : a < b := by
  obtain ⟨_, rfl⟩ := List.getElem?_eq_some_iff.1 h1
  obtain ⟨_, rfl⟩ := List.getElem?_eq_some_iff.1 h2
  exact List.pairwise_iff_getElem.1 (evT_asc t) k (k + 1) _ _ (by omega)
theorem evT_range {t : Dl.T} {n : Nat} (hv : validT t (n : Nat) = true) {i : Int} (h : i ∈ evT t) : 0 ≤ i ∧ i < n := by
  obtain ⟨_, _, _, hok⟩ := valid_facts hv
  obtain ⟨x, hx, h1, rfl⟩ := evT_in h
  exact ev_range (hok x hx) h1
/-- an event that is not given -/
def ZW : Wh := ⟨false, 0, 0⟩
/-- the events of S alone -/
def onlyF (l : List Wh) (S : List Int) : List Wh := l.zipIdx.map fun x => if (x.2 : Int) ∈ S then x.1 else ZW
theorem only_len (l : List Wh) (S : List Int) : (onlyF l S).length = l.length := by simp [onlyF]
theorem only_get (l : List Wh) (S : List Int) (j : Nat) : (onlyF l S)[j]? = l[j]?.map fun e => if (j : Int) ∈ S then e else ZW := by
  unfold onlyF
  rw [List.getElem?_map, List.getElem?_zipIdx]
  cases l[j]? <;> simp
theorem only_nil (l : List Wh) : onlyF l [] = List.replicate l.length ZW := by
  apply List.ext_getElem?
  intro j
  rw [only_get, List.getElem?_replicate]
  by_cases h : j < l.length
  · simp [h]
  · simp [h]
theorem only_set {l : List Wh} {S : List Int} {j : Nat} {e : Wh} (h : l[j]? = some e) : (onlyF l S).set j e = onlyF l (S ++ [(j : Int)]) := by
  have hj := (List.getElem?_eq_some_iff.1 h).1
  apply List.ext_getElem?
  intro i
  rw [only_get, List.getElem?_set]
  by_cases hi : j = i
  · subst hi
    rw [if_pos rfl, only_len, if_pos hj, h]
    simp
  · rw [if_neg hi, only_get]
    have : ((i : Int) = (j : Int)) = False := by simp; omega
    simp [this]
theorem only_known {l : List Wh} {S : List Int} {i : Int} (h0 : 0 ≤ i) (h : i ∈ S) : knownAt (onlyF l S) i = knownAt l i := by
  unfold knownAt
  rw [only_get]
  have : ((i.toNat : Nat) : Int) = i := by omega
  cases l[i.toNat]? <;> simp [this, h]
theorem only_wh {l : List Wh} {S : List Int} {i : Int} (h0 : 0 ≤ i) (h : i ∈ S) : whAt (onlyF l S) i = whAt l i := by
  unfold whAt
  rw [only_get]
  have : ((i.toNat : Nat) : Int) = i := by omega
  cases l[i.toNat]? <;> simp [this, h]
theorem only_good {l : List Wh} {S : List Int} (h : goodE l = true) : goodE (onlyF l S) = true := by
  unfold goodE at h ⊢
  rw [Bool.not_eq_true', List.any_eq_false] at h ⊢
  intro x hx
  obtain ⟨j, hj⟩ := List.getElem?_of_mem hx
  rw [only_get, Option.map_eq_some_iff] at hj
  obtain ⟨e, he, rfl⟩ := hj
  split
  · exact h e (List.mem_of_getElem? he)
  · simp [ZW, badW]
theorem rule_only {c : Cal} {l : List Wh} {S : List Int} {t : Dl.T} {ks : List Int} (h : isEv t = true → 0 ≤ t.ev ∧ t.ev ∈ S) : ruleS c (onlyF l S) t ks = ruleS c l t ks := by
  unfold ruleS
  by_cases h2 : t.kd = 2
  · obtain ⟨h0, hs⟩ := h (by unfold isEv; rw [h2]; rfl)
    rw [only_wh h0 hs]
  by_cases h3 : t.kd = 3
  · obtain ⟨h0, hs⟩ := h (by unfold isEv; rw [h3]; rfl)
    rw [only_wh h0 hs]
  rw [if_neg h2, if_neg h3, if_neg h2, if_neg h3]
def OnlyT (c : Cal) (l : List Wh) (S : List Int) (t : Dl.T) : Prop := ∀ d, (∀ x ∈ Dl.nds t d, isEv x.1 = true → 0 ≤ x.1.ev ∧ x.1.ev ∈ S) → dayT c (onlyF l S) t = dayT c l t
theorem only_list {c : Cal} {l : List Wh} {S : List Int} : ∀ ks : List Dl.T, (∀ k ∈ ks, OnlyT c l S k) → ∀ d, (∀ x ∈ Dl.ndsL ks d, isEv x.1 = true → 0 ≤ x.1.ev ∧ x.1.ev ∈ S) → dayL c (onlyF l S) ks = dayL c l ks
  | [], _, _, _ => by rw [dayL, dayL]
  | k :: ks, h, d, hg => by
    rw [Dl.ndsL] at hg
    rw [dayL_cons, dayL_cons, h k (by simp) d (fun x hx => hg x (List.mem_append_left _ hx)), only_list ks (fun k' h' => h k' (by simp [h'])) d (fun x hx => hg x (List.mem_append_right _ hx))]
theorem only_day (c : Cal) (l : List Wh) (S : List Int) : ∀ t, OnlyT c l S t := by
  refine Dl.T.ind (P := OnlyT c l S) (fun t ih => ?_)
  intro d hn
  rw [dayT_eq, dayT_eq, only_list t.kids ih (d + 1) (fun x hx => hn x (by rw [Dl.nds_eq]; exact List.mem_cons_of_mem _ hx))]
  cases dayL c l t.kids with
  | none => rfl
  | some ds =>
    dsimp only
    rw [rule_only (hn (t, d) (by rw [Dl.nds_eq]; simp))]
/-- without the other events Eval answers the same -/
theorem only_eval {t : Dl.T} {c : Cal} {l : List Wh} (h : (evalS t c l).2.2 ≠ 1) : validT t l.length = true ∧ evalS t c (onlyF l (evT t)) = evalS t c l := by
  rw [evalS_eq] at h
  by_cases h1 : CalOK c ∧ validT t l.length = true ∧ goodE l = true
  · refine ⟨h1.2.1, ?_⟩
    rw [evalS_eq t c l, evalS_eq, if_pos h1, only_len, if_pos ⟨h1.1, h1.2.1, only_good h1.2.2⟩]
    have hk : ((evT t).any fun i => !(knownAt (onlyF l (evT t)) i)) = ((evT t).any fun i => !(knownAt l i)) := by
      rw [Bool.eq_iff_iff, List.any_eq_true, List.any_eq_true]
      constructor
      · rintro ⟨i, hi, hx⟩
        exact ⟨i, hi, by rwa [only_known (evT_range h1.2.1 hi).1 hi] at hx⟩
      · rintro ⟨i, hi, hx⟩
        exact ⟨i, hi, by rwa [only_known (evT_range h1.2.1 hi).1 hi]⟩
    rw [hk, only_day c l (evT t) t 1 (fun x hx hi => ⟨(evT_range h1.2.1 (mem_evT hx hi)).1, mem_evT hx hi⟩)]
  · rw [if_neg h1] at h
    exact absurd rfl h
theorem all_known {t : Dl.T} {c : Cal} {l : List Wh} (h : (evalS t c l).2.2 ≠ 1) : (evalS t c l = (0, false, 0) ∧ (evT t).all (knownAt l) = false) ∨ (∃ d, evalS t c l = (d, true, 0) ∧ (evT t).all (knownAt l) = true) ∨ (evalS t c l = (0, false, 2) ∧ (evT t).all (knownAt l) = true) := by
  rw [evalS_eq] at h ⊢
  have e : (evT t).all (knownAt l) = !((evT t).any fun i => !(knownAt l i)) := by rw [List.not_any_eq_all_not]; congr 1; funext i; simp
  split at h
  · rename_i h1
    rw [if_pos h1]
    split at h
    · rename_i h2
      rw [if_pos h2]
      exact .inl ⟨rfl, by rw [e, h2]; rfl⟩
    · rename_i h2
      rw [if_neg h2]
      have h3 : (evT t).all (knownAt l) = true := by rw [e]; simpa using h2
      cases dayT c l t with
      | none => exact .inr (.inr ⟨rfl, h3⟩)
      | some d => exact .inr (.inl ⟨d, rfl, h3⟩)
  · exact absurd rfl h
end Go.Proofs.YtlbfnafniobnaaaDoor

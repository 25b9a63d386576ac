/- The day of a term by its kids' days; what Eval answers, by it. -/
import Derived.Test.YtlbfnafniobnaaaDoorDlV
namespace Go.Proofs.YtlbfnafniobnaaaDoor
open Go.RowKit Go.Shelf

/-- a rule's answer: a day in range, or none -/
def dayR (r : Int × Int) : Option Int := if r.2 ≠ 0 then none else if 73048 < r.1 then none else some r.1
mutual
noncomputable def dayT (c : Cal) (l : List Wh) : Dl.T → Option Int
  | .node a b e z p q ks => match dayL c l ks with
    | none => none
    | some ds => dayR (ruleS c l (.node a b e z p q ks) ds.reverse)
noncomputable def dayL (c : Cal) (l : List Wh) : List Dl.T → Option (List Int)
  | [] => some []
  | k :: ks => match dayT c l k, dayL c l ks with
    | some d, some ds => some (d :: ds)
    | _, _ => none
end
theorem dayT_eq (c : Cal) (l : List Wh) (t : Dl.T) : dayT c l t = match dayL c l t.kids with
    | none => none
    | some ds => dayR (ruleS c l t ds.reverse) := by
  cases t
  rw [dayT]
  rfl
theorem dayL_cons (c : Cal) (l : List Wh) (k : Dl.T) (ks : List Dl.T) : dayL c l (k :: ks) = match dayT c l k, dayL c l ks with
    | some d, some ds => some (d :: ds)
    | _, _ => none := by rw [dayL]
/-- a node that may be computed -/
def GoodN (l : List Wh) (t : Dl.T) : Prop := okN t l.length = true ∧ (isEv t = true → knownAt l t.ev = true)
theorem dayL_len {c : Cal} {l : List Wh} : ∀ {ks : List Dl.T} {xs : List Int}, dayL c l ks = some xs → xs.length = ks.length
  | [], xs, h => by
    rw [dayL] at h
    cases h
    rfl
  | k :: ks, xs, h => by
    rw [dayL_cons] at h
    cases hk : dayT c l k with
    | none => rw [hk] at h; cases h
    | some d =>
      cases hs : dayL c l ks with
      | none => rw [hk, hs] at h; cases h
      | some ds =>
        rw [hk, hs] at h
        cases h
        rw [List.length_cons, List.length_cons, dayL_len hs]
def RunT (c : Cal) (l : List Wh) (t : Dl.T) : Prop := ∀ d, (∀ x ∈ Dl.nds t d, GoodN l x.1) → (∀ x, dayT c l t = some x → 0 ≤ x ∧ x ≤ 73048) ∧
  ∀ rest ds, runS c l (((Dl.nds t d).map (·.1)).reverse ++ rest) ds = match dayT c l t with
    | some x => runS c l rest (ds ++ [x])
    | none => ([], 2)
theorem run_list {c : Cal} {l : List Wh} : ∀ (ks : List Dl.T), (∀ k ∈ ks, RunT c l k) → ∀ d, (∀ x ∈ Dl.ndsL ks d, GoodN l x.1) →
    (∀ xs, dayL c l ks = some xs → ∀ x ∈ xs, 0 ≤ x ∧ x ≤ 73048) ∧ ∀ rest ds, runS c l (((Dl.ndsL ks d).map (·.1)).reverse ++ rest) ds = match dayL c l ks with
      | some xs => runS c l rest (ds ++ xs.reverse)
      | none => ([], 2)
  | [], _, d, _ => by
    refine ⟨fun xs h => ?_, fun rest ds => ?_⟩
    · rw [dayL] at h
      cases h
      intro x hx
      cases hx
    · rw [dayL, Dl.ndsL]
      simp
  | k :: ks, hk, d, hg => by
    rw [Dl.ndsL] at hg ⊢
    obtain ⟨i1, i2⟩ := hk k (by simp) d (fun x hx => hg x (List.mem_append_left _ hx))
    obtain ⟨j1, j2⟩ := run_list ks (fun k' h' => hk k' (by simp [h'])) d (fun x hx => hg x (List.mem_append_right _ hx))
    rw [dayL_cons]
    refine ⟨fun xs h => ?_, fun rest ds => ?_⟩
    · cases hk : dayT c l k with
      | none => rw [hk] at h; cases h
      | some y =>
        cases hs : dayL c l ks with
        | none => rw [hk, hs] at h; cases h
        | some ys =>
          rw [hk, hs] at h
          cases h
          intro x hx
          rcases List.mem_cons.1 hx with rfl | hx
          · exact i1 _ hk
          · exact j1 _ hs x hx
    · rw [List.map_append, List.reverse_append, List.append_assoc, j2]
      cases hs : dayL c l ks with
      | none => cases dayT c l k <;> rfl
      | some ys =>
        dsimp only
        rw [i2]
        cases hk : dayT c l k with
        | none => rfl
        | some y =>
          dsimp only
          rw [List.reverse_cons, List.append_assoc]
theorem run_day {c : Cal} {l : List Wh} (hc : CalOK c) (hg : goodE l = true) : ∀ t, RunT c l t := by
  refine Dl.T.ind (P := RunT c l) (fun t ih => ?_)
  intro d hn
  have hnt := hn (t, d) (by rw [Dl.nds_eq]; simp)
  obtain ⟨j1, j2⟩ := run_list t.kids ih (d + 1) (fun x hx => hn x (by rw [Dl.nds_eq]; exact List.mem_cons_of_mem _ hx))
  rw [dayT_eq]
  cases hs : dayL c l t.kids with
  | none =>
    refine ⟨fun x h => (by cases h), fun rest ds => ?_⟩
    rw [Dl.nds_eq, List.map_cons, List.reverse_cons, List.append_assoc, j2, hs]
  | some xs =>
    have hlen := dayL_len hs
    have hsp := rule_spec (ks := xs.reverse) hc hnt.1 hnt.2 hg (fun x hx => j1 xs hs x (List.mem_reverse.1 hx)) (by rw [List.length_reverse, hlen])
    dsimp only
    refine ⟨fun x h => ?_, fun rest ds => ?_⟩
    · unfold dayR at h
      rcases hsp with ⟨r, hr, h0⟩ | hr
      · rw [hr] at h
        dsimp only at h
        rw [if_neg (by simp)] at h
        split at h
        · cases h
        · cases h
          omega
      · rw [hr] at h
        simp at h
    · rw [Dl.nds_eq, List.map_cons, List.reverse_cons, List.append_assoc, j2, hs]
      dsimp only
      rw [List.singleton_append, runS]
      have e1 : (ds ++ xs.reverse).length - t.kids.length = ds.length := by rw [List.length_append, List.length_reverse]; omega
      unfold stepS
      rw [e1, List.drop_left, List.take_left]
      unfold dayR
      rcases hsp with ⟨r, hr, h0⟩ | hr
      · rw [hr]
        dsimp only
        by_cases h3 : 73048 < r
        · simp [h3]
        · simp [h3]
      · rw [hr]
        rfl
theorem day_range {c : Cal} {l : List Wh} (hc : CalOK c) (hg : goodE l = true) {t : Dl.T} {x : Int} (hn : ∀ y ∈ Dl.nds t 1, GoodN l y.1) (h : dayT c l t = some x) : 0 ≤ x ∧ x ≤ 73048 := (run_day hc hg t 1 hn).1 x h
open Classical in
/-- what Eval answers, by the day of the term -/
theorem evalS_eq (t : Dl.T) (c : Cal) (l : List Wh) : evalS t c l =
    if CalOK c ∧ validT t l.length = true ∧ goodE l = true then
      (if ((evT t).any fun i => !(knownAt l i)) = true then ((0 : Int), false, (0 : Int)) else match dayT c l t with
        | some d => (d, true, (0 : Int))
        | none => ((0 : Int), false, (2 : Int)))
    else ((0 : Int), false, (1 : Int)) := by
  unfold evalS
  by_cases h : CalOK c ∧ validT t l.length = true ∧ goodE l = true
  · rw [if_pos h, if_pos h]
    by_cases hk : ((evT t).any fun i => !(knownAt l i)) = true
    · rw [if_pos hk, if_pos hk]
    · rw [if_neg hk, if_neg hk]
      obtain ⟨_, _, _, hok⟩ := valid_facts h.2.1
      have hn : ∀ x ∈ Dl.nds t 1, GoodN l x.1 := fun x hx => ⟨hok x hx, fun hi => by
        have := List.any_eq_false.1 (Bool.not_eq_true _ ▸ hk) _ (mem_evT hx hi)
        simpa using this⟩
      have := (run_day h.1 h.2.2 t 1 hn).2 [] []
      rw [List.append_nil] at this
      unfold rev
      rw [this]
      cases dayT c l t <;> rfl
  · rw [if_neg h, if_neg h]
end Go.Proofs.YtlbfnafniobnaaaDoor

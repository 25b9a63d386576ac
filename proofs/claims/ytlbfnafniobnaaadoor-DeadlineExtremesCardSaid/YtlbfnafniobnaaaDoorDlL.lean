/- What Eval computes: the days of the nodes, from the last one on. -/
import Derived.Test.YtlbfnafniobnaaaDoorDlK
namespace Go.Proofs.YtlbfnafniobnaaaDoor
open Go.RowKit Go.Shelf

def whAt (l : List Wh) (i : Int) : Wh := (l[i.toNat]?).getD ⟨false, 0, 0⟩
theorem known_wh (l : List Wh) (i : Int) : knownAt l i = (whAt l i).known := by
  unfold knownAt whAt
  cases l[i.toNat]? <;> rfl
/-- the day of a node from those of its kids -/
noncomputable def ruleS (c : Cal) (l : List Wh) (t : Dl.T) (ks : List Int) : Int × Int :=
  if t.kd = 1 then (t.n, 0) else if t.kd = 2 then ((whAt l t.ev).day, 0) else if t.kd = 3 then (cutD (whAt l t.ev) t.n, 0)
  else if t.kd = 4 then (if t.bz then FA c (ks.getD 0 0) t.n else (ks.getD 0 0 + t.n, 0))
  else if t.kd = 5 then FM (ks.getD 0 0) t.n else if t.kd = 6 then FN c (ks.getD 0 0) else if t.kd = 7 then (Lib.minOf ks, 0) else (Lib.maxOf ks, 0)
/-- a node behind days: the days behind it, or an error -/
noncomputable def stepS (c : Cal) (l : List Wh) (ds : List Int) (t : Dl.T) : List Int × Int :=
  if (ruleS c l t (ds.drop (ds.length - t.kids.length))).2 ≠ 0 then ([], (ruleS c l t (ds.drop (ds.length - t.kids.length))).2)
  else if 73048 < (ruleS c l t (ds.drop (ds.length - t.kids.length))).1 then ([], 2)
  else (ds.take (ds.length - t.kids.length) ++ [(ruleS c l t (ds.drop (ds.length - t.kids.length))).1], 0)
noncomputable def runS (c : Cal) (l : List Wh) : List Dl.T → List Int → List Int × Int
  | [], ds => (ds, 0)
  | t :: ts, ds => if (stepS c l ds t).2 = 0 then runS c l ts (stepS c l ds t).1 else ([], (stepS c l ds t).2)
theorem runS_append (c : Cal) (l : List Wh) : ∀ (a b : List Dl.T) (ds : List Int), runS c l (a ++ b) ds = if (runS c l a ds).2 = 0 then runS c l b (runS c l a ds).1 else ([], (runS c l a ds).2)
  | [], b, ds => by simp [runS]
  | t :: a, b, ds => by
    rw [List.cons_append, runS, runS]
    by_cases h : (stepS c l ds t).2 = 0
    · rw [if_pos h, if_pos h, runS_append c l a b]
    · rw [if_neg h, if_neg h]
      simp [h]
/-- the nodes, from the last one on -/
def rev (t : Dl.T) : List Dl.T := ((Dl.nds t 1).map (·.1)).reverse
/-- there are days enough for the kids of each node -/
def enough : List Dl.T → Nat → Bool
  | [], _ => true
  | t :: ts, k => decide (t.kids.length ≤ k) && enough ts (k - t.kids.length + 1)
theorem enough_list : ∀ (ks : List Dl.T), (∀ k ∈ ks, ∀ (d : Nat) (r : List Dl.T) (n : Nat), enough (((Dl.nds k d).map (·.1)).reverse ++ r) n = enough r (n + 1)) →
    ∀ (d : Nat) (r : List Dl.T) (n : Nat), enough (((Dl.ndsL ks d).map (·.1)).reverse ++ r) n = enough r (n + ks.length)
  | [], _, d, r, n => rfl
  | k :: ks, h, d, r, n => by
    rw [Dl.ndsL, List.map_append, List.reverse_append, List.append_assoc, enough_list ks (fun k' hk => h k' (List.mem_cons_of_mem _ hk)), h k (by simp), List.length_cons]
    congr 1
theorem enough_tree (t : Dl.T) : ∀ (d : Nat) (r : List Dl.T) (n : Nat), enough (((Dl.nds t d).map (·.1)).reverse ++ r) n = enough r (n + 1) := by
  induction t using Dl.T.ind with
  | h t ih =>
    intro d r n
    rw [Dl.nds_eq, List.map_cons, List.reverse_cons, List.append_assoc, enough_list t.kids ih, List.singleton_append, enough]
    rw [show n + t.kids.length - t.kids.length + 1 = n + 1 by omega]
    simp
theorem enough_rev (t : Dl.T) : enough (rev t) 0 = true := by
  have := enough_tree t 1 [] 0
  rw [List.append_nil] at this
  exact this
theorem mem_compact {zs : List Int} {x : Int} (h : x ∈ zs) : x ∈ Lib.compact zs := by
  obtain ⟨i, hi, rfl⟩ := List.getElem_of_mem h
  have key : ∀ j (hj : j < zs.length), zs[j] ∈ Lib.compact zs := by
    intro j
    induction j using Nat.strongRecOn with
    | ind j ih =>
      intro hj
      cases hk : Lib.keeps zs.toArray j with
      | true =>
        unfold Lib.compact Lib.compactUpTo
        refine List.mem_map.2 ⟨j, List.mem_filter.2 ⟨List.mem_range.2 hj, hk⟩, ?_⟩
        simp [hj]
      | false =>
        cases j with
        | zero => simp [Lib.keeps] at hk
        | succ j =>
          have e : zs[j + 1] = zs[j] := by
            unfold Lib.keeps at hk
            simp at hk
            have h1 : zs[j + 1]? = some zs[j + 1] := List.getElem?_eq_getElem hj
            have h2 : zs[j]? = some zs[j] := List.getElem?_eq_getElem (by omega)
            simpa [h1, h2] using hk
          rw [e]
          exact ih j (by omega) (by omega)
  exact key i hi
theorem mem_evT {t : Dl.T} {x : Dl.T × Nat} (hx : x ∈ Dl.nds t 1) (hi : isEv x.1 = true) : x.1.ev ∈ evT t := by
  unfold evT
  refine mem_compact ?_
  rw [List.mem_mergeSort]
  exact List.mem_map.2 ⟨x, List.mem_filter.2 ⟨hx, hi⟩, rfl⟩
theorem vld_all {ev : Int} : ∀ (l : List (Dl.T × Nat)) (c : Nat), vld ev c l = true → ∀ x ∈ l, okN x.1 ev = true
  | [], _, _, x, hx => by simp at hx
  | y :: l, c, h, x, hx => by
    rw [vld] at h
    simp only [Bool.and_eq_true] at h
    rcases List.mem_cons.1 hx with rfl | hx
    · exact h.1.1.1
    · exact vld_all l (c + 1) h.2 x hx
open Classical in
/-- what Eval answers -/
noncomputable def evalS (t : Dl.T) (c : Cal) (l : List Wh) : Int × Bool × Int :=
  if CalOK c ∧ validT t l.length = true ∧ goodE l = true then
    (if ((evT t).any fun i => !(knownAt l i)) = true then (0, false, 0)
    else if (runS c l (rev t) []).2 = 0 then ((runS c l (rev t) []).1.headD 0, true, 0) else (0, false, (runS c l (rev t) []).2))
  else (0, false, 1)
end Go.Proofs.YtlbfnafniobnaaaDoor

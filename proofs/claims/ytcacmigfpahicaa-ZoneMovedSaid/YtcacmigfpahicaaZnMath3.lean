/- Zones: the stretches by their number: which one an instant lies in, which one begins with a skipped local time, the instants of a local time stretch by stretch. -/
import Derived.Test.YtcacmigfpahicaaZnMath2
namespace Go.Proofs.Ytcacmigfpahicaa.Zn

/-- where the k-th stretch begins, the first one at lo -/
def frmL (lo : Int) (cs : List (Int × Int)) : Nat → Int
  | 0 => lo
  | k + 1 => (cs.getD k (0, 0)).1
/-- where it ends -/
def upto (cs : List (Int × Int)) (k : Nat) : Int := if k < cs.length then (cs.getD k (0, 0)).1 else 105190560
/-- the offset before it -/
def bef (o : Int) (cs : List (Int × Int)) : Nat → Int
  | 0 => o
  | k + 1 => offs o cs k
theorem frmL_cons (lo a d : Int) (r : List (Int × Int)) (k : Nat) : frmL lo ((a, d) :: r) (k + 1) = frmL a r k := by
  cases k with
  | zero => rfl
  | succ k => rfl
theorem upto_cons (a d : Int) (r : List (Int × Int)) (k : Nat) : upto ((a, d) :: r) (k + 1) = upto r k := by
  unfold upto
  by_cases h : k < r.length
  · rw [if_pos h, if_pos (by rw [List.length_cons]; omega)]; rfl
  · rw [if_neg h, if_neg (by rw [List.length_cons]; omega)]
theorem bef_cons (o a d : Int) (r : List (Int × Int)) (k : Nat) : bef o ((a, d) :: r) (k + 2) = bef d r (k + 1) := offs_cons o a d r k
theorem seg_before : ∀ (cs : List (Int × Int)) (t : Int) (j : Nat), j < seg cs t → upto cs j ≤ t
  | [], _, _, h => by cases h
  | (a, d) :: r, t, j, h => by
    unfold seg at h
    by_cases ha : a ≤ t
    · rw [if_pos ha] at h
      cases j with
      | zero => unfold upto; rw [if_pos (by simp)]; exact ha
      | succ j => rw [upto_cons]; exact seg_before r t j (by omega)
    · rw [if_neg ha] at h; cases h
theorem seg_here : ∀ (cs : List (Int × Int)) (t : Int), t < 105190560 → t < upto cs (seg cs t)
  | [], _, h => h
  | (a, d) :: r, t, h => by
    unfold seg
    by_cases ha : a ≤ t
    · rw [if_pos ha, upto_cons]; exact seg_here r t h
    · rw [if_neg ha]; unfold upto; rw [if_pos (by simp)]; exact Int.lt_of_not_ge ha
/-- does the k-th stretch begin with a change that skips L -/
def skB (o : Int) (cs : List (Int × Int)) (L : Int) (k : Nat) : Bool := decide (frmL 0 cs k + bef o cs k ≤ L ∧ L < frmL 0 cs k + offs o cs k)
theorem skB_zero (o : Int) (cs : List (Int × Int)) (L : Int) : skB o cs L 0 = false := by
  unfold skB
  exact decide_eq_false (fun h => by have h1 := h.1; have h2 := h.2; simp only [frmL, bef, offs] at h1 h2; omega)
theorem skB_cons (o a d : Int) (r : List (Int × Int)) (L : Int) (k : Nat) : skB o ((a, d) :: r) L (k + 2) = skB d r L (k + 1) := by
  unfold skB
  rw [bef_cons, offs_cons]
  rfl
theorem skip_at : ∀ (cs : List (Int × Int)) (o L : Int), ∃ r, (∀ j, j < r → j ≤ cs.length → skB o cs L j = false) ∧ (r ≤ cs.length → skB o cs L r = true) ∧
    (r ≤ cs.length → skip o cs L = some (frmL 0 cs r)) ∧ (¬ r ≤ cs.length → skip o cs L = none)
  | [], o, L => ⟨1, fun j hj _ => by rw [show j = 0 by omega]; exact skB_zero _ _ _, fun h => by simp at h, fun h => by simp at h, fun _ => rfl⟩
  | (a, d) :: r, o, L => by
    by_cases hc : a + o ≤ L ∧ L < a + d
    · refine ⟨1, fun j hj _ => by rw [show j = 0 by omega]; exact skB_zero _ _ _, fun _ => decide_eq_true hc, fun _ => ?_, fun h => by simp at h⟩
      unfold skip
      rw [if_pos hc]
      rfl
    · obtain ⟨k, h1, h2, h3, h4⟩ := skip_at r d L
      have hk : k ≠ 0 := fun h => by
        subst h
        have := h2 (Nat.zero_le _)
        rw [skB_zero] at this
        cases this
      obtain ⟨m, rfl⟩ : ∃ m, k = m + 1 := ⟨k - 1, by omega⟩
      refine ⟨m + 2, fun j hj hl => ?_, fun h => ?_, fun h => ?_, fun h => ?_⟩
      · rcases j with _ | _ | j
        · exact skB_zero _ _ _
        · exact decide_eq_false hc
        · rw [skB_cons]; exact h1 (j + 1) (by omega) (by rw [List.length_cons] at hl; omega)
      · rw [skB_cons]; exact h2 (by rw [List.length_cons] at h; omega)
      · unfold skip; rw [if_neg hc]; exact h3 (by rw [List.length_cons] at h; omega)
      · unfold skip; rw [if_neg hc]; exact h4 (fun g => h (by rw [List.length_cons]; omega))
/-- the instants in the k-th stretch -/
def part (lo o : Int) (cs : List (Int × Int)) (L : Int) (k : Nat) : List Int := cand (frmL lo cs k) (upto cs k) (L - offs o cs k)
/-- those in the first k stretches -/
def instTo (lo o : Int) (cs : List (Int × Int)) (L : Int) (k : Nat) : List Int := (List.range k).flatMap (part lo o cs L)
theorem instTo_succ (lo o : Int) (cs : List (Int × Int)) (L : Int) (k : Nat) : instTo lo o cs L (k + 1) = instTo lo o cs L k ++ part lo o cs L k := by
  unfold instTo
  rw [List.range_succ, List.flatMap_append]
  simp
theorem instTo_all : ∀ (cs : List (Int × Int)) (lo o L : Int), instTo lo o cs L (cs.length + 1) = inst lo o cs L
  | [], lo, o, L => by unfold instTo; simp [part, frmL, upto, offs, inst]
  | (a, d) :: r, lo, o, L => by
    unfold inst
    rw [← instTo_all r a d L]
    unfold instTo
    rw [List.length_cons, List.range_succ_eq_map, List.flatMap_cons, List.flatMap_map]
    have e : part lo o ((a, d) :: r) L 0 = cand lo a (L - o) := by unfold part upto; rw [if_pos (by simp)]; rfl
    rw [e]
    congr 1
    refine congrArg (fun f => List.flatMap f _) (funext fun k => ?_)
    unfold part
    rw [Nat.succ_eq_add_one, frmL_cons, upto_cons, offs_cons]
theorem part_len (lo o : Int) (cs : List (Int × Int)) (L : Int) (k : Nat) : (part lo o cs L k).length ≤ 1 := cand_len _ _ _
theorem instTo_len (lo o : Int) (cs : List (Int × Int)) (L : Int) : ∀ k, (instTo lo o cs L k).length ≤ k
  | 0 => Nat.le_refl _
  | k + 1 => by
    rw [instTo_succ, List.length_append]
    have := instTo_len lo o cs L k
    have := part_len lo o cs L k
    omega
theorem okC_bd : ∀ (cs : List (Int × Int)) (b : Int) (k : Nat), OkC b cs → k < cs.length → -840 ≤ (cs.getD k (0, 0)).2 ∧ (cs.getD k (0, 0)).2 ≤ 840 ∧ b < (cs.getD k (0, 0)).1 ∧ (cs.getD k (0, 0)).1 ≤ 105190559
  | (a, d) :: r, b, 0, ⟨h1, h2, h3, h4, _⟩, _ => ⟨h1, h2, by show b < a; omega, h3⟩
  | (a, d) :: r, b, k + 1, ⟨_, _, _, h4, h5⟩, hk => by
    obtain ⟨q1, q2, q3, q4⟩ := okC_bd r a k h5 (by rw [List.length_cons] at hk; omega)
    exact ⟨q1, q2, by show b < (r.getD k (0, 0)).1; omega, q4⟩
theorem offs_bd {o : Int} {cs : List (Int × Int)} (h : Ok o cs) : ∀ k, -840 ≤ offs o cs k ∧ offs o cs k ≤ 840
  | 0 => ⟨h.1, h.2.1⟩
  | k + 1 => by
    by_cases hk : k < cs.length
    · have := okC_bd cs 0 k h.2.2.2 hk
      exact ⟨this.1, this.2.1⟩
    · have e : cs.getD k (0, 0) = (0, 0) := by simp [List.getElem?_eq_none (by omega : cs.length ≤ k)]
      have e2 : offs o cs (k + 1) = 0 := congrArg Prod.snd e
      rw [e2]
      omega
theorem frmL_bd {o : Int} {cs : List (Int × Int)} (h : Ok o cs) : ∀ k, 0 ≤ frmL 0 cs k ∧ frmL 0 cs k ≤ 105190559
  | 0 => ⟨Int.le_refl _, by show (0 : Int) ≤ 105190559; omega⟩
  | k + 1 => by
    by_cases hk : k < cs.length
    · have := okC_bd cs 0 k h.2.2.2 hk
      have e2 : frmL 0 cs (k + 1) = (cs.getD k (0, 0)).1 := rfl
      rw [e2]
      omega
    · have e : cs.getD k (0, 0) = (0, 0) := by simp [List.getElem?_eq_none (by omega : cs.length ≤ k)]
      have e2 : frmL 0 cs (k + 1) = 0 := congrArg Prod.fst e
      rw [e2]
      omega
end Go.Proofs.Ytcacmigfpahicaa.Zn

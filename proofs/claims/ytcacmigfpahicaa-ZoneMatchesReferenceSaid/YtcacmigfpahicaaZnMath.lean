/- The mathematics of zones: the offset at an instant, the instants of a local time, the instant of a skipped one. Nothing of the program's text is named here. -/
import Derived.RowKit
namespace Go.Proofs.Ytcacmigfpahicaa.Zn

/-- the changes behind one at b are in order and in range -/
def OkC : Int → List (Int × Int) → Prop
  | _, [] => True
  | b, (a, d) :: r => -840 ≤ d ∧ d ≤ 840 ∧ a ≤ 105190559 ∧ b + 5760 < a ∧ OkC a r
def Ok (o : Int) (cs : List (Int × Int)) : Prop := -840 ≤ o ∧ o ≤ 840 ∧ cs.length ≤ 40 ∧ OkC 0 cs
/-- the offset at an instant -/
def offAt : Int → List (Int × Int) → Int → Int
  | o, [], _ => o
  | o, (a, d) :: r, t => if t < a then o else offAt d r t
/-- an instant, if it lies in a stretch -/
def cand (lo hi t : Int) : List Int := if lo ≤ t ∧ t < hi then [t] else []
/-- the instants of a local time, stretch by stretch -/
def inst : Int → Int → List (Int × Int) → Int → List Int
  | lo, o, [], L => cand lo 105190560 (L - o)
  | lo, o, (a, d) :: r, L => cand lo a (L - o) ++ inst a d r L
/-- the change that skips a local time -/
def skip : Int → List (Int × Int) → Int → Option Int
  | _, [], _ => none
  | o, (a, d) :: r, L => if a + o ≤ L ∧ L < a + d then some a else skip d r L
/-- the instant that stands for a local time, the earlier one -/
def first (lo o : Int) (cs : List (Int × Int)) (L : Int) : Option Int :=
  match inst lo o cs L with
  | x :: _ => some x
  | [] => skip o cs L

instance okC_dec : (b : Int) → (cs : List (Int × Int)) → Decidable (OkC b cs)
  | _, [] => isTrue trivial
  | b, (a, d) :: r => have := okC_dec a r; inferInstanceAs (Decidable (-840 ≤ d ∧ d ≤ 840 ∧ a ≤ 105190559 ∧ b + 5760 < a ∧ OkC a r))
instance ok_dec (o : Int) (cs : List (Int × Int)) : Decidable (Ok o cs) := inferInstanceAs (Decidable (-840 ≤ o ∧ o ≤ 840 ∧ cs.length ≤ 40 ∧ OkC 0 cs))

theorem offAt_bd : ∀ (cs : List (Int × Int)) (b o t : Int), -840 ≤ o → o ≤ 840 → OkC b cs → -840 ≤ offAt o cs t ∧ offAt o cs t ≤ 840
  | [], _, _, _, h1, h2, _ => ⟨h1, h2⟩
  | (a, d) :: r, b, o, t, h1, h2, ⟨k1, k2, _, _, k5⟩ => by
    unfold offAt
    split
    · exact ⟨h1, h2⟩
    · exact offAt_bd r a d t k1 k2 k5
theorem mem_cand {lo hi t x : Int} : x ∈ cand lo hi t ↔ x = t ∧ lo ≤ x ∧ x < hi := by
  unfold cand
  split
  · rw [List.mem_singleton]
    exact ⟨fun h => by subst h; exact ⟨rfl, by assumption⟩, fun h => h.1⟩
  · next hn => exact ⟨fun h => (List.not_mem_nil h).elim, fun h => (hn (h.1 ▸ h.2)).elim⟩
/-- what the instants of a local time are -/
theorem mem_inst : ∀ (cs : List (Int × Int)) (lo o L t : Int), OkC lo cs → (t ∈ inst lo o cs L ↔ lo ≤ t ∧ t ≤ 105190559 ∧ t + offAt o cs t = L)
  | [], lo, o, L, t, _ => by
    unfold inst offAt
    rw [mem_cand]
    constructor
    · rintro ⟨h1, h2, h3⟩; exact ⟨h2, by omega, by omega⟩
    · rintro ⟨h1, h2, h3⟩; exact ⟨by omega, h1, by omega⟩
  | (a, d) :: r, lo, o, L, t, ⟨_, _, k3, k4, k5⟩ => by
    unfold inst offAt
    rw [List.mem_append, mem_cand, mem_inst r a d L t k5]
    constructor
    · rintro (⟨h1, h2, h3⟩ | ⟨h1, h2, h3⟩)
      · rw [if_pos h3]; exact ⟨h2, by omega, by omega⟩
      · rw [if_neg (by omega)]; exact ⟨by omega, h2, h3⟩
    · rintro ⟨h1, h2, h3⟩
      by_cases h : t < a
      · rw [if_pos h] at h3; exact .inl ⟨by omega, h1, h⟩
      · rw [if_neg h] at h3; exact .inr ⟨by omega, h2, h3⟩
/-- they increase -/
theorem inst_asc : ∀ (cs : List (Int × Int)) (lo o L : Int), OkC lo cs → (inst lo o cs L).Pairwise (· < ·)
  | [], lo, o, L, _ => by
    unfold inst cand
    split
    · exact List.pairwise_singleton _ _
    · exact List.Pairwise.nil
  | (a, d) :: r, lo, o, L, ⟨_, _, _, _, k5⟩ => by
    unfold inst
    rw [List.pairwise_append]
    refine ⟨?_, inst_asc r a d L k5, fun x hx y hy => ?_⟩
    · unfold cand
      split
      · exact List.pairwise_singleton _ _
      · exact List.Pairwise.nil
    · have h1 := mem_cand.1 hx
      have h2 := (mem_inst r a d L y k5).1 hy
      omega
theorem cand_len (lo hi t : Int) : (cand lo hi t).length ≤ 1 := by
  unfold cand
  split
  · exact Nat.le_refl _
  · exact Nat.zero_le _
theorem inst_none {cs : List (Int × Int)} {lo o L : Int} (h : OkC lo cs) (h1 : -840 ≤ o) (h2 : o ≤ 840) (hL : L < lo - 840) : inst lo o cs L = [] := by
  rcases hi : inst lo o cs L with _ | ⟨x, l⟩
  · rfl
  · have hx := (mem_inst cs lo o L x h).1 (by rw [hi]; exact List.mem_cons_self)
    have hb := offAt_bd cs lo o x h1 h2 h
    omega
theorem inst_one : ∀ (cs : List (Int × Int)) (lo o L : Int), OkC lo cs → L < lo + 840 → (inst lo o cs L).length ≤ 1
  | [], lo, o, L, _, _ => by unfold inst; exact cand_len _ _ _
  | (a, d) :: r, lo, o, L, ⟨k1, k2, _, k4, k5⟩, hL => by
    unfold inst
    rw [inst_none k5 k1 k2 (by omega), List.append_nil]
    exact cand_len _ _ _
/-- at most two -/
theorem inst_two : ∀ (cs : List (Int × Int)) (lo o L : Int), -840 ≤ o → o ≤ 840 → OkC lo cs → (inst lo o cs L).length ≤ 2
  | [], lo, o, L, _, _, _ => by unfold inst; exact Nat.le_trans (cand_len _ _ _) (by omega)
  | (a, d) :: r, lo, o, L, h1, h2, ⟨k1, k2, _, _, k5⟩ => by
    unfold inst
    by_cases hc : lo ≤ L - o ∧ L - o < a
    · have := inst_one r a d L k5 (by omega)
      have := cand_len lo a (L - o)
      rw [List.length_append]
      omega
    · unfold cand
      rw [if_neg hc, List.nil_append]
      exact inst_two r a d L k1 k2 k5
/-- a local time before a stretch's beginning comes no more -/
theorem gone : ∀ (cs : List (Int × Int)) (lo o L : Int), -840 ≤ o → o ≤ 840 → OkC lo cs → L < lo + o → inst lo o cs L = [] ∧ skip o cs L = none
  | [], lo, o, L, _, _, _, hL => by
    unfold inst skip cand
    rw [if_neg (by omega)]
    exact ⟨rfl, rfl⟩
  | (a, d) :: r, lo, o, L, h1, h2, ⟨k1, k2, _, k4, k5⟩, hL => by
    obtain ⟨e1, e2⟩ := gone r a d L k1 k2 k5 (by omega)
    unfold inst skip cand
    rw [if_neg (by omega), if_neg (by omega), e1, e2]
    exact ⟨rfl, rfl⟩
theorem offAt_here : ∀ (cs : List (Int × Int)) (b o : Int), OkC b cs → offAt o cs b = o
  | [], _, _, _ => rfl
  | (a, d) :: r, b, o, ⟨_, _, _, k4, _⟩ => by unfold offAt; rw [if_pos (by omega)]
/-- what stands for a local time is the first instant with this or a later one -/
theorem first_least : ∀ (cs : List (Int × Int)) (lo o L t : Int), -840 ≤ o → o ≤ 840 → 0 ≤ lo → OkC lo cs → first lo o cs L = some t →
    lo ≤ t ∧ t ≤ 105190559 ∧ L ≤ t + offAt o cs t ∧ t + offAt o cs t ≤ L + 1680 ∧ ∀ t', lo ≤ t' → t' < t → t' + offAt o cs t' < L
  | [], lo, o, L, t, _, _, _, _, hf => by
    unfold first inst cand at hf
    by_cases h : lo ≤ L - o ∧ L - o < 105190560
    · rw [if_pos h] at hf
      obtain rfl : L - o = t := Option.some.inj hf
      unfold offAt
      exact ⟨h.1, by omega, by omega, by omega, fun t' _ _ => by omega⟩
    · rw [if_neg h] at hf
      cases hf
  | (a, d) :: r, lo, o, L, t, h1, h2, h0, hk, hf => by
    obtain ⟨k1, k2, k3, k4, k5⟩ := hk
    by_cases hc : lo ≤ L - o ∧ L - o < a
    · unfold first inst cand at hf
      rw [if_pos hc] at hf
      obtain rfl : L - o = t := Option.some.inj hf
      unfold offAt
      rw [if_pos hc.2]
      refine ⟨hc.1, by omega, by omega, by omega, fun t' _ hlt => ?_⟩
      rw [if_pos (by omega)]
      omega
    · by_cases hL : L < lo + o
      · obtain ⟨e1, e2⟩ := gone ((a, d) :: r) lo o L h1 h2 ⟨k1, k2, k3, k4, k5⟩ hL
        unfold first at hf
        rw [e1, e2] at hf
        cases hf
      · have hao : a + o ≤ L := by omega
        have step : first a d r L = some t ∨ (L < a + d ∧ t = a) := by
          unfold first inst cand at hf
          rw [if_neg hc, List.nil_append] at hf
          unfold first
          rcases hi : inst a d r L with _ | ⟨x, l⟩
          · rw [hi] at hf
            unfold skip at hf
            by_cases hd : L < a + d
            · simp only [if_pos (show a + o ≤ L ∧ L < a + d from ⟨hao, hd⟩)] at hf
              exact .inr ⟨hd, (Option.some.inj hf).symm⟩
            · simp only [if_neg (show ¬ (a + o ≤ L ∧ L < a + d) from fun h => hd h.2)] at hf
              exact .inl hf
          · rw [hi] at hf
            exact .inl hf
        rcases step with hs | ⟨hd, rfl⟩
        · obtain ⟨q1, q2, q3, q4, q5⟩ := first_least r a d L t k1 k2 (by omega) k5 hs
          have e : offAt o ((a, d) :: r) t = offAt d r t := by
            show (if t < a then o else offAt d r t) = _
            rw [if_neg (by omega)]
          rw [e]
          refine ⟨by omega, q2, q3, q4, fun t' hl hlt => ?_⟩
          show t' + (if t' < a then o else offAt d r t') < L
          by_cases h : t' < a
          · rw [if_pos h]; omega
          · rw [if_neg h]; exact q5 t' (by omega) hlt
        · have e : offAt o ((t, d) :: r) t = d := by
            show (if t < t then o else offAt d r t) = _
            rw [if_neg (by omega)]
            exact offAt_here r t d k5
          rw [e]
          refine ⟨by omega, k3, by omega, by omega, fun t' _ hlt => ?_⟩
          show t' + (if t' < t then o else offAt d r t') < L
          rw [if_pos hlt]
          omega
/-- a local time that is skipped lies between the minute before and the change -/
theorem skip_between : ∀ (cs : List (Int × Int)) (lo o L t : Int), OkC lo cs → skip o cs L = some t → lo + 5760 < t ∧ t ≤ 105190559 ∧ L < t + offAt o cs t ∧ t - 1 + offAt o cs (t - 1) < L
  | [], _, _, _, _, _, h => by cases h
  | (a, d) :: r, lo, o, L, t, ⟨_, _, k3, k4, k5⟩, h => by
    unfold skip at h
    unfold offAt
    by_cases hc : a + o ≤ L ∧ L < a + d
    · rw [if_pos hc] at h
      obtain rfl : a = t := Option.some.inj h
      rw [if_neg (by omega), if_pos (by omega), offAt_here r a d k5]
      exact ⟨k4, k3, by omega, by omega⟩
    · rw [if_neg hc] at h
      obtain ⟨q1, q2, q3, q4⟩ := skip_between r a d L t k5 h
      rw [if_neg (by omega), if_neg (by omega)]
      exact ⟨by omega, q2, q3, q4⟩
/-- all offsets moved -/
theorem offAt_moved (n : Int) : ∀ (cs : List (Int × Int)) (o t : Int), offAt (o + n) (cs.map fun c => (c.1, c.2 + n)) t = offAt o cs t + n
  | [], _, _ => rfl
  | (a, d) :: r, o, t => by
    show (if t < a then o + n else offAt (d + n) (r.map fun c => (c.1, c.2 + n)) t) = (if t < a then o else offAt d r t) + n
    split
    · rfl
    · exact offAt_moved n r d t
/-- how many changes are not after an instant -/
def seg : List (Int × Int) → Int → Nat
  | [], _ => 0
  | (a, _) :: r, t => if a ≤ t then seg r t + 1 else 0
/-- the offset in a segment -/
def offs (o : Int) (cs : List (Int × Int)) : Nat → Int
  | 0 => o
  | k + 1 => (cs.getD k (0, 0)).2
theorem seg_le : ∀ (cs : List (Int × Int)) (t : Int), seg cs t ≤ cs.length
  | [], _ => Nat.le_refl _
  | (a, d) :: r, t => by
    unfold seg
    have := seg_le r t
    split
    · rw [List.length_cons]; omega
    · exact Nat.zero_le _
theorem offs_cons (o a d : Int) (r : List (Int × Int)) (k : Nat) : offs o ((a, d) :: r) (k + 1) = offs d r k := by
  cases k with
  | zero => rfl
  | succ k => rfl
theorem offs_seg : ∀ (cs : List (Int × Int)) (o t : Int), offs o cs (seg cs t) = offAt o cs t
  | [], _, _ => rfl
  | (a, d) :: r, o, t => by
    unfold seg offAt
    by_cases h : a ≤ t
    · rw [if_pos h, if_neg (by omega), offs_cons]; exact offs_seg r d t
    · rw [if_neg h, if_pos (by omega)]; rfl
/-- the instants, segment by segment: the first n segments -/
def byS (lo o : Int) (cs : List (Int × Int)) (L : Int) (n : Nat) : List Int :=
  (List.range n).filterMap fun k => if lo ≤ L - offs o cs k ∧ L - offs o cs k ≤ 105190559 ∧ seg cs (L - offs o cs k) = k then some (L - offs o cs k) else none
theorem byS_succ (lo o : Int) (cs : List (Int × Int)) (L : Int) (n : Nat) : byS lo o cs L (n + 1) = byS lo o cs L n ++ (if lo ≤ L - offs o cs n ∧ L - offs o cs n ≤ 105190559 ∧ seg cs (L - offs o cs n) = n then [L - offs o cs n] else []) := by
  unfold byS
  rw [List.range_succ, List.filterMap_append]
  congr 1
  by_cases h : lo ≤ L - offs o cs n ∧ L - offs o cs n ≤ 105190559 ∧ seg cs (L - offs o cs n) = n
  · simp only [List.filterMap_cons, List.filterMap_nil, if_pos h]
  · simp only [List.filterMap_cons, List.filterMap_nil, if_neg h]
theorem byS_inst : ∀ (cs : List (Int × Int)) (lo o L : Int), OkC lo cs → byS lo o cs L (cs.length + 1) = inst lo o cs L
  | [], lo, o, L, _ => by
    rw [byS_succ]
    unfold byS inst cand
    have e1 : offs o [] 0 = o := rfl
    have e2 : seg [] (L - o) = 0 := rfl
    rw [List.length_nil, List.range_zero, List.filterMap_nil, List.nil_append, e1, e2]
    by_cases h : lo ≤ L - o ∧ L - o < 105190560
    · rw [if_pos h, if_pos ⟨h.1, by omega, rfl⟩]
    · rw [if_neg h, if_neg (fun x => h ⟨x.1, by omega⟩)]
  | (a, d) :: r, lo, o, L, ⟨_, _, k3, k4, k5⟩ => by
    unfold inst
    rw [← byS_inst r a d L k5]
    unfold byS
    rw [List.length_cons, List.range_succ_eq_map, List.filterMap_cons, List.filterMap_map]
    have hf : (fun k => if lo ≤ L - offs o ((a, d) :: r) k ∧ L - offs o ((a, d) :: r) k ≤ 105190559 ∧ seg ((a, d) :: r) (L - offs o ((a, d) :: r) k) = k then some (L - offs o ((a, d) :: r) k) else none) ∘ Nat.succ
        = fun k => if a ≤ L - offs d r k ∧ L - offs d r k ≤ 105190559 ∧ seg r (L - offs d r k) = k then some (L - offs d r k) else none := by
      funext k
      simp only [Function.comp, Nat.succ_eq_add_one, offs_cons]
      by_cases h : a ≤ L - offs d r k
      · have e : seg ((a, d) :: r) (L - offs d r k) = seg r (L - offs d r k) + 1 := by
          show (if a ≤ L - offs d r k then _ else _) = _
          rw [if_pos h]
        rw [e]
        by_cases h2 : L - offs d r k ≤ 105190559 ∧ seg r (L - offs d r k) = k
        · rw [if_pos ⟨by omega, h2.1, by omega⟩, if_pos ⟨h, h2⟩]
        · rw [if_neg (fun x => h2 ⟨x.2.1, by have := x.2.2; omega⟩), if_neg (fun x => h2 x.2)]
      · have e : seg ((a, d) :: r) (L - offs d r k) = 0 := by
          show (if a ≤ L - offs d r k then _ else _) = _
          rw [if_neg h]
        rw [e, if_neg (fun x => by have := x.2.2; omega), if_neg (fun x => h x.1)]
    rw [hf]
    have e0 : offs o ((a, d) :: r) 0 = o := rfl
    rw [e0]
    unfold cand
    by_cases h : lo ≤ L - o ∧ L - o < a
    · have e : seg ((a, d) :: r) (L - o) = 0 := by
        show (if a ≤ L - o then _ else _) = _
        rw [if_neg (by omega)]
      rw [e, if_pos h, if_pos ⟨h.1, by omega, rfl⟩]
      rfl
    · rw [if_neg h, if_neg (fun x => ?_)]
      · rfl
      · have hx := x.2.2
        have : L - o < a := by
          rcases Int.lt_or_le (L - o) a with hh | hh
          · exact hh
          · have e : seg ((a, d) :: r) (L - o) = seg r (L - o) + 1 := by
              show (if a ≤ L - o then _ else _) = _
              rw [if_pos hh]
            omega
        exact h ⟨x.1, this⟩
end Go.Proofs.Ytcacmigfpahicaa.Zn

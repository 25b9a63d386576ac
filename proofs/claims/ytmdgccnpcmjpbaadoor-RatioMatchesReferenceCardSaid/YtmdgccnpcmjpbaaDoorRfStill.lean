/- A region whose head only reads and calls quietly, and whose tail may come in several orders: the head is walked once. -/
import Derived.StillTail
import Derived.StillTactics
import Derived.RegionTactic
namespace Go.Proofs.YtmdgccnpcmjpbaaDoor
open Go

def headTo (md : Region.Mode) (ops : Array Oper) (LN : Array Bool) : Nat → Nat → Array Bool → Bool
  | 0, _, listed => decide (listed = LN)
  | f + 1, k, listed => (Region.ready md ops listed).contains k && Region.free md ops listed k && headTo md ops LN f (k + 1) (listed.setIfInBounds k true)

def tailW (md : Region.Mode) (ops : Array Oper) (n : Nat) : Bool :=
  (List.range ops.size).all fun t => decide (t ≤ n) || (List.range t).any fun s => decide (n ≤ s) && Region.waitsFor md ops t s

/-- While an operation of the head is not done, none of the tail may come. -/
theorem head_first {md : Region.Mode} {ops : Array Oper} {n : Nat} {listed : Array Bool} (hs : Region.sinkB md ops n = true) (hc : tailW md ops n = true) (hn : n < ops.size) (inv : HeadInv md ops n listed) :
    ∀ (d i : Nat), n - i = d → i < n → listed.getD i true = false → ∀ t, n ≤ t → t ∉ Region.ready md ops listed := by
  intro d
  induction d using Nat.strongRecOn with
  | _ d ih =>
    intro i hd hi hun t ht hr
    obtain ⟨_, ot, hot, hall⟩ := mem_ready.1 hr
    have htlt : t < ops.size := (Array.getElem?_eq_some_iff.1 hot).1
    by_cases htn : t = n
    · subst htn
      have k := List.all_eq_true.1 hs i (List.mem_range.2 hi)
      obtain ⟨j, hj, hj2⟩ := List.any_eq_true.1 k
      rw [Bool.and_eq_true] at hj2
      obtain ⟨oj, hoj, e, he, hb, heq⟩ := Region.waitsFor_spec hj2.2
      have hij : i < j := of_decide_eq_true hj2.1
      have hjt : j < t + 1 := List.mem_range.1 hj
      by_cases hjt2 : j = t
      · subst hjt2
        have : oj = ot := Option.some.inj (hoj.symm.trans hot)
        subst this
        have l1 := hall e he hb
        rw [heq, getD_both hun] at l1
        cases l1
      · have hjun : listed.getD j true = false := by
          cases hl : listed.getD j true with
          | false => rfl
          | true =>
            have jlt : j < listed.size := by rw [inv.size]; omega
            have hl2 : listed.getD j false = true := by simp [jlt] at hl ⊢; exact hl
            have l1 := inv.closed j oj hoj hl2 e he hb
            rw [heq, getD_both hun] at l1
            cases l1
        exact ih (t - j) (by omega) j rfl (by omega) hjun t (Nat.le_refl _) hr
    · have k := List.all_eq_true.1 hc t (List.mem_range.2 htlt)
      rw [Bool.or_eq_true] at k
      rcases k with k | k
      · have := of_decide_eq_true k; omega
      · obtain ⟨s, hs1, hs2⟩ := List.any_eq_true.1 k
        rw [Bool.and_eq_true] at hs2
        obtain ⟨oj, hoj, e, he, hb, heq⟩ := Region.waitsFor_spec hs2.2
        have : oj = ot := Option.some.inj (hoj.symm.trans hot)
        subst this
        have l1 := hall e he hb
        have hslt : s < t := List.mem_range.1 hs1
        have u := inv.tail s (of_decide_eq_true hs2.1) (by omega)
        rw [heq, getD_both u] at l1
        cases l1

theorem first_one {P : Program} {md : Region.Mode} {ops : Array Oper} {w : World} {n i : Nat} {oi : Oper} {v : Value} {L : Array Bool → Act → Prop} (hi : ops[i]? = some oi)
    (hsel : ∀ (j : Nat) (o : Oper) cs b, ops[j]? = some o → o.op ≠ .select cs b)
    (hs : Region.sinkB md ops n = true) (hc : tailW md ops n = true) (hn : n < ops.size) (hin : i < n) (hdone : ∀ listed a, L listed a → ∀ j ∈ Region.ready md ops listed, n ≤ j) :
    ∀ (f : Nat) (listed : Array Bool) (a : Act), HeadInv md ops n listed →
      (∀ j oj, ops[j]? = some oj → j ≠ i → listed.getD j true = false → (∀ e ∈ oj.after, Region.binds md e = true → e.on ≠ i) → oi.apart ops oj = true) →
      i ∈ Region.ready md ops listed → YieldsAt P ops w oi v a →
      wpAnyL P md ops w n L f (listed.setIfInBounds i true) (a.put oi.dst v) → wpAnyL P md ops w n L (f + 1) listed a := by
  intro f
  induction f with
  | zero =>
    intro listed a inv _ hr hy H
    have hun := (mem_ready.1 hr).1
    refine ⟨fun h => (by rw [h] at hr; cases hr), fun j hj => ?_⟩
    have hjn : j < n := Nat.lt_of_not_le fun h => head_first hs hc hn inv _ i rfl hin hun j h hj
    refine ⟨hjn, ?_⟩
    by_cases hji : j = i
    · subst hji; exact hy.stOp hi H
    · have := hdone _ _ H j (ready_mono hj hji)
      omega
  | succ f ih =>
    intro listed a inv hfree hr hy H
    have hun := (mem_ready.1 hr).1
    refine ⟨fun h => (by rw [h] at hr; cases hr), fun j hj => ?_⟩
    have hjn : j < n := Nat.lt_of_not_le fun h => head_first hs hc hn inv _ i rfl hin hun j h hj
    refine ⟨hjn, ?_⟩
    by_cases hji : j = i
    · subst hji; exact hy.stOp hi H
    · have h1 := (H.2 j (ready_mono hj hji)).2
      obtain ⟨hjun, oj, hoj, hall⟩ := mem_ready.1 hj
      have hno : ∀ e ∈ oj.after, Region.binds md e = true → e.on ≠ i := fun e he hb heq => by
        have l1 := hall e he hb
        rw [heq, getD_both hun] at l1
        cases l1
      have h2 := stOp_put hoj (hfree j oj hoj hji hjun hno) (fun cs b => hsel i oi cs b hi) (fun cs b => hsel j oj cs b hoj) hy h1
      refine stOp_mono (fun a' h3 => ih (listed.setIfInBounds j true) a' (inv.set hj hjn) (fun k ok hk hki hku hk0 => ?_) (ready_mono hr (Ne.symm hji)) h3.1 ?_) h2
      · refine hfree k ok hk hki ?_ hk0
        by_cases hjk : j = k
        · subst hjk; exact hjun
        · rw [getD_set_ne true hjk] at hku; exact hku
      · rw [Array.setIfInBounds_comm _ _ hji]
        exact h3.2

theorem anyL_head {P : Program} {md : Region.Mode} {ops : Array Oper} {w : World} {n : Nat} {LN : Array Bool} {Lq : Act → Prop}
    (hsel : Region.noSelect ops = true) (hs : Region.sinkB md ops n = true) (hc : tailW md ops n = true) (hn : n < ops.size) (hdone : ∀ j ∈ Region.ready md ops LN, n ≤ j) :
    ∀ (l : List Oper) (k : Nat) (listed : Array Bool) (a : Act), (∀ j, j < l.length → l[j]? = ops[k + j]?) → k + l.length = n → HeadInv md ops n listed →
      headTo md ops LN l.length k listed = true → wpStill P ops w Lq l a → wpAnyL P md ops w n (fun s b => s = LN ∧ Lq b) l.length listed a := by
  intro l
  induction l with
  | nil =>
    intro k listed a _ _ _ hB h
    exact ⟨of_decide_eq_true hB, h⟩
  | cons o l ih =>
    intro k listed a hl hk inv hB h
    have ho : ops[k]? = some o := (hl 0 (Nat.succ_pos _)).symm
    simp only [List.length_cons, headTo, Bool.and_eq_true] at hB
    have hlen : k + (l.length + 1) = n := hk
    have hkr : k ∈ Region.ready md ops listed := by simpa using hB.1.1
    have hst : stOp P ops w k (wpStill P ops w Lq l) a := by
      unfold stOp
      rw [ho]
      exact h
    obtain ⟨v, hy, hK⟩ := yieldsAt_of_stOp ho hst
    refine first_one ho (Region.noSelect_spec hsel) hs hc hn (by omega) (fun s b hL => ?_) l.length listed a inv (Region.free_spec ho hB.1.2) hkr hy ?_
    · rw [hL.1]; exact hdone
    · refine ih (k + 1) _ _ (fun j hj => ?_) (by omega) (inv.set hkr (by omega)) hB.2 hK
      have e := hl (j + 1) (Nat.succ_lt_succ hj)
      rw [show k + 1 + j = k + (j + 1) by omega]
      exact e

theorem region_head {P : Program} {id : Nat} {Q : Exit → Act → World → Prop} {a : Act} {w : World} {l : List Oper} (n : Nat) (LN : Array Bool) (hm : P.follows .mixedOrders = true)
    (h1 : Region.noSelect l.toArray = true) (h2 : decide (n < l.length) = true) (h3 : Region.sinkB .any l.toArray n = true) (h4 : tailW .any l.toArray n = true)
    (h5 : (Region.ready .any l.toArray LN).all (fun j => decide (n ≤ j)) = true) (h6 : headTo .any l.toArray LN n 0 (Array.replicate l.toArray.size false) = true)
    (h : wpStill P l.toArray w.drew (fun b => wpAny P .any l.toArray Q (l.length - n) LN b w.drew) (l.take n) a) : (Code.region id l.toArray true).wp P Q a w := by
  have hn : n < l.length := of_decide_eq_true h2
  have ht : (l.take n).length = n := by rw [List.length_take]; omega
  have inv : HeadInv .any l.toArray n (Array.replicate l.toArray.size false) :=
    ⟨by simp, fun j oj _ hj => (by rw [getD_replicate_false] at hj; cases hj), fun t _ hlt => getD_in (by simpa using hlt) (getD_replicate_false _ _)⟩
  have H := anyL_head (md := .any) (LN := LN) h1 h3 h4 (by simpa using hn) (fun j hj => of_decide_eq_true (List.all_eq_true.1 h5 j hj)) (l.take n) 0 _ a
    (fun j hj => by rw [ht] at hj; simp [hj]) (by omega) inv (by rw [ht]; exact h6) h
  refine wp_region_any hm ?_
  have k := wpAny_of_head (Q' := Q) (g := l.length - n) (fun s b hL => by rw [hL.1]; exact hL.2) _ _ _ H
  rw [ht, show n + (l.length - n) = l.toArray.size by simp; omega] at k
  exact k
end Go.Proofs.YtmdgccnpcmjpbaaDoor

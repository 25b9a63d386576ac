/- What the laws say of the tokens of a text. -/
import Derived.Test.YtedeodeejpaioaaDoorLxMath7
namespace Go.Proofs.YtedeodeejpaioaaDoor.Lx

/-- a text of few bytes: tokens, or an error -/
theorem all_cases {s : List B} (h : s.length ≤ 5000) : (∃ l, lexAll s = (l, 0, 0) ∧ lexU s 0 = (l, 0, 0)) ∨ ∃ (er : Int) (k : Nat), er ≠ 0 ∧ lexAll s = ([], er, (k : Int)) ∧ lexU s 0 = ([], er, (k : Int)) ∧ k < s.length := by
  rw [lexAll_small h]
  by_cases h0 : (lexU s 0).2.1 = 0
  · exact .inl ⟨_, lexU_ok h0, lexU_ok h0⟩
  · obtain ⟨h1, k, h2, h3⟩ := lexU_err h0
    have h2 : (lexU s 0).2.2 = (k : Int) := by rw [h2, Nat.zero_add]
    refine .inr ⟨(lexU s 0).2.1, k, h0, ?_, ?_, h3⟩
    · exact Prod.ext h1 (Prod.ext rfl h2)
    · exact Prod.ext h1 (Prod.ext rfl h2)
theorem beg_pre {s : List B} {er : Int} {k : Nat} (h : s.length ≤ 5000) (hs : lexU s 0 = ([], er, (k : Int))) (h0 : er ≠ 0) : ∃ l, lexAll (s.take k) = (l, 0, 0) := by
  have := lexU_begin s 0 0 k (by rw [hs]; exact h0) (by rw [hs, Nat.zero_add])
  rw [lexAll_small (by rw [List.length_take]; omega)]
  exact ⟨_, lexU_ok this⟩
theorem beg_other {s r : List B} {k : Nat} (h : s.length ≤ 2000) (hr : r.length ≤ 500) (hs : lexU s 0 = ([], 4, (k : Int))) (hk : k + 2 ≤ s.length) : lexAll (s.take (k + 2) ++ r) = ([], 4, (k : Int)) := by
  have := lexU_other r s 0 k (by rw [hs, Nat.zero_add]) hk
  rw [lexAll_small (by rw [List.length_append, List.length_take]; omega), this, Nat.zero_add]
theorem all_chain {s : List B} {l : List Tk} (hs : lexU s 0 = (l, 0, 0)) : Chain s 0 l := by
  have := lexU_chain s s 0 rfl (Nat.zero_le _) (by rw [hs])
  rwa [hs] at this
/-- the tokens lie in the text -/
theorem Chain.offs {s : List B} : ∀ {e : Nat} {l : List Tk}, Chain s e l → ∀ t ∈ l, t.off + t.tx.length ≤ s.length
  | _, [], _, t, ht => by cases ht
  | _, x :: l, h, t, ht => by
    rcases List.mem_cons.1 ht with rfl | ht
    · exact h.2.1
    · exact Chain.offs h.2.2.2.2.2 t ht
theorem again_len (s : List B) : ∀ a, (againS ((lexU s a).1.map bare)).length ≤ 2 * s.length := by
  induction s using lex_ind with
  | h1 s h => intro a; rw [lexU_done h]; simp [againS]
  | h2 s e g h => intro a; rw [lexU_bad h]; simp [againS]
  | h3 s kd g n v h ih =>
    intro a
    obtain ⟨_, _, h1, h2⟩ := step_tok h
    rw [lexU_tok h]
    split
    · have := ih (a + g + n)
      rw [List.length_drop] at this
      unfold againS at this ⊢
      rw [List.map_cons, List.flatMap_cons, List.length_append]
      have e : (bare ⟨kd, (s.drop g).take n, v, a + g⟩).2.1 = (s.drop g).take n := rfl
      rw [e, List.length_append, List.length_take, List.length_drop]
      simp only [List.length_cons, List.length_nil]
      omega
    · simp [againS]
theorem again_all {s : List B} {l : List Tk} (h : s.length ≤ 3000) (hs : lexU s 0 = (l, 0, 0)) : l.length ≤ s.length ∧ (againS (l.map bare)).length ≤ 6000 ∧ ∃ l', lexAll (againS (l.map bare)) = (l', 0, 0) ∧ l'.map bare = l.map bare := by
  have h1 := lexU_count s 0
  have h2 := again_len s 0
  have h3 := again_has s 0 0 (l.map bare) (by rw [hs]; exact ⟨rfl, rfl⟩)
  rw [hs] at h1 h2
  simp only at h1 h2
  have h4 : (lexU (againS (l.map bare)) 0).1.length = l.length := by
    have := congrArg List.length h3.2
    rwa [List.length_map, List.length_map] at this
  refine ⟨h1, by omega, _, ?_, h3.2⟩
  rw [lexAll_few (by omega) h3.1 (by omega)]
  exact lexU_ok h3.1
theorem parts_err {a b : List B} {er : Int} {k : Nat} (ha : a.length ≤ 1500) (hb : b.length ≤ 1500) (h0 : er ≠ 0) (h : lexU a 0 = ([], er, (k : Int))) : lexAll (a ++ [10] ++ b) = ([], er, (k : Int)) := by
  rw [lexAll_small (by simp; omega), show a ++ [10] ++ b = a ++ 10 :: b by simp, lexU_parts, h]
  unfold joinU
  rw [if_neg h0]
theorem parts_err2 {a b : List B} {l : List Tk} {er : Int} {k : Nat} (ha : a.length ≤ 1500) (hb : b.length ≤ 1500) (h0 : er ≠ 0) (h : lexU a 0 = (l, 0, 0)) (h' : lexU b 0 = ([], er, (k : Int))) : lexAll (a ++ [10] ++ b) = ([], er, (k : Int) + (a.length : Int) + 1) := by
  have e := lexU_shift (a.length + 1) b 0
  rw [lexAll_small (by simp; omega), show a ++ [10] ++ b = a ++ 10 :: b by simp, lexU_parts, h, e, h']
  unfold joinU shU
  rw [if_pos rfl, if_neg h0, if_neg h0]
  simp
  omega
theorem parts_ok {a b : List B} {l m : List Tk} (ha : a.length ≤ 1500) (hb : b.length ≤ 1500) (h : lexU a 0 = (l, 0, 0)) (h' : lexU b 0 = (m, 0, 0)) : lexAll (a ++ [10] ++ b) = (l ++ m.map (fun t => { t with off := t.off + (a.length + 1) }), 0, 0) := by
  have e := lexU_shift (a.length + 1) b 0
  rw [lexAll_small (by simp; omega), show a ++ [10] ++ b = a ++ 10 :: b by simp, lexU_parts, h, e, h']
  unfold joinU shU
  rw [if_pos rfl, if_pos rfl, if_pos rfl]
theorem all_has {s : List B} {l : List (Int × List B × Int)} (h : s.length ≤ 5000) (hh : Has (lexU s 0) l) : ∃ l', lexAll s = (l', 0, 0) ∧ l'.map bare = l := by
  rw [lexAll_small h]
  exact ⟨_, lexU_ok hh.1, hh.2⟩
theorem gaps_some {g s : List B} {l : List Tk} (hg : gapN g false = g.length) (hgl : g.length ≤ 300) (hs : s.length ≤ 1500) (h : lexU s 0 = (l, 0, 0)) {i : Nat} {t : Tk} (hi : l[i]? = some t) :
    ∃ l', lexAll (g ++ [10] ++ s.take (t.off + t.tx.length) ++ [32] ++ (g ++ [10]) ++ s.drop (t.off + t.tx.length) ++ [32] ++ [10] ++ g) = (l', 0, 0) ∧ l'.map bare = l.map bare := by
  have h0 := gaps_at (g := g) (s := s) (i := i) (t := t) hg (by rw [h]) (by rw [h]; exact hi)
  rw [h] at h0
  have e : g ++ 10 :: (s.take (t.off + t.tx.length) ++ 32 :: (g ++ 10 :: (s.drop (t.off + t.tx.length) ++ 32 :: 10 :: g))) = g ++ [10] ++ s.take (t.off + t.tx.length) ++ [32] ++ (g ++ [10]) ++ s.drop (t.off + t.tx.length) ++ [32] ++ [10] ++ g := by simp
  rw [e] at h0
  exact all_has (by simp; omega) h0
theorem gaps_nil {g s : List B} (hg : gapN g false = g.length) (hgl : g.length ≤ 300) (hs : s.length ≤ 1500) (h : lexU s 0 = ([], 0, 0)) :
    ∃ l', lexAll (g ++ [10] ++ [] ++ [32] ++ (g ++ [10]) ++ s ++ [32] ++ [10] ++ g) = (l', 0, 0) ∧ l'.map bare = [] := by
  have h0 := gaps_none (g := g) (s := s) hg (by rw [h])
  rw [h] at h0
  have e : g ++ 10 :: 32 :: (g ++ 10 :: (s ++ 32 :: 10 :: g)) = g ++ [10] ++ [] ++ [32] ++ (g ++ [10]) ++ s ++ [32] ++ [10] ++ g := by simp
  rw [e] at h0
  exact all_has (by simp; omega) h0
end Go.Proofs.YtedeodeejpaioaaDoor.Lx

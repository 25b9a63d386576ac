/- The tokens of a text, step by step, with a limit of tokens. -/
import Derived.Test.YtedeodeejpaioaaDoorLxMath6
namespace Go.Proofs.YtedeodeejpaioaaDoor.Lx

theorem lex_okL {lim : Bool} {s : List B} : ∀ {a k : Nat}, (lexS lim s a k).2.1 = 0 → (lexS lim s a k).2.2 = 0 := by
  induction s using lex_ind with
  | h1 s h => intro a k _; rw [lex_done h]
  | h2 s e g h => intro a k h0; rw [lex_bad h] at h0; exact absurd h0 (bad_err h)
  | h3 s kd g n v h ih =>
    intro a k h0
    rw [lex_tok h] at h0 ⊢
    split at h0
    · exact absurd (show (3 : Int) = 0 from h0) (by decide)
    · rename_i hk
      rw [if_neg hk]
      split at h0
      · rename_i h1
        rw [if_pos h1]
      · rename_i h1
        exact absurd h0 h1
theorem lex_errL {lim : Bool} {s : List B} : ∀ {a k : Nat}, (lexS lim s a k).2.1 ≠ 0 → (lexS lim s a k).1 = [] := by
  induction s using lex_ind with
  | h1 s h => intro a k h0; rw [lex_done h] at h0; exact absurd rfl h0
  | h2 s e g h => intro a k _; rw [lex_bad h]
  | h3 s kd g n v h ih =>
    intro a k h0
    rw [lex_tok h] at h0 ⊢
    split
    · rfl
    · rename_i hk
      rw [if_neg hk] at h0
      split
      · rename_i h1
        rw [if_pos h1] at h0
        exact absurd rfl h0
      · rfl
theorem lex_full {s : List B} {a k : Nat} {kd v : Int} {g n : Nat} (h : stepS s = .tok kd g n v) (hk : 5000 ≤ k) : lexS true s a k = ([], 3, ((a + g : Nat) : Int)) := by
  rw [lex_tok h, if_pos (by simpa using hk)]
/-- what remains of a text behind the tokens l, of all that it has -/
def Rem (L : List Tk × Int × Int) (l : List Tk) (x : List Tk × Int × Int) : Prop := x.2 = L.2 ∧ (L.2.1 = 0 → l ++ x.1 = L.1)
theorem Rem.start (L : List Tk × Int × Int) : Rem L [] L := ⟨rfl, fun _ => rfl⟩
theorem Rem.step {L : List Tk × Int × Int} {l : List Tk} {s : List B} {a k : Nat} {kd v : Int} {g n : Nat} (h : stepS s = .tok kd g n v) (hk : k < 5000) (hr : Rem L l (lexS true s a k)) :
    Rem L (l ++ [⟨kd, (s.drop g).take n, v, a + g⟩]) (lexS true (s.drop (g + n)) (a + g + n) (k + 1)) := by
  obtain ⟨h1, h2⟩ := hr
  rw [lex_tok h, if_neg (by simp; omega)] at h1 h2
  by_cases h0 : (lexS true (s.drop (g + n)) (a + g + n) (k + 1)).2.1 = 0
  · rw [if_pos h0] at h1 h2
    refine ⟨?_, fun hL => ?_⟩
    · rw [← h1]
      have := lex_okL h0
      exact Prod.ext h0 this
    · rw [← h2 hL, List.append_assoc]
      rfl
  · rw [if_neg h0] at h1 h2
    refine ⟨h1, fun hL => ?_⟩
    rw [← h1] at hL
    exact absurd hL h0
theorem Rem.done {L : List Tk × Int × Int} {l : List Tk} {s : List B} {a k : Nat} (h : stepS s = .done) (hr : Rem L l (lexS true s a k)) : L = (l, 0, 0) := by
  obtain ⟨h1, h2⟩ := hr
  rw [lex_done h] at h1 h2
  have e1 : L.2.1 = 0 := by rw [← h1]
  have := h2 e1
  rw [List.append_nil] at this
  exact Prod.ext this.symm h1.symm
theorem Rem.bad {L : List Tk × Int × Int} {l : List Tk} {s : List B} {a k : Nat} {e : Int} {g : Nat} (h : stepS s = .bad e g) (hr : Rem L l (lexS true s a k)) : L.2 = (e, ((a + g : Nat) : Int)) := by
  rw [← hr.1, lex_bad h]
theorem Rem.full {L : List Tk × Int × Int} {l : List Tk} {s : List B} {a k : Nat} {kd v : Int} {g n : Nat} (h : stepS s = .tok kd g n v) (hk : 5000 ≤ k) (hr : Rem L l (lexS true s a k)) : L.2 = (3, ((a + g : Nat) : Int)) := by
  rw [← hr.1, lex_full h hk]
/-- what Lex computes -/
def lexAll (s : List B) : List Tk × Int × Int := if 20000 < s.length then ([], 3, -1) else lexS true s 0 0
theorem lexAll_long {s : List B} (h : 20000 < s.length) : lexAll s = ([], 3, -1) := if_pos h
theorem lexAll_short {s : List B} (h : s.length ≤ 20000) : lexAll s = lexS true s 0 0 := if_neg (by omega)
theorem lexAll_err {s : List B} (h : (lexAll s).2.1 ≠ 0) : (lexAll s).1 = [] := by
  unfold lexAll at h ⊢
  split at h
  · rename_i h1; rw [if_pos h1]
  · rename_i h1; rw [if_neg h1]; exact lex_errL h
theorem lexAll_ok {s : List B} (h : (lexAll s).2.1 = 0) : (lexAll s).2.2 = 0 := by
  unfold lexAll at h ⊢
  split at h
  · exact absurd h (by decide)
  · rename_i h1; rw [if_neg h1]; exact lex_okL h
/-- few tokens: their limit does not matter -/
theorem lex_few {s : List B} : ∀ {a k j : Nat}, (lexS false s a j).2.1 = 0 → (lexS false s a j).1.length + k ≤ 5000 → lexS true s a k = lexS false s a j := by
  induction s using lex_ind with
  | h1 s h => intro a k j _ _; rw [lex_done h, lex_done h]
  | h2 s e g h => intro a k j _ _; rw [lex_bad h, lex_bad h]
  | h3 s kd g n v h ih =>
    intro a k j h0 h1
    rw [lex_tok h, if_neg (show ¬ ((false && decide (5000 ≤ j)) = true) by simp)] at h0 h1
    have h2 : (lexS false (s.drop (g + n)) (a + g + n) (j + 1)).2.1 = 0 := by
      split at h0
      · assumption
      · exact h0
    rw [if_pos h2] at h1
    simp only [List.length_cons] at h1
    rw [lex_tok h, lex_tok h, ih h2 (by omega), if_neg (show ¬ ((true && decide (5000 ≤ k)) = true) by simp; omega), if_neg (show ¬ ((false && decide (5000 ≤ j)) = true) by simp)]
theorem lexU_count (s : List B) : ∀ a, (lexU s a).1.length ≤ s.length := by
  induction s using lex_ind with
  | h1 s h => intro a; rw [lexU_done h]; simp
  | h2 s e g h => intro a; rw [lexU_bad h]; simp
  | h3 s kd g n v h ih =>
    intro a
    obtain ⟨_, _, h1, h2⟩ := step_tok h
    rw [lexU_tok h]
    split
    · have := ih (a + g + n)
      rw [List.length_drop] at this
      simp only [List.length_cons]
      omega
    · simp
theorem lexAll_small {s : List B} (h : s.length ≤ 5000) : lexAll s = lexU s 0 := by
  rw [lexAll_short (by omega), lex_small s 0 0 (by omega)]
  rfl
theorem lexAll_few {s : List B} (h : s.length ≤ 20000) (h0 : (lexU s 0).2.1 = 0) (h1 : (lexU s 0).1.length ≤ 5000) : lexAll s = lexU s 0 := by
  rw [lexAll_short h, lex_few (j := 0) h0 (show (lexU s 0).1.length + 0 ≤ 5000 by omega)]
  rfl
end Go.Proofs.YtedeodeejpaioaaDoor.Lx

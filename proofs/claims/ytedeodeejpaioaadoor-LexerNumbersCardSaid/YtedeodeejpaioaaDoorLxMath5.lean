/- The tokens of decimal texts with minus signs or blanks between them. -/
import Derived.Test.YtedeodeejpaioaaDoorLxMath4
namespace Go.Proofs.YtedeodeejpaioaaDoor.Lx

def dg (d : Nat) : B := UInt8.ofNat (48 + d)
theorem dg_nat {d : Nat} (h : d < 10) : (dg d).toNat = 48 + d := by
  unfold dg
  rw [UInt8.toNat_ofNat']
  omega
theorem dg_digit {d : Nat} (h : d < 10) : digit (dg d) = true := by
  unfold digit
  rw [dg_nat h]
  simp
  omega
/-- the decimal text of a number -/
def decS (n : Nat) : List B := if n < 10 then [dg n] else decS (n / 10) ++ [dg (n % 10)]
termination_by n
decreasing_by omega
theorem decS_small {n : Nat} (h : n < 10) : decS n = [dg n] := by rw [decS, if_pos h]
theorem decS_big {n : Nat} (h : ¬ n < 10) : decS n = decS (n / 10) ++ [dg (n % 10)] := by rw [decS, if_neg h]
theorem decS_facts (n : Nat) : (∀ c ∈ decS n, digit c = true) ∧ 1 ≤ (decS n).length ∧ valN (decS n) = n := by
  induction n using Nat.strongRecOn with
  | ind n ih =>
    by_cases h : n < 10
    · rw [decS_small h]
      refine ⟨fun c hc => ?_, by simp, ?_⟩
      · rw [List.mem_singleton] at hc
        rw [hc]
        exact dg_digit h
      · unfold valN
        simp [dg_nat h]
        omega
    · obtain ⟨h1, h2, h3⟩ := ih (n / 10) (by omega)
      rw [decS_big h]
      refine ⟨fun c hc => ?_, by simp, ?_⟩
      · rcases List.mem_append.1 hc with hc | hc
        · exact h1 c hc
        · rw [List.mem_singleton] at hc
          rw [hc]
          exact dg_digit (by omega)
      · unfold valN at h3 ⊢
        rw [List.foldl_append, h3]
        simp [dg_nat (show n % 10 < 10 by omega)]
        omega
theorem decS_len (n : Nat) : ∀ k : Nat, 1 ≤ k → n < 10 ^ k → (decS n).length ≤ k := by
  induction n using Nat.strongRecOn with
  | ind n ih =>
    intro k hk h
    by_cases h10 : n < 10
    · rw [decS_small h10]
      simpa using hk
    · rw [decS_big h10, List.length_append]
      obtain ⟨j, rfl⟩ : ∃ j, k = j + 1 := ⟨k - 1, by omega⟩
      rw [Nat.pow_succ] at h
      have hj : 1 ≤ j := by
        rcases Nat.eq_zero_or_pos j with h0 | h0
        · subst h0; simp at h; omega
        · exact h0
      have := ih (n / 10) (by omega) j hj (by omega)
      simp
      omega
theorem numN_all : ∀ s : List B, (∀ c ∈ s, digit c = true) → numN s = s.length
  | [], _ => rfl
  | c :: s, h => by rw [numN, if_pos (h c (by simp)), numN_all s (fun c' h' => h c' (List.mem_cons_of_mem _ h'))]; rfl
theorem digit_letter {c : B} (h : digit c = true) : letter c = false := by
  unfold digit at h
  unfold letter
  simp at h ⊢
  omega
/-- a text of digits is a number -/
theorem tok_digits {s : List B} (h : ∀ c ∈ s, digit c = true) (h1 : 1 ≤ s.length) (h2 : s.length ≤ 12) : tokS s = .tok 2 s.length (valN s) := by
  cases s with
  | nil => simp at h1
  | cons c t =>
    have hc := h c (by simp)
    rw [tokS, if_neg (by rw [digit_letter hc]; simp), if_pos hc, numN_all _ h, List.drop_length, List.take_length, if_neg]
    rintro (h' | h')
    · omega
    · cases h'
theorem step_digits {s : List B} (h : ∀ c ∈ s, digit c = true) (h1 : 1 ≤ s.length) (h2 : s.length ≤ 12) : stepS s = .tok 2 0 s.length (valN s) := by
  have ht := tok_digits h h1 h2
  have hg : gapN s false = 0 := by
    cases s with
    | nil => rfl
    | cons c t => exact gap_none ht t
  rw [step_mk hg (by omega), List.drop_zero, ht]
  rfl
theorem minus_step (r : List B) : stepS (45 :: r) = .tok 3 0 1 0 := by
  have ht : tokS (45 :: r) = .tok 3 1 0 := by
    rw [tokS, if_neg (by decide), if_neg (by decide), if_pos (by decide)]
  rw [step_mk (g := 0) (gap_none ht r) (by simp), List.drop_zero, ht]
  rfl
def sepB (minus : Bool) : B := if minus then 45 else 32
theorem sep_stop (minus : Bool) : Stop (sepB minus) := by
  cases minus
  · exact stop_blank
  · exact stop_minus
/-- decimal texts with minus signs or blanks between them -/
def textS (minus : Bool) : List Nat → List B
  | [] => []
  | n :: l => if l = [] then decS n else decS n ++ sepB minus :: textS minus l
def tokL (minus : Bool) : List Nat → List (Int × List B × Int)
  | [] => []
  | n :: l => if l = [] then [(2, decS n, (n : Int))] else (2, decS n, (n : Int)) :: (if minus then (3, [45], 0) :: tokL minus l else tokL minus l)
theorem text_snoc (minus : Bool) (n : Nat) : ∀ l : List Nat, textS minus (l ++ [n]) = textS minus l ++ ((if l = [] then [] else [sepB minus]) ++ decS n)
  | [] => by simp [textS]
  | m :: l => by
    rw [List.cons_append, textS, textS, if_neg (by simp), if_neg (by simp : ¬ (m :: l = [])), text_snoc minus n l]
    by_cases h : l = []
    · subst h
      simp [textS]
    · rw [if_neg h, if_neg h]
      simp
theorem numbers_has (minus : Bool) : ∀ (l : List Nat), (∀ n ∈ l, n < 1000000000000) → ∀ a, Has (lexU (textS minus l) a) (tokL minus l)
  | [], _, a => by
    rw [textS, lexU_done (step_done.2 rfl)]
    exact ⟨rfl, rfl⟩
  | n :: l, h, a => by
    obtain ⟨h1, h2, h3⟩ := decS_facts n
    have h4 := decS_len n 12 (by omega) (by have := h n (by simp); simpa using this)
    have hs := step_digits h1 h2 h4
    rw [h3] at hs
    rw [textS, tokL]
    by_cases hl : l = []
    · rw [if_pos hl, if_pos hl, has_cons hs]
      refine ⟨[], by rw [List.drop_zero, List.take_length], ?_⟩
      rw [Nat.zero_add, List.drop_length, lexU_done (step_done.2 rfl)]
      exact ⟨rfl, rfl⟩
    · rw [if_neg hl, if_neg hl]
      have hs2 := step_stop (sep_stop minus) (textS minus l) (s := decS n) (by rw [hs]; simp)
      rw [hs] at hs2
      rw [has_cons hs2]
      refine ⟨_, by rw [List.drop_zero, List.take_append_of_le_length (Nat.le_refl _), List.take_length], ?_⟩
      rw [Nat.zero_add, List.drop_append_of_le_length (Nat.le_refl _), List.drop_length, List.nil_append]
      have ih := numbers_has minus l (fun m hm => h m (List.mem_cons_of_mem _ hm))
      cases minus with
      | false =>
        show Has (lexU (32 :: textS false l) _) _
        rw [lexU_blank]
        exact ih _
      | true =>
        show Has (lexU (45 :: textS true l) _) _
        rw [has_cons (minus_step _)]
        exact ⟨_, rfl, ih _⟩
end Go.Proofs.YtedeodeejpaioaaDoor.Lx

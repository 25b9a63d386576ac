/- Tokens of a text, as lists of bytes: what Lex computes. -/
import Derived.RowKit
namespace Go.Proofs.YtedeodeejpaioaaDoor.Lx

abbrev B := UInt8
def letter (c : B) : Bool := (decide (97 ≤ c.toNat) && decide (c.toNat ≤ 122)) || (decide (65 ≤ c.toNat) && decide (c.toNat ≤ 90))
def digit (c : B) : Bool := decide (48 ≤ c.toNat) && decide (c.toNat ≤ 57)
def word (c : B) : Bool := letter c || digit c || c.toNat == 95
def sym (c : B) : Bool := [59, 58, 44, 61, 47, 45, 40, 41, 123, 125].contains c.toNat
/-- the number of bytes of the gaps at the beginning; in a comment or not -/
def gapN : List B → Bool → Nat
  | [], _ => 0
  | c :: s, cm => if c.toNat = 10 then gapN s false + 1 else if c.toNat = 35 then gapN s true + 1 else if (cm || (c.toNat == 32 || c.toNat == 9)) = true then gapN s cm + 1 else 0
def hd (p : B → Bool) : List B → Bool
  | [] => false
  | c :: _ => p c
def nameN : List B → Nat
  | [] => 0
  | c :: s => if (word c || (c.toNat == 46 && hd word s)) = true then nameN s + 1 else 0
def numN : List B → Nat
  | [] => 0
  | c :: s => if digit c = true then numN s + 1 else 0
def valN (s : List B) : Int := s.foldl (fun v c => 10 * v + ((c.toNat : Int) - 48)) 0
def after (c : B) : Bool := letter c || c.toNat == 95
/-- the token at the beginning: its kind, length and value, or an error -/
inductive Res where
  | tok (kd : Int) (n : Nat) (v : Int)
  | err (e : Int)
def tokS : List B → Res
  | [] => .err 4
  | c :: s => if letter c = true then (if 24 < nameN (c :: s) then .err 3 else .tok 1 (nameN (c :: s)) 0)
    else if digit c = true then (if 12 < numN (c :: s) ∨ hd after ((c :: s).drop (numN (c :: s))) = true then .err 5 else .tok 2 (numN (c :: s)) (valN ((c :: s).take (numN (c :: s)))))
    else if sym c = true then .tok 3 1 0 else .err 4
/-- what comes next in a text -/
inductive St where
  | done
  | bad (e : Int) (g : Nat)
  | tok (kd : Int) (g n : Nat) (v : Int)
def stOf (g : Nat) : Res → St
  | .err e => .bad e g
  | .tok kd n v => .tok kd g n v
def stepS (s : List B) : St := match s.drop (gapN s false) with
  | [] => .done
  | c :: r => stOf (gapN s false) (tokS (c :: r))
structure Tk where
  kd : Int
  tx : List B
  n : Int
  off : Nat

theorem gapN_le : ∀ (s : List B) (cm : Bool), gapN s cm ≤ s.length
  | [], _ => Nat.le_refl _
  | c :: s, cm => by
    have h1 := gapN_le s false
    have h2 := gapN_le s true
    have h3 := gapN_le s cm
    rw [gapN, List.length_cons]
    split
    · omega
    · split
      · omega
      · split <;> omega
theorem nameN_le : ∀ s : List B, nameN s ≤ s.length
  | [] => Nat.le_refl _
  | c :: s => by
    have := nameN_le s
    rw [nameN, List.length_cons]
    split <;> omega
theorem numN_le : ∀ s : List B, numN s ≤ s.length
  | [] => Nat.le_refl _
  | c :: s => by
    have := numN_le s
    rw [numN, List.length_cons]
    split <;> omega
theorem tok_len {s : List B} {kd v : Int} {n : Nat} (h : tokS s = .tok kd n v) : 1 ≤ n ∧ n ≤ s.length := by
  cases s with
  | nil => cases h
  | cons c s =>
    have a := nameN_le (c :: s)
    have b := numN_le (c :: s)
    rw [tokS] at h
    split at h
    · rename_i hl
      split at h
      · cases h
      · cases h
        refine ⟨?_, a⟩
        rw [nameN, if_pos (by unfold word; rw [hl]; rfl)]
        omega
    · split at h
      · rename_i hd
        split at h
        · cases h
        · cases h
          refine ⟨?_, b⟩
          rw [numN, if_pos hd]
          omega
      · split at h
        · cases h
          simp
        · cases h
theorem step_tok {s : List B} {kd v : Int} {g n : Nat} (h : stepS s = .tok kd g n v) : g = gapN s false ∧ tokS (s.drop g) = .tok kd n v ∧ 1 ≤ n ∧ g + n ≤ s.length := by
  unfold stepS at h
  cases hs : s.drop (gapN s false) with
  | nil => rw [hs] at h; cases h
  | cons c r =>
    rw [hs] at h
    dsimp only at h
    cases ht : tokS (c :: r) with
    | err e => rw [ht] at h; cases h
    | tok kd' n' v' =>
      rw [ht] at h
      cases h
      have hl := tok_len ht
      have := congrArg List.length hs
      rw [List.length_drop] at this
      exact ⟨rfl, by rw [hs, ht], hl.1, by omega⟩
theorem step_bad {s : List B} {e : Int} {g : Nat} (h : stepS s = .bad e g) : g = gapN s false ∧ g < s.length ∧ tokS (s.drop g) = .err e := by
  unfold stepS at h
  cases hs : s.drop (gapN s false) with
  | nil => rw [hs] at h; cases h
  | cons c r =>
    rw [hs] at h
    dsimp only at h
    cases ht : tokS (c :: r) with
    | tok kd' n' v' => rw [ht] at h; cases h
    | err e' =>
      rw [ht] at h
      cases h
      have := congrArg List.length hs
      rw [List.length_drop, List.length_cons] at this
      exact ⟨rfl, by omega, by rw [hs, ht]⟩
theorem step_done {s : List B} : stepS s = .done ↔ gapN s false = s.length := by
  unfold stepS
  have hle := gapN_le s false
  cases hs : s.drop (gapN s false) with
  | nil =>
    have := List.drop_eq_nil_iff.1 hs
    exact ⟨fun _ => by omega, fun _ => rfl⟩
  | cons c r =>
    have := congrArg List.length hs
    rw [List.length_drop, List.length_cons] at this
    refine ⟨fun h => ?_, fun h => by omega⟩
    dsimp only at h
    cases ht : tokS (c :: r) with
    | tok kd n v => rw [ht] at h; cases h
    | err e => rw [ht] at h; cases h
/-- the tokens, the error, its offset; a is the offset of the text, k the number of tokens before it, lim whether there is a limit -/
def lexS (lim : Bool) (s : List B) (a k : Nat) : List Tk × Int × Int :=
  match h : stepS s with
  | .done => ([], 0, 0)
  | .bad e g => ([], e, ((a + g : Nat) : Int))
  | .tok kd g n v => if (lim && decide (5000 ≤ k)) = true then ([], 3, ((a + g : Nat) : Int)) else
    (if (lexS lim (s.drop (g + n)) (a + g + n) (k + 1)).2.1 = 0 then (⟨kd, (s.drop g).take n, v, a + g⟩ :: (lexS lim (s.drop (g + n)) (a + g + n) (k + 1)).1, 0, 0) else ([], (lexS lim (s.drop (g + n)) (a + g + n) (k + 1)).2))
termination_by s.length
decreasing_by all_goals (have := step_tok h; rw [List.length_drop]; omega)
theorem lex_done {lim : Bool} {s : List B} {a k : Nat} (h : stepS s = .done) : lexS lim s a k = ([], 0, 0) := by
  rw [lexS]
  split <;> simp_all
theorem lex_bad {lim : Bool} {s : List B} {a k : Nat} {e : Int} {g : Nat} (h : stepS s = .bad e g) : lexS lim s a k = ([], e, ((a + g : Nat) : Int)) := by
  rw [lexS]
  split <;> simp_all
theorem lex_tok {lim : Bool} {s : List B} {a k : Nat} {kd v : Int} {g n : Nat} (h : stepS s = .tok kd g n v) : lexS lim s a k =
    if (lim && decide (5000 ≤ k)) = true then ([], 3, ((a + g : Nat) : Int)) else
    (if (lexS lim (s.drop (g + n)) (a + g + n) (k + 1)).2.1 = 0 then (⟨kd, (s.drop g).take n, v, a + g⟩ :: (lexS lim (s.drop (g + n)) (a + g + n) (k + 1)).1, 0, 0) else ([], (lexS lim (s.drop (g + n)) (a + g + n) (k + 1)).2)) := by
  rw [lexS]
  split
  · rename_i h'; rw [h] at h'; cases h'
  · rename_i h'; rw [h] at h'; cases h'
  · rename_i h'; rw [h] at h'; cases h'; rfl
/-- induction along the tokens of a text -/
theorem lex_ind {P : List B → Prop} (h1 : ∀ s, stepS s = .done → P s) (h2 : ∀ s e g, stepS s = .bad e g → P s) (h3 : ∀ s kd g n v, stepS s = .tok kd g n v → P (s.drop (g + n)) → P s) : ∀ s, P s := by
  intro s
  obtain ⟨m, hm⟩ : ∃ m, s.length = m := ⟨_, rfl⟩
  induction m using Nat.strongRecOn generalizing s with
  | ind m ih =>
    cases hs : stepS s with
    | done => exact h1 s hs
    | bad e g => exact h2 s e g hs
    | tok kd g n v =>
      have := step_tok hs
      exact h3 s kd g n v hs (ih _ (by rw [List.length_drop]; omega) (s.drop (g + n)) rfl)
/-- few bytes: the limit of tokens does not matter -/
theorem lex_small : ∀ (s : List B) (a k : Nat), s.length + k ≤ 5000 → lexS true s a k = lexS false s a 0 := by
  have key : ∀ (s : List B) (a k j : Nat), s.length + k ≤ 5000 → lexS true s a k = lexS false s a j := by
    intro s
    induction s using lex_ind with
    | h1 s h => intro a k j _; rw [lex_done h, lex_done h]
    | h2 s e g h => intro a k j _; rw [lex_bad h, lex_bad h]
    | h3 s kd g n v h ih =>
      intro a k j hk
      have hst := step_tok h
      have e := ih (a + g + n) (k + 1) (j + 1) (by rw [List.length_drop]; omega)
      rw [lex_tok h, lex_tok h, e, if_neg (show ¬ ((true && decide (5000 ≤ k)) = true) by simp; omega), if_neg (show ¬ ((false && decide (5000 ≤ j)) = true) by simp)]
  exact fun s a k h => key s a k 0 h
/-- without a limit the number of tokens before does not matter -/
theorem lex_count : ∀ (s : List B) (a k j : Nat), lexS false s a k = lexS false s a j := by
  intro s
  induction s using lex_ind with
  | h1 s h => intro a k j; rw [lex_done h, lex_done h]
  | h2 s e g h => intro a k j; rw [lex_bad h, lex_bad h]
  | h3 s kd g n v h ih =>
    intro a k j
    rw [lex_tok h, lex_tok h, ih (a + g + n) (k + 1) (j + 1), if_neg (show ¬ ((false && decide (5000 ≤ k)) = true) by simp), if_neg (show ¬ ((false && decide (5000 ≤ j)) = true) by simp)]
end Go.Proofs.YtedeodeejpaioaaDoor.Lx

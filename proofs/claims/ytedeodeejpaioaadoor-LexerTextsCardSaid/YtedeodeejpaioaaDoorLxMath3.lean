/- The tokens of parts and beginnings of a text; where tokens stand. -/
import Derived.Test.YtedeodeejpaioaaDoorLxMath2
namespace Go.Proofs.YtedeodeejpaioaaDoor.Lx

/-- the tokens of a text at offset a, without a limit of tokens -/
def lexU (s : List B) (a : Nat) : List Tk × Int × Int := lexS false s a 0
theorem lexU_done {s : List B} (h : stepS s = .done) (a : Nat) : lexU s a = ([], 0, 0) := lex_done h
theorem lexU_bad {s : List B} {e : Int} {g : Nat} (h : stepS s = .bad e g) (a : Nat) : lexU s a = ([], e, ((a + g : Nat) : Int)) := lex_bad h
theorem lexU_tok {s : List B} {kd v : Int} {g n : Nat} (h : stepS s = .tok kd g n v) (a : Nat) : lexU s a =
    if (lexU (s.drop (g + n)) (a + g + n)).2.1 = 0 then (⟨kd, (s.drop g).take n, v, a + g⟩ :: (lexU (s.drop (g + n)) (a + g + n)).1, 0, 0) else ([], (lexU (s.drop (g + n)) (a + g + n)).2) := by
  unfold lexU
  rw [lex_tok h, if_neg (show ¬ ((false && decide (5000 ≤ 0)) = true) by simp), lex_count _ _ (0 + 1) 0]
theorem tok_err {s : List B} {e : Int} (h : tokS s = .err e) : e = 3 ∨ e = 4 ∨ e = 5 := by
  cases s with
  | nil => cases h; simp
  | cons c t =>
    rw [tokS] at h
    split at h
    · split at h
      · cases h; simp
      · cases h
    · split at h
      · split at h
        · cases h; simp
        · cases h
      · split at h
        · cases h
        · cases h; simp
theorem bad_err {s : List B} {e : Int} {g : Nat} (h : stepS s = .bad e g) : e ≠ 0 := by
  have := tok_err (step_bad h).2.2
  omega
theorem lexU_ok {s : List B} : ∀ {a : Nat}, (lexU s a).2.1 = 0 → lexU s a = ((lexU s a).1, 0, 0) := by
  induction s using lex_ind with
  | h1 s h => intro a _; rw [lexU_done h]
  | h2 s e g h => intro a h0; rw [lexU_bad h] at h0; exact absurd h0 (bad_err h)
  | h3 s kd g n v h ih =>
    intro a h0
    rw [lexU_tok h] at h0 ⊢
    split
    · rfl
    · rename_i h1
      rw [if_neg h1] at h0
      exact absurd h0 h1
theorem lexU_err {s : List B} : ∀ {a : Nat}, (lexU s a).2.1 ≠ 0 → (lexU s a).1 = [] ∧ ∃ k : Nat, (lexU s a).2.2 = ((a + k : Nat) : Int) ∧ k < s.length := by
  induction s using lex_ind with
  | h1 s h => intro a h0; rw [lexU_done h] at h0; exact absurd rfl h0
  | h2 s e g h => intro a _; rw [lexU_bad h]; exact ⟨rfl, g, rfl, (step_bad h).2.1⟩
  | h3 s kd g n v h ih =>
    intro a h0
    have hl := step_tok h
    rw [lexU_tok h] at h0 ⊢
    split
    · rename_i h1
      rw [if_pos h1] at h0
      exact absurd rfl h0
    · rename_i h1
      obtain ⟨_, k, h2, h3⟩ := ih h1
      rw [List.length_drop] at h3
      exact ⟨rfl, g + n + k, by rw [h2]; congr 1; omega, by omega⟩
/-- one text behind another one -/
def joinU (x y : List Tk × Int × Int) : List Tk × Int × Int := if x.2.1 = 0 then (if y.2.1 = 0 then (x.1 ++ y.1, 0, 0) else ([], y.2)) else x
theorem joinU_nil (y : List Tk × Int × Int) (h : y.2.1 = 0 → y.2.2 = 0) (h' : y.2.1 ≠ 0 → y.1 = []) : joinU ([], 0, 0) y = y := by
  obtain ⟨ts, e, o⟩ := y
  unfold joinU
  rw [if_pos rfl]
  by_cases h0 : e = 0
  · have := h h0
    dsimp only at this ⊢
    subst this h0
    simp
  · have := h' h0
    dsimp only at this ⊢
    rw [if_neg h0, this]
theorem joinU_lex (r : List B) (a : Nat) : joinU ([], 0, 0) (lexU r a) = lexU r a :=
  joinU_nil _ (fun h => by rw [lexU_ok h]) (fun h => (lexU_err h).1)
/-- a text that begins as another one, d bytes later -/
theorem lexU_pre {s r : List B} {d : Nat} (h : stepS s = shSt d (stepS r)) (hd' : ∀ x, s.drop (d + x) = r.drop x) (a : Nat) : lexU s a = lexU r (a + d) := by
  cases hr : stepS r with
  | done =>
    rw [hr] at h
    rw [lexU_done hr, lexU_done h]
  | bad e g =>
    rw [hr] at h
    rw [lexU_bad hr, lexU_bad h, Nat.add_assoc]
  | tok kd g n v =>
    rw [hr] at h
    rw [lexU_tok hr, lexU_tok h, Nat.add_assoc d g n, hd', hd', show a + (d + g) + n = a + d + g + n by omega, show a + (d + g) = a + d + g by omega]
theorem lexU_line {s : List B} (h : stepS s = .done) (r : List B) (a : Nat) : lexU (s ++ 10 :: r) a = lexU r (a + (s.length + 1)) :=
  lexU_pre (step_line h r) (fun x => by rw [List.drop_append, List.drop_eq_nil_of_le (by omega), List.nil_append, show s.length + 1 + x - s.length = x + 1 by omega, List.drop_succ_cons]) a
/-- the tokens of two texts with a line feed between them -/
theorem lexU_parts (r : List B) (s : List B) : ∀ a : Nat, lexU (s ++ 10 :: r) a = joinU (lexU s a) (lexU r (a + (s.length + 1))) := by
  induction s using lex_ind with
  | h1 s h => intro a; rw [lexU_done h, joinU_lex, lexU_line h]
  | h2 s e g h =>
    intro a
    have h' := step_stop stop_lf r (s := s) (by rw [h]; simp)
    rw [h] at h'
    rw [lexU_bad h, lexU_bad h', joinU, if_neg (bad_err h)]
  | h3 s kd g n v h ih =>
    intro a
    have hl := step_tok h
    have h' := step_stop stop_lf r (s := s) (by rw [h]; simp)
    rw [h] at h'
    rw [lexU_tok h, lexU_tok h', List.drop_append_of_le_length (by omega), ih, List.drop_append_of_le_length (by omega), List.take_append_of_le_length (by rw [List.length_drop]; omega), List.length_drop, show a + g + n + (s.length - (g + n) + 1) = a + (s.length + 1) by omega]
    unfold joinU
    by_cases h1 : (lexU (s.drop (g + n)) (a + g + n)).2.1 = 0
    · rw [if_pos h1, if_pos h1]
      by_cases h2 : (lexU r (a + (s.length + 1))).2.1 = 0
      · simp [h2]
      · simp [h2]
    · rw [if_neg h1, if_neg h1]
      simp [h1]
def shU (d : Nat) (x : List Tk × Int × Int) : List Tk × Int × Int := (x.1.map fun t => { t with off := t.off + d }, x.2.1, if x.2.1 = 0 then 0 else x.2.2 + d)
theorem lexU_shift (d : Nat) (s : List B) : ∀ a : Nat, lexU s (a + d) = shU d (lexU s a) := by
  induction s using lex_ind with
  | h1 s h => intro a; rw [lexU_done h, lexU_done h]; rfl
  | h2 s e g h =>
    intro a
    rw [lexU_bad h, lexU_bad h]
    unfold shU
    rw [if_neg (bad_err h)]
    simp
    omega
  | h3 s kd g n v h ih =>
    intro a
    rw [lexU_tok h, lexU_tok h, show a + d + g + n = a + g + n + d by omega, ih]
    by_cases h1 : (lexU (s.drop (g + n)) (a + g + n)).2.1 = 0
    · rw [if_pos h1, if_pos (show (shU d _).2.1 = 0 from h1)]
      unfold shU
      simp
      omega
    · rw [if_neg h1, if_neg (show ¬ (shU d _).2.1 = 0 from h1)]
      unfold shU
      simp
/-- each token stands at its offset; there are only gaps between them -/
def Chain (s : List B) : Nat → List Tk → Prop
  | e, [] => gapN (s.drop e) false = (s.drop e).length
  | e, t :: ts => e ≤ t.off ∧ t.off + t.tx.length ≤ s.length ∧ t.tx ≠ [] ∧ (s.drop t.off).take t.tx.length = t.tx ∧ gapN ((s.drop e).take (t.off - e)) false = t.off - e ∧ Chain s (t.off + t.tx.length) ts
theorem lexU_chain (s r : List B) : ∀ e : Nat, r = s.drop e → e ≤ s.length → (lexU r e).2.1 = 0 → Chain s e (lexU r e).1 := by
  induction r using lex_ind with
  | h1 r h =>
    intro e hr he _
    rw [lexU_done h]
    subst hr
    exact step_done.1 h
  | h2 r er g h =>
    intro e hr he h0
    rw [lexU_bad h] at h0
    exact absurd h0 (bad_err h)
  | h3 r kd g n v h ih =>
    intro e hr he h0
    obtain ⟨hg, ht, h1, h2⟩ := step_tok h
    rw [lexU_tok h] at h0 ⊢
    have hl : r.length = s.length - e := by rw [hr, List.length_drop]
    split at h0
    · rename_i h3
      rw [if_pos h3]
      have hx : ((r.drop g).take n).length = n := by rw [List.length_take, List.length_drop]; omega
      have := ih (e + g + n) (by rw [hr, List.drop_drop]; congr 1; omega) (by omega) h3
      refine ⟨by simp, by rw [hx]; simp; omega, fun h4 => by rw [show (r.drop g).take n = [] from h4] at hx; simp at hx; omega, ?_, ?_, ?_⟩
      · dsimp only
        rw [hx, hr, List.drop_drop]
      · dsimp only
        rw [show e + g - e = g by omega, ← hr, gapN_cut r false g (by omega), hg]
      · dsimp only
        rw [hx]
        exact this
    · rename_i h3
      exact absurd h0 h3
/-- the text before an error has none -/
theorem lexU_begin (s : List B) : ∀ (a b k : Nat), (lexU s a).2.1 ≠ 0 → (lexU s a).2.2 = ((a + k : Nat) : Int) → (lexU (s.take k) b).2.1 = 0 := by
  induction s using lex_ind with
  | h1 s h => intro a b k h0; rw [lexU_done h] at h0; exact absurd rfl h0
  | h2 s e g h =>
    intro a b k _ hk
    rw [lexU_bad h] at hk
    have hk : ((a + g : Nat) : Int) = ((a + k : Nat) : Int) := hk
    obtain rfl : k = g := by omega
    obtain ⟨hg, hl, _⟩ := step_bad h
    rw [lexU_done (step_done.2 (by rw [gapN_cut s false k (by omega), List.length_take]; omega))]
  | h3 s kd g n v h ih =>
    intro a b k h0 hk
    obtain ⟨hg, ht, h1, h2⟩ := step_tok h
    rw [lexU_tok h] at h0 hk
    split at h0
    · exact absurd rfl h0
    · rename_i h3
      rw [if_neg h3] at hk
      obtain ⟨_, j, hj, hjl⟩ := lexU_err h3
      have hj2 : (lexU (s.drop (g + n)) (a + g + n)).2.2 = ((a + k : Nat) : Int) := hk
      obtain rfl : k = g + n + j := by omega
      have := ih (a + g + n) (b + g + n) j h3 hj
      rw [lexU_tok (step_cut h (by omega)), List.drop_take, show g + n + j - (g + n) = j by omega, if_pos this]
theorem tok_err4 {c : B} {t t' : List B} (h : tokS (c :: t) = .err 4) : tokS (c :: t') = .err 4 := by
  rw [tokS] at h ⊢
  split at h
  · split at h <;> cases h
  · rename_i h1
    split at h
    · split at h <;> cases h
    · rename_i h2
      rw [if_neg h1, if_neg h2]
      exact h
/-- at a byte that begins no token, only this one and the next one matter of the rest -/
theorem lexU_other (r : List B) (s : List B) : ∀ (a k : Nat), lexU s a = ([], 4, ((a + k : Nat) : Int)) → k + 2 ≤ s.length → lexU (s.take (k + 2) ++ r) a = ([], 4, ((a + k : Nat) : Int)) := by
  induction s using lex_ind with
  | h1 s h => intro a k h0; rw [lexU_done h] at h0; cases h0
  | h2 s e g h =>
    intro a k h0 hk
    rw [lexU_bad h] at h0
    simp only [Prod.mk.injEq, true_and] at h0
    obtain ⟨rfl, h0⟩ := h0
    obtain rfl : k = g := by omega
    obtain ⟨hg, hl, ht⟩ := step_bad h
    have hlen : (s.take (k + 2)).length = k + 2 := by rw [List.length_take]; omega
    have e1 : gapN (s.take (k + 2) ++ r) false = k := by
      refine (gapN_agree s _ false ?_).trans hg.symm
      rw [← hg, List.take_append_of_le_length (by omega), List.take_take, Nat.min_eq_left (by omega)]
    have e2 : stepS (s.take (k + 2) ++ r) = .bad 4 k := by
      rw [step_mk e1 (by rw [List.length_append]; omega), List.drop_append_of_le_length (by omega), List.drop_take]
      cases hs : s.drop k with
      | nil => rw [hs] at ht; have := List.drop_eq_nil_iff.1 hs; omega
      | cons c t =>
        rw [hs] at ht
        rw [show k + 2 - k = 1 + 1 by omega, List.take_succ_cons, List.cons_append, tok_err4 ht]
        rfl
    rw [lexU_bad e2]
  | h3 s kd g n v h ih =>
    intro a k h0 hk
    obtain ⟨hg, ht, h1, h2⟩ := step_tok h
    rw [lexU_tok h] at h0
    split at h0
    · cases h0
    · rename_i h3
      obtain ⟨h4, j, hj, hjl⟩ := lexU_err h3
      have h5 := (Prod.mk.inj h0).2
      have h6 : (lexU (s.drop (g + n)) (a + g + n)).2.2 = ((a + k : Nat) : Int) := by rw [h5]
      obtain rfl : k = g + n + j := by omega
      have h7 : lexU (s.drop (g + n)) (a + g + n) = ([], 4, ((a + g + n + j : Nat) : Int)) := by
        rw [show a + g + n + j = a + (g + n + j) by omega, ← h5, ← h4]
      have h8 := ih (a + g + n) j h7 (by rw [List.length_drop]; omega)
      have hlen : (s.take (g + n + j + 2)).length = g + n + j + 2 := by rw [List.length_take]; omega
      have e2 : stepS (s.take (g + n + j + 2) ++ r) = .tok kd g n v := step_agree h (by
        rw [List.take_append_of_le_length (by omega), List.take_take, Nat.min_eq_left (by omega)])
      have e3 : (s.take (g + n + j + 2) ++ r).drop (g + n) = (s.drop (g + n)).take (j + 2) ++ r := by
        rw [List.drop_append_of_le_length (by omega), List.drop_take, show g + n + j + 2 - (g + n) = j + 2 by omega]
      rw [lexU_tok e2, e3, h8, if_neg (show ¬ ((4 : Int) = 0) by decide), show a + g + n + j = a + (g + n + j) by omega]
end Go.Proofs.YtedeodeejpaioaaDoor.Lx

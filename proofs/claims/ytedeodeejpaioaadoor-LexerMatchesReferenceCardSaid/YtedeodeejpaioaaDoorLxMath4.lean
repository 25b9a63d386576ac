/- The tokens of their own texts; further gaps. -/
import Derived.Test.YtedeodeejpaioaaDoorLxMath3
namespace Go.Proofs.YtedeodeejpaioaaDoor.Lx

/-- a token without its offset -/
def bare (t : Tk) : Int × List B × Int := (t.kd, t.tx, t.n)
/-- no error, and these tokens -/
def Has (x : List Tk × Int × Int) (l : List (Int × List B × Int)) : Prop := x.2.1 = 0 ∧ x.1.map bare = l
theorem Has.shift {s : List B} {a b : Nat} {l : List (Int × List B × Int)} (h : Has (lexU s a) l) : Has (lexU s b) l := by
  have h0 : Has (lexU s 0) l := by
    have e := lexU_shift a s 0
    rw [Nat.zero_add] at e
    rw [e] at h
    refine ⟨h.1, ?_⟩
    rw [← h.2]
    unfold shU
    rw [List.map_map]
    rfl
  have e := lexU_shift b s 0
  rw [Nat.zero_add] at e
  rw [e]
  refine ⟨h0.1, ?_⟩
  rw [← h0.2]
  unfold shU
  rw [List.map_map]
  rfl
theorem gap_none {c : B} {t : List B} {kd v : Int} {n : Nat} (h : tokS (c :: t) = .tok kd n v) (t' : List B) : gapN (c :: t') false = 0 := by
  have hc : letter c = true ∨ digit c = true ∨ sym c = true := by
    rw [tokS] at h
    split at h
    · rename_i h1; exact .inl h1
    · split at h
      · rename_i h1; exact .inr (.inl h1)
      · split at h
        · rename_i h1; exact .inr (.inr h1)
        · cases h
  have hn : c.toNat ≠ 10 ∧ c.toNat ≠ 35 ∧ c.toNat ≠ 32 ∧ c.toNat ≠ 9 := by
    rcases hc with h | h | h
    · simp [letter] at h
      omega
    · simp [digit] at h
      omega
    · simp [sym] at h
      omega
  rw [gapN, if_neg hn.1, if_neg hn.2.1, if_neg (by simp [hn.2.2.1, hn.2.2.2])]
/-- a token's text and a byte behind which it can't go on -/
theorem step_text {s : List B} {kd v : Int} {n : Nat} (h : tokS s = .tok kd n v) {c : B} (hc : Stop c) (r : List B) : stepS (s.take n ++ c :: r) = .tok kd 0 n v := by
  have hl := tok_len h
  have h1 := tok_cut h (Nat.le_refl n)
  have h2 : tokS (s.take n ++ c :: r) = .tok kd n v := by
    rw [tok_stop hc, h1]
    intro h'
    have := congrArg List.length h'
    rw [List.length_take, List.length_nil] at this
    omega
  have hg : gapN (s.take n ++ c :: r) false = 0 := by
    cases hs : s.take n ++ c :: r with
    | nil => rfl
    | cons d t =>
      rw [hs] at h2
      exact gap_none h2 t
  rw [step_mk hg (by rw [List.length_append, List.length_cons]; omega), List.drop_zero, h2]
  rfl
theorem blank_step (r : List B) : stepS (32 :: r) = shSt 1 (stepS r) := by
  have e : gapN (32 :: r) false = gapN r false + 1 := by rw [gapN, if_neg (by decide), if_neg (by decide), if_pos (by decide)]
  have hle := gapN_le r false
  rcases Nat.lt_or_ge (gapN r false) r.length with h' | h'
  · rw [step_mk e (by simp; omega), List.drop_succ_cons, step_mk rfl h']
    cases tokS (r.drop (gapN r false)) with
    | tok kd n v => simp [stOf, shSt, Nat.add_comm]
    | err e => simp [stOf, shSt, Nat.add_comm]
  · rw [step_done.2 (show gapN r false = r.length by omega)]
    exact step_done.2 (by rw [e]; simp; omega)
theorem lexU_blank (r : List B) (a : Nat) : lexU (32 :: r) a = lexU r (a + 1) := lexU_pre (blank_step r) (fun x => by rw [Nat.add_comm, List.drop_succ_cons]) a
/-- the texts of tokens with a blank behind each -/
def againS (l : List (Int × List B × Int)) : List B := l.flatMap fun t => t.2.1 ++ [32]
theorem has_cons {s : List B} {kd v : Int} {g n : Nat} (h : stepS s = .tok kd g n v) {a : Nat} {l : List (Int × List B × Int)} : Has (lexU s a) l ↔ ∃ l', l = (kd, (s.drop g).take n, v) :: l' ∧ Has (lexU (s.drop (g + n)) (a + g + n)) l' := by
  rw [lexU_tok h]
  constructor
  · rintro ⟨h1, h2⟩
    split at h1
    · rename_i h3
      rw [if_pos h3] at h2
      exact ⟨_, h2.symm, h3, rfl⟩
    · rename_i h3
      exact absurd h1 h3
  · rintro ⟨l', rfl, h3, h4⟩
    rw [if_pos h3]
    exact ⟨rfl, by rw [List.map_cons, h4]; rfl⟩
theorem again_has (s : List B) : ∀ (a b : Nat) (l : List (Int × List B × Int)), Has (lexU s a) l → Has (lexU (againS l) b) l := by
  induction s using lex_ind with
  | h1 s h =>
    intro a b l hl
    rw [lexU_done h] at hl
    obtain rfl := hl.2
    rw [lexU_done (step_done.2 rfl)]
    exact ⟨rfl, rfl⟩
  | h2 s e g h =>
    intro a b l hl
    rw [lexU_bad h] at hl
    exact absurd hl.1 (bad_err h)
  | h3 s kd g n v h ih =>
    intro a b l hl
    obtain ⟨l', rfl, h'⟩ := (has_cons h).1 hl
    obtain ⟨_, ht, h1, h2⟩ := step_tok h
    have hx : ((s.drop g).take n).length = n := by rw [List.length_take, List.length_drop]; omega
    have e : againS ((kd, (s.drop g).take n, v) :: l') = (s.drop g).take n ++ 32 :: againS l' := by
      unfold againS
      rw [List.flatMap_cons, List.append_assoc]
      rfl
    rw [e, has_cons (step_text ht stop_blank (againS l'))]
    refine ⟨l', by rw [List.drop_zero, List.take_append_of_le_length (by omega), List.take_take, Nat.min_self], ?_⟩
    rw [List.drop_append, List.drop_eq_nil_of_le (by omega), List.nil_append, show 0 + n - ((s.drop g).take n).length = 0 by omega, List.drop_zero, lexU_blank]
    exact ih _ _ l' h'
/-- a blank at the end changes nothing -/
theorem lexU_end (s : List B) : ∀ (a : Nat) (l : List (Int × List B × Int)), Has (lexU s a) l → Has (lexU (s ++ [32]) a) l := by
  induction s using lex_ind with
  | h1 s h =>
    intro a l hl
    rw [lexU_done h] at hl
    rw [lexU_done (step_done.2 (by rw [gapN_blank s false (step_done.1 h)]; simp))]
    exact hl
  | h2 s e g h =>
    intro a l hl
    rw [lexU_bad h] at hl
    exact absurd hl.1 (bad_err h)
  | h3 s kd g n v h ih =>
    intro a l hl
    obtain ⟨l', rfl, h'⟩ := (has_cons h).1 hl
    obtain ⟨_, ht, h1, h2⟩ := step_tok h
    have hs := step_stop stop_blank [] (s := s) (by rw [h]; simp)
    rw [h] at hs
    rw [has_cons hs]
    refine ⟨l', ?_, ?_⟩
    · rw [List.drop_append_of_le_length (by omega), List.take_append_of_le_length (by rw [List.length_drop]; omega)]
    · rw [List.drop_append_of_le_length (by omega)]
      exact ih _ l' h'
/-- the text cut behind token number i, with a blank and another text behind it -/
theorem lexU_cut (r : List B) (s : List B) : ∀ (a b i : Nat) (t : Tk), (lexU s a).2.1 = 0 → (lexU s a).1[i]? = some t →
    ∃ m, t.off + t.tx.length = a + m ∧ m ≤ s.length ∧ (lexU (s.drop m) (a + m)).2.1 = 0 ∧ (lexU s a).1 = (lexU s a).1.take (i + 1) ++ (lexU (s.drop m) (a + m)).1 ∧
      ∀ l, Has (lexU r b) l → Has (lexU (s.take m ++ 32 :: r) b) (((lexU s a).1.take (i + 1)).map bare ++ l) := by
  induction s using lex_ind with
  | h1 s h =>
    intro a b i t _ h0
    rw [lexU_done h] at h0
    simp at h0
  | h2 s e g h =>
    intro a b i t h0
    rw [lexU_bad h] at h0
    exact absurd h0 (bad_err h)
  | h3 s kd g n v h ih =>
    intro a b i t h0 hi
    obtain ⟨_, ht, h1, h2⟩ := step_tok h
    have h9 : (lexU (s.drop (g + n)) (a + g + n)).2.1 = 0 := by
      rw [lexU_tok h] at h0
      split at h0
      · assumption
      · exact h0
    have hx : ((s.drop g).take n).length = n := by rw [List.length_take, List.length_drop]; omega
    have e0 : (lexU s a).1 = ⟨kd, (s.drop g).take n, v, a + g⟩ :: (lexU (s.drop (g + n)) (a + g + n)).1 := by rw [lexU_tok h, if_pos h9]
    rw [e0] at hi ⊢
    have hcut : ∀ k, stepS (s.take (g + n + k) ++ 32 :: r) = .tok kd g n v := fun k => by
      have hk := step_cut (m := g + n + k) h (by omega)
      have := step_stop stop_blank r (s := s.take (g + n + k)) (by rw [hk]; simp)
      rw [this, hk]
    have hdr : ∀ k, g + n + k ≤ s.length → (s.take (g + n + k) ++ 32 :: r).drop (g + n) = (s.drop (g + n)).take k ++ 32 :: r := fun k hk => by
      rw [List.drop_append_of_le_length (by rw [List.length_take]; omega), List.drop_take, show g + n + k - (g + n) = k by omega]
    have htk : ∀ k, g + n + k ≤ s.length → ((s.take (g + n + k) ++ 32 :: r).drop g).take n = (s.drop g).take n := fun k hk => by
      rw [List.drop_append_of_le_length (by rw [List.length_take]; omega), List.take_append_of_le_length (by rw [List.length_drop, List.length_take]; omega), List.drop_take, List.take_take, Nat.min_eq_left (by omega)]
    cases i with
    | zero =>
      obtain rfl : (⟨kd, (s.drop g).take n, v, a + g⟩ : Tk) = t := by simpa using hi
      refine ⟨g + n, by rw [hx]; simp; omega, h2, by rw [← Nat.add_assoc]; exact h9, by rw [← Nat.add_assoc]; rfl, fun l hl => ?_⟩
      have := hcut 0
      have d0 := hdr 0 (by omega)
      have t0 := htk 0 (by omega)
      rw [Nat.add_zero] at this d0 t0
      rw [has_cons this, d0, t0]
      refine ⟨l, rfl, ?_⟩
      rw [List.take_zero, List.nil_append, lexU_blank]
      exact hl.shift
    | succ i =>
      have hi' : (lexU (s.drop (g + n)) (a + g + n)).1[i]? = some t := by simpa using hi
      obtain ⟨m, h3, h4, h5, h6, h7⟩ := ih (a + g + n) b i t h9 hi'
      rw [List.length_drop] at h4
      refine ⟨g + n + m, by omega, by omega, ?_, ?_, fun l hl => ?_⟩
      · rw [show a + (g + n + m) = a + g + n + m by omega, show s.drop (g + n + m) = (s.drop (g + n)).drop m by rw [List.drop_drop]]
        exact h5
      · rw [show a + (g + n + m) = a + g + n + m by omega, show s.drop (g + n + m) = (s.drop (g + n)).drop m by rw [List.drop_drop], List.take_succ_cons, List.cons_append, ← h6]
      · rw [has_cons (hcut m), hdr m (by omega), htk m (by omega), List.take_succ_cons, List.map_cons, List.cons_append]
        exact ⟨_, rfl, (h7 l hl).shift⟩
/-- gaps and a line feed ahead of a text -/
theorem has_line {g : List B} (hg : gapN g false = g.length) {r : List B} {a : Nat} {l : List (Int × List B × Int)} (h : Has (lexU r a) l) : Has (lexU (g ++ 10 :: r) a) l := by
  rw [lexU_line (step_done.2 hg)]
  exact h.shift
theorem has_end {g : List B} (hg : gapN g false = g.length) {s : List B} {a : Nat} {l : List (Int × List B × Int)} (h : Has (lexU s a) l) : Has (lexU (s ++ 32 :: 10 :: g) a) l := by
  have h1 := lexU_end s a l h
  rw [show s ++ 32 :: 10 :: g = (s ++ [32]) ++ 10 :: g by simp, lexU_parts, lexU_done (step_done.2 hg)]
  unfold joinU
  rw [if_pos h1.1, if_pos rfl]
  exact ⟨rfl, by rw [List.append_nil]; exact h1.2⟩
/-- further gaps, where the text has tokens -/
theorem gaps_at {g s : List B} (hg : gapN g false = g.length) (h0 : (lexU s 0).2.1 = 0) {i : Nat} {t : Tk} (hi : (lexU s 0).1[i]? = some t) :
    Has (lexU (g ++ 10 :: (s.take (t.off + t.tx.length) ++ 32 :: (g ++ 10 :: (s.drop (t.off + t.tx.length) ++ 32 :: 10 :: g)))) 0) ((lexU s 0).1.map bare) := by
  obtain ⟨m, h1, h2, h3, h4, h5⟩ := lexU_cut (g ++ 10 :: (s.drop (t.off + t.tx.length) ++ 32 :: 10 :: g)) s 0 0 i t h0 hi
  rw [Nat.zero_add] at h1 h3 h4
  rw [h1] at h5 ⊢
  refine has_line hg ?_
  have h6 := h5 ((lexU (s.drop m) m).1.map bare) (has_line hg (has_end hg (Has.shift (a := m) ⟨h3, rfl⟩)))
  rwa [← List.map_append, ← h4] at h6
/-- further gaps, where it has none -/
theorem gaps_none {g s : List B} (hg : gapN g false = g.length) (h0 : (lexU s 0).2.1 = 0) :
    Has (lexU (g ++ 10 :: 32 :: (g ++ 10 :: (s ++ 32 :: 10 :: g))) 0) ((lexU s 0).1.map bare) := by
  refine has_line hg ?_
  rw [lexU_blank]
  exact (has_line hg (has_end hg (a := 0) ⟨h0, rfl⟩)).shift
end Go.Proofs.YtedeodeejpaioaaDoor.Lx

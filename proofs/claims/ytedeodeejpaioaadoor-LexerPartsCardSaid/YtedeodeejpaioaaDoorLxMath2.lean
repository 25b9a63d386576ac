/- Of which bytes of a text its tokens depend. -/
import Derived.Test.YtedeodeejpaioaaDoorLxMath
namespace Go.Proofs.YtedeodeejpaioaaDoor.Lx

/-- a byte behind which no name and no number goes on -/
def Stop (c : B) : Prop := word c = false ∧ c.toNat ≠ 46
theorem Stop.after {c : B} (h : Stop c) : after c = false := by
  have := h.1
  unfold word at this
  unfold Lx.after
  cases hl : letter c
  · rw [hl] at this
    simp at this ⊢
    exact this.2
  · rw [hl] at this
    simp at this
theorem Stop.digit {c : B} (h : Stop c) : digit c = false := by
  have := h.1
  unfold word at this
  cases hl : Lx.digit c
  · rfl
  · rw [hl] at this
    simp at this
theorem stop_lf : Stop 10 := ⟨by decide, by decide⟩
theorem stop_blank : Stop 32 := ⟨by decide, by decide⟩
theorem stop_minus : Stop 45 := ⟨by decide, by decide⟩
theorem hd_append {p : B → Bool} {c : B} (h : p c = false) : ∀ (s r : List B), hd p (s ++ c :: r) = hd p s
  | [], _ => h
  | _ :: _, _ => rfl
theorem hd_take {p : B → Bool} : ∀ (s : List B) (m : Nat), hd p (s.take m) = true → hd p s = true
  | [], m, h => by cases m <;> exact h
  | c :: s, 0, h => by cases h
  | c :: s, m + 1, h => h
theorem hd_take_pos {p : B → Bool} (s : List B) {m : Nat} (h : 1 ≤ m) : hd p (s.take m) = hd p s := by
  obtain ⟨k, rfl⟩ : ∃ k, m = k + 1 := ⟨m - 1, by omega⟩
  cases s <;> rfl
theorem hd_agree {p : B → Bool} {s s' : List B} {m : Nat} (h : 1 ≤ m) (e : s.take m = s'.take m) : hd p s = hd p s' := by
  rw [← hd_take_pos s h, e, hd_take_pos s' h]
theorem nameN_pos {s : List B} (h : hd word s = true) : 1 ≤ nameN s := by
  cases s with
  | nil => cases h
  | cons c s =>
    have h : word c = true := h
    rw [nameN, if_pos (by rw [h]; rfl)]
    omega
theorem cons_agree {c : B} {t s' : List B} {m : Nat} (e : (c :: t).take (m + 1) = s'.take (m + 1)) : ∃ t', s' = c :: t' ∧ t.take m = t'.take m := by
  cases s' with
  | nil => cases e
  | cons d t' =>
    simp only [List.take_succ_cons, List.cons.injEq] at e
    exact ⟨t', by rw [e.1], e.2⟩
theorem nameN_agree : ∀ s s' : List B, s.take (nameN s + 2) = s'.take (nameN s + 2) → nameN s' = nameN s
  | [], s', e => by
    cases s' with
    | nil => rfl
    | cons d t => cases e
  | c :: t, s', e => by
    obtain ⟨t', rfl, e'⟩ := cons_agree e
    rw [nameN] at e' ⊢
    by_cases h : (word c || (c.toNat == 46 && hd word t)) = true
    · rw [if_pos h] at e'
      have hh : hd word t = hd word t' := hd_agree (by omega) e'
      rw [← hh, if_pos h, nameN, if_pos h, nameN_agree t t' (by
        have := congrArg (List.take (nameN t + 2)) e'
        rwa [List.take_take, List.take_take, Nat.min_eq_left (by omega)] at this)]
    · rw [if_neg h] at e'
      have hh : hd word t = hd word t' := hd_agree (by omega) e'
      rw [← hh, if_neg h, nameN, if_neg h]
theorem nameN_cut : ∀ (s : List B) (m : Nat), nameN s ≤ m → nameN (s.take m) = nameN s
  | [], m, _ => by rw [List.take_nil]
  | c :: t, 0, h => by
    have : nameN (c :: t) = 0 := by omega
    rw [this]
    rfl
  | c :: t, m + 1, h => by
    rw [List.take_succ_cons, nameN, nameN]
    rw [nameN] at h
    by_cases hc : (word c || (c.toNat == 46 && hd word t)) = true
    · rw [if_pos hc] at h ⊢
      have hi := nameN_cut t m (by omega)
      rw [hi, if_pos]
      cases hw : word c with
      | true => rfl
      | false =>
        rw [hw] at hc
        simp only [Bool.false_or, Bool.and_eq_true] at hc ⊢
        have := nameN_pos hc.2
        exact ⟨hc.1, by rw [hd_take_pos t (by omega)]; exact hc.2⟩
    · rw [if_neg hc]
      rw [if_neg]
      intro h2
      apply hc
      cases hw : word c with
      | true => rfl
      | false =>
        rw [hw] at h2
        simp only [Bool.false_or, Bool.and_eq_true] at h2 ⊢
        exact ⟨h2.1, hd_take t m h2.2⟩
theorem nameN_stop {c : B} (hc : Stop c) (r : List B) : ∀ s : List B, nameN (s ++ c :: r) = nameN s
  | [] => by
    show nameN (c :: r) = 0
    rw [nameN, if_neg]
    rw [hc.1]
    simp [hc.2]
  | x :: t => by rw [List.cons_append, nameN, nameN, hd_append hc.1, nameN_stop hc r t]
theorem numN_agree : ∀ s s' : List B, s.take (numN s + 1) = s'.take (numN s + 1) → numN s' = numN s
  | [], s', e => by
    cases s' with
    | nil => rfl
    | cons d t => cases e
  | c :: t, s', e => by
    obtain ⟨t', rfl, e'⟩ := cons_agree e
    rw [numN] at e' ⊢
    by_cases h : digit c = true
    · rw [if_pos h] at e' ⊢
      rw [numN, if_pos h, numN_agree t t' e']
    · rw [if_neg h, numN, if_neg h]
theorem numN_cut : ∀ (s : List B) (m : Nat), numN s ≤ m → numN (s.take m) = numN s
  | [], m, _ => by rw [List.take_nil]
  | c :: t, 0, h => by
    have : numN (c :: t) = 0 := by omega
    rw [this]
    rfl
  | c :: t, m + 1, h => by
    rw [List.take_succ_cons, numN, numN]
    rw [numN] at h
    by_cases hc : digit c = true
    · rw [if_pos hc] at h ⊢
      rw [if_pos hc, numN_cut t m (by omega)]
    · rw [if_neg hc, if_neg hc]
theorem numN_stop {c : B} (hc : digit c = false) (r : List B) : ∀ s : List B, numN (s ++ c :: r) = numN s
  | [] => by
    show numN (c :: r) = 0
    rw [numN, if_neg (by rw [hc]; simp)]
  | x :: t => by rw [List.cons_append, numN, numN, numN_stop hc r t]
theorem gapN_agree : ∀ (s s' : List B) (cm : Bool), s.take (gapN s cm + 1) = s'.take (gapN s cm + 1) → gapN s' cm = gapN s cm
  | [], s', cm, e => by
    cases s' with
    | nil => rfl
    | cons d t => cases e
  | c :: t, s', cm, e => by
    obtain ⟨t', rfl, e'⟩ := cons_agree e
    rw [gapN] at e' ⊢
    rw [gapN]
    by_cases h1 : c.toNat = 10
    · rw [if_pos h1] at e' ⊢
      rw [if_pos h1, gapN_agree t t' false e']
    · rw [if_neg h1] at e' ⊢
      rw [if_neg h1]
      by_cases h2 : c.toNat = 35
      · rw [if_pos h2] at e' ⊢
        rw [if_pos h2, gapN_agree t t' true e']
      · rw [if_neg h2] at e' ⊢
        rw [if_neg h2]
        by_cases h3 : (cm || (c.toNat == 32 || c.toNat == 9)) = true
        · rw [if_pos h3] at e' ⊢
          rw [if_pos h3, gapN_agree t t' cm e']
        · rw [if_neg h3, if_neg h3]
theorem gapN_cut : ∀ (s : List B) (cm : Bool) (m : Nat), gapN s cm ≤ m → gapN (s.take m) cm = gapN s cm
  | [], cm, m, _ => by rw [List.take_nil]
  | c :: t, cm, 0, h => by
    have : gapN (c :: t) cm = 0 := by omega
    rw [this]
    rfl
  | c :: t, cm, m + 1, h => by
    rw [List.take_succ_cons, gapN, gapN]
    rw [gapN] at h
    by_cases h1 : c.toNat = 10
    · rw [if_pos h1] at h ⊢
      rw [if_pos h1, gapN_cut t false m (by omega)]
    · rw [if_neg h1] at h ⊢
      rw [if_neg h1]
      by_cases h2 : c.toNat = 35
      · rw [if_pos h2] at h ⊢
        rw [if_pos h2, gapN_cut t true m (by omega)]
      · rw [if_neg h2] at h ⊢
        rw [if_neg h2]
        by_cases h3 : (cm || (c.toNat == 32 || c.toNat == 9)) = true
        · rw [if_pos h3] at h ⊢
          rw [if_pos h3, gapN_cut t cm m (by omega)]
        · rw [if_neg h3, if_neg h3]
theorem gapN_more {s : List B} {cm : Bool} (h : gapN s cm < s.length) (r : List B) : gapN (s ++ r) cm = gapN s cm :=
  gapN_agree s (s ++ r) cm (by rw [List.take_append_of_le_length (by omega)])
theorem gapN_line (r : List B) : ∀ (s : List B) (cm : Bool), gapN s cm = s.length → gapN (s ++ 10 :: r) cm = s.length + 1 + gapN r false
  | [], cm, _ => by
    rw [List.nil_append, gapN, if_pos (by decide)]
    simp
    omega
  | c :: t, cm, h => by
    rw [gapN, List.length_cons] at h
    rw [List.cons_append, gapN, List.length_cons]
    by_cases h1 : c.toNat = 10
    · rw [if_pos h1] at h ⊢
      rw [gapN_line r t false (by omega)]
      omega
    · rw [if_neg h1] at h ⊢
      by_cases h2 : c.toNat = 35
      · rw [if_pos h2] at h ⊢
        rw [gapN_line r t true (by omega)]
        omega
      · rw [if_neg h2] at h ⊢
        by_cases h3 : (cm || (c.toNat == 32 || c.toNat == 9)) = true
        · rw [if_pos h3] at h ⊢
          rw [gapN_line r t cm (by omega)]
          omega
        · rw [if_neg h3] at h
          omega
theorem gapN_blank : ∀ (s : List B) (cm : Bool), gapN s cm = s.length → gapN (s ++ [32]) cm = s.length + 1
  | [], cm, _ => by
    rw [List.nil_append, gapN, if_neg (by decide), if_neg (by decide), if_pos (by simp)]
    rfl
  | c :: t, cm, h => by
    rw [gapN, List.length_cons] at h
    rw [List.cons_append, gapN, List.length_cons]
    by_cases h1 : c.toNat = 10
    · rw [if_pos h1] at h ⊢
      rw [gapN_blank t false (by omega)]
    · rw [if_neg h1] at h ⊢
      by_cases h2 : c.toNat = 35
      · rw [if_pos h2] at h ⊢
        rw [gapN_blank t true (by omega)]
      · rw [if_neg h2] at h ⊢
        by_cases h3 : (cm || (c.toNat == 32 || c.toNat == 9)) = true
        · rw [if_pos h3] at h ⊢
          rw [gapN_blank t cm (by omega)]
        · rw [if_neg h3] at h
          omega
theorem tok_agree {s s' : List B} {kd v : Int} {n : Nat} (h : tokS s = .tok kd n v) (e : s.take (n + 2) = s'.take (n + 2)) : tokS s' = .tok kd n v := by
  cases s with
  | nil => cases h
  | cons c t =>
    obtain ⟨t', rfl, e'⟩ := cons_agree (m := n + 1) e
    rw [tokS] at h ⊢
    by_cases hl : letter c = true
    · rw [if_pos hl] at h ⊢
      split at h
      · cases h
      · rename_i h24
        cases h
        rw [nameN_agree (c :: t) (c :: t') e, if_neg h24]
    · rw [if_neg hl] at h ⊢
      by_cases hd' : digit c = true
      · rw [if_pos hd'] at h ⊢
        split at h
        · cases h
        · rename_i hb
          cases h
          have en : numN (c :: t') = numN (c :: t) := numN_agree (c :: t) (c :: t') (by
            have := congrArg (List.take (numN (c :: t) + 1)) e
            rwa [List.take_take, List.take_take, Nat.min_eq_left (by omega)] at this)
          have ed : hd after ((c :: t').drop (numN (c :: t))) = hd after ((c :: t).drop (numN (c :: t))) := (hd_agree (m := 1) (Nat.le_refl 1) (by
            have := congrArg (List.drop (numN (c :: t))) e
            rw [List.drop_take, List.drop_take] at this
            have := congrArg (List.take 1) this
            rwa [List.take_take, List.take_take, Nat.min_eq_left (by omega)] at this)).symm
          have et : (c :: t').take (numN (c :: t)) = (c :: t).take (numN (c :: t)) := by
            have := congrArg (List.take (numN (c :: t))) e
            rw [List.take_take, List.take_take, Nat.min_eq_left (by omega)] at this
            exact this.symm
          rw [en, ed, if_neg hb, et]
      · rw [if_neg hd'] at h ⊢
        exact h
theorem tok_cut {s : List B} {kd v : Int} {n m : Nat} (h : tokS s = .tok kd n v) (hm : n ≤ m) : tokS (s.take m) = .tok kd n v := by
  have hn := tok_len h
  obtain ⟨k, rfl⟩ : ∃ k, m = k + 1 := ⟨m - 1, by omega⟩
  cases s with
  | nil => cases h
  | cons c t =>
    rw [tokS] at h
    rw [List.take_succ_cons, tokS]
    by_cases hl : letter c = true
    · rw [if_pos hl] at h ⊢
      split at h
      · cases h
      · rename_i h24
        cases h
        rw [← List.take_succ_cons, nameN_cut (c :: t) (k + 1) hm, if_neg h24]
    · rw [if_neg hl] at h ⊢
      by_cases hd' : digit c = true
      · rw [if_pos hd'] at h ⊢
        split at h
        · cases h
        · rename_i hb
          cases h
          rw [← List.take_succ_cons, numN_cut (c :: t) (k + 1) hm, List.drop_take, if_neg (fun h' => hb (h'.imp id (hd_take _ _))), List.take_take, Nat.min_eq_left hm]
      · rw [if_neg hd'] at h ⊢
        exact h
theorem tok_stop {c : B} (hc : Stop c) (r : List B) {s : List B} (hs : s ≠ []) : tokS (s ++ c :: r) = tokS s := by
  cases s with
  | nil => exact absurd rfl hs
  | cons x t =>
    have e : x :: (t ++ c :: r) = (x :: t) ++ c :: r := rfl
    rw [List.cons_append, tokS, tokS, e, nameN_stop hc, numN_stop hc.digit]
    have hle := numN_le (x :: t)
    rw [List.drop_append_of_le_length hle, List.take_append_of_le_length hle, hd_append hc.after]
theorem step_mk {s : List B} {g : Nat} (h : gapN s false = g) (hg : g < s.length) : stepS s = stOf g (tokS (s.drop g)) := by
  subst h
  unfold stepS
  cases hs : s.drop (gapN s false) with
  | nil =>
    have := List.drop_eq_nil_iff.1 hs
    omega
  | cons c r => rfl
theorem step_agree {s s' : List B} {kd v : Int} {g n : Nat} (h : stepS s = .tok kd g n v) (e : s.take (g + n + 2) = s'.take (g + n + 2)) : stepS s' = .tok kd g n v := by
  obtain ⟨hg, ht, h1, h2⟩ := step_tok h
  have e1 : gapN s' false = g := by
    rw [hg]
    refine gapN_agree s s' false ?_
    have := congrArg (List.take (gapN s false + 1)) e
    rwa [List.take_take, List.take_take, Nat.min_eq_left (by omega)] at this
  have e2 : (s.drop g).take (n + 2) = (s'.drop g).take (n + 2) := by
    have := congrArg (List.drop g) e
    rwa [List.drop_take, List.drop_take, show g + n + 2 - g = n + 2 by omega] at this
  have h3 := tok_agree ht e2
  have h4 := tok_len h3
  rw [List.length_drop] at h4
  rw [step_mk e1 (by omega), h3]
  rfl
theorem step_cut {s : List B} {kd v : Int} {g n m : Nat} (h : stepS s = .tok kd g n v) (hm : g + n ≤ m) : stepS (s.take m) = .tok kd g n v := by
  obtain ⟨hg, ht, h1, h2⟩ := step_tok h
  rw [step_mk (g := g) (by rw [gapN_cut s false m (by omega)]; exact hg.symm) (by rw [List.length_take]; omega), List.drop_take, tok_cut ht (by omega)]
  rfl
theorem step_stop {c : B} (hc : Stop c) (r : List B) {s : List B} (h : stepS s ≠ .done) : stepS (s ++ c :: r) = stepS s := by
  have hl := gapN_le s false
  have hg : gapN s false < s.length := by
    rcases Nat.lt_or_ge (gapN s false) s.length with h' | h'
    · exact h'
    · exact absurd (step_done.2 (by omega)) h
  rw [step_mk (gapN_more hg _) (by rw [List.length_append]; omega), step_mk rfl hg, List.drop_append_of_le_length hl, tok_stop hc]
  intro h'
  have := congrArg List.length h'
  rw [List.length_drop, List.length_nil] at this
  omega
def shSt (d : Nat) : St → St
  | .done => .done
  | .bad e g => .bad e (d + g)
  | .tok kd g n v => .tok kd (d + g) n v
theorem step_line {s : List B} (h : stepS s = .done) (r : List B) : stepS (s ++ 10 :: r) = shSt (s.length + 1) (stepS r) := by
  have hg := step_done.1 h
  have e := gapN_line r s false hg
  have hle := gapN_le r false
  have ed : (s ++ 10 :: r).drop (s.length + 1 + gapN r false) = r.drop (gapN r false) := by
    rw [List.drop_append, List.drop_eq_nil_of_le (by omega), List.nil_append, show s.length + 1 + gapN r false - s.length = gapN r false + 1 by omega, List.drop_succ_cons]
  rcases Nat.lt_or_ge (gapN r false) r.length with h' | h'
  · rw [step_mk e (by simp; omega), ed, step_mk rfl h']
    cases tokS (r.drop (gapN r false)) <;> rfl
  · rw [step_done.2 (show gapN r false = r.length by omega)]
    exact step_done.2 (by rw [e]; simp; omega)
end Go.Proofs.YtedeodeejpaioaaDoor.Lx

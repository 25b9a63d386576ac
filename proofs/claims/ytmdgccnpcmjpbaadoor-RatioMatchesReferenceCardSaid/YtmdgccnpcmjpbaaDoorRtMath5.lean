/- Plain mathematics of ratios' texts: what is written is read. No program in it. -/
import Derived.Test.YtmdgccnpcmjpbaaDoorRtMath3
namespace Go.Proofs.YtmdgccnpcmjpbaaDoor.Rt
open Go.Lib (NumEnd parseUint10 parseMag atoiAll decDigits itoa cut index)
theorem parse_app : ∀ (l : List UInt8) (acc v : Nat) (c : UInt8), parseUint10 acc l = .ok v → 48 ≤ c.toNat ∧ c.toNat ≤ 57 → v < 1844674407370955162 → v * 10 + (c.toNat - 48) < 18446744073709551616 →
    parseUint10 acc (l ++ [c]) = .ok (v * 10 + (c.toNat - 48))
  | [], acc, v, c, h, hc, h1, h2 => by
    simp only [parseUint10, NumEnd.ok.injEq] at h
    subst h
    simp only [List.nil_append, parseUint10]
    rw [if_pos hc, if_neg (by omega), if_neg (by omega)]
  | b :: r, acc, v, c, h, hc, h1, h2 => by
    simp only [List.cons_append, parseUint10] at h ⊢
    split at h
    · split at h
      · cases h
      · split at h
        · cases h
        · rw [if_pos ‹_›, if_neg ‹_›, if_neg ‹_›]
          exact parse_app r _ v c h hc h1 h2
    · cases h
theorem digit_nat {k : Nat} (h : k < 10) : (UInt8.ofNat (48 + k)).toNat = 48 + k := by
  simp; omega
theorem parse_dec (u : Nat) : u < 1000000000000000000 → parseUint10 0 (decDigits u) = .ok u := by
  induction u using Nat.strongRecOn with
  | _ u ih =>
    intro hu
    rw [decDigits]
    split
    · have := parse_app [] 0 0 (UInt8.ofNat (48 + u)) rfl (by rw [digit_nat (by omega)]; omega) (by omega) (by rw [digit_nat (by omega)]; omega)
      rw [digit_nat (by omega)] at this
      simp only [List.nil_append] at this
      rw [this]; congr 1; omega
    · have := parse_app (decDigits (u / 10)) 0 (u / 10) (UInt8.ofNat (48 + u % 10)) (ih (u / 10) (by omega) (by omega)) (by rw [digit_nat (by omega)]; omega) (by omega) (by rw [digit_nat (by omega)]; omega)
      rw [digit_nat (by omega)] at this
      rw [this]; congr 1; omega
theorem dec_mem (u : Nat) : ∀ c ∈ decDigits u, 48 ≤ c.toNat ∧ c.toNat ≤ 57 := by
  induction u using Nat.strongRecOn with
  | _ u ih =>
    intro c hc
    rw [decDigits] at hc
    split at hc
    · simp only [List.mem_singleton] at hc
      subst hc
      rw [digit_nat (by omega)]; omega
    · rw [List.mem_append] at hc
      rcases hc with hc | hc
      · exact ih (u / 10) (by omega) c hc
      · simp only [List.mem_singleton] at hc
        subst hc
        rw [digit_nat (by omega)]; omega
theorem dec_ne (u : Nat) : decDigits u ≠ [] := by
  rw [decDigits]
  split
  · simp
  · simp
theorem mag_dec (u : Nat) (hu : u < 1000000000000000000) : parseMag (decDigits u) = .ok u := by
  unfold parseMag
  rw [if_neg (dec_ne u)]
  exact parse_dec u hu
theorem atoi_itoa (n : Int) (h1 : -1000000000000000000 < n) (h2 : n < 1000000000000000000) : atoiAll (itoa n) = .ok n := by
  unfold itoa
  split
  · unfold atoiAll
    dsimp only
    rw [if_pos (Or.inr (by decide)), mag_dec _ (by omega)]
    dsimp only
    have e45 : (45 : UInt8).toNat = 45 := by decide
    rw [if_neg (by intro h; exact h.1 e45), if_neg (by intro h; omega), if_pos e45]
    congr 1; omega
  · have hm := mag_dec n.toNat (by omega)
    have hd := dec_mem n.toNat
    have hn := dec_ne n.toNat
    cases hl : decDigits n.toNat with
    | nil => exact absurd hl hn
    | cons c r =>
      rw [hl] at hm hd
      have hc := hd c (by simp)
      unfold atoiAll
      dsimp only
      rw [if_neg (by omega), hm]
      dsimp only
      rw [if_neg (by omega), if_neg (by omega), if_neg (by omega)]
      congr 1; omega
theorem index_at : ∀ (l r : List UInt8), (∀ c ∈ l, c ≠ 47) → index (l ++ 47 :: r) [47] = l.length
  | [], r, _ => by simp [index]
  | b :: l, r, h => by
    have ih := index_at l r (fun c hc => h c (List.mem_cons_of_mem _ hc))
    have hb : ¬ ((47 : UInt8) = b) := fun e => h b (by simp) e.symm
    rw [List.cons_append, index, ih]
    simp [hb]
theorem index_no : ∀ (l : List UInt8), (∀ c ∈ l, c ≠ 47) → index l [47] = -1
  | [], _ => by simp [index]
  | b :: l, h => by
    have ih := index_no l (fun c hc => h c (List.mem_cons_of_mem _ hc))
    have hb : ¬ ((47 : UInt8) = b) := fun e => h b (by simp) e.symm
    rw [index, ih]
    simp [hb]
theorem cut_at (l r : List UInt8) (h : ∀ c ∈ l, c ≠ 47) : cut (l ++ 47 :: r) [47] = (l, r, true) := by
  unfold cut
  rw [index_at l r h, if_pos (by omega)]
  simp
theorem cut_no (l : List UInt8) (h : ∀ c ∈ l, c ≠ 47) : cut l [47] = (l, [], false) := by
  unfold cut
  rw [index_no l h, if_neg (by omega)]
theorem itoa_mem (n : Int) : ∀ c ∈ itoa n, c ≠ 47 := by
  intro c hc e
  unfold itoa at hc
  subst e
  split at hc
  · rcases List.mem_cons.1 hc with h | h
    · exact absurd h (by decide)
    · have := (dec_mem _ _ h).1; exact absurd this (by decide)
  · have := (dec_mem _ _ hc).1; exact absurd this (by decide)
/-- a valid ratio's text is parsed as it -/
theorem parse_text {n d : Int} (h : Ok n d) : parseS (textS n d) = (n, d, 0) := by
  have ht := textS_ok h
  have h1 := h.1
  have h2 := h.2.1
  have h3 := h.2.2.1
  have h4 := h.2.2.2.1
  have an := atoi_itoa n (by omega) (by omega)
  by_cases hd : d = 1
  · rw [if_pos hd] at ht
    unfold parseS lowP
    rw [ht, cut_no _ (itoa_mem n)]
    show ratP (itoa n) (atoiAll (itoa n)) (atoiAll [49]) = _
    have e1 : atoiAll [49] = .ok 1 := by decide
    rw [an, e1, ratP_oo, if_pos (by rw [← hd]; exact ⟨h, ht⟩), hd]
  · rw [if_neg hd] at ht
    unfold parseS lowP
    rw [ht, cut_at _ _ (itoa_mem n)]
    show ratP _ (atoiAll (itoa n)) (atoiAll (itoa d)) = _
    rw [an, atoi_itoa d (by omega) (by omega), ratP_oo, if_pos ⟨h, ht⟩]
/-- what is parsed: the valid ratio with this text, or ErrNumber -/
theorem parse_cases (t : List UInt8) : (∃ n d, parseS t = (n, d, 0) ∧ Ok n d ∧ textS n d = t) ∨ parseS t = (0, 0, 5) := by
  unfold parseS
  generalize atoiAll (cut t [47]).1 = a
  generalize atoiAll (lowP (cut t [47])) = b
  rcases a with n | _ | _
  · rcases b with d | _ | _
    · rw [ratP_oo]
      split
      · rename_i h; exact Or.inl ⟨n, d, rfl, h.1, h.2⟩
      · exact Or.inr rfl
    · exact Or.inr rfl
    · exact Or.inr rfl
  · exact Or.inr rfl
  · exact Or.inr rfl
theorem text_ne {n d : Int} (h : Ok n d) : textS n d ≠ [] := by
  rw [textS_ok h]
  have hi : itoa n ≠ [] := by
    unfold itoa
    split
    · simp
    · exact dec_ne _
  split
  · exact hi
  · simp
theorem parse_nil : parseS [] = (0, 0, 5) := by
  rcases parse_cases [] with ⟨n, d, _, h, ht⟩ | h
  · exact absurd ht (text_ne h)
  · exact h
theorem text_no {n d : Int} (h : ¬ Ok n d) : textS n d = [] := by unfold textS; rw [if_neg h]
end Go.Proofs.YtmdgccnpcmjpbaaDoor.Rt

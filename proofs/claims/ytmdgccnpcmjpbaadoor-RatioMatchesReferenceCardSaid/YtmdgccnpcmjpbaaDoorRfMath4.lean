/- The reference implementation's Parse: it reads what ratio's reads. No program in it. -/
import Derived.Test.YtmdgccnpcmjpbaaDoorRfMath3
namespace Go.Proofs.YtmdgccnpcmjpbaaDoor.Rt
open Go.Lib (decDigits itoa cut)
/-- The number before the stroke. -/
noncomputable def topS (a : List UInt8) : Int := match a with
  | [] => numS []
  | c :: r => if c = 45 then 0 - numS r else numS (c :: r)
noncomputable def refP (t : List UInt8) (n d : Int) : Int × Int × Int := if t = [] ∨ textS n d ≠ t then (0, 0, 5) else (n, d, 0)
theorem dec_first (u : Nat) : ∃ c r, decDigits u = c :: r ∧ c ≠ 45 := by
  cases h : decDigits u with
  | nil => exact absurd h (dec_ne u)
  | cons c r =>
    refine ⟨c, r, rfl, fun e => ?_⟩
    have k := dec_mem u c (by rw [h]; exact List.mem_cons_self)
    rw [e] at k
    have : (45 : UInt8).toNat = 45 := rfl
    omega
theorem top_itoa {n : Int} (h : (decDigits n.natAbs).length ≤ 13) : topS (itoa n) = n := by
  unfold Lib.itoa
  by_cases hn : n < 0
  · rw [if_pos hn]
    unfold topS
    simp only [if_true]
    rw [num_dec h]
    omega
  · rw [if_neg hn]
    have e : n.toNat = n.natAbs := by omega
    rw [e]
    obtain ⟨c, r, hc, hne⟩ := dec_first n.natAbs
    have k := num_dec h
    rw [hc] at k ⊢
    unfold topS
    simp only [if_neg hne]
    rw [k]
    omega
theorem dec_len_lt (k : Nat) : ∀ u, u < 10 ^ (k + 1) → (decDigits u).length ≤ k + 1 := by
  induction k with
  | zero =>
    intro u h
    rw [Lib.decDigits_one (by omega)]
    simp
  | succ k ih =>
    intro u h
    rw [Lib.decDigits]
    by_cases h10 : u < 10
    · rw [dif_pos h10]; simp
    · rw [dif_neg h10, List.length_append]
      have h2 : u / 10 < 10 ^ (k + 1) := by
        rw [Nat.pow_succ] at h
        exact Nat.div_lt_of_lt_mul (by rw [Nat.mul_comm]; exact h)
      have := ih (u / 10) h2
      simp
      omega
theorem dec_len13 {u : Nat} (h : u ≤ 1000000000000) : (decDigits u).length ≤ 13 := dec_len_lt 12 u (by
  have : (10 : Nat) ^ (12 + 1) = 10000000000000 := rfl
  omega)
/-- What the reference implementation reads is what ratio reads. -/
theorem ref_parse (t a b : List UInt8) (f : Bool) (hc : cut t [47] = (a, b, f)) : refP t (topS a) (if f then numS b else 1) = parseS t := by
  rcases parse_cases t with ⟨n, d, hp, hok, htx⟩ | hp
  · rw [hp]
    have hne := text_ne hok
    have h1 := hok.1
    have ln : (decDigits n.natAbs).length ≤ 13 := dec_len13 (by have := hok.2.2.1; have := hok.2.2.2.1; omega)
    have ld : (decDigits d.natAbs).length ≤ 13 := dec_len13 (by have := hok.2.1; omega)
    have hN : topS a = n ∧ (if f then numS b else 1) = d := by
      rw [textS_ok hok] at htx
      by_cases hd : d = 1
      · rw [if_pos hd] at htx
        rw [← htx, cut_no _ (itoa_mem n)] at hc
        obtain ⟨rfl, rfl, rfl⟩ : itoa n = a ∧ [] = b ∧ false = f := by simpa using hc
        exact ⟨top_itoa ln, by rw [hd]; rfl⟩
      · rw [if_neg hd] at htx
        rw [← htx, cut_at _ _ (itoa_mem n)] at hc
        obtain ⟨rfl, rfl, rfl⟩ : itoa n = a ∧ itoa d = b ∧ true = f := by simpa using hc
        refine ⟨top_itoa ln, ?_⟩
        rw [if_pos rfl]
        unfold Lib.itoa
        rw [if_neg (by omega), show d.toNat = d.natAbs by omega, num_dec ld]
        omega
    rw [hN.1, hN.2]
    unfold refP
    rw [if_neg]
    rintro (h | h)
    · exact hne (by rw [htx, h])
    · exact h htx
  · rw [hp]
    unfold refP
    by_cases h : t = [] ∨ textS (topS a) (if f then numS b else 1) ≠ t
    · rw [if_pos h]
    · exfalso
      have h1 : t ≠ [] := fun e => h (Or.inl e)
      have h2 : textS (topS a) (if f then numS b else 1) = t := Classical.byContradiction fun e => h (Or.inr e)
      by_cases hok : Ok (topS a) (if f then numS b else 1)
      · have k := parse_text hok
        rw [h2, hp] at k
        simp at k
      · rw [text_no hok] at h2
        exact h1 h2.symm
end Go.Proofs.YtmdgccnpcmjpbaaDoor.Rt

/- strconv.Atoi of digits; the symbols. -/
import Derived.Test.YtedeodeejpaioaaDoorLxMath5
import Derived.Lib.AtoiAllCases
import Derived.Lib.Bytealg
namespace Go.Proofs.YtedeodeejpaioaaDoor.Lx

theorem atoi_none : ∀ (l : List B) (acc : Nat), (∀ c ∈ l, digit c = true) → Lib.parseUint10 acc l = .range ∨ ∃ u, Lib.parseUint10 acc l = .ok u
  | [], acc, _ => .inr ⟨acc, rfl⟩
  | c :: r, acc, h => by
    have hc := h c (by simp)
    unfold digit at hc
    simp at hc
    rw [Lib.parseUint10, if_pos hc]
    split
    · exact .inl rfl
    · split
      · exact .inl rfl
      · exact atoi_none r _ (fun x hx => h x (List.mem_cons_of_mem _ hx))
theorem atoi_fold : ∀ (l : List B) (acc : Nat), (∀ c ∈ l, digit c = true) → (acc + 1) * 10 ^ l.length ≤ 10 ^ 18 → ∃ u : Nat, Lib.parseUint10 acc l = .ok u ∧ u < 10 ^ 18 ∧ (u : Int) = l.foldl (fun v c => 10 * v + ((c.toNat : Int) - 48)) (acc : Int)
  | [], acc, _, h => by
    simp at h
    exact ⟨acc, rfl, by simp; omega, rfl⟩
  | c :: r, acc, h, hb => by
    have hc := h c (by simp)
    unfold digit at hc
    simp at hc
    have h10 : 1 ≤ 10 ^ r.length := Nat.pos_of_ne_zero (by simp)
    rw [List.length_cons, Nat.pow_succ] at hb
    have hb2 : (acc * 10 + (c.toNat - 48) + 1) * 10 ^ r.length ≤ 10 ^ 18 := by
      refine Nat.le_trans ?_ hb
      rw [← Nat.mul_assoc, Nat.mul_right_comm]
      exact Nat.mul_le_mul_right _ (by omega)
    have hacc : acc * 10 + (c.toNat - 48) + 1 ≤ 10 ^ 18 := Nat.le_trans (Nat.le_mul_of_pos_right _ h10) hb2
    obtain ⟨u, h1, h2, h3⟩ := atoi_fold r (acc * 10 + (c.toNat - 48)) (fun x hx => h x (List.mem_cons_of_mem _ hx)) hb2
    refine ⟨u, ?_, h2, ?_⟩
    · rw [Lib.parseUint10, if_pos hc, if_neg (by omega), if_neg (by omega), h1]
    · rw [h3, List.foldl_cons]
      congr 1
      omega
theorem dig_first {c : B} (h : digit c = true) : c.toNat ≠ 43 ∧ c.toNat ≠ 45 := by
  unfold digit at h
  simp at h
  omega
theorem atoi_ok {l : List B} (h : ∀ c ∈ l, digit c = true) (h1 : 1 ≤ l.length) (h2 : l.length ≤ 12) : Lib.atoiAll l = .ok (valN l) := by
  cases l with
  | nil => simp at h1
  | cons c r =>
    have hc := dig_first (h c (by simp))
    obtain ⟨u, h3, h4, h5⟩ := atoi_fold (c :: r) 0 h (by
      have : 10 ^ (c :: r).length ≤ 10 ^ 18 := Nat.pow_le_pow_right (by omega) (by omega)
      simpa using this)
    have e10 : (10 : Nat) ^ 18 = 1000000000000000000 := rfl
    rw [Lib.atoiAll_plain c r hc.1 hc.2, Lib.parseMag, if_neg (by simp), h3]
    unfold Lib.signless valN
    simp only
    rw [if_neg (by omega), h5]
    rfl
theorem atoi_any {l : List B} (h : ∀ c ∈ l, digit c = true) (h1 : 1 ≤ l.length) : (∃ v, Lib.atoiAll l = .ok v) ∨ Lib.atoiAll l = .range := by
  cases l with
  | nil => simp at h1
  | cons c r =>
    have hc := dig_first (h c (by simp))
    have := atoi_none (c :: r) 0 h
    rw [Lib.atoiAll_plain c r hc.1 hc.2, Lib.parseMag, if_neg (by simp)]
    rcases this with hp | ⟨u, hp⟩
    · rw [hp]
      exact .inr rfl
    · rw [hp]
      unfold Lib.signless
      simp only
      split
      · exact .inr rfl
      · exact .inl ⟨_, rfl⟩
theorem num_digits : ∀ (s : List B), ∀ c ∈ s.take (numN s), digit c = true
  | [], c, h => by simp at h
  | d :: s, c, h => by
    rw [numN] at h
    split at h
    · rename_i hd'
      rw [List.take_succ_cons, List.mem_cons] at h
      rcases h with rfl | h
      · exact hd'
      · exact num_digits s c h
    · simp at h
theorem num_after : ∀ (s : List B), hd word (s.drop (numN s)) = hd after (s.drop (numN s))
  | [] => rfl
  | d :: s => by
    rw [numN]
    split
    · rw [List.drop_succ_cons]
      exact num_after s
    · rename_i hd'
      rw [List.drop_zero]
      show word d = after d
      unfold word after
      rw [show digit d = false by simpa using hd', Bool.or_false]
def symL : List B := [59, 58, 44, 61, 47, 45, 40, 41, 123, 125]
theorem sym_fin : ∀ n : Fin 256, sym (UInt8.ofNat n.val) = decide (0 ≤ Lib.indexByte symL (UInt8.ofNat n.val)) := by decide +kernel
theorem sym_index (c : B) : sym c = decide (0 ≤ Lib.indexByte symL c) := by
  have := sym_fin ⟨c.toNat, c.toNat_lt⟩
  simpa using this
end Go.Proofs.YtedeodeejpaioaaDoor.Lx

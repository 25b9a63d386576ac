/- What the reference implementation's number and Parse compute: no program in it. -/
import Derived.Test.YtmdgccnpcmjpbaaDoorRtMath5
namespace Go.Proofs.YtmdgccnpcmjpbaaDoor.Rt
def isDig (c : UInt8) : Prop := 48 ≤ c.toNat ∧ c.toNat ≤ 57
def val (l : List UInt8) : Nat := l.foldl (fun a c => 10 * a + (c.toNat - 48)) 0
theorem val_snoc (l : List UInt8) (c : UInt8) : val (l ++ [c]) = 10 * val l + (c.toNat - 48) := by unfold val; rw [List.foldl_append]; rfl
theorem val_take {l : List UInt8} {k : Nat} (h : k < l.length) : val (l.take (k + 1)) = 10 * val (l.take k) + (l[k].toNat - 48) := by
  rw [← val_snoc, List.take_add_one, List.getElem?_eq_getElem h, Option.toList_some]
theorem val_lt {l : List UInt8} (k : Nat) (hd : ∀ j (h : j < l.length), j < k → isDig l[j]) : k ≤ l.length → val (l.take k) < 10 ^ k := by
  induction k with
  | zero => intro _; simp [val]
  | succ k ih =>
    intro hk
    have h1 := ih (fun j h hj => hd j h (by omega)) (by omega)
    have h2 := hd k (by omega) (by omega)
    rw [val_take (by omega : k < l.length), Nat.pow_succ]
    unfold isDig at h2
    omega
open Classical in
noncomputable def numS (l : List UInt8) : Int := if l.length ≤ 13 ∧ ∀ c ∈ l, isDig c then (val l : Int) else 0
theorem val_dec (u : Nat) : val (Lib.decDigits u) = u := by
  induction u using Nat.strongRecOn with
  | _ u ih =>
    rw [Lib.decDigits]
    by_cases h : u < 10
    · rw [dif_pos h]
      have e : (UInt8.ofNat (48 + u)).toNat = 48 + u := by rw [UInt8.toNat_ofNat']; omega
      unfold val
      simp only [List.foldl_cons, List.foldl_nil, e]
      omega
    · rw [dif_neg h, val_snoc, ih (u / 10) (by omega)]
      have e : (UInt8.ofNat (48 + u % 10)).toNat = 48 + u % 10 := by rw [UInt8.toNat_ofNat']; omega
      rw [e]
      omega
theorem num_dec {u : Nat} (h : (Lib.decDigits u).length ≤ 13) : numS (Lib.decDigits u) = u := by
  unfold numS
  rw [if_pos ⟨h, dec_mem u⟩, val_dec]
theorem num_ge (l : List UInt8) : 0 ≤ numS l ∧ numS l < 10000000000000 := by
  unfold numS
  by_cases h : l.length ≤ 13 ∧ ∀ c ∈ l, isDig c
  · rw [if_pos h]
    have k := val_lt (l := l) l.length (fun j hj _ => h.2 _ (List.getElem_mem hj)) (Nat.le_refl _)
    rw [List.take_length] at k
    have k2 : 10 ^ l.length ≤ 10 ^ 13 := Nat.pow_le_pow_right (by omega) h.1
    have k3 : (10 : Nat) ^ 13 = 10000000000000 := rfl
    omega
  · rw [if_neg h]; omega
end Go.Proofs.YtmdgccnpcmjpbaaDoor.Rt

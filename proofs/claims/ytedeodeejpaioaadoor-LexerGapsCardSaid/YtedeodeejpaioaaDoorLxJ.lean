/- The reference implementation: number, symbol. -/
import Derived.Test.YtedeodeejpaioaaDoorLxI
namespace Go.Proofs.YtedeodeejpaioaaDoor
open Go.RowKit

theorem val_snoc (l : List UInt8) (c : UInt8) : Lx.valN (l ++ [c]) = 10 * Lx.valN l + ((c.toNat : Int) - 48) := by
  unfold Lx.valN
  rw [List.foldl_append]
  rfl
theorem take_snoc {s : List UInt8} {k j : Nat} {c : UInt8} (h : s[k + j]? = some c) : (s.drop k).take (j + 1) = (s.drop k).take j ++ [c] := by
  rw [List.take_add_one, List.getElem?_drop, h]
  rfl
theorem pow12 : (10 : Int) ^ 12 = 1000000000000 := rfl
theorem pow_le12 {j : Nat} (h : j < 12) : (10 : Int) ^ j ≤ 100000000000 := by
  have : (10 : Nat) ^ j ≤ 10 ^ 11 := Nat.pow_le_pow_right (by omega) (by omega)
  have e : (10 : Nat) ^ 11 = 100000000000 := rfl
  rw [e] at this
  have h2 : ((10 ^ j : Nat) : Int) ≤ ((100000000000 : Nat) : Int) := Int.ofNat_le.2 this
  simpa using h2
set_option maxRecDepth 100000 in
set_option maxHeartbeats 3200000 in
theorem rnumber_any (s : List UInt8) (k : Nat) (w : World) (hl : s.length ≤ 4294967280) (hk : k ≤ s.length) :
    Calls Tryd.prog 27 #[.string ⟨s.toArray⟩, .int .i64 (k : Int)] w fun e w' => (∃ v : Int, e = .returned (.tuple #[.int .i64 ((Lx.numN (s.drop k) : Nat) : Int), .int .i64 v]) ∧ (Lx.numN (s.drop k) ≤ 12 → v = Lx.valN ((s.drop k).take (Lx.numN (s.drop k))))) ∧ w = w' := by
  have hs := text_size s
  go_enter Tryd.func27, Tryd.ntmps27
  go_wp2_with fail
  go_loopw [6, 7] (fun t u wr => ∃ (j : Nat) (v : Int), t = .int .i64 (j : Int) ∧ u = .int .i64 v ∧ k + j ≤ s.length ∧ j + Lx.numN (s.drop (k + j)) = Lx.numN (s.drop k) ∧ (j ≤ 12 → v = Lx.valN ((s.drop k).take j) ∧ 0 ≤ v ∧ v < 10 ^ j) ∧ wr = w) (fun t _ _ => s.length - (intOf t).toNat)
  case atStart => exact ⟨0, 0, rfl, rfl, by omega, by rw [Nat.add_zero, Nat.zero_add], fun _ => ⟨rfl, by omega, by simp⟩, rfl⟩
  case round =>
    obtain ⟨j, v, rfl, rfl, hj, he, hv, rfl⟩ := hrel
    have HE := Lib.hid he
    clear he
    obtain ⟨i, hi⟩ : ∃ i, k + j = i := ⟨_, rfl⟩
    rw [hi] at hj
    have e0 : (k : Int) + (j : Int) = (i : Int) := by omega
    have HE := Lib.hid (show j + Lx.numN (s.drop i) = Lx.numN (s.drop k) by rw [← hi]; exact HE.out)
    have HV := Lib.hid hv
    clear hv
    rcases Nat.lt_or_ge i s.length with hj2 | hj2
    · obtain ⟨c, hc⟩ : ∃ c, s[i]? = some c := ⟨s[i], List.getElem?_eq_getElem hj2⟩
      have hB := text_get hc
      have b1 : decide ((i : Int) < (s.length : Int)) = true := by simp; omega
      have hn := num_step hc
      rw [belD_get hc] at hn
      have hcn : c.toNat < 256 := c.toNat_lt
      cases hd : Lx.digit c with
      | true =>
        rw [hd, if_pos rfl] at hn
        have HN := Lib.hid hn
        have hcd : 48 ≤ c.toNat ∧ c.toNat ≤ 57 := by
          unfold Lx.digit at hd
          simpa using hd
        obtain ⟨d1, d2⟩ := hcd
        have i1 : IntKind.u8.wrap ((c.toNat : Int) - 48) = (c.toNat : Int) - 48 := by simp [IntKind.wrap, IntKind.bits, IntKind.signed]; omega
        rcases Nat.lt_or_ge j 12 with h12 | h12
        · obtain ⟨hv1, hv2, hv3⟩ := HV.out (by omega)
          have hp := pow_le12 h12
          have hp2 : (10 : Int) ^ (j + 1) = 10 ^ j * 10 := Int.pow_succ 10 j
          obtain ⟨z, hz⟩ : ∃ z : Int, 10 ^ j = z := ⟨_, rfl⟩
          have HT := Lib.hid (show (s.drop k).take (j + 1) = (s.drop k).take j ++ [c] from take_snoc (by rw [hi]; exact hc))
          rw [hz] at hp hv3 hp2
          have HP := Lib.hid hp2
          have HV1 := Lib.hid hv1
          have hv4 : v < 100000000000 := by omega
          have HZ := Lib.hid hv3
          have HX := Lib.hid (show Lx.valN ((s.drop k).take (j + 1)) = 10 * v + ((c.toNat : Int) - 48) by rw [HT.out, val_snoc, ← hv1])
          have b2 : decide ((j : Int) < 12) = true := by simp; omega
          clear hn hp hp2 hz hc hv1 hv3
          go_wp2_with (go_at_call 26; refine (rDigit_any _ _).mono ?_; rintro e w' ⟨rfl, rfl⟩)
          go_roundw
          case rel =>
            refine ⟨j + 1, 10 * v + ((c.toNat : Int) - 48), by simp, by simp, by omega, by rw [← HE.out, HN.out, ← Nat.add_assoc, hi]; omega, fun _ => ⟨HX.out.symm, by omega, ?_⟩, by first | rfl | trivial⟩
            rw [HP.out]
            have := HZ.out
            omega
          case measure => simp [intOf]; omega
        · have b2 : decide ((j : Int) < 12) = false := by simp; omega
          clear hn hc
          go_wp2_with (go_at_call 26; refine (rDigit_any _ _).mono ?_; rintro e w' ⟨rfl, rfl⟩)
          go_roundw
          case rel => exact ⟨j + 1, v, by simp, rfl, by omega, by rw [← HE.out, HN.out, ← Nat.add_assoc, hi]; omega, fun h => by omega, by first | rfl | trivial⟩
          case measure => simp [intOf]; omega
      | false =>
        rw [hd, if_neg (by simp)] at hn
        have HN := Lib.hid (show j = Lx.numN (s.drop k) by rw [← HE.out, hn]; rfl)
        clear hn hc
        go_wp2_with (go_at_call 26; refine (rDigit_any _ _).mono ?_; rintro e w' ⟨rfl, rfl⟩)
        go_ret2
        exact ⟨⟨v, by rw [← HN.out]; rfl, fun h => by rw [← HN.out] at h ⊢; exact (HV.out h).1⟩, by first | rfl | trivial⟩
    · have b1 : decide ((i : Int) < (s.length : Int)) = false := by simp; omega
      have HN := Lib.hid (show j = Lx.numN (s.drop k) by rw [← HE.out, List.drop_eq_nil_of_le hj2]; rfl)
      go_wp2_with fail
      go_ret2
      exact ⟨⟨v, by rw [← HN.out]; rfl, fun h => by rw [← HN.out] at h ⊢; exact (HV.out h).1⟩, by first | rfl | trivial⟩
theorem sym_eq (c : UInt8) : Lx.sym c = Lx.symL.any fun d => d.toNat == c.toNat := by
  have : ∀ n : Fin 256, Lx.sym (UInt8.ofNat n.val) = Lx.symL.any fun d => d.toNat == (UInt8.ofNat n.val).toNat := by decide +kernel
  simpa using this ⟨c.toNat, c.toNat_lt⟩
set_option maxRecDepth 100000 in
set_option maxHeartbeats 1600000 in
theorem rsymbol_any (c : UInt8) (w : World) : Calls Tryd.prog 28 #[.int .u8 (c.toNat : Int)] w fun e w' => e = .returned (.bool (Lx.sym c)) ∧ w = w' := by
  have hs := text_size Lx.symL
  have HS := Lib.hid (sym_eq c)
  go_enter Tryd.func28, Tryd.ntmps28
  go_wp2_with fail
  go_loopw [4] (fun t wr => ∃ j : Nat, t = .int .i64 (j : Int) ∧ j ≤ 10 ∧ Lx.sym c = ((Lx.symL.drop j).any fun d => d.toNat == c.toNat) ∧ wr = w) (fun t _ => 10 - (intOf t).toNat)
  case atStart => exact ⟨0, rfl, by omega, HS.out, rfl⟩
  case round =>
    clear HS
    obtain ⟨j, rfl, hj, he, rfl⟩ := hrel
    rcases Nat.lt_or_ge j 10 with hj2 | hj2
    · obtain ⟨d, hd⟩ : ∃ d, Lx.symL[j]? = some d := ⟨Lx.symL[j]'hj2, List.getElem?_eq_getElem hj2⟩
      have hB : ∀ h' : j < ByteArray.size ⟨#[59, 58, 44, 61, 47, 45, 40, 41, 123, 125]⟩, (⟨#[59, 58, 44, 61, 47, 45, 40, 41, 123, 125]⟩ : ByteArray)[j]'h' = d := text_get (s := Lx.symL) hd
      have b1 : decide ((j : Int) < 10) = true := by simp; omega
      rw [drop_get hd, List.any_cons] at he
      cases hb : d.toNat == c.toNat with
      | true =>
        have b2 : ((d.toNat : Int) == (c.toNat : Int)) = true := by simp at hb; simp [hb]
        have HE := Lib.hid (show Lx.sym c = true by rw [he, hb]; rfl)
        clear he hd hb
        go_wp2_with fail
        go_ret
        exact ⟨ret_bool (by rw [HE.out]), by first | rfl | trivial⟩
      | false =>
        have b2 : ((d.toNat : Int) == (c.toNat : Int)) = false := by simp at hb; simp; omega
        have HE := Lib.hid (show Lx.sym c = ((Lx.symL.drop (j + 1)).any fun d => d.toNat == c.toNat) by rw [he, hb]; rfl)
        clear he hd hb
        go_wp2_with fail
        go_roundw
        case rel => exact ⟨j + 1, by simp, by omega, HE.out, by first | rfl | trivial⟩
        case measure => simp [intOf]; omega
    · have b1 : decide ((j : Int) < 10) = false := by simp; omega
      have HE := Lib.hid (show Lx.sym c = false by rw [he, List.drop_eq_nil_of_le hj2]; rfl)
      clear he
      go_wp2_with fail
      go_ret
      exact ⟨ret_bool (by rw [HE.out]), by first | rfl | trivial⟩
end Go.Proofs.YtedeodeejpaioaaDoor

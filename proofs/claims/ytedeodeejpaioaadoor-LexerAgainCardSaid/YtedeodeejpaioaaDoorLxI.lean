/- The reference implementation: gap, name, number, symbol. -/
import Derived.Test.YtedeodeejpaioaaDoorLxB
import Derived.Test.YtedeodeejpaioaaDoorLxMath6
namespace Go.Proofs.YtedeodeejpaioaaDoor
open Go.RowKit

theorem gap_lf {c : UInt8} {t : List UInt8} {cm : Bool} (h : c.toNat = 10) : Lx.gapN (c :: t) cm = Lx.gapN t false + 1 := by rw [Lx.gapN, if_pos h]
theorem gap_sharp {c : UInt8} {t : List UInt8} {cm : Bool} (h : c.toNat = 35) : Lx.gapN (c :: t) cm = Lx.gapN t true + 1 := by rw [Lx.gapN, if_neg (by omega), if_pos h]
theorem gap_go {c : UInt8} {t : List UInt8} {cm : Bool} (h1 : c.toNat ≠ 10) (h2 : c.toNat ≠ 35) (h : cm = true ∨ c.toNat = 32 ∨ c.toNat = 9) : Lx.gapN (c :: t) cm = Lx.gapN t cm + 1 := by
  rw [Lx.gapN, if_neg h1, if_neg h2, if_pos (by rcases h with rfl | h | h <;> simp [*])]
theorem gap_stop {c : UInt8} {t : List UInt8} (h1 : c.toNat ≠ 10) (h2 : c.toNat ≠ 35) (h3 : c.toNat ≠ 32) (h4 : c.toNat ≠ 9) : Lx.gapN (c :: t) false = 0 := by
  rw [Lx.gapN, if_neg h1, if_neg h2, if_neg (by simp [h3, h4])]
theorem word_dot {c : UInt8} (h : Lx.word c = true) : c.toNat ≠ 46 := by
  intro h2
  unfold Lx.word Lx.letter Lx.digit at h
  simp [h2] at h
set_option maxRecDepth 100000 in
set_option maxHeartbeats 3200000 in
theorem rgap_any (s : List UInt8) (k : Nat) (w : World) (hl : s.length ≤ 4294967280) (hk : k ≤ s.length) :
    Calls Tryd.prog 20 #[.string ⟨s.toArray⟩, .int .i64 (k : Int)] w fun e w' => e = .returned (.int .i64 ((Lx.gapN (s.drop k) false : Nat) : Int)) ∧ w = w' := by
  have hs := text_size s
  go_enter Tryd.func20, Tryd.ntmps20
  go_wp2_with fail
  go_loopw [5, 6] (fun t u wr => ∃ (j : Nat) (cm : Bool), t = .int .i64 (j : Int) ∧ u = .bool cm ∧ k + j ≤ s.length ∧ j + Lx.gapN (s.drop (k + j)) cm = Lx.gapN (s.drop k) false ∧ wr = w) (fun t _ _ => s.length - (intOf t).toNat)
  case atStart => exact ⟨0, false, rfl, rfl, by omega, by rw [Nat.add_zero, Nat.zero_add], rfl⟩
  case round =>
    obtain ⟨j, cm, rfl, rfl, hj, he, rfl⟩ := hrel
    have HE := Lib.hid he
    clear he
    obtain ⟨i, hi⟩ : ∃ i, k + j = i := ⟨_, rfl⟩
    rw [hi] at hj
    have e0 : (k : Int) + (j : Int) = (i : Int) := by omega
    have HE := Lib.hid (show j + Lx.gapN (s.drop i) cm = Lx.gapN (s.drop k) false by rw [← hi]; exact HE.out)
    rcases Nat.lt_or_ge i s.length with hj2 | hj2
    · obtain ⟨c, hc⟩ : ∃ c, s[i]? = some c := ⟨s[i], List.getElem?_eq_getElem hj2⟩
      have hB := text_get hc
      have HC := Lib.hid hc
      have b1 : decide ((i : Int) < (s.length : Int)) = true := by simp; omega
      have hd := drop_get hc
      have HD := Lib.hid hd
      clear hd hc
      cases cm with
      | true =>
        by_cases h10 : c.toNat = 10
        · have b10 : ((c.toNat : Int) == 10) = true := by simp; omega
          have hg := gap_lf (t := s.drop (i + 1)) (cm := true) h10
          rw [← HD.out] at hg
          have HG := Lib.hid hg
          clear hg
          go_wp2_with fail
          go_roundw
          case rel => exact ⟨j + 1, false, by simp, rfl, by omega, by rw [← HE.out, HG.out, ← Nat.add_assoc, hi]; omega, by first | rfl | trivial⟩
          case measure => simp [intOf]; omega
        · by_cases h35 : c.toNat = 35
          · have b10 : ((c.toNat : Int) == 10) = false := by simp; omega
            have b35 : ((c.toNat : Int) == 35) = true := by simp; omega
            have hg := gap_sharp (t := s.drop (i + 1)) (cm := true) h35
            rw [← HD.out] at hg
            have HG := Lib.hid hg
            clear hg
            go_wp2_with fail
            go_roundw
            case rel => exact ⟨j + 1, true, by simp, rfl, by omega, by rw [← HE.out, HG.out, ← Nat.add_assoc, hi]; omega, by first | rfl | trivial⟩
            case measure => simp [intOf]; omega
          · have b10 : ((c.toNat : Int) == 10) = false := by simp; omega
            have b35 : ((c.toNat : Int) == 35) = false := by simp; omega
            have hg := gap_go (t := s.drop (i + 1)) (cm := true) h10 h35 (.inl rfl)
            rw [← HD.out] at hg
            have HG := Lib.hid hg
            clear hg
            go_wp2_with fail
            go_roundw
            case rel => exact ⟨j + 1, true, by simp, rfl, by omega, by rw [← HE.out, HG.out, ← Nat.add_assoc, hi]; omega, by first | rfl | trivial⟩
            case measure => simp [intOf]; omega
      | false =>
        by_cases h10 : c.toNat = 10
        · have b10 : ((c.toNat : Int) == 10) = true := by simp; omega
          have hg := gap_lf (t := s.drop (i + 1)) (cm := false) h10
          rw [← HD.out] at hg
          have HG := Lib.hid hg
          clear hg
          go_wp2_with fail
          go_roundw
          case rel => exact ⟨j + 1, false, by simp, rfl, by omega, by rw [← HE.out, HG.out, ← Nat.add_assoc, hi]; omega, by first | rfl | trivial⟩
          case measure => simp [intOf]; omega
        · by_cases h35 : c.toNat = 35
          · have b10 : ((c.toNat : Int) == 10) = false := by simp; omega
            have b35 : ((c.toNat : Int) == 35) = true := by simp; omega
            have hg := gap_sharp (t := s.drop (i + 1)) (cm := false) h35
            rw [← HD.out] at hg
            have HG := Lib.hid hg
            clear hg
            go_wp2_with fail
            go_roundw
            case rel => exact ⟨j + 1, true, by simp, rfl, by omega, by rw [← HE.out, HG.out, ← Nat.add_assoc, hi]; omega, by first | rfl | trivial⟩
            case measure => simp [intOf]; omega
          · by_cases h32 : c.toNat = 32
            · have b10 : ((c.toNat : Int) == 10) = false := by simp; omega
              have b35 : ((c.toNat : Int) == 35) = false := by simp; omega
              have b32 : ((c.toNat : Int) != 32) = false := by simp; omega
              have hg := gap_go (t := s.drop (i + 1)) (cm := false) h10 h35 (.inr (.inl h32))
              rw [← HD.out] at hg
              have HG := Lib.hid hg
              clear hg
              go_wp2_with fail
              go_roundw
              case rel => exact ⟨j + 1, false, by simp, rfl, by omega, by rw [← HE.out, HG.out, ← Nat.add_assoc, hi]; omega, by first | rfl | trivial⟩
              case measure => simp [intOf]; omega
            · by_cases h9 : c.toNat = 9
              · have b10 : ((c.toNat : Int) == 10) = false := by simp; omega
                have b35 : ((c.toNat : Int) == 35) = false := by simp; omega
                have b32 : ((c.toNat : Int) != 32) = true := by simp; omega
                have b9 : ((c.toNat : Int) != 9) = false := by simp; omega
                have hg := gap_go (t := s.drop (i + 1)) (cm := false) h10 h35 (.inr (.inr h9))
                rw [← HD.out] at hg
                have HG := Lib.hid hg
                clear hg
                go_wp2_with fail
                go_roundw
                case rel => exact ⟨j + 1, false, by simp, rfl, by omega, by rw [← HE.out, HG.out, ← Nat.add_assoc, hi]; omega, by first | rfl | trivial⟩
                case measure => simp [intOf]; omega
              · have b10 : ((c.toNat : Int) == 10) = false := by simp; omega
                have b35 : ((c.toNat : Int) == 35) = false := by simp; omega
                have b32 : ((c.toNat : Int) != 32) = true := by simp; omega
                have b9 : ((c.toNat : Int) != 9) = true := by simp; omega
                have hg := gap_stop (t := s.drop (i + 1)) h10 h35 h32 h9
                rw [← HD.out] at hg
                have HG := Lib.hid hg
                clear hg
                go_wp2_with fail
                go_ret
                exact ⟨ret_int (by rw [← HE.out, HG.out]; rfl), by first | rfl | trivial⟩
    · have b1 : decide ((i : Int) < (s.length : Int)) = false := by simp; omega
      go_wp2_with fail
      go_ret
      exact ⟨ret_int (by rw [← HE.out, List.drop_eq_nil_of_le hj2]; cases cm <;> rfl), by first | rfl | trivial⟩
set_option maxRecDepth 100000 in
set_option maxHeartbeats 3200000 in
theorem rname_any (s : List UInt8) (k : Nat) (w : World) (hl : s.length ≤ 4294967280) (hk : k ≤ s.length) :
    Calls Tryd.prog 25 #[.string ⟨s.toArray⟩, .int .i64 (k : Int)] w fun e w' => e = .returned (.int .i64 ((Lx.nameN (s.drop k) : Nat) : Int)) ∧ w = w' := by
  have hs := text_size s
  go_enter Tryd.func25, Tryd.ntmps25
  go_wp2_with fail
  go_loopw [5] (fun t wr => ∃ j : Nat, t = .int .i64 (j : Int) ∧ k + j ≤ s.length ∧ j + Lx.nameN (s.drop (k + j)) = Lx.nameN (s.drop k) ∧ wr = w) (fun t _ => s.length - (intOf t).toNat)
  case atStart => exact ⟨0, rfl, by omega, by rw [Nat.add_zero, Nat.zero_add], rfl⟩
  case round =>
    obtain ⟨j, rfl, hj, he, rfl⟩ := hrel
    have HE := Lib.hid he
    clear he
    obtain ⟨i, hi⟩ : ∃ i, k + j = i := ⟨_, rfl⟩
    rw [hi] at hj
    have e0 : (k : Int) + (j : Int) = (i : Int) := by omega
    have HE := Lib.hid (show j + Lx.nameN (s.drop i) = Lx.nameN (s.drop k) by rw [← hi]; exact HE.out)
    rcases Nat.lt_or_ge i s.length with hj2 | hj2
    · obtain ⟨c, hc⟩ : ∃ c, s[i]? = some c := ⟨s[i], List.getElem?_eq_getElem hj2⟩
      have hB := text_get hc
      have HC := Lib.hid hc
      have b1 : decide ((i : Int) < (s.length : Int)) = true := by simp; omega
      have hn := name_step hc
      rw [belN_get hc] at hn
      clear hc
      cases hw : Lx.word c with
      | true =>
        have hne := word_dot hw
        have b46 : ((c.toNat : Int) == 46) = false := by simp; omega
        rw [hw, Bool.true_or, if_pos rfl] at hn
        have HN := Lib.hid hn
        clear hn hne
        · go_wp2_with (go_at_call 36; refine (rword_any _ _).mono ?_; rintro e w' ⟨rfl, rfl⟩)
          go_roundw
          case rel => exact ⟨j + 1, by simp, by omega, by rw [← HE.out, HN.out, ← Nat.add_assoc, hi]; omega, by first | rfl | trivial⟩
          case measure => simp [intOf]; omega
      | false =>
        by_cases h46 : c.toNat = 46
        · have b46 : ((c.toNat : Int) == 46) = true := by simp; omega
          rcases Nat.lt_or_ge (i + 1) s.length with hi1 | hi1
          · obtain ⟨d, hd⟩ : ∃ d, s[i + 1]? = some d := ⟨s[i + 1], List.getElem?_eq_getElem hi1⟩
            have hBd := text_get hd
            have hin := inS_get hd
            have b2 : decide ((i : Int) + 1 < (s.length : Int)) = true := by simp; omega
            have e3 : ((i : Int) + 1).toNat = i + 1 := by omega
            rw [hw, Bool.false_or, hin] at hn
            cases hwd : Lx.word d with
            | true =>
              rw [hwd, if_pos (by simp [h46])] at hn
              have HN := Lib.hid hn
              clear hn hin hd h46
              · go_wp2_with (go_at_call 36; refine (rword_any _ _).mono ?_; rintro e w' ⟨rfl, rfl⟩)
                go_roundw
                case rel => exact ⟨j + 1, by simp, by omega, by rw [← HE.out, HN.out, ← Nat.add_assoc, hi]; omega, by first | rfl | trivial⟩
                case measure => simp [intOf]; omega
            | false =>
              rw [hwd, if_neg (by simp)] at hn
              have HN := Lib.hid hn
              clear hn hin hd h46
              · go_wp2_with (go_at_call 36; refine (rword_any _ _).mono ?_; rintro e w' ⟨rfl, rfl⟩)
                go_ret
                exact ⟨ret_int (by rw [← HE.out, HN.out]; rfl), by first | rfl | trivial⟩
          · have b2 : decide ((i : Int) + 1 < (s.length : Int)) = false := by simp; omega
            rw [hw, Bool.false_or, inS_end hi1, Bool.and_false, if_neg (by simp)] at hn
            have HN := Lib.hid hn
            clear hn h46
            go_wp2_with (go_at_call 36; refine (rword_any _ _).mono ?_; rintro e w' ⟨rfl, rfl⟩)
            go_ret
            exact ⟨ret_int (by rw [← HE.out, HN.out]; rfl), by first | rfl | trivial⟩
        · have b46 : ((c.toNat : Int) == 46) = false := by simp; omega
          rw [hw, Bool.false_or, if_neg (by simp [h46])] at hn
          have HN := Lib.hid hn
          clear hn h46
          go_wp2_with (go_at_call 36; refine (rword_any _ _).mono ?_; rintro e w' ⟨rfl, rfl⟩)
          go_ret
          exact ⟨ret_int (by rw [← HE.out, HN.out]; rfl), by first | rfl | trivial⟩
    · have b1 : decide ((i : Int) < (s.length : Int)) = false := by simp; omega
      go_wp2_with fail
      go_ret
      exact ⟨ret_int (by rw [← HE.out, List.drop_eq_nil_of_le hj2]; rfl), by first | rfl | trivial⟩
end Go.Proofs.YtedeodeejpaioaaDoor

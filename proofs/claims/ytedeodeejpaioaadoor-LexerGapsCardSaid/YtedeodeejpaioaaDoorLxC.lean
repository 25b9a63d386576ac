/- skip and name. -/
import Derived.Test.YtedeodeejpaioaaDoorLxB
namespace Go.Proofs.YtedeodeejpaioaaDoor
open Go.RowKit

theorem gap_comm : ∀ t : List UInt8, Lx.gapN t true = commN t + Lx.gapN (t.drop (commN t)) false
  | [] => rfl
  | c :: t => by
    have ih := gap_comm t
    rw [Lx.gapN, commN]
    by_cases h1 : c.toNat = 10
    · rw [if_pos h1, if_neg (by simp [h1]), List.drop_zero, Lx.gapN, if_pos h1]
      omega
    · rw [if_neg h1, if_pos (show (c.toNat != 10) = true from bne_iff_ne.2 h1), List.drop_succ_cons]
      split
      · omega
      · rw [if_pos (by simp)]
        omega
theorem gap_hash {c : UInt8} {t : List UInt8} (h : c.toNat = 35) : Lx.gapN (c :: t) false = commN (c :: t) + Lx.gapN ((c :: t).drop (commN (c :: t))) false := by
  have := gap_comm t
  rw [Lx.gapN, if_neg (by omega), if_pos h, commN, if_pos (by simp; omega), List.drop_succ_cons]
  omega
theorem gap_one {c : UInt8} {t : List UInt8} (h : c.toNat = 10 ∨ c.toNat = 32 ∨ c.toNat = 9) : Lx.gapN (c :: t) false = Lx.gapN t false + 1 := by
  rw [Lx.gapN]
  rcases h with h | h | h
  · rw [if_pos h]
  · rw [if_neg (by omega), if_neg (by omega), if_pos (by simp [h])]
  · rw [if_neg (by omega), if_neg (by omega), if_pos (by simp [h])]
theorem gap_not {c : UInt8} {t : List UInt8} (h1 : c.toNat ≠ 10) (h2 : c.toNat ≠ 32) (h3 : c.toNat ≠ 9) (h4 : c.toNat ≠ 35) : Lx.gapN (c :: t) false = 0 := by
  rw [Lx.gapN, if_neg h1, if_neg h4, if_neg (by simp [h2, h3])]
/-- a part of a text -/
theorem text_cut (s : List UInt8) (k n : Nat) : (⟨s.toArray⟩ : ByteArray).extract k (k + n) = ⟨((s.drop k).take n).toArray⟩ := by
  apply ByteArray.ext
  simp [List.extract_eq_take_drop]
/-- a token's value -/
def TV (kd : Int) (tx : List UInt8) (n at_ : Int) : Value := .agg #[.int .i64 kd, .string ⟨tx.toArray⟩, .int .i64 n, .int .i64 at_]
/-- what a scan panics with -/
def PV (e at_ : Int) : List PanicEntry := [{ v := .iface 41 (.agg #[.int .i64 e, .int .i64 at_]), recovered := false }]
set_option maxRecDepth 100000 in
set_option maxHeartbeats 3200000 in
theorem skip_any (s : List UInt8) (k : Nat) (w : World) (hl : s.length ≤ 4294967280) (hk : k ≤ s.length) :
    Calls Tryd.prog 22 #[.string ⟨s.toArray⟩, .int .i64 (k : Int)] w fun e w' => e = .returned (.int .i64 ((k + Lx.gapN (s.drop k) false : Nat) : Int)) ∧ Below w.heap.size w w' := by
  have hs := text_size s
  go_enter Tryd.func22, Tryd.ntmps22
  go_wp2
  go_loopw [1] (fun t wr => ∃ j : Nat, t = .int .i64 (j : Int) ∧ j ≤ s.length ∧ j + Lx.gapN (s.drop j) false = k + Lx.gapN (s.drop k) false ∧ wr.cell? ⟨w.heap.size, 0, none⟩ = some (.string ⟨s.toArray⟩) ∧ Below w.heap.size w wr) (fun t _ => s.length - (intOf t).toNat)
  case atStart => exact ⟨k, rfl, hk, rfl, by go_simp, (by repeat (first | exact Below.refl _ _ | assumption | refine below_drewN ?_ _ | refine Below.setCell ?_ (by first | (simp; done) | (simp; omega)) _ | refine Below.alloc ?_ (by first | (simp; done) | (simp; omega) | omega) _ | refine Below.drew ?_ | refine Below.trans ?_ (Below.mono (by assumption) (by first | (simp; done) | (simp; omega) | omega))))⟩
  case round =>
    obtain ⟨j, rfl, hj, he, hc0, hbw⟩ := hrel
    have HE := Lib.hid he
    clear he
    rcases Nat.lt_or_ge j s.length with hj2 | hj2
    · obtain ⟨c, hc⟩ : ∃ c, s[j]? = some c := ⟨s[j], List.getElem?_eq_getElem hj2⟩
      have hB := text_get hc
      have hd := drop_get hc
      have HD := Lib.hid hd
      have b1 : decide ((j : Int) < (s.length : Int)) = true := by simp; omega
      clear hd hc
      by_cases h32 : c.toNat = 32
      · have b32 : ((c.toNat : Int) == 32) = true := by simp; omega
        have hg := gap_one (t := s.drop (j + 1)) (show c.toNat = 10 ∨ c.toNat = 32 ∨ c.toNat = 9 by omega)
        rw [← HD.out] at hg
        have HG := Lib.hid hg
        clear hg
        go_wp2_with fail
        go_roundw
        case rel => exact ⟨j + 1, by simp, by omega, by rw [← HE.out, HG.out]; omega, hc0, hbw⟩
        case measure => simp [intOf]; omega
      · by_cases h9 : c.toNat = 9
        · have b32 : ((c.toNat : Int) == 32) = false := by simp; omega
          have b9 : ((c.toNat : Int) == 9) = true := by simp; omega
          have hg := gap_one (t := s.drop (j + 1)) (show c.toNat = 10 ∨ c.toNat = 32 ∨ c.toNat = 9 by omega)
          rw [← HD.out] at hg
          have HG := Lib.hid hg
          clear hg
          go_wp2_with fail
          go_roundw
          case rel => exact ⟨j + 1, by simp, by omega, by rw [← HE.out, HG.out]; omega, hc0, hbw⟩
          case measure => simp [intOf]; omega
        · by_cases h10 : c.toNat = 10
          · have b32 : ((c.toNat : Int) == 32) = false := by simp; omega
            have b9 : ((c.toNat : Int) == 9) = false := by simp; omega
            have b10 : ((c.toNat : Int) == 10) = true := by simp; omega
            have hg := gap_one (t := s.drop (j + 1)) (show c.toNat = 10 ∨ c.toNat = 32 ∨ c.toNat = 9 by omega)
            rw [← HD.out] at hg
            have HG := Lib.hid hg
            clear hg
            go_wp2_with fail
            go_roundw
            case rel => exact ⟨j + 1, by simp, by omega, by rw [← HE.out, HG.out]; omega, hc0, hbw⟩
            case measure => simp [intOf]; omega
          · by_cases h35 : c.toNat = 35
            · have b32 : ((c.toNat : Int) == 32) = false := by simp; omega
              have b9 : ((c.toNat : Int) == 9) = false := by simp; omega
              have b10 : ((c.toNat : Int) == 10) = false := by simp; omega
              have b35 : ((c.toNat : Int) == 35) = true := by simp; omega
              have hg := gap_hash (t := s.drop (j + 1)) h35
              have hle := commN_le (s.drop j)
              rw [List.length_drop] at hle
              have hpos : 1 ≤ commN (s.drop j) := by rw [HD.out, commN, if_pos (by simp; omega)]; omega
              rw [← HD.out, List.drop_drop] at hg
              have HG := Lib.hid hg
              have HC0 := Lib.hid hc0
              obtain ⟨m, hm⟩ : ∃ m, commN (s.drop j) = m := ⟨_, rfl⟩
              rw [hm] at hle hpos
              have HM := Lib.hid hm
              clear hg hm
              go_wp2_with fail
              refine (end_comm s j _ hl (by omega) HC0.out).mono ?_
              rintro e w' ⟨rfl, rfl⟩
              rw [HM.out]
              go_wp2_with fail
              go_roundw
              case rel => exact ⟨j + m, by simp, by omega, by rw [← HE.out, HG.out, HM.out]; omega, HC0.out, hbw⟩
              case measure => simp [intOf]; omega
            · have b32 : ((c.toNat : Int) == 32) = false := by simp; omega
              have b9 : ((c.toNat : Int) == 9) = false := by simp; omega
              have b10 : ((c.toNat : Int) == 10) = false := by simp; omega
              have b35 : ((c.toNat : Int) == 35) = false := by simp; omega
              have hg := gap_not (t := s.drop (j + 1)) h10 h32 h9 h35
              rw [← HD.out] at hg
              have HG := Lib.hid hg
              clear hg
              go_wp2_with fail
              go_ret
              exact ⟨ret_int (by rw [← HE.out, HG.out]; rfl), hbw⟩
    · have b1 : decide ((j : Int) < (s.length : Int)) = false := by simp; omega
      go_wp2_with fail
      go_ret
      exact ⟨ret_int (by rw [← HE.out, List.drop_eq_nil_of_le hj2]; rfl), hbw⟩
set_option maxRecDepth 100000 in
set_option maxHeartbeats 1600000 in
theorem name_ok (s : List UInt8) (k : Nat) (w : World) (hl : s.length ≤ 4294967280) (hk : k ≤ s.length) (h : Lx.nameN (s.drop k) ≤ 24) :
    Calls Tryd.prog 32 #[.string ⟨s.toArray⟩, .int .i64 (k : Int)] w fun e w' => e = .returned (TV 1 ((s.drop k).take (Lx.nameN (s.drop k))) 0 k) ∧ Below w.heap.size w w' := by
  have hs := text_size s
  have hle := Lx.nameN_le (s.drop k)
  rw [List.length_drop] at hle
  obtain ⟨m, hm⟩ : ∃ m, Lx.nameN (s.drop k) = m := ⟨_, rfl⟩
  rw [hm] at hle h ⊢
  have HM := Lib.hid hm
  have ht := text_cut s k m
  clear hm
  have e1 : (k : Int) + (m : Int) - (k : Int) = (m : Int) := by omega
  have b1 : decide (24 < (m : Int)) = false := by simp; omega
  have e2 : ((k : Int) + (m : Int)).toNat = k + m := by omega
  go_enter Tryd.func32, Tryd.ntmps32
  go_wp2_with fail
  refine (end_name s k _ hl hk (by go_simp)).mono ?_
  rintro e w' ⟨rfl, rfl⟩
  rw [HM.out]
  go_wp2_with fail
  refine bodyPost_ret (v := TV 1 ((s.drop k).take m) 0 k) (by simp [results, Tryd.results32, go_sem, TV]) rfl ⟨rfl, (by repeat (first | exact Below.refl _ _ | assumption | refine below_drewN ?_ _ | refine Below.setCell ?_ (by first | (simp; done) | (simp; omega)) _ | refine Below.alloc ?_ (by first | (simp; done) | (simp; omega) | omega) _ | refine Below.drew ?_ | refine Below.trans ?_ (Below.mono (by assumption) (by first | (simp; done) | (simp; omega) | omega))))⟩
theorem name_bad (s : List UInt8) (k : Nat) (w : World) (hl : s.length ≤ 4294967280) (hk : k ≤ s.length) (h : 24 < Lx.nameN (s.drop k)) :
    Calls Tryd.prog 32 #[.string ⟨s.toArray⟩, .int .i64 (k : Int)] w fun e w' => e = .panicked (PV 3 k) ∧ Below w.heap.size w w' := by
  have hs := text_size s
  have hle := Lx.nameN_le (s.drop k)
  rw [List.length_drop] at hle
  obtain ⟨m, hm⟩ : ∃ m, Lx.nameN (s.drop k) = m := ⟨_, rfl⟩
  rw [hm] at hle h
  have HM := Lib.hid hm
  clear hm
  have e1 : (k : Int) + (m : Int) - (k : Int) = (m : Int) := by omega
  have b1 : decide (24 < (m : Int)) = true := by simp; omega
  go_enter Tryd.func32, Tryd.ntmps32
  go_wp2_with fail
  refine (end_name s k _ hl hk (by go_simp)).mono ?_
  rintro e w' ⟨rfl, rfl⟩
  rw [HM.out]
  go_wp2_with fail
  refine ⟨rfl, rfl, (by repeat (first | exact Below.refl _ _ | assumption | refine below_drewN ?_ _ | refine Below.setCell ?_ (by first | (simp; done) | (simp; omega)) _ | refine Below.alloc ?_ (by first | (simp; done) | (simp; omega) | omega) _ | refine Below.drew ?_ | refine Below.trans ?_ (Below.mono (by assumption) (by first | (simp; done) | (simp; omega) | omega))))⟩
end Go.Proofs.YtedeodeejpaioaaDoor

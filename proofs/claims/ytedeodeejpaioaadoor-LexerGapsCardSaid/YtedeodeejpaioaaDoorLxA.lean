/- Which bytes are letters, digits, parts of names, symbols: program and reference. -/
import Derived.Test.YtedeodeejpaioaaDoorRows
import Derived.Test.YtedeodeejpaioaaDoorShelf
import Derived.Test.YtedeodeejpaioaaDoorLxMath5
import Derived.WalkKit
import Derived.WalkSpells
import Derived.WalkLawsBesides
import Derived.Deep.LoopGhost
import Derived.Deep.QuietTactic
import Derived.BigQuiet
import Derived.Lib.Hide
import Derived.Deep.Draws
import Derived.Lib.SmallJoins
import Derived.Lib.AppendIntMem
import Derived.ShapedOpen
import Derived.ChangeAgain
import Derived.RegionTactic
namespace Go.Proofs.YtedeodeejpaioaaDoor
open Go.RowKit

theorem cell_keep {w w' : World} (hb : Below w.heap.size w w') {a : Addr} {v : Value} (hc : w.cell? a = some v) : w'.cell? a = some v := (hb.cell (World.block_lt_of_cell? w a hc)).trans hc
theorem ret_bool {a b : Bool} (h : a = b) : Ending.returned (.bool a) = .returned (.bool b) := by rw [h]
theorem ret_int {k : IntKind} {a b : Int} (h : a = b) : Ending.returned (.int k a) = .returned (.int k b) := by rw [h]
/-- a byte of a text -/
theorem text_get {s : List UInt8} {k : Nat} {c : UInt8} (h : s[k]? = some c) : ∀ h' : k < ByteArray.size ⟨s.toArray⟩, (⟨s.toArray⟩ : ByteArray)[k]'h' = c := by
  intro h'
  obtain ⟨hk, e⟩ := List.getElem?_eq_some_iff.1 h
  exact e
theorem text_size (s : List UInt8) : ((⟨s.toArray⟩ : ByteArray)).size = s.length := by simp [ByteArray.size]
set_option maxRecDepth 100000 in
set_option maxHeartbeats 1600000 in
theorem isLetter_any (c : UInt8) (w : World) : Calls Tryd.prog 31 #[.int .u8 (c.toNat : Int)] w fun e w' => e = .returned (.bool (Lx.letter c)) ∧ w = w' := by
  by_cases h1 : 97 ≤ c.toNat
  · by_cases h2 : c.toNat ≤ 122
    · have hv : Lx.letter c = true := by unfold Lx.letter; simp; omega
      have b1 : decide (97 ≤ (c.toNat : Int)) = true := by simp; omega
      have b2 : decide ((c.toNat : Int) ≤ 122) = true := by simp; omega
      have HV := Lib.hid hv
      clear hv
      go_enter Tryd.func31, Tryd.ntmps31
      go_wp2
      go_ret
      exact ⟨ret_bool (by rw [HV.out]), rfl⟩
    · have hv : Lx.letter c = false := by unfold Lx.letter; simp; omega
      have b1 : decide (97 ≤ (c.toNat : Int)) = true := by simp; omega
      have b2 : decide ((c.toNat : Int) ≤ 122) = false := by simp; omega
      have b3 : decide (65 ≤ (c.toNat : Int)) = true := by simp; omega
      have b4 : decide ((c.toNat : Int) ≤ 90) = false := by simp; omega
      have HV := Lib.hid hv
      clear hv
      go_enter Tryd.func31, Tryd.ntmps31
      go_wp2
      go_ret
      exact ⟨ret_bool (by rw [HV.out]), rfl⟩
  · by_cases h2 : 65 ≤ c.toNat
    · by_cases h3 : c.toNat ≤ 90
      · have hv : Lx.letter c = true := by unfold Lx.letter; simp; omega
        have b1 : decide (97 ≤ (c.toNat : Int)) = false := by simp; omega
        have b3 : decide (65 ≤ (c.toNat : Int)) = true := by simp; omega
        have b4 : decide ((c.toNat : Int) ≤ 90) = true := by simp; omega
        have HV := Lib.hid hv
        clear hv
        go_enter Tryd.func31, Tryd.ntmps31
        go_wp2
        go_ret
        exact ⟨ret_bool (by rw [HV.out]), rfl⟩
      · have hv : Lx.letter c = false := by unfold Lx.letter; simp; omega
        have b1 : decide (97 ≤ (c.toNat : Int)) = false := by simp; omega
        have b3 : decide (65 ≤ (c.toNat : Int)) = true := by simp; omega
        have b4 : decide ((c.toNat : Int) ≤ 90) = false := by simp; omega
        have HV := Lib.hid hv
        clear hv
        go_enter Tryd.func31, Tryd.ntmps31
        go_wp2
        go_ret
        exact ⟨ret_bool (by rw [HV.out]), rfl⟩
    · have hv : Lx.letter c = false := by unfold Lx.letter; simp; omega
      have b1 : decide (97 ≤ (c.toNat : Int)) = false := by simp; omega
      have b3 : decide (65 ≤ (c.toNat : Int)) = false := by simp; omega
      have HV := Lib.hid hv
      clear hv
      go_enter Tryd.func31, Tryd.ntmps31
      go_wp2
      go_ret
      exact ⟨ret_bool (by rw [HV.out]), rfl⟩
set_option maxRecDepth 100000 in
set_option maxHeartbeats 1600000 in
theorem rLetter_any (c : UInt8) (w : World) : Calls Tryd.prog 24 #[.int .u8 (c.toNat : Int)] w fun e w' => e = .returned (.bool (Lx.letter c)) ∧ w = w' := by
  by_cases h1 : 97 ≤ c.toNat
  · by_cases h2 : c.toNat ≤ 122
    · have hv : Lx.letter c = true := by unfold Lx.letter; simp; omega
      have b1 : decide (97 ≤ (c.toNat : Int)) = true := by simp; omega
      have b2 : decide ((c.toNat : Int) ≤ 122) = true := by simp; omega
      have HV := Lib.hid hv
      clear hv
      go_enter Tryd.func24, Tryd.ntmps24
      go_wp2
      go_ret
      exact ⟨ret_bool (by rw [HV.out]), rfl⟩
    · have hv : Lx.letter c = false := by unfold Lx.letter; simp; omega
      have b1 : decide (97 ≤ (c.toNat : Int)) = true := by simp; omega
      have b2 : decide ((c.toNat : Int) ≤ 122) = false := by simp; omega
      have b3 : decide (65 ≤ (c.toNat : Int)) = true := by simp; omega
      have b4 : decide ((c.toNat : Int) ≤ 90) = false := by simp; omega
      have HV := Lib.hid hv
      clear hv
      go_enter Tryd.func24, Tryd.ntmps24
      go_wp2
      go_ret
      exact ⟨ret_bool (by rw [HV.out]), rfl⟩
  · by_cases h2 : 65 ≤ c.toNat
    · by_cases h3 : c.toNat ≤ 90
      · have hv : Lx.letter c = true := by unfold Lx.letter; simp; omega
        have b1 : decide (97 ≤ (c.toNat : Int)) = false := by simp; omega
        have b3 : decide (65 ≤ (c.toNat : Int)) = true := by simp; omega
        have b4 : decide ((c.toNat : Int) ≤ 90) = true := by simp; omega
        have HV := Lib.hid hv
        clear hv
        go_enter Tryd.func24, Tryd.ntmps24
        go_wp2
        go_ret
        exact ⟨ret_bool (by rw [HV.out]), rfl⟩
      · have hv : Lx.letter c = false := by unfold Lx.letter; simp; omega
        have b1 : decide (97 ≤ (c.toNat : Int)) = false := by simp; omega
        have b3 : decide (65 ≤ (c.toNat : Int)) = true := by simp; omega
        have b4 : decide ((c.toNat : Int) ≤ 90) = false := by simp; omega
        have HV := Lib.hid hv
        clear hv
        go_enter Tryd.func24, Tryd.ntmps24
        go_wp2
        go_ret
        exact ⟨ret_bool (by rw [HV.out]), rfl⟩
    · have hv : Lx.letter c = false := by unfold Lx.letter; simp; omega
      have b1 : decide (97 ≤ (c.toNat : Int)) = false := by simp; omega
      have b3 : decide (65 ≤ (c.toNat : Int)) = false := by simp; omega
      have HV := Lib.hid hv
      clear hv
      go_enter Tryd.func24, Tryd.ntmps24
      go_wp2
      go_ret
      exact ⟨ret_bool (by rw [HV.out]), rfl⟩
set_option maxRecDepth 100000 in
set_option maxHeartbeats 1600000 in
theorem isDigit_any (c : UInt8) (w : World) : Calls Tryd.prog 33 #[.int .u8 (c.toNat : Int)] w fun e w' => e = .returned (.bool (Lx.digit c)) ∧ w = w' := by
  by_cases h1 : 48 ≤ c.toNat
  · by_cases h2 : c.toNat ≤ 57
    · have hv : Lx.digit c = true := by unfold Lx.digit; simp; omega
      have b1 : decide (48 ≤ (c.toNat : Int)) = true := by simp; omega
      have b2 : decide ((c.toNat : Int) ≤ 57) = true := by simp; omega
      have HV := Lib.hid hv
      clear hv
      go_enter Tryd.func33, Tryd.ntmps33
      go_wp2
      go_ret
      exact ⟨ret_bool (by rw [HV.out]), rfl⟩
    · have hv : Lx.digit c = false := by unfold Lx.digit; simp; omega
      have b1 : decide (48 ≤ (c.toNat : Int)) = true := by simp; omega
      have b2 : decide ((c.toNat : Int) ≤ 57) = false := by simp; omega
      have HV := Lib.hid hv
      clear hv
      go_enter Tryd.func33, Tryd.ntmps33
      go_wp2
      go_ret
      exact ⟨ret_bool (by rw [HV.out]), rfl⟩
  · have hv : Lx.digit c = false := by unfold Lx.digit; simp; omega
    have b1 : decide (48 ≤ (c.toNat : Int)) = false := by simp; omega
    have HV := Lib.hid hv
    clear hv
    go_enter Tryd.func33, Tryd.ntmps33
    go_wp2
    go_ret
    exact ⟨ret_bool (by rw [HV.out]), rfl⟩
set_option maxRecDepth 100000 in
set_option maxHeartbeats 1600000 in
theorem rDigit_any (c : UInt8) (w : World) : Calls Tryd.prog 26 #[.int .u8 (c.toNat : Int)] w fun e w' => e = .returned (.bool (Lx.digit c)) ∧ w = w' := by
  by_cases h1 : 48 ≤ c.toNat
  · by_cases h2 : c.toNat ≤ 57
    · have hv : Lx.digit c = true := by unfold Lx.digit; simp; omega
      have b1 : decide (48 ≤ (c.toNat : Int)) = true := by simp; omega
      have b2 : decide ((c.toNat : Int) ≤ 57) = true := by simp; omega
      have HV := Lib.hid hv
      clear hv
      go_enter Tryd.func26, Tryd.ntmps26
      go_wp2
      go_ret
      exact ⟨ret_bool (by rw [HV.out]), rfl⟩
    · have hv : Lx.digit c = false := by unfold Lx.digit; simp; omega
      have b1 : decide (48 ≤ (c.toNat : Int)) = true := by simp; omega
      have b2 : decide ((c.toNat : Int) ≤ 57) = false := by simp; omega
      have HV := Lib.hid hv
      clear hv
      go_enter Tryd.func26, Tryd.ntmps26
      go_wp2
      go_ret
      exact ⟨ret_bool (by rw [HV.out]), rfl⟩
  · have hv : Lx.digit c = false := by unfold Lx.digit; simp; omega
    have b1 : decide (48 ≤ (c.toNat : Int)) = false := by simp; omega
    have HV := Lib.hid hv
    clear hv
    go_enter Tryd.func26, Tryd.ntmps26
    go_wp2
    go_ret
    exact ⟨ret_bool (by rw [HV.out]), rfl⟩
set_option maxRecDepth 100000 in
set_option maxHeartbeats 1600000 in
theorem rword_any (c : UInt8) (w : World) : Calls Tryd.prog 36 #[.int .u8 (c.toNat : Int)] w fun e w' => e = .returned (.bool (Lx.word c)) ∧ w = w' := by
  cases hl : Lx.letter c with
  | true =>
    have hv : Lx.word c = true := by unfold Lx.word; simp [hl]
    have HV := Lib.hid hv
    clear hv
    go_enter Tryd.func36, Tryd.ntmps36
    go_wp2_with (first | (go_at_call 24; refine (rLetter_any _ _).mono ?_; rintro e w' ⟨rfl, rfl⟩) | (go_at_call 26; refine (rDigit_any _ _).mono ?_; rintro e w' ⟨rfl, rfl⟩))
    go_ret
    exact ⟨ret_bool (by rw [HV.out]), rfl⟩
  | false =>
    cases hd : Lx.digit c with
    | true =>
      have hv : Lx.word c = true := by unfold Lx.word; simp [hl, hd]
      have HV := Lib.hid hv
      clear hv
      go_enter Tryd.func36, Tryd.ntmps36
      go_wp2_with (first | (go_at_call 24; refine (rLetter_any _ _).mono ?_; rintro e w' ⟨rfl, rfl⟩) | (go_at_call 26; refine (rDigit_any _ _).mono ?_; rintro e w' ⟨rfl, rfl⟩))
      go_ret
      exact ⟨ret_bool (by rw [HV.out]), rfl⟩
    | false =>
      have hv : Lx.word c = ((c.toNat : Int) == 95) := by
        unfold Lx.word
        rw [hl, hd, Bool.false_or, Bool.false_or]
        rw [Bool.eq_iff_iff]
        simp
        omega
      have HV := Lib.hid hv
      clear hv
      go_enter Tryd.func36, Tryd.ntmps36
      go_wp2_with (first | (go_at_call 24; refine (rLetter_any _ _).mono ?_; rintro e w' ⟨rfl, rfl⟩) | (go_at_call 26; refine (rDigit_any _ _).mono ?_; rintro e w' ⟨rfl, rfl⟩))
      go_ret
      exact ⟨ret_bool (by rw [HV.out]), rfl⟩
/-- whether a part of a name stands at an offset -/
def inS (s : List UInt8) (k : Nat) : Bool := Lx.hd Lx.word (s.drop k)
theorem inS_get {s : List UInt8} {k : Nat} {c : UInt8} (h : s[k]? = some c) : inS s k = Lx.word c := by
  obtain ⟨hk, e⟩ := List.getElem?_eq_some_iff.1 h
  unfold inS
  rw [List.drop_eq_getElem_cons hk, e]
  rfl
theorem inS_end {s : List UInt8} {k : Nat} (h : s.length ≤ k) : inS s k = false := by
  unfold inS
  rw [List.drop_eq_nil_of_le h]
  rfl
set_option maxRecDepth 100000 in
set_option maxHeartbeats 1600000 in
theorem inName_any (s : List UInt8) (k : Nat) (w : World) :
    Calls Tryd.prog 38 #[.string ⟨s.toArray⟩, .int .i64 (k : Int)] w fun e w' => e = .returned (.bool (inS s k)) ∧ w = w' := by
  have hs := text_size s
  rcases Nat.lt_or_ge k s.length with hk | hk
  · obtain ⟨c, hc⟩ : ∃ c, s[k]? = some c := ⟨s[k], List.getElem?_eq_getElem hk⟩
    have hB := text_get hc
    have b1 : decide ((k : Int) < (s.length : Int)) = true := by simp; omega
    cases hl : Lx.letter c with
    | true =>
      have hv : inS s k = true := by rw [inS_get hc]; unfold Lx.word; simp [hl]
      have HV := Lib.hid hv
      clear hv hc
      go_enter Tryd.func38, Tryd.ntmps38
      go_wp2_with (first | (go_at_call 31; refine (isLetter_any _ _).mono ?_; rintro e w' ⟨rfl, rfl⟩) | (go_at_call 33; refine (isDigit_any _ _).mono ?_; rintro e w' ⟨rfl, rfl⟩))
      go_ret
      exact ⟨ret_bool (by rw [HV.out]), rfl⟩
    | false =>
      cases hd : Lx.digit c with
      | true =>
        have hv : inS s k = true := by rw [inS_get hc]; unfold Lx.word; simp [hl, hd]
        have HV := Lib.hid hv
        clear hv hc
        go_enter Tryd.func38, Tryd.ntmps38
        go_wp2_with (first | (go_at_call 31; refine (isLetter_any _ _).mono ?_; rintro e w' ⟨rfl, rfl⟩) | (go_at_call 33; refine (isDigit_any _ _).mono ?_; rintro e w' ⟨rfl, rfl⟩))
        go_ret
        exact ⟨ret_bool (by rw [HV.out]), rfl⟩
      | false =>
        have hv : inS s k = ((c.toNat : Int) == 95) := by
          rw [inS_get hc]
          unfold Lx.word
          rw [hl, hd, Bool.false_or, Bool.false_or]
          rw [Bool.eq_iff_iff]
          simp
          omega
        have HV := Lib.hid hv
        clear hv hc
        go_enter Tryd.func38, Tryd.ntmps38
        go_wp2_with (first | (go_at_call 31; refine (isLetter_any _ _).mono ?_; rintro e w' ⟨rfl, rfl⟩) | (go_at_call 33; refine (isDigit_any _ _).mono ?_; rintro e w' ⟨rfl, rfl⟩))
        go_ret
        exact ⟨ret_bool (by rw [HV.out]), rfl⟩
  · have b1 : decide ((k : Int) < (s.length : Int)) = false := by simp; omega
    have hv := inS_end hk
    have HV := Lib.hid hv
    clear hv
    go_enter Tryd.func38, Tryd.ntmps38
    go_wp2_with fail
    go_ret
    exact ⟨ret_bool (by rw [HV.out]), rfl⟩
end Go.Proofs.YtedeodeejpaioaaDoor

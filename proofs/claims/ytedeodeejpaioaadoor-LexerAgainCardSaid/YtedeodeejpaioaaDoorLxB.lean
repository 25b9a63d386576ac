/- The ends of names, numbers and comments: the closures, and end for each of them. -/
import Derived.Test.YtedeodeejpaioaaDoorLxA
namespace Go.Proofs.YtedeodeejpaioaaDoor
open Go.RowKit

/-- the bytes of a comment up to the line feed -/
def commN : List UInt8 → Nat
  | [] => 0
  | c :: s => if (c.toNat != 10) = true then commN s + 1 else 0
theorem inName_next (s : List UInt8) (k : Nat) (w : World) :
    Calls Tryd.prog 38 #[.string ⟨s.toArray⟩, .int .i64 ((k : Int) + 1)] w fun e w' => e = .returned (.bool (inS s (k + 1))) ∧ w = w' := by
  have h := inName_any s (k + 1) w
  rwa [Int.natCast_add] at h
def belC (s : List UInt8) (k : Nat) : Bool := Lx.hd (fun c => c.toNat != 10) (s.drop k)
def belD (s : List UInt8) (k : Nat) : Bool := Lx.hd Lx.digit (s.drop k)
def belN (s : List UInt8) (k : Nat) : Bool := inS s k || (Lx.hd (fun c => c.toNat == 46) (s.drop k) && inS s (k + 1))
theorem commN_le : ∀ s, commN s ≤ s.length
  | [] => Nat.le_refl _
  | c :: s => by
    have := commN_le s
    rw [commN, List.length_cons]
    split <;> omega
theorem drop_get {s : List UInt8} {k : Nat} {c : UInt8} (h : s[k]? = some c) : s.drop k = c :: s.drop (k + 1) := by
  obtain ⟨hk, e⟩ := List.getElem?_eq_some_iff.1 h
  rw [List.drop_eq_getElem_cons hk, e]
theorem belC_get {s : List UInt8} {k : Nat} {c : UInt8} (h : s[k]? = some c) : belC s k = (c.toNat != 10) := by unfold belC; rw [drop_get h]; rfl
theorem belD_get {s : List UInt8} {k : Nat} {c : UInt8} (h : s[k]? = some c) : belD s k = Lx.digit c := by unfold belD; rw [drop_get h]; rfl
theorem belN_get {s : List UInt8} {k : Nat} {c : UInt8} (h : s[k]? = some c) : belN s k = (Lx.word c || (c.toNat == 46 && inS s (k + 1))) := by unfold belN; rw [inS_get h, drop_get h]; rfl
theorem comm_step {s : List UInt8} {k : Nat} {c : UInt8} (h : s[k]? = some c) : commN (s.drop k) = if belC s k = true then commN (s.drop (k + 1)) + 1 else 0 := by rw [belC_get h, drop_get h, commN]
theorem num_step {s : List UInt8} {k : Nat} {c : UInt8} (h : s[k]? = some c) : Lx.numN (s.drop k) = if belD s k = true then Lx.numN (s.drop (k + 1)) + 1 else 0 := by rw [belD_get h, drop_get h, Lx.numN]
theorem name_step {s : List UInt8} {k : Nat} {c : UInt8} (h : s[k]? = some c) : Lx.nameN (s.drop k) = if belN s k = true then Lx.nameN (s.drop (k + 1)) + 1 else 0 := by rw [belN_get h, drop_get h, Lx.nameN]; rfl
set_option maxRecDepth 100000 in
set_option maxHeartbeats 1600000 in
theorem skip1_any {b : Nat} {s : List UInt8} {k : Nat} {c : UInt8} (w : World) (hc : s[k]? = some c) (c0 : w.cell? ⟨b, 0, none⟩ = some (.string ⟨s.toArray⟩)) :
    Calls Tryd.prog 30 #[.int .i64 (k : Int), .pointer (some ⟨b, 0, none⟩)] w fun e w' => e = .returned (.bool (belC s k)) ∧ w = w' := by
  have hs := text_size s
  obtain ⟨hk, _⟩ := List.getElem?_eq_some_iff.1 hc
  have hB := text_get hc
  have hv : belC s k = ((c.toNat : Int) != 10) := by
    rw [belC_get hc, Bool.eq_iff_iff]
    simp
    omega
  have HV := Lib.hid hv
  clear hv hc
  go_enter Tryd.func30, Tryd.ntmps30
  go_wp2
  go_ret
  exact ⟨ret_bool (by rw [HV.out]), rfl⟩
set_option maxRecDepth 100000 in
set_option maxHeartbeats 1600000 in
theorem number1_any {b : Nat} {s : List UInt8} {k : Nat} {c : UInt8} (w : World) (hc : s[k]? = some c) (c0 : w.cell? ⟨b, 0, none⟩ = some (.string ⟨s.toArray⟩)) :
    Calls Tryd.prog 39 #[.int .i64 (k : Int), .pointer (some ⟨b, 0, none⟩)] w fun e w' => e = .returned (.bool (belD s k)) ∧ w = w' := by
  have hs := text_size s
  obtain ⟨hk, _⟩ := List.getElem?_eq_some_iff.1 hc
  have hB := text_get hc
  have hv := belD_get hc
  have HV := Lib.hid hv
  clear hv hc
  go_enter Tryd.func39, Tryd.ntmps39
  go_wp2_with fail
  refine (isDigit_any _ _).mono ?_
  rintro e w' ⟨rfl, rfl⟩
  go_wp2
  go_ret
  exact ⟨ret_bool (by rw [HV.out]), rfl⟩
set_option maxRecDepth 100000 in
set_option maxHeartbeats 1600000 in
theorem name1_any {b : Nat} {s : List UInt8} {k : Nat} {c : UInt8} (w : World) (hc : s[k]? = some c) (c0 : w.cell? ⟨b, 0, none⟩ = some (.string ⟨s.toArray⟩)) (hl : s.length ≤ 4294967280) :
    Calls Tryd.prog 37 #[.int .i64 (k : Int), .pointer (some ⟨b, 0, none⟩)] w fun e w' => e = .returned (.bool (belN s k)) ∧ w = w' := by
  have hs := text_size s
  obtain ⟨hk, _⟩ := List.getElem?_eq_some_iff.1 hc
  have hB := text_get hc
  have he := belN_get hc
  have hi := inS_get hc
  have HI := Lib.hid hi
  clear hi hc
  cases hw : Lx.word c with
  | true =>
    have hv : belN s k = true := by rw [he, hw]; rfl
    have HV := Lib.hid hv
    have HW := Lib.hid hw
    clear hv he hw
    go_enter Tryd.func37, Tryd.ntmps37
    go_wp2_with fail
    refine (inName_any s k _).mono ?_
    rintro e w' ⟨rfl, rfl⟩
    rw [HI.out, HW.out]
    go_wp2_with fail
    go_ret
    exact ⟨ret_bool (by rw [HV.out]), rfl⟩
  | false =>
    have HW := Lib.hid hw
    clear hw
    by_cases h46 : c.toNat = 46
    · have hv : belN s k = inS s (k + 1) := by rw [he, HW.out, h46]; simp
      have HV := Lib.hid hv
      have b1 : ((c.toNat : Int) == 46) = true := by simp; omega
      clear hv he h46
      go_enter Tryd.func37, Tryd.ntmps37
      go_wp2_with fail
      refine (inName_any s k _).mono ?_
      rintro e w' ⟨rfl, rfl⟩
      rw [HI.out, HW.out]
      go_wp2_with fail
      refine (inName_next s k _).mono ?_
      rintro e w' ⟨rfl, rfl⟩
      go_wp2_with fail
      go_ret
      exact ⟨ret_bool (by rw [HV.out]), rfl⟩
    · have hv : belN s k = false := by rw [he, HW.out]; simp [h46]
      have HV := Lib.hid hv
      have b1 : ((c.toNat : Int) == 46) = false := by simp; omega
      clear hv he h46
      go_enter Tryd.func37, Tryd.ntmps37
      go_wp2_with fail
      refine (inName_any s k _).mono ?_
      rintro e w' ⟨rfl, rfl⟩
      rw [HI.out, HW.out]
      go_wp2_with fail
      go_ret
      exact ⟨ret_bool (by rw [HV.out]), rfl⟩
set_option maxRecDepth 100000 in
set_option maxHeartbeats 3200000 in
theorem end_comm {b : Nat} (s : List UInt8) (k : Nat) (w : World) (hl : s.length ≤ 4294967280) (hk : k ≤ s.length) (c0 : w.cell? ⟨b, 0, none⟩ = some (.string ⟨s.toArray⟩)) :
    Calls Tryd.prog 29 #[.string ⟨s.toArray⟩, .int .i64 (k : Int), .func (.func 30) #[] #[.pointer (some ⟨b, 0, none⟩)]] w fun e w' => e = .returned (.int .i64 ((k + commN (s.drop k) : Nat) : Int)) ∧ w = w' := by
  have hs := text_size s
  have C0 := Lib.hid c0
  clear c0
  go_enter Tryd.func29, Tryd.ntmps29
  go_wp2
  go_loopw [1] (fun t wr => ∃ j : Nat, t = .int .i64 (j : Int) ∧ j ≤ s.length ∧ j + commN (s.drop j) = k + commN (s.drop k) ∧ wr = w) (fun t _ => s.length - (intOf t).toNat)
  case atStart => exact ⟨k, rfl, hk, rfl, rfl⟩
  case round =>
    obtain ⟨j, rfl, hj, he, rfl⟩ := hrel
    have HE := Lib.hid he
    clear he
    rcases Nat.lt_or_ge j s.length with hj2 | hj2
    · obtain ⟨c, hc⟩ : ∃ c, s[j]? = some c := ⟨s[j], List.getElem?_eq_getElem hj2⟩
      have HC := Lib.hid hc
      have hst := comm_step hc
      have HST := Lib.hid hst
      have b1 : decide ((j : Int) < (s.length : Int)) = true := by simp; omega
      clear hc hst
      cases hb : belC s j with
      | true =>
        have HB := Lib.hid hb
        clear hb
        go_wp2_with (go_at_call 30; refine (skip1_any _ HC.out C0.out).mono ?_; rintro e w' ⟨rfl, rfl⟩; rw [HB.out])
        go_roundw
        case rel => exact ⟨j + 1, by simp, by omega, by rw [← HE.out, HST.out, if_pos HB.out]; omega, by first | rfl | trivial⟩
        case measure => simp [intOf]; omega
      | false =>
        have HB := Lib.hid hb
        clear hb
        go_wp2_with (go_at_call 30; refine (skip1_any _ HC.out C0.out).mono ?_; rintro e w' ⟨rfl, rfl⟩; rw [HB.out])
        go_ret
        exact ⟨ret_int (by rw [← HE.out, HST.out, if_neg (by rw [HB.out]; simp)]; rfl), by first | rfl | trivial⟩
    · have b1 : decide ((j : Int) < (s.length : Int)) = false := by simp; omega
      go_wp2_with fail
      go_ret
      exact ⟨ret_int (by rw [← HE.out, List.drop_eq_nil_of_le hj2]; rfl), by first | rfl | trivial⟩
set_option maxRecDepth 100000 in
set_option maxHeartbeats 3200000 in
theorem end_num {b : Nat} (s : List UInt8) (k : Nat) (w : World) (hl : s.length ≤ 4294967280) (hk : k ≤ s.length) (c0 : w.cell? ⟨b, 0, none⟩ = some (.string ⟨s.toArray⟩)) :
    Calls Tryd.prog 29 #[.string ⟨s.toArray⟩, .int .i64 (k : Int), .func (.func 39) #[] #[.pointer (some ⟨b, 0, none⟩)]] w fun e w' => e = .returned (.int .i64 ((k + Lx.numN (s.drop k) : Nat) : Int)) ∧ w = w' := by
  have hs := text_size s
  have C0 := Lib.hid c0
  clear c0
  go_enter Tryd.func29, Tryd.ntmps29
  go_wp2
  go_loopw [1] (fun t wr => ∃ j : Nat, t = .int .i64 (j : Int) ∧ j ≤ s.length ∧ j + Lx.numN (s.drop j) = k + Lx.numN (s.drop k) ∧ wr = w) (fun t _ => s.length - (intOf t).toNat)
  case atStart => exact ⟨k, rfl, hk, rfl, rfl⟩
  case round =>
    obtain ⟨j, rfl, hj, he, rfl⟩ := hrel
    have HE := Lib.hid he
    clear he
    rcases Nat.lt_or_ge j s.length with hj2 | hj2
    · obtain ⟨c, hc⟩ : ∃ c, s[j]? = some c := ⟨s[j], List.getElem?_eq_getElem hj2⟩
      have HC := Lib.hid hc
      have hst := num_step hc
      have HST := Lib.hid hst
      have b1 : decide ((j : Int) < (s.length : Int)) = true := by simp; omega
      clear hc hst
      cases hb : belD s j with
      | true =>
        have HB := Lib.hid hb
        clear hb
        go_wp2_with (go_at_call 39; refine (number1_any _ HC.out C0.out).mono ?_; rintro e w' ⟨rfl, rfl⟩; rw [HB.out])
        go_roundw
        case rel => exact ⟨j + 1, by simp, by omega, by rw [← HE.out, HST.out, if_pos HB.out]; omega, by first | rfl | trivial⟩
        case measure => simp [intOf]; omega
      | false =>
        have HB := Lib.hid hb
        clear hb
        go_wp2_with (go_at_call 39; refine (number1_any _ HC.out C0.out).mono ?_; rintro e w' ⟨rfl, rfl⟩; rw [HB.out])
        go_ret
        exact ⟨ret_int (by rw [← HE.out, HST.out, if_neg (by rw [HB.out]; simp)]; rfl), by first | rfl | trivial⟩
    · have b1 : decide ((j : Int) < (s.length : Int)) = false := by simp; omega
      go_wp2_with fail
      go_ret
      exact ⟨ret_int (by rw [← HE.out, List.drop_eq_nil_of_le hj2]; rfl), by first | rfl | trivial⟩
set_option maxRecDepth 100000 in
set_option maxHeartbeats 3200000 in
theorem end_name {b : Nat} (s : List UInt8) (k : Nat) (w : World) (hl : s.length ≤ 4294967280) (hk : k ≤ s.length) (c0 : w.cell? ⟨b, 0, none⟩ = some (.string ⟨s.toArray⟩)) :
    Calls Tryd.prog 29 #[.string ⟨s.toArray⟩, .int .i64 (k : Int), .func (.func 37) #[] #[.pointer (some ⟨b, 0, none⟩)]] w fun e w' => e = .returned (.int .i64 ((k + Lx.nameN (s.drop k) : Nat) : Int)) ∧ w = w' := by
  have hs := text_size s
  have C0 := Lib.hid c0
  clear c0
  go_enter Tryd.func29, Tryd.ntmps29
  go_wp2
  go_loopw [1] (fun t wr => ∃ j : Nat, t = .int .i64 (j : Int) ∧ j ≤ s.length ∧ j + Lx.nameN (s.drop j) = k + Lx.nameN (s.drop k) ∧ wr = w) (fun t _ => s.length - (intOf t).toNat)
  case atStart => exact ⟨k, rfl, hk, rfl, rfl⟩
  case round =>
    obtain ⟨j, rfl, hj, he, rfl⟩ := hrel
    have HE := Lib.hid he
    clear he
    rcases Nat.lt_or_ge j s.length with hj2 | hj2
    · obtain ⟨c, hc⟩ : ∃ c, s[j]? = some c := ⟨s[j], List.getElem?_eq_getElem hj2⟩
      have HC := Lib.hid hc
      have hst := name_step hc
      have HST := Lib.hid hst
      have b1 : decide ((j : Int) < (s.length : Int)) = true := by simp; omega
      clear hc hst
      cases hb : belN s j with
      | true =>
        have HB := Lib.hid hb
        clear hb
        go_wp2_with (go_at_call 37; refine (name1_any _ HC.out C0.out hl).mono ?_; rintro e w' ⟨rfl, rfl⟩; rw [HB.out])
        go_roundw
        case rel => exact ⟨j + 1, by simp, by omega, by rw [← HE.out, HST.out, if_pos HB.out]; omega, by first | rfl | trivial⟩
        case measure => simp [intOf]; omega
      | false =>
        have HB := Lib.hid hb
        clear hb
        go_wp2_with (go_at_call 37; refine (name1_any _ HC.out C0.out hl).mono ?_; rintro e w' ⟨rfl, rfl⟩; rw [HB.out])
        go_ret
        exact ⟨ret_int (by rw [← HE.out, HST.out, if_neg (by rw [HB.out]; simp)]; rfl), by first | rfl | trivial⟩
    · have b1 : decide ((j : Int) < (s.length : Int)) = false := by simp; omega
      go_wp2_with fail
      go_ret
      exact ⟨ret_int (by rw [← HE.out, List.drop_eq_nil_of_le hj2]; rfl), by first | rfl | trivial⟩
end Go.Proofs.YtedeodeejpaioaaDoor

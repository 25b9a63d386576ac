/- The reference implementation: token. -/
import Derived.Test.YtedeodeejpaioaaDoorLxJ
import Derived.Test.YtedeodeejpaioaaDoorLxG
namespace Go.Proofs.YtedeodeejpaioaaDoor
open Go.RowKit

set_option maxRecDepth 100000 in
set_option maxHeartbeats 1600000 in
theorem rtoken_name (s : List UInt8) (k : Nat) (c : UInt8) (w : World) (hl : s.length ≤ 4294967280) (hc : s[k]? = some c) (hle : Lx.letter c = true) (h : Lx.nameN (s.drop k) ≤ 24) :
    Calls Tryd.prog 21 #[.string ⟨s.toArray⟩, .int .i64 (k : Int)] w fun e w' => e = .returned (.tuple #[TV 1 ((s.drop k).take (Lx.nameN (s.drop k))) 0 k, .int .i64 0]) ∧ Below w.heap.size w w' := by
  have hs := text_size s
  obtain ⟨hk, _⟩ := List.getElem?_eq_some_iff.1 hc
  have hB := text_get hc
  have HL := Lib.hid hle
  have hln := Lx.nameN_le (s.drop k)
  rw [List.length_drop] at hln
  obtain ⟨m, hm⟩ : ∃ m, Lx.nameN (s.drop k) = m := ⟨_, rfl⟩
  rw [hm] at h hln ⊢
  have HM := Lib.hid hm
  have ht := text_cut s k m
  obtain ⟨tx, htx⟩ : ∃ tx, (s.drop k).take m = tx := ⟨_, rfl⟩
  rw [htx] at ht ⊢
  have b1 : decide (24 < (m : Int)) = false := by simp; omega
  have e2 : ((k : Int) + (m : Int)).toNat = k + m := by omega
  clear hle hc htx hm
  go_enter Tryd.func21, Tryd.ntmps21
  go_wp2_with fail
  refine (rLetter_any c _).mono ?_
  rintro e w' ⟨rfl, rfl⟩
  rw [HL.out]
  go_wp2_with fail
  refine (rname_any s k _ hl (by omega)).mono ?_
  rintro e w' ⟨rfl, rfl⟩
  rw [HM.out]
  go_wp2_with fail
  refine bodyPost_ret (v := .tuple #[TV 1 tx 0 k, .int .i64 0]) (by simp [results, Tryd.results21, go_sem, TV]) rfl ⟨rfl, (by repeat (first | exact Below.refl _ _ | assumption | refine below_drewN ?_ _ | refine Below.setCell ?_ (by first | (simp; done) | (simp; omega)) _ | refine Below.alloc ?_ (by first | (simp; done) | (simp; omega) | omega) _ | refine Below.drew ?_ | refine Below.trans ?_ (Below.mono (by assumption) (by first | (simp; done) | (simp; omega) | omega))))⟩
set_option maxRecDepth 100000 in
set_option maxHeartbeats 1600000 in
theorem rtoken_namebad (s : List UInt8) (k : Nat) (c : UInt8) (w : World) (hl : s.length ≤ 4294967280) (hc : s[k]? = some c) (hle : Lx.letter c = true) (h : 24 < Lx.nameN (s.drop k)) :
    Calls Tryd.prog 21 #[.string ⟨s.toArray⟩, .int .i64 (k : Int)] w fun e w' => e = .returned (.tuple #[TV 0 [] 0 0, .int .i64 3]) ∧ Below w.heap.size w w' := by
  have hs := text_size s
  obtain ⟨hk, _⟩ := List.getElem?_eq_some_iff.1 hc
  have hB := text_get hc
  have HL := Lib.hid hle
  have hln := Lx.nameN_le (s.drop k)
  rw [List.length_drop] at hln
  obtain ⟨m, hm⟩ : ∃ m, Lx.nameN (s.drop k) = m := ⟨_, rfl⟩
  rw [hm] at h hln
  have HM := Lib.hid hm
  have b1 : decide (24 < (m : Int)) = true := by simp; omega
  clear hle hc hm
  go_enter Tryd.func21, Tryd.ntmps21
  go_wp2_with fail
  refine (rLetter_any c _).mono ?_
  rintro e w' ⟨rfl, rfl⟩
  rw [HL.out]
  go_wp2_with fail
  refine (rname_any s k _ hl (by omega)).mono ?_
  rintro e w' ⟨rfl, rfl⟩
  rw [HM.out]
  go_wp2_with fail
  refine bodyPost_ret (v := .tuple #[TV 0 [] 0 0, .int .i64 3]) (by simp [results, Tryd.results21, go_sem, TV]) rfl ⟨rfl, (by repeat (first | exact Below.refl _ _ | assumption | refine below_drewN ?_ _ | refine Below.setCell ?_ (by first | (simp; done) | (simp; omega)) _ | refine Below.alloc ?_ (by first | (simp; done) | (simp; omega) | omega) _ | refine Below.drew ?_ | refine Below.trans ?_ (Below.mono (by assumption) (by first | (simp; done) | (simp; omega) | omega))))⟩
set_option maxRecDepth 100000 in
set_option maxHeartbeats 1600000 in
theorem rtoken_numlong (s : List UInt8) (k : Nat) (c : UInt8) (w : World) (hl : s.length ≤ 4294967280) (hc : s[k]? = some c) (hle : Lx.letter c = false) (hd : Lx.digit c = true) (h : 12 < Lx.numN (s.drop k)) :
    Calls Tryd.prog 21 #[.string ⟨s.toArray⟩, .int .i64 (k : Int)] w fun e w' => e = .returned (.tuple #[TV 0 [] 0 0, .int .i64 5]) ∧ Below w.heap.size w w' := by
  have hs := text_size s
  obtain ⟨hk, _⟩ := List.getElem?_eq_some_iff.1 hc
  have hB := text_get hc
  have HL := Lib.hid hle
  have HD := Lib.hid hd
  have hln := Lx.numN_le (s.drop k)
  rw [List.length_drop] at hln
  obtain ⟨m, hm⟩ : ∃ m, Lx.numN (s.drop k) = m := ⟨_, rfl⟩
  rw [hm] at h hln
  have HM := Lib.hid hm
  have b1 : decide (12 < (m : Int)) = true := by simp; omega
  clear hle hc hm hd
  go_enter Tryd.func21, Tryd.ntmps21
  go_wp2_with fail
  refine (rLetter_any c _).mono ?_
  rintro e w' ⟨rfl, rfl⟩
  rw [HL.out]
  go_wp2_with fail
  refine (rDigit_any c _).mono ?_
  rintro e w' ⟨rfl, rfl⟩
  rw [HD.out]
  go_wp2_with fail
  refine (rnumber_any s k _ hl (by omega)).mono ?_
  rintro e w' ⟨⟨v, rfl, hv⟩, rfl⟩
  rw [HM.out] at hv ⊢
  clear hv
  go_wp2_with fail
  refine bodyPost_ret (v := .tuple #[TV 0 [] 0 0, .int .i64 5]) (by simp [results, Tryd.results21, go_sem, TV]) rfl ⟨rfl, (by repeat (first | exact Below.refl _ _ | assumption | refine below_drewN ?_ _ | refine Below.setCell ?_ (by first | (simp; done) | (simp; omega)) _ | refine Below.alloc ?_ (by first | (simp; done) | (simp; omega) | omega) _ | refine Below.drew ?_ | refine Below.trans ?_ (Below.mono (by assumption) (by first | (simp; done) | (simp; omega) | omega))))⟩
set_option maxRecDepth 100000 in
set_option maxHeartbeats 1600000 in
theorem rtoken_numafter (s : List UInt8) (k : Nat) (c : UInt8) (w : World) (hl : s.length ≤ 4294967280) (hc : s[k]? = some c) (hle : Lx.letter c = false) (hd : Lx.digit c = true) (h : Lx.numN (s.drop k) ≤ 12) (ha : Lx.hd Lx.after ((s.drop k).drop (Lx.numN (s.drop k))) = true) :
    Calls Tryd.prog 21 #[.string ⟨s.toArray⟩, .int .i64 (k : Int)] w fun e w' => e = .returned (.tuple #[TV 0 [] 0 0, .int .i64 5]) ∧ Below w.heap.size w w' := by
  have hs := text_size s
  obtain ⟨hk, _⟩ := List.getElem?_eq_some_iff.1 hc
  have hB := text_get hc
  have HL := Lib.hid hle
  have HD := Lib.hid hd
  have hln := Lx.numN_le (s.drop k)
  rw [List.length_drop] at hln
  obtain ⟨m, hm⟩ : ∃ m, Lx.numN (s.drop k) = m := ⟨_, rfl⟩
  rw [hm] at h hln ha
  have HM := Lib.hid hm
  have b1 : decide (12 < (m : Int)) = false := by simp; omega
  obtain ⟨i, hi⟩ : ∃ i, k + m = i := ⟨_, rfl⟩
  have e0 : (k : Int) + (m : Int) = (i : Int) := by omega
  rw [List.drop_drop, hi] at ha
  rcases Nat.lt_or_ge i s.length with hi2 | hi2
  · obtain ⟨d, hdd⟩ : ∃ d, s[i]? = some d := ⟨s[i], List.getElem?_eq_getElem hi2⟩
    have hBd := text_get hdd
    rw [drop_get hdd] at ha
    have ha : Lx.after d = true := ha
    have b2 : decide ((i : Int) < (s.length : Int)) = true := by simp; omega
    clear hle hc hm hd hdd
    cases hld : Lx.letter d with
    | true =>
      have HLD := Lib.hid hld
      clear hld ha
      go_enter Tryd.func21, Tryd.ntmps21
      go_wp2_with fail
      refine (rLetter_any c _).mono ?_
      rintro e w' ⟨rfl, rfl⟩
      rw [HL.out]
      go_wp2_with fail
      refine (rDigit_any c _).mono ?_
      rintro e w' ⟨rfl, rfl⟩
      rw [HD.out]
      go_wp2_with fail
      refine (rnumber_any s k _ hl (by omega)).mono ?_
      rintro e w' ⟨⟨v, rfl, hv⟩, rfl⟩
      rw [HM.out] at hv ⊢
      clear hv
      go_wp2_with fail
      refine (rLetter_any d _).mono ?_
      rintro e w' ⟨rfl, rfl⟩
      rw [HLD.out]
      go_wp2_with fail
      refine bodyPost_ret (v := .tuple #[TV 0 [] 0 0, .int .i64 5]) (by simp [results, Tryd.results21, go_sem, TV]) rfl ⟨rfl, (by repeat (first | exact Below.refl _ _ | assumption | refine below_drewN ?_ _ | refine Below.setCell ?_ (by first | (simp; done) | (simp; omega)) _ | refine Below.alloc ?_ (by first | (simp; done) | (simp; omega) | omega) _ | refine Below.drew ?_ | refine Below.trans ?_ (Below.mono (by assumption) (by first | (simp; done) | (simp; omega) | omega))))⟩
    | false =>
      have HLD := Lib.hid hld
      have b3 : ((d.toNat : Int) == 95) = true := by
        unfold Lx.after at ha
        rw [hld, Bool.false_or] at ha
        simp at ha
        simp [ha]
      clear hld ha
      go_enter Tryd.func21, Tryd.ntmps21
      go_wp2_with fail
      refine (rLetter_any c _).mono ?_
      rintro e w' ⟨rfl, rfl⟩
      rw [HL.out]
      go_wp2_with fail
      refine (rDigit_any c _).mono ?_
      rintro e w' ⟨rfl, rfl⟩
      rw [HD.out]
      go_wp2_with fail
      refine (rnumber_any s k _ hl (by omega)).mono ?_
      rintro e w' ⟨⟨v, rfl, hv⟩, rfl⟩
      rw [HM.out] at hv ⊢
      clear hv
      go_wp2_with fail
      refine (rLetter_any d _).mono ?_
      rintro e w' ⟨rfl, rfl⟩
      rw [HLD.out]
      go_wp2_with fail
      refine bodyPost_ret (v := .tuple #[TV 0 [] 0 0, .int .i64 5]) (by simp [results, Tryd.results21, go_sem, TV]) rfl ⟨rfl, (by repeat (first | exact Below.refl _ _ | assumption | refine below_drewN ?_ _ | refine Below.setCell ?_ (by first | (simp; done) | (simp; omega)) _ | refine Below.alloc ?_ (by first | (simp; done) | (simp; omega) | omega) _ | refine Below.drew ?_ | refine Below.trans ?_ (Below.mono (by assumption) (by first | (simp; done) | (simp; omega) | omega))))⟩
  · rw [List.drop_eq_nil_of_le hi2] at ha
    cases ha
set_option maxRecDepth 100000 in
set_option maxHeartbeats 1600000 in
theorem rtoken_num (s : List UInt8) (k : Nat) (c : UInt8) (w : World) (hl : s.length ≤ 4294967280) (hc : s[k]? = some c) (hle : Lx.letter c = false) (hd : Lx.digit c = true) (h : Lx.numN (s.drop k) ≤ 12) (ha : Lx.hd Lx.after ((s.drop k).drop (Lx.numN (s.drop k))) = false) :
    Calls Tryd.prog 21 #[.string ⟨s.toArray⟩, .int .i64 (k : Int)] w fun e w' => e = .returned (.tuple #[TV 2 ((s.drop k).take (Lx.numN (s.drop k))) (Lx.valN ((s.drop k).take (Lx.numN (s.drop k)))) k, .int .i64 0]) ∧ Below w.heap.size w w' := by
  have hs := text_size s
  obtain ⟨hk, _⟩ := List.getElem?_eq_some_iff.1 hc
  have hB := text_get hc
  have HL := Lib.hid hle
  have HD := Lib.hid hd
  have hln := Lx.numN_le (s.drop k)
  rw [List.length_drop] at hln
  obtain ⟨m, hm⟩ : ∃ m, Lx.numN (s.drop k) = m := ⟨_, rfl⟩
  rw [hm] at h hln ha ⊢
  have HM := Lib.hid hm
  have b1 : decide (12 < (m : Int)) = false := by simp; omega
  obtain ⟨i, hi⟩ : ∃ i, k + m = i := ⟨_, rfl⟩
  have e0 : (k : Int) + (m : Int) = (i : Int) := by omega
  have ht := text_cut s k m
  obtain ⟨tx, htx⟩ : ∃ tx, (s.drop k).take m = tx := ⟨_, rfl⟩
  have HTX := Lib.hid htx
  rw [htx] at ht ⊢
  rw [hi] at ht
  rw [List.drop_drop, hi] at ha
  rcases Nat.lt_or_ge i s.length with hi2 | hi2
  · obtain ⟨d, hdd⟩ : ∃ d, s[i]? = some d := ⟨s[i], List.getElem?_eq_getElem hi2⟩
    have hBd := text_get hdd
    rw [drop_get hdd] at ha
    have ha : Lx.after d = false := ha
    have b2 : decide ((i : Int) < (s.length : Int)) = true := by simp; omega
    have hld : Lx.letter d = false := by
      cases h' : Lx.letter d with
      | false => rfl
      | true => unfold Lx.after at ha; rw [h'] at ha; cases ha
    have HLD := Lib.hid hld
    have b3 : ((d.toNat : Int) == 95) = false := by
      unfold Lx.after at ha
      rw [hld, Bool.false_or] at ha
      simp at ha
      simp
      omega
    clear hle hc hm hd hdd hld ha htx
    go_enter Tryd.func21, Tryd.ntmps21
    go_wp2_with fail
    refine (rLetter_any c _).mono ?_
    rintro e w' ⟨rfl, rfl⟩
    rw [HL.out]
    go_wp2_with fail
    refine (rDigit_any c _).mono ?_
    rintro e w' ⟨rfl, rfl⟩
    rw [HD.out]
    go_wp2_with fail
    refine (rnumber_any s k _ hl (by omega)).mono ?_
    rintro e w' ⟨⟨v, rfl, hv⟩, rfl⟩
    rw [HM.out] at hv ⊢
    have hv2 : v = Lx.valN tx := by rw [hv h, HTX.out]
    clear hv
    subst hv2
    go_wp2_with fail
    refine (rLetter_any d _).mono ?_
    rintro e w' ⟨rfl, rfl⟩
    rw [HLD.out]
    go_wp2_with fail
    refine bodyPost_ret (v := .tuple #[TV 2 tx (Lx.valN tx) k, .int .i64 0]) (by simp [results, Tryd.results21, go_sem, TV]) rfl ⟨rfl, (by repeat (first | exact Below.refl _ _ | assumption | refine below_drewN ?_ _ | refine Below.setCell ?_ (by first | (simp; done) | (simp; omega)) _ | refine Below.alloc ?_ (by first | (simp; done) | (simp; omega) | omega) _ | refine Below.drew ?_ | refine Below.trans ?_ (Below.mono (by assumption) (by first | (simp; done) | (simp; omega) | omega))))⟩
  · have b2 : decide ((i : Int) < (s.length : Int)) = false := by simp; omega
    clear hle hc hm hd ha htx
    go_enter Tryd.func21, Tryd.ntmps21
    go_wp2_with fail
    refine (rLetter_any c _).mono ?_
    rintro e w' ⟨rfl, rfl⟩
    rw [HL.out]
    go_wp2_with fail
    refine (rDigit_any c _).mono ?_
    rintro e w' ⟨rfl, rfl⟩
    rw [HD.out]
    go_wp2_with fail
    refine (rnumber_any s k _ hl (by omega)).mono ?_
    rintro e w' ⟨⟨v, rfl, hv⟩, rfl⟩
    rw [HM.out] at hv ⊢
    have hv2 : v = Lx.valN tx := by rw [hv h, HTX.out]
    clear hv
    subst hv2
    go_wp2_with fail
    refine bodyPost_ret (v := .tuple #[TV 2 tx (Lx.valN tx) k, .int .i64 0]) (by simp [results, Tryd.results21, go_sem, TV]) rfl ⟨rfl, (by repeat (first | exact Below.refl _ _ | assumption | refine below_drewN ?_ _ | refine Below.setCell ?_ (by first | (simp; done) | (simp; omega)) _ | refine Below.alloc ?_ (by first | (simp; done) | (simp; omega) | omega) _ | refine Below.drew ?_ | refine Below.trans ?_ (Below.mono (by assumption) (by first | (simp; done) | (simp; omega) | omega))))⟩
set_option maxRecDepth 100000 in
set_option maxHeartbeats 1600000 in
theorem rtoken_sym (s : List UInt8) (k : Nat) (c : UInt8) (w : World) (hl : s.length ≤ 4294967280) (hc : s[k]? = some c) (hle : Lx.letter c = false) (hd : Lx.digit c = false) (h : Lx.sym c = true) :
    Calls Tryd.prog 21 #[.string ⟨s.toArray⟩, .int .i64 (k : Int)] w fun e w' => e = .returned (.tuple #[TV 3 ((s.drop k).take 1) 0 k, .int .i64 0]) ∧ Below w.heap.size w w' := by
  have hs := text_size s
  obtain ⟨hk, _⟩ := List.getElem?_eq_some_iff.1 hc
  have hB := text_get hc
  have HL := Lib.hid hle
  have HD := Lib.hid hd
  have HS := Lib.hid h
  have ht := text_cut s k 1
  obtain ⟨tx, htx⟩ : ∃ tx, (s.drop k).take 1 = tx := ⟨_, rfl⟩
  rw [htx] at ht ⊢
  have e1 : ((k : Int) + 1).toNat = k + 1 := by omega
  clear hle h hc hd htx
  go_enter Tryd.func21, Tryd.ntmps21
  go_wp2_with fail
  refine (rLetter_any c _).mono ?_
  rintro e w' ⟨rfl, rfl⟩
  rw [HL.out]
  go_wp2_with fail
  refine (rDigit_any c _).mono ?_
  rintro e w' ⟨rfl, rfl⟩
  rw [HD.out]
  go_wp2_with fail
  refine (rsymbol_any c _).mono ?_
  rintro e w' ⟨rfl, rfl⟩
  rw [HS.out]
  go_wp2_with fail
  refine bodyPost_ret (v := .tuple #[TV 3 tx 0 k, .int .i64 0]) (by simp [results, Tryd.results21, go_sem, TV]) rfl ⟨rfl, (by repeat (first | exact Below.refl _ _ | assumption | refine below_drewN ?_ _ | refine Below.setCell ?_ (by first | (simp; done) | (simp; omega)) _ | refine Below.alloc ?_ (by first | (simp; done) | (simp; omega) | omega) _ | refine Below.drew ?_ | refine Below.trans ?_ (Below.mono (by assumption) (by first | (simp; done) | (simp; omega) | omega))))⟩
set_option maxRecDepth 100000 in
set_option maxHeartbeats 1600000 in
theorem rtoken_none (s : List UInt8) (k : Nat) (c : UInt8) (w : World) (hc : s[k]? = some c) (hle : Lx.letter c = false) (hd : Lx.digit c = false) (h : Lx.sym c = false) :
    Calls Tryd.prog 21 #[.string ⟨s.toArray⟩, .int .i64 (k : Int)] w fun e w' => e = .returned (.tuple #[TV 0 [] 0 0, .int .i64 4]) ∧ Below w.heap.size w w' := by
  have hs := text_size s
  obtain ⟨hk, _⟩ := List.getElem?_eq_some_iff.1 hc
  have hB := text_get hc
  have HL := Lib.hid hle
  have HD := Lib.hid hd
  have HS := Lib.hid h
  clear hle h hc hd
  go_enter Tryd.func21, Tryd.ntmps21
  go_wp2_with fail
  refine (rLetter_any c _).mono ?_
  rintro e w' ⟨rfl, rfl⟩
  rw [HL.out]
  go_wp2_with fail
  refine (rDigit_any c _).mono ?_
  rintro e w' ⟨rfl, rfl⟩
  rw [HD.out]
  go_wp2_with fail
  refine (rsymbol_any c _).mono ?_
  rintro e w' ⟨rfl, rfl⟩
  rw [HS.out]
  go_wp2_with fail
  refine bodyPost_ret (v := .tuple #[TV 0 [] 0 0, .int .i64 4]) (by simp [results, Tryd.results21, go_sem, TV]) rfl ⟨rfl, (by repeat (first | exact Below.refl _ _ | assumption | refine below_drewN ?_ _ | refine Below.setCell ?_ (by first | (simp; done) | (simp; omega)) _ | refine Below.alloc ?_ (by first | (simp; done) | (simp; omega) | omega) _ | refine Below.drew ?_ | refine Below.trans ?_ (Below.mono (by assumption) (by first | (simp; done) | (simp; omega) | omega))))⟩
theorem rtoken_ok (s : List UInt8) (k : Nat) (w : World) (hl : s.length ≤ 4294967280) (hk : k < s.length) {kd v : Int} {n : Nat} (h : Lx.tokS (s.drop k) = .tok kd n v) :
    Calls Tryd.prog 21 #[.string ⟨s.toArray⟩, .int .i64 (k : Int)] w fun e w' => e = .returned (.tuple #[TV kd ((s.drop k).take n) v k, .int .i64 0]) ∧ Below w.heap.size w w' := by
  obtain ⟨c, hc⟩ : ∃ c, s[k]? = some c := ⟨s[k], List.getElem?_eq_getElem hk⟩
  have hd := drop_get hc
  rw [hd, Lx.tokS, ← hd] at h
  split at h
  · rename_i hle
    split at h
    · cases h
    · cases h
      exact rtoken_name s k c w hl hc hle (by omega)
  · rename_i hle
    split at h
    · rename_i hdi
      split at h
      · cases h
      · rename_i hno
        cases h
        exact rtoken_num s k c w hl hc (by simpa using hle) hdi (by omega) (by
          cases hx : Lx.hd Lx.after ((s.drop k).drop (Lx.numN (s.drop k))) with
          | false => rfl
          | true => exact absurd (.inr hx) hno)
    · rename_i hdi
      split at h
      · rename_i hsy
        cases h
        exact rtoken_sym s k c w hl hc (by simpa using hle) (by simpa using hdi) hsy
      · cases h
theorem rtoken_bad (s : List UInt8) (k : Nat) (w : World) (hl : s.length ≤ 4294967280) (hk : k < s.length) {er : Int} (h : Lx.tokS (s.drop k) = .err er) :
    Calls Tryd.prog 21 #[.string ⟨s.toArray⟩, .int .i64 (k : Int)] w fun e w' => e = .returned (.tuple #[TV 0 [] 0 0, .int .i64 er]) ∧ Below w.heap.size w w' := by
  obtain ⟨c, hc⟩ : ∃ c, s[k]? = some c := ⟨s[k], List.getElem?_eq_getElem hk⟩
  have hd := drop_get hc
  rw [hd, Lx.tokS, ← hd] at h
  split at h
  · rename_i hle
    split at h
    · rename_i h24
      cases h
      exact rtoken_namebad s k c w hl hc hle h24
    · cases h
  · rename_i hle
    split at h
    · rename_i hdi
      split at h
      · rename_i hyes
        cases h
        rcases Nat.lt_or_ge 12 (Lx.numN (s.drop k)) with h12 | h12
        · exact rtoken_numlong s k c w hl hc (by simpa using hle) hdi h12
        · exact rtoken_numafter s k c w hl hc (by simpa using hle) hdi h12 (hyes.resolve_left (by omega))
      · cases h
    · rename_i hdi
      split at h
      · cases h
      · rename_i hsy
        cases h
        exact rtoken_none s k c w hc (by simpa using hle) (by simpa using hdi) (by simpa using hsy)
end Go.Proofs.YtedeodeejpaioaaDoor

/- token: what it returns, and what it panics with. -/
import Derived.Test.YtedeodeejpaioaaDoorLxD
namespace Go.Proofs.YtedeodeejpaioaaDoor
open Go.RowKit

theorem number_bad (s : List UInt8) (k : Nat) (w : World) (hl : s.length ≤ 4294967280) (hk : k < s.length) (hE : Env w) (h1 : 1 ≤ Lx.numN (s.drop k)) (h : 12 < Lx.numN (s.drop k) ∨ Lx.hd Lx.after ((s.drop k).drop (Lx.numN (s.drop k))) = true) :
    Calls Tryd.prog 34 #[.string ⟨s.toArray⟩, .int .i64 (k : Int)] w fun e w' => e = .panicked (PV 5 k) ∧ Below w.heap.size w w' := by
  rcases Nat.lt_or_ge 12 (Lx.numN (s.drop k)) with h12 | h12
  · have hle := Lx.numN_le (s.drop k)
    rcases Lx.atoi_any (l := (s.drop k).take (Lx.numN (s.drop k))) (Lx.num_digits _) (by rw [List.length_take]; omega) with ⟨v, hv⟩ | hr
    · exact number_long s k w hl hk h12 v hv
    · exact number_far s k w hl hk hE h12 hr
  · exact number_after s k w hl hk h12 h1 (h.resolve_left (by omega))
theorem num_pos {s : List UInt8} {k : Nat} {c : UInt8} (hc : s[k]? = some c) (h : Lx.digit c = true) : 1 ≤ Lx.numN (s.drop k) := by
  rw [drop_get hc, Lx.numN, if_pos h]
  omega
set_option maxRecDepth 100000 in
set_option maxHeartbeats 1600000 in
theorem token_name (s : List UInt8) (k : Nat) (c : UInt8) (w : World) (hl : s.length ≤ 4294967280) (hc : s[k]? = some c) (hle : Lx.letter c = true) (h : Lx.nameN (s.drop k) ≤ 24) :
    Calls Tryd.prog 23 #[.string ⟨s.toArray⟩, .int .i64 (k : Int)] w fun e w' => e = .returned (TV 1 ((s.drop k).take (Lx.nameN (s.drop k))) 0 k) ∧ Below w.heap.size w w' := by
  have hs := text_size s
  obtain ⟨hk, _⟩ := List.getElem?_eq_some_iff.1 hc
  have hB := text_get hc
  have HL := Lib.hid hle
  have H := Lib.hid h
  obtain ⟨tx, htx⟩ : ∃ tx, (s.drop k).take (Lx.nameN (s.drop k)) = tx := ⟨_, rfl⟩
  have HTX := Lib.hid htx
  rw [htx]
  clear hle h hc htx
  go_enter Tryd.func23, Tryd.ntmps23
  go_wp2_with fail
  refine (isLetter_any c _).mono ?_
  rintro e w' ⟨rfl, rfl⟩
  rw [HL.out]
  go_wp2_with fail
  refine (name_ok s k _ hl (by omega) H.out).mono ?_
  rintro e w1 ⟨rfl, hb1⟩
  rw [HTX.out]
  simp only [TV]
  have hz1 := hb1.size
  (try simp at hz1)
  have l0 : w.heap.size < w1.heap.size := by omega
  have c0 : w1.cell? ⟨w.heap.size, 0, none⟩ = some (.int .i64 0) := cell_keep hb1 (by go_simp)
  have c1 : w1.cell? ⟨w.heap.size, 1, none⟩ = some (.string ⟨#[]⟩) := cell_keep hb1 (by go_simp)
  have c2 : w1.cell? ⟨w.heap.size, 2, none⟩ = some (.int .i64 0) := cell_keep hb1 (by go_simp)
  have c3 : w1.cell? ⟨w.heap.size, 3, none⟩ = some (.int .i64 0) := cell_keep hb1 (by go_simp)
  have f0 : w1.frozen? ⟨w.heap.size, 0, none⟩ = false := (hb1.frozen (p := ⟨w.heap.size, 0, none⟩) (by first | (simp; done) | (simp; omega))).trans (by go_simp)
  have f1 : w1.frozen? ⟨w.heap.size, 1, none⟩ = false := (hb1.frozen (p := ⟨w.heap.size, 1, none⟩) (by first | (simp; done) | (simp; omega))).trans (by go_simp)
  have f2 : w1.frozen? ⟨w.heap.size, 2, none⟩ = false := (hb1.frozen (p := ⟨w.heap.size, 2, none⟩) (by first | (simp; done) | (simp; omega))).trans (by go_simp)
  have f3 : w1.frozen? ⟨w.heap.size, 3, none⟩ = false := (hb1.frozen (p := ⟨w.heap.size, 3, none⟩) (by first | (simp; done) | (simp; omega))).trans (by go_simp)
  have be1 : Below w.heap.size w w1 := (by repeat (first | exact Below.refl _ _ | assumption | refine below_drewN ?_ _ | refine Below.setCell ?_ (by first | (simp; done) | (simp; omega)) _ | refine Below.alloc ?_ (by first | (simp; done) | (simp; omega) | omega) _ | refine Below.drew ?_ | refine Below.trans ?_ (Below.mono (by assumption) (by first | (simp; done) | (simp; omega) | omega))))
  clear hb1
  go_wp2_with fail
  refine bodyPost_ret (v := TV 1 tx 0 k) (by simp [results, Tryd.results23, go_sem, TV, c0, c1, c2, c3]) rfl ⟨rfl, (by repeat (first | exact Below.refl _ _ | assumption | refine below_drewN ?_ _ | refine Below.setCell ?_ (by first | (simp; done) | (simp; omega)) _ | refine Below.alloc ?_ (by first | (simp; done) | (simp; omega) | omega) _ | refine Below.drew ?_ | refine Below.trans ?_ (Below.mono (by assumption) (by first | (simp; done) | (simp; omega) | omega))))⟩
set_option maxRecDepth 100000 in
set_option maxHeartbeats 1600000 in
theorem token_namebad (s : List UInt8) (k : Nat) (c : UInt8) (w : World) (hl : s.length ≤ 4294967280) (hc : s[k]? = some c) (hle : Lx.letter c = true) (h : 24 < Lx.nameN (s.drop k)) :
    Calls Tryd.prog 23 #[.string ⟨s.toArray⟩, .int .i64 (k : Int)] w fun e w' => e = .panicked (PV 3 k) ∧ Below w.heap.size w w' := by
  have hs := text_size s
  obtain ⟨hk, _⟩ := List.getElem?_eq_some_iff.1 hc
  have hB := text_get hc
  have HL := Lib.hid hle
  have H := Lib.hid h
  clear hle h hc
  go_enter Tryd.func23, Tryd.ntmps23
  go_wp2_with fail
  refine (isLetter_any c _).mono ?_
  rintro e w' ⟨rfl, rfl⟩
  rw [HL.out]
  go_wp2_with fail
  refine (name_bad s k _ hl (by omega) H.out).mono ?_
  rintro e w1 ⟨rfl, hb1⟩
  have hz1 := hb1.size
  (try simp at hz1)
  have be1 : Below w.heap.size w w1 := (by repeat (first | exact Below.refl _ _ | assumption | refine below_drewN ?_ _ | refine Below.setCell ?_ (by first | (simp; done) | (simp; omega)) _ | refine Below.alloc ?_ (by first | (simp; done) | (simp; omega) | omega) _ | refine Below.drew ?_ | refine Below.trans ?_ (Below.mono (by assumption) (by first | (simp; done) | (simp; omega) | omega))))
  go_wp2_with fail
  refine ⟨rfl, rfl, (by repeat (first | exact Below.refl _ _ | assumption | refine below_drewN ?_ _ | refine Below.setCell ?_ (by first | (simp; done) | (simp; omega)) _ | refine Below.alloc ?_ (by first | (simp; done) | (simp; omega) | omega) _ | refine Below.drew ?_ | refine Below.trans ?_ (Below.mono (by assumption) (by first | (simp; done) | (simp; omega) | omega))))⟩
set_option maxRecDepth 100000 in
set_option maxHeartbeats 1600000 in
theorem token_num (s : List UInt8) (k : Nat) (c : UInt8) (w : World) (hl : s.length ≤ 4294967280) (hc : s[k]? = some c) (hle : Lx.letter c = false) (hd : Lx.digit c = true) (h : Lx.numN (s.drop k) ≤ 12) (ha : Lx.hd Lx.after ((s.drop k).drop (Lx.numN (s.drop k))) = false) :
    Calls Tryd.prog 23 #[.string ⟨s.toArray⟩, .int .i64 (k : Int)] w fun e w' => e = .returned (TV 2 ((s.drop k).take (Lx.numN (s.drop k))) (Lx.valN ((s.drop k).take (Lx.numN (s.drop k)))) k) ∧ Below w.heap.size w w' := by
  have hs := text_size s
  obtain ⟨hk, _⟩ := List.getElem?_eq_some_iff.1 hc
  have hB := text_get hc
  have HP := Lib.hid (num_pos hc hd)
  have HL := Lib.hid hle
  have HD := Lib.hid hd
  have H := Lib.hid h
  have HA := Lib.hid ha
  obtain ⟨tx, htx⟩ : ∃ tx, (s.drop k).take (Lx.numN (s.drop k)) = tx := ⟨_, rfl⟩
  have HTX := Lib.hid htx
  rw [htx]
  clear hle h hc htx hd ha
  go_enter Tryd.func23, Tryd.ntmps23
  go_wp2_with fail
  refine (isLetter_any c _).mono ?_
  rintro e w' ⟨rfl, rfl⟩
  rw [HL.out]
  go_wp2_with fail
  refine (isDigit_any c _).mono ?_
  rintro e w' ⟨rfl, rfl⟩
  rw [HD.out]
  go_wp2_with fail
  refine (number_ok s k _ hl hk H.out HP.out HA.out).mono ?_
  rintro e w1 ⟨rfl, hb1⟩
  rw [HTX.out]
  simp only [TV]
  have hz1 := hb1.size
  (try simp at hz1)
  have l0 : w.heap.size < w1.heap.size := by omega
  have c0 : w1.cell? ⟨w.heap.size, 0, none⟩ = some (.int .i64 0) := cell_keep hb1 (by go_simp)
  have c1 : w1.cell? ⟨w.heap.size, 1, none⟩ = some (.string ⟨#[]⟩) := cell_keep hb1 (by go_simp)
  have c2 : w1.cell? ⟨w.heap.size, 2, none⟩ = some (.int .i64 0) := cell_keep hb1 (by go_simp)
  have c3 : w1.cell? ⟨w.heap.size, 3, none⟩ = some (.int .i64 0) := cell_keep hb1 (by go_simp)
  have f0 : w1.frozen? ⟨w.heap.size, 0, none⟩ = false := (hb1.frozen (p := ⟨w.heap.size, 0, none⟩) (by first | (simp; done) | (simp; omega))).trans (by go_simp)
  have f1 : w1.frozen? ⟨w.heap.size, 1, none⟩ = false := (hb1.frozen (p := ⟨w.heap.size, 1, none⟩) (by first | (simp; done) | (simp; omega))).trans (by go_simp)
  have f2 : w1.frozen? ⟨w.heap.size, 2, none⟩ = false := (hb1.frozen (p := ⟨w.heap.size, 2, none⟩) (by first | (simp; done) | (simp; omega))).trans (by go_simp)
  have f3 : w1.frozen? ⟨w.heap.size, 3, none⟩ = false := (hb1.frozen (p := ⟨w.heap.size, 3, none⟩) (by first | (simp; done) | (simp; omega))).trans (by go_simp)
  have be1 : Below w.heap.size w w1 := (by repeat (first | exact Below.refl _ _ | assumption | refine below_drewN ?_ _ | refine Below.setCell ?_ (by first | (simp; done) | (simp; omega)) _ | refine Below.alloc ?_ (by first | (simp; done) | (simp; omega) | omega) _ | refine Below.drew ?_ | refine Below.trans ?_ (Below.mono (by assumption) (by first | (simp; done) | (simp; omega) | omega))))
  clear hb1
  go_wp2_with fail
  refine bodyPost_ret (v := TV 2 tx (Lx.valN tx) k) (by simp [results, Tryd.results23, go_sem, TV, c0, c1, c2, c3]) rfl ⟨rfl, (by repeat (first | exact Below.refl _ _ | assumption | refine below_drewN ?_ _ | refine Below.setCell ?_ (by first | (simp; done) | (simp; omega)) _ | refine Below.alloc ?_ (by first | (simp; done) | (simp; omega) | omega) _ | refine Below.drew ?_ | refine Below.trans ?_ (Below.mono (by assumption) (by first | (simp; done) | (simp; omega) | omega))))⟩
set_option maxRecDepth 100000 in
set_option maxHeartbeats 1600000 in
theorem token_numbad (s : List UInt8) (k : Nat) (c : UInt8) (w : World) (hl : s.length ≤ 4294967280) (hc : s[k]? = some c) (hE : Env w) (hle : Lx.letter c = false) (hd : Lx.digit c = true) (h : 12 < Lx.numN (s.drop k) ∨ Lx.hd Lx.after ((s.drop k).drop (Lx.numN (s.drop k))) = true) :
    Calls Tryd.prog 23 #[.string ⟨s.toArray⟩, .int .i64 (k : Int)] w fun e w' => e = .panicked (PV 5 k) ∧ Below w.heap.size w w' := by
  have hs := text_size s
  obtain ⟨hk, _⟩ := List.getElem?_eq_some_iff.1 hc
  have hB := text_get hc
  have HP := Lib.hid (num_pos hc hd)
  have HL := Lib.hid hle
  have HD := Lib.hid hd
  have H := Lib.hid h
  have HEV := Lib.hid hE
  clear hle h hc hd hE
  go_enter Tryd.func23, Tryd.ntmps23
  go_wp2_with fail
  refine (isLetter_any c _).mono ?_
  rintro e w' ⟨rfl, rfl⟩
  rw [HL.out]
  go_wp2_with fail
  refine (isDigit_any c _).mono ?_
  rintro e w' ⟨rfl, rfl⟩
  rw [HD.out]
  go_wp2_with fail
  refine (number_bad s k _ hl hk (HEV.out.below (by repeat (first | exact Below.refl _ _ | assumption | refine below_drewN ?_ _ | refine Below.setCell ?_ (by first | (simp; done) | (simp; omega)) _ | refine Below.alloc ?_ (by first | (simp; done) | (simp; omega) | omega) _ | refine Below.drew ?_ | refine Below.trans ?_ (Below.mono (by assumption) (by first | (simp; done) | (simp; omega) | omega))))) HP.out H.out).mono ?_
  rintro e w1 ⟨rfl, hb1⟩
  have hz1 := hb1.size
  (try simp at hz1)
  have be1 : Below w.heap.size w w1 := (by repeat (first | exact Below.refl _ _ | assumption | refine below_drewN ?_ _ | refine Below.setCell ?_ (by first | (simp; done) | (simp; omega)) _ | refine Below.alloc ?_ (by first | (simp; done) | (simp; omega) | omega) _ | refine Below.drew ?_ | refine Below.trans ?_ (Below.mono (by assumption) (by first | (simp; done) | (simp; omega) | omega))))
  go_wp2_with fail
  refine ⟨rfl, rfl, (by repeat (first | exact Below.refl _ _ | assumption | refine below_drewN ?_ _ | refine Below.setCell ?_ (by first | (simp; done) | (simp; omega)) _ | refine Below.alloc ?_ (by first | (simp; done) | (simp; omega) | omega) _ | refine Below.drew ?_ | refine Below.trans ?_ (Below.mono (by assumption) (by first | (simp; done) | (simp; omega) | omega))))⟩
set_option maxRecDepth 100000 in
set_option maxHeartbeats 1600000 in
theorem token_sym (s : List UInt8) (k : Nat) (c : UInt8) (w : World) (hl : s.length ≤ 4294967280) (hc : s[k]? = some c) (hle : Lx.letter c = false) (hd : Lx.digit c = false) (h : Lx.sym c = true) :
    Calls Tryd.prog 23 #[.string ⟨s.toArray⟩, .int .i64 (k : Int)] w fun e w' => e = .returned (TV 3 ((s.drop k).take 1) 0 k) ∧ Below w.heap.size w w' := by
  have hs := text_size s
  obtain ⟨hk, _⟩ := List.getElem?_eq_some_iff.1 hc
  have hB := text_get hc
  have HL := Lib.hid hle
  have HD := Lib.hid hd
  obtain ⟨z, hx⟩ : ∃ z, Lib.indexByte Lx.symL c = z := ⟨_, rfl⟩
  have HX := Lib.hid hx
  rw [Lx.sym_index, hx] at h
  have b1 : decide (0 ≤ z) = true := h
  have ht := text_cut s k 1
  obtain ⟨tx, htx⟩ : ∃ tx, (s.drop k).take 1 = tx := ⟨_, rfl⟩
  rw [htx] at ht ⊢
  have e1 : ((k : Int) + 1).toNat = k + 1 := by omega
  clear hle h hc hd hx htx
  go_enter Tryd.func23, Tryd.ntmps23
  go_wp2_with fail
  refine (isLetter_any c _).mono ?_
  rintro e w' ⟨rfl, rfl⟩
  rw [HL.out]
  go_wp2_with fail
  refine (isDigit_any c _).mono ?_
  rintro e w' ⟨rfl, rfl⟩
  rw [HD.out]
  go_wp2_with fail
  refine (index_any c _).mono ?_
  rintro e w' ⟨rfl, rfl⟩
  rw [HX.out]
  go_wp2_with fail
  refine bodyPost_ret (v := TV 3 tx 0 k) (by simp [results, Tryd.results23, go_sem, TV]) rfl ⟨rfl, (by repeat (first | exact Below.refl _ _ | assumption | refine below_drewN ?_ _ | refine Below.setCell ?_ (by first | (simp; done) | (simp; omega)) _ | refine Below.alloc ?_ (by first | (simp; done) | (simp; omega) | omega) _ | refine Below.drew ?_ | refine Below.trans ?_ (Below.mono (by assumption) (by first | (simp; done) | (simp; omega) | omega))))⟩
set_option maxRecDepth 100000 in
set_option maxHeartbeats 1600000 in
theorem token_none (s : List UInt8) (k : Nat) (c : UInt8) (w : World) (hc : s[k]? = some c) (hle : Lx.letter c = false) (hd : Lx.digit c = false) (h : Lx.sym c = false) :
    Calls Tryd.prog 23 #[.string ⟨s.toArray⟩, .int .i64 (k : Int)] w fun e w' => e = .panicked (PV 4 k) ∧ Below w.heap.size w w' := by
  have hs := text_size s
  obtain ⟨hk, _⟩ := List.getElem?_eq_some_iff.1 hc
  have hB := text_get hc
  have HL := Lib.hid hle
  have HD := Lib.hid hd
  obtain ⟨z, hx⟩ : ∃ z, Lib.indexByte Lx.symL c = z := ⟨_, rfl⟩
  have HX := Lib.hid hx
  rw [Lx.sym_index, hx] at h
  have b1 : decide (0 ≤ z) = false := h
  clear hle h hc hd hx
  go_enter Tryd.func23, Tryd.ntmps23
  go_wp2_with fail
  refine (isLetter_any c _).mono ?_
  rintro e w' ⟨rfl, rfl⟩
  rw [HL.out]
  go_wp2_with fail
  refine (isDigit_any c _).mono ?_
  rintro e w' ⟨rfl, rfl⟩
  rw [HD.out]
  go_wp2_with fail
  refine (index_any c _).mono ?_
  rintro e w' ⟨rfl, rfl⟩
  rw [HX.out]
  go_wp2_with fail
  refine ⟨rfl, rfl, (by repeat (first | exact Below.refl _ _ | assumption | refine below_drewN ?_ _ | refine Below.setCell ?_ (by first | (simp; done) | (simp; omega)) _ | refine Below.alloc ?_ (by first | (simp; done) | (simp; omega) | omega) _ | refine Below.drew ?_ | refine Below.trans ?_ (Below.mono (by assumption) (by first | (simp; done) | (simp; omega) | omega))))⟩
/-- the token at an offset -/
theorem token_ok (s : List UInt8) (k : Nat) (w : World) (hl : s.length ≤ 4294967280) (hk : k < s.length) {kd v : Int} {n : Nat} (h : Lx.tokS (s.drop k) = .tok kd n v) :
    Calls Tryd.prog 23 #[.string ⟨s.toArray⟩, .int .i64 (k : Int)] w fun e w' => e = .returned (TV kd ((s.drop k).take n) v k) ∧ Below w.heap.size w w' := by
  obtain ⟨c, hc⟩ : ∃ c, s[k]? = some c := ⟨s[k], List.getElem?_eq_getElem hk⟩
  have hd := drop_get hc
  rw [hd, Lx.tokS, ← hd] at h
  split at h
  · rename_i hle
    split at h
    · cases h
    · cases h
      exact token_name s k c w hl hc hle (by omega)
  · rename_i hle
    split at h
    · rename_i hdi
      split at h
      · cases h
      · rename_i hno
        cases h
        exact token_num s k c w hl hc (by simpa using hle) hdi (by omega) (by
          cases hx : Lx.hd Lx.after ((s.drop k).drop (Lx.numN (s.drop k))) with
          | false => rfl
          | true => exact absurd (.inr hx) hno)
    · rename_i hdi
      split at h
      · rename_i hsy
        cases h
        exact token_sym s k c w hl hc (by simpa using hle) (by simpa using hdi) hsy
      · cases h
theorem token_bad (s : List UInt8) (k : Nat) (w : World) (hl : s.length ≤ 4294967280) (hk : k < s.length) (hE : Env w) {er : Int} (h : Lx.tokS (s.drop k) = .err er) :
    Calls Tryd.prog 23 #[.string ⟨s.toArray⟩, .int .i64 (k : Int)] w fun e w' => e = .panicked (PV er k) ∧ Below w.heap.size w w' := by
  obtain ⟨c, hc⟩ : ∃ c, s[k]? = some c := ⟨s[k], List.getElem?_eq_getElem hk⟩
  have hd := drop_get hc
  rw [hd, Lx.tokS, ← hd] at h
  split at h
  · rename_i hle
    split at h
    · rename_i h24
      cases h
      exact token_namebad s k c w hl hc hle h24
    · cases h
  · rename_i hle
    split at h
    · rename_i hdi
      split at h
      · rename_i hyes
        cases h
        exact token_numbad s k c w hl hc hE (by simpa using hle) hdi hyes
      · cases h
    · rename_i hdi
      split at h
      · cases h
      · rename_i hsy
        cases h
        exact token_none s k c w hc (by simpa using hle) (by simpa using hdi) (by simpa using hsy)
end Go.Proofs.YtedeodeejpaioaaDoor

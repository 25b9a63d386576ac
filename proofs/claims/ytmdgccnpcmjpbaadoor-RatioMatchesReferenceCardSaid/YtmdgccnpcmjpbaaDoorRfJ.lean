/- The reference implementation: Text. -/
import Derived.Test.YtmdgccnpcmjpbaaDoorRfI
namespace Go.Proofs.YtmdgccnpcmjpbaaDoor
open Go.RowKit

theorem dec_len (u : Nat) (hu : u ≤ 9223372036854775807) : (Lib.decDigits u).length ≤ 21 := by
  have k := Lib.itoa_length_le (u : Int) (by omega) (by omega)
  unfold Lib.itoa at k
  rw [if_neg (by omega), Int.toNat_natCast] at k
  exact k
theorem itoa_pos (n : Int) (h : 0 ≤ n) : Lib.itoa n = Lib.decDigits n.natAbs := by
  unfold Lib.itoa
  rw [if_neg (by omega), show n.toNat = n.natAbs by omega]
theorem itoa_neg (n : Int) (h : n < 0) : Lib.itoa n = 45 :: Lib.decDigits n.natAbs := by
  unfold Lib.itoa
  rw [if_pos h]
theorem rtext_no (n d : Int) (w : World) (h : ¬ Rt.Ok n d) :
    Calls Tryd.prog 26 #[.agg #[.int .i64 n, .int .i64 d]] w fun e w' => e = .returned (.string ⟨#[]⟩) ∧ Below w.heap.size w w' := by
  have H := Lib.hid h
  clear h
  go_enter Tryd.func26, Tryd.ntmps26
  go_wp2_with fail
  refine (rvalid_false _ _ _ H.out).mono ?_
  rintro e w1 ⟨rfl, hb1⟩
  go_wp2
  go_ret
  exact ⟨rfl, (by repeat (first | exact Below.refl _ _ | assumption | refine below_drewN ?_ _ | refine Below.setCell ?_ (by first | (simp; done) | (simp; omega)) _ | refine Below.alloc ?_ (by first | (simp; done) | (simp; omega) | omega) _ | refine Below.drew ?_ | refine Below.trans ?_ (Below.mono (by assumption) (by first | (simp; done) | (simp; omega) | omega))))⟩
set_option maxRecDepth 100000 in
set_option maxHeartbeats 3200000 in
theorem rtext_pos_one (n : Int) (w : World) (h : Rt.Ok n 1) (hn : 0 ≤ n) :
    Calls Tryd.prog 26 #[.agg #[.int .i64 n, .int .i64 1]] w fun e w' => e = .returned (.string ⟨(Lib.decDigits n.natAbs).toArray⟩) ∧ Below w.heap.size w w' := by
  have H := Lib.hid h
  obtain ⟨h1, h2, h3, h4, _⟩ := h
  have hn1 : decide (n < 0) = false := by simp; omega
  go_enter Tryd.func26, Tryd.ntmps26
  go_wp2_with fail
  refine (rvalid_true _ _ _ H.out).mono ?_
  rintro e w1 ⟨rfl, hb1⟩
  obtain ⟨hc1, hf1⟩ := bcell hb1
  have hz1 := hb1.size
  simp at hz1
  have bf1 : Below w.heap.size w w1 := (by repeat (first | exact Below.refl _ _ | assumption | refine below_drewN ?_ _ | refine Below.setCell ?_ (by first | (simp; done) | (simp; omega)) _ | refine Below.alloc ?_ (by first | (simp; done) | (simp; omega) | omega) _ | refine Below.drew ?_ | refine Below.trans ?_ (Below.mono (by assumption) (by first | (simp; done) | (simp; omega) | omega))))
  have g1 : w1.cell? ⟨w.heap.size, 0, none⟩ = some (.int .i64 n) := by rw [hc1 _ _ (by simp)]; go_simp
  have g2 : w1.cell? ⟨w.heap.size, 1, none⟩ = some (.int .i64 1) := by rw [hc1 _ _ (by simp)]; go_simp
  clear hc1 hf1 hb1 H
  have hl1 : w.heap.size < w1.heap.size := by omega
  have s1 : (Lib.decDigits n.natAbs).length ≤ 21 := dec_len _ (by omega)
  have k1 : ((⟨(Lib.decDigits n.natAbs).toArray⟩ : ByteArray)).size = (Lib.decDigits n.natAbs).length := by simp [ByteArray.size]
  go_wp2_with (go_at_call 31; refine (size_any _ _ (by omega) (by omega)).mono ?_; rintro e w' ⟨rfl, rfl⟩)
  refine (digits_any n.natAbs _ (by omega)).mono ?_
  rintro e w2 ⟨rfl, hb2⟩
  have hz2 := hb2.size
  have c1 := cell_keep hb2 g1
  have c2 := cell_keep hb2 g2
  clear g1 g2
  go_wp2
  go_ret
  exact ⟨by first | rfl | (simp; done), (by repeat (first | exact Below.refl _ _ | assumption | refine below_drewN ?_ _ | refine Below.setCell ?_ (by first | (simp; done) | (simp; omega)) _ | refine Below.alloc ?_ (by first | (simp; done) | (simp; omega) | omega) _ | refine Below.drew ?_ | refine Below.trans ?_ (Below.mono (by assumption) (by first | (simp; done) | (simp; omega) | omega))))⟩
set_option maxRecDepth 100000 in
set_option maxHeartbeats 3200000 in
theorem rtext_neg_one (n : Int) (w : World) (h : Rt.Ok n 1) (hn : n < 0) :
    Calls Tryd.prog 26 #[.agg #[.int .i64 n, .int .i64 1]] w fun e w' => e = .returned (.string ⟨(45 :: Lib.decDigits n.natAbs).toArray⟩) ∧ Below w.heap.size w w' := by
  have H := Lib.hid h
  obtain ⟨h1, h2, h3, h4, _⟩ := h
  have hn1 : decide (n < 0) = true := by simp; omega
  go_enter Tryd.func26, Tryd.ntmps26
  go_wp2_with fail
  refine (rvalid_true _ _ _ H.out).mono ?_
  rintro e w1 ⟨rfl, hb1⟩
  obtain ⟨hc1, hf1⟩ := bcell hb1
  have hz1 := hb1.size
  simp at hz1
  have bf1 : Below w.heap.size w w1 := (by repeat (first | exact Below.refl _ _ | assumption | refine below_drewN ?_ _ | refine Below.setCell ?_ (by first | (simp; done) | (simp; omega)) _ | refine Below.alloc ?_ (by first | (simp; done) | (simp; omega) | omega) _ | refine Below.drew ?_ | refine Below.trans ?_ (Below.mono (by assumption) (by first | (simp; done) | (simp; omega) | omega))))
  have g1 : w1.cell? ⟨w.heap.size, 0, none⟩ = some (.int .i64 n) := by rw [hc1 _ _ (by simp)]; go_simp
  have g2 : w1.cell? ⟨w.heap.size, 1, none⟩ = some (.int .i64 1) := by rw [hc1 _ _ (by simp)]; go_simp
  clear hc1 hf1 hb1 H
  have hl1 : w.heap.size < w1.heap.size := by omega
  have s1 : (Lib.decDigits n.natAbs).length ≤ 21 := dec_len _ (by omega)
  have k1 : ((⟨(Lib.decDigits n.natAbs).toArray⟩ : ByteArray)).size = (Lib.decDigits n.natAbs).length := by simp [ByteArray.size]
  go_wp2_with (go_at_call 31; refine (size_any _ _ (by omega) (by omega)).mono ?_; rintro e w' ⟨rfl, rfl⟩)
  refine (digits_any n.natAbs _ (by omega)).mono ?_
  rintro e w2 ⟨rfl, hb2⟩
  have hz2 := hb2.size
  have c1 := cell_keep hb2 g1
  have c2 := cell_keep hb2 g2
  clear g1 g2
  have r1 := bytes_one 45 (Lib.decDigits n.natAbs)
  have k2 : ((⟨(45 :: Lib.decDigits n.natAbs).toArray⟩ : ByteArray)).size = (Lib.decDigits n.natAbs).length + 1 := by simp [ByteArray.size]
  go_wp2
  go_ret
  exact ⟨by first | rfl | (simp; done), (by repeat (first | exact Below.refl _ _ | assumption | refine below_drewN ?_ _ | refine Below.setCell ?_ (by first | (simp; done) | (simp; omega)) _ | refine Below.alloc ?_ (by first | (simp; done) | (simp; omega) | omega) _ | refine Below.drew ?_ | refine Below.trans ?_ (Below.mono (by assumption) (by first | (simp; done) | (simp; omega) | omega))))⟩
set_option maxRecDepth 100000 in
set_option maxHeartbeats 3200000 in
theorem rtext_pos (n d : Int) (w : World) (h : Rt.Ok n d) (hn : 0 ≤ n) (hd : 1 < d) :
    Calls Tryd.prog 26 #[.agg #[.int .i64 n, .int .i64 d]] w fun e w' => e = .returned (.string ⟨(Lib.decDigits n.natAbs ++ 47 :: Lib.decDigits d.natAbs).toArray⟩) ∧ Below w.heap.size w w' := by
  have H := Lib.hid h
  obtain ⟨h1, h2, h3, h4, _⟩ := h
  have hn1 : decide (n < 0) = false := by simp; omega
  have hd1 : (d == 1) = false := by simp; omega
  have hd2 : (d != 1) = true := by simp; omega
  go_enter Tryd.func26, Tryd.ntmps26
  go_wp2_with fail
  refine (rvalid_true _ _ _ H.out).mono ?_
  rintro e w1 ⟨rfl, hb1⟩
  obtain ⟨hc1, hf1⟩ := bcell hb1
  have hz1 := hb1.size
  simp at hz1
  have bf1 : Below w.heap.size w w1 := (by repeat (first | exact Below.refl _ _ | assumption | refine below_drewN ?_ _ | refine Below.setCell ?_ (by first | (simp; done) | (simp; omega)) _ | refine Below.alloc ?_ (by first | (simp; done) | (simp; omega) | omega) _ | refine Below.drew ?_ | refine Below.trans ?_ (Below.mono (by assumption) (by first | (simp; done) | (simp; omega) | omega))))
  have g1 : w1.cell? ⟨w.heap.size, 0, none⟩ = some (.int .i64 n) := by rw [hc1 _ _ (by simp)]; go_simp
  have g2 : w1.cell? ⟨w.heap.size, 1, none⟩ = some (.int .i64 d) := by rw [hc1 _ _ (by simp)]; go_simp
  clear hc1 hf1 hb1 H
  have hl1 : w.heap.size < w1.heap.size := by omega
  have s1 : (Lib.decDigits n.natAbs).length ≤ 21 := dec_len _ (by omega)
  have k1 : ((⟨(Lib.decDigits n.natAbs).toArray⟩ : ByteArray)).size = (Lib.decDigits n.natAbs).length := by simp [ByteArray.size]
  go_wp2_with (go_at_call 31; refine (size_any _ _ (by omega) (by omega)).mono ?_; rintro e w' ⟨rfl, rfl⟩)
  refine (digits_any n.natAbs _ (by omega)).mono ?_
  rintro e w2 ⟨rfl, hb2⟩
  have hz2 := hb2.size
  have c1 := cell_keep hb2 g1
  have c2 := cell_keep hb2 g2
  clear g1 g2
  have s2 : (Lib.decDigits d.natAbs).length ≤ 21 := dec_len _ (by omega)
  have k3 : ((⟨(Lib.decDigits d.natAbs).toArray⟩ : ByteArray)).size = (Lib.decDigits d.natAbs).length := by simp [ByteArray.size]
  go_wp2_with (go_at_call 31; refine (size_any _ _ (by omega) (by omega)).mono ?_; rintro e w' ⟨rfl, rfl⟩)
  refine (digits_any d.natAbs _ (by omega)).mono ?_
  rintro e w3 ⟨rfl, hb3⟩
  go_wp2
  go_ret
  refine ⟨?_, (by repeat (first | exact Below.refl _ _ | assumption | refine below_drewN ?_ _ | refine Below.setCell ?_ (by first | (simp; done) | (simp; omega)) _ | refine Below.alloc ?_ (by first | (simp; done) | (simp; omega) | omega) _ | refine Below.drew ?_ | refine Below.trans ?_ (Below.mono (by assumption) (by first | (simp; done) | (simp; omega) | omega))))⟩
  go_simp
  exact bytes_app _ _
set_option maxRecDepth 100000 in
set_option maxHeartbeats 3200000 in
theorem rtext_neg (n d : Int) (w : World) (h : Rt.Ok n d) (hn : n < 0) (hd : 1 < d) :
    Calls Tryd.prog 26 #[.agg #[.int .i64 n, .int .i64 d]] w fun e w' => e = .returned (.string ⟨(45 :: Lib.decDigits n.natAbs ++ 47 :: Lib.decDigits d.natAbs).toArray⟩) ∧ Below w.heap.size w w' := by
  have H := Lib.hid h
  obtain ⟨h1, h2, h3, h4, _⟩ := h
  have hn1 : decide (n < 0) = true := by simp; omega
  have hd1 : (d == 1) = false := by simp; omega
  have hd2 : (d != 1) = true := by simp; omega
  go_enter Tryd.func26, Tryd.ntmps26
  go_wp2_with fail
  refine (rvalid_true _ _ _ H.out).mono ?_
  rintro e w1 ⟨rfl, hb1⟩
  obtain ⟨hc1, hf1⟩ := bcell hb1
  have hz1 := hb1.size
  simp at hz1
  have bf1 : Below w.heap.size w w1 := (by repeat (first | exact Below.refl _ _ | assumption | refine below_drewN ?_ _ | refine Below.setCell ?_ (by first | (simp; done) | (simp; omega)) _ | refine Below.alloc ?_ (by first | (simp; done) | (simp; omega) | omega) _ | refine Below.drew ?_ | refine Below.trans ?_ (Below.mono (by assumption) (by first | (simp; done) | (simp; omega) | omega))))
  have g1 : w1.cell? ⟨w.heap.size, 0, none⟩ = some (.int .i64 n) := by rw [hc1 _ _ (by simp)]; go_simp
  have g2 : w1.cell? ⟨w.heap.size, 1, none⟩ = some (.int .i64 d) := by rw [hc1 _ _ (by simp)]; go_simp
  clear hc1 hf1 hb1 H
  have hl1 : w.heap.size < w1.heap.size := by omega
  have s1 : (Lib.decDigits n.natAbs).length ≤ 21 := dec_len _ (by omega)
  have k1 : ((⟨(Lib.decDigits n.natAbs).toArray⟩ : ByteArray)).size = (Lib.decDigits n.natAbs).length := by simp [ByteArray.size]
  go_wp2_with (go_at_call 31; refine (size_any _ _ (by omega) (by omega)).mono ?_; rintro e w' ⟨rfl, rfl⟩)
  refine (digits_any n.natAbs _ (by omega)).mono ?_
  rintro e w2 ⟨rfl, hb2⟩
  have hz2 := hb2.size
  have c1 := cell_keep hb2 g1
  have c2 := cell_keep hb2 g2
  clear g1 g2
  have r1 := bytes_one 45 (Lib.decDigits n.natAbs)
  have k2 : ((⟨(45 :: Lib.decDigits n.natAbs).toArray⟩ : ByteArray)).size = (Lib.decDigits n.natAbs).length + 1 := by simp [ByteArray.size]
  have s2 : (Lib.decDigits d.natAbs).length ≤ 21 := dec_len _ (by omega)
  have k3 : ((⟨(Lib.decDigits d.natAbs).toArray⟩ : ByteArray)).size = (Lib.decDigits d.natAbs).length := by simp [ByteArray.size]
  go_wp2_with (go_at_call 31; refine (size_any _ _ (by omega) (by omega)).mono ?_; rintro e w' ⟨rfl, rfl⟩)
  refine (digits_any d.natAbs _ (by omega)).mono ?_
  rintro e w3 ⟨rfl, hb3⟩
  go_wp2
  go_ret
  refine ⟨?_, (by repeat (first | exact Below.refl _ _ | assumption | refine below_drewN ?_ _ | refine Below.setCell ?_ (by first | (simp; done) | (simp; omega)) _ | refine Below.alloc ?_ (by first | (simp; done) | (simp; omega) | omega) _ | refine Below.drew ?_ | refine Below.trans ?_ (Below.mono (by assumption) (by first | (simp; done) | (simp; omega) | omega))))⟩
  go_simp
  exact bytes_app _ _
theorem rtext_any (n d : Int) (w : World) :
    Calls Tryd.prog 26 #[.agg #[.int .i64 n, .int .i64 d]] w fun e w' => e = .returned (.string ⟨(Rt.textS n d).toArray⟩) ∧ Below w.heap.size w w' := by
  unfold Rt.textS
  by_cases h : Rt.Ok n d
  · rw [if_pos h]
    have h1 := h.1
    by_cases hd : d = 1
    · rw [if_pos hd]
      subst hd
      by_cases hn : n < 0
      · rw [itoa_neg n hn]; exact rtext_neg_one n w h hn
      · rw [itoa_pos n (by omega)]; exact rtext_pos_one n w h (by omega)
    · rw [if_neg hd, itoa_pos d (by omega)]
      by_cases hn : n < 0
      · rw [itoa_neg n hn]; exact rtext_neg n d w h hn (by omega)
      · rw [itoa_pos n (by omega)]; exact rtext_pos n d w h (by omega) (by omega)
  · rw [if_neg h]; exact rtext_no n d w h
end Go.Proofs.YtmdgccnpcmjpbaaDoor

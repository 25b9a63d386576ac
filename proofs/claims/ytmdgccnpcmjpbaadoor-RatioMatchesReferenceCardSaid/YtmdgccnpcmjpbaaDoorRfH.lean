/- The reference implementation: Mul. -/
import Derived.Test.YtmdgccnpcmjpbaaDoorRfG
namespace Go.Proofs.YtmdgccnpcmjpbaaDoor
open Go.RowKit

set_option maxRecDepth 100000 in
set_option maxHeartbeats 3200000 in
theorem rmul_far (an ad bn bd : Int) (P Q A B : Nat) (w : World) (hP : an.natAbs / Nat.gcd an.natAbs bd.natAbs = P) (hQ : bn.natAbs / Nat.gcd bn.natAbs ad.natAbs = Q) (hA : ad.natAbs / Nat.gcd bn.natAbs ad.natAbs = A) (hB' : bd.natAbs / Nat.gcd an.natAbs bd.natAbs = B) (ha : Rt.Ok an ad) (hb : Rt.Ok bn bd) (M : Nat) (h0 : 0 < P) (hM : 1000000000000 / P = M) (hf : M < Q) :
    Calls Tryd.prog 16 #[.agg #[.int .i64 an, .int .i64 ad], .agg #[.int .i64 bn, .int .i64 bd]] w fun e w' => e = .returned (RV (0, 0, 2)) ∧ Below w.heap.size w w' := by
  have HA := Lib.hid ha
  have HB := Lib.hid hb
  obtain ⟨a1, a2, a3, a4, _⟩ := ha
  obtain ⟨d1, d2, d3, d4, _⟩ := hb
  have g0 : 0 < Nat.gcd an.natAbs bd.natAbs := Nat.gcd_pos_of_pos_right _ (by omega)
  have h0' : 0 < Nat.gcd bn.natAbs ad.natAbs := Nat.gcd_pos_of_pos_right _ (by omega)
  have bP : P ≤ 1000000000000 := by rw [← hP]; exact Nat.le_trans (Nat.div_le_self _ _) (by omega)
  have bQ : Q ≤ 1000000000000 := by rw [← hQ]; exact Nat.le_trans (Nat.div_le_self _ _) (by omega)
  have bA : A ≤ 1000000 := by rw [← hA]; exact Nat.le_trans (Nat.div_le_self _ _) (by omega)
  have bB : B ≤ 1000000 := by rw [← hB']; exact Nat.le_trans (Nat.div_le_self _ _) (by omega)
  have r1 : (an.natAbs : Int) / (Nat.gcd an.natAbs bd.natAbs : Nat) = P := by rw [← hP]; exact (Int.natCast_ediv _ _).symm
  have r2 : (bn.natAbs : Int) / (Nat.gcd bn.natAbs ad.natAbs : Nat) = Q := by rw [← hQ]; exact (Int.natCast_ediv _ _).symm
  have r3 : (ad.natAbs : Int) / (Nat.gcd bn.natAbs ad.natAbs : Nat) = A := by rw [← hA]; exact (Int.natCast_ediv _ _).symm
  have r4 : (bd.natAbs : Int) / (Nat.gcd an.natAbs bd.natAbs : Nat) = B := by rw [← hB']; exact (Int.natCast_ediv _ _).symm
  have y1 : (((Nat.gcd an.natAbs bd.natAbs : Nat) : Int) == 0) = false := by rw [beq_eq_false_iff_ne]; omega
  have y2 : (((Nat.gcd bn.natAbs ad.natAbs : Nat) : Int) == 0) = false := by rw [beq_eq_false_iff_ne]; omega
  clear hP hQ hA hB'
  have nan1 : -9223372036854775808 ≤ an := by omega
  have nan2 : an ≤ 9223372036854775807 := by omega
  have uan : an.natAbs ≤ 18446744073709551615 := by omega
  have nad1 : -9223372036854775808 ≤ ad := by omega
  have nad2 : ad ≤ 9223372036854775807 := by omega
  have uad : ad.natAbs ≤ 18446744073709551615 := by omega
  have nbn1 : -9223372036854775808 ≤ bn := by omega
  have nbn2 : bn ≤ 9223372036854775807 := by omega
  have ubn : bn.natAbs ≤ 18446744073709551615 := by omega
  have nbd1 : -9223372036854775808 ≤ bd := by omega
  have nbd2 : bd ≤ 9223372036854775807 := by omega
  have ubd : bd.natAbs ≤ 18446744073709551615 := by omega
  have s1 : decide (0 < (P : Int)) = true := by simp; omega
  have s2 : (1000000000000 : Int) / (P : Int) = M := by rw [← hM]; exact (Int.natCast_ediv _ _).symm
  have s3 : decide ((M : Int) < (Q : Int)) = true := by simp; omega
  have s4 : ((P : Int) == 0) = false := by rw [beq_eq_false_iff_ne]; omega
  have s5 : M ≤ 1000000000000 := by rw [← hM]; exact Nat.div_le_self _ _
  clear hM
  go_enter Tryd.func16, Tryd.ntmps16
  go_wp2_with fail
  refine (rvalid_true _ _ _ HA.out).mono ?_
  rintro e w1 ⟨rfl, hb1⟩
  obtain ⟨hc1, hf1⟩ := bcell hb1
  have hz1 := hb1.size
  simp at hz1
  have g1 : w1.cell? ⟨w.heap.size, 0, none⟩ = some (.int .i64 an) := (hc1 _ _ (by simp; omega)).trans (by go_simp)
  have g2 : w1.cell? ⟨w.heap.size, 1, none⟩ = some (.int .i64 ad) := (hc1 _ _ (by simp; omega)).trans (by go_simp)
  have g3 : w1.cell? ⟨w.heap.size + 1, 0, none⟩ = some (.int .i64 bn) := (hc1 _ _ (by simp)).trans (by go_simp)
  have g4 : w1.cell? ⟨w.heap.size + 1, 1, none⟩ = some (.int .i64 bd) := (hc1 _ _ (by simp)).trans (by go_simp)
  have g5 : w1.cell? ⟨w.heap.size + 1 + 1, 0, none⟩ = some (.int .i64 0) := (hc1 _ _ (by simp)).trans (by go_simp)
  have g6 : w1.cell? ⟨w.heap.size + 1 + 1, 1, none⟩ = some (.int .i64 0) := (hc1 _ _ (by simp)).trans (by go_simp)
  have k5 : w1.frozen? ⟨w.heap.size + 1 + 1, 0, none⟩ = false := (hf1 _ _ (by simp)).trans (by go_simp)
  have k6 : w1.frozen? ⟨w.heap.size + 1 + 1, 1, none⟩ = false := (hf1 _ _ (by simp)).trans (by go_simp)
  have bf1 : Below w.heap.size w w1 := (by repeat (first | exact Below.refl _ _ | assumption | refine below_drewN ?_ _ | refine Below.setCell ?_ (by first | (simp; done) | (simp; omega)) _ | refine Below.alloc ?_ (by first | (simp; done) | (simp; omega) | omega) _ | refine Below.drew ?_ | refine Below.trans ?_ (Below.mono (by assumption) (by first | (simp; done) | (simp; omega) | omega))))
  have hl0 : w.heap.size + 1 + 1 < w1.heap.size := by omega
  clear hc1 hf1 hb1
  go_wp2_with fail
  refine (rvalid_true _ _ _ HB.out).mono ?_
  rintro e w2 ⟨rfl, hb2⟩
  have hz2 := hb2.size
  have c1 := cell_keep hb2 g1
  have c2 := cell_keep hb2 g2
  have c3 := cell_keep hb2 g3
  have c4 := cell_keep hb2 g4
  have hl1 : w.heap.size < w2.heap.size := by omega
  have hl2 : w.heap.size + 1 < w2.heap.size := by omega
  have c5 := cell_keep hb2 g5
  have c6 := cell_keep hb2 g6
  have f5 : w2.frozen? ⟨w.heap.size + 1 + 1, 0, none⟩ = false := (hb2.frozen (p := ⟨w.heap.size + 1 + 1, 0, none⟩) hl0).trans k5
  have f6 : w2.frozen? ⟨w.heap.size + 1 + 1, 1, none⟩ = false := (hb2.frozen (p := ⟨w.heap.size + 1 + 1, 1, none⟩) hl0).trans k6
  have hl3 : w.heap.size + 1 + 1 < w2.heap.size := by omega
  clear g1 g2 g3 g4 g5 g6 k5 k6 hl0 HA HB
  go_wp2
  go_quiet (first | (go_at_call 31; exact size_q _ _ _ (by assumption) (by assumption)) | (go_at_call 43; exact rgcd_q _ _ _ _ (by assumption) (by assumption)))
  have b9 : Below w2.heap.size w2 (w2.drewN nq) := (by repeat (first | exact Below.refl _ _ | assumption | refine below_drewN ?_ _ | refine Below.setCell ?_ (by first | (simp; done) | (simp; omega)) _ | refine Below.alloc ?_ (by first | (simp; done) | (simp; omega) | omega) _ | refine Below.drew ?_ | refine Below.trans ?_ (Below.mono (by assumption) (by first | (simp; done) | (simp; omega) | omega))))
  have m1 := cell_keep b9 c1
  have m2 := cell_keep b9 c2
  have m3 := cell_keep b9 c3
  have m4 := cell_keep b9 c4
  have m5 := cell_keep b9 c5
  have m6 := cell_keep b9 c6
  have o5 : (w2.drewN nq).frozen? ⟨w.heap.size + 1 + 1, 0, none⟩ = false := (b9.frozen (p := ⟨w.heap.size + 1 + 1, 0, none⟩) hl3).trans f5
  have o6 : (w2.drewN nq).frozen? ⟨w.heap.size + 1 + 1, 1, none⟩ = false := (b9.frozen (p := ⟨w.heap.size + 1 + 1, 1, none⟩) hl3).trans f6
  have kl1 : w.heap.size < (w2.drewN nq).heap.size := by have := b9.size; omega
  have kl2 : w.heap.size + 1 < (w2.drewN nq).heap.size := by have := b9.size; omega
  have kl3 : w.heap.size + 1 + 1 < (w2.drewN nq).heap.size := by have := b9.size; omega
  have bf9 : Below w.heap.size w (w2.drewN nq) := (by repeat (first | exact Below.refl _ _ | assumption | refine below_drewN ?_ _ | refine Below.setCell ?_ (by first | (simp; done) | (simp; omega)) _ | refine Below.alloc ?_ (by first | (simp; done) | (simp; omega) | omega) _ | refine Below.drew ?_ | refine Below.trans ?_ (Below.mono (by assumption) (by first | (simp; done) | (simp; omega) | omega))))
  generalize (w2.drewN nq) = w9 at *
  clear c1 c2 c3 c4 c5 c6 f5 f6 hl1 hl2 hl3 b9
  go_wp2
  go_quiet (first | (go_at_call 31; exact size_q _ _ _ (by assumption) (by assumption)) | (go_at_call 43; exact rgcd_q _ _ _ _ (by assumption) (by assumption)))
  have b8 : Below w9.heap.size w9 (w9.drewN nq) := (by repeat (first | exact Below.refl _ _ | assumption | refine below_drewN ?_ _ | refine Below.setCell ?_ (by first | (simp; done) | (simp; omega)) _ | refine Below.alloc ?_ (by first | (simp; done) | (simp; omega) | omega) _ | refine Below.drew ?_ | refine Below.trans ?_ (Below.mono (by assumption) (by first | (simp; done) | (simp; omega) | omega))))
  have c1 := cell_keep b8 m1
  have c2 := cell_keep b8 m2
  have c3 := cell_keep b8 m3
  have c4 := cell_keep b8 m4
  have c5 := cell_keep b8 m5
  have c6 := cell_keep b8 m6
  have f5 : (w9.drewN nq).frozen? ⟨w.heap.size + 1 + 1, 0, none⟩ = false := (b8.frozen (p := ⟨w.heap.size + 1 + 1, 0, none⟩) kl3).trans o5
  have f6 : (w9.drewN nq).frozen? ⟨w.heap.size + 1 + 1, 1, none⟩ = false := (b8.frozen (p := ⟨w.heap.size + 1 + 1, 1, none⟩) kl3).trans o6
  have hl1 : w.heap.size < (w9.drewN nq).heap.size := by have := b8.size; omega
  have hl2 : w.heap.size + 1 < (w9.drewN nq).heap.size := by have := b8.size; omega
  have hl3 : w.heap.size + 1 + 1 < (w9.drewN nq).heap.size := by have := b8.size; omega
  have bf8 : Below w.heap.size w (w9.drewN nq) := (by repeat (first | exact Below.refl _ _ | assumption | refine below_drewN ?_ _ | refine Below.setCell ?_ (by first | (simp; done) | (simp; omega)) _ | refine Below.alloc ?_ (by first | (simp; done) | (simp; omega) | omega) _ | refine Below.drew ?_ | refine Below.trans ?_ (Below.mono (by assumption) (by first | (simp; done) | (simp; omega) | omega))))
  generalize (w9.drewN nq) = w8 at *
  clear m1 m2 m3 m4 m5 m6 o5 o6 kl1 kl2 kl3 b8
  go_wp2_with (go_at_call 31; refine (size_any _ _ (by assumption) (by assumption)).mono ?_; rintro e w' ⟨rfl, rfl⟩)
  refine bodyPost_ret (v := RV (0, 0, 2)) (by simp [results, Tryd.results16, go_sem, RV, c5, c6]) rfl ⟨rfl, ?_⟩
  exact (by repeat (first | exact Below.refl _ _ | assumption | refine below_drewN ?_ _ | refine Below.setCell ?_ (by first | (simp; done) | (simp; omega)) _ | refine Below.alloc ?_ (by first | (simp; done) | (simp; omega) | omega) _ | refine Below.drew ?_ | refine Below.trans ?_ (Below.mono (by assumption) (by first | (simp; done) | (simp; omega) | omega))))
set_option maxRecDepth 100000 in
set_option maxHeartbeats 3200000 in
theorem rmul_zero (an ad bn bd : Int) (P Q A B : Nat) (t : Int × Int × Int) (HT0 : Hid (Rt.ofS (!(decide (an < 0) == decide (bn < 0))) ((P : Int) * (Q : Int)).toNat ((A : Int) * (B : Int)).toNat = t)) (hpq : P * Q ≤ 1000000000000) (w : World) (hP : an.natAbs / Nat.gcd an.natAbs bd.natAbs = P) (hQ : bn.natAbs / Nat.gcd bn.natAbs ad.natAbs = Q) (hA : ad.natAbs / Nat.gcd bn.natAbs ad.natAbs = A) (hB' : bd.natAbs / Nat.gcd an.natAbs bd.natAbs = B) (ha : Rt.Ok an ad) (hb : Rt.Ok bn bd) (h0 : P = 0) :
    Calls Tryd.prog 16 #[.agg #[.int .i64 an, .int .i64 ad], .agg #[.int .i64 bn, .int .i64 bd]] w fun e w' => e = .returned (RV t) ∧ Below w.heap.size w w' := by
  have HA := Lib.hid ha
  have HB := Lib.hid hb
  obtain ⟨a1, a2, a3, a4, _⟩ := ha
  obtain ⟨d1, d2, d3, d4, _⟩ := hb
  have g0 : 0 < Nat.gcd an.natAbs bd.natAbs := Nat.gcd_pos_of_pos_right _ (by omega)
  have h0' : 0 < Nat.gcd bn.natAbs ad.natAbs := Nat.gcd_pos_of_pos_right _ (by omega)
  have bP : P ≤ 1000000000000 := by rw [← hP]; exact Nat.le_trans (Nat.div_le_self _ _) (by omega)
  have bQ : Q ≤ 1000000000000 := by rw [← hQ]; exact Nat.le_trans (Nat.div_le_self _ _) (by omega)
  have bA : A ≤ 1000000 := by rw [← hA]; exact Nat.le_trans (Nat.div_le_self _ _) (by omega)
  have bB : B ≤ 1000000 := by rw [← hB']; exact Nat.le_trans (Nat.div_le_self _ _) (by omega)
  have r1 : (an.natAbs : Int) / (Nat.gcd an.natAbs bd.natAbs : Nat) = P := by rw [← hP]; exact (Int.natCast_ediv _ _).symm
  have r2 : (bn.natAbs : Int) / (Nat.gcd bn.natAbs ad.natAbs : Nat) = Q := by rw [← hQ]; exact (Int.natCast_ediv _ _).symm
  have r3 : (ad.natAbs : Int) / (Nat.gcd bn.natAbs ad.natAbs : Nat) = A := by rw [← hA]; exact (Int.natCast_ediv _ _).symm
  have r4 : (bd.natAbs : Int) / (Nat.gcd an.natAbs bd.natAbs : Nat) = B := by rw [← hB']; exact (Int.natCast_ediv _ _).symm
  have y1 : (((Nat.gcd an.natAbs bd.natAbs : Nat) : Int) == 0) = false := by rw [beq_eq_false_iff_ne]; omega
  have y2 : (((Nat.gcd bn.natAbs ad.natAbs : Nat) : Int) == 0) = false := by rw [beq_eq_false_iff_ne]; omega
  clear hP hQ hA hB'
  have nan1 : -9223372036854775808 ≤ an := by omega
  have nan2 : an ≤ 9223372036854775807 := by omega
  have uan : an.natAbs ≤ 18446744073709551615 := by omega
  have nad1 : -9223372036854775808 ≤ ad := by omega
  have nad2 : ad ≤ 9223372036854775807 := by omega
  have uad : ad.natAbs ≤ 18446744073709551615 := by omega
  have nbn1 : -9223372036854775808 ≤ bn := by omega
  have nbn2 : bn ≤ 9223372036854775807 := by omega
  have ubn : bn.natAbs ≤ 18446744073709551615 := by omega
  have nbd1 : -9223372036854775808 ≤ bd := by omega
  have nbd2 : bd ≤ 9223372036854775807 := by omega
  have ubd : bd.natAbs ≤ 18446744073709551615 := by omega
  have s1 : decide (0 < (P : Int)) = false := by simp; omega
  have s2 : decide (0 < P) = false := by simp; omega
  have s3 : P ≤ 0 := by omega
  clear h0
  have ht2 : Rt.ofS (!(decide (an < 0) == decide (bn < 0))) ((P : Int) * (Q : Int)).toNat ((A : Int) * (B : Int)).toNat = t := HT0.out
  have p1 : 0 ≤ (P : Int) * (Q : Int) ∧ (P : Int) * (Q : Int) ≤ 1000000000000 := by
    rw [← Int.natCast_mul]; omega
  have p2 := nat_mulb bA bB
  simp only [Nat.reduceMul, Int.cast_ofNat_Int] at p2
  have zo : ∀ w, Calls Tryd.prog 30 #[.bool (!(decide (an < 0) == decide (bn < 0))), .int .u64 ((P : Int) * (Q : Int)), .int .u64 ((A : Int) * (B : Int))] w fun e w' => e = .returned (RV t) ∧ Below w.heap.size w w' := fun w => of_int _ _ _ t w (by omega) (by omega) (by omega) (by omega) ht2
  have q1 : IntKind.u64.wrap ((P : Int) * (Q : Int)) = (P : Int) * (Q : Int) := u64_id _ (by omega) (by omega)
  have q2 : IntKind.u64.wrap ((A : Int) * (B : Int)) = (A : Int) * (B : Int) := u64_id _ (by omega) (by omega)
  have q3 : IntKind.u64.wrap (A : Int) = A := u64_id _ (by omega) (by omega)
  have q4 : IntKind.u64.wrap (B : Int) = B := u64_id _ (by omega) (by omega)
  have y3 : ¬ (bn = 0 ∧ ad = 0) := by omega
  have y4 : ¬ (an = 0 ∧ bd = 0) := by omega
  clear p1 p2 ht2 hpq
  go_enter Tryd.func16, Tryd.ntmps16
  go_wp2_with fail
  refine (rvalid_true _ _ _ HA.out).mono ?_
  rintro e w1 ⟨rfl, hb1⟩
  obtain ⟨hc1, hf1⟩ := bcell hb1
  have hz1 := hb1.size
  simp at hz1
  have g1 : w1.cell? ⟨w.heap.size, 0, none⟩ = some (.int .i64 an) := (hc1 _ _ (by simp; omega)).trans (by go_simp)
  have g2 : w1.cell? ⟨w.heap.size, 1, none⟩ = some (.int .i64 ad) := (hc1 _ _ (by simp; omega)).trans (by go_simp)
  have g3 : w1.cell? ⟨w.heap.size + 1, 0, none⟩ = some (.int .i64 bn) := (hc1 _ _ (by simp)).trans (by go_simp)
  have g4 : w1.cell? ⟨w.heap.size + 1, 1, none⟩ = some (.int .i64 bd) := (hc1 _ _ (by simp)).trans (by go_simp)
  have g5 : w1.cell? ⟨w.heap.size + 1 + 1, 0, none⟩ = some (.int .i64 0) := (hc1 _ _ (by simp)).trans (by go_simp)
  have g6 : w1.cell? ⟨w.heap.size + 1 + 1, 1, none⟩ = some (.int .i64 0) := (hc1 _ _ (by simp)).trans (by go_simp)
  have k5 : w1.frozen? ⟨w.heap.size + 1 + 1, 0, none⟩ = false := (hf1 _ _ (by simp)).trans (by go_simp)
  have k6 : w1.frozen? ⟨w.heap.size + 1 + 1, 1, none⟩ = false := (hf1 _ _ (by simp)).trans (by go_simp)
  have bf1 : Below w.heap.size w w1 := (by repeat (first | exact Below.refl _ _ | assumption | refine below_drewN ?_ _ | refine Below.setCell ?_ (by first | (simp; done) | (simp; omega)) _ | refine Below.alloc ?_ (by first | (simp; done) | (simp; omega) | omega) _ | refine Below.drew ?_ | refine Below.trans ?_ (Below.mono (by assumption) (by first | (simp; done) | (simp; omega) | omega))))
  have hl0 : w.heap.size + 1 + 1 < w1.heap.size := by omega
  clear hc1 hf1 hb1
  go_wp2_with fail
  refine (rvalid_true _ _ _ HB.out).mono ?_
  rintro e w2 ⟨rfl, hb2⟩
  have hz2 := hb2.size
  have c1 := cell_keep hb2 g1
  have c2 := cell_keep hb2 g2
  have c3 := cell_keep hb2 g3
  have c4 := cell_keep hb2 g4
  have hl1 : w.heap.size < w2.heap.size := by omega
  have hl2 : w.heap.size + 1 < w2.heap.size := by omega
  have c5 := cell_keep hb2 g5
  have c6 := cell_keep hb2 g6
  have f5 : w2.frozen? ⟨w.heap.size + 1 + 1, 0, none⟩ = false := (hb2.frozen (p := ⟨w.heap.size + 1 + 1, 0, none⟩) hl0).trans k5
  have f6 : w2.frozen? ⟨w.heap.size + 1 + 1, 1, none⟩ = false := (hb2.frozen (p := ⟨w.heap.size + 1 + 1, 1, none⟩) hl0).trans k6
  have hl3 : w.heap.size + 1 + 1 < w2.heap.size := by omega
  clear g1 g2 g3 g4 g5 g6 k5 k6 hl0 HA HB
  go_wp2
  go_quiet (first | (go_at_call 31; exact size_q _ _ _ (by assumption) (by assumption)) | (go_at_call 43; exact rgcd_q _ _ _ _ (by assumption) (by assumption)))
  have b9 : Below w2.heap.size w2 (w2.drewN nq) := (by repeat (first | exact Below.refl _ _ | assumption | refine below_drewN ?_ _ | refine Below.setCell ?_ (by first | (simp; done) | (simp; omega)) _ | refine Below.alloc ?_ (by first | (simp; done) | (simp; omega) | omega) _ | refine Below.drew ?_ | refine Below.trans ?_ (Below.mono (by assumption) (by first | (simp; done) | (simp; omega) | omega))))
  have m1 := cell_keep b9 c1
  have m2 := cell_keep b9 c2
  have m3 := cell_keep b9 c3
  have m4 := cell_keep b9 c4
  have m5 := cell_keep b9 c5
  have m6 := cell_keep b9 c6
  have o5 : (w2.drewN nq).frozen? ⟨w.heap.size + 1 + 1, 0, none⟩ = false := (b9.frozen (p := ⟨w.heap.size + 1 + 1, 0, none⟩) hl3).trans f5
  have o6 : (w2.drewN nq).frozen? ⟨w.heap.size + 1 + 1, 1, none⟩ = false := (b9.frozen (p := ⟨w.heap.size + 1 + 1, 1, none⟩) hl3).trans f6
  have kl1 : w.heap.size < (w2.drewN nq).heap.size := by have := b9.size; omega
  have kl2 : w.heap.size + 1 < (w2.drewN nq).heap.size := by have := b9.size; omega
  have kl3 : w.heap.size + 1 + 1 < (w2.drewN nq).heap.size := by have := b9.size; omega
  have bf9 : Below w.heap.size w (w2.drewN nq) := (by repeat (first | exact Below.refl _ _ | assumption | refine below_drewN ?_ _ | refine Below.setCell ?_ (by first | (simp; done) | (simp; omega)) _ | refine Below.alloc ?_ (by first | (simp; done) | (simp; omega) | omega) _ | refine Below.drew ?_ | refine Below.trans ?_ (Below.mono (by assumption) (by first | (simp; done) | (simp; omega) | omega))))
  generalize (w2.drewN nq) = w9 at *
  clear c1 c2 c3 c4 c5 c6 f5 f6 hl1 hl2 hl3 b9
  go_wp2
  go_quiet (first | (go_at_call 31; exact size_q _ _ _ (by assumption) (by assumption)) | (go_at_call 43; exact rgcd_q _ _ _ _ (by assumption) (by assumption)))
  have b8 : Below w9.heap.size w9 (w9.drewN nq) := (by repeat (first | exact Below.refl _ _ | assumption | refine below_drewN ?_ _ | refine Below.setCell ?_ (by first | (simp; done) | (simp; omega)) _ | refine Below.alloc ?_ (by first | (simp; done) | (simp; omega) | omega) _ | refine Below.drew ?_ | refine Below.trans ?_ (Below.mono (by assumption) (by first | (simp; done) | (simp; omega) | omega))))
  have c1 := cell_keep b8 m1
  have c2 := cell_keep b8 m2
  have c3 := cell_keep b8 m3
  have c4 := cell_keep b8 m4
  have c5 := cell_keep b8 m5
  have c6 := cell_keep b8 m6
  have f5 : (w9.drewN nq).frozen? ⟨w.heap.size + 1 + 1, 0, none⟩ = false := (b8.frozen (p := ⟨w.heap.size + 1 + 1, 0, none⟩) kl3).trans o5
  have f6 : (w9.drewN nq).frozen? ⟨w.heap.size + 1 + 1, 1, none⟩ = false := (b8.frozen (p := ⟨w.heap.size + 1 + 1, 1, none⟩) kl3).trans o6
  have hl1 : w.heap.size < (w9.drewN nq).heap.size := by have := b8.size; omega
  have hl2 : w.heap.size + 1 < (w9.drewN nq).heap.size := by have := b8.size; omega
  have hl3 : w.heap.size + 1 + 1 < (w9.drewN nq).heap.size := by have := b8.size; omega
  have bf8 : Below w.heap.size w (w9.drewN nq) := (by repeat (first | exact Below.refl _ _ | assumption | refine below_drewN ?_ _ | refine Below.setCell ?_ (by first | (simp; done) | (simp; omega)) _ | refine Below.alloc ?_ (by first | (simp; done) | (simp; omega) | omega) _ | refine Below.drew ?_ | refine Below.trans ?_ (Below.mono (by assumption) (by first | (simp; done) | (simp; omega) | omega))))
  generalize (w9.drewN nq) = w8 at *
  clear m1 m2 m3 m4 m5 m6 o5 o6 kl1 kl2 kl3 b8
  go_wp2_with (go_at_call 31; refine (size_any _ _ (by assumption) (by assumption)).mono ?_; rintro e w' ⟨rfl, rfl⟩)
  refine region_head 21 #[true, true, true, true, true, true, true, true, true, true, true, true, true, true, true, true, true, true, true, true, true, false, false, false, false, false] (by kernel_rfl) (by kernel_rfl) (by kernel_rfl) (by kernel_rfl) (by kernel_rfl) (by kernel_rfl) (by kernel_rfl) ?_
  simp only [List.take_succ_cons, List.take_zero]
  repeat (first | still_step | still_call (size_s _ _ (by assumption) (by assumption)))
  refine wpStill_nil ?_
  refine wpAny_ready (rs := [21]) (by kernel_rfl) (by simp) ?_
  refine AllReady.cons rfl (fun K hK => ?_) AllReady.nil
  go_simp
  go_wp2_with fail
  refine (zo _).mono ?_
  rintro e w3 ⟨rfl, hb3'⟩
  have hb3 : Below w8.heap.size w8 w3 := (by repeat (first | exact Below.refl _ _ | assumption | refine below_drewN ?_ _ | refine Below.setCell ?_ (by first | (simp; done) | (simp; omega)) _ | refine Below.alloc ?_ (by first | (simp; done) | (simp; omega) | omega) _ | refine Below.drew ?_ | refine Below.trans ?_ (Below.mono (by assumption) (by first | (simp; done) | (simp; omega) | omega))))
  clear hb3'
  obtain ⟨hc3, hf3⟩ := bcell hb3
  have e5 := (hc3 _ 0 hl3).trans c5
  have e6 := (hc3 _ 1 hl3).trans c6
  have j5 := (hf3 _ 0 hl3).trans f5
  have j6 := (hf3 _ 1 hl3).trans f6
  have hl4 : w.heap.size + 1 + 1 < w3.heap.size := by have := hb3.size; omega
  simp only [RV]
  go_simp
  refine hK _ _ ?_
  clear hK K
  refine wpAny_take (i := 22) (v := ?_) rfl (by kernel_rfl) (by kernel_rfl) (by kernel_rfl) (fun _ _ _ h => h) (Or.inl ⟨by rfl, ?hy22⟩) ?hr22
  case hy22 => intro w; go_simp; with_reducible rfl
  refine wpAny_take (i := 23) (v := ?_) rfl (by kernel_rfl) (by kernel_rfl) (by kernel_rfl) (fun _ _ _ h => h) (Or.inl ⟨by rfl, ?hy23⟩) ?hr23
  case hy23 => intro w; go_simp; with_reducible rfl
  refine wpAny_ready (rs := [24]) (by kernel_rfl) (by simp) ?_
  refine AllReady.cons rfl (fun K hK => ?_) AllReady.nil
  go_simp
  refine hK _ _ ?_
  clear hK K
  refine wpAny_ready (rs := [25]) (by kernel_rfl) (by simp) ?_
  refine AllReady.cons rfl (fun K hK => ?_) AllReady.nil
  go_simp
  refine hK _ _ ?_
  clear hK K
  refine wpAny_done (by kernel_rfl) ?_ _
  go_wp2
  refine bodyPost_ret (v := RV t) (by simp [results, Tryd.results16, go_sem, RV, e5, e6]) rfl ⟨rfl, ?_⟩
  exact (by repeat (first | exact Below.refl _ _ | assumption | refine below_drewN ?_ _ | refine Below.setCell ?_ (by first | (simp; done) | (simp; omega)) _ | refine Below.alloc ?_ (by first | (simp; done) | (simp; omega) | omega) _ | refine Below.drew ?_ | refine Below.trans ?_ (Below.mono (by assumption) (by first | (simp; done) | (simp; omega) | omega))))
set_option maxRecDepth 100000 in
set_option maxHeartbeats 3200000 in
theorem rmul_near (an ad bn bd : Int) (P Q A B : Nat) (t : Int × Int × Int) (HT0 : Hid (Rt.ofS (!(decide (an < 0) == decide (bn < 0))) ((P : Int) * (Q : Int)).toNat ((A : Int) * (B : Int)).toNat = t)) (hpq : P * Q ≤ 1000000000000) (w : World) (hP : an.natAbs / Nat.gcd an.natAbs bd.natAbs = P) (hQ : bn.natAbs / Nat.gcd bn.natAbs ad.natAbs = Q) (hA : ad.natAbs / Nat.gcd bn.natAbs ad.natAbs = A) (hB' : bd.natAbs / Nat.gcd an.natAbs bd.natAbs = B) (ha : Rt.Ok an ad) (hb : Rt.Ok bn bd) (M : Nat) (h0 : 0 < P) (hM : 1000000000000 / P = M) (hf : Q ≤ M) :
    Calls Tryd.prog 16 #[.agg #[.int .i64 an, .int .i64 ad], .agg #[.int .i64 bn, .int .i64 bd]] w fun e w' => e = .returned (RV t) ∧ Below w.heap.size w w' := by
  have HA := Lib.hid ha
  have HB := Lib.hid hb
  obtain ⟨a1, a2, a3, a4, _⟩ := ha
  obtain ⟨d1, d2, d3, d4, _⟩ := hb
  have g0 : 0 < Nat.gcd an.natAbs bd.natAbs := Nat.gcd_pos_of_pos_right _ (by omega)
  have h0' : 0 < Nat.gcd bn.natAbs ad.natAbs := Nat.gcd_pos_of_pos_right _ (by omega)
  have bP : P ≤ 1000000000000 := by rw [← hP]; exact Nat.le_trans (Nat.div_le_self _ _) (by omega)
  have bQ : Q ≤ 1000000000000 := by rw [← hQ]; exact Nat.le_trans (Nat.div_le_self _ _) (by omega)
  have bA : A ≤ 1000000 := by rw [← hA]; exact Nat.le_trans (Nat.div_le_self _ _) (by omega)
  have bB : B ≤ 1000000 := by rw [← hB']; exact Nat.le_trans (Nat.div_le_self _ _) (by omega)
  have r1 : (an.natAbs : Int) / (Nat.gcd an.natAbs bd.natAbs : Nat) = P := by rw [← hP]; exact (Int.natCast_ediv _ _).symm
  have r2 : (bn.natAbs : Int) / (Nat.gcd bn.natAbs ad.natAbs : Nat) = Q := by rw [← hQ]; exact (Int.natCast_ediv _ _).symm
  have r3 : (ad.natAbs : Int) / (Nat.gcd bn.natAbs ad.natAbs : Nat) = A := by rw [← hA]; exact (Int.natCast_ediv _ _).symm
  have r4 : (bd.natAbs : Int) / (Nat.gcd an.natAbs bd.natAbs : Nat) = B := by rw [← hB']; exact (Int.natCast_ediv _ _).symm
  have y1 : (((Nat.gcd an.natAbs bd.natAbs : Nat) : Int) == 0) = false := by rw [beq_eq_false_iff_ne]; omega
  have y2 : (((Nat.gcd bn.natAbs ad.natAbs : Nat) : Int) == 0) = false := by rw [beq_eq_false_iff_ne]; omega
  clear hP hQ hA hB'
  have nan1 : -9223372036854775808 ≤ an := by omega
  have nan2 : an ≤ 9223372036854775807 := by omega
  have uan : an.natAbs ≤ 18446744073709551615 := by omega
  have nad1 : -9223372036854775808 ≤ ad := by omega
  have nad2 : ad ≤ 9223372036854775807 := by omega
  have uad : ad.natAbs ≤ 18446744073709551615 := by omega
  have nbn1 : -9223372036854775808 ≤ bn := by omega
  have nbn2 : bn ≤ 9223372036854775807 := by omega
  have ubn : bn.natAbs ≤ 18446744073709551615 := by omega
  have nbd1 : -9223372036854775808 ≤ bd := by omega
  have nbd2 : bd ≤ 9223372036854775807 := by omega
  have ubd : bd.natAbs ≤ 18446744073709551615 := by omega
  have s1 : decide (0 < (P : Int)) = true := by simp; omega
  have s2 : (1000000000000 : Int) / (P : Int) = M := by rw [← hM]; exact (Int.natCast_ediv _ _).symm
  have s3 : decide ((M : Int) < (Q : Int)) = false := by simp; omega
  have s4 : ((P : Int) == 0) = false := by rw [beq_eq_false_iff_ne]; omega
  have s5 : M ≤ 1000000000000 := by rw [← hM]; exact Nat.div_le_self _ _
  clear hM
  have ht2 : Rt.ofS (!(decide (an < 0) == decide (bn < 0))) ((P : Int) * (Q : Int)).toNat ((A : Int) * (B : Int)).toNat = t := HT0.out
  have p1 : 0 ≤ (P : Int) * (Q : Int) ∧ (P : Int) * (Q : Int) ≤ 1000000000000 := by
    rw [← Int.natCast_mul]; omega
  have p2 := nat_mulb bA bB
  simp only [Nat.reduceMul, Int.cast_ofNat_Int] at p2
  have zo : ∀ w, Calls Tryd.prog 30 #[.bool (!(decide (an < 0) == decide (bn < 0))), .int .u64 ((P : Int) * (Q : Int)), .int .u64 ((A : Int) * (B : Int))] w fun e w' => e = .returned (RV t) ∧ Below w.heap.size w w' := fun w => of_int _ _ _ t w (by omega) (by omega) (by omega) (by omega) ht2
  have q1 : IntKind.u64.wrap ((P : Int) * (Q : Int)) = (P : Int) * (Q : Int) := u64_id _ (by omega) (by omega)
  have q2 : IntKind.u64.wrap ((A : Int) * (B : Int)) = (A : Int) * (B : Int) := u64_id _ (by omega) (by omega)
  have q3 : IntKind.u64.wrap (A : Int) = A := u64_id _ (by omega) (by omega)
  have q4 : IntKind.u64.wrap (B : Int) = B := u64_id _ (by omega) (by omega)
  have y3 : ¬ (bn = 0 ∧ ad = 0) := by omega
  have y4 : ¬ (an = 0 ∧ bd = 0) := by omega
  clear p1 p2 ht2 hpq
  go_enter Tryd.func16, Tryd.ntmps16
  go_wp2_with fail
  refine (rvalid_true _ _ _ HA.out).mono ?_
  rintro e w1 ⟨rfl, hb1⟩
  obtain ⟨hc1, hf1⟩ := bcell hb1
  have hz1 := hb1.size
  simp at hz1
  have g1 : w1.cell? ⟨w.heap.size, 0, none⟩ = some (.int .i64 an) := (hc1 _ _ (by simp; omega)).trans (by go_simp)
  have g2 : w1.cell? ⟨w.heap.size, 1, none⟩ = some (.int .i64 ad) := (hc1 _ _ (by simp; omega)).trans (by go_simp)
  have g3 : w1.cell? ⟨w.heap.size + 1, 0, none⟩ = some (.int .i64 bn) := (hc1 _ _ (by simp)).trans (by go_simp)
  have g4 : w1.cell? ⟨w.heap.size + 1, 1, none⟩ = some (.int .i64 bd) := (hc1 _ _ (by simp)).trans (by go_simp)
  have g5 : w1.cell? ⟨w.heap.size + 1 + 1, 0, none⟩ = some (.int .i64 0) := (hc1 _ _ (by simp)).trans (by go_simp)
  have g6 : w1.cell? ⟨w.heap.size + 1 + 1, 1, none⟩ = some (.int .i64 0) := (hc1 _ _ (by simp)).trans (by go_simp)
  have k5 : w1.frozen? ⟨w.heap.size + 1 + 1, 0, none⟩ = false := (hf1 _ _ (by simp)).trans (by go_simp)
  have k6 : w1.frozen? ⟨w.heap.size + 1 + 1, 1, none⟩ = false := (hf1 _ _ (by simp)).trans (by go_simp)
  have bf1 : Below w.heap.size w w1 := (by repeat (first | exact Below.refl _ _ | assumption | refine below_drewN ?_ _ | refine Below.setCell ?_ (by first | (simp; done) | (simp; omega)) _ | refine Below.alloc ?_ (by first | (simp; done) | (simp; omega) | omega) _ | refine Below.drew ?_ | refine Below.trans ?_ (Below.mono (by assumption) (by first | (simp; done) | (simp; omega) | omega))))
  have hl0 : w.heap.size + 1 + 1 < w1.heap.size := by omega
  clear hc1 hf1 hb1
  go_wp2_with fail
  refine (rvalid_true _ _ _ HB.out).mono ?_
  rintro e w2 ⟨rfl, hb2⟩
  have hz2 := hb2.size
  have c1 := cell_keep hb2 g1
  have c2 := cell_keep hb2 g2
  have c3 := cell_keep hb2 g3
  have c4 := cell_keep hb2 g4
  have hl1 : w.heap.size < w2.heap.size := by omega
  have hl2 : w.heap.size + 1 < w2.heap.size := by omega
  have c5 := cell_keep hb2 g5
  have c6 := cell_keep hb2 g6
  have f5 : w2.frozen? ⟨w.heap.size + 1 + 1, 0, none⟩ = false := (hb2.frozen (p := ⟨w.heap.size + 1 + 1, 0, none⟩) hl0).trans k5
  have f6 : w2.frozen? ⟨w.heap.size + 1 + 1, 1, none⟩ = false := (hb2.frozen (p := ⟨w.heap.size + 1 + 1, 1, none⟩) hl0).trans k6
  have hl3 : w.heap.size + 1 + 1 < w2.heap.size := by omega
  clear g1 g2 g3 g4 g5 g6 k5 k6 hl0 HA HB
  go_wp2
  go_quiet (first | (go_at_call 31; exact size_q _ _ _ (by assumption) (by assumption)) | (go_at_call 43; exact rgcd_q _ _ _ _ (by assumption) (by assumption)))
  have b9 : Below w2.heap.size w2 (w2.drewN nq) := (by repeat (first | exact Below.refl _ _ | assumption | refine below_drewN ?_ _ | refine Below.setCell ?_ (by first | (simp; done) | (simp; omega)) _ | refine Below.alloc ?_ (by first | (simp; done) | (simp; omega) | omega) _ | refine Below.drew ?_ | refine Below.trans ?_ (Below.mono (by assumption) (by first | (simp; done) | (simp; omega) | omega))))
  have m1 := cell_keep b9 c1
  have m2 := cell_keep b9 c2
  have m3 := cell_keep b9 c3
  have m4 := cell_keep b9 c4
  have m5 := cell_keep b9 c5
  have m6 := cell_keep b9 c6
  have o5 : (w2.drewN nq).frozen? ⟨w.heap.size + 1 + 1, 0, none⟩ = false := (b9.frozen (p := ⟨w.heap.size + 1 + 1, 0, none⟩) hl3).trans f5
  have o6 : (w2.drewN nq).frozen? ⟨w.heap.size + 1 + 1, 1, none⟩ = false := (b9.frozen (p := ⟨w.heap.size + 1 + 1, 1, none⟩) hl3).trans f6
  have kl1 : w.heap.size < (w2.drewN nq).heap.size := by have := b9.size; omega
  have kl2 : w.heap.size + 1 < (w2.drewN nq).heap.size := by have := b9.size; omega
  have kl3 : w.heap.size + 1 + 1 < (w2.drewN nq).heap.size := by have := b9.size; omega
  have bf9 : Below w.heap.size w (w2.drewN nq) := (by repeat (first | exact Below.refl _ _ | assumption | refine below_drewN ?_ _ | refine Below.setCell ?_ (by first | (simp; done) | (simp; omega)) _ | refine Below.alloc ?_ (by first | (simp; done) | (simp; omega) | omega) _ | refine Below.drew ?_ | refine Below.trans ?_ (Below.mono (by assumption) (by first | (simp; done) | (simp; omega) | omega))))
  generalize (w2.drewN nq) = w9 at *
  clear c1 c2 c3 c4 c5 c6 f5 f6 hl1 hl2 hl3 b9
  go_wp2
  go_quiet (first | (go_at_call 31; exact size_q _ _ _ (by assumption) (by assumption)) | (go_at_call 43; exact rgcd_q _ _ _ _ (by assumption) (by assumption)))
  have b8 : Below w9.heap.size w9 (w9.drewN nq) := (by repeat (first | exact Below.refl _ _ | assumption | refine below_drewN ?_ _ | refine Below.setCell ?_ (by first | (simp; done) | (simp; omega)) _ | refine Below.alloc ?_ (by first | (simp; done) | (simp; omega) | omega) _ | refine Below.drew ?_ | refine Below.trans ?_ (Below.mono (by assumption) (by first | (simp; done) | (simp; omega) | omega))))
  have c1 := cell_keep b8 m1
  have c2 := cell_keep b8 m2
  have c3 := cell_keep b8 m3
  have c4 := cell_keep b8 m4
  have c5 := cell_keep b8 m5
  have c6 := cell_keep b8 m6
  have f5 : (w9.drewN nq).frozen? ⟨w.heap.size + 1 + 1, 0, none⟩ = false := (b8.frozen (p := ⟨w.heap.size + 1 + 1, 0, none⟩) kl3).trans o5
  have f6 : (w9.drewN nq).frozen? ⟨w.heap.size + 1 + 1, 1, none⟩ = false := (b8.frozen (p := ⟨w.heap.size + 1 + 1, 1, none⟩) kl3).trans o6
  have hl1 : w.heap.size < (w9.drewN nq).heap.size := by have := b8.size; omega
  have hl2 : w.heap.size + 1 < (w9.drewN nq).heap.size := by have := b8.size; omega
  have hl3 : w.heap.size + 1 + 1 < (w9.drewN nq).heap.size := by have := b8.size; omega
  have bf8 : Below w.heap.size w (w9.drewN nq) := (by repeat (first | exact Below.refl _ _ | assumption | refine below_drewN ?_ _ | refine Below.setCell ?_ (by first | (simp; done) | (simp; omega)) _ | refine Below.alloc ?_ (by first | (simp; done) | (simp; omega) | omega) _ | refine Below.drew ?_ | refine Below.trans ?_ (Below.mono (by assumption) (by first | (simp; done) | (simp; omega) | omega))))
  generalize (w9.drewN nq) = w8 at *
  clear m1 m2 m3 m4 m5 m6 o5 o6 kl1 kl2 kl3 b8
  go_wp2_with (go_at_call 31; refine (size_any _ _ (by assumption) (by assumption)).mono ?_; rintro e w' ⟨rfl, rfl⟩)
  refine region_head 21 #[true, true, true, true, true, true, true, true, true, true, true, true, true, true, true, true, true, true, true, true, true, false, false, false, false, false] (by kernel_rfl) (by kernel_rfl) (by kernel_rfl) (by kernel_rfl) (by kernel_rfl) (by kernel_rfl) (by kernel_rfl) ?_
  simp only [List.take_succ_cons, List.take_zero]
  repeat (first | still_step | still_call (size_s _ _ (by assumption) (by assumption)))
  refine wpStill_nil ?_
  refine wpAny_ready (rs := [21]) (by kernel_rfl) (by simp) ?_
  refine AllReady.cons rfl (fun K hK => ?_) AllReady.nil
  go_simp
  go_wp2_with fail
  refine (zo _).mono ?_
  rintro e w3 ⟨rfl, hb3'⟩
  have hb3 : Below w8.heap.size w8 w3 := (by repeat (first | exact Below.refl _ _ | assumption | refine below_drewN ?_ _ | refine Below.setCell ?_ (by first | (simp; done) | (simp; omega)) _ | refine Below.alloc ?_ (by first | (simp; done) | (simp; omega) | omega) _ | refine Below.drew ?_ | refine Below.trans ?_ (Below.mono (by assumption) (by first | (simp; done) | (simp; omega) | omega))))
  clear hb3'
  obtain ⟨hc3, hf3⟩ := bcell hb3
  have e5 := (hc3 _ 0 hl3).trans c5
  have e6 := (hc3 _ 1 hl3).trans c6
  have j5 := (hf3 _ 0 hl3).trans f5
  have j6 := (hf3 _ 1 hl3).trans f6
  have hl4 : w.heap.size + 1 + 1 < w3.heap.size := by have := hb3.size; omega
  simp only [RV]
  go_simp
  refine hK _ _ ?_
  clear hK K
  refine wpAny_take (i := 22) (v := ?_) rfl (by kernel_rfl) (by kernel_rfl) (by kernel_rfl) (fun _ _ _ h => h) (Or.inl ⟨by rfl, ?hy22⟩) ?hr22
  case hy22 => intro w; go_simp; with_reducible rfl
  refine wpAny_take (i := 23) (v := ?_) rfl (by kernel_rfl) (by kernel_rfl) (by kernel_rfl) (fun _ _ _ h => h) (Or.inl ⟨by rfl, ?hy23⟩) ?hr23
  case hy23 => intro w; go_simp; with_reducible rfl
  refine wpAny_ready (rs := [24]) (by kernel_rfl) (by simp) ?_
  refine AllReady.cons rfl (fun K hK => ?_) AllReady.nil
  go_simp
  refine hK _ _ ?_
  clear hK K
  refine wpAny_ready (rs := [25]) (by kernel_rfl) (by simp) ?_
  refine AllReady.cons rfl (fun K hK => ?_) AllReady.nil
  go_simp
  refine hK _ _ ?_
  clear hK K
  refine wpAny_done (by kernel_rfl) ?_ _
  go_wp2
  refine bodyPost_ret (v := RV t) (by simp [results, Tryd.results16, go_sem, RV, e5, e6]) rfl ⟨rfl, ?_⟩
  exact (by repeat (first | exact Below.refl _ _ | assumption | refine below_drewN ?_ _ | refine Below.setCell ?_ (by first | (simp; done) | (simp; omega)) _ | refine Below.alloc ?_ (by first | (simp; done) | (simp; omega) | omega) _ | refine Below.drew ?_ | refine Below.trans ?_ (Below.mono (by assumption) (by first | (simp; done) | (simp; omega) | omega))))
theorem rmul_ok (an ad bn bd : Int) (t : Int × Int × Int) (w : World) (ht : Rt.mk (an * bn) (ad * bd) = t) (ha : Rt.Ok an ad) (hb : Rt.Ok bn bd) :
    Calls Tryd.prog 16 #[.agg #[.int .i64 an, .int .i64 ad], .agg #[.int .i64 bn, .int .i64 bd]] w fun e w' => e = .returned (RV t) ∧ Below w.heap.size w w' := by
  have k := Rt.mul_of ha hb rfl rfl rfl rfl rfl rfl
  have kf := Rt.mul_far_of ha hb rfl rfl rfl rfl rfl rfl
  rw [ht] at k kf
  generalize hP : an.natAbs / Nat.gcd an.natAbs bd.natAbs = P at k kf
  generalize hQ : bn.natAbs / Nat.gcd bn.natAbs ad.natAbs = Q at k kf
  generalize hA : ad.natAbs / Nat.gcd bn.natAbs ad.natAbs = A at k
  generalize hB : bd.natAbs / Nat.gcd an.natAbs bd.natAbs = B at k
  have k2 : Rt.ofS (!(decide (an < 0) == decide (bn < 0))) ((P : Int) * (Q : Int)).toNat ((A : Int) * (B : Int)).toNat = t := by
    rw [← Int.natCast_mul, ← Int.natCast_mul, Int.toNat_natCast, Int.toNat_natCast]
    exact k
  by_cases h0 : P = 0
  · exact rmul_zero an ad bn bd P Q A B t (Lib.hid k2) (by rw [h0, Nat.zero_mul]; omega) w hP hQ hA hB ha hb h0
  · by_cases hf : 1000000000000 / P < Q
    · have e : 1000000000000 < P * Q := by
        rw [Nat.mul_comm]; exact (Nat.div_lt_iff_lt_mul (by omega)).1 hf
      rw [kf e]
      exact rmul_far an ad bn bd P Q A B w hP hQ hA hB ha hb _ (by omega) rfl hf
    · have e : P * Q ≤ 1000000000000 := by
        rw [Nat.mul_comm]; exact (Nat.le_div_iff_mul_le (by omega)).1 (by omega)
      exact rmul_near an ad bn bd P Q A B t (Lib.hid k2) e w hP hQ hA hB ha hb _ (by omega) rfl (by omega)
set_option maxRecDepth 100000 in
set_option maxHeartbeats 1600000 in
theorem rmul_no (an ad bn bd : Int) (w : World) (h : ¬ (Rt.Ok an ad ∧ Rt.Ok bn bd)) :
    Calls Tryd.prog 16 #[.agg #[.int .i64 an, .int .i64 ad], .agg #[.int .i64 bn, .int .i64 bd]] w fun e w' => e = .returned (RV (0, 0, 1)) ∧ Below w.heap.size w w' := by
  by_cases ha : Rt.Ok an ad
  · have hb : ¬ Rt.Ok bn bd := fun hb => h ⟨ha, hb⟩
    have HA := Lib.hid ha
    have HB := Lib.hid hb
    clear h ha hb
    go_enter Tryd.func16, Tryd.ntmps16
    go_wp2_with fail
    refine (rvalid_true _ _ _ HA.out).mono ?_
    rintro e w1 ⟨rfl, hb1⟩
    obtain ⟨hc1, hf1⟩ := bcell hb1
    have hz1 := hb1.size
    simp at hz1
    go_wp2_with fail
    refine (rvalid_false _ _ _ HB.out).mono ?_
    rintro e w2 ⟨rfl, hb2⟩
    have hz2 := hb2.size
    obtain ⟨hc2, hf2⟩ := bcell hb2
    have hl1 : w.heap.size + 1 + 1 < w1.heap.size := by omega
    go_wp2
    refine bodyPost_ret (v := RV (0, 0, 1)) (by simp [results, Tryd.results16, go_sem, RV, hc1, hc2, hl1]) rfl ⟨rfl, ?_⟩
    exact (by repeat (first | exact Below.refl _ _ | assumption | refine below_drewN ?_ _ | refine Below.setCell ?_ (by first | (simp; done) | (simp; omega)) _ | refine Below.alloc ?_ (by first | (simp; done) | (simp; omega) | omega) _ | refine Below.drew ?_ | refine Below.trans ?_ (Below.mono (by assumption) (by first | (simp; done) | (simp; omega) | omega))))
  · have HA := Lib.hid ha
    clear h ha
    go_enter Tryd.func16, Tryd.ntmps16
    go_wp2_with fail
    refine (rvalid_false _ _ _ HA.out).mono ?_
    rintro e w1 ⟨rfl, hb1⟩
    obtain ⟨hc1, hf1⟩ := bcell hb1
    have hz1 := hb1.size
    simp at hz1
    go_wp2
    refine bodyPost_ret (v := RV (0, 0, 1)) (by simp [results, Tryd.results16, go_sem, RV, hc1]) rfl ⟨rfl, ?_⟩
    exact (by repeat (first | exact Below.refl _ _ | assumption | refine below_drewN ?_ _ | refine Below.setCell ?_ (by first | (simp; done) | (simp; omega)) _ | refine Below.alloc ?_ (by first | (simp; done) | (simp; omega) | omega) _ | refine Below.drew ?_ | refine Below.trans ?_ (Below.mono (by assumption) (by first | (simp; done) | (simp; omega) | omega))))
theorem rmul_any (an ad bn bd : Int) (w : World) :
    Calls Tryd.prog 16 #[.agg #[.int .i64 an, .int .i64 ad], .agg #[.int .i64 bn, .int .i64 bd]] w fun e w' => e = .returned (RV (Rt.mulS an ad bn bd)) ∧ Below w.heap.size w w' := by
  unfold Rt.mulS
  by_cases h : Rt.Ok an ad ∧ Rt.Ok bn bd
  · rw [if_pos h]; exact rmul_ok an ad bn bd _ w rfl h.1 h.2
  · rw [if_neg h]; exact rmul_no an ad bn bd w h
end Go.Proofs.YtmdgccnpcmjpbaaDoor

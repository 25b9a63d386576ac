/- The reference implementation: Round. -/
import Derived.Test.YtmdgccnpcmjpbaaDoorRfE
namespace Go.Proofs.YtmdgccnpcmjpbaaDoor
open Go.RowKit

set_option maxRecDepth 100000 in
set_option maxHeartbeats 1600000 in
theorem rround_bad (n d k : Int) (w : World) (ha : ¬ Rt.Ok n d) :
    Calls Tryd.prog 10 #[.agg #[.int .i64 n, .int .i64 d], .int .i64 k] w fun e w' => e = .returned (RV (0, 0, 1)) ∧ Below w.heap.size w w' := by
  have HA := Lib.hid ha
  clear ha
  go_enter Tryd.func10, Tryd.ntmps10
  go_wp2_with fail
  refine (rvalid_false _ _ _ HA.out).mono ?_
  rintro e w1 ⟨rfl, hb1⟩
  obtain ⟨hc1, hf1⟩ := bcell hb1
  have hz1 := hb1.size
  simp at hz1
  go_wp2
  refine bodyPost_ret (v := RV (0, 0, 1)) (by simp [results, Tryd.results10, go_sem, RV, hc1]) rfl ⟨rfl, ?_⟩
  exact (by repeat (first | exact Below.refl _ _ | assumption | refine below_drewN ?_ _ | refine Below.setCell ?_ (by first | (simp; done) | (simp; omega)) _ | refine Below.alloc ?_ (by first | (simp; done) | (simp; omega) | omega) _ | refine Below.drew ?_ | refine Below.trans ?_ (Below.mono (by assumption) (by first | (simp; done) | (simp; omega) | omega))))
set_option maxRecDepth 100000 in
set_option maxHeartbeats 1600000 in
theorem rround_low (n d k : Int) (w : World) (ha : Rt.Ok n d) (hk : k < 1) :
    Calls Tryd.prog 10 #[.agg #[.int .i64 n, .int .i64 d], .int .i64 k] w fun e w' => e = .returned (RV (0, 0, 1)) ∧ Below w.heap.size w w' := by
  have HA := Lib.hid ha
  clear ha
  go_enter Tryd.func10, Tryd.ntmps10
  go_wp2_with fail
  refine (rvalid_true _ _ _ HA.out).mono ?_
  rintro e w1 ⟨rfl, hb1⟩
  obtain ⟨hc1, hf1⟩ := bcell hb1
  have hz1 := hb1.size
  simp at hz1
  go_wp2
  refine bodyPost_ret (v := RV (0, 0, 1)) (by simp [results, Tryd.results10, go_sem, RV, hc1]) rfl ⟨rfl, ?_⟩
  exact (by repeat (first | exact Below.refl _ _ | assumption | refine below_drewN ?_ _ | refine Below.setCell ?_ (by first | (simp; done) | (simp; omega)) _ | refine Below.alloc ?_ (by first | (simp; done) | (simp; omega) | omega) _ | refine Below.drew ?_ | refine Below.trans ?_ (Below.mono (by assumption) (by first | (simp; done) | (simp; omega) | omega))))
set_option maxRecDepth 100000 in
set_option maxHeartbeats 1600000 in
theorem rround_high (n d k : Int) (w : World) (ha : Rt.Ok n d) (hk0 : 1 ≤ k) (hk : 1000000 < k) :
    Calls Tryd.prog 10 #[.agg #[.int .i64 n, .int .i64 d], .int .i64 k] w fun e w' => e = .returned (RV (0, 0, 1)) ∧ Below w.heap.size w w' := by
  have HA := Lib.hid ha
  clear ha
  go_enter Tryd.func10, Tryd.ntmps10
  go_wp2_with fail
  refine (rvalid_true _ _ _ HA.out).mono ?_
  rintro e w1 ⟨rfl, hb1⟩
  obtain ⟨hc1, hf1⟩ := bcell hb1
  have hz1 := hb1.size
  simp at hz1
  go_wp2
  refine bodyPost_ret (v := RV (0, 0, 1)) (by simp [results, Tryd.results10, go_sem, RV, hc1]) rfl ⟨rfl, ?_⟩
  exact (by repeat (first | exact Below.refl _ _ | assumption | refine below_drewN ?_ _ | refine Below.setCell ?_ (by first | (simp; done) | (simp; omega)) _ | refine Below.alloc ?_ (by first | (simp; done) | (simp; omega) | omega) _ | refine Below.drew ?_ | refine Below.trans ?_ (Below.mono (by assumption) (by first | (simp; done) | (simp; omega) | omega))))
set_option maxRecDepth 100000 in
set_option maxHeartbeats 1600000 in
theorem rround_up (n d k : Int) (w : World) (ha : Rt.Ok n d) (hk0 : 1 ≤ k) (hk : k ≤ 1000000) (q r : Int) (t : Int × Int × Int) (hq : n * k / d = q) (hr : n * k % d = r) (ht : Rt.mk (q + 1) k = t) (h : d < 2 * r) :
    Calls Tryd.prog 10 #[.agg #[.int .i64 n, .int .i64 d], .int .i64 k] w fun e w' => e = .returned (RV t) ∧ Below w.heap.size w w' := by
  have b1 : -1000000000000000000 ≤ n * k ∧ n * k ≤ 1000000000000000000 := mulb ha.2.2.1 ha.2.2.2.1 hk0 hk (by omega)
  have b2 : -1000000000000000001 ≤ q ∧ q ≤ 1000000000000000001 := by
    have e := Rt.ediv_abs (n * k) d (by have := ha.1; omega)
    rw [hq] at e; omega
  have b3 : 0 ≤ r ∧ r < d := by rw [← hr]; exact ⟨Int.emod_nonneg _ (Rt.ok_ne ha), Int.emod_lt_of_pos _ (Rt.ok_pos ha)⟩
  have b4 : q * d + r = n * k := by rw [← hq, ← hr]; exact Int.ediv_mul_add_emod _ _
  have b5 : 0 ≤ n * k - q * d ∧ n * k - q * d < d := by omega
  have b6 : d ≤ 1000000 := ha.2.1
  have b7 : -1000000000001000000 ≤ q * d ∧ q * d ≤ 1000000000001000000 := by omega
  have t0 : d < 2 * (n * k - q * d) := by omega
  have t1 : decide (d < 2 * (n * k - q * d)) = true := by simp; omega
  clear h
  have HQ := Lib.hid hq
  have HT := Lib.hid ht
  clear hq hr ht b4 b3
  have HA := Lib.hid ha
  go_enter Tryd.func10, Tryd.ntmps10
  go_wp2_with fail
  refine (rvalid_true _ _ _ HA.out).mono ?_
  rintro e w1 ⟨rfl, hb1⟩
  obtain ⟨hc1, hf1⟩ := bcell hb1
  have hz1 := hb1.size
  simp at hz1
  have g1 : w1.cell? ⟨w.heap.size, 0, none⟩ = some (.int .i64 n) := (hc1 _ _ (by simp; omega)).trans (by go_simp)
  have g2 : w1.cell? ⟨w.heap.size, 1, none⟩ = some (.int .i64 d) := (hc1 _ _ (by simp; omega)).trans (by go_simp)
  have g5 : w1.cell? ⟨w.heap.size + 1, 0, none⟩ = some (.int .i64 0) := (hc1 _ _ (by simp)).trans (by go_simp)
  have g6 : w1.cell? ⟨w.heap.size + 1, 1, none⟩ = some (.int .i64 0) := (hc1 _ _ (by simp)).trans (by go_simp)
  have k5 : w1.frozen? ⟨w.heap.size + 1, 0, none⟩ = false := (hf1 _ _ (by simp)).trans (by go_simp)
  have k6 : w1.frozen? ⟨w.heap.size + 1, 1, none⟩ = false := (hf1 _ _ (by simp)).trans (by go_simp)
  have hl1 : w.heap.size < w1.heap.size := by omega
  have hl0 : w.heap.size + 1 < w1.heap.size := by omega
  have bf1 : Below w.heap.size w w1 := (by repeat (first | exact Below.refl _ _ | assumption | refine below_drewN ?_ _ | refine Below.setCell ?_ (by first | (simp; done) | (simp; omega)) _ | refine Below.alloc ?_ (by first | (simp; done) | (simp; omega) | omega) _ | refine Below.drew ?_ | refine Below.trans ?_ (Below.mono (by assumption) (by first | (simp; done) | (simp; omega) | omega))))
  obtain ⟨a1, a2, a3, a4, _⟩ := ha
  clear HA hc1 hf1 hb1
  go_wp2_with fail
  refine (rfl_any _ _ _ (by omega) (by omega) a1 a2).mono ?_
  rintro e w2 ⟨rfl, hb2⟩
  rw [HQ.out]
  have hz2 := hb2.size
  have c1 := cell_keep hb2 g1
  have c2 := cell_keep hb2 g2
  have c5 := cell_keep hb2 g5
  have c6 := cell_keep hb2 g6
  have f5 : w2.frozen? ⟨w.heap.size + 1, 0, none⟩ = false := (hb2.frozen (p := ⟨w.heap.size + 1, 0, none⟩) hl0).trans k5
  have f6 : w2.frozen? ⟨w.heap.size + 1, 1, none⟩ = false := (hb2.frozen (p := ⟨w.heap.size + 1, 1, none⟩) hl0).trans k6
  have hl3 : w.heap.size < w2.heap.size := by omega
  have hl4 : w.heap.size + 1 < w2.heap.size := by omega
  clear g1 g2 g5 g6 k5 k6 hl0
  go_wp2_with fail
  refine (rmake_any _ _ _ (by omega) (by omega) (by omega) (by omega)).mono ?_
  rintro e w4 ⟨rfl, hb4⟩
  rw [HT.out]
  obtain ⟨hc4, hf4⟩ := bcell hb4
  simp only [RV]
  go_wp2
  refine bodyPost_ret (v := RV t) (by simp [results, Tryd.results10, go_sem, RV, hc4, c5, c6, hl4]) rfl ⟨rfl, ?_⟩
  exact (by repeat (first | exact Below.refl _ _ | assumption | refine below_drewN ?_ _ | refine Below.setCell ?_ (by first | (simp; done) | (simp; omega)) _ | refine Below.alloc ?_ (by first | (simp; done) | (simp; omega) | omega) _ | refine Below.drew ?_ | refine Below.trans ?_ (Below.mono (by assumption) (by first | (simp; done) | (simp; omega) | omega))))
set_option maxRecDepth 100000 in
set_option maxHeartbeats 1600000 in
theorem rround_down (n d k : Int) (w : World) (ha : Rt.Ok n d) (hk0 : 1 ≤ k) (hk : k ≤ 1000000) (q r : Int) (t : Int × Int × Int) (hq : n * k / d = q) (hr : n * k % d = r) (ht : Rt.mk (q) k = t) (h : 2 * r < d) :
    Calls Tryd.prog 10 #[.agg #[.int .i64 n, .int .i64 d], .int .i64 k] w fun e w' => e = .returned (RV t) ∧ Below w.heap.size w w' := by
  have b1 : -1000000000000000000 ≤ n * k ∧ n * k ≤ 1000000000000000000 := mulb ha.2.2.1 ha.2.2.2.1 hk0 hk (by omega)
  have b2 : -1000000000000000001 ≤ q ∧ q ≤ 1000000000000000001 := by
    have e := Rt.ediv_abs (n * k) d (by have := ha.1; omega)
    rw [hq] at e; omega
  have b3 : 0 ≤ r ∧ r < d := by rw [← hr]; exact ⟨Int.emod_nonneg _ (Rt.ok_ne ha), Int.emod_lt_of_pos _ (Rt.ok_pos ha)⟩
  have b4 : q * d + r = n * k := by rw [← hq, ← hr]; exact Int.ediv_mul_add_emod _ _
  have b5 : 0 ≤ n * k - q * d ∧ n * k - q * d < d := by omega
  have b6 : d ≤ 1000000 := ha.2.1
  have b7 : -1000000000001000000 ≤ q * d ∧ q * d ≤ 1000000000001000000 := by omega
  have t0 : 2 * (n * k - q * d) < d := by omega
  have t1 : decide (d < 2 * (n * k - q * d)) = false := by simp; omega
  have t2 : (2 * (n * k - q * d) == d) = false := by rw [beq_eq_false_iff_ne]; omega
  clear h
  have HQ := Lib.hid hq
  have HT := Lib.hid ht
  clear hq hr ht b4 b3
  have HA := Lib.hid ha
  go_enter Tryd.func10, Tryd.ntmps10
  go_wp2_with fail
  refine (rvalid_true _ _ _ HA.out).mono ?_
  rintro e w1 ⟨rfl, hb1⟩
  obtain ⟨hc1, hf1⟩ := bcell hb1
  have hz1 := hb1.size
  simp at hz1
  have g1 : w1.cell? ⟨w.heap.size, 0, none⟩ = some (.int .i64 n) := (hc1 _ _ (by simp; omega)).trans (by go_simp)
  have g2 : w1.cell? ⟨w.heap.size, 1, none⟩ = some (.int .i64 d) := (hc1 _ _ (by simp; omega)).trans (by go_simp)
  have g5 : w1.cell? ⟨w.heap.size + 1, 0, none⟩ = some (.int .i64 0) := (hc1 _ _ (by simp)).trans (by go_simp)
  have g6 : w1.cell? ⟨w.heap.size + 1, 1, none⟩ = some (.int .i64 0) := (hc1 _ _ (by simp)).trans (by go_simp)
  have k5 : w1.frozen? ⟨w.heap.size + 1, 0, none⟩ = false := (hf1 _ _ (by simp)).trans (by go_simp)
  have k6 : w1.frozen? ⟨w.heap.size + 1, 1, none⟩ = false := (hf1 _ _ (by simp)).trans (by go_simp)
  have hl1 : w.heap.size < w1.heap.size := by omega
  have hl0 : w.heap.size + 1 < w1.heap.size := by omega
  have bf1 : Below w.heap.size w w1 := (by repeat (first | exact Below.refl _ _ | assumption | refine below_drewN ?_ _ | refine Below.setCell ?_ (by first | (simp; done) | (simp; omega)) _ | refine Below.alloc ?_ (by first | (simp; done) | (simp; omega) | omega) _ | refine Below.drew ?_ | refine Below.trans ?_ (Below.mono (by assumption) (by first | (simp; done) | (simp; omega) | omega))))
  obtain ⟨a1, a2, a3, a4, _⟩ := ha
  clear HA hc1 hf1 hb1
  go_wp2_with fail
  refine (rfl_any _ _ _ (by omega) (by omega) a1 a2).mono ?_
  rintro e w2 ⟨rfl, hb2⟩
  rw [HQ.out]
  have hz2 := hb2.size
  have c1 := cell_keep hb2 g1
  have c2 := cell_keep hb2 g2
  have c5 := cell_keep hb2 g5
  have c6 := cell_keep hb2 g6
  have f5 : w2.frozen? ⟨w.heap.size + 1, 0, none⟩ = false := (hb2.frozen (p := ⟨w.heap.size + 1, 0, none⟩) hl0).trans k5
  have f6 : w2.frozen? ⟨w.heap.size + 1, 1, none⟩ = false := (hb2.frozen (p := ⟨w.heap.size + 1, 1, none⟩) hl0).trans k6
  have hl3 : w.heap.size < w2.heap.size := by omega
  have hl4 : w.heap.size + 1 < w2.heap.size := by omega
  clear g1 g2 g5 g6 k5 k6 hl0
  go_wp2_with fail
  refine (rmake_any _ _ _ (by omega) (by omega) (by omega) (by omega)).mono ?_
  rintro e w4 ⟨rfl, hb4⟩
  rw [HT.out]
  obtain ⟨hc4, hf4⟩ := bcell hb4
  simp only [RV]
  go_wp2
  refine bodyPost_ret (v := RV t) (by simp [results, Tryd.results10, go_sem, RV, hc4, c5, c6, hl4]) rfl ⟨rfl, ?_⟩
  exact (by repeat (first | exact Below.refl _ _ | assumption | refine below_drewN ?_ _ | refine Below.setCell ?_ (by first | (simp; done) | (simp; omega)) _ | refine Below.alloc ?_ (by first | (simp; done) | (simp; omega) | omega) _ | refine Below.drew ?_ | refine Below.trans ?_ (Below.mono (by assumption) (by first | (simp; done) | (simp; omega) | omega))))
set_option maxRecDepth 100000 in
set_option maxHeartbeats 1600000 in
theorem rround_odd (n d k : Int) (w : World) (ha : Rt.Ok n d) (hk0 : 1 ≤ k) (hk : k ≤ 1000000) (q r : Int) (t : Int × Int × Int) (hq : n * k / d = q) (hr : n * k % d = r) (ht : Rt.mk (q + 1) k = t) (h : 2 * r = d) (hp : q % 2 ≠ 0) :
    Calls Tryd.prog 10 #[.agg #[.int .i64 n, .int .i64 d], .int .i64 k] w fun e w' => e = .returned (RV t) ∧ Below w.heap.size w w' := by
  have b1 : -1000000000000000000 ≤ n * k ∧ n * k ≤ 1000000000000000000 := mulb ha.2.2.1 ha.2.2.2.1 hk0 hk (by omega)
  have b2 : -1000000000000000001 ≤ q ∧ q ≤ 1000000000000000001 := by
    have e := Rt.ediv_abs (n * k) d (by have := ha.1; omega)
    rw [hq] at e; omega
  have b3 : 0 ≤ r ∧ r < d := by rw [← hr]; exact ⟨Int.emod_nonneg _ (Rt.ok_ne ha), Int.emod_lt_of_pos _ (Rt.ok_pos ha)⟩
  have b4 : q * d + r = n * k := by rw [← hq, ← hr]; exact Int.ediv_mul_add_emod _ _
  have b5 : 0 ≤ n * k - q * d ∧ n * k - q * d < d := by omega
  have b6 : d ≤ 1000000 := ha.2.1
  have b7 : -1000000000001000000 ≤ q * d ∧ q * d ≤ 1000000000001000000 := by omega
  have t0 : 2 * (n * k - q * d) ≤ d := by omega
  have t1 : decide (d < 2 * (n * k - q * d)) = false := by simp; omega
  have t2 : (2 * (n * k - q * d) == d) = true := by rw [beq_iff_eq]; omega
  have p1 : (q.tmod 2 != 0) = true := by rw [bne_iff_ne]; exact fun e => hp ((tmod2 q).1 e)
  clear hp h
  have HQ := Lib.hid hq
  have HT := Lib.hid ht
  clear hq hr ht b4 b3
  have HA := Lib.hid ha
  go_enter Tryd.func10, Tryd.ntmps10
  go_wp2_with fail
  refine (rvalid_true _ _ _ HA.out).mono ?_
  rintro e w1 ⟨rfl, hb1⟩
  obtain ⟨hc1, hf1⟩ := bcell hb1
  have hz1 := hb1.size
  simp at hz1
  have g1 : w1.cell? ⟨w.heap.size, 0, none⟩ = some (.int .i64 n) := (hc1 _ _ (by simp; omega)).trans (by go_simp)
  have g2 : w1.cell? ⟨w.heap.size, 1, none⟩ = some (.int .i64 d) := (hc1 _ _ (by simp; omega)).trans (by go_simp)
  have g5 : w1.cell? ⟨w.heap.size + 1, 0, none⟩ = some (.int .i64 0) := (hc1 _ _ (by simp)).trans (by go_simp)
  have g6 : w1.cell? ⟨w.heap.size + 1, 1, none⟩ = some (.int .i64 0) := (hc1 _ _ (by simp)).trans (by go_simp)
  have k5 : w1.frozen? ⟨w.heap.size + 1, 0, none⟩ = false := (hf1 _ _ (by simp)).trans (by go_simp)
  have k6 : w1.frozen? ⟨w.heap.size + 1, 1, none⟩ = false := (hf1 _ _ (by simp)).trans (by go_simp)
  have hl1 : w.heap.size < w1.heap.size := by omega
  have hl0 : w.heap.size + 1 < w1.heap.size := by omega
  have bf1 : Below w.heap.size w w1 := (by repeat (first | exact Below.refl _ _ | assumption | refine below_drewN ?_ _ | refine Below.setCell ?_ (by first | (simp; done) | (simp; omega)) _ | refine Below.alloc ?_ (by first | (simp; done) | (simp; omega) | omega) _ | refine Below.drew ?_ | refine Below.trans ?_ (Below.mono (by assumption) (by first | (simp; done) | (simp; omega) | omega))))
  obtain ⟨a1, a2, a3, a4, _⟩ := ha
  clear HA hc1 hf1 hb1
  go_wp2_with fail
  refine (rfl_any _ _ _ (by omega) (by omega) a1 a2).mono ?_
  rintro e w2 ⟨rfl, hb2⟩
  rw [HQ.out]
  have hz2 := hb2.size
  have c1 := cell_keep hb2 g1
  have c2 := cell_keep hb2 g2
  have c5 := cell_keep hb2 g5
  have c6 := cell_keep hb2 g6
  have f5 : w2.frozen? ⟨w.heap.size + 1, 0, none⟩ = false := (hb2.frozen (p := ⟨w.heap.size + 1, 0, none⟩) hl0).trans k5
  have f6 : w2.frozen? ⟨w.heap.size + 1, 1, none⟩ = false := (hb2.frozen (p := ⟨w.heap.size + 1, 1, none⟩) hl0).trans k6
  have hl3 : w.heap.size < w2.heap.size := by omega
  have hl4 : w.heap.size + 1 < w2.heap.size := by omega
  clear g1 g2 g5 g6 k5 k6 hl0
  go_wp2_with fail
  refine (rmake_any _ _ _ (by omega) (by omega) (by omega) (by omega)).mono ?_
  rintro e w4 ⟨rfl, hb4⟩
  rw [HT.out]
  obtain ⟨hc4, hf4⟩ := bcell hb4
  simp only [RV]
  go_wp2
  refine bodyPost_ret (v := RV t) (by simp [results, Tryd.results10, go_sem, RV, hc4, c5, c6, hl4]) rfl ⟨rfl, ?_⟩
  exact (by repeat (first | exact Below.refl _ _ | assumption | refine below_drewN ?_ _ | refine Below.setCell ?_ (by first | (simp; done) | (simp; omega)) _ | refine Below.alloc ?_ (by first | (simp; done) | (simp; omega) | omega) _ | refine Below.drew ?_ | refine Below.trans ?_ (Below.mono (by assumption) (by first | (simp; done) | (simp; omega) | omega))))
set_option maxRecDepth 100000 in
set_option maxHeartbeats 1600000 in
theorem rround_even (n d k : Int) (w : World) (ha : Rt.Ok n d) (hk0 : 1 ≤ k) (hk : k ≤ 1000000) (q r : Int) (t : Int × Int × Int) (hq : n * k / d = q) (hr : n * k % d = r) (ht : Rt.mk (q) k = t) (h : 2 * r = d) (hp : q % 2 = 0) :
    Calls Tryd.prog 10 #[.agg #[.int .i64 n, .int .i64 d], .int .i64 k] w fun e w' => e = .returned (RV t) ∧ Below w.heap.size w w' := by
  have b1 : -1000000000000000000 ≤ n * k ∧ n * k ≤ 1000000000000000000 := mulb ha.2.2.1 ha.2.2.2.1 hk0 hk (by omega)
  have b2 : -1000000000000000001 ≤ q ∧ q ≤ 1000000000000000001 := by
    have e := Rt.ediv_abs (n * k) d (by have := ha.1; omega)
    rw [hq] at e; omega
  have b3 : 0 ≤ r ∧ r < d := by rw [← hr]; exact ⟨Int.emod_nonneg _ (Rt.ok_ne ha), Int.emod_lt_of_pos _ (Rt.ok_pos ha)⟩
  have b4 : q * d + r = n * k := by rw [← hq, ← hr]; exact Int.ediv_mul_add_emod _ _
  have b5 : 0 ≤ n * k - q * d ∧ n * k - q * d < d := by omega
  have b6 : d ≤ 1000000 := ha.2.1
  have b7 : -1000000000001000000 ≤ q * d ∧ q * d ≤ 1000000000001000000 := by omega
  have t0 : 2 * (n * k - q * d) ≤ d := by omega
  have t1 : decide (d < 2 * (n * k - q * d)) = false := by simp; omega
  have t2 : (2 * (n * k - q * d) == d) = true := by rw [beq_iff_eq]; omega
  have p1 : (q.tmod 2 != 0) = false := by rw [bne_eq_false_iff_eq]; exact (tmod2 q).2 hp
  clear hp h
  have HQ := Lib.hid hq
  have HT := Lib.hid ht
  clear hq hr ht b4 b3
  have HA := Lib.hid ha
  go_enter Tryd.func10, Tryd.ntmps10
  go_wp2_with fail
  refine (rvalid_true _ _ _ HA.out).mono ?_
  rintro e w1 ⟨rfl, hb1⟩
  obtain ⟨hc1, hf1⟩ := bcell hb1
  have hz1 := hb1.size
  simp at hz1
  have g1 : w1.cell? ⟨w.heap.size, 0, none⟩ = some (.int .i64 n) := (hc1 _ _ (by simp; omega)).trans (by go_simp)
  have g2 : w1.cell? ⟨w.heap.size, 1, none⟩ = some (.int .i64 d) := (hc1 _ _ (by simp; omega)).trans (by go_simp)
  have g5 : w1.cell? ⟨w.heap.size + 1, 0, none⟩ = some (.int .i64 0) := (hc1 _ _ (by simp)).trans (by go_simp)
  have g6 : w1.cell? ⟨w.heap.size + 1, 1, none⟩ = some (.int .i64 0) := (hc1 _ _ (by simp)).trans (by go_simp)
  have k5 : w1.frozen? ⟨w.heap.size + 1, 0, none⟩ = false := (hf1 _ _ (by simp)).trans (by go_simp)
  have k6 : w1.frozen? ⟨w.heap.size + 1, 1, none⟩ = false := (hf1 _ _ (by simp)).trans (by go_simp)
  have hl1 : w.heap.size < w1.heap.size := by omega
  have hl0 : w.heap.size + 1 < w1.heap.size := by omega
  have bf1 : Below w.heap.size w w1 := (by repeat (first | exact Below.refl _ _ | assumption | refine below_drewN ?_ _ | refine Below.setCell ?_ (by first | (simp; done) | (simp; omega)) _ | refine Below.alloc ?_ (by first | (simp; done) | (simp; omega) | omega) _ | refine Below.drew ?_ | refine Below.trans ?_ (Below.mono (by assumption) (by first | (simp; done) | (simp; omega) | omega))))
  obtain ⟨a1, a2, a3, a4, _⟩ := ha
  clear HA hc1 hf1 hb1
  go_wp2_with fail
  refine (rfl_any _ _ _ (by omega) (by omega) a1 a2).mono ?_
  rintro e w2 ⟨rfl, hb2⟩
  rw [HQ.out]
  have hz2 := hb2.size
  have c1 := cell_keep hb2 g1
  have c2 := cell_keep hb2 g2
  have c5 := cell_keep hb2 g5
  have c6 := cell_keep hb2 g6
  have f5 : w2.frozen? ⟨w.heap.size + 1, 0, none⟩ = false := (hb2.frozen (p := ⟨w.heap.size + 1, 0, none⟩) hl0).trans k5
  have f6 : w2.frozen? ⟨w.heap.size + 1, 1, none⟩ = false := (hb2.frozen (p := ⟨w.heap.size + 1, 1, none⟩) hl0).trans k6
  have hl3 : w.heap.size < w2.heap.size := by omega
  have hl4 : w.heap.size + 1 < w2.heap.size := by omega
  clear g1 g2 g5 g6 k5 k6 hl0
  go_wp2_with fail
  refine (rmake_any _ _ _ (by omega) (by omega) (by omega) (by omega)).mono ?_
  rintro e w4 ⟨rfl, hb4⟩
  rw [HT.out]
  obtain ⟨hc4, hf4⟩ := bcell hb4
  simp only [RV]
  go_wp2
  refine bodyPost_ret (v := RV t) (by simp [results, Tryd.results10, go_sem, RV, hc4, c5, c6, hl4]) rfl ⟨rfl, ?_⟩
  exact (by repeat (first | exact Below.refl _ _ | assumption | refine below_drewN ?_ _ | refine Below.setCell ?_ (by first | (simp; done) | (simp; omega)) _ | refine Below.alloc ?_ (by first | (simp; done) | (simp; omega) | omega) _ | refine Below.drew ?_ | refine Below.trans ?_ (Below.mono (by assumption) (by first | (simp; done) | (simp; omega) | omega))))
theorem rround_any (n d k : Int) (w : World) :
    Calls Tryd.prog 10 #[.agg #[.int .i64 n, .int .i64 d], .int .i64 k] w fun e w' => e = .returned (RV (Rt.roundS n d k)) ∧ Below w.heap.size w w' := by
  unfold Rt.roundS
  by_cases ha : Rt.Ok n d
  · by_cases hk0 : k < 1
    · rw [if_neg (by omega)]; exact rround_low n d k w ha hk0
    by_cases hk : 1000000 < k
    · rw [if_neg (by omega)]; exact rround_high n d k w ha (by omega) hk
    rw [if_pos ⟨ha, by omega, by omega⟩]
    unfold Rt.rh
    by_cases h1 : d < 2 * (n * k % d)
    · rw [if_pos (Or.inl h1)]; exact rround_up n d k w ha (by omega) (by omega) _ _ _ rfl rfl rfl h1
    by_cases h2 : 2 * (n * k % d) < d
    · rw [if_neg (by omega)]; exact rround_down n d k w ha (by omega) (by omega) _ _ _ rfl rfl rfl h2
    by_cases hp : (n * k / d) % 2 = 0
    · rw [if_neg (by omega)]; exact rround_even n d k w ha (by omega) (by omega) _ _ _ rfl rfl rfl (by omega) hp
    · rw [if_pos (Or.inr ⟨by omega, hp⟩)]; exact rround_odd n d k w ha (by omega) (by omega) _ _ _ rfl rfl rfl (by omega) hp
  · rw [if_neg (fun h => ha h.1)]; exact rround_bad n d k w ha
end Go.Proofs.YtmdgccnpcmjpbaaDoor

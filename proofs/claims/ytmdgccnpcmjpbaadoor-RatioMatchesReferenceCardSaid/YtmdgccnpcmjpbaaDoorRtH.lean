/- The walk of ratio.Round. -/
import Derived.Test.YtmdgccnpcmjpbaaDoorRtG
namespace Go.Proofs.YtmdgccnpcmjpbaaDoor
open Go.RowKit

theorem tmod2 (q : Int) : (q.tmod 2 = 0) ↔ q % 2 = 0 := by
  obtain ⟨f1, f2, f3, f4, _⟩ := tdiv_facts (x := q) (d := 2) (by omega)
  by_cases ht : q.tmod 2 < 0
  · have := (f1 ht).2; omega
  · have := (f2 ht).2; omega
theorem Rt.ediv_abs (x d : Int) (h : 1 ≤ d) : (x / d).natAbs ≤ x.natAbs := by
  have e := Int.mul_ediv_add_emod x d
  have r0 := Int.emod_nonneg x (show d ≠ 0 by omega)
  have r1 := Int.emod_lt_of_pos x (show 0 < d by omega)
  by_cases hx : 0 ≤ x
  · have a1 := Int.ediv_nonneg hx (show 0 ≤ d by omega)
    have a2 := Int.ediv_le_self d hx
    omega
  · have a1 : x / d < 0 := Int.ediv_neg_of_neg_of_pos (by omega) (by omega)
    have a2 : x ≤ x / d := by
      apply Int.le_ediv_of_mul_le (by omega)
      have : x * d ≤ x * 1 := Int.mul_le_mul_of_nonpos_left (by omega) h
      omega
    omega

set_option maxHeartbeats 800000 in
theorem round_bad (n d k : Int) (w : World) (k1 : -9223372036854775808 ≤ n) (k2 : n ≤ 9223372036854775807) (ha : ¬ Rt.Ok n d) :
    Calls Tryd.prog 9 #[.agg #[.int .i64 n, .int .i64 d], .int .i64 k] w fun e w' => e = .returned (RV (0, 0, 1)) ∧ Below w.heap.size w w' := by
  have HA := Lib.hid ha
  go_enter Tryd.func9, Tryd.ntmps9
  go_wp2_with fail
  refine (valid_false _ _ _ k1 k2 HA.out).mono ?_
  rintro e w1 ⟨rfl, hb1⟩
  obtain ⟨hc1, hf1⟩ := bcell hb1
  have hz1 := hb1.size
  simp at hz1
  have hl1 : w.heap.size < w1.heap.size := by omega
  have hl2 : w.heap.size + 1 < w1.heap.size := by omega
  clear ha HA
  go_wp2
  refine bodyPost_ret (v := RV (0, 0, 1)) (by simp [results, Tryd.results9, go_sem, RV, hc1]) rfl ⟨rfl, ?_⟩
  exact (by repeat (first | exact Below.refl _ _ | assumption | refine below_drewN ?_ _ | refine Below.setCell ?_ (by first | (simp; done) | (simp; omega)) _ | refine Below.alloc ?_ (by first | (simp; done) | (simp; omega) | omega) _ | refine Below.drew ?_ | refine Below.trans ?_ (Below.mono (by assumption) (by first | (simp; done) | (simp; omega) | omega))))
set_option maxHeartbeats 800000 in
theorem round_low (n d k : Int) (w : World) (ha : Rt.Ok n d) (hk : k < 1) :
    Calls Tryd.prog 9 #[.agg #[.int .i64 n, .int .i64 d], .int .i64 k] w fun e w' => e = .returned (RV (0, 0, 1)) ∧ Below w.heap.size w w' := by
  have HA := Lib.hid ha
  go_enter Tryd.func9, Tryd.ntmps9
  go_wp2_with fail
  refine (valid_true _ _ _ HA.out).mono ?_
  rintro e w1 ⟨rfl, hb1⟩
  obtain ⟨hc1, hf1⟩ := bcell hb1
  have hz1 := hb1.size
  simp at hz1
  have hl1 : w.heap.size < w1.heap.size := by omega
  have hl2 : w.heap.size + 1 < w1.heap.size := by omega
  clear ha HA
  go_wp2
  refine bodyPost_ret (v := RV (0, 0, 1)) (by simp [results, Tryd.results9, go_sem, RV, hc1]) rfl ⟨rfl, ?_⟩
  exact (by repeat (first | exact Below.refl _ _ | assumption | refine below_drewN ?_ _ | refine Below.setCell ?_ (by first | (simp; done) | (simp; omega)) _ | refine Below.alloc ?_ (by first | (simp; done) | (simp; omega) | omega) _ | refine Below.drew ?_ | refine Below.trans ?_ (Below.mono (by assumption) (by first | (simp; done) | (simp; omega) | omega))))
set_option maxHeartbeats 800000 in
theorem round_high (n d k : Int) (w : World) (ha : Rt.Ok n d) (hk0 : 1 ≤ k) (hk : 1000000 < k) :
    Calls Tryd.prog 9 #[.agg #[.int .i64 n, .int .i64 d], .int .i64 k] w fun e w' => e = .returned (RV (0, 0, 1)) ∧ Below w.heap.size w w' := by
  have HA := Lib.hid ha
  go_enter Tryd.func9, Tryd.ntmps9
  go_wp2_with fail
  refine (valid_true _ _ _ HA.out).mono ?_
  rintro e w1 ⟨rfl, hb1⟩
  obtain ⟨hc1, hf1⟩ := bcell hb1
  have hz1 := hb1.size
  simp at hz1
  have hl1 : w.heap.size < w1.heap.size := by omega
  have hl2 : w.heap.size + 1 < w1.heap.size := by omega
  clear ha HA
  go_wp2
  refine bodyPost_ret (v := RV (0, 0, 1)) (by simp [results, Tryd.results9, go_sem, RV, hc1]) rfl ⟨rfl, ?_⟩
  exact (by repeat (first | exact Below.refl _ _ | assumption | refine below_drewN ?_ _ | refine Below.setCell ?_ (by first | (simp; done) | (simp; omega)) _ | refine Below.alloc ?_ (by first | (simp; done) | (simp; omega) | omega) _ | refine Below.drew ?_ | refine Below.trans ?_ (Below.mono (by assumption) (by first | (simp; done) | (simp; omega) | omega))))
set_option maxHeartbeats 800000 in
theorem round_up (n d k : Int) (w : World) (ha : Rt.Ok n d) (hk0 : 1 ≤ k) (hk : k ≤ 1000000) (q r : Int) (t : Int × Int × Int) (hq : n * k / d = q) (hr : n * k % d = r) (ht : Rt.mk (q + 1) k = t) (h : d < 2 * r) :
    Calls Tryd.prog 9 #[.agg #[.int .i64 n, .int .i64 d], .int .i64 k] w fun e w' => e = .returned (RV t) ∧ Below w.heap.size w w' := by
  have b1 : -1000000000000000000 ≤ n * k ∧ n * k ≤ 1000000000000000000 := mulb ha.2.2.1 ha.2.2.2.1 hk0 hk (by omega)
  have b2 : -1000000000000000001 ≤ q ∧ q ≤ 1000000000000000001 := by
    have e := Rt.ediv_abs (n * k) d (by have := ha.1; omega)
    rw [hq] at e; omega
  have b3 : 0 ≤ r ∧ r < d := by rw [← hr]; exact ⟨Int.emod_nonneg _ (Rt.ok_ne ha), Int.emod_lt_of_pos _ (Rt.ok_pos ha)⟩
  have hc : cmpI (2 * r) d = 1 := by unfold cmpI; rw [if_neg (by omega), if_pos h]
  have HC := Lib.hid hc
  clear hc
  have HQ := Lib.hid hq
  have HR := Lib.hid hr
  have HT := Lib.hid ht
  clear hq hr ht
  have HA := Lib.hid ha
  go_enter Tryd.func9, Tryd.ntmps9
  go_wp2_with fail
  refine (valid_true _ _ _ HA.out).mono ?_
  rintro e w1 ⟨rfl, hb1⟩
  obtain ⟨hc1, hf1⟩ := bcell hb1
  have hz1 := hb1.size
  simp at hz1
  have hl1 : w.heap.size < w1.heap.size := by omega
  have hl2 : w.heap.size + 1 < w1.heap.size := by omega
  obtain ⟨a1, a2, a3, a4, _⟩ := ha
  clear HA
  go_wp2_with fail
  refine (divide_any _ _ _ (by omega) (by omega) a1 a2).mono ?_
  rintro e w2 ⟨rfl, hb2⟩
  rw [HQ.out, HR.out]
  have hz2 := hb2.size
  have g1 : w2.cell? ⟨w.heap.size, 0, none⟩ = some (.int .i64 n) := (hb2.cell (p := ⟨w.heap.size, 0, none⟩) hl1).trans ((hc1 _ _ (by simp; omega)).trans (by go_simp))
  have g2 : w2.cell? ⟨w.heap.size, 1, none⟩ = some (.int .i64 d) := (hb2.cell (p := ⟨w.heap.size, 1, none⟩) hl1).trans ((hc1 _ _ (by simp; omega)).trans (by go_simp))
  have g3 : w2.cell? ⟨w.heap.size + 1, 0, none⟩ = some (.int .i64 0) := (hb2.cell (p := ⟨w.heap.size + 1, 0, none⟩) hl2).trans ((hc1 _ _ (by simp)).trans (by go_simp))
  have g4 : w2.cell? ⟨w.heap.size + 1, 1, none⟩ = some (.int .i64 0) := (hb2.cell (p := ⟨w.heap.size + 1, 1, none⟩) hl2).trans ((hc1 _ _ (by simp)).trans (by go_simp))
  have g5 : w2.frozen? ⟨w.heap.size + 1, 0, none⟩ = false := (hb2.frozen (p := ⟨w.heap.size + 1, 0, none⟩) hl2).trans ((hf1 _ _ (by simp)).trans (by go_simp))
  have g6 : w2.frozen? ⟨w.heap.size + 1, 1, none⟩ = false := (hb2.frozen (p := ⟨w.heap.size + 1, 1, none⟩) hl2).trans ((hf1 _ _ (by simp)).trans (by go_simp))
  have hl3 : w.heap.size + 1 < w2.heap.size := by omega
  clear hc1 hf1
  go_wp2_with fail
  refine (compare_any _ _ _).mono ?_
  rintro e w3 ⟨rfl, rfl⟩
  rw [HC.out]
  go_wp2_with fail
  refine (make_any _ _ _ (by omega) (by omega) (by omega) (by omega)).mono ?_
  rintro e w4 ⟨rfl, hb4⟩
  rw [HT.out]
  obtain ⟨hc4, hf4⟩ := bcell hb4
  simp only [RV]
  go_wp2
  refine bodyPost_ret (v := RV t) (by simp [results, Tryd.results9, go_sem, RV, hc4, g3, g4, hl3]) rfl ⟨rfl, ?_⟩
  exact (by repeat (first | exact Below.refl _ _ | assumption | refine below_drewN ?_ _ | refine Below.setCell ?_ (by first | (simp; done) | (simp; omega)) _ | refine Below.alloc ?_ (by first | (simp; done) | (simp; omega) | omega) _ | refine Below.drew ?_ | refine Below.trans ?_ (Below.mono (by assumption) (by first | (simp; done) | (simp; omega) | omega))))
set_option maxHeartbeats 800000 in
theorem round_down (n d k : Int) (w : World) (ha : Rt.Ok n d) (hk0 : 1 ≤ k) (hk : k ≤ 1000000) (q r : Int) (t : Int × Int × Int) (hq : n * k / d = q) (hr : n * k % d = r) (ht : Rt.mk (q) k = t) (h : 2 * r < d) :
    Calls Tryd.prog 9 #[.agg #[.int .i64 n, .int .i64 d], .int .i64 k] w fun e w' => e = .returned (RV t) ∧ Below w.heap.size w w' := by
  have b1 : -1000000000000000000 ≤ n * k ∧ n * k ≤ 1000000000000000000 := mulb ha.2.2.1 ha.2.2.2.1 hk0 hk (by omega)
  have b2 : -1000000000000000001 ≤ q ∧ q ≤ 1000000000000000001 := by
    have e := Rt.ediv_abs (n * k) d (by have := ha.1; omega)
    rw [hq] at e; omega
  have b3 : 0 ≤ r ∧ r < d := by rw [← hr]; exact ⟨Int.emod_nonneg _ (Rt.ok_ne ha), Int.emod_lt_of_pos _ (Rt.ok_pos ha)⟩
  have hc : cmpI (2 * r) d = -1 := by unfold cmpI; rw [if_pos h]
  have HC := Lib.hid hc
  clear hc
  have HQ := Lib.hid hq
  have HR := Lib.hid hr
  have HT := Lib.hid ht
  clear hq hr ht
  have HA := Lib.hid ha
  go_enter Tryd.func9, Tryd.ntmps9
  go_wp2_with fail
  refine (valid_true _ _ _ HA.out).mono ?_
  rintro e w1 ⟨rfl, hb1⟩
  obtain ⟨hc1, hf1⟩ := bcell hb1
  have hz1 := hb1.size
  simp at hz1
  have hl1 : w.heap.size < w1.heap.size := by omega
  have hl2 : w.heap.size + 1 < w1.heap.size := by omega
  obtain ⟨a1, a2, a3, a4, _⟩ := ha
  clear HA
  go_wp2_with fail
  refine (divide_any _ _ _ (by omega) (by omega) a1 a2).mono ?_
  rintro e w2 ⟨rfl, hb2⟩
  rw [HQ.out, HR.out]
  have hz2 := hb2.size
  have g1 : w2.cell? ⟨w.heap.size, 0, none⟩ = some (.int .i64 n) := (hb2.cell (p := ⟨w.heap.size, 0, none⟩) hl1).trans ((hc1 _ _ (by simp; omega)).trans (by go_simp))
  have g2 : w2.cell? ⟨w.heap.size, 1, none⟩ = some (.int .i64 d) := (hb2.cell (p := ⟨w.heap.size, 1, none⟩) hl1).trans ((hc1 _ _ (by simp; omega)).trans (by go_simp))
  have g3 : w2.cell? ⟨w.heap.size + 1, 0, none⟩ = some (.int .i64 0) := (hb2.cell (p := ⟨w.heap.size + 1, 0, none⟩) hl2).trans ((hc1 _ _ (by simp)).trans (by go_simp))
  have g4 : w2.cell? ⟨w.heap.size + 1, 1, none⟩ = some (.int .i64 0) := (hb2.cell (p := ⟨w.heap.size + 1, 1, none⟩) hl2).trans ((hc1 _ _ (by simp)).trans (by go_simp))
  have g5 : w2.frozen? ⟨w.heap.size + 1, 0, none⟩ = false := (hb2.frozen (p := ⟨w.heap.size + 1, 0, none⟩) hl2).trans ((hf1 _ _ (by simp)).trans (by go_simp))
  have g6 : w2.frozen? ⟨w.heap.size + 1, 1, none⟩ = false := (hb2.frozen (p := ⟨w.heap.size + 1, 1, none⟩) hl2).trans ((hf1 _ _ (by simp)).trans (by go_simp))
  have hl3 : w.heap.size + 1 < w2.heap.size := by omega
  clear hc1 hf1
  go_wp2_with fail
  refine (compare_any _ _ _).mono ?_
  rintro e w3 ⟨rfl, rfl⟩
  rw [HC.out]
  go_wp2_with fail
  refine (make_any _ _ _ (by omega) (by omega) (by omega) (by omega)).mono ?_
  rintro e w4 ⟨rfl, hb4⟩
  rw [HT.out]
  obtain ⟨hc4, hf4⟩ := bcell hb4
  simp only [RV]
  go_wp2
  refine bodyPost_ret (v := RV t) (by simp [results, Tryd.results9, go_sem, RV, hc4, g3, g4, hl3]) rfl ⟨rfl, ?_⟩
  exact (by repeat (first | exact Below.refl _ _ | assumption | refine below_drewN ?_ _ | refine Below.setCell ?_ (by first | (simp; done) | (simp; omega)) _ | refine Below.alloc ?_ (by first | (simp; done) | (simp; omega) | omega) _ | refine Below.drew ?_ | refine Below.trans ?_ (Below.mono (by assumption) (by first | (simp; done) | (simp; omega) | omega))))
set_option maxHeartbeats 800000 in
theorem round_odd (n d k : Int) (w : World) (ha : Rt.Ok n d) (hk0 : 1 ≤ k) (hk : k ≤ 1000000) (q r : Int) (t : Int × Int × Int) (hq : n * k / d = q) (hr : n * k % d = r) (ht : Rt.mk (q + 1) k = t) (h : 2 * r = d) (hp : q % 2 ≠ 0) :
    Calls Tryd.prog 9 #[.agg #[.int .i64 n, .int .i64 d], .int .i64 k] w fun e w' => e = .returned (RV t) ∧ Below w.heap.size w w' := by
  have b1 : -1000000000000000000 ≤ n * k ∧ n * k ≤ 1000000000000000000 := mulb ha.2.2.1 ha.2.2.2.1 hk0 hk (by omega)
  have b2 : -1000000000000000001 ≤ q ∧ q ≤ 1000000000000000001 := by
    have e := Rt.ediv_abs (n * k) d (by have := ha.1; omega)
    rw [hq] at e; omega
  have b3 : 0 ≤ r ∧ r < d := by rw [← hr]; exact ⟨Int.emod_nonneg _ (Rt.ok_ne ha), Int.emod_lt_of_pos _ (Rt.ok_pos ha)⟩
  have hc : cmpI (2 * r) d = 0 := by unfold cmpI; rw [if_neg (by omega), if_neg (by omega)]
  have HC := Lib.hid hc
  clear hc
  have p1 : (q.tmod 2 != 0) = true := by rw [bne_iff_ne]; exact fun e => hp ((tmod2 q).1 e)
  clear hp h
  have HQ := Lib.hid hq
  have HR := Lib.hid hr
  have HT := Lib.hid ht
  clear hq hr ht
  have HA := Lib.hid ha
  go_enter Tryd.func9, Tryd.ntmps9
  go_wp2_with fail
  refine (valid_true _ _ _ HA.out).mono ?_
  rintro e w1 ⟨rfl, hb1⟩
  obtain ⟨hc1, hf1⟩ := bcell hb1
  have hz1 := hb1.size
  simp at hz1
  have hl1 : w.heap.size < w1.heap.size := by omega
  have hl2 : w.heap.size + 1 < w1.heap.size := by omega
  obtain ⟨a1, a2, a3, a4, _⟩ := ha
  clear HA
  go_wp2_with fail
  refine (divide_any _ _ _ (by omega) (by omega) a1 a2).mono ?_
  rintro e w2 ⟨rfl, hb2⟩
  rw [HQ.out, HR.out]
  have hz2 := hb2.size
  have g1 : w2.cell? ⟨w.heap.size, 0, none⟩ = some (.int .i64 n) := (hb2.cell (p := ⟨w.heap.size, 0, none⟩) hl1).trans ((hc1 _ _ (by simp; omega)).trans (by go_simp))
  have g2 : w2.cell? ⟨w.heap.size, 1, none⟩ = some (.int .i64 d) := (hb2.cell (p := ⟨w.heap.size, 1, none⟩) hl1).trans ((hc1 _ _ (by simp; omega)).trans (by go_simp))
  have g3 : w2.cell? ⟨w.heap.size + 1, 0, none⟩ = some (.int .i64 0) := (hb2.cell (p := ⟨w.heap.size + 1, 0, none⟩) hl2).trans ((hc1 _ _ (by simp)).trans (by go_simp))
  have g4 : w2.cell? ⟨w.heap.size + 1, 1, none⟩ = some (.int .i64 0) := (hb2.cell (p := ⟨w.heap.size + 1, 1, none⟩) hl2).trans ((hc1 _ _ (by simp)).trans (by go_simp))
  have g5 : w2.frozen? ⟨w.heap.size + 1, 0, none⟩ = false := (hb2.frozen (p := ⟨w.heap.size + 1, 0, none⟩) hl2).trans ((hf1 _ _ (by simp)).trans (by go_simp))
  have g6 : w2.frozen? ⟨w.heap.size + 1, 1, none⟩ = false := (hb2.frozen (p := ⟨w.heap.size + 1, 1, none⟩) hl2).trans ((hf1 _ _ (by simp)).trans (by go_simp))
  have hl3 : w.heap.size + 1 < w2.heap.size := by omega
  clear hc1 hf1
  go_wp2_with fail
  refine (compare_any _ _ _).mono ?_
  rintro e w3 ⟨rfl, rfl⟩
  rw [HC.out]
  go_wp2_with fail
  refine (make_any _ _ _ (by omega) (by omega) (by omega) (by omega)).mono ?_
  rintro e w4 ⟨rfl, hb4⟩
  rw [HT.out]
  obtain ⟨hc4, hf4⟩ := bcell hb4
  simp only [RV]
  go_wp2
  refine bodyPost_ret (v := RV t) (by simp [results, Tryd.results9, go_sem, RV, hc4, g3, g4, hl3]) rfl ⟨rfl, ?_⟩
  exact (by repeat (first | exact Below.refl _ _ | assumption | refine below_drewN ?_ _ | refine Below.setCell ?_ (by first | (simp; done) | (simp; omega)) _ | refine Below.alloc ?_ (by first | (simp; done) | (simp; omega) | omega) _ | refine Below.drew ?_ | refine Below.trans ?_ (Below.mono (by assumption) (by first | (simp; done) | (simp; omega) | omega))))
set_option maxHeartbeats 800000 in
theorem round_even (n d k : Int) (w : World) (ha : Rt.Ok n d) (hk0 : 1 ≤ k) (hk : k ≤ 1000000) (q r : Int) (t : Int × Int × Int) (hq : n * k / d = q) (hr : n * k % d = r) (ht : Rt.mk (q) k = t) (h : 2 * r = d) (hp : q % 2 = 0) :
    Calls Tryd.prog 9 #[.agg #[.int .i64 n, .int .i64 d], .int .i64 k] w fun e w' => e = .returned (RV t) ∧ Below w.heap.size w w' := by
  have b1 : -1000000000000000000 ≤ n * k ∧ n * k ≤ 1000000000000000000 := mulb ha.2.2.1 ha.2.2.2.1 hk0 hk (by omega)
  have b2 : -1000000000000000001 ≤ q ∧ q ≤ 1000000000000000001 := by
    have e := Rt.ediv_abs (n * k) d (by have := ha.1; omega)
    rw [hq] at e; omega
  have b3 : 0 ≤ r ∧ r < d := by rw [← hr]; exact ⟨Int.emod_nonneg _ (Rt.ok_ne ha), Int.emod_lt_of_pos _ (Rt.ok_pos ha)⟩
  have hc : cmpI (2 * r) d = 0 := by unfold cmpI; rw [if_neg (by omega), if_neg (by omega)]
  have HC := Lib.hid hc
  clear hc
  have p1 : (q.tmod 2 != 0) = false := by rw [bne_eq_false_iff_eq]; exact (tmod2 q).2 hp
  clear hp h
  have HQ := Lib.hid hq
  have HR := Lib.hid hr
  have HT := Lib.hid ht
  clear hq hr ht
  have HA := Lib.hid ha
  go_enter Tryd.func9, Tryd.ntmps9
  go_wp2_with fail
  refine (valid_true _ _ _ HA.out).mono ?_
  rintro e w1 ⟨rfl, hb1⟩
  obtain ⟨hc1, hf1⟩ := bcell hb1
  have hz1 := hb1.size
  simp at hz1
  have hl1 : w.heap.size < w1.heap.size := by omega
  have hl2 : w.heap.size + 1 < w1.heap.size := by omega
  obtain ⟨a1, a2, a3, a4, _⟩ := ha
  clear HA
  go_wp2_with fail
  refine (divide_any _ _ _ (by omega) (by omega) a1 a2).mono ?_
  rintro e w2 ⟨rfl, hb2⟩
  rw [HQ.out, HR.out]
  have hz2 := hb2.size
  have g1 : w2.cell? ⟨w.heap.size, 0, none⟩ = some (.int .i64 n) := (hb2.cell (p := ⟨w.heap.size, 0, none⟩) hl1).trans ((hc1 _ _ (by simp; omega)).trans (by go_simp))
  have g2 : w2.cell? ⟨w.heap.size, 1, none⟩ = some (.int .i64 d) := (hb2.cell (p := ⟨w.heap.size, 1, none⟩) hl1).trans ((hc1 _ _ (by simp; omega)).trans (by go_simp))
  have g3 : w2.cell? ⟨w.heap.size + 1, 0, none⟩ = some (.int .i64 0) := (hb2.cell (p := ⟨w.heap.size + 1, 0, none⟩) hl2).trans ((hc1 _ _ (by simp)).trans (by go_simp))
  have g4 : w2.cell? ⟨w.heap.size + 1, 1, none⟩ = some (.int .i64 0) := (hb2.cell (p := ⟨w.heap.size + 1, 1, none⟩) hl2).trans ((hc1 _ _ (by simp)).trans (by go_simp))
  have g5 : w2.frozen? ⟨w.heap.size + 1, 0, none⟩ = false := (hb2.frozen (p := ⟨w.heap.size + 1, 0, none⟩) hl2).trans ((hf1 _ _ (by simp)).trans (by go_simp))
  have g6 : w2.frozen? ⟨w.heap.size + 1, 1, none⟩ = false := (hb2.frozen (p := ⟨w.heap.size + 1, 1, none⟩) hl2).trans ((hf1 _ _ (by simp)).trans (by go_simp))
  have hl3 : w.heap.size + 1 < w2.heap.size := by omega
  clear hc1 hf1
  go_wp2_with fail
  refine (compare_any _ _ _).mono ?_
  rintro e w3 ⟨rfl, rfl⟩
  rw [HC.out]
  go_wp2_with fail
  refine (make_any _ _ _ (by omega) (by omega) (by omega) (by omega)).mono ?_
  rintro e w4 ⟨rfl, hb4⟩
  rw [HT.out]
  obtain ⟨hc4, hf4⟩ := bcell hb4
  simp only [RV]
  go_wp2
  refine bodyPost_ret (v := RV t) (by simp [results, Tryd.results9, go_sem, RV, hc4, g3, g4, hl3]) rfl ⟨rfl, ?_⟩
  exact (by repeat (first | exact Below.refl _ _ | assumption | refine below_drewN ?_ _ | refine Below.setCell ?_ (by first | (simp; done) | (simp; omega)) _ | refine Below.alloc ?_ (by first | (simp; done) | (simp; omega) | omega) _ | refine Below.drew ?_ | refine Below.trans ?_ (Below.mono (by assumption) (by first | (simp; done) | (simp; omega) | omega))))
theorem round_any (n d k : Int) (w : World) (k1 : -9223372036854775808 ≤ n) (k2 : n ≤ 9223372036854775807) :
    Calls Tryd.prog 9 #[.agg #[.int .i64 n, .int .i64 d], .int .i64 k] w fun e w' => e = .returned (RV (Rt.roundS n d k)) ∧ Below w.heap.size w w' := by
  unfold Rt.roundS
  by_cases ha : Rt.Ok n d
  · by_cases hk0 : k < 1
    · rw [if_neg (by omega)]; exact round_low n d k w ha hk0
    by_cases hk : 1000000 < k
    · rw [if_neg (by omega)]; exact round_high n d k w ha (by omega) hk
    rw [if_pos ⟨ha, by omega, by omega⟩]
    unfold Rt.rh
    by_cases h1 : d < 2 * (n * k % d)
    · rw [if_pos (Or.inl h1)]; exact round_up n d k w ha (by omega) (by omega) _ _ _ rfl rfl rfl h1
    by_cases h2 : 2 * (n * k % d) < d
    · rw [if_neg (by omega)]; exact round_down n d k w ha (by omega) (by omega) _ _ _ rfl rfl rfl h2
    by_cases hp : (n * k / d) % 2 = 0
    · rw [if_neg (by omega)]; exact round_even n d k w ha (by omega) (by omega) _ _ _ rfl rfl rfl (by omega) hp
    · rw [if_pos (Or.inr ⟨by omega, hp⟩)]; exact round_odd n d k w ha (by omega) (by omega) _ _ _ rfl rfl rfl (by omega) hp
  · rw [if_neg (fun h => ha h.1)]; exact round_bad n d k w k1 k2 ha
end Go.Proofs.YtmdgccnpcmjpbaaDoor

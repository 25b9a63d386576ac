/- The walk of ratio.Mul. -/
import Derived.Test.YtmdgccnpcmjpbaaDoorRtD
import Derived.Test.YtmdgccnpcmjpbaaDoorShelf
namespace Go.Proofs.YtmdgccnpcmjpbaaDoor
open Go.RowKit

theorem mag_q (n : Int) (w : World) (k : Nat) (h1 : -9223372036854775808 ≤ n) (h2 : n ≤ 9223372036854775807) :
    Calls Tryd.prog 28 #[.int .i64 n] (w.drewN k) fun e w' => e = .returned (.int .u64 (n.natAbs : Int)) ∧ ∃ m, w' = w.drewN m :=
  (mag_any n _ h1 h2).mono fun _ _ ⟨he, hw⟩ => ⟨he, k, hw.symm⟩
set_option maxRecDepth 100000 in
set_option maxHeartbeats 800000 in
theorem checked_mul (an ad bn bd : Int) (t : Int × Int × Int) (p1 p2 : Value) (w : World) (ha : Rt.Ok an ad) (hb : Rt.Ok bn bd)
    (hop : ∀ w2, Below w.heap.size w w2 → Calls Tryd.prog 41 #[p1, p2] w2 fun e w3 => e = .returned (RV t) ∧ Below w2.heap.size w2 w3) :
    Calls Tryd.prog 38 #[.agg #[.int .i64 an, .int .i64 ad], .agg #[.int .i64 bn, .int .i64 bd], .func (Fn.func 41) #[] #[p1, p2]] w fun e w' => e = .returned (RV t) ∧ Below w.heap.size w w' := by
  have HOP := Lib.hid hop
  clear hop
  go_enter Tryd.func38, Tryd.ntmps38
  go_wp2_with fail
  refine (valid_true _ _ _ ha).mono ?_
  rintro e w1 ⟨rfl, hb1⟩
  obtain ⟨hc1, hf1⟩ := bcell hb1
  have hz1 := hb1.size
  simp at hz1
  go_wp2_with fail
  refine (valid_true _ _ _ hb).mono ?_
  rintro e w2 ⟨rfl, hb2⟩
  obtain ⟨hc2, hf2⟩ := bcell hb2
  have hz2 := hb2.size
  go_wp2_with fail
  have hbel : Below w.heap.size w w2 := (by repeat (first | exact Below.refl _ _ | assumption | refine below_drewN ?_ _ | refine Below.setCell ?_ (by first | (simp; done) | (simp; omega)) _ | refine Below.alloc ?_ (by first | (simp; done) | (simp; omega) | omega) _ | refine Below.drew ?_ | refine Below.trans ?_ (Below.mono (by assumption) (by first | (simp; done) | (simp; omega) | omega))))
  refine (HOP.out w2 hbel).mono ?_
  rintro e w3 ⟨rfl, hb3⟩
  obtain ⟨hc3, hf3⟩ := bcell hb3
  have hz3 := hb3.size
  have hl1 : w.heap.size + 1 + 1 < w1.heap.size := by omega
  have hl2 : w.heap.size + 1 + 1 < w2.heap.size := by omega
  clear hz1 hz2 hz3
  simp only [RV]
  go_wp2
  refine bodyPost_ret (v := RV t) (by simp [results, Tryd.results38, go_sem, RV, hc1, hc2, hc3, hl1, hl2]) rfl ⟨rfl, ?_⟩
  exact (by repeat (first | exact Below.refl _ _ | assumption | refine below_drewN ?_ _ | refine Below.setCell ?_ (by first | (simp; done) | (simp; omega)) _ | refine Below.alloc ?_ (by first | (simp; done) | (simp; omega) | omega) _ | refine Below.drew ?_ | refine Below.trans ?_ (Below.mono (by assumption) (by first | (simp; done) | (simp; omega) | omega))))
theorem mul64_any (x y hi lo : Nat) (hx : x < 18446744073709551616) (hy : y < 18446744073709551616) (hh : x * y / 18446744073709551616 = hi) (hl : x * y % 18446744073709551616 = lo) (w : World) :
    Calls Tryd.prog 42 #[.int .u64 x, .int .u64 y] w fun e w' => e = .returned (.tuple #[.int .u64 (hi : Int), .int .u64 (lo : Int)]) ∧ w' = w := by
  subst hh hl
  exact Tryd.bits_Mul64 x y hx hy w
set_option maxRecDepth 100000 in
set_option maxHeartbeats 1600000 in
theorem mulf_hi (an ad bn bd : Int) (p1 q1 p2 q2 : Int) (b1 b2 : Nat) (w : World) (h1 : Rt.mk bn ad = (p1, q1, 0)) (h2 : Rt.mk an bd = (p2, q2, 0)) (hp1 : Rt.Ok p1 q1) (hp2 : Rt.Ok p2 q2) (ha : Rt.Ok an ad) (hb : Rt.Ok bn bd) (hl1 : b1 < w.heap.size) (hl2 : b2 < w.heap.size)
    (c1 : w.cell? ⟨b1, 0, none⟩ = some (.int .i64 bn)) (c2 : w.cell? ⟨b1, 1, none⟩ = some (.int .i64 bd)) (c3 : w.cell? ⟨b2, 0, none⟩ = some (.int .i64 an)) (c4 : w.cell? ⟨b2, 1, none⟩ = some (.int .i64 ad)) (hi lo : Nat) (hh : p1.natAbs * p2.natAbs / 18446744073709551616 = hi) (hlo : p1.natAbs * p2.natAbs % 18446744073709551616 = lo) (hr : 0 < hi) :
    Calls Tryd.prog 41 #[.pointer (some ⟨b1, 0, none⟩), .pointer (some ⟨b2, 0, none⟩)] w fun e w' => e = .returned (RV (0, 0, 2)) ∧ Below w.heap.size w w' := by
  obtain ⟨a1, a2, a3, a4, _⟩ := ha
  obtain ⟨d1, d2, d3, d4, _⟩ := hb
  obtain ⟨u1, u2, u3, u4, _⟩ := hp1
  obtain ⟨v1, v2, v3, v4, _⟩ := hp2
  have H1 := Lib.hid h1
  have H2 := Lib.hid h2
  clear h1 h2
  have HH := Lib.hid hh
  have HL := Lib.hid hlo
  clear hh hlo
  go_enter Tryd.func41, Tryd.ntmps41
  go_wp2_with fail
  refine (make_any _ _ _ (by omega) (by omega) (by omega) (by omega)).mono ?_
  rintro e w1 ⟨rfl, hb1⟩
  rw [H1.out]
  obtain ⟨hc1, hf1⟩ := bcell hb1
  have hz1 := hb1.size
  simp at hz1
  have hl11 : b1 < w1.heap.size := by omega
  have hl12 : b2 < w1.heap.size := by omega
  have hl13 : w.heap.size < w1.heap.size := by omega
  simp only [RV]
  go_wp2_with fail
  refine (make_any _ _ _ (by omega) (by omega) (by omega) (by omega)).mono ?_
  rintro e w2 ⟨rfl, hb2⟩
  rw [H2.out]
  obtain ⟨hc2, hf2⟩ := bcell hb2
  have hz2 := hb2.size
  simp at hz2
  have hl21 : w1.heap.size < w2.heap.size := by omega
  have hl23 : w.heap.size < w2.heap.size := by omega
  clear hz1 hz2
  have g1 : w2.cell? ⟨w1.heap.size, 0, none⟩ = some (.int .i64 p1) := by rw [hc2 _ _ (by simp)]; go_simp
  have g2 : w2.cell? ⟨w1.heap.size, 1, none⟩ = some (.int .i64 q1) := by rw [hc2 _ _ (by simp)]; go_simp
  have g3 : w2.cell? ⟨w.heap.size, 0, none⟩ = some (.int .i64 0) := by rw [hc2 _ _ (by simp; omega)]; go_simp
  have g4 : w2.cell? ⟨w.heap.size, 1, none⟩ = some (.int .i64 0) := by rw [hc2 _ _ (by simp; omega)]; go_simp
  have g5 : w2.frozen? ⟨w.heap.size, 0, none⟩ = false := by rw [hf2 _ _ (by simp; omega)]; go_simp
  have g6 : w2.frozen? ⟨w.heap.size, 1, none⟩ = false := by rw [hf2 _ _ (by simp; omega)]; go_simp
  clear c1 c2 c3 c4
  simp only [RV]
  go_wp2
  go_quiet (first | (go_at_call 28; exact mag_q _ _ _ (by omega) (by omega)) | (go_at_call 42; exact Calls.quiet_of_same (mul64_any p1.natAbs p2.natAbs hi lo (by omega) (by omega) HH.out HL.out _)))
  go_wp2
  refine bodyPost_ret (v := RV (0, 0, 2)) (by simp [results, Tryd.results41, go_sem, RV, g3, g4, hl23]) rfl ⟨rfl, ?_⟩
  exact (by repeat (first | exact Below.refl _ _ | assumption | refine below_drewN ?_ _ | refine Below.setCell ?_ (by first | (simp; done) | (simp; omega)) _ | refine Below.alloc ?_ (by first | (simp; done) | (simp; omega) | omega) _ | refine Below.drew ?_ | refine Below.trans ?_ (Below.mono (by assumption) (by first | (simp; done) | (simp; omega) | omega))))
set_option maxRecDepth 100000 in
set_option maxHeartbeats 1600000 in
theorem mulf_lo (an ad bn bd : Int) (p1 q1 p2 q2 : Int) (b1 b2 : Nat) (w : World) (h1 : Rt.mk bn ad = (p1, q1, 0)) (h2 : Rt.mk an bd = (p2, q2, 0)) (hp1 : Rt.Ok p1 q1) (hp2 : Rt.Ok p2 q2) (ha : Rt.Ok an ad) (hb : Rt.Ok bn bd) (hl1 : b1 < w.heap.size) (hl2 : b2 < w.heap.size)
    (c1 : w.cell? ⟨b1, 0, none⟩ = some (.int .i64 bn)) (c2 : w.cell? ⟨b1, 1, none⟩ = some (.int .i64 bd)) (c3 : w.cell? ⟨b2, 0, none⟩ = some (.int .i64 an)) (c4 : w.cell? ⟨b2, 1, none⟩ = some (.int .i64 ad)) (hi lo : Nat) (hh : p1.natAbs * p2.natAbs / 18446744073709551616 = hi) (hlo : p1.natAbs * p2.natAbs % 18446744073709551616 = lo) (hr0 : hi ≤ 0) (hr : 1000000000000 < lo) :
    Calls Tryd.prog 41 #[.pointer (some ⟨b1, 0, none⟩), .pointer (some ⟨b2, 0, none⟩)] w fun e w' => e = .returned (RV (0, 0, 2)) ∧ Below w.heap.size w w' := by
  obtain ⟨a1, a2, a3, a4, _⟩ := ha
  obtain ⟨d1, d2, d3, d4, _⟩ := hb
  obtain ⟨u1, u2, u3, u4, _⟩ := hp1
  obtain ⟨v1, v2, v3, v4, _⟩ := hp2
  have H1 := Lib.hid h1
  have H2 := Lib.hid h2
  clear h1 h2
  have HH := Lib.hid hh
  have HL := Lib.hid hlo
  clear hh hlo
  go_enter Tryd.func41, Tryd.ntmps41
  go_wp2_with fail
  refine (make_any _ _ _ (by omega) (by omega) (by omega) (by omega)).mono ?_
  rintro e w1 ⟨rfl, hb1⟩
  rw [H1.out]
  obtain ⟨hc1, hf1⟩ := bcell hb1
  have hz1 := hb1.size
  simp at hz1
  have hl11 : b1 < w1.heap.size := by omega
  have hl12 : b2 < w1.heap.size := by omega
  have hl13 : w.heap.size < w1.heap.size := by omega
  simp only [RV]
  go_wp2_with fail
  refine (make_any _ _ _ (by omega) (by omega) (by omega) (by omega)).mono ?_
  rintro e w2 ⟨rfl, hb2⟩
  rw [H2.out]
  obtain ⟨hc2, hf2⟩ := bcell hb2
  have hz2 := hb2.size
  simp at hz2
  have hl21 : w1.heap.size < w2.heap.size := by omega
  have hl23 : w.heap.size < w2.heap.size := by omega
  clear hz1 hz2
  have g1 : w2.cell? ⟨w1.heap.size, 0, none⟩ = some (.int .i64 p1) := by rw [hc2 _ _ (by simp)]; go_simp
  have g2 : w2.cell? ⟨w1.heap.size, 1, none⟩ = some (.int .i64 q1) := by rw [hc2 _ _ (by simp)]; go_simp
  have g3 : w2.cell? ⟨w.heap.size, 0, none⟩ = some (.int .i64 0) := by rw [hc2 _ _ (by simp; omega)]; go_simp
  have g4 : w2.cell? ⟨w.heap.size, 1, none⟩ = some (.int .i64 0) := by rw [hc2 _ _ (by simp; omega)]; go_simp
  have g5 : w2.frozen? ⟨w.heap.size, 0, none⟩ = false := by rw [hf2 _ _ (by simp; omega)]; go_simp
  have g6 : w2.frozen? ⟨w.heap.size, 1, none⟩ = false := by rw [hf2 _ _ (by simp; omega)]; go_simp
  clear c1 c2 c3 c4
  simp only [RV]
  go_wp2
  go_quiet (first | (go_at_call 28; exact mag_q _ _ _ (by omega) (by omega)) | (go_at_call 42; exact Calls.quiet_of_same (mul64_any p1.natAbs p2.natAbs hi lo (by omega) (by omega) HH.out HL.out _)))
  go_wp2
  refine bodyPost_ret (v := RV (0, 0, 2)) (by simp [results, Tryd.results41, go_sem, RV, g3, g4, hl23]) rfl ⟨rfl, ?_⟩
  exact (by repeat (first | exact Below.refl _ _ | assumption | refine below_drewN ?_ _ | refine Below.setCell ?_ (by first | (simp; done) | (simp; omega)) _ | refine Below.alloc ?_ (by first | (simp; done) | (simp; omega) | omega) _ | refine Below.drew ?_ | refine Below.trans ?_ (Below.mono (by assumption) (by first | (simp; done) | (simp; omega) | omega))))
set_option maxRecDepth 100000 in
set_option maxHeartbeats 1600000 in
theorem mulf_in (an ad bn bd : Int) (p1 q1 p2 q2 : Int) (b1 b2 : Nat) (w : World) (h1 : Rt.mk bn ad = (p1, q1, 0)) (h2 : Rt.mk an bd = (p2, q2, 0)) (hp1 : Rt.Ok p1 q1) (hp2 : Rt.Ok p2 q2) (ha : Rt.Ok an ad) (hb : Rt.Ok bn bd) (hl1 : b1 < w.heap.size) (hl2 : b2 < w.heap.size)
    (c1 : w.cell? ⟨b1, 0, none⟩ = some (.int .i64 bn)) (c2 : w.cell? ⟨b1, 1, none⟩ = some (.int .i64 bd)) (c3 : w.cell? ⟨b2, 0, none⟩ = some (.int .i64 an)) (c4 : w.cell? ⟨b2, 1, none⟩ = some (.int .i64 ad)) (hi lo : Nat) (hh : p1.natAbs * p2.natAbs / 18446744073709551616 = hi) (hlo : p1.natAbs * p2.natAbs % 18446744073709551616 = lo) (t : Int × Int × Int) (ht : Rt.mk (p1 * p2) (q1 * q2) = t) (hr0 : hi ≤ 0) (hr : lo ≤ 1000000000000) (m1 : -1000000000000 ≤ p1 * p2 ∧ p1 * p2 ≤ 1000000000000) :
    Calls Tryd.prog 41 #[.pointer (some ⟨b1, 0, none⟩), .pointer (some ⟨b2, 0, none⟩)] w fun e w' => e = .returned (RV t) ∧ Below w.heap.size w w' := by
  obtain ⟨a1, a2, a3, a4, _⟩ := ha
  obtain ⟨d1, d2, d3, d4, _⟩ := hb
  obtain ⟨u1, u2, u3, u4, _⟩ := hp1
  obtain ⟨v1, v2, v3, v4, _⟩ := hp2
  have H1 := Lib.hid h1
  have H2 := Lib.hid h2
  clear h1 h2
  have HH := Lib.hid hh
  have HL := Lib.hid hlo
  clear hh hlo
  have HT := Lib.hid ht
  clear ht
  go_enter Tryd.func41, Tryd.ntmps41
  go_wp2_with fail
  refine (make_any _ _ _ (by omega) (by omega) (by omega) (by omega)).mono ?_
  rintro e w1 ⟨rfl, hb1⟩
  rw [H1.out]
  obtain ⟨hc1, hf1⟩ := bcell hb1
  have hz1 := hb1.size
  simp at hz1
  have hl11 : b1 < w1.heap.size := by omega
  have hl12 : b2 < w1.heap.size := by omega
  have hl13 : w.heap.size < w1.heap.size := by omega
  simp only [RV]
  go_wp2_with fail
  refine (make_any _ _ _ (by omega) (by omega) (by omega) (by omega)).mono ?_
  rintro e w2 ⟨rfl, hb2⟩
  rw [H2.out]
  obtain ⟨hc2, hf2⟩ := bcell hb2
  have hz2 := hb2.size
  simp at hz2
  have hl21 : w1.heap.size < w2.heap.size := by omega
  have hl23 : w.heap.size < w2.heap.size := by omega
  clear hz1 hz2
  have g1 : w2.cell? ⟨w1.heap.size, 0, none⟩ = some (.int .i64 p1) := by rw [hc2 _ _ (by simp)]; go_simp
  have g2 : w2.cell? ⟨w1.heap.size, 1, none⟩ = some (.int .i64 q1) := by rw [hc2 _ _ (by simp)]; go_simp
  have g3 : w2.cell? ⟨w.heap.size, 0, none⟩ = some (.int .i64 0) := by rw [hc2 _ _ (by simp; omega)]; go_simp
  have g4 : w2.cell? ⟨w.heap.size, 1, none⟩ = some (.int .i64 0) := by rw [hc2 _ _ (by simp; omega)]; go_simp
  have g5 : w2.frozen? ⟨w.heap.size, 0, none⟩ = false := by rw [hf2 _ _ (by simp; omega)]; go_simp
  have g6 : w2.frozen? ⟨w.heap.size, 1, none⟩ = false := by rw [hf2 _ _ (by simp; omega)]; go_simp
  clear c1 c2 c3 c4
  simp only [RV]
  go_wp2
  go_quiet (first | (go_at_call 28; exact mag_q _ _ _ (by omega) (by omega)) | (go_at_call 42; exact Calls.quiet_of_same (mul64_any p1.natAbs p2.natAbs hi lo (by omega) (by omega) HH.out HL.out _)))
  have m3 := mulb (a := q1) (m := 1000000) (by omega) u2 v1 v2 (by omega)
  go_wp2_with fail
  refine (make_any _ _ _ (by omega) (by omega) (by omega) (by omega)).mono ?_
  rintro e w3 ⟨rfl, hb3⟩
  rw [HT.out]
  obtain ⟨hc3, hf3⟩ := bcell hb3
  have hz3 := hb3.size
  simp at hz3
  have hl31 : w.heap.size < w3.heap.size := by omega
  have hl24 : w.heap.size < w2.heap.size + 1 := by omega
  simp only [RV]
  go_wp2
  refine bodyPost_ret (v := RV t) (by simp [results, Tryd.results41, go_sem, RV, hc3, g3, g4, hl23, hl24]) rfl ⟨rfl, ?_⟩
  exact (by repeat (first | exact Below.refl _ _ | assumption | refine below_drewN ?_ _ | refine Below.setCell ?_ (by first | (simp; done) | (simp; omega)) _ | refine Below.alloc ?_ (by first | (simp; done) | (simp; omega) | omega) _ | refine Below.drew ?_ | refine Below.trans ?_ (Below.mono (by assumption) (by first | (simp; done) | (simp; omega) | omega))))
theorem mulf (an ad bn bd : Int) (b1 b2 : Nat) (w : World) (ha : Rt.Ok an ad) (hb : Rt.Ok bn bd) (hl1 : b1 < w.heap.size) (hl2 : b2 < w.heap.size)
    (c1 : w.cell? ⟨b1, 0, none⟩ = some (.int .i64 bn)) (c2 : w.cell? ⟨b1, 1, none⟩ = some (.int .i64 bd)) (c3 : w.cell? ⟨b2, 0, none⟩ = some (.int .i64 an)) (c4 : w.cell? ⟨b2, 1, none⟩ = some (.int .i64 ad)) :
    Calls Tryd.prog 41 #[.pointer (some ⟨b1, 0, none⟩), .pointer (some ⟨b2, 0, none⟩)] w fun e w' => e = .returned (RV (Rt.mk (an * bn) (ad * bd))) ∧ Below w.heap.size w w' := by
  obtain ⟨p1, q1, h1, o1, x1⟩ := Rt.mk_in hb.2.2.1 hb.2.2.2.1 ha.1 ha.2.1
  obtain ⟨p2, q2, h2, o2, x2⟩ := Rt.mk_in ha.2.2.1 ha.2.2.2.1 hb.1 hb.2.1
  rcases Nat.eq_zero_or_pos (p1.natAbs * p2.natAbs / 18446744073709551616) with z | z
  · by_cases y : 1000000000000 < p1.natAbs * p2.natAbs % 18446744073709551616
    · rw [Rt.mul_far ha hb o1 o2 h1 h2 x1 x2 (by omega)]
      exact mulf_lo an ad bn bd p1 q1 p2 q2 b1 b2 w h1 h2 o1 o2 ha hb hl1 hl2 c1 c2 c3 c4 _ _ rfl rfl (by omega) y
    · have m1 : (p1 * p2).natAbs ≤ 1000000000000 := by rw [Int.natAbs_mul]; omega
      rw [Rt.mul_near ha hb o1 o2 x1 x2]
      exact mulf_in an ad bn bd p1 q1 p2 q2 b1 b2 w h1 h2 o1 o2 ha hb hl1 hl2 c1 c2 c3 c4 _ _ rfl rfl _ rfl (by omega) (by omega) (by omega)
  · rw [Rt.mul_far ha hb o1 o2 h1 h2 x1 x2 (by omega)]
    exact mulf_hi an ad bn bd p1 q1 p2 q2 b1 b2 w h1 h2 o1 o2 ha hb hl1 hl2 c1 c2 c3 c4 _ _ rfl rfl z
set_option maxRecDepth 100000 in
set_option maxHeartbeats 800000 in
theorem mul_ok (an ad bn bd : Int) (t : Int × Int × Int) (w : World) (ht : Rt.mk (an * bn) (ad * bd) = t) (ha : Rt.Ok an ad) (hb : Rt.Ok bn bd) :
    Calls Tryd.prog 15 #[.agg #[.int .i64 an, .int .i64 ad], .agg #[.int .i64 bn, .int .i64 bd]] w fun e w' => e = .returned (RV t) ∧ Below w.heap.size w w' := by
  have HT := Lib.hid ht
  clear ht
  go_enter Tryd.func15, Tryd.ntmps15
  go_wp2_with fail
  refine (checked_mul an ad bn bd t _ _ _ ha hb ?_).mono ?_
  · intro w2 hw2
    obtain ⟨hc2, hf2⟩ := bcell hw2
    have hz2 := hw2.size
    simp at hz2
    rw [← HT.out]; exact mulf an ad bn bd _ _ w2 ha hb (by omega) (by omega) (by rw [hc2 _ _ (by first | (simp; done) | (simp; omega))]; go_simp) (by rw [hc2 _ _ (by first | (simp; done) | (simp; omega))]; go_simp) (by rw [hc2 _ _ (by first | (simp; done) | (simp; omega))]; go_simp) (by rw [hc2 _ _ (by first | (simp; done) | (simp; omega))]; go_simp)
  rintro e w1 ⟨rfl, hb1⟩
  obtain ⟨hc1, hf1⟩ := bcell hb1
  have hz1 := hb1.size
  simp at hz1
  clear ha hb
  simp only [RV]
  go_wp2
  refine bodyPost_ret (v := RV t) (by simp [results, Tryd.results15, go_sem, RV, hc1]) rfl ⟨rfl, ?_⟩
  exact (by repeat (first | exact Below.refl _ _ | assumption | refine below_drewN ?_ _ | refine Below.setCell ?_ (by first | (simp; done) | (simp; omega)) _ | refine Below.alloc ?_ (by first | (simp; done) | (simp; omega) | omega) _ | refine Below.drew ?_ | refine Below.trans ?_ (Below.mono (by assumption) (by first | (simp; done) | (simp; omega) | omega))))
set_option maxHeartbeats 800000 in
theorem mul_no (an ad bn bd : Int) (w : World) (ka1 : -9223372036854775808 ≤ an) (ka2 : an ≤ 9223372036854775807) (kb1 : -9223372036854775808 ≤ bn) (kb2 : bn ≤ 9223372036854775807) (h : ¬ (Rt.Ok an ad ∧ Rt.Ok bn bd)) :
    Calls Tryd.prog 15 #[.agg #[.int .i64 an, .int .i64 ad], .agg #[.int .i64 bn, .int .i64 bd]] w fun e w' => e = .returned (RV (0, 0, 1)) ∧ Below w.heap.size w w' := by
  have H := Lib.hid h
  clear h
  go_enter Tryd.func15, Tryd.ntmps15
  go_wp2_with fail
  refine (checked_no an ad bn bd _ _ ka1 ka2 kb1 kb2 H.out).mono ?_
  rintro e w1 ⟨rfl, hb1⟩
  obtain ⟨hc1, hf1⟩ := bcell hb1
  have hz1 := hb1.size
  simp at hz1
  simp only [RV]
  go_wp2
  refine bodyPost_ret (v := RV (0, 0, 1)) (by simp [results, Tryd.results15, go_sem, RV, hc1]) rfl ⟨rfl, ?_⟩
  exact (by repeat (first | exact Below.refl _ _ | assumption | refine below_drewN ?_ _ | refine Below.setCell ?_ (by first | (simp; done) | (simp; omega)) _ | refine Below.alloc ?_ (by first | (simp; done) | (simp; omega) | omega) _ | refine Below.drew ?_ | refine Below.trans ?_ (Below.mono (by assumption) (by first | (simp; done) | (simp; omega) | omega))))
theorem mul_any (an ad bn bd : Int) (w : World) (ka1 : -9223372036854775808 ≤ an) (ka2 : an ≤ 9223372036854775807) (kb1 : -9223372036854775808 ≤ bn) (kb2 : bn ≤ 9223372036854775807) :
    Calls Tryd.prog 15 #[.agg #[.int .i64 an, .int .i64 ad], .agg #[.int .i64 bn, .int .i64 bd]] w fun e w' => e = .returned (RV (Rt.mulS an ad bn bd)) ∧ Below w.heap.size w w' := by
  unfold Rt.mulS
  by_cases h : Rt.Ok an ad ∧ Rt.Ok bn bd
  · rw [if_pos h]; exact mul_ok an ad bn bd _ w rfl h.1 h.2
  · rw [if_neg h]; exact mul_no an ad bn bd w ka1 ka2 kb1 kb2 h
end Go.Proofs.YtmdgccnpcmjpbaaDoor

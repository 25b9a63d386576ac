/- RatioRounds: the walk of the law, the main way. -/
import Derived.Test.YtnfbagihbgmpfaaDoorRtR
namespace Go.Proofs.YtnfbagihbgmpfaaDoor
open Go.RowKit

set_option maxRecDepth 100000 in
set_option maxHeartbeats 4000000 in
theorem rr_gt_c (an ad bn bd raw : Int) (w : World) (hE : Env w) (ha : Rt.Ok an ad) (hb : Rt.Ok bn bd) (g1 : max an (-an) ≤ 1000000000) (g2 : max bn (-bn) ≤ 1000000000) (n r q x1 x2 y1 y2 c : Int) (hn : 1 + max (raw.tmod 1000) (-(raw.tmod 1000)) = n) (hx : Rt.roundS an ad n = (x1, x2, 0)) (hy : Rt.roundS bn bd n = (y1, y2, 0)) (o1 : Rt.Ok x1 x2) (o2 : Rt.Ok y1 y2) (hq : n / x2 = q) (hm : n % x2 = 0) (hr : x1 * q = r) (hz : Rt.roundS x1 x2 n = (x1, x2, 0)) (f1 : -ad ≤ 2 * (r * ad - an * n)) (f2 : 2 * (r * ad - an * n) ≤ ad) (f3 : 2 * (r * ad - an * n) = ad ∨ 2 * (r * ad - an * n) = -ad → r % 2 = 0) (hc : Rt.cmpS an ad bn bd = c) (gr : -1000000000001 ≤ r ∧ r ≤ 1000000000001) (hgt : 0 < c) (e : 2 * (r * ad - an * n) ≠ ad) (e' : 2 * (r * ad - an * n) ≠ -ad) :
    Calls Tryd.prog 8 #[.agg #[.int .i64 an, .int .i64 ad], .agg #[.int .i64 bn, .int .i64 bd], .int .i64 raw] w fun e w' => e = .returned (.bool true) ∧ Below w.heap.size w w' := by
  have HE := Lib.hid hE
  clear hE
  have e1 : (2 * (r * ad - an * n) == ad) = false := by rw [beq_eq_false_iff_ne]; exact e
  have e2 : (2 * (r * ad - an * n) == -ad) = false := by rw [beq_eq_false_iff_ne]; exact e'
  clear e e'
  have HA := Lib.hid ha
  have HB := Lib.hid hb
  obtain ⟨a1, a2, a3, a4, _⟩ := ha
  obtain ⟨b1, b2, b3, b4, _⟩ := hb
  obtain ⟨_, _, t1, t2, _⟩ := tdiv_facts (x := raw) (d := 1000) (by omega)
  have n1 : 1 ≤ n ∧ n ≤ 1000 := by omega
  have HN := Lib.hid hn
  have HX := Lib.hid hx
  have HY := Lib.hid hy
  have HZ := Lib.hid hz
  have HC := Lib.hid hc
  have O1 := Lib.hid o1
  obtain ⟨u1, u2, u3, u4, _⟩ := o1
  obtain ⟨v1, v2, v3, v4, _⟩ := o2
  have b7 := mulb gr.1 gr.2 a1 a2 (by omega)
  have b8 := mulb (a := an) (m := 1000000000) (by omega) (by omega) n1.1 n1.2 (by omega)
  clear hn hx hy hz hc f3
  go_enter Tryd.func8, Tryd.ntmps8
  go_wp2_with fail
  refine (head_any _ (HE.out.below (by repeat (first | exact Below.refl _ _ | assumption | refine below_drewN ?_ _ | refine Below.setCell ?_ (by first | (simp; done) | (simp; omega)) _ | refine Below.alloc ?_ (by first | (simp; done) | (simp; omega) | omega) _ | refine Below.drew ?_ | refine Below.trans ?_ (Below.mono (by assumption) (by first | (simp; done) | (simp; omega) | omega)))))).mono ?_
  rintro e w1 ⟨rfl, hb1⟩
  have hz1 := hb1.size
  (try simp at hz1)
  have l1_a : w.heap.size < w1.heap.size := by omega
  have a1_a : w1.cell? ⟨w.heap.size, 0, none⟩ = some (.int .i64 (an)) := cell_keep hb1 (by go_simp)
  have c1_a : w1.cell? ⟨w.heap.size, 1, none⟩ = some (.int .i64 (ad)) := cell_keep hb1 (by go_simp)
  have l1_b : w.heap.size + 1 < w1.heap.size := by omega
  have a1_b : w1.cell? ⟨w.heap.size + 1, 0, none⟩ = some (.int .i64 (bn)) := cell_keep hb1 (by go_simp)
  have c1_b : w1.cell? ⟨w.heap.size + 1, 1, none⟩ = some (.int .i64 (bd)) := cell_keep hb1 (by go_simp)
  have be1 : Below w.heap.size w w1 := (by repeat (first | exact Below.refl _ _ | assumption | refine below_drewN ?_ _ | refine Below.setCell ?_ (by first | (simp; done) | (simp; omega)) _ | refine Below.alloc ?_ (by first | (simp; done) | (simp; omega) | omega) _ | refine Below.drew ?_ | refine Below.trans ?_ (Below.mono (by assumption) (by first | (simp; done) | (simp; omega) | omega))))
  clear hb1
  go_wp2_with fail
  refine (valid_true _ _ _ HA.out).mono ?_
  rintro e w2 ⟨rfl, hb2⟩
  have hz2 := hb2.size
  (try simp at hz2)
  have bb2 : Below w1.heap.size w1 w2 := (by repeat (first | exact Below.refl _ _ | assumption | refine below_drewN ?_ _ | refine Below.setCell ?_ (by first | (simp; done) | (simp; omega)) _ | refine Below.alloc ?_ (by first | (simp; done) | (simp; omega) | omega) _ | refine Below.drew ?_ | refine Below.trans ?_ (Below.mono (by assumption) (by first | (simp; done) | (simp; omega) | omega))))
  have l2_a : w.heap.size < w2.heap.size := by omega
  have a2_a : w2.cell? ⟨w.heap.size, 0, none⟩ = some (.int .i64 (an)) := cell_keep bb2 a1_a
  have c2_a : w2.cell? ⟨w.heap.size, 1, none⟩ = some (.int .i64 (ad)) := cell_keep bb2 c1_a
  have l2_b : w.heap.size + 1 < w2.heap.size := by omega
  have a2_b : w2.cell? ⟨w.heap.size + 1, 0, none⟩ = some (.int .i64 (bn)) := cell_keep bb2 a1_b
  have c2_b : w2.cell? ⟨w.heap.size + 1, 1, none⟩ = some (.int .i64 (bd)) := cell_keep bb2 c1_b
  have be2 : Below w.heap.size w w2 := (by repeat (first | exact Below.refl _ _ | assumption | refine below_drewN ?_ _ | refine Below.setCell ?_ (by first | (simp; done) | (simp; omega)) _ | refine Below.alloc ?_ (by first | (simp; done) | (simp; omega) | omega) _ | refine Below.drew ?_ | refine Below.trans ?_ (Below.mono (by assumption) (by first | (simp; done) | (simp; omega) | omega))))
  clear hb2 bb2 be1 l1_a a1_a c1_a l1_b a1_b c1_b
  go_wp2_with fail
  refine (valid_true _ _ _ HB.out).mono ?_
  rintro e w3 ⟨rfl, hb3⟩
  have hz3 := hb3.size
  (try simp at hz3)
  have bb3 : Below w2.heap.size w2 w3 := (by repeat (first | exact Below.refl _ _ | assumption | refine below_drewN ?_ _ | refine Below.setCell ?_ (by first | (simp; done) | (simp; omega)) _ | refine Below.alloc ?_ (by first | (simp; done) | (simp; omega) | omega) _ | refine Below.drew ?_ | refine Below.trans ?_ (Below.mono (by assumption) (by first | (simp; done) | (simp; omega) | omega))))
  have l3_a : w.heap.size < w3.heap.size := by omega
  have a3_a : w3.cell? ⟨w.heap.size, 0, none⟩ = some (.int .i64 (an)) := cell_keep bb3 a2_a
  have c3_a : w3.cell? ⟨w.heap.size, 1, none⟩ = some (.int .i64 (ad)) := cell_keep bb3 c2_a
  have l3_b : w.heap.size + 1 < w3.heap.size := by omega
  have a3_b : w3.cell? ⟨w.heap.size + 1, 0, none⟩ = some (.int .i64 (bn)) := cell_keep bb3 a2_b
  have c3_b : w3.cell? ⟨w.heap.size + 1, 1, none⟩ = some (.int .i64 (bd)) := cell_keep bb3 c2_b
  have be3 : Below w.heap.size w w3 := (by repeat (first | exact Below.refl _ _ | assumption | refine below_drewN ?_ _ | refine Below.setCell ?_ (by first | (simp; done) | (simp; omega)) _ | refine Below.alloc ?_ (by first | (simp; done) | (simp; omega) | omega) _ | refine Below.drew ?_ | refine Below.trans ?_ (Below.mono (by assumption) (by first | (simp; done) | (simp; omega) | omega))))
  clear hb3 bb3 be2 l2_a a2_a c2_a l2_b a2_b c2_b
  go_wp2_with fail
  rw [HN.out]
  go_wp2_with fail
  refine (round_any an ad n _ (by omega) (by omega)).mono ?_
  rintro e w4 ⟨rfl, hb4⟩
  rw [HX.out]
  have hz4 := hb4.size
  (try simp at hz4)
  have bb4 : Below w3.heap.size w3 w4 := (by repeat (first | exact Below.refl _ _ | assumption | refine below_drewN ?_ _ | refine Below.setCell ?_ (by first | (simp; done) | (simp; omega)) _ | refine Below.alloc ?_ (by first | (simp; done) | (simp; omega) | omega) _ | refine Below.drew ?_ | refine Below.trans ?_ (Below.mono (by assumption) (by first | (simp; done) | (simp; omega) | omega))))
  have l4_a : w.heap.size < w4.heap.size := by omega
  have a4_a : w4.cell? ⟨w.heap.size, 0, none⟩ = some (.int .i64 (an)) := cell_keep bb4 a3_a
  have c4_a : w4.cell? ⟨w.heap.size, 1, none⟩ = some (.int .i64 (ad)) := cell_keep bb4 c3_a
  have l4_b : w.heap.size + 1 < w4.heap.size := by omega
  have a4_b : w4.cell? ⟨w.heap.size + 1, 0, none⟩ = some (.int .i64 (bn)) := cell_keep bb4 a3_b
  have c4_b : w4.cell? ⟨w.heap.size + 1, 1, none⟩ = some (.int .i64 (bd)) := cell_keep bb4 c3_b
  have be4 : Below w.heap.size w w4 := (by repeat (first | exact Below.refl _ _ | assumption | refine below_drewN ?_ _ | refine Below.setCell ?_ (by first | (simp; done) | (simp; omega)) _ | refine Below.alloc ?_ (by first | (simp; done) | (simp; omega) | omega) _ | refine Below.drew ?_ | refine Below.trans ?_ (Below.mono (by assumption) (by first | (simp; done) | (simp; omega) | omega))))
  clear hb4 bb4 be3 l3_a a3_a c3_a l3_b a3_b c3_b
  simp only [RV]
  go_wp2_with fail
  refine (round_any bn bd n _ (by omega) (by omega)).mono ?_
  rintro e w5 ⟨rfl, hb5⟩
  rw [HY.out]
  have hz5 := hb5.size
  (try simp at hz5)
  have bb5 : Below w4.heap.size w4 w5 := (by repeat (first | exact Below.refl _ _ | assumption | refine below_drewN ?_ _ | refine Below.setCell ?_ (by first | (simp; done) | (simp; omega)) _ | refine Below.alloc ?_ (by first | (simp; done) | (simp; omega) | omega) _ | refine Below.drew ?_ | refine Below.trans ?_ (Below.mono (by assumption) (by first | (simp; done) | (simp; omega) | omega))))
  have l5_a : w.heap.size < w5.heap.size := by omega
  have a5_a : w5.cell? ⟨w.heap.size, 0, none⟩ = some (.int .i64 (an)) := cell_keep bb5 a4_a
  have c5_a : w5.cell? ⟨w.heap.size, 1, none⟩ = some (.int .i64 (ad)) := cell_keep bb5 c4_a
  have l5_b : w.heap.size + 1 < w5.heap.size := by omega
  have a5_b : w5.cell? ⟨w.heap.size + 1, 0, none⟩ = some (.int .i64 (bn)) := cell_keep bb5 a4_b
  have c5_b : w5.cell? ⟨w.heap.size + 1, 1, none⟩ = some (.int .i64 (bd)) := cell_keep bb5 c4_b
  have l5_x : w4.heap.size < w5.heap.size := by omega
  have a5_x : w5.cell? ⟨w4.heap.size, 0, none⟩ = some (.int .i64 (x1)) := cell_keep hb5 (by go_simp)
  have c5_x : w5.cell? ⟨w4.heap.size, 1, none⟩ = some (.int .i64 (x2)) := cell_keep hb5 (by go_simp)
  have be5 : Below w.heap.size w w5 := (by repeat (first | exact Below.refl _ _ | assumption | refine below_drewN ?_ _ | refine Below.setCell ?_ (by first | (simp; done) | (simp; omega)) _ | refine Below.alloc ?_ (by first | (simp; done) | (simp; omega) | omega) _ | refine Below.drew ?_ | refine Below.trans ?_ (Below.mono (by assumption) (by first | (simp; done) | (simp; omega) | omega))))
  clear hb5 bb5 be4 l4_a a4_a c4_a l4_b a4_b c4_b
  simp only [RV]
  go_wp2_with fail
  refine (valid_true _ _ _ O1.out).mono ?_
  rintro e w6 ⟨rfl, hb6⟩
  have hz6 := hb6.size
  (try simp at hz6)
  have bb6 : Below w5.heap.size w5 w6 := (by repeat (first | exact Below.refl _ _ | assumption | refine below_drewN ?_ _ | refine Below.setCell ?_ (by first | (simp; done) | (simp; omega)) _ | refine Below.alloc ?_ (by first | (simp; done) | (simp; omega) | omega) _ | refine Below.drew ?_ | refine Below.trans ?_ (Below.mono (by assumption) (by first | (simp; done) | (simp; omega) | omega))))
  have l6_a : w.heap.size < w6.heap.size := by omega
  have a6_a : w6.cell? ⟨w.heap.size, 0, none⟩ = some (.int .i64 (an)) := cell_keep bb6 a5_a
  have c6_a : w6.cell? ⟨w.heap.size, 1, none⟩ = some (.int .i64 (ad)) := cell_keep bb6 c5_a
  have l6_b : w.heap.size + 1 < w6.heap.size := by omega
  have a6_b : w6.cell? ⟨w.heap.size + 1, 0, none⟩ = some (.int .i64 (bn)) := cell_keep bb6 a5_b
  have c6_b : w6.cell? ⟨w.heap.size + 1, 1, none⟩ = some (.int .i64 (bd)) := cell_keep bb6 c5_b
  have l6_x : w4.heap.size < w6.heap.size := by omega
  have a6_x : w6.cell? ⟨w4.heap.size, 0, none⟩ = some (.int .i64 (x1)) := cell_keep bb6 a5_x
  have c6_x : w6.cell? ⟨w4.heap.size, 1, none⟩ = some (.int .i64 (x2)) := cell_keep bb6 c5_x
  have l6_y : w5.heap.size < w6.heap.size := by omega
  have a6_y : w6.cell? ⟨w5.heap.size, 0, none⟩ = some (.int .i64 (y1)) := cell_keep hb6 (by go_simp)
  have c6_y : w6.cell? ⟨w5.heap.size, 1, none⟩ = some (.int .i64 (y2)) := cell_keep hb6 (by go_simp)
  have be6 : Below w.heap.size w w6 := (by repeat (first | exact Below.refl _ _ | assumption | refine below_drewN ?_ _ | refine Below.setCell ?_ (by first | (simp; done) | (simp; omega)) _ | refine Below.alloc ?_ (by first | (simp; done) | (simp; omega) | omega) _ | refine Below.drew ?_ | refine Below.trans ?_ (Below.mono (by assumption) (by first | (simp; done) | (simp; omega) | omega))))
  clear hb6 bb6 be5 l5_a a5_a c5_a l5_b a5_b c5_b l5_x a5_x c5_x
  go_wp2
  go_quiet (fail)
  go_wp2_with fail
  refine (round_any x1 x2 n _ (by omega) (by omega)).mono ?_
  rintro e w7 ⟨rfl, hb7⟩
  rw [HZ.out]
  have hz7 := hb7.size
  (try simp at hz7)
  have bb7 : Below w6.heap.size w6 w7 := (by repeat (first | exact Below.refl _ _ | assumption | refine below_drewN ?_ _ | refine Below.setCell ?_ (by first | (simp; done) | (simp; omega)) _ | refine Below.alloc ?_ (by first | (simp; done) | (simp; omega) | omega) _ | refine Below.drew ?_ | refine Below.trans ?_ (Below.mono (by assumption) (by first | (simp; done) | (simp; omega) | omega))))
  have l7_a : w.heap.size < w7.heap.size := by omega
  have a7_a : w7.cell? ⟨w.heap.size, 0, none⟩ = some (.int .i64 (an)) := cell_keep bb7 a6_a
  have c7_a : w7.cell? ⟨w.heap.size, 1, none⟩ = some (.int .i64 (ad)) := cell_keep bb7 c6_a
  have l7_b : w.heap.size + 1 < w7.heap.size := by omega
  have a7_b : w7.cell? ⟨w.heap.size + 1, 0, none⟩ = some (.int .i64 (bn)) := cell_keep bb7 a6_b
  have c7_b : w7.cell? ⟨w.heap.size + 1, 1, none⟩ = some (.int .i64 (bd)) := cell_keep bb7 c6_b
  have l7_x : w4.heap.size < w7.heap.size := by omega
  have a7_x : w7.cell? ⟨w4.heap.size, 0, none⟩ = some (.int .i64 (x1)) := cell_keep bb7 a6_x
  have c7_x : w7.cell? ⟨w4.heap.size, 1, none⟩ = some (.int .i64 (x2)) := cell_keep bb7 c6_x
  have l7_y : w5.heap.size < w7.heap.size := by omega
  have a7_y : w7.cell? ⟨w5.heap.size, 0, none⟩ = some (.int .i64 (y1)) := cell_keep bb7 a6_y
  have c7_y : w7.cell? ⟨w5.heap.size, 1, none⟩ = some (.int .i64 (y2)) := cell_keep bb7 c6_y
  have be7 : Below w.heap.size w w7 := (by repeat (first | exact Below.refl _ _ | assumption | refine below_drewN ?_ _ | refine Below.setCell ?_ (by first | (simp; done) | (simp; omega)) _ | refine Below.alloc ?_ (by first | (simp; done) | (simp; omega) | omega) _ | refine Below.drew ?_ | refine Below.trans ?_ (Below.mono (by assumption) (by first | (simp; done) | (simp; omega) | omega))))
  clear hb7 bb7 be6 l6_a a6_a c6_a l6_b a6_b c6_b l6_x a6_x c6_x l6_y a6_y c6_y
  simp only [RV]
  go_wp2_with fail
  refine (cmp_any an ad bn bd _ (by omega) (by omega) (by omega) (by omega)).mono ?_
  rintro e w8 ⟨rfl, hb8⟩
  rw [HC.out]
  have hz8 := hb8.size
  (try simp at hz8)
  have bb8 : Below w7.heap.size w7 w8 := (by repeat (first | exact Below.refl _ _ | assumption | refine below_drewN ?_ _ | refine Below.setCell ?_ (by first | (simp; done) | (simp; omega)) _ | refine Below.alloc ?_ (by first | (simp; done) | (simp; omega) | omega) _ | refine Below.drew ?_ | refine Below.trans ?_ (Below.mono (by assumption) (by first | (simp; done) | (simp; omega) | omega))))
  have l8_a : w.heap.size < w8.heap.size := by omega
  have a8_a : w8.cell? ⟨w.heap.size, 0, none⟩ = some (.int .i64 (an)) := cell_keep bb8 a7_a
  have c8_a : w8.cell? ⟨w.heap.size, 1, none⟩ = some (.int .i64 (ad)) := cell_keep bb8 c7_a
  have l8_b : w.heap.size + 1 < w8.heap.size := by omega
  have a8_b : w8.cell? ⟨w.heap.size + 1, 0, none⟩ = some (.int .i64 (bn)) := cell_keep bb8 a7_b
  have c8_b : w8.cell? ⟨w.heap.size + 1, 1, none⟩ = some (.int .i64 (bd)) := cell_keep bb8 c7_b
  have l8_x : w4.heap.size < w8.heap.size := by omega
  have a8_x : w8.cell? ⟨w4.heap.size, 0, none⟩ = some (.int .i64 (x1)) := cell_keep bb8 a7_x
  have c8_x : w8.cell? ⟨w4.heap.size, 1, none⟩ = some (.int .i64 (x2)) := cell_keep bb8 c7_x
  have l8_y : w5.heap.size < w8.heap.size := by omega
  have a8_y : w8.cell? ⟨w5.heap.size, 0, none⟩ = some (.int .i64 (y1)) := cell_keep bb8 a7_y
  have c8_y : w8.cell? ⟨w5.heap.size, 1, none⟩ = some (.int .i64 (y2)) := cell_keep bb8 c7_y
  have l8_z : w7.heap.size < w8.heap.size := by omega
  have a8_z : w8.cell? ⟨w7.heap.size, 0, none⟩ = some (.int .i64 (x1)) := cell_keep hb8 (by go_simp)
  have c8_z : w8.cell? ⟨w7.heap.size, 1, none⟩ = some (.int .i64 (x2)) := cell_keep hb8 (by go_simp)
  have be8 : Below w.heap.size w w8 := (by repeat (first | exact Below.refl _ _ | assumption | refine below_drewN ?_ _ | refine Below.setCell ?_ (by first | (simp; done) | (simp; omega)) _ | refine Below.alloc ?_ (by first | (simp; done) | (simp; omega) | omega) _ | refine Below.drew ?_ | refine Below.trans ?_ (Below.mono (by assumption) (by first | (simp; done) | (simp; omega) | omega))))
  clear hb8 bb8 be7 l7_a a7_a c7_a l7_b a7_b c7_b l7_x a7_x c7_x l7_y a7_y c7_y
  go_wp2
  go_ret
  exact ⟨rfl, (by repeat (first | exact Below.refl _ _ | assumption | refine below_drewN ?_ _ | refine Below.setCell ?_ (by first | (simp; done) | (simp; omega)) _ | refine Below.alloc ?_ (by first | (simp; done) | (simp; omega) | omega) _ | refine Below.drew ?_ | refine Below.trans ?_ (Below.mono (by assumption) (by first | (simp; done) | (simp; omega) | omega))))⟩
set_option maxRecDepth 100000 in
set_option maxHeartbeats 4000000 in
theorem rr_le_c (an ad bn bd raw : Int) (w : World) (hE : Env w) (ha : Rt.Ok an ad) (hb : Rt.Ok bn bd) (g1 : max an (-an) ≤ 1000000000) (g2 : max bn (-bn) ≤ 1000000000) (n r q x1 x2 y1 y2 c : Int) (hn : 1 + max (raw.tmod 1000) (-(raw.tmod 1000)) = n) (hx : Rt.roundS an ad n = (x1, x2, 0)) (hy : Rt.roundS bn bd n = (y1, y2, 0)) (o1 : Rt.Ok x1 x2) (o2 : Rt.Ok y1 y2) (hq : n / x2 = q) (hm : n % x2 = 0) (hr : x1 * q = r) (hz : Rt.roundS x1 x2 n = (x1, x2, 0)) (f1 : -ad ≤ 2 * (r * ad - an * n)) (f2 : 2 * (r * ad - an * n) ≤ ad) (f3 : 2 * (r * ad - an * n) = ad ∨ 2 * (r * ad - an * n) = -ad → r % 2 = 0) (hc : Rt.cmpS an ad bn bd = c) (gr : -1000000000001 ≤ r ∧ r ≤ 1000000000001) (hgt : c ≤ 0) (dd : Int) (hd : Rt.cmpS x1 x2 y1 y2 = dd) (hle : dd ≤ 0) (e : 2 * (r * ad - an * n) ≠ ad) (e' : 2 * (r * ad - an * n) ≠ -ad) :
    Calls Tryd.prog 8 #[.agg #[.int .i64 an, .int .i64 ad], .agg #[.int .i64 bn, .int .i64 bd], .int .i64 raw] w fun e w' => e = .returned (.bool true) ∧ Below w.heap.size w w' := by
  have HE := Lib.hid hE
  clear hE
  have e1 : (2 * (r * ad - an * n) == ad) = false := by rw [beq_eq_false_iff_ne]; exact e
  have e2 : (2 * (r * ad - an * n) == -ad) = false := by rw [beq_eq_false_iff_ne]; exact e'
  clear e e'
  have HA := Lib.hid ha
  have HB := Lib.hid hb
  obtain ⟨a1, a2, a3, a4, _⟩ := ha
  obtain ⟨b1, b2, b3, b4, _⟩ := hb
  obtain ⟨_, _, t1, t2, _⟩ := tdiv_facts (x := raw) (d := 1000) (by omega)
  have n1 : 1 ≤ n ∧ n ≤ 1000 := by omega
  have HN := Lib.hid hn
  have HX := Lib.hid hx
  have HY := Lib.hid hy
  have HZ := Lib.hid hz
  have HC := Lib.hid hc
  have O1 := Lib.hid o1
  obtain ⟨u1, u2, u3, u4, _⟩ := o1
  obtain ⟨v1, v2, v3, v4, _⟩ := o2
  have b7 := mulb gr.1 gr.2 a1 a2 (by omega)
  have b8 := mulb (a := an) (m := 1000000000) (by omega) (by omega) n1.1 n1.2 (by omega)
  have HD := Lib.hid hd
  clear hd
  clear hn hx hy hz hc f3
  go_enter Tryd.func8, Tryd.ntmps8
  go_wp2_with fail
  refine (head_any _ (HE.out.below (by repeat (first | exact Below.refl _ _ | assumption | refine below_drewN ?_ _ | refine Below.setCell ?_ (by first | (simp; done) | (simp; omega)) _ | refine Below.alloc ?_ (by first | (simp; done) | (simp; omega) | omega) _ | refine Below.drew ?_ | refine Below.trans ?_ (Below.mono (by assumption) (by first | (simp; done) | (simp; omega) | omega)))))).mono ?_
  rintro e w1 ⟨rfl, hb1⟩
  have hz1 := hb1.size
  (try simp at hz1)
  have l1_a : w.heap.size < w1.heap.size := by omega
  have a1_a : w1.cell? ⟨w.heap.size, 0, none⟩ = some (.int .i64 (an)) := cell_keep hb1 (by go_simp)
  have c1_a : w1.cell? ⟨w.heap.size, 1, none⟩ = some (.int .i64 (ad)) := cell_keep hb1 (by go_simp)
  have l1_b : w.heap.size + 1 < w1.heap.size := by omega
  have a1_b : w1.cell? ⟨w.heap.size + 1, 0, none⟩ = some (.int .i64 (bn)) := cell_keep hb1 (by go_simp)
  have c1_b : w1.cell? ⟨w.heap.size + 1, 1, none⟩ = some (.int .i64 (bd)) := cell_keep hb1 (by go_simp)
  have be1 : Below w.heap.size w w1 := (by repeat (first | exact Below.refl _ _ | assumption | refine below_drewN ?_ _ | refine Below.setCell ?_ (by first | (simp; done) | (simp; omega)) _ | refine Below.alloc ?_ (by first | (simp; done) | (simp; omega) | omega) _ | refine Below.drew ?_ | refine Below.trans ?_ (Below.mono (by assumption) (by first | (simp; done) | (simp; omega) | omega))))
  clear hb1
  go_wp2_with fail
  refine (valid_true _ _ _ HA.out).mono ?_
  rintro e w2 ⟨rfl, hb2⟩
  have hz2 := hb2.size
  (try simp at hz2)
  have bb2 : Below w1.heap.size w1 w2 := (by repeat (first | exact Below.refl _ _ | assumption | refine below_drewN ?_ _ | refine Below.setCell ?_ (by first | (simp; done) | (simp; omega)) _ | refine Below.alloc ?_ (by first | (simp; done) | (simp; omega) | omega) _ | refine Below.drew ?_ | refine Below.trans ?_ (Below.mono (by assumption) (by first | (simp; done) | (simp; omega) | omega))))
  have l2_a : w.heap.size < w2.heap.size := by omega
  have a2_a : w2.cell? ⟨w.heap.size, 0, none⟩ = some (.int .i64 (an)) := cell_keep bb2 a1_a
  have c2_a : w2.cell? ⟨w.heap.size, 1, none⟩ = some (.int .i64 (ad)) := cell_keep bb2 c1_a
  have l2_b : w.heap.size + 1 < w2.heap.size := by omega
  have a2_b : w2.cell? ⟨w.heap.size + 1, 0, none⟩ = some (.int .i64 (bn)) := cell_keep bb2 a1_b
  have c2_b : w2.cell? ⟨w.heap.size + 1, 1, none⟩ = some (.int .i64 (bd)) := cell_keep bb2 c1_b
  have be2 : Below w.heap.size w w2 := (by repeat (first | exact Below.refl _ _ | assumption | refine below_drewN ?_ _ | refine Below.setCell ?_ (by first | (simp; done) | (simp; omega)) _ | refine Below.alloc ?_ (by first | (simp; done) | (simp; omega) | omega) _ | refine Below.drew ?_ | refine Below.trans ?_ (Below.mono (by assumption) (by first | (simp; done) | (simp; omega) | omega))))
  clear hb2 bb2 be1 l1_a a1_a c1_a l1_b a1_b c1_b
  go_wp2_with fail
  refine (valid_true _ _ _ HB.out).mono ?_
  rintro e w3 ⟨rfl, hb3⟩
  have hz3 := hb3.size
  (try simp at hz3)
  have bb3 : Below w2.heap.size w2 w3 := (by repeat (first | exact Below.refl _ _ | assumption | refine below_drewN ?_ _ | refine Below.setCell ?_ (by first | (simp; done) | (simp; omega)) _ | refine Below.alloc ?_ (by first | (simp; done) | (simp; omega) | omega) _ | refine Below.drew ?_ | refine Below.trans ?_ (Below.mono (by assumption) (by first | (simp; done) | (simp; omega) | omega))))
  have l3_a : w.heap.size < w3.heap.size := by omega
  have a3_a : w3.cell? ⟨w.heap.size, 0, none⟩ = some (.int .i64 (an)) := cell_keep bb3 a2_a
  have c3_a : w3.cell? ⟨w.heap.size, 1, none⟩ = some (.int .i64 (ad)) := cell_keep bb3 c2_a
  have l3_b : w.heap.size + 1 < w3.heap.size := by omega
  have a3_b : w3.cell? ⟨w.heap.size + 1, 0, none⟩ = some (.int .i64 (bn)) := cell_keep bb3 a2_b
  have c3_b : w3.cell? ⟨w.heap.size + 1, 1, none⟩ = some (.int .i64 (bd)) := cell_keep bb3 c2_b
  have be3 : Below w.heap.size w w3 := (by repeat (first | exact Below.refl _ _ | assumption | refine below_drewN ?_ _ | refine Below.setCell ?_ (by first | (simp; done) | (simp; omega)) _ | refine Below.alloc ?_ (by first | (simp; done) | (simp; omega) | omega) _ | refine Below.drew ?_ | refine Below.trans ?_ (Below.mono (by assumption) (by first | (simp; done) | (simp; omega) | omega))))
  clear hb3 bb3 be2 l2_a a2_a c2_a l2_b a2_b c2_b
  go_wp2_with fail
  rw [HN.out]
  go_wp2_with fail
  refine (round_any an ad n _ (by omega) (by omega)).mono ?_
  rintro e w4 ⟨rfl, hb4⟩
  rw [HX.out]
  have hz4 := hb4.size
  (try simp at hz4)
  have bb4 : Below w3.heap.size w3 w4 := (by repeat (first | exact Below.refl _ _ | assumption | refine below_drewN ?_ _ | refine Below.setCell ?_ (by first | (simp; done) | (simp; omega)) _ | refine Below.alloc ?_ (by first | (simp; done) | (simp; omega) | omega) _ | refine Below.drew ?_ | refine Below.trans ?_ (Below.mono (by assumption) (by first | (simp; done) | (simp; omega) | omega))))
  have l4_a : w.heap.size < w4.heap.size := by omega
  have a4_a : w4.cell? ⟨w.heap.size, 0, none⟩ = some (.int .i64 (an)) := cell_keep bb4 a3_a
  have c4_a : w4.cell? ⟨w.heap.size, 1, none⟩ = some (.int .i64 (ad)) := cell_keep bb4 c3_a
  have l4_b : w.heap.size + 1 < w4.heap.size := by omega
  have a4_b : w4.cell? ⟨w.heap.size + 1, 0, none⟩ = some (.int .i64 (bn)) := cell_keep bb4 a3_b
  have c4_b : w4.cell? ⟨w.heap.size + 1, 1, none⟩ = some (.int .i64 (bd)) := cell_keep bb4 c3_b
  have be4 : Below w.heap.size w w4 := (by repeat (first | exact Below.refl _ _ | assumption | refine below_drewN ?_ _ | refine Below.setCell ?_ (by first | (simp; done) | (simp; omega)) _ | refine Below.alloc ?_ (by first | (simp; done) | (simp; omega) | omega) _ | refine Below.drew ?_ | refine Below.trans ?_ (Below.mono (by assumption) (by first | (simp; done) | (simp; omega) | omega))))
  clear hb4 bb4 be3 l3_a a3_a c3_a l3_b a3_b c3_b
  simp only [RV]
  go_wp2_with fail
  refine (round_any bn bd n _ (by omega) (by omega)).mono ?_
  rintro e w5 ⟨rfl, hb5⟩
  rw [HY.out]
  have hz5 := hb5.size
  (try simp at hz5)
  have bb5 : Below w4.heap.size w4 w5 := (by repeat (first | exact Below.refl _ _ | assumption | refine below_drewN ?_ _ | refine Below.setCell ?_ (by first | (simp; done) | (simp; omega)) _ | refine Below.alloc ?_ (by first | (simp; done) | (simp; omega) | omega) _ | refine Below.drew ?_ | refine Below.trans ?_ (Below.mono (by assumption) (by first | (simp; done) | (simp; omega) | omega))))
  have l5_a : w.heap.size < w5.heap.size := by omega
  have a5_a : w5.cell? ⟨w.heap.size, 0, none⟩ = some (.int .i64 (an)) := cell_keep bb5 a4_a
  have c5_a : w5.cell? ⟨w.heap.size, 1, none⟩ = some (.int .i64 (ad)) := cell_keep bb5 c4_a
  have l5_b : w.heap.size + 1 < w5.heap.size := by omega
  have a5_b : w5.cell? ⟨w.heap.size + 1, 0, none⟩ = some (.int .i64 (bn)) := cell_keep bb5 a4_b
  have c5_b : w5.cell? ⟨w.heap.size + 1, 1, none⟩ = some (.int .i64 (bd)) := cell_keep bb5 c4_b
  have l5_x : w4.heap.size < w5.heap.size := by omega
  have a5_x : w5.cell? ⟨w4.heap.size, 0, none⟩ = some (.int .i64 (x1)) := cell_keep hb5 (by go_simp)
  have c5_x : w5.cell? ⟨w4.heap.size, 1, none⟩ = some (.int .i64 (x2)) := cell_keep hb5 (by go_simp)
  have be5 : Below w.heap.size w w5 := (by repeat (first | exact Below.refl _ _ | assumption | refine below_drewN ?_ _ | refine Below.setCell ?_ (by first | (simp; done) | (simp; omega)) _ | refine Below.alloc ?_ (by first | (simp; done) | (simp; omega) | omega) _ | refine Below.drew ?_ | refine Below.trans ?_ (Below.mono (by assumption) (by first | (simp; done) | (simp; omega) | omega))))
  clear hb5 bb5 be4 l4_a a4_a c4_a l4_b a4_b c4_b
  simp only [RV]
  go_wp2_with fail
  refine (valid_true _ _ _ O1.out).mono ?_
  rintro e w6 ⟨rfl, hb6⟩
  have hz6 := hb6.size
  (try simp at hz6)
  have bb6 : Below w5.heap.size w5 w6 := (by repeat (first | exact Below.refl _ _ | assumption | refine below_drewN ?_ _ | refine Below.setCell ?_ (by first | (simp; done) | (simp; omega)) _ | refine Below.alloc ?_ (by first | (simp; done) | (simp; omega) | omega) _ | refine Below.drew ?_ | refine Below.trans ?_ (Below.mono (by assumption) (by first | (simp; done) | (simp; omega) | omega))))
  have l6_a : w.heap.size < w6.heap.size := by omega
  have a6_a : w6.cell? ⟨w.heap.size, 0, none⟩ = some (.int .i64 (an)) := cell_keep bb6 a5_a
  have c6_a : w6.cell? ⟨w.heap.size, 1, none⟩ = some (.int .i64 (ad)) := cell_keep bb6 c5_a
  have l6_b : w.heap.size + 1 < w6.heap.size := by omega
  have a6_b : w6.cell? ⟨w.heap.size + 1, 0, none⟩ = some (.int .i64 (bn)) := cell_keep bb6 a5_b
  have c6_b : w6.cell? ⟨w.heap.size + 1, 1, none⟩ = some (.int .i64 (bd)) := cell_keep bb6 c5_b
  have l6_x : w4.heap.size < w6.heap.size := by omega
  have a6_x : w6.cell? ⟨w4.heap.size, 0, none⟩ = some (.int .i64 (x1)) := cell_keep bb6 a5_x
  have c6_x : w6.cell? ⟨w4.heap.size, 1, none⟩ = some (.int .i64 (x2)) := cell_keep bb6 c5_x
  have l6_y : w5.heap.size < w6.heap.size := by omega
  have a6_y : w6.cell? ⟨w5.heap.size, 0, none⟩ = some (.int .i64 (y1)) := cell_keep hb6 (by go_simp)
  have c6_y : w6.cell? ⟨w5.heap.size, 1, none⟩ = some (.int .i64 (y2)) := cell_keep hb6 (by go_simp)
  have be6 : Below w.heap.size w w6 := (by repeat (first | exact Below.refl _ _ | assumption | refine below_drewN ?_ _ | refine Below.setCell ?_ (by first | (simp; done) | (simp; omega)) _ | refine Below.alloc ?_ (by first | (simp; done) | (simp; omega) | omega) _ | refine Below.drew ?_ | refine Below.trans ?_ (Below.mono (by assumption) (by first | (simp; done) | (simp; omega) | omega))))
  clear hb6 bb6 be5 l5_a a5_a c5_a l5_b a5_b c5_b l5_x a5_x c5_x
  go_wp2
  go_quiet (fail)
  go_wp2_with fail
  refine (round_any x1 x2 n _ (by omega) (by omega)).mono ?_
  rintro e w7 ⟨rfl, hb7⟩
  rw [HZ.out]
  have hz7 := hb7.size
  (try simp at hz7)
  have bb7 : Below w6.heap.size w6 w7 := (by repeat (first | exact Below.refl _ _ | assumption | refine below_drewN ?_ _ | refine Below.setCell ?_ (by first | (simp; done) | (simp; omega)) _ | refine Below.alloc ?_ (by first | (simp; done) | (simp; omega) | omega) _ | refine Below.drew ?_ | refine Below.trans ?_ (Below.mono (by assumption) (by first | (simp; done) | (simp; omega) | omega))))
  have l7_a : w.heap.size < w7.heap.size := by omega
  have a7_a : w7.cell? ⟨w.heap.size, 0, none⟩ = some (.int .i64 (an)) := cell_keep bb7 a6_a
  have c7_a : w7.cell? ⟨w.heap.size, 1, none⟩ = some (.int .i64 (ad)) := cell_keep bb7 c6_a
  have l7_b : w.heap.size + 1 < w7.heap.size := by omega
  have a7_b : w7.cell? ⟨w.heap.size + 1, 0, none⟩ = some (.int .i64 (bn)) := cell_keep bb7 a6_b
  have c7_b : w7.cell? ⟨w.heap.size + 1, 1, none⟩ = some (.int .i64 (bd)) := cell_keep bb7 c6_b
  have l7_x : w4.heap.size < w7.heap.size := by omega
  have a7_x : w7.cell? ⟨w4.heap.size, 0, none⟩ = some (.int .i64 (x1)) := cell_keep bb7 a6_x
  have c7_x : w7.cell? ⟨w4.heap.size, 1, none⟩ = some (.int .i64 (x2)) := cell_keep bb7 c6_x
  have l7_y : w5.heap.size < w7.heap.size := by omega
  have a7_y : w7.cell? ⟨w5.heap.size, 0, none⟩ = some (.int .i64 (y1)) := cell_keep bb7 a6_y
  have c7_y : w7.cell? ⟨w5.heap.size, 1, none⟩ = some (.int .i64 (y2)) := cell_keep bb7 c6_y
  have be7 : Below w.heap.size w w7 := (by repeat (first | exact Below.refl _ _ | assumption | refine below_drewN ?_ _ | refine Below.setCell ?_ (by first | (simp; done) | (simp; omega)) _ | refine Below.alloc ?_ (by first | (simp; done) | (simp; omega) | omega) _ | refine Below.drew ?_ | refine Below.trans ?_ (Below.mono (by assumption) (by first | (simp; done) | (simp; omega) | omega))))
  clear hb7 bb7 be6 l6_a a6_a c6_a l6_b a6_b c6_b l6_x a6_x c6_x l6_y a6_y c6_y
  simp only [RV]
  go_wp2_with fail
  refine (cmp_any an ad bn bd _ (by omega) (by omega) (by omega) (by omega)).mono ?_
  rintro e w8 ⟨rfl, hb8⟩
  rw [HC.out]
  have hz8 := hb8.size
  (try simp at hz8)
  have bb8 : Below w7.heap.size w7 w8 := (by repeat (first | exact Below.refl _ _ | assumption | refine below_drewN ?_ _ | refine Below.setCell ?_ (by first | (simp; done) | (simp; omega)) _ | refine Below.alloc ?_ (by first | (simp; done) | (simp; omega) | omega) _ | refine Below.drew ?_ | refine Below.trans ?_ (Below.mono (by assumption) (by first | (simp; done) | (simp; omega) | omega))))
  have l8_a : w.heap.size < w8.heap.size := by omega
  have a8_a : w8.cell? ⟨w.heap.size, 0, none⟩ = some (.int .i64 (an)) := cell_keep bb8 a7_a
  have c8_a : w8.cell? ⟨w.heap.size, 1, none⟩ = some (.int .i64 (ad)) := cell_keep bb8 c7_a
  have l8_b : w.heap.size + 1 < w8.heap.size := by omega
  have a8_b : w8.cell? ⟨w.heap.size + 1, 0, none⟩ = some (.int .i64 (bn)) := cell_keep bb8 a7_b
  have c8_b : w8.cell? ⟨w.heap.size + 1, 1, none⟩ = some (.int .i64 (bd)) := cell_keep bb8 c7_b
  have l8_x : w4.heap.size < w8.heap.size := by omega
  have a8_x : w8.cell? ⟨w4.heap.size, 0, none⟩ = some (.int .i64 (x1)) := cell_keep bb8 a7_x
  have c8_x : w8.cell? ⟨w4.heap.size, 1, none⟩ = some (.int .i64 (x2)) := cell_keep bb8 c7_x
  have l8_y : w5.heap.size < w8.heap.size := by omega
  have a8_y : w8.cell? ⟨w5.heap.size, 0, none⟩ = some (.int .i64 (y1)) := cell_keep bb8 a7_y
  have c8_y : w8.cell? ⟨w5.heap.size, 1, none⟩ = some (.int .i64 (y2)) := cell_keep bb8 c7_y
  have l8_z : w7.heap.size < w8.heap.size := by omega
  have a8_z : w8.cell? ⟨w7.heap.size, 0, none⟩ = some (.int .i64 (x1)) := cell_keep hb8 (by go_simp)
  have c8_z : w8.cell? ⟨w7.heap.size, 1, none⟩ = some (.int .i64 (x2)) := cell_keep hb8 (by go_simp)
  have be8 : Below w.heap.size w w8 := (by repeat (first | exact Below.refl _ _ | assumption | refine below_drewN ?_ _ | refine Below.setCell ?_ (by first | (simp; done) | (simp; omega)) _ | refine Below.alloc ?_ (by first | (simp; done) | (simp; omega) | omega) _ | refine Below.drew ?_ | refine Below.trans ?_ (Below.mono (by assumption) (by first | (simp; done) | (simp; omega) | omega))))
  clear hb8 bb8 be7 l7_a a7_a c7_a l7_b a7_b c7_b l7_x a7_x c7_x l7_y a7_y c7_y
  go_wp2_with fail
  refine (cmp_any x1 x2 y1 y2 _ (by omega) (by omega) (by omega) (by omega)).mono ?_
  rintro e w9 ⟨rfl, hb9⟩
  rw [HD.out]
  have hz9 := hb9.size
  (try simp at hz9)
  have bb9 : Below w8.heap.size w8 w9 := (by repeat (first | exact Below.refl _ _ | assumption | refine below_drewN ?_ _ | refine Below.setCell ?_ (by first | (simp; done) | (simp; omega)) _ | refine Below.alloc ?_ (by first | (simp; done) | (simp; omega) | omega) _ | refine Below.drew ?_ | refine Below.trans ?_ (Below.mono (by assumption) (by first | (simp; done) | (simp; omega) | omega))))
  have l9_a : w.heap.size < w9.heap.size := by omega
  have a9_a : w9.cell? ⟨w.heap.size, 0, none⟩ = some (.int .i64 (an)) := cell_keep bb9 a8_a
  have c9_a : w9.cell? ⟨w.heap.size, 1, none⟩ = some (.int .i64 (ad)) := cell_keep bb9 c8_a
  have l9_b : w.heap.size + 1 < w9.heap.size := by omega
  have a9_b : w9.cell? ⟨w.heap.size + 1, 0, none⟩ = some (.int .i64 (bn)) := cell_keep bb9 a8_b
  have c9_b : w9.cell? ⟨w.heap.size + 1, 1, none⟩ = some (.int .i64 (bd)) := cell_keep bb9 c8_b
  have l9_x : w4.heap.size < w9.heap.size := by omega
  have a9_x : w9.cell? ⟨w4.heap.size, 0, none⟩ = some (.int .i64 (x1)) := cell_keep bb9 a8_x
  have c9_x : w9.cell? ⟨w4.heap.size, 1, none⟩ = some (.int .i64 (x2)) := cell_keep bb9 c8_x
  have l9_y : w5.heap.size < w9.heap.size := by omega
  have a9_y : w9.cell? ⟨w5.heap.size, 0, none⟩ = some (.int .i64 (y1)) := cell_keep bb9 a8_y
  have c9_y : w9.cell? ⟨w5.heap.size, 1, none⟩ = some (.int .i64 (y2)) := cell_keep bb9 c8_y
  have l9_z : w7.heap.size < w9.heap.size := by omega
  have a9_z : w9.cell? ⟨w7.heap.size, 0, none⟩ = some (.int .i64 (x1)) := cell_keep bb9 a8_z
  have c9_z : w9.cell? ⟨w7.heap.size, 1, none⟩ = some (.int .i64 (x2)) := cell_keep bb9 c8_z
  have be9 : Below w.heap.size w w9 := (by repeat (first | exact Below.refl _ _ | assumption | refine below_drewN ?_ _ | refine Below.setCell ?_ (by first | (simp; done) | (simp; omega)) _ | refine Below.alloc ?_ (by first | (simp; done) | (simp; omega) | omega) _ | refine Below.drew ?_ | refine Below.trans ?_ (Below.mono (by assumption) (by first | (simp; done) | (simp; omega) | omega))))
  clear hb9 bb9 be8 l8_a a8_a c8_a l8_b a8_b c8_b l8_x a8_x c8_x l8_y a8_y c8_y l8_z a8_z c8_z
  go_wp2
  go_ret
  exact ⟨rfl, (by repeat (first | exact Below.refl _ _ | assumption | refine below_drewN ?_ _ | refine Below.setCell ?_ (by first | (simp; done) | (simp; omega)) _ | refine Below.alloc ?_ (by first | (simp; done) | (simp; omega) | omega) _ | refine Below.drew ?_ | refine Below.trans ?_ (Below.mono (by assumption) (by first | (simp; done) | (simp; omega) | omega))))⟩
end Go.Proofs.YtnfbagihbgmpfaaDoor

/- RatioField: the walk of the law on some of its ways. -/
import Derived.Test.YtnfbagihbgmpfaaDoorRtS
namespace Go.Proofs.YtnfbagihbgmpfaaDoor
open Go.RowKit

set_option maxRecDepth 100000 in
set_option maxHeartbeats 8000000 in
theorem fi_oononn (an ad bn bd cn cd : Int) (w : World) (hE : Env w) (ha : Rt.Ok an ad) (hb : Rt.Ok bn bd) (hc : Rt.Ok cn cd) (s1 s2 p1 p2 u1 u2 v1 v2 ve m1 m2 me x1 x2 xe : Int) (hS1 : Rt.addS an ad bn bd = (s1, s2, 0)) (hS2 : Rt.addS bn bd an ad = (s1, s2, 0)) (hP1 : Rt.mulS an ad bn bd = (p1, p2, 0)) (hP2 : Rt.mulS bn bd an ad = (p1, p2, 0)) (hU : Rt.addS bn bd cn cd = (u1, u2, 0)) (hV : Rt.mulS bn bd cn cd = (v1, v2, ve)) (hW : Rt.mulS an ad cn cd = (m1, m2, me)) (hSB : Rt.subS s1 s2 bn bd = (an, ad, 0)) (hX1 : Rt.addS s1 s2 cn cd = (x1, x2, xe)) (hX2 : Rt.addS an ad u1 u2 = (x1, x2, xe)) (os : Rt.Ok s1 s2) (op : Rt.Ok p1 p2) (ou : Rt.Ok u1 u2) (nv : ¬ ve = 0) (nm : ¬ me = 0) (hz : bn = 0) :
    Calls Tryd.prog 5 #[.agg #[.int .i64 an, .int .i64 ad], .agg #[.int .i64 bn, .int .i64 bd], .agg #[.int .i64 cn, .int .i64 cd]] w fun e w' => e = .returned (.bool true) ∧ Below w.heap.size w w' := by
  have HE := Lib.hid hE
  clear hE
  have HA := Lib.hid ha
  have HB := Lib.hid hb
  have HC := Lib.hid hc
  obtain ⟨a1, a2, a3, a4, _⟩ := ha
  obtain ⟨b1, b2, b3, b4, _⟩ := hb
  obtain ⟨c1, c2, c3, c4, _⟩ := hc
  have HS1 := Lib.hid hS1
  have HS2 := Lib.hid hS2
  have HP1 := Lib.hid hP1
  have HP2 := Lib.hid hP2
  have HU := Lib.hid hU
  have HV := Lib.hid hV
  have HW := Lib.hid hW
  have HSB := Lib.hid hSB
  have HX1 := Lib.hid hX1
  have HX2 := Lib.hid hX2
  clear hS1 hS2 hP1 hP2 hU hV hW hSB hX1 hX2
  obtain ⟨_, _, os3, os4, _⟩ := os
  obtain ⟨_, _, op3, op4, _⟩ := op
  obtain ⟨_, _, ou3, ou4, _⟩ := ou
  have nv1 : (ve == 0) = false := by simpa using nv
  have nv2 : (ve != 0) = true := by simpa using nv
  have nm1 : (me == 0) = false := by simpa using nm
  have nm2 : (me != 0) = true := by simpa using nm
  have bz1 : (bn == 0) = true := by simp [hz]
  have bz2 : (bn != 0) = false := by simp [hz]
  clear hz
  go_enter Tryd.func5, Tryd.ntmps5
  go_wp2_with fail
  refine (head_any _ (HE.out.below (by repeat (first | exact Below.refl _ _ | assumption | refine below_drewN ?_ _ | refine Below.setCell ?_ (by first | (simp; done) | (simp; omega)) _ | refine Below.alloc ?_ (by first | (simp; done) | (simp; omega) | omega) _ | refine Below.drew ?_ | refine Below.trans ?_ (Below.mono (by assumption) (by first | (simp; done) | (simp; omega) | omega)))))).mono ?_
  rintro e w1 ⟨rfl, hb1⟩
  have hz1 := hb1.size
  (try simp at hz1)
  have l1_a : w.heap.size < w1.heap.size := by omega
  have a1_a : w1.cell? ⟨w.heap.size, 0, none⟩ = some (.int .i64 (an)) := cell_keep hb1 (by go_simp)
  have c1_a : w1.cell? ⟨w.heap.size, 1, none⟩ = some (.int .i64 (ad)) := cell_keep hb1 (by go_simp)
  have l1_b : w.heap.size + 1 < w1.heap.size := by omega
  have a1_b : w1.cell? ⟨w.heap.size + 1, 0, none⟩ = some (.int .i64 (bn)) := cell_keep hb1 (by go_simp)
  have c1_b : w1.cell? ⟨w.heap.size + 1, 1, none⟩ = some (.int .i64 (bd)) := cell_keep hb1 (by go_simp)
  have l1_c : w.heap.size + 1 + 1 < w1.heap.size := by omega
  have a1_c : w1.cell? ⟨w.heap.size + 1 + 1, 0, none⟩ = some (.int .i64 (cn)) := cell_keep hb1 (by go_simp)
  have c1_c : w1.cell? ⟨w.heap.size + 1 + 1, 1, none⟩ = some (.int .i64 (cd)) := cell_keep hb1 (by go_simp)
  have be1 : Below w.heap.size w w1 := (by repeat (first | exact Below.refl _ _ | assumption | refine below_drewN ?_ _ | refine Below.setCell ?_ (by first | (simp; done) | (simp; omega)) _ | refine Below.alloc ?_ (by first | (simp; done) | (simp; omega) | omega) _ | refine Below.drew ?_ | refine Below.trans ?_ (Below.mono (by assumption) (by first | (simp; done) | (simp; omega) | omega))))
  clear hb1
  go_wp2_with fail
  refine (valid_true _ _ _ HA.out).mono ?_
  rintro e w2 ⟨rfl, hb2⟩
  have hz2 := hb2.size
  (try simp at hz2)
  have bb2 : Below w1.heap.size w1 w2 := (by repeat (first | exact Below.refl _ _ | assumption | refine below_drewN ?_ _ | refine Below.setCell ?_ (by first | (simp; done) | (simp; omega)) _ | refine Below.alloc ?_ (by first | (simp; done) | (simp; omega) | omega) _ | refine Below.drew ?_ | refine Below.trans ?_ (Below.mono (by assumption) (by first | (simp; done) | (simp; omega) | omega))))
  have l2_a : w.heap.size < w2.heap.size := by omega
  have a2_a : w2.cell? ⟨w.heap.size, 0, none⟩ = some (.int .i64 (an)) := cell_keep bb2 a1_a
  have c2_a : w2.cell? ⟨w.heap.size, 1, none⟩ = some (.int .i64 (ad)) := cell_keep bb2 c1_a
  have l2_b : w.heap.size + 1 < w2.heap.size := by omega
  have a2_b : w2.cell? ⟨w.heap.size + 1, 0, none⟩ = some (.int .i64 (bn)) := cell_keep bb2 a1_b
  have c2_b : w2.cell? ⟨w.heap.size + 1, 1, none⟩ = some (.int .i64 (bd)) := cell_keep bb2 c1_b
  have l2_c : w.heap.size + 1 + 1 < w2.heap.size := by omega
  have a2_c : w2.cell? ⟨w.heap.size + 1 + 1, 0, none⟩ = some (.int .i64 (cn)) := cell_keep bb2 a1_c
  have c2_c : w2.cell? ⟨w.heap.size + 1 + 1, 1, none⟩ = some (.int .i64 (cd)) := cell_keep bb2 c1_c
  have be2 : Below w.heap.size w w2 := (by repeat (first | exact Below.refl _ _ | assumption | refine below_drewN ?_ _ | refine Below.setCell ?_ (by first | (simp; done) | (simp; omega)) _ | refine Below.alloc ?_ (by first | (simp; done) | (simp; omega) | omega) _ | refine Below.drew ?_ | refine Below.trans ?_ (Below.mono (by assumption) (by first | (simp; done) | (simp; omega) | omega))))
  clear hb2 bb2 be1 l1_a a1_a c1_a l1_b a1_b c1_b l1_c a1_c c1_c
  go_wp2_with fail
  refine (valid_true _ _ _ HB.out).mono ?_
  rintro e w3 ⟨rfl, hb3⟩
  have hz3 := hb3.size
  (try simp at hz3)
  have bb3 : Below w2.heap.size w2 w3 := (by repeat (first | exact Below.refl _ _ | assumption | refine below_drewN ?_ _ | refine Below.setCell ?_ (by first | (simp; done) | (simp; omega)) _ | refine Below.alloc ?_ (by first | (simp; done) | (simp; omega) | omega) _ | refine Below.drew ?_ | refine Below.trans ?_ (Below.mono (by assumption) (by first | (simp; done) | (simp; omega) | omega))))
  have l3_a : w.heap.size < w3.heap.size := by omega
  have a3_a : w3.cell? ⟨w.heap.size, 0, none⟩ = some (.int .i64 (an)) := cell_keep bb3 a2_a
  have c3_a : w3.cell? ⟨w.heap.size, 1, none⟩ = some (.int .i64 (ad)) := cell_keep bb3 c2_a
  have l3_b : w.heap.size + 1 < w3.heap.size := by omega
  have a3_b : w3.cell? ⟨w.heap.size + 1, 0, none⟩ = some (.int .i64 (bn)) := cell_keep bb3 a2_b
  have c3_b : w3.cell? ⟨w.heap.size + 1, 1, none⟩ = some (.int .i64 (bd)) := cell_keep bb3 c2_b
  have l3_c : w.heap.size + 1 + 1 < w3.heap.size := by omega
  have a3_c : w3.cell? ⟨w.heap.size + 1 + 1, 0, none⟩ = some (.int .i64 (cn)) := cell_keep bb3 a2_c
  have c3_c : w3.cell? ⟨w.heap.size + 1 + 1, 1, none⟩ = some (.int .i64 (cd)) := cell_keep bb3 c2_c
  have be3 : Below w.heap.size w w3 := (by repeat (first | exact Below.refl _ _ | assumption | refine below_drewN ?_ _ | refine Below.setCell ?_ (by first | (simp; done) | (simp; omega)) _ | refine Below.alloc ?_ (by first | (simp; done) | (simp; omega) | omega) _ | refine Below.drew ?_ | refine Below.trans ?_ (Below.mono (by assumption) (by first | (simp; done) | (simp; omega) | omega))))
  clear hb3 bb3 be2 l2_a a2_a c2_a l2_b a2_b c2_b l2_c a2_c c2_c
  go_wp2_with fail
  refine (valid_true _ _ _ HC.out).mono ?_
  rintro e w4 ⟨rfl, hb4⟩
  have hz4 := hb4.size
  (try simp at hz4)
  have bb4 : Below w3.heap.size w3 w4 := (by repeat (first | exact Below.refl _ _ | assumption | refine below_drewN ?_ _ | refine Below.setCell ?_ (by first | (simp; done) | (simp; omega)) _ | refine Below.alloc ?_ (by first | (simp; done) | (simp; omega) | omega) _ | refine Below.drew ?_ | refine Below.trans ?_ (Below.mono (by assumption) (by first | (simp; done) | (simp; omega) | omega))))
  have l4_a : w.heap.size < w4.heap.size := by omega
  have a4_a : w4.cell? ⟨w.heap.size, 0, none⟩ = some (.int .i64 (an)) := cell_keep bb4 a3_a
  have c4_a : w4.cell? ⟨w.heap.size, 1, none⟩ = some (.int .i64 (ad)) := cell_keep bb4 c3_a
  have l4_b : w.heap.size + 1 < w4.heap.size := by omega
  have a4_b : w4.cell? ⟨w.heap.size + 1, 0, none⟩ = some (.int .i64 (bn)) := cell_keep bb4 a3_b
  have c4_b : w4.cell? ⟨w.heap.size + 1, 1, none⟩ = some (.int .i64 (bd)) := cell_keep bb4 c3_b
  have l4_c : w.heap.size + 1 + 1 < w4.heap.size := by omega
  have a4_c : w4.cell? ⟨w.heap.size + 1 + 1, 0, none⟩ = some (.int .i64 (cn)) := cell_keep bb4 a3_c
  have c4_c : w4.cell? ⟨w.heap.size + 1 + 1, 1, none⟩ = some (.int .i64 (cd)) := cell_keep bb4 c3_c
  have be4 : Below w.heap.size w w4 := (by repeat (first | exact Below.refl _ _ | assumption | refine below_drewN ?_ _ | refine Below.setCell ?_ (by first | (simp; done) | (simp; omega)) _ | refine Below.alloc ?_ (by first | (simp; done) | (simp; omega) | omega) _ | refine Below.drew ?_ | refine Below.trans ?_ (Below.mono (by assumption) (by first | (simp; done) | (simp; omega) | omega))))
  clear hb4 bb4 be3 l3_a a3_a c3_a l3_b a3_b c3_b l3_c a3_c c3_c
  go_wp2_with fail
  refine (add_any an ad bn bd _ (by omega) (by omega) (by omega) (by omega)).mono ?_
  rintro e w5 ⟨rfl, hb5⟩
  rw [HS1.out]
  have hz5 := hb5.size
  (try simp at hz5)
  have bb5 : Below w4.heap.size w4 w5 := (by repeat (first | exact Below.refl _ _ | assumption | refine below_drewN ?_ _ | refine Below.setCell ?_ (by first | (simp; done) | (simp; omega)) _ | refine Below.alloc ?_ (by first | (simp; done) | (simp; omega) | omega) _ | refine Below.drew ?_ | refine Below.trans ?_ (Below.mono (by assumption) (by first | (simp; done) | (simp; omega) | omega))))
  have l5_a : w.heap.size < w5.heap.size := by omega
  have a5_a : w5.cell? ⟨w.heap.size, 0, none⟩ = some (.int .i64 (an)) := cell_keep bb5 a4_a
  have c5_a : w5.cell? ⟨w.heap.size, 1, none⟩ = some (.int .i64 (ad)) := cell_keep bb5 c4_a
  have l5_b : w.heap.size + 1 < w5.heap.size := by omega
  have a5_b : w5.cell? ⟨w.heap.size + 1, 0, none⟩ = some (.int .i64 (bn)) := cell_keep bb5 a4_b
  have c5_b : w5.cell? ⟨w.heap.size + 1, 1, none⟩ = some (.int .i64 (bd)) := cell_keep bb5 c4_b
  have l5_c : w.heap.size + 1 + 1 < w5.heap.size := by omega
  have a5_c : w5.cell? ⟨w.heap.size + 1 + 1, 0, none⟩ = some (.int .i64 (cn)) := cell_keep bb5 a4_c
  have c5_c : w5.cell? ⟨w.heap.size + 1 + 1, 1, none⟩ = some (.int .i64 (cd)) := cell_keep bb5 c4_c
  have be5 : Below w.heap.size w w5 := (by repeat (first | exact Below.refl _ _ | assumption | refine below_drewN ?_ _ | refine Below.setCell ?_ (by first | (simp; done) | (simp; omega)) _ | refine Below.alloc ?_ (by first | (simp; done) | (simp; omega) | omega) _ | refine Below.drew ?_ | refine Below.trans ?_ (Below.mono (by assumption) (by first | (simp; done) | (simp; omega) | omega))))
  clear hb5 bb5 be4 l4_a a4_a c4_a l4_b a4_b c4_b l4_c a4_c c4_c
  simp only [RV]
  go_wp2_with fail
  refine (add_any bn bd an ad _ (by omega) (by omega) (by omega) (by omega)).mono ?_
  rintro e w6 ⟨rfl, hb6⟩
  rw [HS2.out]
  have hz6 := hb6.size
  (try simp at hz6)
  have bb6 : Below w5.heap.size w5 w6 := (by repeat (first | exact Below.refl _ _ | assumption | refine below_drewN ?_ _ | refine Below.setCell ?_ (by first | (simp; done) | (simp; omega)) _ | refine Below.alloc ?_ (by first | (simp; done) | (simp; omega) | omega) _ | refine Below.drew ?_ | refine Below.trans ?_ (Below.mono (by assumption) (by first | (simp; done) | (simp; omega) | omega))))
  have l6_a : w.heap.size < w6.heap.size := by omega
  have a6_a : w6.cell? ⟨w.heap.size, 0, none⟩ = some (.int .i64 (an)) := cell_keep bb6 a5_a
  have c6_a : w6.cell? ⟨w.heap.size, 1, none⟩ = some (.int .i64 (ad)) := cell_keep bb6 c5_a
  have l6_b : w.heap.size + 1 < w6.heap.size := by omega
  have a6_b : w6.cell? ⟨w.heap.size + 1, 0, none⟩ = some (.int .i64 (bn)) := cell_keep bb6 a5_b
  have c6_b : w6.cell? ⟨w.heap.size + 1, 1, none⟩ = some (.int .i64 (bd)) := cell_keep bb6 c5_b
  have l6_c : w.heap.size + 1 + 1 < w6.heap.size := by omega
  have a6_c : w6.cell? ⟨w.heap.size + 1 + 1, 0, none⟩ = some (.int .i64 (cn)) := cell_keep bb6 a5_c
  have c6_c : w6.cell? ⟨w.heap.size + 1 + 1, 1, none⟩ = some (.int .i64 (cd)) := cell_keep bb6 c5_c
  have l6_s : w5.heap.size < w6.heap.size := by omega
  have a6_s : w6.cell? ⟨w5.heap.size, 0, none⟩ = some (.int .i64 (s1)) := cell_keep hb6 (by go_simp)
  have c6_s : w6.cell? ⟨w5.heap.size, 1, none⟩ = some (.int .i64 (s2)) := cell_keep hb6 (by go_simp)
  have be6 : Below w.heap.size w w6 := (by repeat (first | exact Below.refl _ _ | assumption | refine below_drewN ?_ _ | refine Below.setCell ?_ (by first | (simp; done) | (simp; omega)) _ | refine Below.alloc ?_ (by first | (simp; done) | (simp; omega) | omega) _ | refine Below.drew ?_ | refine Below.trans ?_ (Below.mono (by assumption) (by first | (simp; done) | (simp; omega) | omega))))
  clear hb6 bb6 be5 l5_a a5_a c5_a l5_b a5_b c5_b l5_c a5_c c5_c
  simp only [RV]
  go_wp2_with fail
  refine (mul_any an ad bn bd _ (by omega) (by omega) (by omega) (by omega)).mono ?_
  rintro e w7 ⟨rfl, hb7⟩
  rw [HP1.out]
  have hz7 := hb7.size
  (try simp at hz7)
  have bb7 : Below w6.heap.size w6 w7 := (by repeat (first | exact Below.refl _ _ | assumption | refine below_drewN ?_ _ | refine Below.setCell ?_ (by first | (simp; done) | (simp; omega)) _ | refine Below.alloc ?_ (by first | (simp; done) | (simp; omega) | omega) _ | refine Below.drew ?_ | refine Below.trans ?_ (Below.mono (by assumption) (by first | (simp; done) | (simp; omega) | omega))))
  have l7_a : w.heap.size < w7.heap.size := by omega
  have a7_a : w7.cell? ⟨w.heap.size, 0, none⟩ = some (.int .i64 (an)) := cell_keep bb7 a6_a
  have c7_a : w7.cell? ⟨w.heap.size, 1, none⟩ = some (.int .i64 (ad)) := cell_keep bb7 c6_a
  have l7_b : w.heap.size + 1 < w7.heap.size := by omega
  have a7_b : w7.cell? ⟨w.heap.size + 1, 0, none⟩ = some (.int .i64 (bn)) := cell_keep bb7 a6_b
  have c7_b : w7.cell? ⟨w.heap.size + 1, 1, none⟩ = some (.int .i64 (bd)) := cell_keep bb7 c6_b
  have l7_c : w.heap.size + 1 + 1 < w7.heap.size := by omega
  have a7_c : w7.cell? ⟨w.heap.size + 1 + 1, 0, none⟩ = some (.int .i64 (cn)) := cell_keep bb7 a6_c
  have c7_c : w7.cell? ⟨w.heap.size + 1 + 1, 1, none⟩ = some (.int .i64 (cd)) := cell_keep bb7 c6_c
  have l7_s : w5.heap.size < w7.heap.size := by omega
  have a7_s : w7.cell? ⟨w5.heap.size, 0, none⟩ = some (.int .i64 (s1)) := cell_keep bb7 a6_s
  have c7_s : w7.cell? ⟨w5.heap.size, 1, none⟩ = some (.int .i64 (s2)) := cell_keep bb7 c6_s
  have l7_t : w6.heap.size < w7.heap.size := by omega
  have a7_t : w7.cell? ⟨w6.heap.size, 0, none⟩ = some (.int .i64 (s1)) := cell_keep hb7 (by go_simp)
  have c7_t : w7.cell? ⟨w6.heap.size, 1, none⟩ = some (.int .i64 (s2)) := cell_keep hb7 (by go_simp)
  have be7 : Below w.heap.size w w7 := (by repeat (first | exact Below.refl _ _ | assumption | refine below_drewN ?_ _ | refine Below.setCell ?_ (by first | (simp; done) | (simp; omega)) _ | refine Below.alloc ?_ (by first | (simp; done) | (simp; omega) | omega) _ | refine Below.drew ?_ | refine Below.trans ?_ (Below.mono (by assumption) (by first | (simp; done) | (simp; omega) | omega))))
  clear hb7 bb7 be6 l6_a a6_a c6_a l6_b a6_b c6_b l6_c a6_c c6_c l6_s a6_s c6_s
  simp only [RV]
  go_wp2_with fail
  refine (mul_any bn bd an ad _ (by omega) (by omega) (by omega) (by omega)).mono ?_
  rintro e w8 ⟨rfl, hb8⟩
  rw [HP2.out]
  have hz8 := hb8.size
  (try simp at hz8)
  have bb8 : Below w7.heap.size w7 w8 := (by repeat (first | exact Below.refl _ _ | assumption | refine below_drewN ?_ _ | refine Below.setCell ?_ (by first | (simp; done) | (simp; omega)) _ | refine Below.alloc ?_ (by first | (simp; done) | (simp; omega) | omega) _ | refine Below.drew ?_ | refine Below.trans ?_ (Below.mono (by assumption) (by first | (simp; done) | (simp; omega) | omega))))
  have l8_a : w.heap.size < w8.heap.size := by omega
  have a8_a : w8.cell? ⟨w.heap.size, 0, none⟩ = some (.int .i64 (an)) := cell_keep bb8 a7_a
  have c8_a : w8.cell? ⟨w.heap.size, 1, none⟩ = some (.int .i64 (ad)) := cell_keep bb8 c7_a
  have l8_b : w.heap.size + 1 < w8.heap.size := by omega
  have a8_b : w8.cell? ⟨w.heap.size + 1, 0, none⟩ = some (.int .i64 (bn)) := cell_keep bb8 a7_b
  have c8_b : w8.cell? ⟨w.heap.size + 1, 1, none⟩ = some (.int .i64 (bd)) := cell_keep bb8 c7_b
  have l8_c : w.heap.size + 1 + 1 < w8.heap.size := by omega
  have a8_c : w8.cell? ⟨w.heap.size + 1 + 1, 0, none⟩ = some (.int .i64 (cn)) := cell_keep bb8 a7_c
  have c8_c : w8.cell? ⟨w.heap.size + 1 + 1, 1, none⟩ = some (.int .i64 (cd)) := cell_keep bb8 c7_c
  have l8_s : w5.heap.size < w8.heap.size := by omega
  have a8_s : w8.cell? ⟨w5.heap.size, 0, none⟩ = some (.int .i64 (s1)) := cell_keep bb8 a7_s
  have c8_s : w8.cell? ⟨w5.heap.size, 1, none⟩ = some (.int .i64 (s2)) := cell_keep bb8 c7_s
  have l8_t : w6.heap.size < w8.heap.size := by omega
  have a8_t : w8.cell? ⟨w6.heap.size, 0, none⟩ = some (.int .i64 (s1)) := cell_keep bb8 a7_t
  have c8_t : w8.cell? ⟨w6.heap.size, 1, none⟩ = some (.int .i64 (s2)) := cell_keep bb8 c7_t
  have l8_p : w7.heap.size < w8.heap.size := by omega
  have a8_p : w8.cell? ⟨w7.heap.size, 0, none⟩ = some (.int .i64 (p1)) := cell_keep hb8 (by go_simp)
  have c8_p : w8.cell? ⟨w7.heap.size, 1, none⟩ = some (.int .i64 (p2)) := cell_keep hb8 (by go_simp)
  have be8 : Below w.heap.size w w8 := (by repeat (first | exact Below.refl _ _ | assumption | refine below_drewN ?_ _ | refine Below.setCell ?_ (by first | (simp; done) | (simp; omega)) _ | refine Below.alloc ?_ (by first | (simp; done) | (simp; omega) | omega) _ | refine Below.drew ?_ | refine Below.trans ?_ (Below.mono (by assumption) (by first | (simp; done) | (simp; omega) | omega))))
  clear hb8 bb8 be7 l7_a a7_a c7_a l7_b a7_b c7_b l7_c a7_c c7_c l7_s a7_s c7_s l7_t a7_t c7_t
  simp only [RV]
  go_wp2_with fail
  refine (sub_any s1 s2 bn bd _ (by omega) (by omega) (by omega) (by omega)).mono ?_
  rintro e w9 ⟨rfl, hb9⟩
  rw [HSB.out]
  have hz9 := hb9.size
  (try simp at hz9)
  have bb9 : Below w8.heap.size w8 w9 := (by repeat (first | exact Below.refl _ _ | assumption | refine below_drewN ?_ _ | refine Below.setCell ?_ (by first | (simp; done) | (simp; omega)) _ | refine Below.alloc ?_ (by first | (simp; done) | (simp; omega) | omega) _ | refine Below.drew ?_ | refine Below.trans ?_ (Below.mono (by assumption) (by first | (simp; done) | (simp; omega) | omega))))
  have l9_a : w.heap.size < w9.heap.size := by omega
  have a9_a : w9.cell? ⟨w.heap.size, 0, none⟩ = some (.int .i64 (an)) := cell_keep bb9 a8_a
  have c9_a : w9.cell? ⟨w.heap.size, 1, none⟩ = some (.int .i64 (ad)) := cell_keep bb9 c8_a
  have l9_b : w.heap.size + 1 < w9.heap.size := by omega
  have a9_b : w9.cell? ⟨w.heap.size + 1, 0, none⟩ = some (.int .i64 (bn)) := cell_keep bb9 a8_b
  have c9_b : w9.cell? ⟨w.heap.size + 1, 1, none⟩ = some (.int .i64 (bd)) := cell_keep bb9 c8_b
  have l9_c : w.heap.size + 1 + 1 < w9.heap.size := by omega
  have a9_c : w9.cell? ⟨w.heap.size + 1 + 1, 0, none⟩ = some (.int .i64 (cn)) := cell_keep bb9 a8_c
  have c9_c : w9.cell? ⟨w.heap.size + 1 + 1, 1, none⟩ = some (.int .i64 (cd)) := cell_keep bb9 c8_c
  have l9_s : w5.heap.size < w9.heap.size := by omega
  have a9_s : w9.cell? ⟨w5.heap.size, 0, none⟩ = some (.int .i64 (s1)) := cell_keep bb9 a8_s
  have c9_s : w9.cell? ⟨w5.heap.size, 1, none⟩ = some (.int .i64 (s2)) := cell_keep bb9 c8_s
  have l9_p : w7.heap.size < w9.heap.size := by omega
  have a9_p : w9.cell? ⟨w7.heap.size, 0, none⟩ = some (.int .i64 (p1)) := cell_keep bb9 a8_p
  have c9_p : w9.cell? ⟨w7.heap.size, 1, none⟩ = some (.int .i64 (p2)) := cell_keep bb9 c8_p
  have be9 : Below w.heap.size w w9 := (by repeat (first | exact Below.refl _ _ | assumption | refine below_drewN ?_ _ | refine Below.setCell ?_ (by first | (simp; done) | (simp; omega)) _ | refine Below.alloc ?_ (by first | (simp; done) | (simp; omega) | omega) _ | refine Below.drew ?_ | refine Below.trans ?_ (Below.mono (by assumption) (by first | (simp; done) | (simp; omega) | omega))))
  clear hb9 bb9 be8 l8_a a8_a c8_a l8_b a8_b c8_b l8_c a8_c c8_c l8_s a8_s c8_s l8_t a8_t c8_t l8_p a8_p c8_p
  simp only [RV]
  go_wp2_with fail
  refine (add_any bn bd cn cd _ (by omega) (by omega) (by omega) (by omega)).mono ?_
  rintro e w10 ⟨rfl, hb10⟩
  rw [HU.out]
  have hz10 := hb10.size
  (try simp at hz10)
  have bb10 : Below w9.heap.size w9 w10 := (by repeat (first | exact Below.refl _ _ | assumption | refine below_drewN ?_ _ | refine Below.setCell ?_ (by first | (simp; done) | (simp; omega)) _ | refine Below.alloc ?_ (by first | (simp; done) | (simp; omega) | omega) _ | refine Below.drew ?_ | refine Below.trans ?_ (Below.mono (by assumption) (by first | (simp; done) | (simp; omega) | omega))))
  have l10_a : w.heap.size < w10.heap.size := by omega
  have a10_a : w10.cell? ⟨w.heap.size, 0, none⟩ = some (.int .i64 (an)) := cell_keep bb10 a9_a
  have c10_a : w10.cell? ⟨w.heap.size, 1, none⟩ = some (.int .i64 (ad)) := cell_keep bb10 c9_a
  have l10_b : w.heap.size + 1 < w10.heap.size := by omega
  have a10_b : w10.cell? ⟨w.heap.size + 1, 0, none⟩ = some (.int .i64 (bn)) := cell_keep bb10 a9_b
  have c10_b : w10.cell? ⟨w.heap.size + 1, 1, none⟩ = some (.int .i64 (bd)) := cell_keep bb10 c9_b
  have l10_c : w.heap.size + 1 + 1 < w10.heap.size := by omega
  have a10_c : w10.cell? ⟨w.heap.size + 1 + 1, 0, none⟩ = some (.int .i64 (cn)) := cell_keep bb10 a9_c
  have c10_c : w10.cell? ⟨w.heap.size + 1 + 1, 1, none⟩ = some (.int .i64 (cd)) := cell_keep bb10 c9_c
  have l10_s : w5.heap.size < w10.heap.size := by omega
  have a10_s : w10.cell? ⟨w5.heap.size, 0, none⟩ = some (.int .i64 (s1)) := cell_keep bb10 a9_s
  have c10_s : w10.cell? ⟨w5.heap.size, 1, none⟩ = some (.int .i64 (s2)) := cell_keep bb10 c9_s
  have l10_p : w7.heap.size < w10.heap.size := by omega
  have a10_p : w10.cell? ⟨w7.heap.size, 0, none⟩ = some (.int .i64 (p1)) := cell_keep bb10 a9_p
  have c10_p : w10.cell? ⟨w7.heap.size, 1, none⟩ = some (.int .i64 (p2)) := cell_keep bb10 c9_p
  have be10 : Below w.heap.size w w10 := (by repeat (first | exact Below.refl _ _ | assumption | refine below_drewN ?_ _ | refine Below.setCell ?_ (by first | (simp; done) | (simp; omega)) _ | refine Below.alloc ?_ (by first | (simp; done) | (simp; omega) | omega) _ | refine Below.drew ?_ | refine Below.trans ?_ (Below.mono (by assumption) (by first | (simp; done) | (simp; omega) | omega))))
  clear hb10 bb10 be9 l9_a a9_a c9_a l9_b a9_b c9_b l9_c a9_c c9_c l9_s a9_s c9_s l9_p a9_p c9_p
  simp only [RV]
  go_wp2_with fail
  refine (mul_any bn bd cn cd _ (by omega) (by omega) (by omega) (by omega)).mono ?_
  rintro e w11 ⟨rfl, hb11⟩
  rw [HV.out]
  have hz11 := hb11.size
  (try simp at hz11)
  have bb11 : Below w10.heap.size w10 w11 := (by repeat (first | exact Below.refl _ _ | assumption | refine below_drewN ?_ _ | refine Below.setCell ?_ (by first | (simp; done) | (simp; omega)) _ | refine Below.alloc ?_ (by first | (simp; done) | (simp; omega) | omega) _ | refine Below.drew ?_ | refine Below.trans ?_ (Below.mono (by assumption) (by first | (simp; done) | (simp; omega) | omega))))
  have l11_a : w.heap.size < w11.heap.size := by omega
  have a11_a : w11.cell? ⟨w.heap.size, 0, none⟩ = some (.int .i64 (an)) := cell_keep bb11 a10_a
  have c11_a : w11.cell? ⟨w.heap.size, 1, none⟩ = some (.int .i64 (ad)) := cell_keep bb11 c10_a
  have l11_b : w.heap.size + 1 < w11.heap.size := by omega
  have a11_b : w11.cell? ⟨w.heap.size + 1, 0, none⟩ = some (.int .i64 (bn)) := cell_keep bb11 a10_b
  have c11_b : w11.cell? ⟨w.heap.size + 1, 1, none⟩ = some (.int .i64 (bd)) := cell_keep bb11 c10_b
  have l11_c : w.heap.size + 1 + 1 < w11.heap.size := by omega
  have a11_c : w11.cell? ⟨w.heap.size + 1 + 1, 0, none⟩ = some (.int .i64 (cn)) := cell_keep bb11 a10_c
  have c11_c : w11.cell? ⟨w.heap.size + 1 + 1, 1, none⟩ = some (.int .i64 (cd)) := cell_keep bb11 c10_c
  have l11_s : w5.heap.size < w11.heap.size := by omega
  have a11_s : w11.cell? ⟨w5.heap.size, 0, none⟩ = some (.int .i64 (s1)) := cell_keep bb11 a10_s
  have c11_s : w11.cell? ⟨w5.heap.size, 1, none⟩ = some (.int .i64 (s2)) := cell_keep bb11 c10_s
  have l11_p : w7.heap.size < w11.heap.size := by omega
  have a11_p : w11.cell? ⟨w7.heap.size, 0, none⟩ = some (.int .i64 (p1)) := cell_keep bb11 a10_p
  have c11_p : w11.cell? ⟨w7.heap.size, 1, none⟩ = some (.int .i64 (p2)) := cell_keep bb11 c10_p
  have l11_u : w10.heap.size < w11.heap.size := by omega
  have a11_u : w11.cell? ⟨w10.heap.size, 0, none⟩ = some (.int .i64 (u1)) := cell_keep hb11 (by go_simp)
  have c11_u : w11.cell? ⟨w10.heap.size, 1, none⟩ = some (.int .i64 (u2)) := cell_keep hb11 (by go_simp)
  have be11 : Below w.heap.size w w11 := (by repeat (first | exact Below.refl _ _ | assumption | refine below_drewN ?_ _ | refine Below.setCell ?_ (by first | (simp; done) | (simp; omega)) _ | refine Below.alloc ?_ (by first | (simp; done) | (simp; omega) | omega) _ | refine Below.drew ?_ | refine Below.trans ?_ (Below.mono (by assumption) (by first | (simp; done) | (simp; omega) | omega))))
  clear hb11 bb11 be10 l10_a a10_a c10_a l10_b a10_b c10_b l10_c a10_c c10_c l10_s a10_s c10_s l10_p a10_p c10_p
  simp only [RV]
  go_wp2_with fail
  refine (mul_any an ad cn cd _ (by omega) (by omega) (by omega) (by omega)).mono ?_
  rintro e w12 ⟨rfl, hb12⟩
  rw [HW.out]
  have hz12 := hb12.size
  (try simp at hz12)
  have bb12 : Below w11.heap.size w11 w12 := (by repeat (first | exact Below.refl _ _ | assumption | refine below_drewN ?_ _ | refine Below.setCell ?_ (by first | (simp; done) | (simp; omega)) _ | refine Below.alloc ?_ (by first | (simp; done) | (simp; omega) | omega) _ | refine Below.drew ?_ | refine Below.trans ?_ (Below.mono (by assumption) (by first | (simp; done) | (simp; omega) | omega))))
  have l12_a : w.heap.size < w12.heap.size := by omega
  have a12_a : w12.cell? ⟨w.heap.size, 0, none⟩ = some (.int .i64 (an)) := cell_keep bb12 a11_a
  have c12_a : w12.cell? ⟨w.heap.size, 1, none⟩ = some (.int .i64 (ad)) := cell_keep bb12 c11_a
  have l12_b : w.heap.size + 1 < w12.heap.size := by omega
  have a12_b : w12.cell? ⟨w.heap.size + 1, 0, none⟩ = some (.int .i64 (bn)) := cell_keep bb12 a11_b
  have c12_b : w12.cell? ⟨w.heap.size + 1, 1, none⟩ = some (.int .i64 (bd)) := cell_keep bb12 c11_b
  have l12_c : w.heap.size + 1 + 1 < w12.heap.size := by omega
  have a12_c : w12.cell? ⟨w.heap.size + 1 + 1, 0, none⟩ = some (.int .i64 (cn)) := cell_keep bb12 a11_c
  have c12_c : w12.cell? ⟨w.heap.size + 1 + 1, 1, none⟩ = some (.int .i64 (cd)) := cell_keep bb12 c11_c
  have l12_s : w5.heap.size < w12.heap.size := by omega
  have a12_s : w12.cell? ⟨w5.heap.size, 0, none⟩ = some (.int .i64 (s1)) := cell_keep bb12 a11_s
  have c12_s : w12.cell? ⟨w5.heap.size, 1, none⟩ = some (.int .i64 (s2)) := cell_keep bb12 c11_s
  have l12_p : w7.heap.size < w12.heap.size := by omega
  have a12_p : w12.cell? ⟨w7.heap.size, 0, none⟩ = some (.int .i64 (p1)) := cell_keep bb12 a11_p
  have c12_p : w12.cell? ⟨w7.heap.size, 1, none⟩ = some (.int .i64 (p2)) := cell_keep bb12 c11_p
  have l12_u : w10.heap.size < w12.heap.size := by omega
  have a12_u : w12.cell? ⟨w10.heap.size, 0, none⟩ = some (.int .i64 (u1)) := cell_keep bb12 a11_u
  have c12_u : w12.cell? ⟨w10.heap.size, 1, none⟩ = some (.int .i64 (u2)) := cell_keep bb12 c11_u
  have l12_v : w11.heap.size < w12.heap.size := by omega
  have a12_v : w12.cell? ⟨w11.heap.size, 0, none⟩ = some (.int .i64 (v1)) := cell_keep hb12 (by go_simp)
  have c12_v : w12.cell? ⟨w11.heap.size, 1, none⟩ = some (.int .i64 (v2)) := cell_keep hb12 (by go_simp)
  have be12 : Below w.heap.size w w12 := (by repeat (first | exact Below.refl _ _ | assumption | refine below_drewN ?_ _ | refine Below.setCell ?_ (by first | (simp; done) | (simp; omega)) _ | refine Below.alloc ?_ (by first | (simp; done) | (simp; omega) | omega) _ | refine Below.drew ?_ | refine Below.trans ?_ (Below.mono (by assumption) (by first | (simp; done) | (simp; omega) | omega))))
  clear hb12 bb12 be11 l11_a a11_a c11_a l11_b a11_b c11_b l11_c a11_c c11_c l11_s a11_s c11_s l11_p a11_p c11_p l11_u a11_u c11_u
  simp only [RV]
  go_wp2_with fail
  refine (add_any s1 s2 cn cd _ (by omega) (by omega) (by omega) (by omega)).mono ?_
  rintro e w13 ⟨rfl, hb13⟩
  rw [HX1.out]
  have hz13 := hb13.size
  (try simp at hz13)
  have bb13 : Below w12.heap.size w12 w13 := (by repeat (first | exact Below.refl _ _ | assumption | refine below_drewN ?_ _ | refine Below.setCell ?_ (by first | (simp; done) | (simp; omega)) _ | refine Below.alloc ?_ (by first | (simp; done) | (simp; omega) | omega) _ | refine Below.drew ?_ | refine Below.trans ?_ (Below.mono (by assumption) (by first | (simp; done) | (simp; omega) | omega))))
  have l13_a : w.heap.size < w13.heap.size := by omega
  have a13_a : w13.cell? ⟨w.heap.size, 0, none⟩ = some (.int .i64 (an)) := cell_keep bb13 a12_a
  have c13_a : w13.cell? ⟨w.heap.size, 1, none⟩ = some (.int .i64 (ad)) := cell_keep bb13 c12_a
  have l13_b : w.heap.size + 1 < w13.heap.size := by omega
  have a13_b : w13.cell? ⟨w.heap.size + 1, 0, none⟩ = some (.int .i64 (bn)) := cell_keep bb13 a12_b
  have c13_b : w13.cell? ⟨w.heap.size + 1, 1, none⟩ = some (.int .i64 (bd)) := cell_keep bb13 c12_b
  have l13_c : w.heap.size + 1 + 1 < w13.heap.size := by omega
  have a13_c : w13.cell? ⟨w.heap.size + 1 + 1, 0, none⟩ = some (.int .i64 (cn)) := cell_keep bb13 a12_c
  have c13_c : w13.cell? ⟨w.heap.size + 1 + 1, 1, none⟩ = some (.int .i64 (cd)) := cell_keep bb13 c12_c
  have l13_s : w5.heap.size < w13.heap.size := by omega
  have a13_s : w13.cell? ⟨w5.heap.size, 0, none⟩ = some (.int .i64 (s1)) := cell_keep bb13 a12_s
  have c13_s : w13.cell? ⟨w5.heap.size, 1, none⟩ = some (.int .i64 (s2)) := cell_keep bb13 c12_s
  have l13_p : w7.heap.size < w13.heap.size := by omega
  have a13_p : w13.cell? ⟨w7.heap.size, 0, none⟩ = some (.int .i64 (p1)) := cell_keep bb13 a12_p
  have c13_p : w13.cell? ⟨w7.heap.size, 1, none⟩ = some (.int .i64 (p2)) := cell_keep bb13 c12_p
  have l13_u : w10.heap.size < w13.heap.size := by omega
  have a13_u : w13.cell? ⟨w10.heap.size, 0, none⟩ = some (.int .i64 (u1)) := cell_keep bb13 a12_u
  have c13_u : w13.cell? ⟨w10.heap.size, 1, none⟩ = some (.int .i64 (u2)) := cell_keep bb13 c12_u
  have l13_v : w11.heap.size < w13.heap.size := by omega
  have a13_v : w13.cell? ⟨w11.heap.size, 0, none⟩ = some (.int .i64 (v1)) := cell_keep bb13 a12_v
  have c13_v : w13.cell? ⟨w11.heap.size, 1, none⟩ = some (.int .i64 (v2)) := cell_keep bb13 c12_v
  have l13_m : w12.heap.size < w13.heap.size := by omega
  have a13_m : w13.cell? ⟨w12.heap.size, 0, none⟩ = some (.int .i64 (m1)) := cell_keep hb13 (by go_simp)
  have c13_m : w13.cell? ⟨w12.heap.size, 1, none⟩ = some (.int .i64 (m2)) := cell_keep hb13 (by go_simp)
  have be13 : Below w.heap.size w w13 := (by repeat (first | exact Below.refl _ _ | assumption | refine below_drewN ?_ _ | refine Below.setCell ?_ (by first | (simp; done) | (simp; omega)) _ | refine Below.alloc ?_ (by first | (simp; done) | (simp; omega) | omega) _ | refine Below.drew ?_ | refine Below.trans ?_ (Below.mono (by assumption) (by first | (simp; done) | (simp; omega) | omega))))
  clear hb13 bb13 be12 l12_a a12_a c12_a l12_b a12_b c12_b l12_c a12_c c12_c l12_s a12_s c12_s l12_p a12_p c12_p l12_u a12_u c12_u l12_v a12_v c12_v
  simp only [RV]
  go_wp2_with fail
  refine (add_any an ad u1 u2 _ (by omega) (by omega) (by omega) (by omega)).mono ?_
  rintro e w14 ⟨rfl, hb14⟩
  rw [HX2.out]
  have hz14 := hb14.size
  (try simp at hz14)
  have bb14 : Below w13.heap.size w13 w14 := (by repeat (first | exact Below.refl _ _ | assumption | refine below_drewN ?_ _ | refine Below.setCell ?_ (by first | (simp; done) | (simp; omega)) _ | refine Below.alloc ?_ (by first | (simp; done) | (simp; omega) | omega) _ | refine Below.drew ?_ | refine Below.trans ?_ (Below.mono (by assumption) (by first | (simp; done) | (simp; omega) | omega))))
  have l14_a : w.heap.size < w14.heap.size := by omega
  have a14_a : w14.cell? ⟨w.heap.size, 0, none⟩ = some (.int .i64 (an)) := cell_keep bb14 a13_a
  have c14_a : w14.cell? ⟨w.heap.size, 1, none⟩ = some (.int .i64 (ad)) := cell_keep bb14 c13_a
  have l14_b : w.heap.size + 1 < w14.heap.size := by omega
  have a14_b : w14.cell? ⟨w.heap.size + 1, 0, none⟩ = some (.int .i64 (bn)) := cell_keep bb14 a13_b
  have c14_b : w14.cell? ⟨w.heap.size + 1, 1, none⟩ = some (.int .i64 (bd)) := cell_keep bb14 c13_b
  have l14_c : w.heap.size + 1 + 1 < w14.heap.size := by omega
  have a14_c : w14.cell? ⟨w.heap.size + 1 + 1, 0, none⟩ = some (.int .i64 (cn)) := cell_keep bb14 a13_c
  have c14_c : w14.cell? ⟨w.heap.size + 1 + 1, 1, none⟩ = some (.int .i64 (cd)) := cell_keep bb14 c13_c
  have l14_s : w5.heap.size < w14.heap.size := by omega
  have a14_s : w14.cell? ⟨w5.heap.size, 0, none⟩ = some (.int .i64 (s1)) := cell_keep bb14 a13_s
  have c14_s : w14.cell? ⟨w5.heap.size, 1, none⟩ = some (.int .i64 (s2)) := cell_keep bb14 c13_s
  have l14_p : w7.heap.size < w14.heap.size := by omega
  have a14_p : w14.cell? ⟨w7.heap.size, 0, none⟩ = some (.int .i64 (p1)) := cell_keep bb14 a13_p
  have c14_p : w14.cell? ⟨w7.heap.size, 1, none⟩ = some (.int .i64 (p2)) := cell_keep bb14 c13_p
  have l14_u : w10.heap.size < w14.heap.size := by omega
  have a14_u : w14.cell? ⟨w10.heap.size, 0, none⟩ = some (.int .i64 (u1)) := cell_keep bb14 a13_u
  have c14_u : w14.cell? ⟨w10.heap.size, 1, none⟩ = some (.int .i64 (u2)) := cell_keep bb14 c13_u
  have l14_v : w11.heap.size < w14.heap.size := by omega
  have a14_v : w14.cell? ⟨w11.heap.size, 0, none⟩ = some (.int .i64 (v1)) := cell_keep bb14 a13_v
  have c14_v : w14.cell? ⟨w11.heap.size, 1, none⟩ = some (.int .i64 (v2)) := cell_keep bb14 c13_v
  have l14_m : w12.heap.size < w14.heap.size := by omega
  have a14_m : w14.cell? ⟨w12.heap.size, 0, none⟩ = some (.int .i64 (m1)) := cell_keep bb14 a13_m
  have c14_m : w14.cell? ⟨w12.heap.size, 1, none⟩ = some (.int .i64 (m2)) := cell_keep bb14 c13_m
  have l14_x : w13.heap.size < w14.heap.size := by omega
  have a14_x : w14.cell? ⟨w13.heap.size, 0, none⟩ = some (.int .i64 (x1)) := cell_keep hb14 (by go_simp)
  have c14_x : w14.cell? ⟨w13.heap.size, 1, none⟩ = some (.int .i64 (x2)) := cell_keep hb14 (by go_simp)
  have be14 : Below w.heap.size w w14 := (by repeat (first | exact Below.refl _ _ | assumption | refine below_drewN ?_ _ | refine Below.setCell ?_ (by first | (simp; done) | (simp; omega)) _ | refine Below.alloc ?_ (by first | (simp; done) | (simp; omega) | omega) _ | refine Below.drew ?_ | refine Below.trans ?_ (Below.mono (by assumption) (by first | (simp; done) | (simp; omega) | omega))))
  clear hb14 bb14 be13 l13_a a13_a c13_a l13_b a13_b c13_b l13_c a13_c c13_c l13_s a13_s c13_s l13_p a13_p c13_p l13_u a13_u c13_u l13_v a13_v c13_v l13_m a13_m c13_m
  simp only [RV]
  go_wp2
  go_ret
  exact ⟨rfl, (by repeat (first | exact Below.refl _ _ | assumption | refine below_drewN ?_ _ | refine Below.setCell ?_ (by first | (simp; done) | (simp; omega)) _ | refine Below.alloc ?_ (by first | (simp; done) | (simp; omega) | omega) _ | refine Below.drew ?_ | refine Below.trans ?_ (Below.mono (by assumption) (by first | (simp; done) | (simp; omega) | omega))))⟩
set_option maxRecDepth 100000 in
set_option maxHeartbeats 8000000 in
theorem fi_oonnox (an ad bn bd cn cd : Int) (w : World) (hE : Env w) (ha : Rt.Ok an ad) (hb : Rt.Ok bn bd) (hc : Rt.Ok cn cd) (s1 s2 p1 p2 u1 u2 ue v1 v2 m1 m2 me y1 y2 ye : Int) (hS1 : Rt.addS an ad bn bd = (s1, s2, 0)) (hS2 : Rt.addS bn bd an ad = (s1, s2, 0)) (hP1 : Rt.mulS an ad bn bd = (p1, p2, 0)) (hP2 : Rt.mulS bn bd an ad = (p1, p2, 0)) (hU : Rt.addS bn bd cn cd = (u1, u2, ue)) (hV : Rt.mulS bn bd cn cd = (v1, v2, 0)) (hW : Rt.mulS an ad cn cd = (m1, m2, me)) (hSB : Rt.subS s1 s2 bn bd = (an, ad, 0)) (hY1 : Rt.mulS p1 p2 cn cd = (y1, y2, ye)) (hY2 : Rt.mulS an ad v1 v2 = (y1, y2, ye)) (os : Rt.Ok s1 s2) (op : Rt.Ok p1 p2) (ov : Rt.Ok v1 v2) (nu : ¬ ue = 0) (hz : bn = 0) :
    Calls Tryd.prog 5 #[.agg #[.int .i64 an, .int .i64 ad], .agg #[.int .i64 bn, .int .i64 bd], .agg #[.int .i64 cn, .int .i64 cd]] w fun e w' => e = .returned (.bool true) ∧ Below w.heap.size w w' := by
  have HE := Lib.hid hE
  clear hE
  have HA := Lib.hid ha
  have HB := Lib.hid hb
  have HC := Lib.hid hc
  obtain ⟨a1, a2, a3, a4, _⟩ := ha
  obtain ⟨b1, b2, b3, b4, _⟩ := hb
  obtain ⟨c1, c2, c3, c4, _⟩ := hc
  have HS1 := Lib.hid hS1
  have HS2 := Lib.hid hS2
  have HP1 := Lib.hid hP1
  have HP2 := Lib.hid hP2
  have HU := Lib.hid hU
  have HV := Lib.hid hV
  have HW := Lib.hid hW
  have HSB := Lib.hid hSB
  have HY1 := Lib.hid hY1
  have HY2 := Lib.hid hY2
  clear hS1 hS2 hP1 hP2 hU hV hW hSB hY1 hY2
  obtain ⟨_, _, os3, os4, _⟩ := os
  obtain ⟨_, _, op3, op4, _⟩ := op
  obtain ⟨_, _, ov3, ov4, _⟩ := ov
  have nu1 : (ue == 0) = false := by simpa using nu
  have nu2 : (ue != 0) = true := by simpa using nu
  have bz1 : (bn == 0) = true := by simp [hz]
  have bz2 : (bn != 0) = false := by simp [hz]
  clear hz
  go_enter Tryd.func5, Tryd.ntmps5
  go_wp2_with fail
  refine (head_any _ (HE.out.below (by repeat (first | exact Below.refl _ _ | assumption | refine below_drewN ?_ _ | refine Below.setCell ?_ (by first | (simp; done) | (simp; omega)) _ | refine Below.alloc ?_ (by first | (simp; done) | (simp; omega) | omega) _ | refine Below.drew ?_ | refine Below.trans ?_ (Below.mono (by assumption) (by first | (simp; done) | (simp; omega) | omega)))))).mono ?_
  rintro e w1 ⟨rfl, hb1⟩
  have hz1 := hb1.size
  (try simp at hz1)
  have l1_a : w.heap.size < w1.heap.size := by omega
  have a1_a : w1.cell? ⟨w.heap.size, 0, none⟩ = some (.int .i64 (an)) := cell_keep hb1 (by go_simp)
  have c1_a : w1.cell? ⟨w.heap.size, 1, none⟩ = some (.int .i64 (ad)) := cell_keep hb1 (by go_simp)
  have l1_b : w.heap.size + 1 < w1.heap.size := by omega
  have a1_b : w1.cell? ⟨w.heap.size + 1, 0, none⟩ = some (.int .i64 (bn)) := cell_keep hb1 (by go_simp)
  have c1_b : w1.cell? ⟨w.heap.size + 1, 1, none⟩ = some (.int .i64 (bd)) := cell_keep hb1 (by go_simp)
  have l1_c : w.heap.size + 1 + 1 < w1.heap.size := by omega
  have a1_c : w1.cell? ⟨w.heap.size + 1 + 1, 0, none⟩ = some (.int .i64 (cn)) := cell_keep hb1 (by go_simp)
  have c1_c : w1.cell? ⟨w.heap.size + 1 + 1, 1, none⟩ = some (.int .i64 (cd)) := cell_keep hb1 (by go_simp)
  have be1 : Below w.heap.size w w1 := (by repeat (first | exact Below.refl _ _ | assumption | refine below_drewN ?_ _ | refine Below.setCell ?_ (by first | (simp; done) | (simp; omega)) _ | refine Below.alloc ?_ (by first | (simp; done) | (simp; omega) | omega) _ | refine Below.drew ?_ | refine Below.trans ?_ (Below.mono (by assumption) (by first | (simp; done) | (simp; omega) | omega))))
  clear hb1
  go_wp2_with fail
  refine (valid_true _ _ _ HA.out).mono ?_
  rintro e w2 ⟨rfl, hb2⟩
  have hz2 := hb2.size
  (try simp at hz2)
  have bb2 : Below w1.heap.size w1 w2 := (by repeat (first | exact Below.refl _ _ | assumption | refine below_drewN ?_ _ | refine Below.setCell ?_ (by first | (simp; done) | (simp; omega)) _ | refine Below.alloc ?_ (by first | (simp; done) | (simp; omega) | omega) _ | refine Below.drew ?_ | refine Below.trans ?_ (Below.mono (by assumption) (by first | (simp; done) | (simp; omega) | omega))))
  have l2_a : w.heap.size < w2.heap.size := by omega
  have a2_a : w2.cell? ⟨w.heap.size, 0, none⟩ = some (.int .i64 (an)) := cell_keep bb2 a1_a
  have c2_a : w2.cell? ⟨w.heap.size, 1, none⟩ = some (.int .i64 (ad)) := cell_keep bb2 c1_a
  have l2_b : w.heap.size + 1 < w2.heap.size := by omega
  have a2_b : w2.cell? ⟨w.heap.size + 1, 0, none⟩ = some (.int .i64 (bn)) := cell_keep bb2 a1_b
  have c2_b : w2.cell? ⟨w.heap.size + 1, 1, none⟩ = some (.int .i64 (bd)) := cell_keep bb2 c1_b
  have l2_c : w.heap.size + 1 + 1 < w2.heap.size := by omega
  have a2_c : w2.cell? ⟨w.heap.size + 1 + 1, 0, none⟩ = some (.int .i64 (cn)) := cell_keep bb2 a1_c
  have c2_c : w2.cell? ⟨w.heap.size + 1 + 1, 1, none⟩ = some (.int .i64 (cd)) := cell_keep bb2 c1_c
  have be2 : Below w.heap.size w w2 := (by repeat (first | exact Below.refl _ _ | assumption | refine below_drewN ?_ _ | refine Below.setCell ?_ (by first | (simp; done) | (simp; omega)) _ | refine Below.alloc ?_ (by first | (simp; done) | (simp; omega) | omega) _ | refine Below.drew ?_ | refine Below.trans ?_ (Below.mono (by assumption) (by first | (simp; done) | (simp; omega) | omega))))
  clear hb2 bb2 be1 l1_a a1_a c1_a l1_b a1_b c1_b l1_c a1_c c1_c
  go_wp2_with fail
  refine (valid_true _ _ _ HB.out).mono ?_
  rintro e w3 ⟨rfl, hb3⟩
  have hz3 := hb3.size
  (try simp at hz3)
  have bb3 : Below w2.heap.size w2 w3 := (by repeat (first | exact Below.refl _ _ | assumption | refine below_drewN ?_ _ | refine Below.setCell ?_ (by first | (simp; done) | (simp; omega)) _ | refine Below.alloc ?_ (by first | (simp; done) | (simp; omega) | omega) _ | refine Below.drew ?_ | refine Below.trans ?_ (Below.mono (by assumption) (by first | (simp; done) | (simp; omega) | omega))))
  have l3_a : w.heap.size < w3.heap.size := by omega
  have a3_a : w3.cell? ⟨w.heap.size, 0, none⟩ = some (.int .i64 (an)) := cell_keep bb3 a2_a
  have c3_a : w3.cell? ⟨w.heap.size, 1, none⟩ = some (.int .i64 (ad)) := cell_keep bb3 c2_a
  have l3_b : w.heap.size + 1 < w3.heap.size := by omega
  have a3_b : w3.cell? ⟨w.heap.size + 1, 0, none⟩ = some (.int .i64 (bn)) := cell_keep bb3 a2_b
  have c3_b : w3.cell? ⟨w.heap.size + 1, 1, none⟩ = some (.int .i64 (bd)) := cell_keep bb3 c2_b
  have l3_c : w.heap.size + 1 + 1 < w3.heap.size := by omega
  have a3_c : w3.cell? ⟨w.heap.size + 1 + 1, 0, none⟩ = some (.int .i64 (cn)) := cell_keep bb3 a2_c
  have c3_c : w3.cell? ⟨w.heap.size + 1 + 1, 1, none⟩ = some (.int .i64 (cd)) := cell_keep bb3 c2_c
  have be3 : Below w.heap.size w w3 := (by repeat (first | exact Below.refl _ _ | assumption | refine below_drewN ?_ _ | refine Below.setCell ?_ (by first | (simp; done) | (simp; omega)) _ | refine Below.alloc ?_ (by first | (simp; done) | (simp; omega) | omega) _ | refine Below.drew ?_ | refine Below.trans ?_ (Below.mono (by assumption) (by first | (simp; done) | (simp; omega) | omega))))
  clear hb3 bb3 be2 l2_a a2_a c2_a l2_b a2_b c2_b l2_c a2_c c2_c
  go_wp2_with fail
  refine (valid_true _ _ _ HC.out).mono ?_
  rintro e w4 ⟨rfl, hb4⟩
  have hz4 := hb4.size
  (try simp at hz4)
  have bb4 : Below w3.heap.size w3 w4 := (by repeat (first | exact Below.refl _ _ | assumption | refine below_drewN ?_ _ | refine Below.setCell ?_ (by first | (simp; done) | (simp; omega)) _ | refine Below.alloc ?_ (by first | (simp; done) | (simp; omega) | omega) _ | refine Below.drew ?_ | refine Below.trans ?_ (Below.mono (by assumption) (by first | (simp; done) | (simp; omega) | omega))))
  have l4_a : w.heap.size < w4.heap.size := by omega
  have a4_a : w4.cell? ⟨w.heap.size, 0, none⟩ = some (.int .i64 (an)) := cell_keep bb4 a3_a
  have c4_a : w4.cell? ⟨w.heap.size, 1, none⟩ = some (.int .i64 (ad)) := cell_keep bb4 c3_a
  have l4_b : w.heap.size + 1 < w4.heap.size := by omega
  have a4_b : w4.cell? ⟨w.heap.size + 1, 0, none⟩ = some (.int .i64 (bn)) := cell_keep bb4 a3_b
  have c4_b : w4.cell? ⟨w.heap.size + 1, 1, none⟩ = some (.int .i64 (bd)) := cell_keep bb4 c3_b
  have l4_c : w.heap.size + 1 + 1 < w4.heap.size := by omega
  have a4_c : w4.cell? ⟨w.heap.size + 1 + 1, 0, none⟩ = some (.int .i64 (cn)) := cell_keep bb4 a3_c
  have c4_c : w4.cell? ⟨w.heap.size + 1 + 1, 1, none⟩ = some (.int .i64 (cd)) := cell_keep bb4 c3_c
  have be4 : Below w.heap.size w w4 := (by repeat (first | exact Below.refl _ _ | assumption | refine below_drewN ?_ _ | refine Below.setCell ?_ (by first | (simp; done) | (simp; omega)) _ | refine Below.alloc ?_ (by first | (simp; done) | (simp; omega) | omega) _ | refine Below.drew ?_ | refine Below.trans ?_ (Below.mono (by assumption) (by first | (simp; done) | (simp; omega) | omega))))
  clear hb4 bb4 be3 l3_a a3_a c3_a l3_b a3_b c3_b l3_c a3_c c3_c
  go_wp2_with fail
  refine (add_any an ad bn bd _ (by omega) (by omega) (by omega) (by omega)).mono ?_
  rintro e w5 ⟨rfl, hb5⟩
  rw [HS1.out]
  have hz5 := hb5.size
  (try simp at hz5)
  have bb5 : Below w4.heap.size w4 w5 := (by repeat (first | exact Below.refl _ _ | assumption | refine below_drewN ?_ _ | refine Below.setCell ?_ (by first | (simp; done) | (simp; omega)) _ | refine Below.alloc ?_ (by first | (simp; done) | (simp; omega) | omega) _ | refine Below.drew ?_ | refine Below.trans ?_ (Below.mono (by assumption) (by first | (simp; done) | (simp; omega) | omega))))
  have l5_a : w.heap.size < w5.heap.size := by omega
  have a5_a : w5.cell? ⟨w.heap.size, 0, none⟩ = some (.int .i64 (an)) := cell_keep bb5 a4_a
  have c5_a : w5.cell? ⟨w.heap.size, 1, none⟩ = some (.int .i64 (ad)) := cell_keep bb5 c4_a
  have l5_b : w.heap.size + 1 < w5.heap.size := by omega
  have a5_b : w5.cell? ⟨w.heap.size + 1, 0, none⟩ = some (.int .i64 (bn)) := cell_keep bb5 a4_b
  have c5_b : w5.cell? ⟨w.heap.size + 1, 1, none⟩ = some (.int .i64 (bd)) := cell_keep bb5 c4_b
  have l5_c : w.heap.size + 1 + 1 < w5.heap.size := by omega
  have a5_c : w5.cell? ⟨w.heap.size + 1 + 1, 0, none⟩ = some (.int .i64 (cn)) := cell_keep bb5 a4_c
  have c5_c : w5.cell? ⟨w.heap.size + 1 + 1, 1, none⟩ = some (.int .i64 (cd)) := cell_keep bb5 c4_c
  have be5 : Below w.heap.size w w5 := (by repeat (first | exact Below.refl _ _ | assumption | refine below_drewN ?_ _ | refine Below.setCell ?_ (by first | (simp; done) | (simp; omega)) _ | refine Below.alloc ?_ (by first | (simp; done) | (simp; omega) | omega) _ | refine Below.drew ?_ | refine Below.trans ?_ (Below.mono (by assumption) (by first | (simp; done) | (simp; omega) | omega))))
  clear hb5 bb5 be4 l4_a a4_a c4_a l4_b a4_b c4_b l4_c a4_c c4_c
  simp only [RV]
  go_wp2_with fail
  refine (add_any bn bd an ad _ (by omega) (by omega) (by omega) (by omega)).mono ?_
  rintro e w6 ⟨rfl, hb6⟩
  rw [HS2.out]
  have hz6 := hb6.size
  (try simp at hz6)
  have bb6 : Below w5.heap.size w5 w6 := (by repeat (first | exact Below.refl _ _ | assumption | refine below_drewN ?_ _ | refine Below.setCell ?_ (by first | (simp; done) | (simp; omega)) _ | refine Below.alloc ?_ (by first | (simp; done) | (simp; omega) | omega) _ | refine Below.drew ?_ | refine Below.trans ?_ (Below.mono (by assumption) (by first | (simp; done) | (simp; omega) | omega))))
  have l6_a : w.heap.size < w6.heap.size := by omega
  have a6_a : w6.cell? ⟨w.heap.size, 0, none⟩ = some (.int .i64 (an)) := cell_keep bb6 a5_a
  have c6_a : w6.cell? ⟨w.heap.size, 1, none⟩ = some (.int .i64 (ad)) := cell_keep bb6 c5_a
  have l6_b : w.heap.size + 1 < w6.heap.size := by omega
  have a6_b : w6.cell? ⟨w.heap.size + 1, 0, none⟩ = some (.int .i64 (bn)) := cell_keep bb6 a5_b
  have c6_b : w6.cell? ⟨w.heap.size + 1, 1, none⟩ = some (.int .i64 (bd)) := cell_keep bb6 c5_b
  have l6_c : w.heap.size + 1 + 1 < w6.heap.size := by omega
  have a6_c : w6.cell? ⟨w.heap.size + 1 + 1, 0, none⟩ = some (.int .i64 (cn)) := cell_keep bb6 a5_c
  have c6_c : w6.cell? ⟨w.heap.size + 1 + 1, 1, none⟩ = some (.int .i64 (cd)) := cell_keep bb6 c5_c
  have l6_s : w5.heap.size < w6.heap.size := by omega
  have a6_s : w6.cell? ⟨w5.heap.size, 0, none⟩ = some (.int .i64 (s1)) := cell_keep hb6 (by go_simp)
  have c6_s : w6.cell? ⟨w5.heap.size, 1, none⟩ = some (.int .i64 (s2)) := cell_keep hb6 (by go_simp)
  have be6 : Below w.heap.size w w6 := (by repeat (first | exact Below.refl _ _ | assumption | refine below_drewN ?_ _ | refine Below.setCell ?_ (by first | (simp; done) | (simp; omega)) _ | refine Below.alloc ?_ (by first | (simp; done) | (simp; omega) | omega) _ | refine Below.drew ?_ | refine Below.trans ?_ (Below.mono (by assumption) (by first | (simp; done) | (simp; omega) | omega))))
  clear hb6 bb6 be5 l5_a a5_a c5_a l5_b a5_b c5_b l5_c a5_c c5_c
  simp only [RV]
  go_wp2_with fail
  refine (mul_any an ad bn bd _ (by omega) (by omega) (by omega) (by omega)).mono ?_
  rintro e w7 ⟨rfl, hb7⟩
  rw [HP1.out]
  have hz7 := hb7.size
  (try simp at hz7)
  have bb7 : Below w6.heap.size w6 w7 := (by repeat (first | exact Below.refl _ _ | assumption | refine below_drewN ?_ _ | refine Below.setCell ?_ (by first | (simp; done) | (simp; omega)) _ | refine Below.alloc ?_ (by first | (simp; done) | (simp; omega) | omega) _ | refine Below.drew ?_ | refine Below.trans ?_ (Below.mono (by assumption) (by first | (simp; done) | (simp; omega) | omega))))
  have l7_a : w.heap.size < w7.heap.size := by omega
  have a7_a : w7.cell? ⟨w.heap.size, 0, none⟩ = some (.int .i64 (an)) := cell_keep bb7 a6_a
  have c7_a : w7.cell? ⟨w.heap.size, 1, none⟩ = some (.int .i64 (ad)) := cell_keep bb7 c6_a
  have l7_b : w.heap.size + 1 < w7.heap.size := by omega
  have a7_b : w7.cell? ⟨w.heap.size + 1, 0, none⟩ = some (.int .i64 (bn)) := cell_keep bb7 a6_b
  have c7_b : w7.cell? ⟨w.heap.size + 1, 1, none⟩ = some (.int .i64 (bd)) := cell_keep bb7 c6_b
  have l7_c : w.heap.size + 1 + 1 < w7.heap.size := by omega
  have a7_c : w7.cell? ⟨w.heap.size + 1 + 1, 0, none⟩ = some (.int .i64 (cn)) := cell_keep bb7 a6_c
  have c7_c : w7.cell? ⟨w.heap.size + 1 + 1, 1, none⟩ = some (.int .i64 (cd)) := cell_keep bb7 c6_c
  have l7_s : w5.heap.size < w7.heap.size := by omega
  have a7_s : w7.cell? ⟨w5.heap.size, 0, none⟩ = some (.int .i64 (s1)) := cell_keep bb7 a6_s
  have c7_s : w7.cell? ⟨w5.heap.size, 1, none⟩ = some (.int .i64 (s2)) := cell_keep bb7 c6_s
  have l7_t : w6.heap.size < w7.heap.size := by omega
  have a7_t : w7.cell? ⟨w6.heap.size, 0, none⟩ = some (.int .i64 (s1)) := cell_keep hb7 (by go_simp)
  have c7_t : w7.cell? ⟨w6.heap.size, 1, none⟩ = some (.int .i64 (s2)) := cell_keep hb7 (by go_simp)
  have be7 : Below w.heap.size w w7 := (by repeat (first | exact Below.refl _ _ | assumption | refine below_drewN ?_ _ | refine Below.setCell ?_ (by first | (simp; done) | (simp; omega)) _ | refine Below.alloc ?_ (by first | (simp; done) | (simp; omega) | omega) _ | refine Below.drew ?_ | refine Below.trans ?_ (Below.mono (by assumption) (by first | (simp; done) | (simp; omega) | omega))))
  clear hb7 bb7 be6 l6_a a6_a c6_a l6_b a6_b c6_b l6_c a6_c c6_c l6_s a6_s c6_s
  simp only [RV]
  go_wp2_with fail
  refine (mul_any bn bd an ad _ (by omega) (by omega) (by omega) (by omega)).mono ?_
  rintro e w8 ⟨rfl, hb8⟩
  rw [HP2.out]
  have hz8 := hb8.size
  (try simp at hz8)
  have bb8 : Below w7.heap.size w7 w8 := (by repeat (first | exact Below.refl _ _ | assumption | refine below_drewN ?_ _ | refine Below.setCell ?_ (by first | (simp; done) | (simp; omega)) _ | refine Below.alloc ?_ (by first | (simp; done) | (simp; omega) | omega) _ | refine Below.drew ?_ | refine Below.trans ?_ (Below.mono (by assumption) (by first | (simp; done) | (simp; omega) | omega))))
  have l8_a : w.heap.size < w8.heap.size := by omega
  have a8_a : w8.cell? ⟨w.heap.size, 0, none⟩ = some (.int .i64 (an)) := cell_keep bb8 a7_a
  have c8_a : w8.cell? ⟨w.heap.size, 1, none⟩ = some (.int .i64 (ad)) := cell_keep bb8 c7_a
  have l8_b : w.heap.size + 1 < w8.heap.size := by omega
  have a8_b : w8.cell? ⟨w.heap.size + 1, 0, none⟩ = some (.int .i64 (bn)) := cell_keep bb8 a7_b
  have c8_b : w8.cell? ⟨w.heap.size + 1, 1, none⟩ = some (.int .i64 (bd)) := cell_keep bb8 c7_b
  have l8_c : w.heap.size + 1 + 1 < w8.heap.size := by omega
  have a8_c : w8.cell? ⟨w.heap.size + 1 + 1, 0, none⟩ = some (.int .i64 (cn)) := cell_keep bb8 a7_c
  have c8_c : w8.cell? ⟨w.heap.size + 1 + 1, 1, none⟩ = some (.int .i64 (cd)) := cell_keep bb8 c7_c
  have l8_s : w5.heap.size < w8.heap.size := by omega
  have a8_s : w8.cell? ⟨w5.heap.size, 0, none⟩ = some (.int .i64 (s1)) := cell_keep bb8 a7_s
  have c8_s : w8.cell? ⟨w5.heap.size, 1, none⟩ = some (.int .i64 (s2)) := cell_keep bb8 c7_s
  have l8_t : w6.heap.size < w8.heap.size := by omega
  have a8_t : w8.cell? ⟨w6.heap.size, 0, none⟩ = some (.int .i64 (s1)) := cell_keep bb8 a7_t
  have c8_t : w8.cell? ⟨w6.heap.size, 1, none⟩ = some (.int .i64 (s2)) := cell_keep bb8 c7_t
  have l8_p : w7.heap.size < w8.heap.size := by omega
  have a8_p : w8.cell? ⟨w7.heap.size, 0, none⟩ = some (.int .i64 (p1)) := cell_keep hb8 (by go_simp)
  have c8_p : w8.cell? ⟨w7.heap.size, 1, none⟩ = some (.int .i64 (p2)) := cell_keep hb8 (by go_simp)
  have be8 : Below w.heap.size w w8 := (by repeat (first | exact Below.refl _ _ | assumption | refine below_drewN ?_ _ | refine Below.setCell ?_ (by first | (simp; done) | (simp; omega)) _ | refine Below.alloc ?_ (by first | (simp; done) | (simp; omega) | omega) _ | refine Below.drew ?_ | refine Below.trans ?_ (Below.mono (by assumption) (by first | (simp; done) | (simp; omega) | omega))))
  clear hb8 bb8 be7 l7_a a7_a c7_a l7_b a7_b c7_b l7_c a7_c c7_c l7_s a7_s c7_s l7_t a7_t c7_t
  simp only [RV]
  go_wp2_with fail
  refine (sub_any s1 s2 bn bd _ (by omega) (by omega) (by omega) (by omega)).mono ?_
  rintro e w9 ⟨rfl, hb9⟩
  rw [HSB.out]
  have hz9 := hb9.size
  (try simp at hz9)
  have bb9 : Below w8.heap.size w8 w9 := (by repeat (first | exact Below.refl _ _ | assumption | refine below_drewN ?_ _ | refine Below.setCell ?_ (by first | (simp; done) | (simp; omega)) _ | refine Below.alloc ?_ (by first | (simp; done) | (simp; omega) | omega) _ | refine Below.drew ?_ | refine Below.trans ?_ (Below.mono (by assumption) (by first | (simp; done) | (simp; omega) | omega))))
  have l9_a : w.heap.size < w9.heap.size := by omega
  have a9_a : w9.cell? ⟨w.heap.size, 0, none⟩ = some (.int .i64 (an)) := cell_keep bb9 a8_a
  have c9_a : w9.cell? ⟨w.heap.size, 1, none⟩ = some (.int .i64 (ad)) := cell_keep bb9 c8_a
  have l9_b : w.heap.size + 1 < w9.heap.size := by omega
  have a9_b : w9.cell? ⟨w.heap.size + 1, 0, none⟩ = some (.int .i64 (bn)) := cell_keep bb9 a8_b
  have c9_b : w9.cell? ⟨w.heap.size + 1, 1, none⟩ = some (.int .i64 (bd)) := cell_keep bb9 c8_b
  have l9_c : w.heap.size + 1 + 1 < w9.heap.size := by omega
  have a9_c : w9.cell? ⟨w.heap.size + 1 + 1, 0, none⟩ = some (.int .i64 (cn)) := cell_keep bb9 a8_c
  have c9_c : w9.cell? ⟨w.heap.size + 1 + 1, 1, none⟩ = some (.int .i64 (cd)) := cell_keep bb9 c8_c
  have l9_s : w5.heap.size < w9.heap.size := by omega
  have a9_s : w9.cell? ⟨w5.heap.size, 0, none⟩ = some (.int .i64 (s1)) := cell_keep bb9 a8_s
  have c9_s : w9.cell? ⟨w5.heap.size, 1, none⟩ = some (.int .i64 (s2)) := cell_keep bb9 c8_s
  have l9_p : w7.heap.size < w9.heap.size := by omega
  have a9_p : w9.cell? ⟨w7.heap.size, 0, none⟩ = some (.int .i64 (p1)) := cell_keep bb9 a8_p
  have c9_p : w9.cell? ⟨w7.heap.size, 1, none⟩ = some (.int .i64 (p2)) := cell_keep bb9 c8_p
  have be9 : Below w.heap.size w w9 := (by repeat (first | exact Below.refl _ _ | assumption | refine below_drewN ?_ _ | refine Below.setCell ?_ (by first | (simp; done) | (simp; omega)) _ | refine Below.alloc ?_ (by first | (simp; done) | (simp; omega) | omega) _ | refine Below.drew ?_ | refine Below.trans ?_ (Below.mono (by assumption) (by first | (simp; done) | (simp; omega) | omega))))
  clear hb9 bb9 be8 l8_a a8_a c8_a l8_b a8_b c8_b l8_c a8_c c8_c l8_s a8_s c8_s l8_t a8_t c8_t l8_p a8_p c8_p
  simp only [RV]
  go_wp2_with fail
  refine (add_any bn bd cn cd _ (by omega) (by omega) (by omega) (by omega)).mono ?_
  rintro e w10 ⟨rfl, hb10⟩
  rw [HU.out]
  have hz10 := hb10.size
  (try simp at hz10)
  have bb10 : Below w9.heap.size w9 w10 := (by repeat (first | exact Below.refl _ _ | assumption | refine below_drewN ?_ _ | refine Below.setCell ?_ (by first | (simp; done) | (simp; omega)) _ | refine Below.alloc ?_ (by first | (simp; done) | (simp; omega) | omega) _ | refine Below.drew ?_ | refine Below.trans ?_ (Below.mono (by assumption) (by first | (simp; done) | (simp; omega) | omega))))
  have l10_a : w.heap.size < w10.heap.size := by omega
  have a10_a : w10.cell? ⟨w.heap.size, 0, none⟩ = some (.int .i64 (an)) := cell_keep bb10 a9_a
  have c10_a : w10.cell? ⟨w.heap.size, 1, none⟩ = some (.int .i64 (ad)) := cell_keep bb10 c9_a
  have l10_b : w.heap.size + 1 < w10.heap.size := by omega
  have a10_b : w10.cell? ⟨w.heap.size + 1, 0, none⟩ = some (.int .i64 (bn)) := cell_keep bb10 a9_b
  have c10_b : w10.cell? ⟨w.heap.size + 1, 1, none⟩ = some (.int .i64 (bd)) := cell_keep bb10 c9_b
  have l10_c : w.heap.size + 1 + 1 < w10.heap.size := by omega
  have a10_c : w10.cell? ⟨w.heap.size + 1 + 1, 0, none⟩ = some (.int .i64 (cn)) := cell_keep bb10 a9_c
  have c10_c : w10.cell? ⟨w.heap.size + 1 + 1, 1, none⟩ = some (.int .i64 (cd)) := cell_keep bb10 c9_c
  have l10_s : w5.heap.size < w10.heap.size := by omega
  have a10_s : w10.cell? ⟨w5.heap.size, 0, none⟩ = some (.int .i64 (s1)) := cell_keep bb10 a9_s
  have c10_s : w10.cell? ⟨w5.heap.size, 1, none⟩ = some (.int .i64 (s2)) := cell_keep bb10 c9_s
  have l10_p : w7.heap.size < w10.heap.size := by omega
  have a10_p : w10.cell? ⟨w7.heap.size, 0, none⟩ = some (.int .i64 (p1)) := cell_keep bb10 a9_p
  have c10_p : w10.cell? ⟨w7.heap.size, 1, none⟩ = some (.int .i64 (p2)) := cell_keep bb10 c9_p
  have be10 : Below w.heap.size w w10 := (by repeat (first | exact Below.refl _ _ | assumption | refine below_drewN ?_ _ | refine Below.setCell ?_ (by first | (simp; done) | (simp; omega)) _ | refine Below.alloc ?_ (by first | (simp; done) | (simp; omega) | omega) _ | refine Below.drew ?_ | refine Below.trans ?_ (Below.mono (by assumption) (by first | (simp; done) | (simp; omega) | omega))))
  clear hb10 bb10 be9 l9_a a9_a c9_a l9_b a9_b c9_b l9_c a9_c c9_c l9_s a9_s c9_s l9_p a9_p c9_p
  simp only [RV]
  go_wp2_with fail
  refine (mul_any bn bd cn cd _ (by omega) (by omega) (by omega) (by omega)).mono ?_
  rintro e w11 ⟨rfl, hb11⟩
  rw [HV.out]
  have hz11 := hb11.size
  (try simp at hz11)
  have bb11 : Below w10.heap.size w10 w11 := (by repeat (first | exact Below.refl _ _ | assumption | refine below_drewN ?_ _ | refine Below.setCell ?_ (by first | (simp; done) | (simp; omega)) _ | refine Below.alloc ?_ (by first | (simp; done) | (simp; omega) | omega) _ | refine Below.drew ?_ | refine Below.trans ?_ (Below.mono (by assumption) (by first | (simp; done) | (simp; omega) | omega))))
  have l11_a : w.heap.size < w11.heap.size := by omega
  have a11_a : w11.cell? ⟨w.heap.size, 0, none⟩ = some (.int .i64 (an)) := cell_keep bb11 a10_a
  have c11_a : w11.cell? ⟨w.heap.size, 1, none⟩ = some (.int .i64 (ad)) := cell_keep bb11 c10_a
  have l11_b : w.heap.size + 1 < w11.heap.size := by omega
  have a11_b : w11.cell? ⟨w.heap.size + 1, 0, none⟩ = some (.int .i64 (bn)) := cell_keep bb11 a10_b
  have c11_b : w11.cell? ⟨w.heap.size + 1, 1, none⟩ = some (.int .i64 (bd)) := cell_keep bb11 c10_b
  have l11_c : w.heap.size + 1 + 1 < w11.heap.size := by omega
  have a11_c : w11.cell? ⟨w.heap.size + 1 + 1, 0, none⟩ = some (.int .i64 (cn)) := cell_keep bb11 a10_c
  have c11_c : w11.cell? ⟨w.heap.size + 1 + 1, 1, none⟩ = some (.int .i64 (cd)) := cell_keep bb11 c10_c
  have l11_s : w5.heap.size < w11.heap.size := by omega
  have a11_s : w11.cell? ⟨w5.heap.size, 0, none⟩ = some (.int .i64 (s1)) := cell_keep bb11 a10_s
  have c11_s : w11.cell? ⟨w5.heap.size, 1, none⟩ = some (.int .i64 (s2)) := cell_keep bb11 c10_s
  have l11_p : w7.heap.size < w11.heap.size := by omega
  have a11_p : w11.cell? ⟨w7.heap.size, 0, none⟩ = some (.int .i64 (p1)) := cell_keep bb11 a10_p
  have c11_p : w11.cell? ⟨w7.heap.size, 1, none⟩ = some (.int .i64 (p2)) := cell_keep bb11 c10_p
  have l11_u : w10.heap.size < w11.heap.size := by omega
  have a11_u : w11.cell? ⟨w10.heap.size, 0, none⟩ = some (.int .i64 (u1)) := cell_keep hb11 (by go_simp)
  have c11_u : w11.cell? ⟨w10.heap.size, 1, none⟩ = some (.int .i64 (u2)) := cell_keep hb11 (by go_simp)
  have be11 : Below w.heap.size w w11 := (by repeat (first | exact Below.refl _ _ | assumption | refine below_drewN ?_ _ | refine Below.setCell ?_ (by first | (simp; done) | (simp; omega)) _ | refine Below.alloc ?_ (by first | (simp; done) | (simp; omega) | omega) _ | refine Below.drew ?_ | refine Below.trans ?_ (Below.mono (by assumption) (by first | (simp; done) | (simp; omega) | omega))))
  clear hb11 bb11 be10 l10_a a10_a c10_a l10_b a10_b c10_b l10_c a10_c c10_c l10_s a10_s c10_s l10_p a10_p c10_p
  simp only [RV]
  go_wp2_with fail
  refine (mul_any an ad cn cd _ (by omega) (by omega) (by omega) (by omega)).mono ?_
  rintro e w12 ⟨rfl, hb12⟩
  rw [HW.out]
  have hz12 := hb12.size
  (try simp at hz12)
  have bb12 : Below w11.heap.size w11 w12 := (by repeat (first | exact Below.refl _ _ | assumption | refine below_drewN ?_ _ | refine Below.setCell ?_ (by first | (simp; done) | (simp; omega)) _ | refine Below.alloc ?_ (by first | (simp; done) | (simp; omega) | omega) _ | refine Below.drew ?_ | refine Below.trans ?_ (Below.mono (by assumption) (by first | (simp; done) | (simp; omega) | omega))))
  have l12_a : w.heap.size < w12.heap.size := by omega
  have a12_a : w12.cell? ⟨w.heap.size, 0, none⟩ = some (.int .i64 (an)) := cell_keep bb12 a11_a
  have c12_a : w12.cell? ⟨w.heap.size, 1, none⟩ = some (.int .i64 (ad)) := cell_keep bb12 c11_a
  have l12_b : w.heap.size + 1 < w12.heap.size := by omega
  have a12_b : w12.cell? ⟨w.heap.size + 1, 0, none⟩ = some (.int .i64 (bn)) := cell_keep bb12 a11_b
  have c12_b : w12.cell? ⟨w.heap.size + 1, 1, none⟩ = some (.int .i64 (bd)) := cell_keep bb12 c11_b
  have l12_c : w.heap.size + 1 + 1 < w12.heap.size := by omega
  have a12_c : w12.cell? ⟨w.heap.size + 1 + 1, 0, none⟩ = some (.int .i64 (cn)) := cell_keep bb12 a11_c
  have c12_c : w12.cell? ⟨w.heap.size + 1 + 1, 1, none⟩ = some (.int .i64 (cd)) := cell_keep bb12 c11_c
  have l12_s : w5.heap.size < w12.heap.size := by omega
  have a12_s : w12.cell? ⟨w5.heap.size, 0, none⟩ = some (.int .i64 (s1)) := cell_keep bb12 a11_s
  have c12_s : w12.cell? ⟨w5.heap.size, 1, none⟩ = some (.int .i64 (s2)) := cell_keep bb12 c11_s
  have l12_p : w7.heap.size < w12.heap.size := by omega
  have a12_p : w12.cell? ⟨w7.heap.size, 0, none⟩ = some (.int .i64 (p1)) := cell_keep bb12 a11_p
  have c12_p : w12.cell? ⟨w7.heap.size, 1, none⟩ = some (.int .i64 (p2)) := cell_keep bb12 c11_p
  have l12_u : w10.heap.size < w12.heap.size := by omega
  have a12_u : w12.cell? ⟨w10.heap.size, 0, none⟩ = some (.int .i64 (u1)) := cell_keep bb12 a11_u
  have c12_u : w12.cell? ⟨w10.heap.size, 1, none⟩ = some (.int .i64 (u2)) := cell_keep bb12 c11_u
  have l12_v : w11.heap.size < w12.heap.size := by omega
  have a12_v : w12.cell? ⟨w11.heap.size, 0, none⟩ = some (.int .i64 (v1)) := cell_keep hb12 (by go_simp)
  have c12_v : w12.cell? ⟨w11.heap.size, 1, none⟩ = some (.int .i64 (v2)) := cell_keep hb12 (by go_simp)
  have be12 : Below w.heap.size w w12 := (by repeat (first | exact Below.refl _ _ | assumption | refine below_drewN ?_ _ | refine Below.setCell ?_ (by first | (simp; done) | (simp; omega)) _ | refine Below.alloc ?_ (by first | (simp; done) | (simp; omega) | omega) _ | refine Below.drew ?_ | refine Below.trans ?_ (Below.mono (by assumption) (by first | (simp; done) | (simp; omega) | omega))))
  clear hb12 bb12 be11 l11_a a11_a c11_a l11_b a11_b c11_b l11_c a11_c c11_c l11_s a11_s c11_s l11_p a11_p c11_p l11_u a11_u c11_u
  simp only [RV]
  go_wp2_with fail
  refine (mul_any p1 p2 cn cd _ (by omega) (by omega) (by omega) (by omega)).mono ?_
  rintro e w13 ⟨rfl, hb13⟩
  rw [HY1.out]
  have hz13 := hb13.size
  (try simp at hz13)
  have bb13 : Below w12.heap.size w12 w13 := (by repeat (first | exact Below.refl _ _ | assumption | refine below_drewN ?_ _ | refine Below.setCell ?_ (by first | (simp; done) | (simp; omega)) _ | refine Below.alloc ?_ (by first | (simp; done) | (simp; omega) | omega) _ | refine Below.drew ?_ | refine Below.trans ?_ (Below.mono (by assumption) (by first | (simp; done) | (simp; omega) | omega))))
  have l13_a : w.heap.size < w13.heap.size := by omega
  have a13_a : w13.cell? ⟨w.heap.size, 0, none⟩ = some (.int .i64 (an)) := cell_keep bb13 a12_a
  have c13_a : w13.cell? ⟨w.heap.size, 1, none⟩ = some (.int .i64 (ad)) := cell_keep bb13 c12_a
  have l13_b : w.heap.size + 1 < w13.heap.size := by omega
  have a13_b : w13.cell? ⟨w.heap.size + 1, 0, none⟩ = some (.int .i64 (bn)) := cell_keep bb13 a12_b
  have c13_b : w13.cell? ⟨w.heap.size + 1, 1, none⟩ = some (.int .i64 (bd)) := cell_keep bb13 c12_b
  have l13_c : w.heap.size + 1 + 1 < w13.heap.size := by omega
  have a13_c : w13.cell? ⟨w.heap.size + 1 + 1, 0, none⟩ = some (.int .i64 (cn)) := cell_keep bb13 a12_c
  have c13_c : w13.cell? ⟨w.heap.size + 1 + 1, 1, none⟩ = some (.int .i64 (cd)) := cell_keep bb13 c12_c
  have l13_s : w5.heap.size < w13.heap.size := by omega
  have a13_s : w13.cell? ⟨w5.heap.size, 0, none⟩ = some (.int .i64 (s1)) := cell_keep bb13 a12_s
  have c13_s : w13.cell? ⟨w5.heap.size, 1, none⟩ = some (.int .i64 (s2)) := cell_keep bb13 c12_s
  have l13_p : w7.heap.size < w13.heap.size := by omega
  have a13_p : w13.cell? ⟨w7.heap.size, 0, none⟩ = some (.int .i64 (p1)) := cell_keep bb13 a12_p
  have c13_p : w13.cell? ⟨w7.heap.size, 1, none⟩ = some (.int .i64 (p2)) := cell_keep bb13 c12_p
  have l13_u : w10.heap.size < w13.heap.size := by omega
  have a13_u : w13.cell? ⟨w10.heap.size, 0, none⟩ = some (.int .i64 (u1)) := cell_keep bb13 a12_u
  have c13_u : w13.cell? ⟨w10.heap.size, 1, none⟩ = some (.int .i64 (u2)) := cell_keep bb13 c12_u
  have l13_v : w11.heap.size < w13.heap.size := by omega
  have a13_v : w13.cell? ⟨w11.heap.size, 0, none⟩ = some (.int .i64 (v1)) := cell_keep bb13 a12_v
  have c13_v : w13.cell? ⟨w11.heap.size, 1, none⟩ = some (.int .i64 (v2)) := cell_keep bb13 c12_v
  have l13_m : w12.heap.size < w13.heap.size := by omega
  have a13_m : w13.cell? ⟨w12.heap.size, 0, none⟩ = some (.int .i64 (m1)) := cell_keep hb13 (by go_simp)
  have c13_m : w13.cell? ⟨w12.heap.size, 1, none⟩ = some (.int .i64 (m2)) := cell_keep hb13 (by go_simp)
  have be13 : Below w.heap.size w w13 := (by repeat (first | exact Below.refl _ _ | assumption | refine below_drewN ?_ _ | refine Below.setCell ?_ (by first | (simp; done) | (simp; omega)) _ | refine Below.alloc ?_ (by first | (simp; done) | (simp; omega) | omega) _ | refine Below.drew ?_ | refine Below.trans ?_ (Below.mono (by assumption) (by first | (simp; done) | (simp; omega) | omega))))
  clear hb13 bb13 be12 l12_a a12_a c12_a l12_b a12_b c12_b l12_c a12_c c12_c l12_s a12_s c12_s l12_p a12_p c12_p l12_u a12_u c12_u l12_v a12_v c12_v
  simp only [RV]
  go_wp2_with fail
  refine (mul_any an ad v1 v2 _ (by omega) (by omega) (by omega) (by omega)).mono ?_
  rintro e w14 ⟨rfl, hb14⟩
  rw [HY2.out]
  have hz14 := hb14.size
  (try simp at hz14)
  have bb14 : Below w13.heap.size w13 w14 := (by repeat (first | exact Below.refl _ _ | assumption | refine below_drewN ?_ _ | refine Below.setCell ?_ (by first | (simp; done) | (simp; omega)) _ | refine Below.alloc ?_ (by first | (simp; done) | (simp; omega) | omega) _ | refine Below.drew ?_ | refine Below.trans ?_ (Below.mono (by assumption) (by first | (simp; done) | (simp; omega) | omega))))
  have l14_a : w.heap.size < w14.heap.size := by omega
  have a14_a : w14.cell? ⟨w.heap.size, 0, none⟩ = some (.int .i64 (an)) := cell_keep bb14 a13_a
  have c14_a : w14.cell? ⟨w.heap.size, 1, none⟩ = some (.int .i64 (ad)) := cell_keep bb14 c13_a
  have l14_b : w.heap.size + 1 < w14.heap.size := by omega
  have a14_b : w14.cell? ⟨w.heap.size + 1, 0, none⟩ = some (.int .i64 (bn)) := cell_keep bb14 a13_b
  have c14_b : w14.cell? ⟨w.heap.size + 1, 1, none⟩ = some (.int .i64 (bd)) := cell_keep bb14 c13_b
  have l14_c : w.heap.size + 1 + 1 < w14.heap.size := by omega
  have a14_c : w14.cell? ⟨w.heap.size + 1 + 1, 0, none⟩ = some (.int .i64 (cn)) := cell_keep bb14 a13_c
  have c14_c : w14.cell? ⟨w.heap.size + 1 + 1, 1, none⟩ = some (.int .i64 (cd)) := cell_keep bb14 c13_c
  have l14_s : w5.heap.size < w14.heap.size := by omega
  have a14_s : w14.cell? ⟨w5.heap.size, 0, none⟩ = some (.int .i64 (s1)) := cell_keep bb14 a13_s
  have c14_s : w14.cell? ⟨w5.heap.size, 1, none⟩ = some (.int .i64 (s2)) := cell_keep bb14 c13_s
  have l14_p : w7.heap.size < w14.heap.size := by omega
  have a14_p : w14.cell? ⟨w7.heap.size, 0, none⟩ = some (.int .i64 (p1)) := cell_keep bb14 a13_p
  have c14_p : w14.cell? ⟨w7.heap.size, 1, none⟩ = some (.int .i64 (p2)) := cell_keep bb14 c13_p
  have l14_u : w10.heap.size < w14.heap.size := by omega
  have a14_u : w14.cell? ⟨w10.heap.size, 0, none⟩ = some (.int .i64 (u1)) := cell_keep bb14 a13_u
  have c14_u : w14.cell? ⟨w10.heap.size, 1, none⟩ = some (.int .i64 (u2)) := cell_keep bb14 c13_u
  have l14_v : w11.heap.size < w14.heap.size := by omega
  have a14_v : w14.cell? ⟨w11.heap.size, 0, none⟩ = some (.int .i64 (v1)) := cell_keep bb14 a13_v
  have c14_v : w14.cell? ⟨w11.heap.size, 1, none⟩ = some (.int .i64 (v2)) := cell_keep bb14 c13_v
  have l14_m : w12.heap.size < w14.heap.size := by omega
  have a14_m : w14.cell? ⟨w12.heap.size, 0, none⟩ = some (.int .i64 (m1)) := cell_keep bb14 a13_m
  have c14_m : w14.cell? ⟨w12.heap.size, 1, none⟩ = some (.int .i64 (m2)) := cell_keep bb14 c13_m
  have l14_y : w13.heap.size < w14.heap.size := by omega
  have a14_y : w14.cell? ⟨w13.heap.size, 0, none⟩ = some (.int .i64 (y1)) := cell_keep hb14 (by go_simp)
  have c14_y : w14.cell? ⟨w13.heap.size, 1, none⟩ = some (.int .i64 (y2)) := cell_keep hb14 (by go_simp)
  have be14 : Below w.heap.size w w14 := (by repeat (first | exact Below.refl _ _ | assumption | refine below_drewN ?_ _ | refine Below.setCell ?_ (by first | (simp; done) | (simp; omega)) _ | refine Below.alloc ?_ (by first | (simp; done) | (simp; omega) | omega) _ | refine Below.drew ?_ | refine Below.trans ?_ (Below.mono (by assumption) (by first | (simp; done) | (simp; omega) | omega))))
  clear hb14 bb14 be13 l13_a a13_a c13_a l13_b a13_b c13_b l13_c a13_c c13_c l13_s a13_s c13_s l13_p a13_p c13_p l13_u a13_u c13_u l13_v a13_v c13_v l13_m a13_m c13_m
  simp only [RV]
  go_wp2
  go_ret
  exact ⟨rfl, (by repeat (first | exact Below.refl _ _ | assumption | refine below_drewN ?_ _ | refine Below.setCell ?_ (by first | (simp; done) | (simp; omega)) _ | refine Below.alloc ?_ (by first | (simp; done) | (simp; omega) | omega) _ | refine Below.drew ?_ | refine Below.trans ?_ (Below.mono (by assumption) (by first | (simp; done) | (simp; omega) | omega))))⟩
set_option maxRecDepth 100000 in
set_option maxHeartbeats 8000000 in
theorem fi_oonnnx (an ad bn bd cn cd : Int) (w : World) (hE : Env w) (ha : Rt.Ok an ad) (hb : Rt.Ok bn bd) (hc : Rt.Ok cn cd) (s1 s2 p1 p2 u1 u2 ue v1 v2 ve m1 m2 me : Int) (hS1 : Rt.addS an ad bn bd = (s1, s2, 0)) (hS2 : Rt.addS bn bd an ad = (s1, s2, 0)) (hP1 : Rt.mulS an ad bn bd = (p1, p2, 0)) (hP2 : Rt.mulS bn bd an ad = (p1, p2, 0)) (hU : Rt.addS bn bd cn cd = (u1, u2, ue)) (hV : Rt.mulS bn bd cn cd = (v1, v2, ve)) (hW : Rt.mulS an ad cn cd = (m1, m2, me)) (hSB : Rt.subS s1 s2 bn bd = (an, ad, 0)) (os : Rt.Ok s1 s2) (op : Rt.Ok p1 p2) (nu : ¬ ue = 0) (nv : ¬ ve = 0) (hz : bn = 0) :
    Calls Tryd.prog 5 #[.agg #[.int .i64 an, .int .i64 ad], .agg #[.int .i64 bn, .int .i64 bd], .agg #[.int .i64 cn, .int .i64 cd]] w fun e w' => e = .returned (.bool true) ∧ Below w.heap.size w w' := by
  have HE := Lib.hid hE
  clear hE
  have HA := Lib.hid ha
  have HB := Lib.hid hb
  have HC := Lib.hid hc
  obtain ⟨a1, a2, a3, a4, _⟩ := ha
  obtain ⟨b1, b2, b3, b4, _⟩ := hb
  obtain ⟨c1, c2, c3, c4, _⟩ := hc
  have HS1 := Lib.hid hS1
  have HS2 := Lib.hid hS2
  have HP1 := Lib.hid hP1
  have HP2 := Lib.hid hP2
  have HU := Lib.hid hU
  have HV := Lib.hid hV
  have HW := Lib.hid hW
  have HSB := Lib.hid hSB
  clear hS1 hS2 hP1 hP2 hU hV hW hSB
  obtain ⟨_, _, os3, os4, _⟩ := os
  obtain ⟨_, _, op3, op4, _⟩ := op
  have nu1 : (ue == 0) = false := by simpa using nu
  have nu2 : (ue != 0) = true := by simpa using nu
  have nv1 : (ve == 0) = false := by simpa using nv
  have nv2 : (ve != 0) = true := by simpa using nv
  have bz1 : (bn == 0) = true := by simp [hz]
  have bz2 : (bn != 0) = false := by simp [hz]
  clear hz
  go_enter Tryd.func5, Tryd.ntmps5
  go_wp2_with fail
  refine (head_any _ (HE.out.below (by repeat (first | exact Below.refl _ _ | assumption | refine below_drewN ?_ _ | refine Below.setCell ?_ (by first | (simp; done) | (simp; omega)) _ | refine Below.alloc ?_ (by first | (simp; done) | (simp; omega) | omega) _ | refine Below.drew ?_ | refine Below.trans ?_ (Below.mono (by assumption) (by first | (simp; done) | (simp; omega) | omega)))))).mono ?_
  rintro e w1 ⟨rfl, hb1⟩
  have hz1 := hb1.size
  (try simp at hz1)
  have l1_a : w.heap.size < w1.heap.size := by omega
  have a1_a : w1.cell? ⟨w.heap.size, 0, none⟩ = some (.int .i64 (an)) := cell_keep hb1 (by go_simp)
  have c1_a : w1.cell? ⟨w.heap.size, 1, none⟩ = some (.int .i64 (ad)) := cell_keep hb1 (by go_simp)
  have l1_b : w.heap.size + 1 < w1.heap.size := by omega
  have a1_b : w1.cell? ⟨w.heap.size + 1, 0, none⟩ = some (.int .i64 (bn)) := cell_keep hb1 (by go_simp)
  have c1_b : w1.cell? ⟨w.heap.size + 1, 1, none⟩ = some (.int .i64 (bd)) := cell_keep hb1 (by go_simp)
  have l1_c : w.heap.size + 1 + 1 < w1.heap.size := by omega
  have a1_c : w1.cell? ⟨w.heap.size + 1 + 1, 0, none⟩ = some (.int .i64 (cn)) := cell_keep hb1 (by go_simp)
  have c1_c : w1.cell? ⟨w.heap.size + 1 + 1, 1, none⟩ = some (.int .i64 (cd)) := cell_keep hb1 (by go_simp)
  have be1 : Below w.heap.size w w1 := (by repeat (first | exact Below.refl _ _ | assumption | refine below_drewN ?_ _ | refine Below.setCell ?_ (by first | (simp; done) | (simp; omega)) _ | refine Below.alloc ?_ (by first | (simp; done) | (simp; omega) | omega) _ | refine Below.drew ?_ | refine Below.trans ?_ (Below.mono (by assumption) (by first | (simp; done) | (simp; omega) | omega))))
  clear hb1
  go_wp2_with fail
  refine (valid_true _ _ _ HA.out).mono ?_
  rintro e w2 ⟨rfl, hb2⟩
  have hz2 := hb2.size
  (try simp at hz2)
  have bb2 : Below w1.heap.size w1 w2 := (by repeat (first | exact Below.refl _ _ | assumption | refine below_drewN ?_ _ | refine Below.setCell ?_ (by first | (simp; done) | (simp; omega)) _ | refine Below.alloc ?_ (by first | (simp; done) | (simp; omega) | omega) _ | refine Below.drew ?_ | refine Below.trans ?_ (Below.mono (by assumption) (by first | (simp; done) | (simp; omega) | omega))))
  have l2_a : w.heap.size < w2.heap.size := by omega
  have a2_a : w2.cell? ⟨w.heap.size, 0, none⟩ = some (.int .i64 (an)) := cell_keep bb2 a1_a
  have c2_a : w2.cell? ⟨w.heap.size, 1, none⟩ = some (.int .i64 (ad)) := cell_keep bb2 c1_a
  have l2_b : w.heap.size + 1 < w2.heap.size := by omega
  have a2_b : w2.cell? ⟨w.heap.size + 1, 0, none⟩ = some (.int .i64 (bn)) := cell_keep bb2 a1_b
  have c2_b : w2.cell? ⟨w.heap.size + 1, 1, none⟩ = some (.int .i64 (bd)) := cell_keep bb2 c1_b
  have l2_c : w.heap.size + 1 + 1 < w2.heap.size := by omega
  have a2_c : w2.cell? ⟨w.heap.size + 1 + 1, 0, none⟩ = some (.int .i64 (cn)) := cell_keep bb2 a1_c
  have c2_c : w2.cell? ⟨w.heap.size + 1 + 1, 1, none⟩ = some (.int .i64 (cd)) := cell_keep bb2 c1_c
  have be2 : Below w.heap.size w w2 := (by repeat (first | exact Below.refl _ _ | assumption | refine below_drewN ?_ _ | refine Below.setCell ?_ (by first | (simp; done) | (simp; omega)) _ | refine Below.alloc ?_ (by first | (simp; done) | (simp; omega) | omega) _ | refine Below.drew ?_ | refine Below.trans ?_ (Below.mono (by assumption) (by first | (simp; done) | (simp; omega) | omega))))
  clear hb2 bb2 be1 l1_a a1_a c1_a l1_b a1_b c1_b l1_c a1_c c1_c
  go_wp2_with fail
  refine (valid_true _ _ _ HB.out).mono ?_
  rintro e w3 ⟨rfl, hb3⟩
  have hz3 := hb3.size
  (try simp at hz3)
  have bb3 : Below w2.heap.size w2 w3 := (by repeat (first | exact Below.refl _ _ | assumption | refine below_drewN ?_ _ | refine Below.setCell ?_ (by first | (simp; done) | (simp; omega)) _ | refine Below.alloc ?_ (by first | (simp; done) | (simp; omega) | omega) _ | refine Below.drew ?_ | refine Below.trans ?_ (Below.mono (by assumption) (by first | (simp; done) | (simp; omega) | omega))))
  have l3_a : w.heap.size < w3.heap.size := by omega
  have a3_a : w3.cell? ⟨w.heap.size, 0, none⟩ = some (.int .i64 (an)) := cell_keep bb3 a2_a
  have c3_a : w3.cell? ⟨w.heap.size, 1, none⟩ = some (.int .i64 (ad)) := cell_keep bb3 c2_a
  have l3_b : w.heap.size + 1 < w3.heap.size := by omega
  have a3_b : w3.cell? ⟨w.heap.size + 1, 0, none⟩ = some (.int .i64 (bn)) := cell_keep bb3 a2_b
  have c3_b : w3.cell? ⟨w.heap.size + 1, 1, none⟩ = some (.int .i64 (bd)) := cell_keep bb3 c2_b
  have l3_c : w.heap.size + 1 + 1 < w3.heap.size := by omega
  have a3_c : w3.cell? ⟨w.heap.size + 1 + 1, 0, none⟩ = some (.int .i64 (cn)) := cell_keep bb3 a2_c
  have c3_c : w3.cell? ⟨w.heap.size + 1 + 1, 1, none⟩ = some (.int .i64 (cd)) := cell_keep bb3 c2_c
  have be3 : Below w.heap.size w w3 := (by repeat (first | exact Below.refl _ _ | assumption | refine below_drewN ?_ _ | refine Below.setCell ?_ (by first | (simp; done) | (simp; omega)) _ | refine Below.alloc ?_ (by first | (simp; done) | (simp; omega) | omega) _ | refine Below.drew ?_ | refine Below.trans ?_ (Below.mono (by assumption) (by first | (simp; done) | (simp; omega) | omega))))
  clear hb3 bb3 be2 l2_a a2_a c2_a l2_b a2_b c2_b l2_c a2_c c2_c
  go_wp2_with fail
  refine (valid_true _ _ _ HC.out).mono ?_
  rintro e w4 ⟨rfl, hb4⟩
  have hz4 := hb4.size
  (try simp at hz4)
  have bb4 : Below w3.heap.size w3 w4 := (by repeat (first | exact Below.refl _ _ | assumption | refine below_drewN ?_ _ | refine Below.setCell ?_ (by first | (simp; done) | (simp; omega)) _ | refine Below.alloc ?_ (by first | (simp; done) | (simp; omega) | omega) _ | refine Below.drew ?_ | refine Below.trans ?_ (Below.mono (by assumption) (by first | (simp; done) | (simp; omega) | omega))))
  have l4_a : w.heap.size < w4.heap.size := by omega
  have a4_a : w4.cell? ⟨w.heap.size, 0, none⟩ = some (.int .i64 (an)) := cell_keep bb4 a3_a
  have c4_a : w4.cell? ⟨w.heap.size, 1, none⟩ = some (.int .i64 (ad)) := cell_keep bb4 c3_a
  have l4_b : w.heap.size + 1 < w4.heap.size := by omega
  have a4_b : w4.cell? ⟨w.heap.size + 1, 0, none⟩ = some (.int .i64 (bn)) := cell_keep bb4 a3_b
  have c4_b : w4.cell? ⟨w.heap.size + 1, 1, none⟩ = some (.int .i64 (bd)) := cell_keep bb4 c3_b
  have l4_c : w.heap.size + 1 + 1 < w4.heap.size := by omega
  have a4_c : w4.cell? ⟨w.heap.size + 1 + 1, 0, none⟩ = some (.int .i64 (cn)) := cell_keep bb4 a3_c
  have c4_c : w4.cell? ⟨w.heap.size + 1 + 1, 1, none⟩ = some (.int .i64 (cd)) := cell_keep bb4 c3_c
  have be4 : Below w.heap.size w w4 := (by repeat (first | exact Below.refl _ _ | assumption | refine below_drewN ?_ _ | refine Below.setCell ?_ (by first | (simp; done) | (simp; omega)) _ | refine Below.alloc ?_ (by first | (simp; done) | (simp; omega) | omega) _ | refine Below.drew ?_ | refine Below.trans ?_ (Below.mono (by assumption) (by first | (simp; done) | (simp; omega) | omega))))
  clear hb4 bb4 be3 l3_a a3_a c3_a l3_b a3_b c3_b l3_c a3_c c3_c
  go_wp2_with fail
  refine (add_any an ad bn bd _ (by omega) (by omega) (by omega) (by omega)).mono ?_
  rintro e w5 ⟨rfl, hb5⟩
  rw [HS1.out]
  have hz5 := hb5.size
  (try simp at hz5)
  have bb5 : Below w4.heap.size w4 w5 := (by repeat (first | exact Below.refl _ _ | assumption | refine below_drewN ?_ _ | refine Below.setCell ?_ (by first | (simp; done) | (simp; omega)) _ | refine Below.alloc ?_ (by first | (simp; done) | (simp; omega) | omega) _ | refine Below.drew ?_ | refine Below.trans ?_ (Below.mono (by assumption) (by first | (simp; done) | (simp; omega) | omega))))
  have l5_a : w.heap.size < w5.heap.size := by omega
  have a5_a : w5.cell? ⟨w.heap.size, 0, none⟩ = some (.int .i64 (an)) := cell_keep bb5 a4_a
  have c5_a : w5.cell? ⟨w.heap.size, 1, none⟩ = some (.int .i64 (ad)) := cell_keep bb5 c4_a
  have l5_b : w.heap.size + 1 < w5.heap.size := by omega
  have a5_b : w5.cell? ⟨w.heap.size + 1, 0, none⟩ = some (.int .i64 (bn)) := cell_keep bb5 a4_b
  have c5_b : w5.cell? ⟨w.heap.size + 1, 1, none⟩ = some (.int .i64 (bd)) := cell_keep bb5 c4_b
  have l5_c : w.heap.size + 1 + 1 < w5.heap.size := by omega
  have a5_c : w5.cell? ⟨w.heap.size + 1 + 1, 0, none⟩ = some (.int .i64 (cn)) := cell_keep bb5 a4_c
  have c5_c : w5.cell? ⟨w.heap.size + 1 + 1, 1, none⟩ = some (.int .i64 (cd)) := cell_keep bb5 c4_c
  have be5 : Below w.heap.size w w5 := (by repeat (first | exact Below.refl _ _ | assumption | refine below_drewN ?_ _ | refine Below.setCell ?_ (by first | (simp; done) | (simp; omega)) _ | refine Below.alloc ?_ (by first | (simp; done) | (simp; omega) | omega) _ | refine Below.drew ?_ | refine Below.trans ?_ (Below.mono (by assumption) (by first | (simp; done) | (simp; omega) | omega))))
  clear hb5 bb5 be4 l4_a a4_a c4_a l4_b a4_b c4_b l4_c a4_c c4_c
  simp only [RV]
  go_wp2_with fail
  refine (add_any bn bd an ad _ (by omega) (by omega) (by omega) (by omega)).mono ?_
  rintro e w6 ⟨rfl, hb6⟩
  rw [HS2.out]
  have hz6 := hb6.size
  (try simp at hz6)
  have bb6 : Below w5.heap.size w5 w6 := (by repeat (first | exact Below.refl _ _ | assumption | refine below_drewN ?_ _ | refine Below.setCell ?_ (by first | (simp; done) | (simp; omega)) _ | refine Below.alloc ?_ (by first | (simp; done) | (simp; omega) | omega) _ | refine Below.drew ?_ | refine Below.trans ?_ (Below.mono (by assumption) (by first | (simp; done) | (simp; omega) | omega))))
  have l6_a : w.heap.size < w6.heap.size := by omega
  have a6_a : w6.cell? ⟨w.heap.size, 0, none⟩ = some (.int .i64 (an)) := cell_keep bb6 a5_a
  have c6_a : w6.cell? ⟨w.heap.size, 1, none⟩ = some (.int .i64 (ad)) := cell_keep bb6 c5_a
  have l6_b : w.heap.size + 1 < w6.heap.size := by omega
  have a6_b : w6.cell? ⟨w.heap.size + 1, 0, none⟩ = some (.int .i64 (bn)) := cell_keep bb6 a5_b
  have c6_b : w6.cell? ⟨w.heap.size + 1, 1, none⟩ = some (.int .i64 (bd)) := cell_keep bb6 c5_b
  have l6_c : w.heap.size + 1 + 1 < w6.heap.size := by omega
  have a6_c : w6.cell? ⟨w.heap.size + 1 + 1, 0, none⟩ = some (.int .i64 (cn)) := cell_keep bb6 a5_c
  have c6_c : w6.cell? ⟨w.heap.size + 1 + 1, 1, none⟩ = some (.int .i64 (cd)) := cell_keep bb6 c5_c
  have l6_s : w5.heap.size < w6.heap.size := by omega
  have a6_s : w6.cell? ⟨w5.heap.size, 0, none⟩ = some (.int .i64 (s1)) := cell_keep hb6 (by go_simp)
  have c6_s : w6.cell? ⟨w5.heap.size, 1, none⟩ = some (.int .i64 (s2)) := cell_keep hb6 (by go_simp)
  have be6 : Below w.heap.size w w6 := (by repeat (first | exact Below.refl _ _ | assumption | refine below_drewN ?_ _ | refine Below.setCell ?_ (by first | (simp; done) | (simp; omega)) _ | refine Below.alloc ?_ (by first | (simp; done) | (simp; omega) | omega) _ | refine Below.drew ?_ | refine Below.trans ?_ (Below.mono (by assumption) (by first | (simp; done) | (simp; omega) | omega))))
  clear hb6 bb6 be5 l5_a a5_a c5_a l5_b a5_b c5_b l5_c a5_c c5_c
  simp only [RV]
  go_wp2_with fail
  refine (mul_any an ad bn bd _ (by omega) (by omega) (by omega) (by omega)).mono ?_
  rintro e w7 ⟨rfl, hb7⟩
  rw [HP1.out]
  have hz7 := hb7.size
  (try simp at hz7)
  have bb7 : Below w6.heap.size w6 w7 := (by repeat (first | exact Below.refl _ _ | assumption | refine below_drewN ?_ _ | refine Below.setCell ?_ (by first | (simp; done) | (simp; omega)) _ | refine Below.alloc ?_ (by first | (simp; done) | (simp; omega) | omega) _ | refine Below.drew ?_ | refine Below.trans ?_ (Below.mono (by assumption) (by first | (simp; done) | (simp; omega) | omega))))
  have l7_a : w.heap.size < w7.heap.size := by omega
  have a7_a : w7.cell? ⟨w.heap.size, 0, none⟩ = some (.int .i64 (an)) := cell_keep bb7 a6_a
  have c7_a : w7.cell? ⟨w.heap.size, 1, none⟩ = some (.int .i64 (ad)) := cell_keep bb7 c6_a
  have l7_b : w.heap.size + 1 < w7.heap.size := by omega
  have a7_b : w7.cell? ⟨w.heap.size + 1, 0, none⟩ = some (.int .i64 (bn)) := cell_keep bb7 a6_b
  have c7_b : w7.cell? ⟨w.heap.size + 1, 1, none⟩ = some (.int .i64 (bd)) := cell_keep bb7 c6_b
  have l7_c : w.heap.size + 1 + 1 < w7.heap.size := by omega
  have a7_c : w7.cell? ⟨w.heap.size + 1 + 1, 0, none⟩ = some (.int .i64 (cn)) := cell_keep bb7 a6_c
  have c7_c : w7.cell? ⟨w.heap.size + 1 + 1, 1, none⟩ = some (.int .i64 (cd)) := cell_keep bb7 c6_c
  have l7_s : w5.heap.size < w7.heap.size := by omega
  have a7_s : w7.cell? ⟨w5.heap.size, 0, none⟩ = some (.int .i64 (s1)) := cell_keep bb7 a6_s
  have c7_s : w7.cell? ⟨w5.heap.size, 1, none⟩ = some (.int .i64 (s2)) := cell_keep bb7 c6_s
  have l7_t : w6.heap.size < w7.heap.size := by omega
  have a7_t : w7.cell? ⟨w6.heap.size, 0, none⟩ = some (.int .i64 (s1)) := cell_keep hb7 (by go_simp)
  have c7_t : w7.cell? ⟨w6.heap.size, 1, none⟩ = some (.int .i64 (s2)) := cell_keep hb7 (by go_simp)
  have be7 : Below w.heap.size w w7 := (by repeat (first | exact Below.refl _ _ | assumption | refine below_drewN ?_ _ | refine Below.setCell ?_ (by first | (simp; done) | (simp; omega)) _ | refine Below.alloc ?_ (by first | (simp; done) | (simp; omega) | omega) _ | refine Below.drew ?_ | refine Below.trans ?_ (Below.mono (by assumption) (by first | (simp; done) | (simp; omega) | omega))))
  clear hb7 bb7 be6 l6_a a6_a c6_a l6_b a6_b c6_b l6_c a6_c c6_c l6_s a6_s c6_s
  simp only [RV]
  go_wp2_with fail
  refine (mul_any bn bd an ad _ (by omega) (by omega) (by omega) (by omega)).mono ?_
  rintro e w8 ⟨rfl, hb8⟩
  rw [HP2.out]
  have hz8 := hb8.size
  (try simp at hz8)
  have bb8 : Below w7.heap.size w7 w8 := (by repeat (first | exact Below.refl _ _ | assumption | refine below_drewN ?_ _ | refine Below.setCell ?_ (by first | (simp; done) | (simp; omega)) _ | refine Below.alloc ?_ (by first | (simp; done) | (simp; omega) | omega) _ | refine Below.drew ?_ | refine Below.trans ?_ (Below.mono (by assumption) (by first | (simp; done) | (simp; omega) | omega))))
  have l8_a : w.heap.size < w8.heap.size := by omega
  have a8_a : w8.cell? ⟨w.heap.size, 0, none⟩ = some (.int .i64 (an)) := cell_keep bb8 a7_a
  have c8_a : w8.cell? ⟨w.heap.size, 1, none⟩ = some (.int .i64 (ad)) := cell_keep bb8 c7_a
  have l8_b : w.heap.size + 1 < w8.heap.size := by omega
  have a8_b : w8.cell? ⟨w.heap.size + 1, 0, none⟩ = some (.int .i64 (bn)) := cell_keep bb8 a7_b
  have c8_b : w8.cell? ⟨w.heap.size + 1, 1, none⟩ = some (.int .i64 (bd)) := cell_keep bb8 c7_b
  have l8_c : w.heap.size + 1 + 1 < w8.heap.size := by omega
  have a8_c : w8.cell? ⟨w.heap.size + 1 + 1, 0, none⟩ = some (.int .i64 (cn)) := cell_keep bb8 a7_c
  have c8_c : w8.cell? ⟨w.heap.size + 1 + 1, 1, none⟩ = some (.int .i64 (cd)) := cell_keep bb8 c7_c
  have l8_s : w5.heap.size < w8.heap.size := by omega
  have a8_s : w8.cell? ⟨w5.heap.size, 0, none⟩ = some (.int .i64 (s1)) := cell_keep bb8 a7_s
  have c8_s : w8.cell? ⟨w5.heap.size, 1, none⟩ = some (.int .i64 (s2)) := cell_keep bb8 c7_s
  have l8_t : w6.heap.size < w8.heap.size := by omega
  have a8_t : w8.cell? ⟨w6.heap.size, 0, none⟩ = some (.int .i64 (s1)) := cell_keep bb8 a7_t
  have c8_t : w8.cell? ⟨w6.heap.size, 1, none⟩ = some (.int .i64 (s2)) := cell_keep bb8 c7_t
  have l8_p : w7.heap.size < w8.heap.size := by omega
  have a8_p : w8.cell? ⟨w7.heap.size, 0, none⟩ = some (.int .i64 (p1)) := cell_keep hb8 (by go_simp)
  have c8_p : w8.cell? ⟨w7.heap.size, 1, none⟩ = some (.int .i64 (p2)) := cell_keep hb8 (by go_simp)
  have be8 : Below w.heap.size w w8 := (by repeat (first | exact Below.refl _ _ | assumption | refine below_drewN ?_ _ | refine Below.setCell ?_ (by first | (simp; done) | (simp; omega)) _ | refine Below.alloc ?_ (by first | (simp; done) | (simp; omega) | omega) _ | refine Below.drew ?_ | refine Below.trans ?_ (Below.mono (by assumption) (by first | (simp; done) | (simp; omega) | omega))))
  clear hb8 bb8 be7 l7_a a7_a c7_a l7_b a7_b c7_b l7_c a7_c c7_c l7_s a7_s c7_s l7_t a7_t c7_t
  simp only [RV]
  go_wp2_with fail
  refine (sub_any s1 s2 bn bd _ (by omega) (by omega) (by omega) (by omega)).mono ?_
  rintro e w9 ⟨rfl, hb9⟩
  rw [HSB.out]
  have hz9 := hb9.size
  (try simp at hz9)
  have bb9 : Below w8.heap.size w8 w9 := (by repeat (first | exact Below.refl _ _ | assumption | refine below_drewN ?_ _ | refine Below.setCell ?_ (by first | (simp; done) | (simp; omega)) _ | refine Below.alloc ?_ (by first | (simp; done) | (simp; omega) | omega) _ | refine Below.drew ?_ | refine Below.trans ?_ (Below.mono (by assumption) (by first | (simp; done) | (simp; omega) | omega))))
  have l9_a : w.heap.size < w9.heap.size := by omega
  have a9_a : w9.cell? ⟨w.heap.size, 0, none⟩ = some (.int .i64 (an)) := cell_keep bb9 a8_a
  have c9_a : w9.cell? ⟨w.heap.size, 1, none⟩ = some (.int .i64 (ad)) := cell_keep bb9 c8_a
  have l9_b : w.heap.size + 1 < w9.heap.size := by omega
  have a9_b : w9.cell? ⟨w.heap.size + 1, 0, none⟩ = some (.int .i64 (bn)) := cell_keep bb9 a8_b
  have c9_b : w9.cell? ⟨w.heap.size + 1, 1, none⟩ = some (.int .i64 (bd)) := cell_keep bb9 c8_b
  have l9_c : w.heap.size + 1 + 1 < w9.heap.size := by omega
  have a9_c : w9.cell? ⟨w.heap.size + 1 + 1, 0, none⟩ = some (.int .i64 (cn)) := cell_keep bb9 a8_c
  have c9_c : w9.cell? ⟨w.heap.size + 1 + 1, 1, none⟩ = some (.int .i64 (cd)) := cell_keep bb9 c8_c
  have l9_s : w5.heap.size < w9.heap.size := by omega
  have a9_s : w9.cell? ⟨w5.heap.size, 0, none⟩ = some (.int .i64 (s1)) := cell_keep bb9 a8_s
  have c9_s : w9.cell? ⟨w5.heap.size, 1, none⟩ = some (.int .i64 (s2)) := cell_keep bb9 c8_s
  have l9_p : w7.heap.size < w9.heap.size := by omega
  have a9_p : w9.cell? ⟨w7.heap.size, 0, none⟩ = some (.int .i64 (p1)) := cell_keep bb9 a8_p
  have c9_p : w9.cell? ⟨w7.heap.size, 1, none⟩ = some (.int .i64 (p2)) := cell_keep bb9 c8_p
  have be9 : Below w.heap.size w w9 := (by repeat (first | exact Below.refl _ _ | assumption | refine below_drewN ?_ _ | refine Below.setCell ?_ (by first | (simp; done) | (simp; omega)) _ | refine Below.alloc ?_ (by first | (simp; done) | (simp; omega) | omega) _ | refine Below.drew ?_ | refine Below.trans ?_ (Below.mono (by assumption) (by first | (simp; done) | (simp; omega) | omega))))
  clear hb9 bb9 be8 l8_a a8_a c8_a l8_b a8_b c8_b l8_c a8_c c8_c l8_s a8_s c8_s l8_t a8_t c8_t l8_p a8_p c8_p
  simp only [RV]
  go_wp2_with fail
  refine (add_any bn bd cn cd _ (by omega) (by omega) (by omega) (by omega)).mono ?_
  rintro e w10 ⟨rfl, hb10⟩
  rw [HU.out]
  have hz10 := hb10.size
  (try simp at hz10)
  have bb10 : Below w9.heap.size w9 w10 := (by repeat (first | exact Below.refl _ _ | assumption | refine below_drewN ?_ _ | refine Below.setCell ?_ (by first | (simp; done) | (simp; omega)) _ | refine Below.alloc ?_ (by first | (simp; done) | (simp; omega) | omega) _ | refine Below.drew ?_ | refine Below.trans ?_ (Below.mono (by assumption) (by first | (simp; done) | (simp; omega) | omega))))
  have l10_a : w.heap.size < w10.heap.size := by omega
  have a10_a : w10.cell? ⟨w.heap.size, 0, none⟩ = some (.int .i64 (an)) := cell_keep bb10 a9_a
  have c10_a : w10.cell? ⟨w.heap.size, 1, none⟩ = some (.int .i64 (ad)) := cell_keep bb10 c9_a
  have l10_b : w.heap.size + 1 < w10.heap.size := by omega
  have a10_b : w10.cell? ⟨w.heap.size + 1, 0, none⟩ = some (.int .i64 (bn)) := cell_keep bb10 a9_b
  have c10_b : w10.cell? ⟨w.heap.size + 1, 1, none⟩ = some (.int .i64 (bd)) := cell_keep bb10 c9_b
  have l10_c : w.heap.size + 1 + 1 < w10.heap.size := by omega
  have a10_c : w10.cell? ⟨w.heap.size + 1 + 1, 0, none⟩ = some (.int .i64 (cn)) := cell_keep bb10 a9_c
  have c10_c : w10.cell? ⟨w.heap.size + 1 + 1, 1, none⟩ = some (.int .i64 (cd)) := cell_keep bb10 c9_c
  have l10_s : w5.heap.size < w10.heap.size := by omega
  have a10_s : w10.cell? ⟨w5.heap.size, 0, none⟩ = some (.int .i64 (s1)) := cell_keep bb10 a9_s
  have c10_s : w10.cell? ⟨w5.heap.size, 1, none⟩ = some (.int .i64 (s2)) := cell_keep bb10 c9_s
  have l10_p : w7.heap.size < w10.heap.size := by omega
  have a10_p : w10.cell? ⟨w7.heap.size, 0, none⟩ = some (.int .i64 (p1)) := cell_keep bb10 a9_p
  have c10_p : w10.cell? ⟨w7.heap.size, 1, none⟩ = some (.int .i64 (p2)) := cell_keep bb10 c9_p
  have be10 : Below w.heap.size w w10 := (by repeat (first | exact Below.refl _ _ | assumption | refine below_drewN ?_ _ | refine Below.setCell ?_ (by first | (simp; done) | (simp; omega)) _ | refine Below.alloc ?_ (by first | (simp; done) | (simp; omega) | omega) _ | refine Below.drew ?_ | refine Below.trans ?_ (Below.mono (by assumption) (by first | (simp; done) | (simp; omega) | omega))))
  clear hb10 bb10 be9 l9_a a9_a c9_a l9_b a9_b c9_b l9_c a9_c c9_c l9_s a9_s c9_s l9_p a9_p c9_p
  simp only [RV]
  go_wp2_with fail
  refine (mul_any bn bd cn cd _ (by omega) (by omega) (by omega) (by omega)).mono ?_
  rintro e w11 ⟨rfl, hb11⟩
  rw [HV.out]
  have hz11 := hb11.size
  (try simp at hz11)
  have bb11 : Below w10.heap.size w10 w11 := (by repeat (first | exact Below.refl _ _ | assumption | refine below_drewN ?_ _ | refine Below.setCell ?_ (by first | (simp; done) | (simp; omega)) _ | refine Below.alloc ?_ (by first | (simp; done) | (simp; omega) | omega) _ | refine Below.drew ?_ | refine Below.trans ?_ (Below.mono (by assumption) (by first | (simp; done) | (simp; omega) | omega))))
  have l11_a : w.heap.size < w11.heap.size := by omega
  have a11_a : w11.cell? ⟨w.heap.size, 0, none⟩ = some (.int .i64 (an)) := cell_keep bb11 a10_a
  have c11_a : w11.cell? ⟨w.heap.size, 1, none⟩ = some (.int .i64 (ad)) := cell_keep bb11 c10_a
  have l11_b : w.heap.size + 1 < w11.heap.size := by omega
  have a11_b : w11.cell? ⟨w.heap.size + 1, 0, none⟩ = some (.int .i64 (bn)) := cell_keep bb11 a10_b
  have c11_b : w11.cell? ⟨w.heap.size + 1, 1, none⟩ = some (.int .i64 (bd)) := cell_keep bb11 c10_b
  have l11_c : w.heap.size + 1 + 1 < w11.heap.size := by omega
  have a11_c : w11.cell? ⟨w.heap.size + 1 + 1, 0, none⟩ = some (.int .i64 (cn)) := cell_keep bb11 a10_c
  have c11_c : w11.cell? ⟨w.heap.size + 1 + 1, 1, none⟩ = some (.int .i64 (cd)) := cell_keep bb11 c10_c
  have l11_s : w5.heap.size < w11.heap.size := by omega
  have a11_s : w11.cell? ⟨w5.heap.size, 0, none⟩ = some (.int .i64 (s1)) := cell_keep bb11 a10_s
  have c11_s : w11.cell? ⟨w5.heap.size, 1, none⟩ = some (.int .i64 (s2)) := cell_keep bb11 c10_s
  have l11_p : w7.heap.size < w11.heap.size := by omega
  have a11_p : w11.cell? ⟨w7.heap.size, 0, none⟩ = some (.int .i64 (p1)) := cell_keep bb11 a10_p
  have c11_p : w11.cell? ⟨w7.heap.size, 1, none⟩ = some (.int .i64 (p2)) := cell_keep bb11 c10_p
  have l11_u : w10.heap.size < w11.heap.size := by omega
  have a11_u : w11.cell? ⟨w10.heap.size, 0, none⟩ = some (.int .i64 (u1)) := cell_keep hb11 (by go_simp)
  have c11_u : w11.cell? ⟨w10.heap.size, 1, none⟩ = some (.int .i64 (u2)) := cell_keep hb11 (by go_simp)
  have be11 : Below w.heap.size w w11 := (by repeat (first | exact Below.refl _ _ | assumption | refine below_drewN ?_ _ | refine Below.setCell ?_ (by first | (simp; done) | (simp; omega)) _ | refine Below.alloc ?_ (by first | (simp; done) | (simp; omega) | omega) _ | refine Below.drew ?_ | refine Below.trans ?_ (Below.mono (by assumption) (by first | (simp; done) | (simp; omega) | omega))))
  clear hb11 bb11 be10 l10_a a10_a c10_a l10_b a10_b c10_b l10_c a10_c c10_c l10_s a10_s c10_s l10_p a10_p c10_p
  simp only [RV]
  go_wp2_with fail
  refine (mul_any an ad cn cd _ (by omega) (by omega) (by omega) (by omega)).mono ?_
  rintro e w12 ⟨rfl, hb12⟩
  rw [HW.out]
  have hz12 := hb12.size
  (try simp at hz12)
  have bb12 : Below w11.heap.size w11 w12 := (by repeat (first | exact Below.refl _ _ | assumption | refine below_drewN ?_ _ | refine Below.setCell ?_ (by first | (simp; done) | (simp; omega)) _ | refine Below.alloc ?_ (by first | (simp; done) | (simp; omega) | omega) _ | refine Below.drew ?_ | refine Below.trans ?_ (Below.mono (by assumption) (by first | (simp; done) | (simp; omega) | omega))))
  have l12_a : w.heap.size < w12.heap.size := by omega
  have a12_a : w12.cell? ⟨w.heap.size, 0, none⟩ = some (.int .i64 (an)) := cell_keep bb12 a11_a
  have c12_a : w12.cell? ⟨w.heap.size, 1, none⟩ = some (.int .i64 (ad)) := cell_keep bb12 c11_a
  have l12_b : w.heap.size + 1 < w12.heap.size := by omega
  have a12_b : w12.cell? ⟨w.heap.size + 1, 0, none⟩ = some (.int .i64 (bn)) := cell_keep bb12 a11_b
  have c12_b : w12.cell? ⟨w.heap.size + 1, 1, none⟩ = some (.int .i64 (bd)) := cell_keep bb12 c11_b
  have l12_c : w.heap.size + 1 + 1 < w12.heap.size := by omega
  have a12_c : w12.cell? ⟨w.heap.size + 1 + 1, 0, none⟩ = some (.int .i64 (cn)) := cell_keep bb12 a11_c
  have c12_c : w12.cell? ⟨w.heap.size + 1 + 1, 1, none⟩ = some (.int .i64 (cd)) := cell_keep bb12 c11_c
  have l12_s : w5.heap.size < w12.heap.size := by omega
  have a12_s : w12.cell? ⟨w5.heap.size, 0, none⟩ = some (.int .i64 (s1)) := cell_keep bb12 a11_s
  have c12_s : w12.cell? ⟨w5.heap.size, 1, none⟩ = some (.int .i64 (s2)) := cell_keep bb12 c11_s
  have l12_p : w7.heap.size < w12.heap.size := by omega
  have a12_p : w12.cell? ⟨w7.heap.size, 0, none⟩ = some (.int .i64 (p1)) := cell_keep bb12 a11_p
  have c12_p : w12.cell? ⟨w7.heap.size, 1, none⟩ = some (.int .i64 (p2)) := cell_keep bb12 c11_p
  have l12_u : w10.heap.size < w12.heap.size := by omega
  have a12_u : w12.cell? ⟨w10.heap.size, 0, none⟩ = some (.int .i64 (u1)) := cell_keep bb12 a11_u
  have c12_u : w12.cell? ⟨w10.heap.size, 1, none⟩ = some (.int .i64 (u2)) := cell_keep bb12 c11_u
  have l12_v : w11.heap.size < w12.heap.size := by omega
  have a12_v : w12.cell? ⟨w11.heap.size, 0, none⟩ = some (.int .i64 (v1)) := cell_keep hb12 (by go_simp)
  have c12_v : w12.cell? ⟨w11.heap.size, 1, none⟩ = some (.int .i64 (v2)) := cell_keep hb12 (by go_simp)
  have be12 : Below w.heap.size w w12 := (by repeat (first | exact Below.refl _ _ | assumption | refine below_drewN ?_ _ | refine Below.setCell ?_ (by first | (simp; done) | (simp; omega)) _ | refine Below.alloc ?_ (by first | (simp; done) | (simp; omega) | omega) _ | refine Below.drew ?_ | refine Below.trans ?_ (Below.mono (by assumption) (by first | (simp; done) | (simp; omega) | omega))))
  clear hb12 bb12 be11 l11_a a11_a c11_a l11_b a11_b c11_b l11_c a11_c c11_c l11_s a11_s c11_s l11_p a11_p c11_p l11_u a11_u c11_u
  simp only [RV]
  go_wp2
  go_ret
  exact ⟨rfl, (by repeat (first | exact Below.refl _ _ | assumption | refine below_drewN ?_ _ | refine Below.setCell ?_ (by first | (simp; done) | (simp; omega)) _ | refine Below.alloc ?_ (by first | (simp; done) | (simp; omega) | omega) _ | refine Below.drew ?_ | refine Below.trans ?_ (Below.mono (by assumption) (by first | (simp; done) | (simp; omega) | omega))))⟩
end Go.Proofs.YtnfbagihbgmpfaaDoor

/- QuantityLinear: the walk of the law. -/
import Derived.Test.YtfddfjokpaepfaaQlW
namespace Go.Proofs.Ytfddfjokpaepfaa
open Go.RowKit

set_option maxRecDepth 100000 in
set_option maxHeartbeats 1600000 in
theorem lin_big (p : Option Addr) (cap : Nat) (us : List Qn.Un) (a b : Qn.R) (fr tt : Int) (w : World) (ht : Tab w p us) (hs : smallB us 0 = false) :
    Calls Try.prog 7 #[.slice p us.length cap, .agg #[.int .i64 a.1, .int .i64 a.2], .agg #[.int .i64 b.1, .int .i64 b.2], .int .i64 fr, .int .i64 tt] w fun e w' => e = .returned (.bool true) ∧ Below w.heap.size w w' := by
  have HT0 := Lib.hid ht
  clear ht
  have HS := Lib.hid hs
  clear hs
  go_enter Try.func7, Try.ntmps7
  go_wp2_with fail
  refine (head_any _).mono ?_
  rintro e w1 ⟨rfl, hb1⟩
  have hz1 := hb1.size
  (try simp at hz1)
  have bb1 : Below w.heap.size w w1 := (by repeat (first | exact Below.refl _ _ | assumption | refine below_drewN ?_ _ | refine Below.setCell ?_ (by first | (simp; done) | (simp; omega)) _ | refine Below.alloc ?_ (by first | (simp; done) | (simp; omega) | omega) _ | refine Below.drew ?_ | refine Below.trans ?_ (Below.mono (by assumption) (by first | (simp; done) | (simp; omega) | omega))))
  have be1 : Below w.heap.size w w1 := bb1
  have c1_a_0 : w1.cell? ⟨w.heap.size, 0, none⟩ = some (.int .i64 a.1) := cell_keep hb1 (by go_simp)
  have c1_a_1 : w1.cell? ⟨w.heap.size, 1, none⟩ = some (.int .i64 a.2) := cell_keep hb1 (by go_simp)
  have l1_a : w.heap.size < w1.heap.size := by omega
  have m1_a : w.heap.size < w1.heap.size + 1 := by omega
  have c1_b_0 : w1.cell? ⟨w.heap.size + 1, 0, none⟩ = some (.int .i64 b.1) := cell_keep hb1 (by go_simp)
  have c1_b_1 : w1.cell? ⟨w.heap.size + 1, 1, none⟩ = some (.int .i64 b.2) := cell_keep hb1 (by go_simp)
  have l1_b : w.heap.size + 1 < w1.heap.size := by omega
  have m1_b : w.heap.size + 1 < w1.heap.size + 1 := by omega
  have HT1 := Lib.hid (HT0.out.below bb1)
  have BE1 := Lib.hid be1
  clear be1 bb1 hb1 HT0
  go_wp2_with fail
  refine (small_any p none cap 0 0 us false _ (HT1.out.below (by repeat (first | exact Below.refl _ _ | assumption | refine below_drewN ?_ _ | refine Below.setCell ?_ (by first | (simp; done) | (simp; omega)) _ | refine Below.alloc ?_ (by first | (simp; done) | (simp; omega) | omega) _ | refine Below.drew ?_ | refine Below.trans ?_ (Below.mono (by assumption) (by first | (simp; done) | (simp; omega) | omega))))) HS.out).mono ?_
  rintro e w2 ⟨rfl, hb2⟩
  have hz2 := hb2.size
  (try simp at hz2)
  have bb2 : Below w1.heap.size w1 w2 := (by repeat (first | exact Below.refl _ _ | assumption | refine below_drewN ?_ _ | refine Below.setCell ?_ (by first | (simp; done) | (simp; omega)) _ | refine Below.alloc ?_ (by first | (simp; done) | (simp; omega) | omega) _ | refine Below.drew ?_ | refine Below.trans ?_ (Below.mono (by assumption) (by first | (simp; done) | (simp; omega) | omega))))
  have be2 : Below w.heap.size w w2 := BE1.out.trans (bb2.mono BE1.out.size)
  have c2_a_0 : w2.cell? ⟨w.heap.size, 0, none⟩ = some (.int .i64 a.1) := cell_keep bb2 c1_a_0
  have c2_a_1 : w2.cell? ⟨w.heap.size, 1, none⟩ = some (.int .i64 a.2) := cell_keep bb2 c1_a_1
  have l2_a : w.heap.size < w2.heap.size := by omega
  have m2_a : w.heap.size < w2.heap.size + 1 := by omega
  have c2_b_0 : w2.cell? ⟨w.heap.size + 1, 0, none⟩ = some (.int .i64 b.1) := cell_keep bb2 c1_b_0
  have c2_b_1 : w2.cell? ⟨w.heap.size + 1, 1, none⟩ = some (.int .i64 b.2) := cell_keep bb2 c1_b_1
  have l2_b : w.heap.size + 1 < w2.heap.size := by omega
  have m2_b : w.heap.size + 1 < w2.heap.size + 1 := by omega
  have HT2 := Lib.hid (HT1.out.below bb2)
  have BE2 := Lib.hid be2
  clear be2 bb2 hb2 BE1 c1_a_0 c1_a_1 l1_a m1_a c1_b_0 c1_b_1 l1_b m1_b HT1
  go_wp2_with fail
  go_ret
  exact ⟨rfl, (by have q := BE2.out; repeat (first | exact q | refine Below.setCell ?_ (by first | (simp; done) | omega | (simp; omega)) _ | refine Below.alloc ?_ (by first | (simp; done) | omega | (simp; omega)) _ | refine below_drewN ?_ _ | refine Below.drew ?_))⟩
set_option maxRecDepth 100000 in
set_option maxHeartbeats 1600000 in
theorem lin_0 (p : Option Addr) (cap : Nat) (us : List Qn.Un) (a b : Qn.R) (fr tt : Int) (s x y z : Qn.R) (xb yb zb : Int) (e f g h : Int) (w : World) (ht : Tab w p us) (hcap : us.length ≤ cap) (ha64 : B64 a.1) (hb64 : B64 b.1) (hs64 : B64 s.1) (hs : smallB us 0 = true) (ha : Rt.addS a.1 a.2 b.1 b.2 = (s.1, s.2, e)) (hx : Qn.convertS us (fr, a) tt = (xb, x, f)) (hy : Qn.convertS us (fr, b) tt = (yb, y, g)) (hz : Qn.convertS us (fr, s) tt = (zb, z, h)) (h0 : (e != 0) = true) :
    Calls Try.prog 7 #[.slice p us.length cap, .agg #[.int .i64 a.1, .int .i64 a.2], .agg #[.int .i64 b.1, .int .i64 b.2], .int .i64 fr, .int .i64 tt] w fun e w' => e = .returned (.bool true) ∧ Below w.heap.size w w' := by
  have HT0 := Lib.hid ht
  clear ht
  have HS := Lib.hid hs
  clear hs
  have HA := Lib.hid ha
  clear ha
  have HX := Lib.hid hx
  clear hx
  have HY := Lib.hid hy
  clear hy
  have HZ := Lib.hid hz
  clear hz
  go_enter Try.func7, Try.ntmps7
  go_wp2_with fail
  refine (head_any _).mono ?_
  rintro e w1 ⟨rfl, hb1⟩
  have hz1 := hb1.size
  (try simp at hz1)
  have bb1 : Below w.heap.size w w1 := (by repeat (first | exact Below.refl _ _ | assumption | refine below_drewN ?_ _ | refine Below.setCell ?_ (by first | (simp; done) | (simp; omega)) _ | refine Below.alloc ?_ (by first | (simp; done) | (simp; omega) | omega) _ | refine Below.drew ?_ | refine Below.trans ?_ (Below.mono (by assumption) (by first | (simp; done) | (simp; omega) | omega))))
  have be1 : Below w.heap.size w w1 := bb1
  have c1_a_0 : w1.cell? ⟨w.heap.size, 0, none⟩ = some (.int .i64 a.1) := cell_keep hb1 (by go_simp)
  have c1_a_1 : w1.cell? ⟨w.heap.size, 1, none⟩ = some (.int .i64 a.2) := cell_keep hb1 (by go_simp)
  have l1_a : w.heap.size < w1.heap.size := by omega
  have m1_a : w.heap.size < w1.heap.size + 1 := by omega
  have c1_b_0 : w1.cell? ⟨w.heap.size + 1, 0, none⟩ = some (.int .i64 b.1) := cell_keep hb1 (by go_simp)
  have c1_b_1 : w1.cell? ⟨w.heap.size + 1, 1, none⟩ = some (.int .i64 b.2) := cell_keep hb1 (by go_simp)
  have l1_b : w.heap.size + 1 < w1.heap.size := by omega
  have m1_b : w.heap.size + 1 < w1.heap.size + 1 := by omega
  have HT1 := Lib.hid (HT0.out.below bb1)
  have BE1 := Lib.hid be1
  clear be1 bb1 hb1 HT0
  go_wp2_with fail
  refine (small_any p none cap 0 0 us true _ (HT1.out.below (by repeat (first | exact Below.refl _ _ | assumption | refine below_drewN ?_ _ | refine Below.setCell ?_ (by first | (simp; done) | (simp; omega)) _ | refine Below.alloc ?_ (by first | (simp; done) | (simp; omega) | omega) _ | refine Below.drew ?_ | refine Below.trans ?_ (Below.mono (by assumption) (by first | (simp; done) | (simp; omega) | omega))))) HS.out).mono ?_
  rintro e w2 ⟨rfl, hb2⟩
  have hz2 := hb2.size
  (try simp at hz2)
  have bb2 : Below w1.heap.size w1 w2 := (by repeat (first | exact Below.refl _ _ | assumption | refine below_drewN ?_ _ | refine Below.setCell ?_ (by first | (simp; done) | (simp; omega)) _ | refine Below.alloc ?_ (by first | (simp; done) | (simp; omega) | omega) _ | refine Below.drew ?_ | refine Below.trans ?_ (Below.mono (by assumption) (by first | (simp; done) | (simp; omega) | omega))))
  have be2 : Below w.heap.size w w2 := BE1.out.trans (bb2.mono BE1.out.size)
  have c2_a_0 : w2.cell? ⟨w.heap.size, 0, none⟩ = some (.int .i64 a.1) := cell_keep bb2 c1_a_0
  have c2_a_1 : w2.cell? ⟨w.heap.size, 1, none⟩ = some (.int .i64 a.2) := cell_keep bb2 c1_a_1
  have l2_a : w.heap.size < w2.heap.size := by omega
  have m2_a : w.heap.size < w2.heap.size + 1 := by omega
  have c2_b_0 : w2.cell? ⟨w.heap.size + 1, 0, none⟩ = some (.int .i64 b.1) := cell_keep bb2 c1_b_0
  have c2_b_1 : w2.cell? ⟨w.heap.size + 1, 1, none⟩ = some (.int .i64 b.2) := cell_keep bb2 c1_b_1
  have l2_b : w.heap.size + 1 < w2.heap.size := by omega
  have m2_b : w.heap.size + 1 < w2.heap.size + 1 := by omega
  have HT2 := Lib.hid (HT1.out.below bb2)
  have BE2 := Lib.hid be2
  clear be2 bb2 hb2 BE1 c1_a_0 c1_a_1 l1_a m1_a c1_b_0 c1_b_1 l1_b m1_b HT1
  go_wp2_with fail
  refine (add_any a.1 a.2 b.1 b.2 _ ha64.1 ha64.2 hb64.1 hb64.2).mono ?_
  rintro e w3 ⟨rfl, hb3⟩
  rw [HA.out]
  simp only [RV]
  have hz3 := hb3.size
  (try simp at hz3)
  have bb3 : Below w2.heap.size w2 w3 := (by repeat (first | exact Below.refl _ _ | assumption | refine below_drewN ?_ _ | refine Below.setCell ?_ (by first | (simp; done) | (simp; omega)) _ | refine Below.alloc ?_ (by first | (simp; done) | (simp; omega) | omega) _ | refine Below.drew ?_ | refine Below.trans ?_ (Below.mono (by assumption) (by first | (simp; done) | (simp; omega) | omega))))
  have be3 : Below w.heap.size w w3 := BE2.out.trans (bb3.mono BE2.out.size)
  have c3_a_0 : w3.cell? ⟨w.heap.size, 0, none⟩ = some (.int .i64 a.1) := cell_keep bb3 c2_a_0
  have c3_a_1 : w3.cell? ⟨w.heap.size, 1, none⟩ = some (.int .i64 a.2) := cell_keep bb3 c2_a_1
  have l3_a : w.heap.size < w3.heap.size := by omega
  have m3_a : w.heap.size < w3.heap.size + 1 := by omega
  have c3_b_0 : w3.cell? ⟨w.heap.size + 1, 0, none⟩ = some (.int .i64 b.1) := cell_keep bb3 c2_b_0
  have c3_b_1 : w3.cell? ⟨w.heap.size + 1, 1, none⟩ = some (.int .i64 b.2) := cell_keep bb3 c2_b_1
  have l3_b : w.heap.size + 1 < w3.heap.size := by omega
  have m3_b : w.heap.size + 1 < w3.heap.size + 1 := by omega
  have HT3 := Lib.hid (HT2.out.below bb3)
  have BE3 := Lib.hid be3
  clear be3 bb3 hb3 BE2 c2_a_0 c2_a_1 l2_a m2_a c2_b_0 c2_b_1 l2_b m2_b HT2
  go_wp2_with fail
  refine (conv_any p cap us (fr, a) tt _ (HT3.out.below (by repeat (first | exact Below.refl _ _ | assumption | refine below_drewN ?_ _ | refine Below.setCell ?_ (by first | (simp; done) | (simp; omega)) _ | refine Below.alloc ?_ (by first | (simp; done) | (simp; omega) | omega) _ | refine Below.drew ?_ | refine Below.trans ?_ (Below.mono (by assumption) (by first | (simp; done) | (simp; omega) | omega))))) hcap ha64).mono ?_
  rintro e w4 ⟨rfl, hb4⟩
  rw [HX.out]
  simp only [RA]
  have hz4 := hb4.size
  (try simp at hz4)
  have bb4 : Below w3.heap.size w3 w4 := (by repeat (first | exact Below.refl _ _ | assumption | refine below_drewN ?_ _ | refine Below.setCell ?_ (by first | (simp; done) | (simp; omega)) _ | refine Below.alloc ?_ (by first | (simp; done) | (simp; omega) | omega) _ | refine Below.drew ?_ | refine Below.trans ?_ (Below.mono (by assumption) (by first | (simp; done) | (simp; omega) | omega))))
  have be4 : Below w.heap.size w w4 := BE3.out.trans (bb4.mono BE3.out.size)
  have c4_a_0 : w4.cell? ⟨w.heap.size, 0, none⟩ = some (.int .i64 a.1) := cell_keep bb4 c3_a_0
  have c4_a_1 : w4.cell? ⟨w.heap.size, 1, none⟩ = some (.int .i64 a.2) := cell_keep bb4 c3_a_1
  have l4_a : w.heap.size < w4.heap.size := by omega
  have m4_a : w.heap.size < w4.heap.size + 1 := by omega
  have c4_b_0 : w4.cell? ⟨w.heap.size + 1, 0, none⟩ = some (.int .i64 b.1) := cell_keep bb4 c3_b_0
  have c4_b_1 : w4.cell? ⟨w.heap.size + 1, 1, none⟩ = some (.int .i64 b.2) := cell_keep bb4 c3_b_1
  have l4_b : w.heap.size + 1 < w4.heap.size := by omega
  have m4_b : w.heap.size + 1 < w4.heap.size + 1 := by omega
  have c4_s_0 : w4.cell? ⟨w3.heap.size, 0, none⟩ = some (.int .i64 s.1) := cell_keep hb4 (by go_simp)
  have c4_s_1 : w4.cell? ⟨w3.heap.size, 1, none⟩ = some (.int .i64 s.2) := cell_keep hb4 (by go_simp)
  have l4_s : w3.heap.size < w4.heap.size := by omega
  have m4_s : w3.heap.size < w4.heap.size + 1 := by omega
  have HT4 := Lib.hid (HT3.out.below bb4)
  have BE4 := Lib.hid be4
  clear be4 bb4 hb4 BE3 c3_a_0 c3_a_1 l3_a m3_a c3_b_0 c3_b_1 l3_b m3_b HT3
  go_wp2_with fail
  refine (conv_any p cap us (fr, b) tt _ (HT4.out.below (by repeat (first | exact Below.refl _ _ | assumption | refine below_drewN ?_ _ | refine Below.setCell ?_ (by first | (simp; done) | (simp; omega)) _ | refine Below.alloc ?_ (by first | (simp; done) | (simp; omega) | omega) _ | refine Below.drew ?_ | refine Below.trans ?_ (Below.mono (by assumption) (by first | (simp; done) | (simp; omega) | omega))))) hcap hb64).mono ?_
  rintro e w5 ⟨rfl, hb5⟩
  rw [HY.out]
  simp only [RA]
  have hz5 := hb5.size
  (try simp at hz5)
  have bb5 : Below w4.heap.size w4 w5 := (by repeat (first | exact Below.refl _ _ | assumption | refine below_drewN ?_ _ | refine Below.setCell ?_ (by first | (simp; done) | (simp; omega)) _ | refine Below.alloc ?_ (by first | (simp; done) | (simp; omega) | omega) _ | refine Below.drew ?_ | refine Below.trans ?_ (Below.mono (by assumption) (by first | (simp; done) | (simp; omega) | omega))))
  have be5 : Below w.heap.size w w5 := BE4.out.trans (bb5.mono BE4.out.size)
  have c5_a_0 : w5.cell? ⟨w.heap.size, 0, none⟩ = some (.int .i64 a.1) := cell_keep bb5 c4_a_0
  have c5_a_1 : w5.cell? ⟨w.heap.size, 1, none⟩ = some (.int .i64 a.2) := cell_keep bb5 c4_a_1
  have l5_a : w.heap.size < w5.heap.size := by omega
  have m5_a : w.heap.size < w5.heap.size + 1 := by omega
  have c5_b_0 : w5.cell? ⟨w.heap.size + 1, 0, none⟩ = some (.int .i64 b.1) := cell_keep bb5 c4_b_0
  have c5_b_1 : w5.cell? ⟨w.heap.size + 1, 1, none⟩ = some (.int .i64 b.2) := cell_keep bb5 c4_b_1
  have l5_b : w.heap.size + 1 < w5.heap.size := by omega
  have m5_b : w.heap.size + 1 < w5.heap.size + 1 := by omega
  have c5_s_0 : w5.cell? ⟨w3.heap.size, 0, none⟩ = some (.int .i64 s.1) := cell_keep bb5 c4_s_0
  have c5_s_1 : w5.cell? ⟨w3.heap.size, 1, none⟩ = some (.int .i64 s.2) := cell_keep bb5 c4_s_1
  have l5_s : w3.heap.size < w5.heap.size := by omega
  have m5_s : w3.heap.size < w5.heap.size + 1 := by omega
  have c5_x_0 : w5.cell? ⟨w4.heap.size, 0, none⟩ = some (.int .i64 xb) := cell_keep hb5 (by go_simp)
  have c5_x_1 : w5.cell? ⟨w4.heap.size, 1, none⟩ = some (.int .i64 x.1) := cell_keep hb5 (by go_simp)
  have c5_x_2 : w5.cell? ⟨w4.heap.size, 2, none⟩ = some (.int .i64 x.2) := cell_keep hb5 (by go_simp)
  have l5_x : w4.heap.size < w5.heap.size := by omega
  have m5_x : w4.heap.size < w5.heap.size + 1 := by omega
  have HT5 := Lib.hid (HT4.out.below bb5)
  have BE5 := Lib.hid be5
  clear be5 bb5 hb5 BE4 c4_a_0 c4_a_1 l4_a m4_a c4_b_0 c4_b_1 l4_b m4_b c4_s_0 c4_s_1 l4_s m4_s HT4
  go_wp2_with fail
  refine (conv_any p cap us (fr, s) tt _ (HT5.out.below (by repeat (first | exact Below.refl _ _ | assumption | refine below_drewN ?_ _ | refine Below.setCell ?_ (by first | (simp; done) | (simp; omega)) _ | refine Below.alloc ?_ (by first | (simp; done) | (simp; omega) | omega) _ | refine Below.drew ?_ | refine Below.trans ?_ (Below.mono (by assumption) (by first | (simp; done) | (simp; omega) | omega))))) hcap hs64).mono ?_
  rintro e w6 ⟨rfl, hb6⟩
  rw [HZ.out]
  simp only [RA]
  have hz6 := hb6.size
  (try simp at hz6)
  have bb6 : Below w5.heap.size w5 w6 := (by repeat (first | exact Below.refl _ _ | assumption | refine below_drewN ?_ _ | refine Below.setCell ?_ (by first | (simp; done) | (simp; omega)) _ | refine Below.alloc ?_ (by first | (simp; done) | (simp; omega) | omega) _ | refine Below.drew ?_ | refine Below.trans ?_ (Below.mono (by assumption) (by first | (simp; done) | (simp; omega) | omega))))
  have be6 : Below w.heap.size w w6 := BE5.out.trans (bb6.mono BE5.out.size)
  have c6_a_0 : w6.cell? ⟨w.heap.size, 0, none⟩ = some (.int .i64 a.1) := cell_keep bb6 c5_a_0
  have c6_a_1 : w6.cell? ⟨w.heap.size, 1, none⟩ = some (.int .i64 a.2) := cell_keep bb6 c5_a_1
  have l6_a : w.heap.size < w6.heap.size := by omega
  have m6_a : w.heap.size < w6.heap.size + 1 := by omega
  have c6_b_0 : w6.cell? ⟨w.heap.size + 1, 0, none⟩ = some (.int .i64 b.1) := cell_keep bb6 c5_b_0
  have c6_b_1 : w6.cell? ⟨w.heap.size + 1, 1, none⟩ = some (.int .i64 b.2) := cell_keep bb6 c5_b_1
  have l6_b : w.heap.size + 1 < w6.heap.size := by omega
  have m6_b : w.heap.size + 1 < w6.heap.size + 1 := by omega
  have c6_s_0 : w6.cell? ⟨w3.heap.size, 0, none⟩ = some (.int .i64 s.1) := cell_keep bb6 c5_s_0
  have c6_s_1 : w6.cell? ⟨w3.heap.size, 1, none⟩ = some (.int .i64 s.2) := cell_keep bb6 c5_s_1
  have l6_s : w3.heap.size < w6.heap.size := by omega
  have m6_s : w3.heap.size < w6.heap.size + 1 := by omega
  have c6_x_0 : w6.cell? ⟨w4.heap.size, 0, none⟩ = some (.int .i64 xb) := cell_keep bb6 c5_x_0
  have c6_x_1 : w6.cell? ⟨w4.heap.size, 1, none⟩ = some (.int .i64 x.1) := cell_keep bb6 c5_x_1
  have c6_x_2 : w6.cell? ⟨w4.heap.size, 2, none⟩ = some (.int .i64 x.2) := cell_keep bb6 c5_x_2
  have l6_x : w4.heap.size < w6.heap.size := by omega
  have m6_x : w4.heap.size < w6.heap.size + 1 := by omega
  have c6_y_0 : w6.cell? ⟨w5.heap.size, 0, none⟩ = some (.int .i64 yb) := cell_keep hb6 (by go_simp)
  have c6_y_1 : w6.cell? ⟨w5.heap.size, 1, none⟩ = some (.int .i64 y.1) := cell_keep hb6 (by go_simp)
  have c6_y_2 : w6.cell? ⟨w5.heap.size, 2, none⟩ = some (.int .i64 y.2) := cell_keep hb6 (by go_simp)
  have l6_y : w5.heap.size < w6.heap.size := by omega
  have m6_y : w5.heap.size < w6.heap.size + 1 := by omega
  have HT6 := Lib.hid (HT5.out.below bb6)
  have BE6 := Lib.hid be6
  clear be6 bb6 hb6 BE5 c5_a_0 c5_a_1 l5_a m5_a c5_b_0 c5_b_1 l5_b m5_b c5_s_0 c5_s_1 l5_s m5_s c5_x_0 c5_x_1 c5_x_2 l5_x m5_x HT5
  go_wp2_with fail
  go_ret
  exact ⟨rfl, (by have q := BE6.out; repeat (first | exact q | refine Below.setCell ?_ (by first | (simp; done) | omega | (simp; omega)) _ | refine Below.alloc ?_ (by first | (simp; done) | omega | (simp; omega)) _ | refine below_drewN ?_ _ | refine Below.drew ?_))⟩
set_option maxRecDepth 100000 in
set_option maxHeartbeats 1600000 in
theorem lin_1 (p : Option Addr) (cap : Nat) (us : List Qn.Un) (a b : Qn.R) (fr tt : Int) (s x y z : Qn.R) (xb yb zb : Int) (f g h : Int) (w : World) (ht : Tab w p us) (hcap : us.length ≤ cap) (ha64 : B64 a.1) (hb64 : B64 b.1) (hs64 : B64 s.1) (hs : smallB us 0 = true) (ha : Rt.addS a.1 a.2 b.1 b.2 = (s.1, s.2, 0)) (hx : Qn.convertS us (fr, a) tt = (xb, x, f)) (hy : Qn.convertS us (fr, b) tt = (yb, y, g)) (hz : Qn.convertS us (fr, s) tt = (zb, z, h)) (h0 : (f != 0) = true) :
    Calls Try.prog 7 #[.slice p us.length cap, .agg #[.int .i64 a.1, .int .i64 a.2], .agg #[.int .i64 b.1, .int .i64 b.2], .int .i64 fr, .int .i64 tt] w fun e w' => e = .returned (.bool true) ∧ Below w.heap.size w w' := by
  have HT0 := Lib.hid ht
  clear ht
  have HS := Lib.hid hs
  clear hs
  have HA := Lib.hid ha
  clear ha
  have HX := Lib.hid hx
  clear hx
  have HY := Lib.hid hy
  clear hy
  have HZ := Lib.hid hz
  clear hz
  go_enter Try.func7, Try.ntmps7
  go_wp2_with fail
  refine (head_any _).mono ?_
  rintro e w1 ⟨rfl, hb1⟩
  have hz1 := hb1.size
  (try simp at hz1)
  have bb1 : Below w.heap.size w w1 := (by repeat (first | exact Below.refl _ _ | assumption | refine below_drewN ?_ _ | refine Below.setCell ?_ (by first | (simp; done) | (simp; omega)) _ | refine Below.alloc ?_ (by first | (simp; done) | (simp; omega) | omega) _ | refine Below.drew ?_ | refine Below.trans ?_ (Below.mono (by assumption) (by first | (simp; done) | (simp; omega) | omega))))
  have be1 : Below w.heap.size w w1 := bb1
  have c1_a_0 : w1.cell? ⟨w.heap.size, 0, none⟩ = some (.int .i64 a.1) := cell_keep hb1 (by go_simp)
  have c1_a_1 : w1.cell? ⟨w.heap.size, 1, none⟩ = some (.int .i64 a.2) := cell_keep hb1 (by go_simp)
  have l1_a : w.heap.size < w1.heap.size := by omega
  have m1_a : w.heap.size < w1.heap.size + 1 := by omega
  have c1_b_0 : w1.cell? ⟨w.heap.size + 1, 0, none⟩ = some (.int .i64 b.1) := cell_keep hb1 (by go_simp)
  have c1_b_1 : w1.cell? ⟨w.heap.size + 1, 1, none⟩ = some (.int .i64 b.2) := cell_keep hb1 (by go_simp)
  have l1_b : w.heap.size + 1 < w1.heap.size := by omega
  have m1_b : w.heap.size + 1 < w1.heap.size + 1 := by omega
  have HT1 := Lib.hid (HT0.out.below bb1)
  have BE1 := Lib.hid be1
  clear be1 bb1 hb1 HT0
  go_wp2_with fail
  refine (small_any p none cap 0 0 us true _ (HT1.out.below (by repeat (first | exact Below.refl _ _ | assumption | refine below_drewN ?_ _ | refine Below.setCell ?_ (by first | (simp; done) | (simp; omega)) _ | refine Below.alloc ?_ (by first | (simp; done) | (simp; omega) | omega) _ | refine Below.drew ?_ | refine Below.trans ?_ (Below.mono (by assumption) (by first | (simp; done) | (simp; omega) | omega))))) HS.out).mono ?_
  rintro e w2 ⟨rfl, hb2⟩
  have hz2 := hb2.size
  (try simp at hz2)
  have bb2 : Below w1.heap.size w1 w2 := (by repeat (first | exact Below.refl _ _ | assumption | refine below_drewN ?_ _ | refine Below.setCell ?_ (by first | (simp; done) | (simp; omega)) _ | refine Below.alloc ?_ (by first | (simp; done) | (simp; omega) | omega) _ | refine Below.drew ?_ | refine Below.trans ?_ (Below.mono (by assumption) (by first | (simp; done) | (simp; omega) | omega))))
  have be2 : Below w.heap.size w w2 := BE1.out.trans (bb2.mono BE1.out.size)
  have c2_a_0 : w2.cell? ⟨w.heap.size, 0, none⟩ = some (.int .i64 a.1) := cell_keep bb2 c1_a_0
  have c2_a_1 : w2.cell? ⟨w.heap.size, 1, none⟩ = some (.int .i64 a.2) := cell_keep bb2 c1_a_1
  have l2_a : w.heap.size < w2.heap.size := by omega
  have m2_a : w.heap.size < w2.heap.size + 1 := by omega
  have c2_b_0 : w2.cell? ⟨w.heap.size + 1, 0, none⟩ = some (.int .i64 b.1) := cell_keep bb2 c1_b_0
  have c2_b_1 : w2.cell? ⟨w.heap.size + 1, 1, none⟩ = some (.int .i64 b.2) := cell_keep bb2 c1_b_1
  have l2_b : w.heap.size + 1 < w2.heap.size := by omega
  have m2_b : w.heap.size + 1 < w2.heap.size + 1 := by omega
  have HT2 := Lib.hid (HT1.out.below bb2)
  have BE2 := Lib.hid be2
  clear be2 bb2 hb2 BE1 c1_a_0 c1_a_1 l1_a m1_a c1_b_0 c1_b_1 l1_b m1_b HT1
  go_wp2_with fail
  refine (add_any a.1 a.2 b.1 b.2 _ ha64.1 ha64.2 hb64.1 hb64.2).mono ?_
  rintro e w3 ⟨rfl, hb3⟩
  rw [HA.out]
  simp only [RV]
  have hz3 := hb3.size
  (try simp at hz3)
  have bb3 : Below w2.heap.size w2 w3 := (by repeat (first | exact Below.refl _ _ | assumption | refine below_drewN ?_ _ | refine Below.setCell ?_ (by first | (simp; done) | (simp; omega)) _ | refine Below.alloc ?_ (by first | (simp; done) | (simp; omega) | omega) _ | refine Below.drew ?_ | refine Below.trans ?_ (Below.mono (by assumption) (by first | (simp; done) | (simp; omega) | omega))))
  have be3 : Below w.heap.size w w3 := BE2.out.trans (bb3.mono BE2.out.size)
  have c3_a_0 : w3.cell? ⟨w.heap.size, 0, none⟩ = some (.int .i64 a.1) := cell_keep bb3 c2_a_0
  have c3_a_1 : w3.cell? ⟨w.heap.size, 1, none⟩ = some (.int .i64 a.2) := cell_keep bb3 c2_a_1
  have l3_a : w.heap.size < w3.heap.size := by omega
  have m3_a : w.heap.size < w3.heap.size + 1 := by omega
  have c3_b_0 : w3.cell? ⟨w.heap.size + 1, 0, none⟩ = some (.int .i64 b.1) := cell_keep bb3 c2_b_0
  have c3_b_1 : w3.cell? ⟨w.heap.size + 1, 1, none⟩ = some (.int .i64 b.2) := cell_keep bb3 c2_b_1
  have l3_b : w.heap.size + 1 < w3.heap.size := by omega
  have m3_b : w.heap.size + 1 < w3.heap.size + 1 := by omega
  have HT3 := Lib.hid (HT2.out.below bb3)
  have BE3 := Lib.hid be3
  clear be3 bb3 hb3 BE2 c2_a_0 c2_a_1 l2_a m2_a c2_b_0 c2_b_1 l2_b m2_b HT2
  go_wp2_with fail
  refine (conv_any p cap us (fr, a) tt _ (HT3.out.below (by repeat (first | exact Below.refl _ _ | assumption | refine below_drewN ?_ _ | refine Below.setCell ?_ (by first | (simp; done) | (simp; omega)) _ | refine Below.alloc ?_ (by first | (simp; done) | (simp; omega) | omega) _ | refine Below.drew ?_ | refine Below.trans ?_ (Below.mono (by assumption) (by first | (simp; done) | (simp; omega) | omega))))) hcap ha64).mono ?_
  rintro e w4 ⟨rfl, hb4⟩
  rw [HX.out]
  simp only [RA]
  have hz4 := hb4.size
  (try simp at hz4)
  have bb4 : Below w3.heap.size w3 w4 := (by repeat (first | exact Below.refl _ _ | assumption | refine below_drewN ?_ _ | refine Below.setCell ?_ (by first | (simp; done) | (simp; omega)) _ | refine Below.alloc ?_ (by first | (simp; done) | (simp; omega) | omega) _ | refine Below.drew ?_ | refine Below.trans ?_ (Below.mono (by assumption) (by first | (simp; done) | (simp; omega) | omega))))
  have be4 : Below w.heap.size w w4 := BE3.out.trans (bb4.mono BE3.out.size)
  have c4_a_0 : w4.cell? ⟨w.heap.size, 0, none⟩ = some (.int .i64 a.1) := cell_keep bb4 c3_a_0
  have c4_a_1 : w4.cell? ⟨w.heap.size, 1, none⟩ = some (.int .i64 a.2) := cell_keep bb4 c3_a_1
  have l4_a : w.heap.size < w4.heap.size := by omega
  have m4_a : w.heap.size < w4.heap.size + 1 := by omega
  have c4_b_0 : w4.cell? ⟨w.heap.size + 1, 0, none⟩ = some (.int .i64 b.1) := cell_keep bb4 c3_b_0
  have c4_b_1 : w4.cell? ⟨w.heap.size + 1, 1, none⟩ = some (.int .i64 b.2) := cell_keep bb4 c3_b_1
  have l4_b : w.heap.size + 1 < w4.heap.size := by omega
  have m4_b : w.heap.size + 1 < w4.heap.size + 1 := by omega
  have c4_s_0 : w4.cell? ⟨w3.heap.size, 0, none⟩ = some (.int .i64 s.1) := cell_keep hb4 (by go_simp)
  have c4_s_1 : w4.cell? ⟨w3.heap.size, 1, none⟩ = some (.int .i64 s.2) := cell_keep hb4 (by go_simp)
  have l4_s : w3.heap.size < w4.heap.size := by omega
  have m4_s : w3.heap.size < w4.heap.size + 1 := by omega
  have HT4 := Lib.hid (HT3.out.below bb4)
  have BE4 := Lib.hid be4
  clear be4 bb4 hb4 BE3 c3_a_0 c3_a_1 l3_a m3_a c3_b_0 c3_b_1 l3_b m3_b HT3
  go_wp2_with fail
  refine (conv_any p cap us (fr, b) tt _ (HT4.out.below (by repeat (first | exact Below.refl _ _ | assumption | refine below_drewN ?_ _ | refine Below.setCell ?_ (by first | (simp; done) | (simp; omega)) _ | refine Below.alloc ?_ (by first | (simp; done) | (simp; omega) | omega) _ | refine Below.drew ?_ | refine Below.trans ?_ (Below.mono (by assumption) (by first | (simp; done) | (simp; omega) | omega))))) hcap hb64).mono ?_
  rintro e w5 ⟨rfl, hb5⟩
  rw [HY.out]
  simp only [RA]
  have hz5 := hb5.size
  (try simp at hz5)
  have bb5 : Below w4.heap.size w4 w5 := (by repeat (first | exact Below.refl _ _ | assumption | refine below_drewN ?_ _ | refine Below.setCell ?_ (by first | (simp; done) | (simp; omega)) _ | refine Below.alloc ?_ (by first | (simp; done) | (simp; omega) | omega) _ | refine Below.drew ?_ | refine Below.trans ?_ (Below.mono (by assumption) (by first | (simp; done) | (simp; omega) | omega))))
  have be5 : Below w.heap.size w w5 := BE4.out.trans (bb5.mono BE4.out.size)
  have c5_a_0 : w5.cell? ⟨w.heap.size, 0, none⟩ = some (.int .i64 a.1) := cell_keep bb5 c4_a_0
  have c5_a_1 : w5.cell? ⟨w.heap.size, 1, none⟩ = some (.int .i64 a.2) := cell_keep bb5 c4_a_1
  have l5_a : w.heap.size < w5.heap.size := by omega
  have m5_a : w.heap.size < w5.heap.size + 1 := by omega
  have c5_b_0 : w5.cell? ⟨w.heap.size + 1, 0, none⟩ = some (.int .i64 b.1) := cell_keep bb5 c4_b_0
  have c5_b_1 : w5.cell? ⟨w.heap.size + 1, 1, none⟩ = some (.int .i64 b.2) := cell_keep bb5 c4_b_1
  have l5_b : w.heap.size + 1 < w5.heap.size := by omega
  have m5_b : w.heap.size + 1 < w5.heap.size + 1 := by omega
  have c5_s_0 : w5.cell? ⟨w3.heap.size, 0, none⟩ = some (.int .i64 s.1) := cell_keep bb5 c4_s_0
  have c5_s_1 : w5.cell? ⟨w3.heap.size, 1, none⟩ = some (.int .i64 s.2) := cell_keep bb5 c4_s_1
  have l5_s : w3.heap.size < w5.heap.size := by omega
  have m5_s : w3.heap.size < w5.heap.size + 1 := by omega
  have c5_x_0 : w5.cell? ⟨w4.heap.size, 0, none⟩ = some (.int .i64 xb) := cell_keep hb5 (by go_simp)
  have c5_x_1 : w5.cell? ⟨w4.heap.size, 1, none⟩ = some (.int .i64 x.1) := cell_keep hb5 (by go_simp)
  have c5_x_2 : w5.cell? ⟨w4.heap.size, 2, none⟩ = some (.int .i64 x.2) := cell_keep hb5 (by go_simp)
  have l5_x : w4.heap.size < w5.heap.size := by omega
  have m5_x : w4.heap.size < w5.heap.size + 1 := by omega
  have HT5 := Lib.hid (HT4.out.below bb5)
  have BE5 := Lib.hid be5
  clear be5 bb5 hb5 BE4 c4_a_0 c4_a_1 l4_a m4_a c4_b_0 c4_b_1 l4_b m4_b c4_s_0 c4_s_1 l4_s m4_s HT4
  go_wp2_with fail
  refine (conv_any p cap us (fr, s) tt _ (HT5.out.below (by repeat (first | exact Below.refl _ _ | assumption | refine below_drewN ?_ _ | refine Below.setCell ?_ (by first | (simp; done) | (simp; omega)) _ | refine Below.alloc ?_ (by first | (simp; done) | (simp; omega) | omega) _ | refine Below.drew ?_ | refine Below.trans ?_ (Below.mono (by assumption) (by first | (simp; done) | (simp; omega) | omega))))) hcap hs64).mono ?_
  rintro e w6 ⟨rfl, hb6⟩
  rw [HZ.out]
  simp only [RA]
  have hz6 := hb6.size
  (try simp at hz6)
  have bb6 : Below w5.heap.size w5 w6 := (by repeat (first | exact Below.refl _ _ | assumption | refine below_drewN ?_ _ | refine Below.setCell ?_ (by first | (simp; done) | (simp; omega)) _ | refine Below.alloc ?_ (by first | (simp; done) | (simp; omega) | omega) _ | refine Below.drew ?_ | refine Below.trans ?_ (Below.mono (by assumption) (by first | (simp; done) | (simp; omega) | omega))))
  have be6 : Below w.heap.size w w6 := BE5.out.trans (bb6.mono BE5.out.size)
  have c6_a_0 : w6.cell? ⟨w.heap.size, 0, none⟩ = some (.int .i64 a.1) := cell_keep bb6 c5_a_0
  have c6_a_1 : w6.cell? ⟨w.heap.size, 1, none⟩ = some (.int .i64 a.2) := cell_keep bb6 c5_a_1
  have l6_a : w.heap.size < w6.heap.size := by omega
  have m6_a : w.heap.size < w6.heap.size + 1 := by omega
  have c6_b_0 : w6.cell? ⟨w.heap.size + 1, 0, none⟩ = some (.int .i64 b.1) := cell_keep bb6 c5_b_0
  have c6_b_1 : w6.cell? ⟨w.heap.size + 1, 1, none⟩ = some (.int .i64 b.2) := cell_keep bb6 c5_b_1
  have l6_b : w.heap.size + 1 < w6.heap.size := by omega
  have m6_b : w.heap.size + 1 < w6.heap.size + 1 := by omega
  have c6_s_0 : w6.cell? ⟨w3.heap.size, 0, none⟩ = some (.int .i64 s.1) := cell_keep bb6 c5_s_0
  have c6_s_1 : w6.cell? ⟨w3.heap.size, 1, none⟩ = some (.int .i64 s.2) := cell_keep bb6 c5_s_1
  have l6_s : w3.heap.size < w6.heap.size := by omega
  have m6_s : w3.heap.size < w6.heap.size + 1 := by omega
  have c6_x_0 : w6.cell? ⟨w4.heap.size, 0, none⟩ = some (.int .i64 xb) := cell_keep bb6 c5_x_0
  have c6_x_1 : w6.cell? ⟨w4.heap.size, 1, none⟩ = some (.int .i64 x.1) := cell_keep bb6 c5_x_1
  have c6_x_2 : w6.cell? ⟨w4.heap.size, 2, none⟩ = some (.int .i64 x.2) := cell_keep bb6 c5_x_2
  have l6_x : w4.heap.size < w6.heap.size := by omega
  have m6_x : w4.heap.size < w6.heap.size + 1 := by omega
  have c6_y_0 : w6.cell? ⟨w5.heap.size, 0, none⟩ = some (.int .i64 yb) := cell_keep hb6 (by go_simp)
  have c6_y_1 : w6.cell? ⟨w5.heap.size, 1, none⟩ = some (.int .i64 y.1) := cell_keep hb6 (by go_simp)
  have c6_y_2 : w6.cell? ⟨w5.heap.size, 2, none⟩ = some (.int .i64 y.2) := cell_keep hb6 (by go_simp)
  have l6_y : w5.heap.size < w6.heap.size := by omega
  have m6_y : w5.heap.size < w6.heap.size + 1 := by omega
  have HT6 := Lib.hid (HT5.out.below bb6)
  have BE6 := Lib.hid be6
  clear be6 bb6 hb6 BE5 c5_a_0 c5_a_1 l5_a m5_a c5_b_0 c5_b_1 l5_b m5_b c5_s_0 c5_s_1 l5_s m5_s c5_x_0 c5_x_1 c5_x_2 l5_x m5_x HT5
  go_wp2_with fail
  go_ret
  exact ⟨rfl, (by have q := BE6.out; repeat (first | exact q | refine Below.setCell ?_ (by first | (simp; done) | omega | (simp; omega)) _ | refine Below.alloc ?_ (by first | (simp; done) | omega | (simp; omega)) _ | refine below_drewN ?_ _ | refine Below.drew ?_))⟩
set_option maxRecDepth 100000 in
set_option maxHeartbeats 1600000 in
theorem lin_2 (p : Option Addr) (cap : Nat) (us : List Qn.Un) (a b : Qn.R) (fr tt : Int) (s x y z : Qn.R) (xb yb zb : Int) (g h : Int) (w : World) (ht : Tab w p us) (hcap : us.length ≤ cap) (ha64 : B64 a.1) (hb64 : B64 b.1) (hs64 : B64 s.1) (hs : smallB us 0 = true) (ha : Rt.addS a.1 a.2 b.1 b.2 = (s.1, s.2, 0)) (hx : Qn.convertS us (fr, a) tt = (xb, x, 0)) (hy : Qn.convertS us (fr, b) tt = (yb, y, g)) (hz : Qn.convertS us (fr, s) tt = (zb, z, h)) (h0 : (g != 0) = true) :
    Calls Try.prog 7 #[.slice p us.length cap, .agg #[.int .i64 a.1, .int .i64 a.2], .agg #[.int .i64 b.1, .int .i64 b.2], .int .i64 fr, .int .i64 tt] w fun e w' => e = .returned (.bool true) ∧ Below w.heap.size w w' := by
  have HT0 := Lib.hid ht
  clear ht
  have HS := Lib.hid hs
  clear hs
  have HA := Lib.hid ha
  clear ha
  have HX := Lib.hid hx
  clear hx
  have HY := Lib.hid hy
  clear hy
  have HZ := Lib.hid hz
  clear hz
  go_enter Try.func7, Try.ntmps7
  go_wp2_with fail
  refine (head_any _).mono ?_
  rintro e w1 ⟨rfl, hb1⟩
  have hz1 := hb1.size
  (try simp at hz1)
  have bb1 : Below w.heap.size w w1 := (by repeat (first | exact Below.refl _ _ | assumption | refine below_drewN ?_ _ | refine Below.setCell ?_ (by first | (simp; done) | (simp; omega)) _ | refine Below.alloc ?_ (by first | (simp; done) | (simp; omega) | omega) _ | refine Below.drew ?_ | refine Below.trans ?_ (Below.mono (by assumption) (by first | (simp; done) | (simp; omega) | omega))))
  have be1 : Below w.heap.size w w1 := bb1
  have c1_a_0 : w1.cell? ⟨w.heap.size, 0, none⟩ = some (.int .i64 a.1) := cell_keep hb1 (by go_simp)
  have c1_a_1 : w1.cell? ⟨w.heap.size, 1, none⟩ = some (.int .i64 a.2) := cell_keep hb1 (by go_simp)
  have l1_a : w.heap.size < w1.heap.size := by omega
  have m1_a : w.heap.size < w1.heap.size + 1 := by omega
  have c1_b_0 : w1.cell? ⟨w.heap.size + 1, 0, none⟩ = some (.int .i64 b.1) := cell_keep hb1 (by go_simp)
  have c1_b_1 : w1.cell? ⟨w.heap.size + 1, 1, none⟩ = some (.int .i64 b.2) := cell_keep hb1 (by go_simp)
  have l1_b : w.heap.size + 1 < w1.heap.size := by omega
  have m1_b : w.heap.size + 1 < w1.heap.size + 1 := by omega
  have HT1 := Lib.hid (HT0.out.below bb1)
  have BE1 := Lib.hid be1
  clear be1 bb1 hb1 HT0
  go_wp2_with fail
  refine (small_any p none cap 0 0 us true _ (HT1.out.below (by repeat (first | exact Below.refl _ _ | assumption | refine below_drewN ?_ _ | refine Below.setCell ?_ (by first | (simp; done) | (simp; omega)) _ | refine Below.alloc ?_ (by first | (simp; done) | (simp; omega) | omega) _ | refine Below.drew ?_ | refine Below.trans ?_ (Below.mono (by assumption) (by first | (simp; done) | (simp; omega) | omega))))) HS.out).mono ?_
  rintro e w2 ⟨rfl, hb2⟩
  have hz2 := hb2.size
  (try simp at hz2)
  have bb2 : Below w1.heap.size w1 w2 := (by repeat (first | exact Below.refl _ _ | assumption | refine below_drewN ?_ _ | refine Below.setCell ?_ (by first | (simp; done) | (simp; omega)) _ | refine Below.alloc ?_ (by first | (simp; done) | (simp; omega) | omega) _ | refine Below.drew ?_ | refine Below.trans ?_ (Below.mono (by assumption) (by first | (simp; done) | (simp; omega) | omega))))
  have be2 : Below w.heap.size w w2 := BE1.out.trans (bb2.mono BE1.out.size)
  have c2_a_0 : w2.cell? ⟨w.heap.size, 0, none⟩ = some (.int .i64 a.1) := cell_keep bb2 c1_a_0
  have c2_a_1 : w2.cell? ⟨w.heap.size, 1, none⟩ = some (.int .i64 a.2) := cell_keep bb2 c1_a_1
  have l2_a : w.heap.size < w2.heap.size := by omega
  have m2_a : w.heap.size < w2.heap.size + 1 := by omega
  have c2_b_0 : w2.cell? ⟨w.heap.size + 1, 0, none⟩ = some (.int .i64 b.1) := cell_keep bb2 c1_b_0
  have c2_b_1 : w2.cell? ⟨w.heap.size + 1, 1, none⟩ = some (.int .i64 b.2) := cell_keep bb2 c1_b_1
  have l2_b : w.heap.size + 1 < w2.heap.size := by omega
  have m2_b : w.heap.size + 1 < w2.heap.size + 1 := by omega
  have HT2 := Lib.hid (HT1.out.below bb2)
  have BE2 := Lib.hid be2
  clear be2 bb2 hb2 BE1 c1_a_0 c1_a_1 l1_a m1_a c1_b_0 c1_b_1 l1_b m1_b HT1
  go_wp2_with fail
  refine (add_any a.1 a.2 b.1 b.2 _ ha64.1 ha64.2 hb64.1 hb64.2).mono ?_
  rintro e w3 ⟨rfl, hb3⟩
  rw [HA.out]
  simp only [RV]
  have hz3 := hb3.size
  (try simp at hz3)
  have bb3 : Below w2.heap.size w2 w3 := (by repeat (first | exact Below.refl _ _ | assumption | refine below_drewN ?_ _ | refine Below.setCell ?_ (by first | (simp; done) | (simp; omega)) _ | refine Below.alloc ?_ (by first | (simp; done) | (simp; omega) | omega) _ | refine Below.drew ?_ | refine Below.trans ?_ (Below.mono (by assumption) (by first | (simp; done) | (simp; omega) | omega))))
  have be3 : Below w.heap.size w w3 := BE2.out.trans (bb3.mono BE2.out.size)
  have c3_a_0 : w3.cell? ⟨w.heap.size, 0, none⟩ = some (.int .i64 a.1) := cell_keep bb3 c2_a_0
  have c3_a_1 : w3.cell? ⟨w.heap.size, 1, none⟩ = some (.int .i64 a.2) := cell_keep bb3 c2_a_1
  have l3_a : w.heap.size < w3.heap.size := by omega
  have m3_a : w.heap.size < w3.heap.size + 1 := by omega
  have c3_b_0 : w3.cell? ⟨w.heap.size + 1, 0, none⟩ = some (.int .i64 b.1) := cell_keep bb3 c2_b_0
  have c3_b_1 : w3.cell? ⟨w.heap.size + 1, 1, none⟩ = some (.int .i64 b.2) := cell_keep bb3 c2_b_1
  have l3_b : w.heap.size + 1 < w3.heap.size := by omega
  have m3_b : w.heap.size + 1 < w3.heap.size + 1 := by omega
  have HT3 := Lib.hid (HT2.out.below bb3)
  have BE3 := Lib.hid be3
  clear be3 bb3 hb3 BE2 c2_a_0 c2_a_1 l2_a m2_a c2_b_0 c2_b_1 l2_b m2_b HT2
  go_wp2_with fail
  refine (conv_any p cap us (fr, a) tt _ (HT3.out.below (by repeat (first | exact Below.refl _ _ | assumption | refine below_drewN ?_ _ | refine Below.setCell ?_ (by first | (simp; done) | (simp; omega)) _ | refine Below.alloc ?_ (by first | (simp; done) | (simp; omega) | omega) _ | refine Below.drew ?_ | refine Below.trans ?_ (Below.mono (by assumption) (by first | (simp; done) | (simp; omega) | omega))))) hcap ha64).mono ?_
  rintro e w4 ⟨rfl, hb4⟩
  rw [HX.out]
  simp only [RA]
  have hz4 := hb4.size
  (try simp at hz4)
  have bb4 : Below w3.heap.size w3 w4 := (by repeat (first | exact Below.refl _ _ | assumption | refine below_drewN ?_ _ | refine Below.setCell ?_ (by first | (simp; done) | (simp; omega)) _ | refine Below.alloc ?_ (by first | (simp; done) | (simp; omega) | omega) _ | refine Below.drew ?_ | refine Below.trans ?_ (Below.mono (by assumption) (by first | (simp; done) | (simp; omega) | omega))))
  have be4 : Below w.heap.size w w4 := BE3.out.trans (bb4.mono BE3.out.size)
  have c4_a_0 : w4.cell? ⟨w.heap.size, 0, none⟩ = some (.int .i64 a.1) := cell_keep bb4 c3_a_0
  have c4_a_1 : w4.cell? ⟨w.heap.size, 1, none⟩ = some (.int .i64 a.2) := cell_keep bb4 c3_a_1
  have l4_a : w.heap.size < w4.heap.size := by omega
  have m4_a : w.heap.size < w4.heap.size + 1 := by omega
  have c4_b_0 : w4.cell? ⟨w.heap.size + 1, 0, none⟩ = some (.int .i64 b.1) := cell_keep bb4 c3_b_0
  have c4_b_1 : w4.cell? ⟨w.heap.size + 1, 1, none⟩ = some (.int .i64 b.2) := cell_keep bb4 c3_b_1
  have l4_b : w.heap.size + 1 < w4.heap.size := by omega
  have m4_b : w.heap.size + 1 < w4.heap.size + 1 := by omega
  have c4_s_0 : w4.cell? ⟨w3.heap.size, 0, none⟩ = some (.int .i64 s.1) := cell_keep hb4 (by go_simp)
  have c4_s_1 : w4.cell? ⟨w3.heap.size, 1, none⟩ = some (.int .i64 s.2) := cell_keep hb4 (by go_simp)
  have l4_s : w3.heap.size < w4.heap.size := by omega
  have m4_s : w3.heap.size < w4.heap.size + 1 := by omega
  have HT4 := Lib.hid (HT3.out.below bb4)
  have BE4 := Lib.hid be4
  clear be4 bb4 hb4 BE3 c3_a_0 c3_a_1 l3_a m3_a c3_b_0 c3_b_1 l3_b m3_b HT3
  go_wp2_with fail
  refine (conv_any p cap us (fr, b) tt _ (HT4.out.below (by repeat (first | exact Below.refl _ _ | assumption | refine below_drewN ?_ _ | refine Below.setCell ?_ (by first | (simp; done) | (simp; omega)) _ | refine Below.alloc ?_ (by first | (simp; done) | (simp; omega) | omega) _ | refine Below.drew ?_ | refine Below.trans ?_ (Below.mono (by assumption) (by first | (simp; done) | (simp; omega) | omega))))) hcap hb64).mono ?_
  rintro e w5 ⟨rfl, hb5⟩
  rw [HY.out]
  simp only [RA]
  have hz5 := hb5.size
  (try simp at hz5)
  have bb5 : Below w4.heap.size w4 w5 := (by repeat (first | exact Below.refl _ _ | assumption | refine below_drewN ?_ _ | refine Below.setCell ?_ (by first | (simp; done) | (simp; omega)) _ | refine Below.alloc ?_ (by first | (simp; done) | (simp; omega) | omega) _ | refine Below.drew ?_ | refine Below.trans ?_ (Below.mono (by assumption) (by first | (simp; done) | (simp; omega) | omega))))
  have be5 : Below w.heap.size w w5 := BE4.out.trans (bb5.mono BE4.out.size)
  have c5_a_0 : w5.cell? ⟨w.heap.size, 0, none⟩ = some (.int .i64 a.1) := cell_keep bb5 c4_a_0
  have c5_a_1 : w5.cell? ⟨w.heap.size, 1, none⟩ = some (.int .i64 a.2) := cell_keep bb5 c4_a_1
  have l5_a : w.heap.size < w5.heap.size := by omega
  have m5_a : w.heap.size < w5.heap.size + 1 := by omega
  have c5_b_0 : w5.cell? ⟨w.heap.size + 1, 0, none⟩ = some (.int .i64 b.1) := cell_keep bb5 c4_b_0
  have c5_b_1 : w5.cell? ⟨w.heap.size + 1, 1, none⟩ = some (.int .i64 b.2) := cell_keep bb5 c4_b_1
  have l5_b : w.heap.size + 1 < w5.heap.size := by omega
  have m5_b : w.heap.size + 1 < w5.heap.size + 1 := by omega
  have c5_s_0 : w5.cell? ⟨w3.heap.size, 0, none⟩ = some (.int .i64 s.1) := cell_keep bb5 c4_s_0
  have c5_s_1 : w5.cell? ⟨w3.heap.size, 1, none⟩ = some (.int .i64 s.2) := cell_keep bb5 c4_s_1
  have l5_s : w3.heap.size < w5.heap.size := by omega
  have m5_s : w3.heap.size < w5.heap.size + 1 := by omega
  have c5_x_0 : w5.cell? ⟨w4.heap.size, 0, none⟩ = some (.int .i64 xb) := cell_keep hb5 (by go_simp)
  have c5_x_1 : w5.cell? ⟨w4.heap.size, 1, none⟩ = some (.int .i64 x.1) := cell_keep hb5 (by go_simp)
  have c5_x_2 : w5.cell? ⟨w4.heap.size, 2, none⟩ = some (.int .i64 x.2) := cell_keep hb5 (by go_simp)
  have l5_x : w4.heap.size < w5.heap.size := by omega
  have m5_x : w4.heap.size < w5.heap.size + 1 := by omega
  have HT5 := Lib.hid (HT4.out.below bb5)
  have BE5 := Lib.hid be5
  clear be5 bb5 hb5 BE4 c4_a_0 c4_a_1 l4_a m4_a c4_b_0 c4_b_1 l4_b m4_b c4_s_0 c4_s_1 l4_s m4_s HT4
  go_wp2_with fail
  refine (conv_any p cap us (fr, s) tt _ (HT5.out.below (by repeat (first | exact Below.refl _ _ | assumption | refine below_drewN ?_ _ | refine Below.setCell ?_ (by first | (simp; done) | (simp; omega)) _ | refine Below.alloc ?_ (by first | (simp; done) | (simp; omega) | omega) _ | refine Below.drew ?_ | refine Below.trans ?_ (Below.mono (by assumption) (by first | (simp; done) | (simp; omega) | omega))))) hcap hs64).mono ?_
  rintro e w6 ⟨rfl, hb6⟩
  rw [HZ.out]
  simp only [RA]
  have hz6 := hb6.size
  (try simp at hz6)
  have bb6 : Below w5.heap.size w5 w6 := (by repeat (first | exact Below.refl _ _ | assumption | refine below_drewN ?_ _ | refine Below.setCell ?_ (by first | (simp; done) | (simp; omega)) _ | refine Below.alloc ?_ (by first | (simp; done) | (simp; omega) | omega) _ | refine Below.drew ?_ | refine Below.trans ?_ (Below.mono (by assumption) (by first | (simp; done) | (simp; omega) | omega))))
  have be6 : Below w.heap.size w w6 := BE5.out.trans (bb6.mono BE5.out.size)
  have c6_a_0 : w6.cell? ⟨w.heap.size, 0, none⟩ = some (.int .i64 a.1) := cell_keep bb6 c5_a_0
  have c6_a_1 : w6.cell? ⟨w.heap.size, 1, none⟩ = some (.int .i64 a.2) := cell_keep bb6 c5_a_1
  have l6_a : w.heap.size < w6.heap.size := by omega
  have m6_a : w.heap.size < w6.heap.size + 1 := by omega
  have c6_b_0 : w6.cell? ⟨w.heap.size + 1, 0, none⟩ = some (.int .i64 b.1) := cell_keep bb6 c5_b_0
  have c6_b_1 : w6.cell? ⟨w.heap.size + 1, 1, none⟩ = some (.int .i64 b.2) := cell_keep bb6 c5_b_1
  have l6_b : w.heap.size + 1 < w6.heap.size := by omega
  have m6_b : w.heap.size + 1 < w6.heap.size + 1 := by omega
  have c6_s_0 : w6.cell? ⟨w3.heap.size, 0, none⟩ = some (.int .i64 s.1) := cell_keep bb6 c5_s_0
  have c6_s_1 : w6.cell? ⟨w3.heap.size, 1, none⟩ = some (.int .i64 s.2) := cell_keep bb6 c5_s_1
  have l6_s : w3.heap.size < w6.heap.size := by omega
  have m6_s : w3.heap.size < w6.heap.size + 1 := by omega
  have c6_x_0 : w6.cell? ⟨w4.heap.size, 0, none⟩ = some (.int .i64 xb) := cell_keep bb6 c5_x_0
  have c6_x_1 : w6.cell? ⟨w4.heap.size, 1, none⟩ = some (.int .i64 x.1) := cell_keep bb6 c5_x_1
  have c6_x_2 : w6.cell? ⟨w4.heap.size, 2, none⟩ = some (.int .i64 x.2) := cell_keep bb6 c5_x_2
  have l6_x : w4.heap.size < w6.heap.size := by omega
  have m6_x : w4.heap.size < w6.heap.size + 1 := by omega
  have c6_y_0 : w6.cell? ⟨w5.heap.size, 0, none⟩ = some (.int .i64 yb) := cell_keep hb6 (by go_simp)
  have c6_y_1 : w6.cell? ⟨w5.heap.size, 1, none⟩ = some (.int .i64 y.1) := cell_keep hb6 (by go_simp)
  have c6_y_2 : w6.cell? ⟨w5.heap.size, 2, none⟩ = some (.int .i64 y.2) := cell_keep hb6 (by go_simp)
  have l6_y : w5.heap.size < w6.heap.size := by omega
  have m6_y : w5.heap.size < w6.heap.size + 1 := by omega
  have HT6 := Lib.hid (HT5.out.below bb6)
  have BE6 := Lib.hid be6
  clear be6 bb6 hb6 BE5 c5_a_0 c5_a_1 l5_a m5_a c5_b_0 c5_b_1 l5_b m5_b c5_s_0 c5_s_1 l5_s m5_s c5_x_0 c5_x_1 c5_x_2 l5_x m5_x HT5
  go_wp2_with fail
  go_ret
  exact ⟨rfl, (by have q := BE6.out; repeat (first | exact q | refine Below.setCell ?_ (by first | (simp; done) | omega | (simp; omega)) _ | refine Below.alloc ?_ (by first | (simp; done) | omega | (simp; omega)) _ | refine below_drewN ?_ _ | refine Below.drew ?_))⟩
set_option maxRecDepth 100000 in
set_option maxHeartbeats 1600000 in
theorem lin_3 (p : Option Addr) (cap : Nat) (us : List Qn.Un) (a b : Qn.R) (fr tt : Int) (s x y z : Qn.R) (xb yb zb : Int) (h : Int) (w : World) (ht : Tab w p us) (hcap : us.length ≤ cap) (ha64 : B64 a.1) (hb64 : B64 b.1) (hs64 : B64 s.1) (hs : smallB us 0 = true) (ha : Rt.addS a.1 a.2 b.1 b.2 = (s.1, s.2, 0)) (hx : Qn.convertS us (fr, a) tt = (xb, x, 0)) (hy : Qn.convertS us (fr, b) tt = (yb, y, 0)) (hz : Qn.convertS us (fr, s) tt = (zb, z, h)) (h0 : (h != 0) = true) :
    Calls Try.prog 7 #[.slice p us.length cap, .agg #[.int .i64 a.1, .int .i64 a.2], .agg #[.int .i64 b.1, .int .i64 b.2], .int .i64 fr, .int .i64 tt] w fun e w' => e = .returned (.bool true) ∧ Below w.heap.size w w' := by
  have HT0 := Lib.hid ht
  clear ht
  have HS := Lib.hid hs
  clear hs
  have HA := Lib.hid ha
  clear ha
  have HX := Lib.hid hx
  clear hx
  have HY := Lib.hid hy
  clear hy
  have HZ := Lib.hid hz
  clear hz
  go_enter Try.func7, Try.ntmps7
  go_wp2_with fail
  refine (head_any _).mono ?_
  rintro e w1 ⟨rfl, hb1⟩
  have hz1 := hb1.size
  (try simp at hz1)
  have bb1 : Below w.heap.size w w1 := (by repeat (first | exact Below.refl _ _ | assumption | refine below_drewN ?_ _ | refine Below.setCell ?_ (by first | (simp; done) | (simp; omega)) _ | refine Below.alloc ?_ (by first | (simp; done) | (simp; omega) | omega) _ | refine Below.drew ?_ | refine Below.trans ?_ (Below.mono (by assumption) (by first | (simp; done) | (simp; omega) | omega))))
  have be1 : Below w.heap.size w w1 := bb1
  have c1_a_0 : w1.cell? ⟨w.heap.size, 0, none⟩ = some (.int .i64 a.1) := cell_keep hb1 (by go_simp)
  have c1_a_1 : w1.cell? ⟨w.heap.size, 1, none⟩ = some (.int .i64 a.2) := cell_keep hb1 (by go_simp)
  have l1_a : w.heap.size < w1.heap.size := by omega
  have m1_a : w.heap.size < w1.heap.size + 1 := by omega
  have c1_b_0 : w1.cell? ⟨w.heap.size + 1, 0, none⟩ = some (.int .i64 b.1) := cell_keep hb1 (by go_simp)
  have c1_b_1 : w1.cell? ⟨w.heap.size + 1, 1, none⟩ = some (.int .i64 b.2) := cell_keep hb1 (by go_simp)
  have l1_b : w.heap.size + 1 < w1.heap.size := by omega
  have m1_b : w.heap.size + 1 < w1.heap.size + 1 := by omega
  have HT1 := Lib.hid (HT0.out.below bb1)
  have BE1 := Lib.hid be1
  clear be1 bb1 hb1 HT0
  go_wp2_with fail
  refine (small_any p none cap 0 0 us true _ (HT1.out.below (by repeat (first | exact Below.refl _ _ | assumption | refine below_drewN ?_ _ | refine Below.setCell ?_ (by first | (simp; done) | (simp; omega)) _ | refine Below.alloc ?_ (by first | (simp; done) | (simp; omega) | omega) _ | refine Below.drew ?_ | refine Below.trans ?_ (Below.mono (by assumption) (by first | (simp; done) | (simp; omega) | omega))))) HS.out).mono ?_
  rintro e w2 ⟨rfl, hb2⟩
  have hz2 := hb2.size
  (try simp at hz2)
  have bb2 : Below w1.heap.size w1 w2 := (by repeat (first | exact Below.refl _ _ | assumption | refine below_drewN ?_ _ | refine Below.setCell ?_ (by first | (simp; done) | (simp; omega)) _ | refine Below.alloc ?_ (by first | (simp; done) | (simp; omega) | omega) _ | refine Below.drew ?_ | refine Below.trans ?_ (Below.mono (by assumption) (by first | (simp; done) | (simp; omega) | omega))))
  have be2 : Below w.heap.size w w2 := BE1.out.trans (bb2.mono BE1.out.size)
  have c2_a_0 : w2.cell? ⟨w.heap.size, 0, none⟩ = some (.int .i64 a.1) := cell_keep bb2 c1_a_0
  have c2_a_1 : w2.cell? ⟨w.heap.size, 1, none⟩ = some (.int .i64 a.2) := cell_keep bb2 c1_a_1
  have l2_a : w.heap.size < w2.heap.size := by omega
  have m2_a : w.heap.size < w2.heap.size + 1 := by omega
  have c2_b_0 : w2.cell? ⟨w.heap.size + 1, 0, none⟩ = some (.int .i64 b.1) := cell_keep bb2 c1_b_0
  have c2_b_1 : w2.cell? ⟨w.heap.size + 1, 1, none⟩ = some (.int .i64 b.2) := cell_keep bb2 c1_b_1
  have l2_b : w.heap.size + 1 < w2.heap.size := by omega
  have m2_b : w.heap.size + 1 < w2.heap.size + 1 := by omega
  have HT2 := Lib.hid (HT1.out.below bb2)
  have BE2 := Lib.hid be2
  clear be2 bb2 hb2 BE1 c1_a_0 c1_a_1 l1_a m1_a c1_b_0 c1_b_1 l1_b m1_b HT1
  go_wp2_with fail
  refine (add_any a.1 a.2 b.1 b.2 _ ha64.1 ha64.2 hb64.1 hb64.2).mono ?_
  rintro e w3 ⟨rfl, hb3⟩
  rw [HA.out]
  simp only [RV]
  have hz3 := hb3.size
  (try simp at hz3)
  have bb3 : Below w2.heap.size w2 w3 := (by repeat (first | exact Below.refl _ _ | assumption | refine below_drewN ?_ _ | refine Below.setCell ?_ (by first | (simp; done) | (simp; omega)) _ | refine Below.alloc ?_ (by first | (simp; done) | (simp; omega) | omega) _ | refine Below.drew ?_ | refine Below.trans ?_ (Below.mono (by assumption) (by first | (simp; done) | (simp; omega) | omega))))
  have be3 : Below w.heap.size w w3 := BE2.out.trans (bb3.mono BE2.out.size)
  have c3_a_0 : w3.cell? ⟨w.heap.size, 0, none⟩ = some (.int .i64 a.1) := cell_keep bb3 c2_a_0
  have c3_a_1 : w3.cell? ⟨w.heap.size, 1, none⟩ = some (.int .i64 a.2) := cell_keep bb3 c2_a_1
  have l3_a : w.heap.size < w3.heap.size := by omega
  have m3_a : w.heap.size < w3.heap.size + 1 := by omega
  have c3_b_0 : w3.cell? ⟨w.heap.size + 1, 0, none⟩ = some (.int .i64 b.1) := cell_keep bb3 c2_b_0
  have c3_b_1 : w3.cell? ⟨w.heap.size + 1, 1, none⟩ = some (.int .i64 b.2) := cell_keep bb3 c2_b_1
  have l3_b : w.heap.size + 1 < w3.heap.size := by omega
  have m3_b : w.heap.size + 1 < w3.heap.size + 1 := by omega
  have HT3 := Lib.hid (HT2.out.below bb3)
  have BE3 := Lib.hid be3
  clear be3 bb3 hb3 BE2 c2_a_0 c2_a_1 l2_a m2_a c2_b_0 c2_b_1 l2_b m2_b HT2
  go_wp2_with fail
  refine (conv_any p cap us (fr, a) tt _ (HT3.out.below (by repeat (first | exact Below.refl _ _ | assumption | refine below_drewN ?_ _ | refine Below.setCell ?_ (by first | (simp; done) | (simp; omega)) _ | refine Below.alloc ?_ (by first | (simp; done) | (simp; omega) | omega) _ | refine Below.drew ?_ | refine Below.trans ?_ (Below.mono (by assumption) (by first | (simp; done) | (simp; omega) | omega))))) hcap ha64).mono ?_
  rintro e w4 ⟨rfl, hb4⟩
  rw [HX.out]
  simp only [RA]
  have hz4 := hb4.size
  (try simp at hz4)
  have bb4 : Below w3.heap.size w3 w4 := (by repeat (first | exact Below.refl _ _ | assumption | refine below_drewN ?_ _ | refine Below.setCell ?_ (by first | (simp; done) | (simp; omega)) _ | refine Below.alloc ?_ (by first | (simp; done) | (simp; omega) | omega) _ | refine Below.drew ?_ | refine Below.trans ?_ (Below.mono (by assumption) (by first | (simp; done) | (simp; omega) | omega))))
  have be4 : Below w.heap.size w w4 := BE3.out.trans (bb4.mono BE3.out.size)
  have c4_a_0 : w4.cell? ⟨w.heap.size, 0, none⟩ = some (.int .i64 a.1) := cell_keep bb4 c3_a_0
  have c4_a_1 : w4.cell? ⟨w.heap.size, 1, none⟩ = some (.int .i64 a.2) := cell_keep bb4 c3_a_1
  have l4_a : w.heap.size < w4.heap.size := by omega
  have m4_a : w.heap.size < w4.heap.size + 1 := by omega
  have c4_b_0 : w4.cell? ⟨w.heap.size + 1, 0, none⟩ = some (.int .i64 b.1) := cell_keep bb4 c3_b_0
  have c4_b_1 : w4.cell? ⟨w.heap.size + 1, 1, none⟩ = some (.int .i64 b.2) := cell_keep bb4 c3_b_1
  have l4_b : w.heap.size + 1 < w4.heap.size := by omega
  have m4_b : w.heap.size + 1 < w4.heap.size + 1 := by omega
  have c4_s_0 : w4.cell? ⟨w3.heap.size, 0, none⟩ = some (.int .i64 s.1) := cell_keep hb4 (by go_simp)
  have c4_s_1 : w4.cell? ⟨w3.heap.size, 1, none⟩ = some (.int .i64 s.2) := cell_keep hb4 (by go_simp)
  have l4_s : w3.heap.size < w4.heap.size := by omega
  have m4_s : w3.heap.size < w4.heap.size + 1 := by omega
  have HT4 := Lib.hid (HT3.out.below bb4)
  have BE4 := Lib.hid be4
  clear be4 bb4 hb4 BE3 c3_a_0 c3_a_1 l3_a m3_a c3_b_0 c3_b_1 l3_b m3_b HT3
  go_wp2_with fail
  refine (conv_any p cap us (fr, b) tt _ (HT4.out.below (by repeat (first | exact Below.refl _ _ | assumption | refine below_drewN ?_ _ | refine Below.setCell ?_ (by first | (simp; done) | (simp; omega)) _ | refine Below.alloc ?_ (by first | (simp; done) | (simp; omega) | omega) _ | refine Below.drew ?_ | refine Below.trans ?_ (Below.mono (by assumption) (by first | (simp; done) | (simp; omega) | omega))))) hcap hb64).mono ?_
  rintro e w5 ⟨rfl, hb5⟩
  rw [HY.out]
  simp only [RA]
  have hz5 := hb5.size
  (try simp at hz5)
  have bb5 : Below w4.heap.size w4 w5 := (by repeat (first | exact Below.refl _ _ | assumption | refine below_drewN ?_ _ | refine Below.setCell ?_ (by first | (simp; done) | (simp; omega)) _ | refine Below.alloc ?_ (by first | (simp; done) | (simp; omega) | omega) _ | refine Below.drew ?_ | refine Below.trans ?_ (Below.mono (by assumption) (by first | (simp; done) | (simp; omega) | omega))))
  have be5 : Below w.heap.size w w5 := BE4.out.trans (bb5.mono BE4.out.size)
  have c5_a_0 : w5.cell? ⟨w.heap.size, 0, none⟩ = some (.int .i64 a.1) := cell_keep bb5 c4_a_0
  have c5_a_1 : w5.cell? ⟨w.heap.size, 1, none⟩ = some (.int .i64 a.2) := cell_keep bb5 c4_a_1
  have l5_a : w.heap.size < w5.heap.size := by omega
  have m5_a : w.heap.size < w5.heap.size + 1 := by omega
  have c5_b_0 : w5.cell? ⟨w.heap.size + 1, 0, none⟩ = some (.int .i64 b.1) := cell_keep bb5 c4_b_0
  have c5_b_1 : w5.cell? ⟨w.heap.size + 1, 1, none⟩ = some (.int .i64 b.2) := cell_keep bb5 c4_b_1
  have l5_b : w.heap.size + 1 < w5.heap.size := by omega
  have m5_b : w.heap.size + 1 < w5.heap.size + 1 := by omega
  have c5_s_0 : w5.cell? ⟨w3.heap.size, 0, none⟩ = some (.int .i64 s.1) := cell_keep bb5 c4_s_0
  have c5_s_1 : w5.cell? ⟨w3.heap.size, 1, none⟩ = some (.int .i64 s.2) := cell_keep bb5 c4_s_1
  have l5_s : w3.heap.size < w5.heap.size := by omega
  have m5_s : w3.heap.size < w5.heap.size + 1 := by omega
  have c5_x_0 : w5.cell? ⟨w4.heap.size, 0, none⟩ = some (.int .i64 xb) := cell_keep hb5 (by go_simp)
  have c5_x_1 : w5.cell? ⟨w4.heap.size, 1, none⟩ = some (.int .i64 x.1) := cell_keep hb5 (by go_simp)
  have c5_x_2 : w5.cell? ⟨w4.heap.size, 2, none⟩ = some (.int .i64 x.2) := cell_keep hb5 (by go_simp)
  have l5_x : w4.heap.size < w5.heap.size := by omega
  have m5_x : w4.heap.size < w5.heap.size + 1 := by omega
  have HT5 := Lib.hid (HT4.out.below bb5)
  have BE5 := Lib.hid be5
  clear be5 bb5 hb5 BE4 c4_a_0 c4_a_1 l4_a m4_a c4_b_0 c4_b_1 l4_b m4_b c4_s_0 c4_s_1 l4_s m4_s HT4
  go_wp2_with fail
  refine (conv_any p cap us (fr, s) tt _ (HT5.out.below (by repeat (first | exact Below.refl _ _ | assumption | refine below_drewN ?_ _ | refine Below.setCell ?_ (by first | (simp; done) | (simp; omega)) _ | refine Below.alloc ?_ (by first | (simp; done) | (simp; omega) | omega) _ | refine Below.drew ?_ | refine Below.trans ?_ (Below.mono (by assumption) (by first | (simp; done) | (simp; omega) | omega))))) hcap hs64).mono ?_
  rintro e w6 ⟨rfl, hb6⟩
  rw [HZ.out]
  simp only [RA]
  have hz6 := hb6.size
  (try simp at hz6)
  have bb6 : Below w5.heap.size w5 w6 := (by repeat (first | exact Below.refl _ _ | assumption | refine below_drewN ?_ _ | refine Below.setCell ?_ (by first | (simp; done) | (simp; omega)) _ | refine Below.alloc ?_ (by first | (simp; done) | (simp; omega) | omega) _ | refine Below.drew ?_ | refine Below.trans ?_ (Below.mono (by assumption) (by first | (simp; done) | (simp; omega) | omega))))
  have be6 : Below w.heap.size w w6 := BE5.out.trans (bb6.mono BE5.out.size)
  have c6_a_0 : w6.cell? ⟨w.heap.size, 0, none⟩ = some (.int .i64 a.1) := cell_keep bb6 c5_a_0
  have c6_a_1 : w6.cell? ⟨w.heap.size, 1, none⟩ = some (.int .i64 a.2) := cell_keep bb6 c5_a_1
  have l6_a : w.heap.size < w6.heap.size := by omega
  have m6_a : w.heap.size < w6.heap.size + 1 := by omega
  have c6_b_0 : w6.cell? ⟨w.heap.size + 1, 0, none⟩ = some (.int .i64 b.1) := cell_keep bb6 c5_b_0
  have c6_b_1 : w6.cell? ⟨w.heap.size + 1, 1, none⟩ = some (.int .i64 b.2) := cell_keep bb6 c5_b_1
  have l6_b : w.heap.size + 1 < w6.heap.size := by omega
  have m6_b : w.heap.size + 1 < w6.heap.size + 1 := by omega
  have c6_s_0 : w6.cell? ⟨w3.heap.size, 0, none⟩ = some (.int .i64 s.1) := cell_keep bb6 c5_s_0
  have c6_s_1 : w6.cell? ⟨w3.heap.size, 1, none⟩ = some (.int .i64 s.2) := cell_keep bb6 c5_s_1
  have l6_s : w3.heap.size < w6.heap.size := by omega
  have m6_s : w3.heap.size < w6.heap.size + 1 := by omega
  have c6_x_0 : w6.cell? ⟨w4.heap.size, 0, none⟩ = some (.int .i64 xb) := cell_keep bb6 c5_x_0
  have c6_x_1 : w6.cell? ⟨w4.heap.size, 1, none⟩ = some (.int .i64 x.1) := cell_keep bb6 c5_x_1
  have c6_x_2 : w6.cell? ⟨w4.heap.size, 2, none⟩ = some (.int .i64 x.2) := cell_keep bb6 c5_x_2
  have l6_x : w4.heap.size < w6.heap.size := by omega
  have m6_x : w4.heap.size < w6.heap.size + 1 := by omega
  have c6_y_0 : w6.cell? ⟨w5.heap.size, 0, none⟩ = some (.int .i64 yb) := cell_keep hb6 (by go_simp)
  have c6_y_1 : w6.cell? ⟨w5.heap.size, 1, none⟩ = some (.int .i64 y.1) := cell_keep hb6 (by go_simp)
  have c6_y_2 : w6.cell? ⟨w5.heap.size, 2, none⟩ = some (.int .i64 y.2) := cell_keep hb6 (by go_simp)
  have l6_y : w5.heap.size < w6.heap.size := by omega
  have m6_y : w5.heap.size < w6.heap.size + 1 := by omega
  have HT6 := Lib.hid (HT5.out.below bb6)
  have BE6 := Lib.hid be6
  clear be6 bb6 hb6 BE5 c5_a_0 c5_a_1 l5_a m5_a c5_b_0 c5_b_1 l5_b m5_b c5_s_0 c5_s_1 l5_s m5_s c5_x_0 c5_x_1 c5_x_2 l5_x m5_x HT5
  go_wp2_with fail
  go_ret
  exact ⟨rfl, (by have q := BE6.out; repeat (first | exact q | refine Below.setCell ?_ (by first | (simp; done) | omega | (simp; omega)) _ | refine Below.alloc ?_ (by first | (simp; done) | omega | (simp; omega)) _ | refine below_drewN ?_ _ | refine Below.drew ?_))⟩
set_option maxRecDepth 100000 in
set_option maxHeartbeats 1600000 in
theorem lin_ok (p : Option Addr) (cap : Nat) (us : List Qn.Un) (a b : Qn.R) (fr tt : Int) (s x y z : Qn.R) (xb yb zb : Int) (w : World) (ht : Tab w p us) (hcap : us.length ≤ cap) (ha64 : B64 a.1) (hb64 : B64 b.1) (hs64 : B64 s.1) (hs : smallB us 0 = true) (ha : Rt.addS a.1 a.2 b.1 b.2 = (s.1, s.2, 0)) (hx : Qn.convertS us (fr, a) tt = (xb, x, 0)) (hy : Qn.convertS us (fr, b) tt = (yb, y, 0)) (hz : Qn.convertS us (fr, s) tt = (zb, z, 0)) (hq : Rt.addS x.1 x.2 y.1 y.2 = (z.1, z.2, 0)) (hx64 : B64 x.1) (hy64 : B64 y.1) :
    Calls Try.prog 7 #[.slice p us.length cap, .agg #[.int .i64 a.1, .int .i64 a.2], .agg #[.int .i64 b.1, .int .i64 b.2], .int .i64 fr, .int .i64 tt] w fun e w' => e = .returned (.bool true) ∧ Below w.heap.size w w' := by
  have HT0 := Lib.hid ht
  clear ht
  have HS := Lib.hid hs
  clear hs
  have HA := Lib.hid ha
  clear ha
  have HX := Lib.hid hx
  clear hx
  have HY := Lib.hid hy
  clear hy
  have HZ := Lib.hid hz
  clear hz
  have HQ := Lib.hid hq
  clear hq
  go_enter Try.func7, Try.ntmps7
  go_wp2_with fail
  refine (head_any _).mono ?_
  rintro e w1 ⟨rfl, hb1⟩
  have hz1 := hb1.size
  (try simp at hz1)
  have bb1 : Below w.heap.size w w1 := (by repeat (first | exact Below.refl _ _ | assumption | refine below_drewN ?_ _ | refine Below.setCell ?_ (by first | (simp; done) | (simp; omega)) _ | refine Below.alloc ?_ (by first | (simp; done) | (simp; omega) | omega) _ | refine Below.drew ?_ | refine Below.trans ?_ (Below.mono (by assumption) (by first | (simp; done) | (simp; omega) | omega))))
  have be1 : Below w.heap.size w w1 := bb1
  have c1_a_0 : w1.cell? ⟨w.heap.size, 0, none⟩ = some (.int .i64 a.1) := cell_keep hb1 (by go_simp)
  have c1_a_1 : w1.cell? ⟨w.heap.size, 1, none⟩ = some (.int .i64 a.2) := cell_keep hb1 (by go_simp)
  have l1_a : w.heap.size < w1.heap.size := by omega
  have m1_a : w.heap.size < w1.heap.size + 1 := by omega
  have c1_b_0 : w1.cell? ⟨w.heap.size + 1, 0, none⟩ = some (.int .i64 b.1) := cell_keep hb1 (by go_simp)
  have c1_b_1 : w1.cell? ⟨w.heap.size + 1, 1, none⟩ = some (.int .i64 b.2) := cell_keep hb1 (by go_simp)
  have l1_b : w.heap.size + 1 < w1.heap.size := by omega
  have m1_b : w.heap.size + 1 < w1.heap.size + 1 := by omega
  have HT1 := Lib.hid (HT0.out.below bb1)
  have BE1 := Lib.hid be1
  clear be1 bb1 hb1 HT0
  go_wp2_with fail
  refine (small_any p none cap 0 0 us true _ (HT1.out.below (by repeat (first | exact Below.refl _ _ | assumption | refine below_drewN ?_ _ | refine Below.setCell ?_ (by first | (simp; done) | (simp; omega)) _ | refine Below.alloc ?_ (by first | (simp; done) | (simp; omega) | omega) _ | refine Below.drew ?_ | refine Below.trans ?_ (Below.mono (by assumption) (by first | (simp; done) | (simp; omega) | omega))))) HS.out).mono ?_
  rintro e w2 ⟨rfl, hb2⟩
  have hz2 := hb2.size
  (try simp at hz2)
  have bb2 : Below w1.heap.size w1 w2 := (by repeat (first | exact Below.refl _ _ | assumption | refine below_drewN ?_ _ | refine Below.setCell ?_ (by first | (simp; done) | (simp; omega)) _ | refine Below.alloc ?_ (by first | (simp; done) | (simp; omega) | omega) _ | refine Below.drew ?_ | refine Below.trans ?_ (Below.mono (by assumption) (by first | (simp; done) | (simp; omega) | omega))))
  have be2 : Below w.heap.size w w2 := BE1.out.trans (bb2.mono BE1.out.size)
  have c2_a_0 : w2.cell? ⟨w.heap.size, 0, none⟩ = some (.int .i64 a.1) := cell_keep bb2 c1_a_0
  have c2_a_1 : w2.cell? ⟨w.heap.size, 1, none⟩ = some (.int .i64 a.2) := cell_keep bb2 c1_a_1
  have l2_a : w.heap.size < w2.heap.size := by omega
  have m2_a : w.heap.size < w2.heap.size + 1 := by omega
  have c2_b_0 : w2.cell? ⟨w.heap.size + 1, 0, none⟩ = some (.int .i64 b.1) := cell_keep bb2 c1_b_0
  have c2_b_1 : w2.cell? ⟨w.heap.size + 1, 1, none⟩ = some (.int .i64 b.2) := cell_keep bb2 c1_b_1
  have l2_b : w.heap.size + 1 < w2.heap.size := by omega
  have m2_b : w.heap.size + 1 < w2.heap.size + 1 := by omega
  have HT2 := Lib.hid (HT1.out.below bb2)
  have BE2 := Lib.hid be2
  clear be2 bb2 hb2 BE1 c1_a_0 c1_a_1 l1_a m1_a c1_b_0 c1_b_1 l1_b m1_b HT1
  go_wp2_with fail
  refine (add_any a.1 a.2 b.1 b.2 _ ha64.1 ha64.2 hb64.1 hb64.2).mono ?_
  rintro e w3 ⟨rfl, hb3⟩
  rw [HA.out]
  simp only [RV]
  have hz3 := hb3.size
  (try simp at hz3)
  have bb3 : Below w2.heap.size w2 w3 := (by repeat (first | exact Below.refl _ _ | assumption | refine below_drewN ?_ _ | refine Below.setCell ?_ (by first | (simp; done) | (simp; omega)) _ | refine Below.alloc ?_ (by first | (simp; done) | (simp; omega) | omega) _ | refine Below.drew ?_ | refine Below.trans ?_ (Below.mono (by assumption) (by first | (simp; done) | (simp; omega) | omega))))
  have be3 : Below w.heap.size w w3 := BE2.out.trans (bb3.mono BE2.out.size)
  have c3_a_0 : w3.cell? ⟨w.heap.size, 0, none⟩ = some (.int .i64 a.1) := cell_keep bb3 c2_a_0
  have c3_a_1 : w3.cell? ⟨w.heap.size, 1, none⟩ = some (.int .i64 a.2) := cell_keep bb3 c2_a_1
  have l3_a : w.heap.size < w3.heap.size := by omega
  have m3_a : w.heap.size < w3.heap.size + 1 := by omega
  have c3_b_0 : w3.cell? ⟨w.heap.size + 1, 0, none⟩ = some (.int .i64 b.1) := cell_keep bb3 c2_b_0
  have c3_b_1 : w3.cell? ⟨w.heap.size + 1, 1, none⟩ = some (.int .i64 b.2) := cell_keep bb3 c2_b_1
  have l3_b : w.heap.size + 1 < w3.heap.size := by omega
  have m3_b : w.heap.size + 1 < w3.heap.size + 1 := by omega
  have HT3 := Lib.hid (HT2.out.below bb3)
  have BE3 := Lib.hid be3
  clear be3 bb3 hb3 BE2 c2_a_0 c2_a_1 l2_a m2_a c2_b_0 c2_b_1 l2_b m2_b HT2
  go_wp2_with fail
  refine (conv_any p cap us (fr, a) tt _ (HT3.out.below (by repeat (first | exact Below.refl _ _ | assumption | refine below_drewN ?_ _ | refine Below.setCell ?_ (by first | (simp; done) | (simp; omega)) _ | refine Below.alloc ?_ (by first | (simp; done) | (simp; omega) | omega) _ | refine Below.drew ?_ | refine Below.trans ?_ (Below.mono (by assumption) (by first | (simp; done) | (simp; omega) | omega))))) hcap ha64).mono ?_
  rintro e w4 ⟨rfl, hb4⟩
  rw [HX.out]
  simp only [RA]
  have hz4 := hb4.size
  (try simp at hz4)
  have bb4 : Below w3.heap.size w3 w4 := (by repeat (first | exact Below.refl _ _ | assumption | refine below_drewN ?_ _ | refine Below.setCell ?_ (by first | (simp; done) | (simp; omega)) _ | refine Below.alloc ?_ (by first | (simp; done) | (simp; omega) | omega) _ | refine Below.drew ?_ | refine Below.trans ?_ (Below.mono (by assumption) (by first | (simp; done) | (simp; omega) | omega))))
  have be4 : Below w.heap.size w w4 := BE3.out.trans (bb4.mono BE3.out.size)
  have c4_a_0 : w4.cell? ⟨w.heap.size, 0, none⟩ = some (.int .i64 a.1) := cell_keep bb4 c3_a_0
  have c4_a_1 : w4.cell? ⟨w.heap.size, 1, none⟩ = some (.int .i64 a.2) := cell_keep bb4 c3_a_1
  have l4_a : w.heap.size < w4.heap.size := by omega
  have m4_a : w.heap.size < w4.heap.size + 1 := by omega
  have c4_b_0 : w4.cell? ⟨w.heap.size + 1, 0, none⟩ = some (.int .i64 b.1) := cell_keep bb4 c3_b_0
  have c4_b_1 : w4.cell? ⟨w.heap.size + 1, 1, none⟩ = some (.int .i64 b.2) := cell_keep bb4 c3_b_1
  have l4_b : w.heap.size + 1 < w4.heap.size := by omega
  have m4_b : w.heap.size + 1 < w4.heap.size + 1 := by omega
  have c4_s_0 : w4.cell? ⟨w3.heap.size, 0, none⟩ = some (.int .i64 s.1) := cell_keep hb4 (by go_simp)
  have c4_s_1 : w4.cell? ⟨w3.heap.size, 1, none⟩ = some (.int .i64 s.2) := cell_keep hb4 (by go_simp)
  have l4_s : w3.heap.size < w4.heap.size := by omega
  have m4_s : w3.heap.size < w4.heap.size + 1 := by omega
  have HT4 := Lib.hid (HT3.out.below bb4)
  have BE4 := Lib.hid be4
  clear be4 bb4 hb4 BE3 c3_a_0 c3_a_1 l3_a m3_a c3_b_0 c3_b_1 l3_b m3_b HT3
  go_wp2_with fail
  refine (conv_any p cap us (fr, b) tt _ (HT4.out.below (by repeat (first | exact Below.refl _ _ | assumption | refine below_drewN ?_ _ | refine Below.setCell ?_ (by first | (simp; done) | (simp; omega)) _ | refine Below.alloc ?_ (by first | (simp; done) | (simp; omega) | omega) _ | refine Below.drew ?_ | refine Below.trans ?_ (Below.mono (by assumption) (by first | (simp; done) | (simp; omega) | omega))))) hcap hb64).mono ?_
  rintro e w5 ⟨rfl, hb5⟩
  rw [HY.out]
  simp only [RA]
  have hz5 := hb5.size
  (try simp at hz5)
  have bb5 : Below w4.heap.size w4 w5 := (by repeat (first | exact Below.refl _ _ | assumption | refine below_drewN ?_ _ | refine Below.setCell ?_ (by first | (simp; done) | (simp; omega)) _ | refine Below.alloc ?_ (by first | (simp; done) | (simp; omega) | omega) _ | refine Below.drew ?_ | refine Below.trans ?_ (Below.mono (by assumption) (by first | (simp; done) | (simp; omega) | omega))))
  have be5 : Below w.heap.size w w5 := BE4.out.trans (bb5.mono BE4.out.size)
  have c5_a_0 : w5.cell? ⟨w.heap.size, 0, none⟩ = some (.int .i64 a.1) := cell_keep bb5 c4_a_0
  have c5_a_1 : w5.cell? ⟨w.heap.size, 1, none⟩ = some (.int .i64 a.2) := cell_keep bb5 c4_a_1
  have l5_a : w.heap.size < w5.heap.size := by omega
  have m5_a : w.heap.size < w5.heap.size + 1 := by omega
  have c5_b_0 : w5.cell? ⟨w.heap.size + 1, 0, none⟩ = some (.int .i64 b.1) := cell_keep bb5 c4_b_0
  have c5_b_1 : w5.cell? ⟨w.heap.size + 1, 1, none⟩ = some (.int .i64 b.2) := cell_keep bb5 c4_b_1
  have l5_b : w.heap.size + 1 < w5.heap.size := by omega
  have m5_b : w.heap.size + 1 < w5.heap.size + 1 := by omega
  have c5_s_0 : w5.cell? ⟨w3.heap.size, 0, none⟩ = some (.int .i64 s.1) := cell_keep bb5 c4_s_0
  have c5_s_1 : w5.cell? ⟨w3.heap.size, 1, none⟩ = some (.int .i64 s.2) := cell_keep bb5 c4_s_1
  have l5_s : w3.heap.size < w5.heap.size := by omega
  have m5_s : w3.heap.size < w5.heap.size + 1 := by omega
  have c5_x_0 : w5.cell? ⟨w4.heap.size, 0, none⟩ = some (.int .i64 xb) := cell_keep hb5 (by go_simp)
  have c5_x_1 : w5.cell? ⟨w4.heap.size, 1, none⟩ = some (.int .i64 x.1) := cell_keep hb5 (by go_simp)
  have c5_x_2 : w5.cell? ⟨w4.heap.size, 2, none⟩ = some (.int .i64 x.2) := cell_keep hb5 (by go_simp)
  have l5_x : w4.heap.size < w5.heap.size := by omega
  have m5_x : w4.heap.size < w5.heap.size + 1 := by omega
  have HT5 := Lib.hid (HT4.out.below bb5)
  have BE5 := Lib.hid be5
  clear be5 bb5 hb5 BE4 c4_a_0 c4_a_1 l4_a m4_a c4_b_0 c4_b_1 l4_b m4_b c4_s_0 c4_s_1 l4_s m4_s HT4
  go_wp2_with fail
  refine (conv_any p cap us (fr, s) tt _ (HT5.out.below (by repeat (first | exact Below.refl _ _ | assumption | refine below_drewN ?_ _ | refine Below.setCell ?_ (by first | (simp; done) | (simp; omega)) _ | refine Below.alloc ?_ (by first | (simp; done) | (simp; omega) | omega) _ | refine Below.drew ?_ | refine Below.trans ?_ (Below.mono (by assumption) (by first | (simp; done) | (simp; omega) | omega))))) hcap hs64).mono ?_
  rintro e w6 ⟨rfl, hb6⟩
  rw [HZ.out]
  simp only [RA]
  have hz6 := hb6.size
  (try simp at hz6)
  have bb6 : Below w5.heap.size w5 w6 := (by repeat (first | exact Below.refl _ _ | assumption | refine below_drewN ?_ _ | refine Below.setCell ?_ (by first | (simp; done) | (simp; omega)) _ | refine Below.alloc ?_ (by first | (simp; done) | (simp; omega) | omega) _ | refine Below.drew ?_ | refine Below.trans ?_ (Below.mono (by assumption) (by first | (simp; done) | (simp; omega) | omega))))
  have be6 : Below w.heap.size w w6 := BE5.out.trans (bb6.mono BE5.out.size)
  have c6_a_0 : w6.cell? ⟨w.heap.size, 0, none⟩ = some (.int .i64 a.1) := cell_keep bb6 c5_a_0
  have c6_a_1 : w6.cell? ⟨w.heap.size, 1, none⟩ = some (.int .i64 a.2) := cell_keep bb6 c5_a_1
  have l6_a : w.heap.size < w6.heap.size := by omega
  have m6_a : w.heap.size < w6.heap.size + 1 := by omega
  have c6_b_0 : w6.cell? ⟨w.heap.size + 1, 0, none⟩ = some (.int .i64 b.1) := cell_keep bb6 c5_b_0
  have c6_b_1 : w6.cell? ⟨w.heap.size + 1, 1, none⟩ = some (.int .i64 b.2) := cell_keep bb6 c5_b_1
  have l6_b : w.heap.size + 1 < w6.heap.size := by omega
  have m6_b : w.heap.size + 1 < w6.heap.size + 1 := by omega
  have c6_s_0 : w6.cell? ⟨w3.heap.size, 0, none⟩ = some (.int .i64 s.1) := cell_keep bb6 c5_s_0
  have c6_s_1 : w6.cell? ⟨w3.heap.size, 1, none⟩ = some (.int .i64 s.2) := cell_keep bb6 c5_s_1
  have l6_s : w3.heap.size < w6.heap.size := by omega
  have m6_s : w3.heap.size < w6.heap.size + 1 := by omega
  have c6_x_0 : w6.cell? ⟨w4.heap.size, 0, none⟩ = some (.int .i64 xb) := cell_keep bb6 c5_x_0
  have c6_x_1 : w6.cell? ⟨w4.heap.size, 1, none⟩ = some (.int .i64 x.1) := cell_keep bb6 c5_x_1
  have c6_x_2 : w6.cell? ⟨w4.heap.size, 2, none⟩ = some (.int .i64 x.2) := cell_keep bb6 c5_x_2
  have l6_x : w4.heap.size < w6.heap.size := by omega
  have m6_x : w4.heap.size < w6.heap.size + 1 := by omega
  have c6_y_0 : w6.cell? ⟨w5.heap.size, 0, none⟩ = some (.int .i64 yb) := cell_keep hb6 (by go_simp)
  have c6_y_1 : w6.cell? ⟨w5.heap.size, 1, none⟩ = some (.int .i64 y.1) := cell_keep hb6 (by go_simp)
  have c6_y_2 : w6.cell? ⟨w5.heap.size, 2, none⟩ = some (.int .i64 y.2) := cell_keep hb6 (by go_simp)
  have l6_y : w5.heap.size < w6.heap.size := by omega
  have m6_y : w5.heap.size < w6.heap.size + 1 := by omega
  have HT6 := Lib.hid (HT5.out.below bb6)
  have BE6 := Lib.hid be6
  clear be6 bb6 hb6 BE5 c5_a_0 c5_a_1 l5_a m5_a c5_b_0 c5_b_1 l5_b m5_b c5_s_0 c5_s_1 l5_s m5_s c5_x_0 c5_x_1 c5_x_2 l5_x m5_x HT5
  go_wp2_with fail
  refine (add_any x.1 x.2 y.1 y.2 _ hx64.1 hx64.2 hy64.1 hy64.2).mono ?_
  rintro e w7 ⟨rfl, hb7⟩
  rw [HQ.out]
  simp only [RV]
  have hz7 := hb7.size
  (try simp at hz7)
  have bb7 : Below w6.heap.size w6 w7 := (by repeat (first | exact Below.refl _ _ | assumption | refine below_drewN ?_ _ | refine Below.setCell ?_ (by first | (simp; done) | (simp; omega)) _ | refine Below.alloc ?_ (by first | (simp; done) | (simp; omega) | omega) _ | refine Below.drew ?_ | refine Below.trans ?_ (Below.mono (by assumption) (by first | (simp; done) | (simp; omega) | omega))))
  have be7 : Below w.heap.size w w7 := BE6.out.trans (bb7.mono BE6.out.size)
  have c7_a_0 : w7.cell? ⟨w.heap.size, 0, none⟩ = some (.int .i64 a.1) := cell_keep bb7 c6_a_0
  have c7_a_1 : w7.cell? ⟨w.heap.size, 1, none⟩ = some (.int .i64 a.2) := cell_keep bb7 c6_a_1
  have l7_a : w.heap.size < w7.heap.size := by omega
  have m7_a : w.heap.size < w7.heap.size + 1 := by omega
  have c7_b_0 : w7.cell? ⟨w.heap.size + 1, 0, none⟩ = some (.int .i64 b.1) := cell_keep bb7 c6_b_0
  have c7_b_1 : w7.cell? ⟨w.heap.size + 1, 1, none⟩ = some (.int .i64 b.2) := cell_keep bb7 c6_b_1
  have l7_b : w.heap.size + 1 < w7.heap.size := by omega
  have m7_b : w.heap.size + 1 < w7.heap.size + 1 := by omega
  have c7_s_0 : w7.cell? ⟨w3.heap.size, 0, none⟩ = some (.int .i64 s.1) := cell_keep bb7 c6_s_0
  have c7_s_1 : w7.cell? ⟨w3.heap.size, 1, none⟩ = some (.int .i64 s.2) := cell_keep bb7 c6_s_1
  have l7_s : w3.heap.size < w7.heap.size := by omega
  have m7_s : w3.heap.size < w7.heap.size + 1 := by omega
  have c7_x_0 : w7.cell? ⟨w4.heap.size, 0, none⟩ = some (.int .i64 xb) := cell_keep bb7 c6_x_0
  have c7_x_1 : w7.cell? ⟨w4.heap.size, 1, none⟩ = some (.int .i64 x.1) := cell_keep bb7 c6_x_1
  have c7_x_2 : w7.cell? ⟨w4.heap.size, 2, none⟩ = some (.int .i64 x.2) := cell_keep bb7 c6_x_2
  have l7_x : w4.heap.size < w7.heap.size := by omega
  have m7_x : w4.heap.size < w7.heap.size + 1 := by omega
  have c7_y_0 : w7.cell? ⟨w5.heap.size, 0, none⟩ = some (.int .i64 yb) := cell_keep bb7 c6_y_0
  have c7_y_1 : w7.cell? ⟨w5.heap.size, 1, none⟩ = some (.int .i64 y.1) := cell_keep bb7 c6_y_1
  have c7_y_2 : w7.cell? ⟨w5.heap.size, 2, none⟩ = some (.int .i64 y.2) := cell_keep bb7 c6_y_2
  have l7_y : w5.heap.size < w7.heap.size := by omega
  have m7_y : w5.heap.size < w7.heap.size + 1 := by omega
  have c7_z_0 : w7.cell? ⟨w6.heap.size, 0, none⟩ = some (.int .i64 zb) := cell_keep hb7 (by go_simp)
  have c7_z_1 : w7.cell? ⟨w6.heap.size, 1, none⟩ = some (.int .i64 z.1) := cell_keep hb7 (by go_simp)
  have c7_z_2 : w7.cell? ⟨w6.heap.size, 2, none⟩ = some (.int .i64 z.2) := cell_keep hb7 (by go_simp)
  have l7_z : w6.heap.size < w7.heap.size := by omega
  have m7_z : w6.heap.size < w7.heap.size + 1 := by omega
  have HT7 := Lib.hid (HT6.out.below bb7)
  have BE7 := Lib.hid be7
  clear be7 bb7 hb7 BE6 c6_a_0 c6_a_1 l6_a m6_a c6_b_0 c6_b_1 l6_b m6_b c6_s_0 c6_s_1 l6_s m6_s c6_x_0 c6_x_1 c6_x_2 l6_x m6_x c6_y_0 c6_y_1 c6_y_2 l6_y m6_y HT6
  go_wp2_with fail
  go_ret
  exact ⟨rfl, (by have q := BE7.out; repeat (first | exact q | refine Below.setCell ?_ (by first | (simp; done) | omega | (simp; omega)) _ | refine Below.alloc ?_ (by first | (simp; done) | omega | (simp; omega)) _ | refine below_drewN ?_ _ | refine Below.drew ?_))⟩
theorem add_64 {a b : Qn.R} {p q e : Int} (h : Rt.addS a.1 a.2 b.1 b.2 = (p, q, e)) : B64 p := by
  by_cases he : e = 0
  · subst he
    by_cases k : Rt.Ok a.1 a.2 ∧ Rt.Ok b.1 b.2
    · exact ok64 (Qn.add_val k.1 k.2 h).1
    · unfold Rt.addS at h
      rw [if_neg k] at h
      simp at h
  · unfold Rt.addS at h
    split at h
    · next k =>
      rcases Qn.mk_err (n := a.1 * b.2 + b.1 * a.2) (Rt.mul_ne (Rt.ok_ne k.1) (Rt.ok_ne k.2)) with ⟨u, v, k2⟩ | k2
      · rw [k2] at h
        simp only [Prod.mk.injEq] at h
        exact absurd h.2.2.symm he
      · rw [k2] at h
        simp only [Prod.mk.injEq] at h
        rw [← h.1]
        exact ⟨by decide, by decide⟩
    · simp only [Prod.mk.injEq] at h
      rw [← h.1]
      exact ⟨by decide, by decide⟩
theorem linear_law (p : Option Addr) (cap : Nat) (us : List Qn.Un) (a b : Qn.R) (fr tt : Int) (w : World) (ht : Tab w p us) (hcap : us.length ≤ cap) (ha64 : B64 a.1) (hb64 : B64 b.1) :
    Calls Try.prog 7 #[.slice p us.length cap, .agg #[.int .i64 a.1, .int .i64 a.2], .agg #[.int .i64 b.1, .int .i64 b.2], .int .i64 fr, .int .i64 tt] w fun e w' => e = .returned (.bool true) ∧ Below w.heap.size w w' := by
  cases hs : smallB us 0
  · exact lin_big p cap us a b fr tt w ht hs
  obtain ⟨s, e, ha⟩ : ∃ (s : Qn.R) (e : Int), Rt.addS a.1 a.2 b.1 b.2 = (s.1, s.2, e) := ⟨((Rt.addS a.1 a.2 b.1 b.2).1, (Rt.addS a.1 a.2 b.1 b.2).2.1), _, rfl⟩
  obtain ⟨xb, x, f, hx⟩ : ∃ c1 c2 c3, Qn.convertS us (fr, a) tt = (c1, c2, c3) := ⟨_, _, _, rfl⟩
  obtain ⟨yb, y, g, hy⟩ : ∃ c1 c2 c3, Qn.convertS us (fr, b) tt = (c1, c2, c3) := ⟨_, _, _, rfl⟩
  obtain ⟨zb, z, h, hz⟩ : ∃ c1 c2 c3, Qn.convertS us (fr, s) tt = (c1, c2, c3) := ⟨_, _, _, rfl⟩
  have hs64 := add_64 ha
  by_cases h1 : e = 0
  · subst h1
    by_cases h2 : f = 0
    · subst h2
      by_cases h3 : g = 0
      · subst h3
        by_cases h4 : h = 0
        · subst h4
          exact lin_ok p cap us a b fr tt s x y z xb yb zb w ht hcap ha64 hb64 hs64 hs ha hx hy hz (Qn.convert_linear ha hx hy hz) (conv_64 hx) (conv_64 hy)
        · exact lin_3 p cap us a b fr tt s x y z xb yb zb h w ht hcap ha64 hb64 hs64 hs ha hx hy hz (bne_iff_ne.2 h4)
      · exact lin_2 p cap us a b fr tt s x y z xb yb zb g h w ht hcap ha64 hb64 hs64 hs ha hx hy hz (bne_iff_ne.2 h3)
    · exact lin_1 p cap us a b fr tt s x y z xb yb zb f g h w ht hcap ha64 hb64 hs64 hs ha hx hy hz (bne_iff_ne.2 h2)
  · exact lin_0 p cap us a b fr tt s x y z xb yb zb e f g h w ht hcap ha64 hb64 hs64 hs ha hx hy hz (bne_iff_ne.2 h1)
end Go.Proofs.Ytfddfjokpaepfaa

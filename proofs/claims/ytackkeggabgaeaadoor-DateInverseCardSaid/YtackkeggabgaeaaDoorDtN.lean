/- DateInverse: the walk of the law. -/
import Derived.Test.YtackkeggabgaeaaDoorDtL
namespace Go.Proofs.YtackkeggabgaeaaDoor
open Go.RowKit

set_option maxRecDepth 100000 in
set_option maxHeartbeats 3200000 in
theorem inv_a_out1 (X Y Z day : Int) (w : World) (hE : Env w) (hn : Dt.num X Y Z = (0, 1)) (ho : ¬ (0 ≤ day ∧ day ≤ 73048)) (d0 : day < 0) :
    Calls Tryd.prog 3 #[.agg #[.int .i64 X, .int .i64 Y, .int .i64 Z], .int .i64 day] w fun e w' => e = .returned (.bool true) ∧ Below w.heap.size w w' := by
  have HE := Lib.hid hE
  have HN := Lib.hid hn
  have HO := Lib.hid ho
  clear hE hn ho
  go_enter Tryd.func3, Tryd.ntmps3
  go_wp2_with fail
  refine (head_any _ (HE.out.below (by repeat (first | exact Below.refl _ _ | assumption | refine below_drewN ?_ _ | refine Below.setCell ?_ (by first | (simp; done) | (simp; omega)) _ | refine Below.alloc ?_ (by first | (simp; done) | (simp; omega) | omega) _ | refine Below.drew ?_ | refine Below.trans ?_ (Below.mono (by assumption) (by first | (simp; done) | (simp; omega) | omega)))))).mono ?_
  rintro e w1 ⟨rfl, hb1⟩
  have hz1 := hb1.size
  (try simp at hz1)
  have be1 : Below w.heap.size w w1 := (by repeat (first | exact Below.refl _ _ | assumption | refine below_drewN ?_ _ | refine Below.setCell ?_ (by first | (simp; done) | (simp; omega)) _ | refine Below.alloc ?_ (by first | (simp; done) | (simp; omega) | omega) _ | refine Below.drew ?_ | refine Below.trans ?_ (Below.mono (by assumption) (by first | (simp; done) | (simp; omega) | omega))))
  have c1_x_0 : w1.cell? ⟨w.heap.size, 0, none⟩ = some (.int .i64 X) := cell_keep hb1 (by go_simp)
  have c1_x_1 : w1.cell? ⟨w.heap.size, 1, none⟩ = some (.int .i64 Y) := cell_keep hb1 (by go_simp)
  have c1_x_2 : w1.cell? ⟨w.heap.size, 2, none⟩ = some (.int .i64 Z) := cell_keep hb1 (by go_simp)
  have l1_x : w.heap.size < w1.heap.size := by omega
  clear hb1
  go_wp2_with fail
  refine (number_any X Y Z _ (HE.out.below (by repeat (first | exact Below.refl _ _ | assumption | refine below_drewN ?_ _ | refine Below.setCell ?_ (by first | (simp; done) | (simp; omega)) _ | refine Below.alloc ?_ (by first | (simp; done) | (simp; omega) | omega) _ | refine Below.drew ?_ | refine Below.trans ?_ (Below.mono (by assumption) (by first | (simp; done) | (simp; omega) | omega)))))).mono ?_
  rintro e w2 ⟨rfl, hb2⟩
  rw [HN.out]
  have hz2 := hb2.size
  (try simp at hz2)
  have bb2 : Below w1.heap.size w1 w2 := (by repeat (first | exact Below.refl _ _ | assumption | refine below_drewN ?_ _ | refine Below.setCell ?_ (by first | (simp; done) | (simp; omega)) _ | refine Below.alloc ?_ (by first | (simp; done) | (simp; omega) | omega) _ | refine Below.drew ?_ | refine Below.trans ?_ (Below.mono (by assumption) (by first | (simp; done) | (simp; omega) | omega))))
  have be2 : Below w.heap.size w w2 := be1.trans (bb2.mono (by omega))
  have c2_x_0 : w2.cell? ⟨w.heap.size, 0, none⟩ = some (.int .i64 X) := cell_keep bb2 c1_x_0
  have c2_x_1 : w2.cell? ⟨w.heap.size, 1, none⟩ = some (.int .i64 Y) := cell_keep bb2 c1_x_1
  have c2_x_2 : w2.cell? ⟨w.heap.size, 2, none⟩ = some (.int .i64 Z) := cell_keep bb2 c1_x_2
  have l2_x : w.heap.size < w2.heap.size := by omega
  clear hb2 be1 bb2 c1_x_0 c1_x_1 c1_x_2 l1_x
  simp only [IV]
  go_wp2_with fail
  refine (civil_out day _ HO.out).mono ?_
  rintro e w3 ⟨rfl, hb3⟩
  have hz3 := hb3.size
  (try simp at hz3)
  have bb3 : Below w2.heap.size w2 w3 := (by repeat (first | exact Below.refl _ _ | assumption | refine below_drewN ?_ _ | refine Below.setCell ?_ (by first | (simp; done) | (simp; omega)) _ | refine Below.alloc ?_ (by first | (simp; done) | (simp; omega) | omega) _ | refine Below.drew ?_ | refine Below.trans ?_ (Below.mono (by assumption) (by first | (simp; done) | (simp; omega) | omega))))
  have be3 : Below w.heap.size w w3 := be2.trans (bb3.mono (by omega))
  clear hb3 be2 bb3 c2_x_0 c2_x_1 c2_x_2 l2_x
  simp only [CV]
  go_wp2
  go_ret
  exact ⟨rfl, (by repeat (first | exact Below.refl _ _ | assumption | refine below_drewN ?_ _ | refine Below.setCell ?_ (by first | (simp; done) | (simp; omega)) _ | refine Below.alloc ?_ (by first | (simp; done) | (simp; omega) | omega) _ | refine Below.drew ?_ | refine Below.trans ?_ (Below.mono (by assumption) (by first | (simp; done) | (simp; omega) | omega))))⟩
set_option maxRecDepth 100000 in
set_option maxHeartbeats 3200000 in
theorem inv_a_out2 (X Y Z day : Int) (w : World) (hE : Env w) (hn : Dt.num X Y Z = (0, 1)) (ho : ¬ (0 ≤ day ∧ day ≤ 73048)) (d0 : 0 ≤ day) (d1 : 73048 < day) :
    Calls Tryd.prog 3 #[.agg #[.int .i64 X, .int .i64 Y, .int .i64 Z], .int .i64 day] w fun e w' => e = .returned (.bool true) ∧ Below w.heap.size w w' := by
  have HE := Lib.hid hE
  have HN := Lib.hid hn
  have HO := Lib.hid ho
  clear hE hn ho
  go_enter Tryd.func3, Tryd.ntmps3
  go_wp2_with fail
  refine (head_any _ (HE.out.below (by repeat (first | exact Below.refl _ _ | assumption | refine below_drewN ?_ _ | refine Below.setCell ?_ (by first | (simp; done) | (simp; omega)) _ | refine Below.alloc ?_ (by first | (simp; done) | (simp; omega) | omega) _ | refine Below.drew ?_ | refine Below.trans ?_ (Below.mono (by assumption) (by first | (simp; done) | (simp; omega) | omega)))))).mono ?_
  rintro e w1 ⟨rfl, hb1⟩
  have hz1 := hb1.size
  (try simp at hz1)
  have be1 : Below w.heap.size w w1 := (by repeat (first | exact Below.refl _ _ | assumption | refine below_drewN ?_ _ | refine Below.setCell ?_ (by first | (simp; done) | (simp; omega)) _ | refine Below.alloc ?_ (by first | (simp; done) | (simp; omega) | omega) _ | refine Below.drew ?_ | refine Below.trans ?_ (Below.mono (by assumption) (by first | (simp; done) | (simp; omega) | omega))))
  have c1_x_0 : w1.cell? ⟨w.heap.size, 0, none⟩ = some (.int .i64 X) := cell_keep hb1 (by go_simp)
  have c1_x_1 : w1.cell? ⟨w.heap.size, 1, none⟩ = some (.int .i64 Y) := cell_keep hb1 (by go_simp)
  have c1_x_2 : w1.cell? ⟨w.heap.size, 2, none⟩ = some (.int .i64 Z) := cell_keep hb1 (by go_simp)
  have l1_x : w.heap.size < w1.heap.size := by omega
  clear hb1
  go_wp2_with fail
  refine (number_any X Y Z _ (HE.out.below (by repeat (first | exact Below.refl _ _ | assumption | refine below_drewN ?_ _ | refine Below.setCell ?_ (by first | (simp; done) | (simp; omega)) _ | refine Below.alloc ?_ (by first | (simp; done) | (simp; omega) | omega) _ | refine Below.drew ?_ | refine Below.trans ?_ (Below.mono (by assumption) (by first | (simp; done) | (simp; omega) | omega)))))).mono ?_
  rintro e w2 ⟨rfl, hb2⟩
  rw [HN.out]
  have hz2 := hb2.size
  (try simp at hz2)
  have bb2 : Below w1.heap.size w1 w2 := (by repeat (first | exact Below.refl _ _ | assumption | refine below_drewN ?_ _ | refine Below.setCell ?_ (by first | (simp; done) | (simp; omega)) _ | refine Below.alloc ?_ (by first | (simp; done) | (simp; omega) | omega) _ | refine Below.drew ?_ | refine Below.trans ?_ (Below.mono (by assumption) (by first | (simp; done) | (simp; omega) | omega))))
  have be2 : Below w.heap.size w w2 := be1.trans (bb2.mono (by omega))
  have c2_x_0 : w2.cell? ⟨w.heap.size, 0, none⟩ = some (.int .i64 X) := cell_keep bb2 c1_x_0
  have c2_x_1 : w2.cell? ⟨w.heap.size, 1, none⟩ = some (.int .i64 Y) := cell_keep bb2 c1_x_1
  have c2_x_2 : w2.cell? ⟨w.heap.size, 2, none⟩ = some (.int .i64 Z) := cell_keep bb2 c1_x_2
  have l2_x : w.heap.size < w2.heap.size := by omega
  clear hb2 be1 bb2 c1_x_0 c1_x_1 c1_x_2 l1_x
  simp only [IV]
  go_wp2_with fail
  refine (civil_out day _ HO.out).mono ?_
  rintro e w3 ⟨rfl, hb3⟩
  have hz3 := hb3.size
  (try simp at hz3)
  have bb3 : Below w2.heap.size w2 w3 := (by repeat (first | exact Below.refl _ _ | assumption | refine below_drewN ?_ _ | refine Below.setCell ?_ (by first | (simp; done) | (simp; omega)) _ | refine Below.alloc ?_ (by first | (simp; done) | (simp; omega) | omega) _ | refine Below.drew ?_ | refine Below.trans ?_ (Below.mono (by assumption) (by first | (simp; done) | (simp; omega) | omega))))
  have be3 : Below w.heap.size w w3 := be2.trans (bb3.mono (by omega))
  clear hb3 be2 bb3 c2_x_0 c2_x_1 c2_x_2 l2_x
  simp only [CV]
  go_wp2
  go_ret
  exact ⟨rfl, (by repeat (first | exact Below.refl _ _ | assumption | refine below_drewN ?_ _ | refine Below.setCell ?_ (by first | (simp; done) | (simp; omega)) _ | refine Below.alloc ?_ (by first | (simp; done) | (simp; omega) | omega) _ | refine Below.drew ?_ | refine Below.trans ?_ (Below.mono (by assumption) (by first | (simp; done) | (simp; omega) | omega))))⟩
set_option maxRecDepth 100000 in
set_option maxHeartbeats 3200000 in
theorem inv_a_last (X Y Z : Int) (w : World) (hE : Env w) (hn : Dt.num X Y Z = (0, 1)) (hd : Dt.IsCiv 73048 2189 12 31) (hm : Dt.num 2189 12 31 = (73048, 0)) :
    Calls Tryd.prog 3 #[.agg #[.int .i64 X, .int .i64 Y, .int .i64 Z], .int .i64 73048] w fun e w' => e = .returned (.bool true) ∧ Below w.heap.size w w' := by
  have HE := Lib.hid hE
  have HN := Lib.hid hn
  have HD := Lib.hid hd
  have HM := Lib.hid hm
  clear hE hn hd hm
  go_enter Tryd.func3, Tryd.ntmps3
  go_wp2_with fail
  refine (head_any _ (HE.out.below (by repeat (first | exact Below.refl _ _ | assumption | refine below_drewN ?_ _ | refine Below.setCell ?_ (by first | (simp; done) | (simp; omega)) _ | refine Below.alloc ?_ (by first | (simp; done) | (simp; omega) | omega) _ | refine Below.drew ?_ | refine Below.trans ?_ (Below.mono (by assumption) (by first | (simp; done) | (simp; omega) | omega)))))).mono ?_
  rintro e w1 ⟨rfl, hb1⟩
  have hz1 := hb1.size
  (try simp at hz1)
  have be1 : Below w.heap.size w w1 := (by repeat (first | exact Below.refl _ _ | assumption | refine below_drewN ?_ _ | refine Below.setCell ?_ (by first | (simp; done) | (simp; omega)) _ | refine Below.alloc ?_ (by first | (simp; done) | (simp; omega) | omega) _ | refine Below.drew ?_ | refine Below.trans ?_ (Below.mono (by assumption) (by first | (simp; done) | (simp; omega) | omega))))
  have c1_x_0 : w1.cell? ⟨w.heap.size, 0, none⟩ = some (.int .i64 X) := cell_keep hb1 (by go_simp)
  have c1_x_1 : w1.cell? ⟨w.heap.size, 1, none⟩ = some (.int .i64 Y) := cell_keep hb1 (by go_simp)
  have c1_x_2 : w1.cell? ⟨w.heap.size, 2, none⟩ = some (.int .i64 Z) := cell_keep hb1 (by go_simp)
  have l1_x : w.heap.size < w1.heap.size := by omega
  clear hb1
  go_wp2_with fail
  refine (number_any X Y Z _ (HE.out.below (by repeat (first | exact Below.refl _ _ | assumption | refine below_drewN ?_ _ | refine Below.setCell ?_ (by first | (simp; done) | (simp; omega)) _ | refine Below.alloc ?_ (by first | (simp; done) | (simp; omega) | omega) _ | refine Below.drew ?_ | refine Below.trans ?_ (Below.mono (by assumption) (by first | (simp; done) | (simp; omega) | omega)))))).mono ?_
  rintro e w2 ⟨rfl, hb2⟩
  rw [HN.out]
  have hz2 := hb2.size
  (try simp at hz2)
  have bb2 : Below w1.heap.size w1 w2 := (by repeat (first | exact Below.refl _ _ | assumption | refine below_drewN ?_ _ | refine Below.setCell ?_ (by first | (simp; done) | (simp; omega)) _ | refine Below.alloc ?_ (by first | (simp; done) | (simp; omega) | omega) _ | refine Below.drew ?_ | refine Below.trans ?_ (Below.mono (by assumption) (by first | (simp; done) | (simp; omega) | omega))))
  have be2 : Below w.heap.size w w2 := be1.trans (bb2.mono (by omega))
  have c2_x_0 : w2.cell? ⟨w.heap.size, 0, none⟩ = some (.int .i64 X) := cell_keep bb2 c1_x_0
  have c2_x_1 : w2.cell? ⟨w.heap.size, 1, none⟩ = some (.int .i64 Y) := cell_keep bb2 c1_x_1
  have c2_x_2 : w2.cell? ⟨w.heap.size, 2, none⟩ = some (.int .i64 Z) := cell_keep bb2 c1_x_2
  have l2_x : w.heap.size < w2.heap.size := by omega
  clear hb2 be1 bb2 c1_x_0 c1_x_1 c1_x_2 l1_x
  simp only [IV]
  go_wp2_with fail
  refine (civil_in 73048 2189 12 31 _ HD.out (HE.out.below (by repeat (first | exact Below.refl _ _ | assumption | refine below_drewN ?_ _ | refine Below.setCell ?_ (by first | (simp; done) | (simp; omega)) _ | refine Below.alloc ?_ (by first | (simp; done) | (simp; omega) | omega) _ | refine Below.drew ?_ | refine Below.trans ?_ (Below.mono (by assumption) (by first | (simp; done) | (simp; omega) | omega)))))).mono ?_
  rintro e w3 ⟨rfl, hb3⟩
  have hz3 := hb3.size
  (try simp at hz3)
  have bb3 : Below w2.heap.size w2 w3 := (by repeat (first | exact Below.refl _ _ | assumption | refine below_drewN ?_ _ | refine Below.setCell ?_ (by first | (simp; done) | (simp; omega)) _ | refine Below.alloc ?_ (by first | (simp; done) | (simp; omega) | omega) _ | refine Below.drew ?_ | refine Below.trans ?_ (Below.mono (by assumption) (by first | (simp; done) | (simp; omega) | omega))))
  have be3 : Below w.heap.size w w3 := be2.trans (bb3.mono (by omega))
  clear hb3 be2 bb3 c2_x_0 c2_x_1 c2_x_2 l2_x
  simp only [CV]
  go_wp2_with fail
  refine (number_any 2189 12 31 _ (HE.out.below (by repeat (first | exact Below.refl _ _ | assumption | refine below_drewN ?_ _ | refine Below.setCell ?_ (by first | (simp; done) | (simp; omega)) _ | refine Below.alloc ?_ (by first | (simp; done) | (simp; omega) | omega) _ | refine Below.drew ?_ | refine Below.trans ?_ (Below.mono (by assumption) (by first | (simp; done) | (simp; omega) | omega)))))).mono ?_
  rintro e w4 ⟨rfl, hb4⟩
  rw [HM.out]
  have hz4 := hb4.size
  (try simp at hz4)
  have bb4 : Below w3.heap.size w3 w4 := (by repeat (first | exact Below.refl _ _ | assumption | refine below_drewN ?_ _ | refine Below.setCell ?_ (by first | (simp; done) | (simp; omega)) _ | refine Below.alloc ?_ (by first | (simp; done) | (simp; omega) | omega) _ | refine Below.drew ?_ | refine Below.trans ?_ (Below.mono (by assumption) (by first | (simp; done) | (simp; omega) | omega))))
  have be4 : Below w.heap.size w w4 := be3.trans (bb4.mono (by omega))
  have c4_c_0 : w4.cell? ⟨w3.heap.size, 0, none⟩ = some (.int .i64 2189) := cell_keep hb4 (by go_simp)
  have c4_c_1 : w4.cell? ⟨w3.heap.size, 1, none⟩ = some (.int .i64 12) := cell_keep hb4 (by go_simp)
  have c4_c_2 : w4.cell? ⟨w3.heap.size, 2, none⟩ = some (.int .i64 31) := cell_keep hb4 (by go_simp)
  have l4_c : w3.heap.size < w4.heap.size := by omega
  clear hb4 be3 bb4
  simp only [IV]
  go_wp2_with fail
  refine (weekday_in 73048 _ (by omega) (by omega)).mono ?_
  rintro e w' ⟨rfl, rfl⟩
  simp only [IV]
  go_wp2
  go_ret
  exact ⟨rfl, (by repeat (first | exact Below.refl _ _ | assumption | refine below_drewN ?_ _ | refine Below.setCell ?_ (by first | (simp; done) | (simp; omega)) _ | refine Below.alloc ?_ (by first | (simp; done) | (simp; omega) | omega) _ | refine Below.drew ?_ | refine Below.trans ?_ (Below.mono (by assumption) (by first | (simp; done) | (simp; omega) | omega))))⟩
set_option maxRecDepth 100000 in
set_option maxHeartbeats 3200000 in
theorem inv_a_same (X Y Z day : Int) (w : World) (hE : Env w) (hn : Dt.num X Y Z = (0, 1)) (y m d : Int) (hd : Dt.IsCiv day y m d) (hm : Dt.num y m d = (day, 0)) (d0 : 0 ≤ day) (q1 : 1990 ≤ y) (q2 : y ≤ 2189) (q3 : 1 ≤ m) (q4 : m ≤ 12) (q5 : 1 ≤ d) (q6 : d ≤ 31) (d1 : day < 73048) (hx : Dt.IsCiv (day + 1) y m (d + 1)) :
    Calls Tryd.prog 3 #[.agg #[.int .i64 X, .int .i64 Y, .int .i64 Z], .int .i64 day] w fun e w' => e = .returned (.bool true) ∧ Below w.heap.size w w' := by
  have HE := Lib.hid hE
  have HN := Lib.hid hn
  have HD := Lib.hid hd
  have HM := Lib.hid hm
  have HX := Lib.hid hx
  clear hE hn hd hm hx
  go_enter Tryd.func3, Tryd.ntmps3
  go_wp2_with fail
  refine (head_any _ (HE.out.below (by repeat (first | exact Below.refl _ _ | assumption | refine below_drewN ?_ _ | refine Below.setCell ?_ (by first | (simp; done) | (simp; omega)) _ | refine Below.alloc ?_ (by first | (simp; done) | (simp; omega) | omega) _ | refine Below.drew ?_ | refine Below.trans ?_ (Below.mono (by assumption) (by first | (simp; done) | (simp; omega) | omega)))))).mono ?_
  rintro e w1 ⟨rfl, hb1⟩
  have hz1 := hb1.size
  (try simp at hz1)
  have be1 : Below w.heap.size w w1 := (by repeat (first | exact Below.refl _ _ | assumption | refine below_drewN ?_ _ | refine Below.setCell ?_ (by first | (simp; done) | (simp; omega)) _ | refine Below.alloc ?_ (by first | (simp; done) | (simp; omega) | omega) _ | refine Below.drew ?_ | refine Below.trans ?_ (Below.mono (by assumption) (by first | (simp; done) | (simp; omega) | omega))))
  have c1_x_0 : w1.cell? ⟨w.heap.size, 0, none⟩ = some (.int .i64 X) := cell_keep hb1 (by go_simp)
  have c1_x_1 : w1.cell? ⟨w.heap.size, 1, none⟩ = some (.int .i64 Y) := cell_keep hb1 (by go_simp)
  have c1_x_2 : w1.cell? ⟨w.heap.size, 2, none⟩ = some (.int .i64 Z) := cell_keep hb1 (by go_simp)
  have l1_x : w.heap.size < w1.heap.size := by omega
  clear hb1
  go_wp2_with fail
  refine (number_any X Y Z _ (HE.out.below (by repeat (first | exact Below.refl _ _ | assumption | refine below_drewN ?_ _ | refine Below.setCell ?_ (by first | (simp; done) | (simp; omega)) _ | refine Below.alloc ?_ (by first | (simp; done) | (simp; omega) | omega) _ | refine Below.drew ?_ | refine Below.trans ?_ (Below.mono (by assumption) (by first | (simp; done) | (simp; omega) | omega)))))).mono ?_
  rintro e w2 ⟨rfl, hb2⟩
  rw [HN.out]
  have hz2 := hb2.size
  (try simp at hz2)
  have bb2 : Below w1.heap.size w1 w2 := (by repeat (first | exact Below.refl _ _ | assumption | refine below_drewN ?_ _ | refine Below.setCell ?_ (by first | (simp; done) | (simp; omega)) _ | refine Below.alloc ?_ (by first | (simp; done) | (simp; omega) | omega) _ | refine Below.drew ?_ | refine Below.trans ?_ (Below.mono (by assumption) (by first | (simp; done) | (simp; omega) | omega))))
  have be2 : Below w.heap.size w w2 := be1.trans (bb2.mono (by omega))
  have c2_x_0 : w2.cell? ⟨w.heap.size, 0, none⟩ = some (.int .i64 X) := cell_keep bb2 c1_x_0
  have c2_x_1 : w2.cell? ⟨w.heap.size, 1, none⟩ = some (.int .i64 Y) := cell_keep bb2 c1_x_1
  have c2_x_2 : w2.cell? ⟨w.heap.size, 2, none⟩ = some (.int .i64 Z) := cell_keep bb2 c1_x_2
  have l2_x : w.heap.size < w2.heap.size := by omega
  clear hb2 be1 bb2 c1_x_0 c1_x_1 c1_x_2 l1_x
  simp only [IV]
  go_wp2_with fail
  refine (civil_in day y m d _ HD.out (HE.out.below (by repeat (first | exact Below.refl _ _ | assumption | refine below_drewN ?_ _ | refine Below.setCell ?_ (by first | (simp; done) | (simp; omega)) _ | refine Below.alloc ?_ (by first | (simp; done) | (simp; omega) | omega) _ | refine Below.drew ?_ | refine Below.trans ?_ (Below.mono (by assumption) (by first | (simp; done) | (simp; omega) | omega)))))).mono ?_
  rintro e w3 ⟨rfl, hb3⟩
  have hz3 := hb3.size
  (try simp at hz3)
  have bb3 : Below w2.heap.size w2 w3 := (by repeat (first | exact Below.refl _ _ | assumption | refine below_drewN ?_ _ | refine Below.setCell ?_ (by first | (simp; done) | (simp; omega)) _ | refine Below.alloc ?_ (by first | (simp; done) | (simp; omega) | omega) _ | refine Below.drew ?_ | refine Below.trans ?_ (Below.mono (by assumption) (by first | (simp; done) | (simp; omega) | omega))))
  have be3 : Below w.heap.size w w3 := be2.trans (bb3.mono (by omega))
  clear hb3 be2 bb3 c2_x_0 c2_x_1 c2_x_2 l2_x
  simp only [CV]
  go_wp2_with fail
  refine (number_any y m d _ (HE.out.below (by repeat (first | exact Below.refl _ _ | assumption | refine below_drewN ?_ _ | refine Below.setCell ?_ (by first | (simp; done) | (simp; omega)) _ | refine Below.alloc ?_ (by first | (simp; done) | (simp; omega) | omega) _ | refine Below.drew ?_ | refine Below.trans ?_ (Below.mono (by assumption) (by first | (simp; done) | (simp; omega) | omega)))))).mono ?_
  rintro e w4 ⟨rfl, hb4⟩
  rw [HM.out]
  have hz4 := hb4.size
  (try simp at hz4)
  have bb4 : Below w3.heap.size w3 w4 := (by repeat (first | exact Below.refl _ _ | assumption | refine below_drewN ?_ _ | refine Below.setCell ?_ (by first | (simp; done) | (simp; omega)) _ | refine Below.alloc ?_ (by first | (simp; done) | (simp; omega) | omega) _ | refine Below.drew ?_ | refine Below.trans ?_ (Below.mono (by assumption) (by first | (simp; done) | (simp; omega) | omega))))
  have be4 : Below w.heap.size w w4 := be3.trans (bb4.mono (by omega))
  have c4_c_0 : w4.cell? ⟨w3.heap.size, 0, none⟩ = some (.int .i64 y) := cell_keep hb4 (by go_simp)
  have c4_c_1 : w4.cell? ⟨w3.heap.size, 1, none⟩ = some (.int .i64 m) := cell_keep hb4 (by go_simp)
  have c4_c_2 : w4.cell? ⟨w3.heap.size, 2, none⟩ = some (.int .i64 d) := cell_keep hb4 (by go_simp)
  have l4_c : w3.heap.size < w4.heap.size := by omega
  clear hb4 be3 bb4
  simp only [IV]
  go_wp2_with fail
  refine (weekday_in day _ (by omega) (by omega)).mono ?_
  rintro e w' ⟨rfl, rfl⟩
  simp only [IV]
  go_wp2_with fail
  refine (civil_in (day + 1) (y) (m) (d + 1) _ HX.out (HE.out.below (by repeat (first | exact Below.refl _ _ | assumption | refine below_drewN ?_ _ | refine Below.setCell ?_ (by first | (simp; done) | (simp; omega)) _ | refine Below.alloc ?_ (by first | (simp; done) | (simp; omega) | omega) _ | refine Below.drew ?_ | refine Below.trans ?_ (Below.mono (by assumption) (by first | (simp; done) | (simp; omega) | omega)))))).mono ?_
  rintro e w5 ⟨rfl, hb5⟩
  have hz5 := hb5.size
  (try simp at hz5)
  have bb5 : Below w4.heap.size w4 w5 := (by repeat (first | exact Below.refl _ _ | assumption | refine below_drewN ?_ _ | refine Below.setCell ?_ (by first | (simp; done) | (simp; omega)) _ | refine Below.alloc ?_ (by first | (simp; done) | (simp; omega) | omega) _ | refine Below.drew ?_ | refine Below.trans ?_ (Below.mono (by assumption) (by first | (simp; done) | (simp; omega) | omega))))
  have be5 : Below w.heap.size w w5 := be4.trans (bb5.mono (by omega))
  have c5_c_0 : w5.cell? ⟨w3.heap.size, 0, none⟩ = some (.int .i64 y) := cell_keep bb5 c4_c_0
  have c5_c_1 : w5.cell? ⟨w3.heap.size, 1, none⟩ = some (.int .i64 m) := cell_keep bb5 c4_c_1
  have c5_c_2 : w5.cell? ⟨w3.heap.size, 2, none⟩ = some (.int .i64 d) := cell_keep bb5 c4_c_2
  have l5_c : w3.heap.size < w5.heap.size := by omega
  clear hb5 be4 bb5 c4_c_0 c4_c_1 c4_c_2 l4_c
  simp only [CV]
  go_wp2
  go_ret
  exact ⟨rfl, (by repeat (first | exact Below.refl _ _ | assumption | refine below_drewN ?_ _ | refine Below.setCell ?_ (by first | (simp; done) | (simp; omega)) _ | refine Below.alloc ?_ (by first | (simp; done) | (simp; omega) | omega) _ | refine Below.drew ?_ | refine Below.trans ?_ (Below.mono (by assumption) (by first | (simp; done) | (simp; omega) | omega))))⟩
set_option maxRecDepth 100000 in
set_option maxHeartbeats 3200000 in
theorem inv_a_month (X Y Z day : Int) (w : World) (hE : Env w) (hn : Dt.num X Y Z = (0, 1)) (y m d : Int) (hd : Dt.IsCiv day y m d) (hm : Dt.num y m d = (day, 0)) (d0 : 0 ≤ day) (q1 : 1990 ≤ y) (q2 : y ≤ 2189) (q3 : 1 ≤ m) (q4 : m ≤ 12) (q5 : 1 ≤ d) (q6 : d ≤ 31) (d1 : day < 73048) (q7 : 28 ≤ d) (q8 : m < 12) (hx : Dt.IsCiv (day + 1) y (m + 1) 1) :
    Calls Tryd.prog 3 #[.agg #[.int .i64 X, .int .i64 Y, .int .i64 Z], .int .i64 day] w fun e w' => e = .returned (.bool true) ∧ Below w.heap.size w w' := by
  have HE := Lib.hid hE
  have HN := Lib.hid hn
  have HD := Lib.hid hd
  have HM := Lib.hid hm
  have HX := Lib.hid hx
  clear hE hn hd hm hx
  go_enter Tryd.func3, Tryd.ntmps3
  go_wp2_with fail
  refine (head_any _ (HE.out.below (by repeat (first | exact Below.refl _ _ | assumption | refine below_drewN ?_ _ | refine Below.setCell ?_ (by first | (simp; done) | (simp; omega)) _ | refine Below.alloc ?_ (by first | (simp; done) | (simp; omega) | omega) _ | refine Below.drew ?_ | refine Below.trans ?_ (Below.mono (by assumption) (by first | (simp; done) | (simp; omega) | omega)))))).mono ?_
  rintro e w1 ⟨rfl, hb1⟩
  have hz1 := hb1.size
  (try simp at hz1)
  have be1 : Below w.heap.size w w1 := (by repeat (first | exact Below.refl _ _ | assumption | refine below_drewN ?_ _ | refine Below.setCell ?_ (by first | (simp; done) | (simp; omega)) _ | refine Below.alloc ?_ (by first | (simp; done) | (simp; omega) | omega) _ | refine Below.drew ?_ | refine Below.trans ?_ (Below.mono (by assumption) (by first | (simp; done) | (simp; omega) | omega))))
  have c1_x_0 : w1.cell? ⟨w.heap.size, 0, none⟩ = some (.int .i64 X) := cell_keep hb1 (by go_simp)
  have c1_x_1 : w1.cell? ⟨w.heap.size, 1, none⟩ = some (.int .i64 Y) := cell_keep hb1 (by go_simp)
  have c1_x_2 : w1.cell? ⟨w.heap.size, 2, none⟩ = some (.int .i64 Z) := cell_keep hb1 (by go_simp)
  have l1_x : w.heap.size < w1.heap.size := by omega
  clear hb1
  go_wp2_with fail
  refine (number_any X Y Z _ (HE.out.below (by repeat (first | exact Below.refl _ _ | assumption | refine below_drewN ?_ _ | refine Below.setCell ?_ (by first | (simp; done) | (simp; omega)) _ | refine Below.alloc ?_ (by first | (simp; done) | (simp; omega) | omega) _ | refine Below.drew ?_ | refine Below.trans ?_ (Below.mono (by assumption) (by first | (simp; done) | (simp; omega) | omega)))))).mono ?_
  rintro e w2 ⟨rfl, hb2⟩
  rw [HN.out]
  have hz2 := hb2.size
  (try simp at hz2)
  have bb2 : Below w1.heap.size w1 w2 := (by repeat (first | exact Below.refl _ _ | assumption | refine below_drewN ?_ _ | refine Below.setCell ?_ (by first | (simp; done) | (simp; omega)) _ | refine Below.alloc ?_ (by first | (simp; done) | (simp; omega) | omega) _ | refine Below.drew ?_ | refine Below.trans ?_ (Below.mono (by assumption) (by first | (simp; done) | (simp; omega) | omega))))
  have be2 : Below w.heap.size w w2 := be1.trans (bb2.mono (by omega))
  have c2_x_0 : w2.cell? ⟨w.heap.size, 0, none⟩ = some (.int .i64 X) := cell_keep bb2 c1_x_0
  have c2_x_1 : w2.cell? ⟨w.heap.size, 1, none⟩ = some (.int .i64 Y) := cell_keep bb2 c1_x_1
  have c2_x_2 : w2.cell? ⟨w.heap.size, 2, none⟩ = some (.int .i64 Z) := cell_keep bb2 c1_x_2
  have l2_x : w.heap.size < w2.heap.size := by omega
  clear hb2 be1 bb2 c1_x_0 c1_x_1 c1_x_2 l1_x
  simp only [IV]
  go_wp2_with fail
  refine (civil_in day y m d _ HD.out (HE.out.below (by repeat (first | exact Below.refl _ _ | assumption | refine below_drewN ?_ _ | refine Below.setCell ?_ (by first | (simp; done) | (simp; omega)) _ | refine Below.alloc ?_ (by first | (simp; done) | (simp; omega) | omega) _ | refine Below.drew ?_ | refine Below.trans ?_ (Below.mono (by assumption) (by first | (simp; done) | (simp; omega) | omega)))))).mono ?_
  rintro e w3 ⟨rfl, hb3⟩
  have hz3 := hb3.size
  (try simp at hz3)
  have bb3 : Below w2.heap.size w2 w3 := (by repeat (first | exact Below.refl _ _ | assumption | refine below_drewN ?_ _ | refine Below.setCell ?_ (by first | (simp; done) | (simp; omega)) _ | refine Below.alloc ?_ (by first | (simp; done) | (simp; omega) | omega) _ | refine Below.drew ?_ | refine Below.trans ?_ (Below.mono (by assumption) (by first | (simp; done) | (simp; omega) | omega))))
  have be3 : Below w.heap.size w w3 := be2.trans (bb3.mono (by omega))
  clear hb3 be2 bb3 c2_x_0 c2_x_1 c2_x_2 l2_x
  simp only [CV]
  go_wp2_with fail
  refine (number_any y m d _ (HE.out.below (by repeat (first | exact Below.refl _ _ | assumption | refine below_drewN ?_ _ | refine Below.setCell ?_ (by first | (simp; done) | (simp; omega)) _ | refine Below.alloc ?_ (by first | (simp; done) | (simp; omega) | omega) _ | refine Below.drew ?_ | refine Below.trans ?_ (Below.mono (by assumption) (by first | (simp; done) | (simp; omega) | omega)))))).mono ?_
  rintro e w4 ⟨rfl, hb4⟩
  rw [HM.out]
  have hz4 := hb4.size
  (try simp at hz4)
  have bb4 : Below w3.heap.size w3 w4 := (by repeat (first | exact Below.refl _ _ | assumption | refine below_drewN ?_ _ | refine Below.setCell ?_ (by first | (simp; done) | (simp; omega)) _ | refine Below.alloc ?_ (by first | (simp; done) | (simp; omega) | omega) _ | refine Below.drew ?_ | refine Below.trans ?_ (Below.mono (by assumption) (by first | (simp; done) | (simp; omega) | omega))))
  have be4 : Below w.heap.size w w4 := be3.trans (bb4.mono (by omega))
  have c4_c_0 : w4.cell? ⟨w3.heap.size, 0, none⟩ = some (.int .i64 y) := cell_keep hb4 (by go_simp)
  have c4_c_1 : w4.cell? ⟨w3.heap.size, 1, none⟩ = some (.int .i64 m) := cell_keep hb4 (by go_simp)
  have c4_c_2 : w4.cell? ⟨w3.heap.size, 2, none⟩ = some (.int .i64 d) := cell_keep hb4 (by go_simp)
  have l4_c : w3.heap.size < w4.heap.size := by omega
  clear hb4 be3 bb4
  simp only [IV]
  go_wp2_with fail
  refine (weekday_in day _ (by omega) (by omega)).mono ?_
  rintro e w' ⟨rfl, rfl⟩
  simp only [IV]
  go_wp2_with fail
  refine (civil_in (day + 1) (y) (m + 1) (1) _ HX.out (HE.out.below (by repeat (first | exact Below.refl _ _ | assumption | refine below_drewN ?_ _ | refine Below.setCell ?_ (by first | (simp; done) | (simp; omega)) _ | refine Below.alloc ?_ (by first | (simp; done) | (simp; omega) | omega) _ | refine Below.drew ?_ | refine Below.trans ?_ (Below.mono (by assumption) (by first | (simp; done) | (simp; omega) | omega)))))).mono ?_
  rintro e w5 ⟨rfl, hb5⟩
  have hz5 := hb5.size
  (try simp at hz5)
  have bb5 : Below w4.heap.size w4 w5 := (by repeat (first | exact Below.refl _ _ | assumption | refine below_drewN ?_ _ | refine Below.setCell ?_ (by first | (simp; done) | (simp; omega)) _ | refine Below.alloc ?_ (by first | (simp; done) | (simp; omega) | omega) _ | refine Below.drew ?_ | refine Below.trans ?_ (Below.mono (by assumption) (by first | (simp; done) | (simp; omega) | omega))))
  have be5 : Below w.heap.size w w5 := be4.trans (bb5.mono (by omega))
  have c5_c_0 : w5.cell? ⟨w3.heap.size, 0, none⟩ = some (.int .i64 y) := cell_keep bb5 c4_c_0
  have c5_c_1 : w5.cell? ⟨w3.heap.size, 1, none⟩ = some (.int .i64 m) := cell_keep bb5 c4_c_1
  have c5_c_2 : w5.cell? ⟨w3.heap.size, 2, none⟩ = some (.int .i64 d) := cell_keep bb5 c4_c_2
  have l5_c : w3.heap.size < w5.heap.size := by omega
  clear hb5 be4 bb5 c4_c_0 c4_c_1 c4_c_2 l4_c
  simp only [CV]
  go_wp2
  go_ret
  exact ⟨rfl, (by repeat (first | exact Below.refl _ _ | assumption | refine below_drewN ?_ _ | refine Below.setCell ?_ (by first | (simp; done) | (simp; omega)) _ | refine Below.alloc ?_ (by first | (simp; done) | (simp; omega) | omega) _ | refine Below.drew ?_ | refine Below.trans ?_ (Below.mono (by assumption) (by first | (simp; done) | (simp; omega) | omega))))⟩
set_option maxRecDepth 100000 in
set_option maxHeartbeats 3200000 in
theorem inv_a_year (X Y Z day : Int) (w : World) (hE : Env w) (hn : Dt.num X Y Z = (0, 1)) (y : Int) (hd : Dt.IsCiv day y 12 31) (hm : Dt.num y 12 31 = (day, 0)) (d0 : 0 ≤ day) (q1 : 1990 ≤ y) (q2 : y ≤ 2189) (d1 : day < 73048) (hx : Dt.IsCiv (day + 1) (y + 1) 1 1) :
    Calls Tryd.prog 3 #[.agg #[.int .i64 X, .int .i64 Y, .int .i64 Z], .int .i64 day] w fun e w' => e = .returned (.bool true) ∧ Below w.heap.size w w' := by
  have HE := Lib.hid hE
  have HN := Lib.hid hn
  have HD := Lib.hid hd
  have HM := Lib.hid hm
  have HX := Lib.hid hx
  clear hE hn hd hm hx
  go_enter Tryd.func3, Tryd.ntmps3
  go_wp2_with fail
  refine (head_any _ (HE.out.below (by repeat (first | exact Below.refl _ _ | assumption | refine below_drewN ?_ _ | refine Below.setCell ?_ (by first | (simp; done) | (simp; omega)) _ | refine Below.alloc ?_ (by first | (simp; done) | (simp; omega) | omega) _ | refine Below.drew ?_ | refine Below.trans ?_ (Below.mono (by assumption) (by first | (simp; done) | (simp; omega) | omega)))))).mono ?_
  rintro e w1 ⟨rfl, hb1⟩
  have hz1 := hb1.size
  (try simp at hz1)
  have be1 : Below w.heap.size w w1 := (by repeat (first | exact Below.refl _ _ | assumption | refine below_drewN ?_ _ | refine Below.setCell ?_ (by first | (simp; done) | (simp; omega)) _ | refine Below.alloc ?_ (by first | (simp; done) | (simp; omega) | omega) _ | refine Below.drew ?_ | refine Below.trans ?_ (Below.mono (by assumption) (by first | (simp; done) | (simp; omega) | omega))))
  have c1_x_0 : w1.cell? ⟨w.heap.size, 0, none⟩ = some (.int .i64 X) := cell_keep hb1 (by go_simp)
  have c1_x_1 : w1.cell? ⟨w.heap.size, 1, none⟩ = some (.int .i64 Y) := cell_keep hb1 (by go_simp)
  have c1_x_2 : w1.cell? ⟨w.heap.size, 2, none⟩ = some (.int .i64 Z) := cell_keep hb1 (by go_simp)
  have l1_x : w.heap.size < w1.heap.size := by omega
  clear hb1
  go_wp2_with fail
  refine (number_any X Y Z _ (HE.out.below (by repeat (first | exact Below.refl _ _ | assumption | refine below_drewN ?_ _ | refine Below.setCell ?_ (by first | (simp; done) | (simp; omega)) _ | refine Below.alloc ?_ (by first | (simp; done) | (simp; omega) | omega) _ | refine Below.drew ?_ | refine Below.trans ?_ (Below.mono (by assumption) (by first | (simp; done) | (simp; omega) | omega)))))).mono ?_
  rintro e w2 ⟨rfl, hb2⟩
  rw [HN.out]
  have hz2 := hb2.size
  (try simp at hz2)
  have bb2 : Below w1.heap.size w1 w2 := (by repeat (first | exact Below.refl _ _ | assumption | refine below_drewN ?_ _ | refine Below.setCell ?_ (by first | (simp; done) | (simp; omega)) _ | refine Below.alloc ?_ (by first | (simp; done) | (simp; omega) | omega) _ | refine Below.drew ?_ | refine Below.trans ?_ (Below.mono (by assumption) (by first | (simp; done) | (simp; omega) | omega))))
  have be2 : Below w.heap.size w w2 := be1.trans (bb2.mono (by omega))
  have c2_x_0 : w2.cell? ⟨w.heap.size, 0, none⟩ = some (.int .i64 X) := cell_keep bb2 c1_x_0
  have c2_x_1 : w2.cell? ⟨w.heap.size, 1, none⟩ = some (.int .i64 Y) := cell_keep bb2 c1_x_1
  have c2_x_2 : w2.cell? ⟨w.heap.size, 2, none⟩ = some (.int .i64 Z) := cell_keep bb2 c1_x_2
  have l2_x : w.heap.size < w2.heap.size := by omega
  clear hb2 be1 bb2 c1_x_0 c1_x_1 c1_x_2 l1_x
  simp only [IV]
  go_wp2_with fail
  refine (civil_in day y 12 31 _ HD.out (HE.out.below (by repeat (first | exact Below.refl _ _ | assumption | refine below_drewN ?_ _ | refine Below.setCell ?_ (by first | (simp; done) | (simp; omega)) _ | refine Below.alloc ?_ (by first | (simp; done) | (simp; omega) | omega) _ | refine Below.drew ?_ | refine Below.trans ?_ (Below.mono (by assumption) (by first | (simp; done) | (simp; omega) | omega)))))).mono ?_
  rintro e w3 ⟨rfl, hb3⟩
  have hz3 := hb3.size
  (try simp at hz3)
  have bb3 : Below w2.heap.size w2 w3 := (by repeat (first | exact Below.refl _ _ | assumption | refine below_drewN ?_ _ | refine Below.setCell ?_ (by first | (simp; done) | (simp; omega)) _ | refine Below.alloc ?_ (by first | (simp; done) | (simp; omega) | omega) _ | refine Below.drew ?_ | refine Below.trans ?_ (Below.mono (by assumption) (by first | (simp; done) | (simp; omega) | omega))))
  have be3 : Below w.heap.size w w3 := be2.trans (bb3.mono (by omega))
  clear hb3 be2 bb3 c2_x_0 c2_x_1 c2_x_2 l2_x
  simp only [CV]
  go_wp2_with fail
  refine (number_any y 12 31 _ (HE.out.below (by repeat (first | exact Below.refl _ _ | assumption | refine below_drewN ?_ _ | refine Below.setCell ?_ (by first | (simp; done) | (simp; omega)) _ | refine Below.alloc ?_ (by first | (simp; done) | (simp; omega) | omega) _ | refine Below.drew ?_ | refine Below.trans ?_ (Below.mono (by assumption) (by first | (simp; done) | (simp; omega) | omega)))))).mono ?_
  rintro e w4 ⟨rfl, hb4⟩
  rw [HM.out]
  have hz4 := hb4.size
  (try simp at hz4)
  have bb4 : Below w3.heap.size w3 w4 := (by repeat (first | exact Below.refl _ _ | assumption | refine below_drewN ?_ _ | refine Below.setCell ?_ (by first | (simp; done) | (simp; omega)) _ | refine Below.alloc ?_ (by first | (simp; done) | (simp; omega) | omega) _ | refine Below.drew ?_ | refine Below.trans ?_ (Below.mono (by assumption) (by first | (simp; done) | (simp; omega) | omega))))
  have be4 : Below w.heap.size w w4 := be3.trans (bb4.mono (by omega))
  have c4_c_0 : w4.cell? ⟨w3.heap.size, 0, none⟩ = some (.int .i64 y) := cell_keep hb4 (by go_simp)
  have c4_c_1 : w4.cell? ⟨w3.heap.size, 1, none⟩ = some (.int .i64 12) := cell_keep hb4 (by go_simp)
  have c4_c_2 : w4.cell? ⟨w3.heap.size, 2, none⟩ = some (.int .i64 31) := cell_keep hb4 (by go_simp)
  have l4_c : w3.heap.size < w4.heap.size := by omega
  clear hb4 be3 bb4
  simp only [IV]
  go_wp2_with fail
  refine (weekday_in day _ (by omega) (by omega)).mono ?_
  rintro e w' ⟨rfl, rfl⟩
  simp only [IV]
  go_wp2_with fail
  refine (civil_in (day + 1) (y + 1) (1) (1) _ HX.out (HE.out.below (by repeat (first | exact Below.refl _ _ | assumption | refine below_drewN ?_ _ | refine Below.setCell ?_ (by first | (simp; done) | (simp; omega)) _ | refine Below.alloc ?_ (by first | (simp; done) | (simp; omega) | omega) _ | refine Below.drew ?_ | refine Below.trans ?_ (Below.mono (by assumption) (by first | (simp; done) | (simp; omega) | omega)))))).mono ?_
  rintro e w5 ⟨rfl, hb5⟩
  have hz5 := hb5.size
  (try simp at hz5)
  have bb5 : Below w4.heap.size w4 w5 := (by repeat (first | exact Below.refl _ _ | assumption | refine below_drewN ?_ _ | refine Below.setCell ?_ (by first | (simp; done) | (simp; omega)) _ | refine Below.alloc ?_ (by first | (simp; done) | (simp; omega) | omega) _ | refine Below.drew ?_ | refine Below.trans ?_ (Below.mono (by assumption) (by first | (simp; done) | (simp; omega) | omega))))
  have be5 : Below w.heap.size w w5 := be4.trans (bb5.mono (by omega))
  have c5_c_0 : w5.cell? ⟨w3.heap.size, 0, none⟩ = some (.int .i64 y) := cell_keep bb5 c4_c_0
  have c5_c_1 : w5.cell? ⟨w3.heap.size, 1, none⟩ = some (.int .i64 12) := cell_keep bb5 c4_c_1
  have c5_c_2 : w5.cell? ⟨w3.heap.size, 2, none⟩ = some (.int .i64 31) := cell_keep bb5 c4_c_2
  have l5_c : w3.heap.size < w5.heap.size := by omega
  clear hb5 be4 bb5 c4_c_0 c4_c_1 c4_c_2 l4_c
  simp only [CV]
  go_wp2
  go_ret
  exact ⟨rfl, (by repeat (first | exact Below.refl _ _ | assumption | refine below_drewN ?_ _ | refine Below.setCell ?_ (by first | (simp; done) | (simp; omega)) _ | refine Below.alloc ?_ (by first | (simp; done) | (simp; omega) | omega) _ | refine Below.drew ?_ | refine Below.trans ?_ (Below.mono (by assumption) (by first | (simp; done) | (simp; omega) | omega))))⟩
set_option maxRecDepth 100000 in
set_option maxHeartbeats 3200000 in
theorem inv_b_out1 (X Y Z day : Int) (w : World) (hE : Env w) (n : Int) (hn : Dt.num X Y Z = (n, 0)) (hc : Dt.IsCiv n X Y Z) (n0 : 0 ≤ n) (n1 : n ≤ 73048) (ho : ¬ (0 ≤ day ∧ day ≤ 73048)) (d0 : day < 0) :
    Calls Tryd.prog 3 #[.agg #[.int .i64 X, .int .i64 Y, .int .i64 Z], .int .i64 day] w fun e w' => e = .returned (.bool true) ∧ Below w.heap.size w w' := by
  have HE := Lib.hid hE
  have HN := Lib.hid hn
  have HC := Lib.hid hc
  have HO := Lib.hid ho
  clear hE hn hc ho
  go_enter Tryd.func3, Tryd.ntmps3
  go_wp2_with fail
  refine (head_any _ (HE.out.below (by repeat (first | exact Below.refl _ _ | assumption | refine below_drewN ?_ _ | refine Below.setCell ?_ (by first | (simp; done) | (simp; omega)) _ | refine Below.alloc ?_ (by first | (simp; done) | (simp; omega) | omega) _ | refine Below.drew ?_ | refine Below.trans ?_ (Below.mono (by assumption) (by first | (simp; done) | (simp; omega) | omega)))))).mono ?_
  rintro e w1 ⟨rfl, hb1⟩
  have hz1 := hb1.size
  (try simp at hz1)
  have be1 : Below w.heap.size w w1 := (by repeat (first | exact Below.refl _ _ | assumption | refine below_drewN ?_ _ | refine Below.setCell ?_ (by first | (simp; done) | (simp; omega)) _ | refine Below.alloc ?_ (by first | (simp; done) | (simp; omega) | omega) _ | refine Below.drew ?_ | refine Below.trans ?_ (Below.mono (by assumption) (by first | (simp; done) | (simp; omega) | omega))))
  have c1_x_0 : w1.cell? ⟨w.heap.size, 0, none⟩ = some (.int .i64 X) := cell_keep hb1 (by go_simp)
  have c1_x_1 : w1.cell? ⟨w.heap.size, 1, none⟩ = some (.int .i64 Y) := cell_keep hb1 (by go_simp)
  have c1_x_2 : w1.cell? ⟨w.heap.size, 2, none⟩ = some (.int .i64 Z) := cell_keep hb1 (by go_simp)
  have l1_x : w.heap.size < w1.heap.size := by omega
  clear hb1
  go_wp2_with fail
  refine (number_any X Y Z _ (HE.out.below (by repeat (first | exact Below.refl _ _ | assumption | refine below_drewN ?_ _ | refine Below.setCell ?_ (by first | (simp; done) | (simp; omega)) _ | refine Below.alloc ?_ (by first | (simp; done) | (simp; omega) | omega) _ | refine Below.drew ?_ | refine Below.trans ?_ (Below.mono (by assumption) (by first | (simp; done) | (simp; omega) | omega)))))).mono ?_
  rintro e w2 ⟨rfl, hb2⟩
  rw [HN.out]
  have hz2 := hb2.size
  (try simp at hz2)
  have bb2 : Below w1.heap.size w1 w2 := (by repeat (first | exact Below.refl _ _ | assumption | refine below_drewN ?_ _ | refine Below.setCell ?_ (by first | (simp; done) | (simp; omega)) _ | refine Below.alloc ?_ (by first | (simp; done) | (simp; omega) | omega) _ | refine Below.drew ?_ | refine Below.trans ?_ (Below.mono (by assumption) (by first | (simp; done) | (simp; omega) | omega))))
  have be2 : Below w.heap.size w w2 := be1.trans (bb2.mono (by omega))
  have c2_x_0 : w2.cell? ⟨w.heap.size, 0, none⟩ = some (.int .i64 X) := cell_keep bb2 c1_x_0
  have c2_x_1 : w2.cell? ⟨w.heap.size, 1, none⟩ = some (.int .i64 Y) := cell_keep bb2 c1_x_1
  have c2_x_2 : w2.cell? ⟨w.heap.size, 2, none⟩ = some (.int .i64 Z) := cell_keep bb2 c1_x_2
  have l2_x : w.heap.size < w2.heap.size := by omega
  clear hb2 be1 bb2 c1_x_0 c1_x_1 c1_x_2 l1_x
  simp only [IV]
  go_wp2_with fail
  refine (civil_in n X Y Z _ HC.out (HE.out.below (by repeat (first | exact Below.refl _ _ | assumption | refine below_drewN ?_ _ | refine Below.setCell ?_ (by first | (simp; done) | (simp; omega)) _ | refine Below.alloc ?_ (by first | (simp; done) | (simp; omega) | omega) _ | refine Below.drew ?_ | refine Below.trans ?_ (Below.mono (by assumption) (by first | (simp; done) | (simp; omega) | omega)))))).mono ?_
  rintro e w3 ⟨rfl, hb3⟩
  have hz3 := hb3.size
  (try simp at hz3)
  have bb3 : Below w2.heap.size w2 w3 := (by repeat (first | exact Below.refl _ _ | assumption | refine below_drewN ?_ _ | refine Below.setCell ?_ (by first | (simp; done) | (simp; omega)) _ | refine Below.alloc ?_ (by first | (simp; done) | (simp; omega) | omega) _ | refine Below.drew ?_ | refine Below.trans ?_ (Below.mono (by assumption) (by first | (simp; done) | (simp; omega) | omega))))
  have be3 : Below w.heap.size w w3 := be2.trans (bb3.mono (by omega))
  have c3_x_0 : w3.cell? ⟨w.heap.size, 0, none⟩ = some (.int .i64 X) := cell_keep bb3 c2_x_0
  have c3_x_1 : w3.cell? ⟨w.heap.size, 1, none⟩ = some (.int .i64 Y) := cell_keep bb3 c2_x_1
  have c3_x_2 : w3.cell? ⟨w.heap.size, 2, none⟩ = some (.int .i64 Z) := cell_keep bb3 c2_x_2
  have l3_x : w.heap.size < w3.heap.size := by omega
  clear hb3 be2 bb3 c2_x_0 c2_x_1 c2_x_2 l2_x
  simp only [CV]
  go_wp2_with fail
  refine (civil_out day _ HO.out).mono ?_
  rintro e w4 ⟨rfl, hb4⟩
  have hz4 := hb4.size
  (try simp at hz4)
  have bb4 : Below w3.heap.size w3 w4 := (by repeat (first | exact Below.refl _ _ | assumption | refine below_drewN ?_ _ | refine Below.setCell ?_ (by first | (simp; done) | (simp; omega)) _ | refine Below.alloc ?_ (by first | (simp; done) | (simp; omega) | omega) _ | refine Below.drew ?_ | refine Below.trans ?_ (Below.mono (by assumption) (by first | (simp; done) | (simp; omega) | omega))))
  have be4 : Below w.heap.size w w4 := be3.trans (bb4.mono (by omega))
  clear hb4 be3 bb4 c3_x_0 c3_x_1 c3_x_2 l3_x
  simp only [CV]
  go_wp2
  go_ret
  exact ⟨rfl, (by repeat (first | exact Below.refl _ _ | assumption | refine below_drewN ?_ _ | refine Below.setCell ?_ (by first | (simp; done) | (simp; omega)) _ | refine Below.alloc ?_ (by first | (simp; done) | (simp; omega) | omega) _ | refine Below.drew ?_ | refine Below.trans ?_ (Below.mono (by assumption) (by first | (simp; done) | (simp; omega) | omega))))⟩
set_option maxRecDepth 100000 in
set_option maxHeartbeats 3200000 in
theorem inv_b_out2 (X Y Z day : Int) (w : World) (hE : Env w) (n : Int) (hn : Dt.num X Y Z = (n, 0)) (hc : Dt.IsCiv n X Y Z) (n0 : 0 ≤ n) (n1 : n ≤ 73048) (ho : ¬ (0 ≤ day ∧ day ≤ 73048)) (d0 : 0 ≤ day) (d1 : 73048 < day) :
    Calls Tryd.prog 3 #[.agg #[.int .i64 X, .int .i64 Y, .int .i64 Z], .int .i64 day] w fun e w' => e = .returned (.bool true) ∧ Below w.heap.size w w' := by
  have HE := Lib.hid hE
  have HN := Lib.hid hn
  have HC := Lib.hid hc
  have HO := Lib.hid ho
  clear hE hn hc ho
  go_enter Tryd.func3, Tryd.ntmps3
  go_wp2_with fail
  refine (head_any _ (HE.out.below (by repeat (first | exact Below.refl _ _ | assumption | refine below_drewN ?_ _ | refine Below.setCell ?_ (by first | (simp; done) | (simp; omega)) _ | refine Below.alloc ?_ (by first | (simp; done) | (simp; omega) | omega) _ | refine Below.drew ?_ | refine Below.trans ?_ (Below.mono (by assumption) (by first | (simp; done) | (simp; omega) | omega)))))).mono ?_
  rintro e w1 ⟨rfl, hb1⟩
  have hz1 := hb1.size
  (try simp at hz1)
  have be1 : Below w.heap.size w w1 := (by repeat (first | exact Below.refl _ _ | assumption | refine below_drewN ?_ _ | refine Below.setCell ?_ (by first | (simp; done) | (simp; omega)) _ | refine Below.alloc ?_ (by first | (simp; done) | (simp; omega) | omega) _ | refine Below.drew ?_ | refine Below.trans ?_ (Below.mono (by assumption) (by first | (simp; done) | (simp; omega) | omega))))
  have c1_x_0 : w1.cell? ⟨w.heap.size, 0, none⟩ = some (.int .i64 X) := cell_keep hb1 (by go_simp)
  have c1_x_1 : w1.cell? ⟨w.heap.size, 1, none⟩ = some (.int .i64 Y) := cell_keep hb1 (by go_simp)
  have c1_x_2 : w1.cell? ⟨w.heap.size, 2, none⟩ = some (.int .i64 Z) := cell_keep hb1 (by go_simp)
  have l1_x : w.heap.size < w1.heap.size := by omega
  clear hb1
  go_wp2_with fail
  refine (number_any X Y Z _ (HE.out.below (by repeat (first | exact Below.refl _ _ | assumption | refine below_drewN ?_ _ | refine Below.setCell ?_ (by first | (simp; done) | (simp; omega)) _ | refine Below.alloc ?_ (by first | (simp; done) | (simp; omega) | omega) _ | refine Below.drew ?_ | refine Below.trans ?_ (Below.mono (by assumption) (by first | (simp; done) | (simp; omega) | omega)))))).mono ?_
  rintro e w2 ⟨rfl, hb2⟩
  rw [HN.out]
  have hz2 := hb2.size
  (try simp at hz2)
  have bb2 : Below w1.heap.size w1 w2 := (by repeat (first | exact Below.refl _ _ | assumption | refine below_drewN ?_ _ | refine Below.setCell ?_ (by first | (simp; done) | (simp; omega)) _ | refine Below.alloc ?_ (by first | (simp; done) | (simp; omega) | omega) _ | refine Below.drew ?_ | refine Below.trans ?_ (Below.mono (by assumption) (by first | (simp; done) | (simp; omega) | omega))))
  have be2 : Below w.heap.size w w2 := be1.trans (bb2.mono (by omega))
  have c2_x_0 : w2.cell? ⟨w.heap.size, 0, none⟩ = some (.int .i64 X) := cell_keep bb2 c1_x_0
  have c2_x_1 : w2.cell? ⟨w.heap.size, 1, none⟩ = some (.int .i64 Y) := cell_keep bb2 c1_x_1
  have c2_x_2 : w2.cell? ⟨w.heap.size, 2, none⟩ = some (.int .i64 Z) := cell_keep bb2 c1_x_2
  have l2_x : w.heap.size < w2.heap.size := by omega
  clear hb2 be1 bb2 c1_x_0 c1_x_1 c1_x_2 l1_x
  simp only [IV]
  go_wp2_with fail
  refine (civil_in n X Y Z _ HC.out (HE.out.below (by repeat (first | exact Below.refl _ _ | assumption | refine below_drewN ?_ _ | refine Below.setCell ?_ (by first | (simp; done) | (simp; omega)) _ | refine Below.alloc ?_ (by first | (simp; done) | (simp; omega) | omega) _ | refine Below.drew ?_ | refine Below.trans ?_ (Below.mono (by assumption) (by first | (simp; done) | (simp; omega) | omega)))))).mono ?_
  rintro e w3 ⟨rfl, hb3⟩
  have hz3 := hb3.size
  (try simp at hz3)
  have bb3 : Below w2.heap.size w2 w3 := (by repeat (first | exact Below.refl _ _ | assumption | refine below_drewN ?_ _ | refine Below.setCell ?_ (by first | (simp; done) | (simp; omega)) _ | refine Below.alloc ?_ (by first | (simp; done) | (simp; omega) | omega) _ | refine Below.drew ?_ | refine Below.trans ?_ (Below.mono (by assumption) (by first | (simp; done) | (simp; omega) | omega))))
  have be3 : Below w.heap.size w w3 := be2.trans (bb3.mono (by omega))
  have c3_x_0 : w3.cell? ⟨w.heap.size, 0, none⟩ = some (.int .i64 X) := cell_keep bb3 c2_x_0
  have c3_x_1 : w3.cell? ⟨w.heap.size, 1, none⟩ = some (.int .i64 Y) := cell_keep bb3 c2_x_1
  have c3_x_2 : w3.cell? ⟨w.heap.size, 2, none⟩ = some (.int .i64 Z) := cell_keep bb3 c2_x_2
  have l3_x : w.heap.size < w3.heap.size := by omega
  clear hb3 be2 bb3 c2_x_0 c2_x_1 c2_x_2 l2_x
  simp only [CV]
  go_wp2_with fail
  refine (civil_out day _ HO.out).mono ?_
  rintro e w4 ⟨rfl, hb4⟩
  have hz4 := hb4.size
  (try simp at hz4)
  have bb4 : Below w3.heap.size w3 w4 := (by repeat (first | exact Below.refl _ _ | assumption | refine below_drewN ?_ _ | refine Below.setCell ?_ (by first | (simp; done) | (simp; omega)) _ | refine Below.alloc ?_ (by first | (simp; done) | (simp; omega) | omega) _ | refine Below.drew ?_ | refine Below.trans ?_ (Below.mono (by assumption) (by first | (simp; done) | (simp; omega) | omega))))
  have be4 : Below w.heap.size w w4 := be3.trans (bb4.mono (by omega))
  clear hb4 be3 bb4 c3_x_0 c3_x_1 c3_x_2 l3_x
  simp only [CV]
  go_wp2
  go_ret
  exact ⟨rfl, (by repeat (first | exact Below.refl _ _ | assumption | refine below_drewN ?_ _ | refine Below.setCell ?_ (by first | (simp; done) | (simp; omega)) _ | refine Below.alloc ?_ (by first | (simp; done) | (simp; omega) | omega) _ | refine Below.drew ?_ | refine Below.trans ?_ (Below.mono (by assumption) (by first | (simp; done) | (simp; omega) | omega))))⟩
set_option maxRecDepth 100000 in
set_option maxHeartbeats 3200000 in
theorem inv_b_last (X Y Z : Int) (w : World) (hE : Env w) (n : Int) (hn : Dt.num X Y Z = (n, 0)) (hc : Dt.IsCiv n X Y Z) (n0 : 0 ≤ n) (n1 : n ≤ 73048) (hd : Dt.IsCiv 73048 2189 12 31) (hm : Dt.num 2189 12 31 = (73048, 0)) :
    Calls Tryd.prog 3 #[.agg #[.int .i64 X, .int .i64 Y, .int .i64 Z], .int .i64 73048] w fun e w' => e = .returned (.bool true) ∧ Below w.heap.size w w' := by
  have HE := Lib.hid hE
  have HN := Lib.hid hn
  have HC := Lib.hid hc
  have HD := Lib.hid hd
  have HM := Lib.hid hm
  clear hE hn hc hd hm
  go_enter Tryd.func3, Tryd.ntmps3
  go_wp2_with fail
  refine (head_any _ (HE.out.below (by repeat (first | exact Below.refl _ _ | assumption | refine below_drewN ?_ _ | refine Below.setCell ?_ (by first | (simp; done) | (simp; omega)) _ | refine Below.alloc ?_ (by first | (simp; done) | (simp; omega) | omega) _ | refine Below.drew ?_ | refine Below.trans ?_ (Below.mono (by assumption) (by first | (simp; done) | (simp; omega) | omega)))))).mono ?_
  rintro e w1 ⟨rfl, hb1⟩
  have hz1 := hb1.size
  (try simp at hz1)
  have be1 : Below w.heap.size w w1 := (by repeat (first | exact Below.refl _ _ | assumption | refine below_drewN ?_ _ | refine Below.setCell ?_ (by first | (simp; done) | (simp; omega)) _ | refine Below.alloc ?_ (by first | (simp; done) | (simp; omega) | omega) _ | refine Below.drew ?_ | refine Below.trans ?_ (Below.mono (by assumption) (by first | (simp; done) | (simp; omega) | omega))))
  have c1_x_0 : w1.cell? ⟨w.heap.size, 0, none⟩ = some (.int .i64 X) := cell_keep hb1 (by go_simp)
  have c1_x_1 : w1.cell? ⟨w.heap.size, 1, none⟩ = some (.int .i64 Y) := cell_keep hb1 (by go_simp)
  have c1_x_2 : w1.cell? ⟨w.heap.size, 2, none⟩ = some (.int .i64 Z) := cell_keep hb1 (by go_simp)
  have l1_x : w.heap.size < w1.heap.size := by omega
  clear hb1
  go_wp2_with fail
  refine (number_any X Y Z _ (HE.out.below (by repeat (first | exact Below.refl _ _ | assumption | refine below_drewN ?_ _ | refine Below.setCell ?_ (by first | (simp; done) | (simp; omega)) _ | refine Below.alloc ?_ (by first | (simp; done) | (simp; omega) | omega) _ | refine Below.drew ?_ | refine Below.trans ?_ (Below.mono (by assumption) (by first | (simp; done) | (simp; omega) | omega)))))).mono ?_
  rintro e w2 ⟨rfl, hb2⟩
  rw [HN.out]
  have hz2 := hb2.size
  (try simp at hz2)
  have bb2 : Below w1.heap.size w1 w2 := (by repeat (first | exact Below.refl _ _ | assumption | refine below_drewN ?_ _ | refine Below.setCell ?_ (by first | (simp; done) | (simp; omega)) _ | refine Below.alloc ?_ (by first | (simp; done) | (simp; omega) | omega) _ | refine Below.drew ?_ | refine Below.trans ?_ (Below.mono (by assumption) (by first | (simp; done) | (simp; omega) | omega))))
  have be2 : Below w.heap.size w w2 := be1.trans (bb2.mono (by omega))
  have c2_x_0 : w2.cell? ⟨w.heap.size, 0, none⟩ = some (.int .i64 X) := cell_keep bb2 c1_x_0
  have c2_x_1 : w2.cell? ⟨w.heap.size, 1, none⟩ = some (.int .i64 Y) := cell_keep bb2 c1_x_1
  have c2_x_2 : w2.cell? ⟨w.heap.size, 2, none⟩ = some (.int .i64 Z) := cell_keep bb2 c1_x_2
  have l2_x : w.heap.size < w2.heap.size := by omega
  clear hb2 be1 bb2 c1_x_0 c1_x_1 c1_x_2 l1_x
  simp only [IV]
  go_wp2_with fail
  refine (civil_in n X Y Z _ HC.out (HE.out.below (by repeat (first | exact Below.refl _ _ | assumption | refine below_drewN ?_ _ | refine Below.setCell ?_ (by first | (simp; done) | (simp; omega)) _ | refine Below.alloc ?_ (by first | (simp; done) | (simp; omega) | omega) _ | refine Below.drew ?_ | refine Below.trans ?_ (Below.mono (by assumption) (by first | (simp; done) | (simp; omega) | omega)))))).mono ?_
  rintro e w3 ⟨rfl, hb3⟩
  have hz3 := hb3.size
  (try simp at hz3)
  have bb3 : Below w2.heap.size w2 w3 := (by repeat (first | exact Below.refl _ _ | assumption | refine below_drewN ?_ _ | refine Below.setCell ?_ (by first | (simp; done) | (simp; omega)) _ | refine Below.alloc ?_ (by first | (simp; done) | (simp; omega) | omega) _ | refine Below.drew ?_ | refine Below.trans ?_ (Below.mono (by assumption) (by first | (simp; done) | (simp; omega) | omega))))
  have be3 : Below w.heap.size w w3 := be2.trans (bb3.mono (by omega))
  have c3_x_0 : w3.cell? ⟨w.heap.size, 0, none⟩ = some (.int .i64 X) := cell_keep bb3 c2_x_0
  have c3_x_1 : w3.cell? ⟨w.heap.size, 1, none⟩ = some (.int .i64 Y) := cell_keep bb3 c2_x_1
  have c3_x_2 : w3.cell? ⟨w.heap.size, 2, none⟩ = some (.int .i64 Z) := cell_keep bb3 c2_x_2
  have l3_x : w.heap.size < w3.heap.size := by omega
  clear hb3 be2 bb3 c2_x_0 c2_x_1 c2_x_2 l2_x
  simp only [CV]
  go_wp2_with fail
  refine (civil_in 73048 2189 12 31 _ HD.out (HE.out.below (by repeat (first | exact Below.refl _ _ | assumption | refine below_drewN ?_ _ | refine Below.setCell ?_ (by first | (simp; done) | (simp; omega)) _ | refine Below.alloc ?_ (by first | (simp; done) | (simp; omega) | omega) _ | refine Below.drew ?_ | refine Below.trans ?_ (Below.mono (by assumption) (by first | (simp; done) | (simp; omega) | omega)))))).mono ?_
  rintro e w4 ⟨rfl, hb4⟩
  have hz4 := hb4.size
  (try simp at hz4)
  have bb4 : Below w3.heap.size w3 w4 := (by repeat (first | exact Below.refl _ _ | assumption | refine below_drewN ?_ _ | refine Below.setCell ?_ (by first | (simp; done) | (simp; omega)) _ | refine Below.alloc ?_ (by first | (simp; done) | (simp; omega) | omega) _ | refine Below.drew ?_ | refine Below.trans ?_ (Below.mono (by assumption) (by first | (simp; done) | (simp; omega) | omega))))
  have be4 : Below w.heap.size w w4 := be3.trans (bb4.mono (by omega))
  clear hb4 be3 bb4 c3_x_0 c3_x_1 c3_x_2 l3_x
  simp only [CV]
  go_wp2_with fail
  refine (number_any 2189 12 31 _ (HE.out.below (by repeat (first | exact Below.refl _ _ | assumption | refine below_drewN ?_ _ | refine Below.setCell ?_ (by first | (simp; done) | (simp; omega)) _ | refine Below.alloc ?_ (by first | (simp; done) | (simp; omega) | omega) _ | refine Below.drew ?_ | refine Below.trans ?_ (Below.mono (by assumption) (by first | (simp; done) | (simp; omega) | omega)))))).mono ?_
  rintro e w5 ⟨rfl, hb5⟩
  rw [HM.out]
  have hz5 := hb5.size
  (try simp at hz5)
  have bb5 : Below w4.heap.size w4 w5 := (by repeat (first | exact Below.refl _ _ | assumption | refine below_drewN ?_ _ | refine Below.setCell ?_ (by first | (simp; done) | (simp; omega)) _ | refine Below.alloc ?_ (by first | (simp; done) | (simp; omega) | omega) _ | refine Below.drew ?_ | refine Below.trans ?_ (Below.mono (by assumption) (by first | (simp; done) | (simp; omega) | omega))))
  have be5 : Below w.heap.size w w5 := be4.trans (bb5.mono (by omega))
  have c5_c_0 : w5.cell? ⟨w4.heap.size, 0, none⟩ = some (.int .i64 2189) := cell_keep hb5 (by go_simp)
  have c5_c_1 : w5.cell? ⟨w4.heap.size, 1, none⟩ = some (.int .i64 12) := cell_keep hb5 (by go_simp)
  have c5_c_2 : w5.cell? ⟨w4.heap.size, 2, none⟩ = some (.int .i64 31) := cell_keep hb5 (by go_simp)
  have l5_c : w4.heap.size < w5.heap.size := by omega
  clear hb5 be4 bb5
  simp only [IV]
  go_wp2_with fail
  refine (weekday_in 73048 _ (by omega) (by omega)).mono ?_
  rintro e w' ⟨rfl, rfl⟩
  simp only [IV]
  go_wp2
  go_ret
  exact ⟨rfl, (by repeat (first | exact Below.refl _ _ | assumption | refine below_drewN ?_ _ | refine Below.setCell ?_ (by first | (simp; done) | (simp; omega)) _ | refine Below.alloc ?_ (by first | (simp; done) | (simp; omega) | omega) _ | refine Below.drew ?_ | refine Below.trans ?_ (Below.mono (by assumption) (by first | (simp; done) | (simp; omega) | omega))))⟩
set_option maxRecDepth 100000 in
set_option maxHeartbeats 3200000 in
theorem inv_b_same (X Y Z day : Int) (w : World) (hE : Env w) (n : Int) (hn : Dt.num X Y Z = (n, 0)) (hc : Dt.IsCiv n X Y Z) (n0 : 0 ≤ n) (n1 : n ≤ 73048) (y m d : Int) (hd : Dt.IsCiv day y m d) (hm : Dt.num y m d = (day, 0)) (d0 : 0 ≤ day) (q1 : 1990 ≤ y) (q2 : y ≤ 2189) (q3 : 1 ≤ m) (q4 : m ≤ 12) (q5 : 1 ≤ d) (q6 : d ≤ 31) (d1 : day < 73048) (hx : Dt.IsCiv (day + 1) y m (d + 1)) :
    Calls Tryd.prog 3 #[.agg #[.int .i64 X, .int .i64 Y, .int .i64 Z], .int .i64 day] w fun e w' => e = .returned (.bool true) ∧ Below w.heap.size w w' := by
  have HE := Lib.hid hE
  have HN := Lib.hid hn
  have HC := Lib.hid hc
  have HD := Lib.hid hd
  have HM := Lib.hid hm
  have HX := Lib.hid hx
  clear hE hn hc hd hm hx
  go_enter Tryd.func3, Tryd.ntmps3
  go_wp2_with fail
  refine (head_any _ (HE.out.below (by repeat (first | exact Below.refl _ _ | assumption | refine below_drewN ?_ _ | refine Below.setCell ?_ (by first | (simp; done) | (simp; omega)) _ | refine Below.alloc ?_ (by first | (simp; done) | (simp; omega) | omega) _ | refine Below.drew ?_ | refine Below.trans ?_ (Below.mono (by assumption) (by first | (simp; done) | (simp; omega) | omega)))))).mono ?_
  rintro e w1 ⟨rfl, hb1⟩
  have hz1 := hb1.size
  (try simp at hz1)
  have be1 : Below w.heap.size w w1 := (by repeat (first | exact Below.refl _ _ | assumption | refine below_drewN ?_ _ | refine Below.setCell ?_ (by first | (simp; done) | (simp; omega)) _ | refine Below.alloc ?_ (by first | (simp; done) | (simp; omega) | omega) _ | refine Below.drew ?_ | refine Below.trans ?_ (Below.mono (by assumption) (by first | (simp; done) | (simp; omega) | omega))))
  have c1_x_0 : w1.cell? ⟨w.heap.size, 0, none⟩ = some (.int .i64 X) := cell_keep hb1 (by go_simp)
  have c1_x_1 : w1.cell? ⟨w.heap.size, 1, none⟩ = some (.int .i64 Y) := cell_keep hb1 (by go_simp)
  have c1_x_2 : w1.cell? ⟨w.heap.size, 2, none⟩ = some (.int .i64 Z) := cell_keep hb1 (by go_simp)
  have l1_x : w.heap.size < w1.heap.size := by omega
  clear hb1
  go_wp2_with fail
  refine (number_any X Y Z _ (HE.out.below (by repeat (first | exact Below.refl _ _ | assumption | refine below_drewN ?_ _ | refine Below.setCell ?_ (by first | (simp; done) | (simp; omega)) _ | refine Below.alloc ?_ (by first | (simp; done) | (simp; omega) | omega) _ | refine Below.drew ?_ | refine Below.trans ?_ (Below.mono (by assumption) (by first | (simp; done) | (simp; omega) | omega)))))).mono ?_
  rintro e w2 ⟨rfl, hb2⟩
  rw [HN.out]
  have hz2 := hb2.size
  (try simp at hz2)
  have bb2 : Below w1.heap.size w1 w2 := (by repeat (first | exact Below.refl _ _ | assumption | refine below_drewN ?_ _ | refine Below.setCell ?_ (by first | (simp; done) | (simp; omega)) _ | refine Below.alloc ?_ (by first | (simp; done) | (simp; omega) | omega) _ | refine Below.drew ?_ | refine Below.trans ?_ (Below.mono (by assumption) (by first | (simp; done) | (simp; omega) | omega))))
  have be2 : Below w.heap.size w w2 := be1.trans (bb2.mono (by omega))
  have c2_x_0 : w2.cell? ⟨w.heap.size, 0, none⟩ = some (.int .i64 X) := cell_keep bb2 c1_x_0
  have c2_x_1 : w2.cell? ⟨w.heap.size, 1, none⟩ = some (.int .i64 Y) := cell_keep bb2 c1_x_1
  have c2_x_2 : w2.cell? ⟨w.heap.size, 2, none⟩ = some (.int .i64 Z) := cell_keep bb2 c1_x_2
  have l2_x : w.heap.size < w2.heap.size := by omega
  clear hb2 be1 bb2 c1_x_0 c1_x_1 c1_x_2 l1_x
  simp only [IV]
  go_wp2_with fail
  refine (civil_in n X Y Z _ HC.out (HE.out.below (by repeat (first | exact Below.refl _ _ | assumption | refine below_drewN ?_ _ | refine Below.setCell ?_ (by first | (simp; done) | (simp; omega)) _ | refine Below.alloc ?_ (by first | (simp; done) | (simp; omega) | omega) _ | refine Below.drew ?_ | refine Below.trans ?_ (Below.mono (by assumption) (by first | (simp; done) | (simp; omega) | omega)))))).mono ?_
  rintro e w3 ⟨rfl, hb3⟩
  have hz3 := hb3.size
  (try simp at hz3)
  have bb3 : Below w2.heap.size w2 w3 := (by repeat (first | exact Below.refl _ _ | assumption | refine below_drewN ?_ _ | refine Below.setCell ?_ (by first | (simp; done) | (simp; omega)) _ | refine Below.alloc ?_ (by first | (simp; done) | (simp; omega) | omega) _ | refine Below.drew ?_ | refine Below.trans ?_ (Below.mono (by assumption) (by first | (simp; done) | (simp; omega) | omega))))
  have be3 : Below w.heap.size w w3 := be2.trans (bb3.mono (by omega))
  have c3_x_0 : w3.cell? ⟨w.heap.size, 0, none⟩ = some (.int .i64 X) := cell_keep bb3 c2_x_0
  have c3_x_1 : w3.cell? ⟨w.heap.size, 1, none⟩ = some (.int .i64 Y) := cell_keep bb3 c2_x_1
  have c3_x_2 : w3.cell? ⟨w.heap.size, 2, none⟩ = some (.int .i64 Z) := cell_keep bb3 c2_x_2
  have l3_x : w.heap.size < w3.heap.size := by omega
  clear hb3 be2 bb3 c2_x_0 c2_x_1 c2_x_2 l2_x
  simp only [CV]
  go_wp2_with fail
  refine (civil_in day y m d _ HD.out (HE.out.below (by repeat (first | exact Below.refl _ _ | assumption | refine below_drewN ?_ _ | refine Below.setCell ?_ (by first | (simp; done) | (simp; omega)) _ | refine Below.alloc ?_ (by first | (simp; done) | (simp; omega) | omega) _ | refine Below.drew ?_ | refine Below.trans ?_ (Below.mono (by assumption) (by first | (simp; done) | (simp; omega) | omega)))))).mono ?_
  rintro e w4 ⟨rfl, hb4⟩
  have hz4 := hb4.size
  (try simp at hz4)
  have bb4 : Below w3.heap.size w3 w4 := (by repeat (first | exact Below.refl _ _ | assumption | refine below_drewN ?_ _ | refine Below.setCell ?_ (by first | (simp; done) | (simp; omega)) _ | refine Below.alloc ?_ (by first | (simp; done) | (simp; omega) | omega) _ | refine Below.drew ?_ | refine Below.trans ?_ (Below.mono (by assumption) (by first | (simp; done) | (simp; omega) | omega))))
  have be4 : Below w.heap.size w w4 := be3.trans (bb4.mono (by omega))
  clear hb4 be3 bb4 c3_x_0 c3_x_1 c3_x_2 l3_x
  simp only [CV]
  go_wp2_with fail
  refine (number_any y m d _ (HE.out.below (by repeat (first | exact Below.refl _ _ | assumption | refine below_drewN ?_ _ | refine Below.setCell ?_ (by first | (simp; done) | (simp; omega)) _ | refine Below.alloc ?_ (by first | (simp; done) | (simp; omega) | omega) _ | refine Below.drew ?_ | refine Below.trans ?_ (Below.mono (by assumption) (by first | (simp; done) | (simp; omega) | omega)))))).mono ?_
  rintro e w5 ⟨rfl, hb5⟩
  rw [HM.out]
  have hz5 := hb5.size
  (try simp at hz5)
  have bb5 : Below w4.heap.size w4 w5 := (by repeat (first | exact Below.refl _ _ | assumption | refine below_drewN ?_ _ | refine Below.setCell ?_ (by first | (simp; done) | (simp; omega)) _ | refine Below.alloc ?_ (by first | (simp; done) | (simp; omega) | omega) _ | refine Below.drew ?_ | refine Below.trans ?_ (Below.mono (by assumption) (by first | (simp; done) | (simp; omega) | omega))))
  have be5 : Below w.heap.size w w5 := be4.trans (bb5.mono (by omega))
  have c5_c_0 : w5.cell? ⟨w4.heap.size, 0, none⟩ = some (.int .i64 y) := cell_keep hb5 (by go_simp)
  have c5_c_1 : w5.cell? ⟨w4.heap.size, 1, none⟩ = some (.int .i64 m) := cell_keep hb5 (by go_simp)
  have c5_c_2 : w5.cell? ⟨w4.heap.size, 2, none⟩ = some (.int .i64 d) := cell_keep hb5 (by go_simp)
  have l5_c : w4.heap.size < w5.heap.size := by omega
  clear hb5 be4 bb5
  simp only [IV]
  go_wp2_with fail
  refine (weekday_in day _ (by omega) (by omega)).mono ?_
  rintro e w' ⟨rfl, rfl⟩
  simp only [IV]
  go_wp2_with fail
  refine (civil_in (day + 1) (y) (m) (d + 1) _ HX.out (HE.out.below (by repeat (first | exact Below.refl _ _ | assumption | refine below_drewN ?_ _ | refine Below.setCell ?_ (by first | (simp; done) | (simp; omega)) _ | refine Below.alloc ?_ (by first | (simp; done) | (simp; omega) | omega) _ | refine Below.drew ?_ | refine Below.trans ?_ (Below.mono (by assumption) (by first | (simp; done) | (simp; omega) | omega)))))).mono ?_
  rintro e w6 ⟨rfl, hb6⟩
  have hz6 := hb6.size
  (try simp at hz6)
  have bb6 : Below w5.heap.size w5 w6 := (by repeat (first | exact Below.refl _ _ | assumption | refine below_drewN ?_ _ | refine Below.setCell ?_ (by first | (simp; done) | (simp; omega)) _ | refine Below.alloc ?_ (by first | (simp; done) | (simp; omega) | omega) _ | refine Below.drew ?_ | refine Below.trans ?_ (Below.mono (by assumption) (by first | (simp; done) | (simp; omega) | omega))))
  have be6 : Below w.heap.size w w6 := be5.trans (bb6.mono (by omega))
  have c6_c_0 : w6.cell? ⟨w4.heap.size, 0, none⟩ = some (.int .i64 y) := cell_keep bb6 c5_c_0
  have c6_c_1 : w6.cell? ⟨w4.heap.size, 1, none⟩ = some (.int .i64 m) := cell_keep bb6 c5_c_1
  have c6_c_2 : w6.cell? ⟨w4.heap.size, 2, none⟩ = some (.int .i64 d) := cell_keep bb6 c5_c_2
  have l6_c : w4.heap.size < w6.heap.size := by omega
  clear hb6 be5 bb6 c5_c_0 c5_c_1 c5_c_2 l5_c
  simp only [CV]
  go_wp2
  go_ret
  exact ⟨rfl, (by repeat (first | exact Below.refl _ _ | assumption | refine below_drewN ?_ _ | refine Below.setCell ?_ (by first | (simp; done) | (simp; omega)) _ | refine Below.alloc ?_ (by first | (simp; done) | (simp; omega) | omega) _ | refine Below.drew ?_ | refine Below.trans ?_ (Below.mono (by assumption) (by first | (simp; done) | (simp; omega) | omega))))⟩
set_option maxRecDepth 100000 in
set_option maxHeartbeats 3200000 in
theorem inv_b_month (X Y Z day : Int) (w : World) (hE : Env w) (n : Int) (hn : Dt.num X Y Z = (n, 0)) (hc : Dt.IsCiv n X Y Z) (n0 : 0 ≤ n) (n1 : n ≤ 73048) (y m d : Int) (hd : Dt.IsCiv day y m d) (hm : Dt.num y m d = (day, 0)) (d0 : 0 ≤ day) (q1 : 1990 ≤ y) (q2 : y ≤ 2189) (q3 : 1 ≤ m) (q4 : m ≤ 12) (q5 : 1 ≤ d) (q6 : d ≤ 31) (d1 : day < 73048) (q7 : 28 ≤ d) (q8 : m < 12) (hx : Dt.IsCiv (day + 1) y (m + 1) 1) :
    Calls Tryd.prog 3 #[.agg #[.int .i64 X, .int .i64 Y, .int .i64 Z], .int .i64 day] w fun e w' => e = .returned (.bool true) ∧ Below w.heap.size w w' := by
  have HE := Lib.hid hE
  have HN := Lib.hid hn
  have HC := Lib.hid hc
  have HD := Lib.hid hd
  have HM := Lib.hid hm
  have HX := Lib.hid hx
  clear hE hn hc hd hm hx
  go_enter Tryd.func3, Tryd.ntmps3
  go_wp2_with fail
  refine (head_any _ (HE.out.below (by repeat (first | exact Below.refl _ _ | assumption | refine below_drewN ?_ _ | refine Below.setCell ?_ (by first | (simp; done) | (simp; omega)) _ | refine Below.alloc ?_ (by first | (simp; done) | (simp; omega) | omega) _ | refine Below.drew ?_ | refine Below.trans ?_ (Below.mono (by assumption) (by first | (simp; done) | (simp; omega) | omega)))))).mono ?_
  rintro e w1 ⟨rfl, hb1⟩
  have hz1 := hb1.size
  (try simp at hz1)
  have be1 : Below w.heap.size w w1 := (by repeat (first | exact Below.refl _ _ | assumption | refine below_drewN ?_ _ | refine Below.setCell ?_ (by first | (simp; done) | (simp; omega)) _ | refine Below.alloc ?_ (by first | (simp; done) | (simp; omega) | omega) _ | refine Below.drew ?_ | refine Below.trans ?_ (Below.mono (by assumption) (by first | (simp; done) | (simp; omega) | omega))))
  have c1_x_0 : w1.cell? ⟨w.heap.size, 0, none⟩ = some (.int .i64 X) := cell_keep hb1 (by go_simp)
  have c1_x_1 : w1.cell? ⟨w.heap.size, 1, none⟩ = some (.int .i64 Y) := cell_keep hb1 (by go_simp)
  have c1_x_2 : w1.cell? ⟨w.heap.size, 2, none⟩ = some (.int .i64 Z) := cell_keep hb1 (by go_simp)
  have l1_x : w.heap.size < w1.heap.size := by omega
  clear hb1
  go_wp2_with fail
  refine (number_any X Y Z _ (HE.out.below (by repeat (first | exact Below.refl _ _ | assumption | refine below_drewN ?_ _ | refine Below.setCell ?_ (by first | (simp; done) | (simp; omega)) _ | refine Below.alloc ?_ (by first | (simp; done) | (simp; omega) | omega) _ | refine Below.drew ?_ | refine Below.trans ?_ (Below.mono (by assumption) (by first | (simp; done) | (simp; omega) | omega)))))).mono ?_
  rintro e w2 ⟨rfl, hb2⟩
  rw [HN.out]
  have hz2 := hb2.size
  (try simp at hz2)
  have bb2 : Below w1.heap.size w1 w2 := (by repeat (first | exact Below.refl _ _ | assumption | refine below_drewN ?_ _ | refine Below.setCell ?_ (by first | (simp; done) | (simp; omega)) _ | refine Below.alloc ?_ (by first | (simp; done) | (simp; omega) | omega) _ | refine Below.drew ?_ | refine Below.trans ?_ (Below.mono (by assumption) (by first | (simp; done) | (simp; omega) | omega))))
  have be2 : Below w.heap.size w w2 := be1.trans (bb2.mono (by omega))
  have c2_x_0 : w2.cell? ⟨w.heap.size, 0, none⟩ = some (.int .i64 X) := cell_keep bb2 c1_x_0
  have c2_x_1 : w2.cell? ⟨w.heap.size, 1, none⟩ = some (.int .i64 Y) := cell_keep bb2 c1_x_1
  have c2_x_2 : w2.cell? ⟨w.heap.size, 2, none⟩ = some (.int .i64 Z) := cell_keep bb2 c1_x_2
  have l2_x : w.heap.size < w2.heap.size := by omega
  clear hb2 be1 bb2 c1_x_0 c1_x_1 c1_x_2 l1_x
  simp only [IV]
  go_wp2_with fail
  refine (civil_in n X Y Z _ HC.out (HE.out.below (by repeat (first | exact Below.refl _ _ | assumption | refine below_drewN ?_ _ | refine Below.setCell ?_ (by first | (simp; done) | (simp; omega)) _ | refine Below.alloc ?_ (by first | (simp; done) | (simp; omega) | omega) _ | refine Below.drew ?_ | refine Below.trans ?_ (Below.mono (by assumption) (by first | (simp; done) | (simp; omega) | omega)))))).mono ?_
  rintro e w3 ⟨rfl, hb3⟩
  have hz3 := hb3.size
  (try simp at hz3)
  have bb3 : Below w2.heap.size w2 w3 := (by repeat (first | exact Below.refl _ _ | assumption | refine below_drewN ?_ _ | refine Below.setCell ?_ (by first | (simp; done) | (simp; omega)) _ | refine Below.alloc ?_ (by first | (simp; done) | (simp; omega) | omega) _ | refine Below.drew ?_ | refine Below.trans ?_ (Below.mono (by assumption) (by first | (simp; done) | (simp; omega) | omega))))
  have be3 : Below w.heap.size w w3 := be2.trans (bb3.mono (by omega))
  have c3_x_0 : w3.cell? ⟨w.heap.size, 0, none⟩ = some (.int .i64 X) := cell_keep bb3 c2_x_0
  have c3_x_1 : w3.cell? ⟨w.heap.size, 1, none⟩ = some (.int .i64 Y) := cell_keep bb3 c2_x_1
  have c3_x_2 : w3.cell? ⟨w.heap.size, 2, none⟩ = some (.int .i64 Z) := cell_keep bb3 c2_x_2
  have l3_x : w.heap.size < w3.heap.size := by omega
  clear hb3 be2 bb3 c2_x_0 c2_x_1 c2_x_2 l2_x
  simp only [CV]
  go_wp2_with fail
  refine (civil_in day y m d _ HD.out (HE.out.below (by repeat (first | exact Below.refl _ _ | assumption | refine below_drewN ?_ _ | refine Below.setCell ?_ (by first | (simp; done) | (simp; omega)) _ | refine Below.alloc ?_ (by first | (simp; done) | (simp; omega) | omega) _ | refine Below.drew ?_ | refine Below.trans ?_ (Below.mono (by assumption) (by first | (simp; done) | (simp; omega) | omega)))))).mono ?_
  rintro e w4 ⟨rfl, hb4⟩
  have hz4 := hb4.size
  (try simp at hz4)
  have bb4 : Below w3.heap.size w3 w4 := (by repeat (first | exact Below.refl _ _ | assumption | refine below_drewN ?_ _ | refine Below.setCell ?_ (by first | (simp; done) | (simp; omega)) _ | refine Below.alloc ?_ (by first | (simp; done) | (simp; omega) | omega) _ | refine Below.drew ?_ | refine Below.trans ?_ (Below.mono (by assumption) (by first | (simp; done) | (simp; omega) | omega))))
  have be4 : Below w.heap.size w w4 := be3.trans (bb4.mono (by omega))
  clear hb4 be3 bb4 c3_x_0 c3_x_1 c3_x_2 l3_x
  simp only [CV]
  go_wp2_with fail
  refine (number_any y m d _ (HE.out.below (by repeat (first | exact Below.refl _ _ | assumption | refine below_drewN ?_ _ | refine Below.setCell ?_ (by first | (simp; done) | (simp; omega)) _ | refine Below.alloc ?_ (by first | (simp; done) | (simp; omega) | omega) _ | refine Below.drew ?_ | refine Below.trans ?_ (Below.mono (by assumption) (by first | (simp; done) | (simp; omega) | omega)))))).mono ?_
  rintro e w5 ⟨rfl, hb5⟩
  rw [HM.out]
  have hz5 := hb5.size
  (try simp at hz5)
  have bb5 : Below w4.heap.size w4 w5 := (by repeat (first | exact Below.refl _ _ | assumption | refine below_drewN ?_ _ | refine Below.setCell ?_ (by first | (simp; done) | (simp; omega)) _ | refine Below.alloc ?_ (by first | (simp; done) | (simp; omega) | omega) _ | refine Below.drew ?_ | refine Below.trans ?_ (Below.mono (by assumption) (by first | (simp; done) | (simp; omega) | omega))))
  have be5 : Below w.heap.size w w5 := be4.trans (bb5.mono (by omega))
  have c5_c_0 : w5.cell? ⟨w4.heap.size, 0, none⟩ = some (.int .i64 y) := cell_keep hb5 (by go_simp)
  have c5_c_1 : w5.cell? ⟨w4.heap.size, 1, none⟩ = some (.int .i64 m) := cell_keep hb5 (by go_simp)
  have c5_c_2 : w5.cell? ⟨w4.heap.size, 2, none⟩ = some (.int .i64 d) := cell_keep hb5 (by go_simp)
  have l5_c : w4.heap.size < w5.heap.size := by omega
  clear hb5 be4 bb5
  simp only [IV]
  go_wp2_with fail
  refine (weekday_in day _ (by omega) (by omega)).mono ?_
  rintro e w' ⟨rfl, rfl⟩
  simp only [IV]
  go_wp2_with fail
  refine (civil_in (day + 1) (y) (m + 1) (1) _ HX.out (HE.out.below (by repeat (first | exact Below.refl _ _ | assumption | refine below_drewN ?_ _ | refine Below.setCell ?_ (by first | (simp; done) | (simp; omega)) _ | refine Below.alloc ?_ (by first | (simp; done) | (simp; omega) | omega) _ | refine Below.drew ?_ | refine Below.trans ?_ (Below.mono (by assumption) (by first | (simp; done) | (simp; omega) | omega)))))).mono ?_
  rintro e w6 ⟨rfl, hb6⟩
  have hz6 := hb6.size
  (try simp at hz6)
  have bb6 : Below w5.heap.size w5 w6 := (by repeat (first | exact Below.refl _ _ | assumption | refine below_drewN ?_ _ | refine Below.setCell ?_ (by first | (simp; done) | (simp; omega)) _ | refine Below.alloc ?_ (by first | (simp; done) | (simp; omega) | omega) _ | refine Below.drew ?_ | refine Below.trans ?_ (Below.mono (by assumption) (by first | (simp; done) | (simp; omega) | omega))))
  have be6 : Below w.heap.size w w6 := be5.trans (bb6.mono (by omega))
  have c6_c_0 : w6.cell? ⟨w4.heap.size, 0, none⟩ = some (.int .i64 y) := cell_keep bb6 c5_c_0
  have c6_c_1 : w6.cell? ⟨w4.heap.size, 1, none⟩ = some (.int .i64 m) := cell_keep bb6 c5_c_1
  have c6_c_2 : w6.cell? ⟨w4.heap.size, 2, none⟩ = some (.int .i64 d) := cell_keep bb6 c5_c_2
  have l6_c : w4.heap.size < w6.heap.size := by omega
  clear hb6 be5 bb6 c5_c_0 c5_c_1 c5_c_2 l5_c
  simp only [CV]
  go_wp2
  go_ret
  exact ⟨rfl, (by repeat (first | exact Below.refl _ _ | assumption | refine below_drewN ?_ _ | refine Below.setCell ?_ (by first | (simp; done) | (simp; omega)) _ | refine Below.alloc ?_ (by first | (simp; done) | (simp; omega) | omega) _ | refine Below.drew ?_ | refine Below.trans ?_ (Below.mono (by assumption) (by first | (simp; done) | (simp; omega) | omega))))⟩
set_option maxRecDepth 100000 in
set_option maxHeartbeats 3200000 in
theorem inv_b_year (X Y Z day : Int) (w : World) (hE : Env w) (n : Int) (hn : Dt.num X Y Z = (n, 0)) (hc : Dt.IsCiv n X Y Z) (n0 : 0 ≤ n) (n1 : n ≤ 73048) (y : Int) (hd : Dt.IsCiv day y 12 31) (hm : Dt.num y 12 31 = (day, 0)) (d0 : 0 ≤ day) (q1 : 1990 ≤ y) (q2 : y ≤ 2189) (d1 : day < 73048) (hx : Dt.IsCiv (day + 1) (y + 1) 1 1) :
    Calls Tryd.prog 3 #[.agg #[.int .i64 X, .int .i64 Y, .int .i64 Z], .int .i64 day] w fun e w' => e = .returned (.bool true) ∧ Below w.heap.size w w' := by
  have HE := Lib.hid hE
  have HN := Lib.hid hn
  have HC := Lib.hid hc
  have HD := Lib.hid hd
  have HM := Lib.hid hm
  have HX := Lib.hid hx
  clear hE hn hc hd hm hx
  go_enter Tryd.func3, Tryd.ntmps3
  go_wp2_with fail
  refine (head_any _ (HE.out.below (by repeat (first | exact Below.refl _ _ | assumption | refine below_drewN ?_ _ | refine Below.setCell ?_ (by first | (simp; done) | (simp; omega)) _ | refine Below.alloc ?_ (by first | (simp; done) | (simp; omega) | omega) _ | refine Below.drew ?_ | refine Below.trans ?_ (Below.mono (by assumption) (by first | (simp; done) | (simp; omega) | omega)))))).mono ?_
  rintro e w1 ⟨rfl, hb1⟩
  have hz1 := hb1.size
  (try simp at hz1)
  have be1 : Below w.heap.size w w1 := (by repeat (first | exact Below.refl _ _ | assumption | refine below_drewN ?_ _ | refine Below.setCell ?_ (by first | (simp; done) | (simp; omega)) _ | refine Below.alloc ?_ (by first | (simp; done) | (simp; omega) | omega) _ | refine Below.drew ?_ | refine Below.trans ?_ (Below.mono (by assumption) (by first | (simp; done) | (simp; omega) | omega))))
  have c1_x_0 : w1.cell? ⟨w.heap.size, 0, none⟩ = some (.int .i64 X) := cell_keep hb1 (by go_simp)
  have c1_x_1 : w1.cell? ⟨w.heap.size, 1, none⟩ = some (.int .i64 Y) := cell_keep hb1 (by go_simp)
  have c1_x_2 : w1.cell? ⟨w.heap.size, 2, none⟩ = some (.int .i64 Z) := cell_keep hb1 (by go_simp)
  have l1_x : w.heap.size < w1.heap.size := by omega
  clear hb1
  go_wp2_with fail
  refine (number_any X Y Z _ (HE.out.below (by repeat (first | exact Below.refl _ _ | assumption | refine below_drewN ?_ _ | refine Below.setCell ?_ (by first | (simp; done) | (simp; omega)) _ | refine Below.alloc ?_ (by first | (simp; done) | (simp; omega) | omega) _ | refine Below.drew ?_ | refine Below.trans ?_ (Below.mono (by assumption) (by first | (simp; done) | (simp; omega) | omega)))))).mono ?_
  rintro e w2 ⟨rfl, hb2⟩
  rw [HN.out]
  have hz2 := hb2.size
  (try simp at hz2)
  have bb2 : Below w1.heap.size w1 w2 := (by repeat (first | exact Below.refl _ _ | assumption | refine below_drewN ?_ _ | refine Below.setCell ?_ (by first | (simp; done) | (simp; omega)) _ | refine Below.alloc ?_ (by first | (simp; done) | (simp; omega) | omega) _ | refine Below.drew ?_ | refine Below.trans ?_ (Below.mono (by assumption) (by first | (simp; done) | (simp; omega) | omega))))
  have be2 : Below w.heap.size w w2 := be1.trans (bb2.mono (by omega))
  have c2_x_0 : w2.cell? ⟨w.heap.size, 0, none⟩ = some (.int .i64 X) := cell_keep bb2 c1_x_0
  have c2_x_1 : w2.cell? ⟨w.heap.size, 1, none⟩ = some (.int .i64 Y) := cell_keep bb2 c1_x_1
  have c2_x_2 : w2.cell? ⟨w.heap.size, 2, none⟩ = some (.int .i64 Z) := cell_keep bb2 c1_x_2
  have l2_x : w.heap.size < w2.heap.size := by omega
  clear hb2 be1 bb2 c1_x_0 c1_x_1 c1_x_2 l1_x
  simp only [IV]
  go_wp2_with fail
  refine (civil_in n X Y Z _ HC.out (HE.out.below (by repeat (first | exact Below.refl _ _ | assumption | refine below_drewN ?_ _ | refine Below.setCell ?_ (by first | (simp; done) | (simp; omega)) _ | refine Below.alloc ?_ (by first | (simp; done) | (simp; omega) | omega) _ | refine Below.drew ?_ | refine Below.trans ?_ (Below.mono (by assumption) (by first | (simp; done) | (simp; omega) | omega)))))).mono ?_
  rintro e w3 ⟨rfl, hb3⟩
  have hz3 := hb3.size
  (try simp at hz3)
  have bb3 : Below w2.heap.size w2 w3 := (by repeat (first | exact Below.refl _ _ | assumption | refine below_drewN ?_ _ | refine Below.setCell ?_ (by first | (simp; done) | (simp; omega)) _ | refine Below.alloc ?_ (by first | (simp; done) | (simp; omega) | omega) _ | refine Below.drew ?_ | refine Below.trans ?_ (Below.mono (by assumption) (by first | (simp; done) | (simp; omega) | omega))))
  have be3 : Below w.heap.size w w3 := be2.trans (bb3.mono (by omega))
  have c3_x_0 : w3.cell? ⟨w.heap.size, 0, none⟩ = some (.int .i64 X) := cell_keep bb3 c2_x_0
  have c3_x_1 : w3.cell? ⟨w.heap.size, 1, none⟩ = some (.int .i64 Y) := cell_keep bb3 c2_x_1
  have c3_x_2 : w3.cell? ⟨w.heap.size, 2, none⟩ = some (.int .i64 Z) := cell_keep bb3 c2_x_2
  have l3_x : w.heap.size < w3.heap.size := by omega
  clear hb3 be2 bb3 c2_x_0 c2_x_1 c2_x_2 l2_x
  simp only [CV]
  go_wp2_with fail
  refine (civil_in day y 12 31 _ HD.out (HE.out.below (by repeat (first | exact Below.refl _ _ | assumption | refine below_drewN ?_ _ | refine Below.setCell ?_ (by first | (simp; done) | (simp; omega)) _ | refine Below.alloc ?_ (by first | (simp; done) | (simp; omega) | omega) _ | refine Below.drew ?_ | refine Below.trans ?_ (Below.mono (by assumption) (by first | (simp; done) | (simp; omega) | omega)))))).mono ?_
  rintro e w4 ⟨rfl, hb4⟩
  have hz4 := hb4.size
  (try simp at hz4)
  have bb4 : Below w3.heap.size w3 w4 := (by repeat (first | exact Below.refl _ _ | assumption | refine below_drewN ?_ _ | refine Below.setCell ?_ (by first | (simp; done) | (simp; omega)) _ | refine Below.alloc ?_ (by first | (simp; done) | (simp; omega) | omega) _ | refine Below.drew ?_ | refine Below.trans ?_ (Below.mono (by assumption) (by first | (simp; done) | (simp; omega) | omega))))
  have be4 : Below w.heap.size w w4 := be3.trans (bb4.mono (by omega))
  clear hb4 be3 bb4 c3_x_0 c3_x_1 c3_x_2 l3_x
  simp only [CV]
  go_wp2_with fail
  refine (number_any y 12 31 _ (HE.out.below (by repeat (first | exact Below.refl _ _ | assumption | refine below_drewN ?_ _ | refine Below.setCell ?_ (by first | (simp; done) | (simp; omega)) _ | refine Below.alloc ?_ (by first | (simp; done) | (simp; omega) | omega) _ | refine Below.drew ?_ | refine Below.trans ?_ (Below.mono (by assumption) (by first | (simp; done) | (simp; omega) | omega)))))).mono ?_
  rintro e w5 ⟨rfl, hb5⟩
  rw [HM.out]
  have hz5 := hb5.size
  (try simp at hz5)
  have bb5 : Below w4.heap.size w4 w5 := (by repeat (first | exact Below.refl _ _ | assumption | refine below_drewN ?_ _ | refine Below.setCell ?_ (by first | (simp; done) | (simp; omega)) _ | refine Below.alloc ?_ (by first | (simp; done) | (simp; omega) | omega) _ | refine Below.drew ?_ | refine Below.trans ?_ (Below.mono (by assumption) (by first | (simp; done) | (simp; omega) | omega))))
  have be5 : Below w.heap.size w w5 := be4.trans (bb5.mono (by omega))
  have c5_c_0 : w5.cell? ⟨w4.heap.size, 0, none⟩ = some (.int .i64 y) := cell_keep hb5 (by go_simp)
  have c5_c_1 : w5.cell? ⟨w4.heap.size, 1, none⟩ = some (.int .i64 12) := cell_keep hb5 (by go_simp)
  have c5_c_2 : w5.cell? ⟨w4.heap.size, 2, none⟩ = some (.int .i64 31) := cell_keep hb5 (by go_simp)
  have l5_c : w4.heap.size < w5.heap.size := by omega
  clear hb5 be4 bb5
  simp only [IV]
  go_wp2_with fail
  refine (weekday_in day _ (by omega) (by omega)).mono ?_
  rintro e w' ⟨rfl, rfl⟩
  simp only [IV]
  go_wp2_with fail
  refine (civil_in (day + 1) (y + 1) (1) (1) _ HX.out (HE.out.below (by repeat (first | exact Below.refl _ _ | assumption | refine below_drewN ?_ _ | refine Below.setCell ?_ (by first | (simp; done) | (simp; omega)) _ | refine Below.alloc ?_ (by first | (simp; done) | (simp; omega) | omega) _ | refine Below.drew ?_ | refine Below.trans ?_ (Below.mono (by assumption) (by first | (simp; done) | (simp; omega) | omega)))))).mono ?_
  rintro e w6 ⟨rfl, hb6⟩
  have hz6 := hb6.size
  (try simp at hz6)
  have bb6 : Below w5.heap.size w5 w6 := (by repeat (first | exact Below.refl _ _ | assumption | refine below_drewN ?_ _ | refine Below.setCell ?_ (by first | (simp; done) | (simp; omega)) _ | refine Below.alloc ?_ (by first | (simp; done) | (simp; omega) | omega) _ | refine Below.drew ?_ | refine Below.trans ?_ (Below.mono (by assumption) (by first | (simp; done) | (simp; omega) | omega))))
  have be6 : Below w.heap.size w w6 := be5.trans (bb6.mono (by omega))
  have c6_c_0 : w6.cell? ⟨w4.heap.size, 0, none⟩ = some (.int .i64 y) := cell_keep bb6 c5_c_0
  have c6_c_1 : w6.cell? ⟨w4.heap.size, 1, none⟩ = some (.int .i64 12) := cell_keep bb6 c5_c_1
  have c6_c_2 : w6.cell? ⟨w4.heap.size, 2, none⟩ = some (.int .i64 31) := cell_keep bb6 c5_c_2
  have l6_c : w4.heap.size < w6.heap.size := by omega
  clear hb6 be5 bb6 c5_c_0 c5_c_1 c5_c_2 l5_c
  simp only [CV]
  go_wp2
  go_ret
  exact ⟨rfl, (by repeat (first | exact Below.refl _ _ | assumption | refine below_drewN ?_ _ | refine Below.setCell ?_ (by first | (simp; done) | (simp; omega)) _ | refine Below.alloc ?_ (by first | (simp; done) | (simp; omega) | omega) _ | refine Below.drew ?_ | refine Below.trans ?_ (Below.mono (by assumption) (by first | (simp; done) | (simp; omega) | omega))))⟩
theorem inverse_any (X Y Z day : Int) (w : World) (hE : Env w) :
    Calls Tryd.prog 3 #[.agg #[.int .i64 X, .int .i64 Y, .int .i64 Z], .int .i64 day] w fun e w' => e = .returned (.bool true) ∧ Below w.heap.size w w' := by
  have hnum := Dt.num_cases X Y Z
  by_cases h0 : 0 ≤ day
  · by_cases h1 : day ≤ 73048
    · obtain ⟨y, m, d, hc⟩ := Dt.civ_exists h0 h1
      have hm := Dt.num_civ hc
      by_cases h2 : day < 73048
      · have hx := Dt.civ_next hc h2
        obtain ⟨q1, q2, q3, q4, q5, q6, q7⟩ := id hc
        have bd := Dt.ml_bd (y := y) q3 q4
        rcases hx with ⟨_, hx⟩ | ⟨hd, hmm, hx⟩ | ⟨hd, hmm, _, hx⟩
        · rcases hnum with ⟨n, hn, e⟩ | ⟨e, _⟩
          · exact inv_b_same X Y Z day w hE n e hn (Dt.civ_range hn).1 (Dt.civ_range hn).2 y m d hc hm h0 q1 q2 q3 q4 q5 (by omega) h2 hx
          · exact inv_a_same X Y Z day w hE e y m d hc hm h0 q1 q2 q3 q4 q5 (by omega) h2 hx
        · rcases hnum with ⟨n, hn, e⟩ | ⟨e, _⟩
          · exact inv_b_month X Y Z day w hE n e hn (Dt.civ_range hn).1 (Dt.civ_range hn).2 y m d hc hm h0 q1 q2 q3 q4 q5 (by omega) h2 (by omega) hmm hx
          · exact inv_a_month X Y Z day w hE e y m d hc hm h0 q1 q2 q3 q4 q5 (by omega) h2 (by omega) hmm hx
        · subst hmm
          have e31 : d = 31 := by rw [hd, Dt.ml_eq (by omega) (by omega)]; rfl
          subst e31
          rcases hnum with ⟨n, hn, e⟩ | ⟨e, _⟩
          · exact inv_b_year X Y Z day w hE n e hn (Dt.civ_range hn).1 (Dt.civ_range hn).2 y hc hm h0 q1 q2 h2 hx
          · exact inv_a_year X Y Z day w hE e y hc hm h0 q1 q2 h2 hx
      · obtain rfl : day = 73048 := by omega
        have hl : Dt.IsCiv 73048 2189 12 31 := by unfold Dt.IsCiv; decide
        have hl2 := Dt.num_civ hl
        rcases hnum with ⟨n, hn, e⟩ | ⟨e, _⟩
        · exact inv_b_last X Y Z w hE n e hn (Dt.civ_range hn).1 (Dt.civ_range hn).2 hl hl2
        · exact inv_a_last X Y Z w hE e hl hl2
    · rcases hnum with ⟨n, hn, e⟩ | ⟨e, _⟩
      · exact inv_b_out2 X Y Z day w hE n e hn (Dt.civ_range hn).1 (Dt.civ_range hn).2 (by omega) h0 (by omega)
      · exact inv_a_out2 X Y Z day w hE e (by omega) h0 (by omega)
  · rcases hnum with ⟨n, hn, e⟩ | ⟨e, _⟩
    · exact inv_b_out1 X Y Z day w hE n e hn (Dt.civ_range hn).1 (Dt.civ_range hn).2 (by omega) (by omega)
    · exact inv_a_out1 X Y Z day w hE e (by omega) (by omega)
end Go.Proofs.YtackkeggabgaeaaDoor

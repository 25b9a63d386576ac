/- DateYears: the walk of the law. -/
import Derived.Test.YtackkeggabgaeaaDoorDtL
namespace Go.Proofs.YtackkeggabgaeaaDoor
open Go.RowKit

theorem num_first {y : Int} (h1 : 1990 ≤ y) (h2 : y ≤ 2189) : Dt.num y 1 1 = (Dt.yb y, 0) := by
  have := Dt.ml_bd (y := y) (m := 1) (by omega) (by omega)
  unfold Dt.num
  rw [if_pos ⟨h1, h2, by omega, by omega, by omega, by omega⟩, Dt.mb_one]
  rw [show Dt.yb y + 1 - 1 = Dt.yb y by omega]
theorem num_feb_leap {y : Int} (h1 : 1990 ≤ y) (h2 : y ≤ 2189) (h : Dt.leap y = true) : ∃ c, Dt.num y 2 29 = (c, 0) := by
  have e := Dt.ml_eq (y := y) (m := 2) (by omega) (by omega)
  rw [if_pos rfl, if_pos h] at e
  exact ⟨_, by unfold Dt.num; rw [if_pos ⟨h1, h2, by omega, by omega, by omega, by omega⟩]⟩
theorem num_feb {y : Int} (h : Dt.leap y = false) : Dt.num y 2 29 = (0, 1) := by
  have e := Dt.ml_eq (y := y) (m := 2) (by omega) (by omega)
  rw [if_pos rfl, if_neg (by rw [h]; simp)] at e
  unfold Dt.num; rw [if_neg (by omega)]
set_option maxRecDepth 100000 in
set_option maxHeartbeats 1600000 in
theorem years_a (r Y A B C : Int) (w : World) (h0 : 0 ≤ r) (h1 : r ≤ 65535) (hY : 1990 + r % 199 = Y) (hE : Env w) (n1 : Dt.num Y 1 1 = (A, 0)) (n2 : Dt.num (Y + 1) 1 1 = (B, 0)) (n3 : Dt.num Y 2 29 = (C, 0)) (hB : B = A + 366) (t4 : Y % 4 = 0) (t1 : ¬ Y % 100 = 0) :
    Calls Tryd.prog 4 #[.int .u16 r] w fun e w' => e = .returned (.bool true) ∧ Below w.heap.size w w' := by
  have y1 : 1990 ≤ Y := by omega
  have y2 : Y ≤ 2188 := by omega
  have HY := Lib.hid hY
  have HE := Lib.hid hE
  have N1 := Lib.hid n1
  have N2 := Lib.hid n2
  have N3 := Lib.hid n3
  subst hB
  clear hY hE n1 n2 n3
  go_enter Tryd.func4, Tryd.ntmps4
  go_wp2_with fail
  refine (head_any _ HE.out).mono ?_
  rintro e w1 ⟨rfl, hb1⟩
  have be1 : Below w.heap.size w w1 := (by repeat (first | exact Below.refl _ _ | assumption | refine below_drewN ?_ _ | refine Below.setCell ?_ (by first | (simp; done) | (simp; omega)) _ | refine Below.alloc ?_ (by first | (simp; done) | (simp; omega) | omega) _ | refine Below.drew ?_ | refine Below.trans ?_ (Below.mono (by assumption) (by first | (simp; done) | (simp; omega) | omega))))
  have hz1 := hb1.size
  clear hb1
  go_wp2_with fail
  simp only [HY.out]
  refine (number_any _ _ _ _ (HE.out.below (by repeat (first | exact Below.refl _ _ | assumption | refine below_drewN ?_ _ | refine Below.setCell ?_ (by first | (simp; done) | (simp; omega)) _ | refine Below.alloc ?_ (by first | (simp; done) | (simp; omega) | omega) _ | refine Below.drew ?_ | refine Below.trans ?_ (Below.mono (by assumption) (by first | (simp; done) | (simp; omega) | omega)))))).mono ?_
  rintro e w2 ⟨rfl, hb2⟩
  have hz2 := hb2.size
  (try simp at hz2)
  have be2 : Below w.heap.size w w2 := (by repeat (first | exact Below.refl _ _ | assumption | refine below_drewN ?_ _ | refine Below.setCell ?_ (by first | (simp; done) | (simp; omega)) _ | refine Below.alloc ?_ (by first | (simp; done) | (simp; omega) | omega) _ | refine Below.drew ?_ | refine Below.trans ?_ (Below.mono (by assumption) (by first | (simp; done) | (simp; omega) | omega))))
  clear hb2 be1
  rw [N1.out]
  simp only [IV]
  go_wp2_with fail
  refine (number_any _ _ _ _ (HE.out.below (by repeat (first | exact Below.refl _ _ | assumption | refine below_drewN ?_ _ | refine Below.setCell ?_ (by first | (simp; done) | (simp; omega)) _ | refine Below.alloc ?_ (by first | (simp; done) | (simp; omega) | omega) _ | refine Below.drew ?_ | refine Below.trans ?_ (Below.mono (by assumption) (by first | (simp; done) | (simp; omega) | omega)))))).mono ?_
  rintro e w3 ⟨rfl, hb3⟩
  have hz3 := hb3.size
  (try simp at hz3)
  have be3 : Below w.heap.size w w3 := (by repeat (first | exact Below.refl _ _ | assumption | refine below_drewN ?_ _ | refine Below.setCell ?_ (by first | (simp; done) | (simp; omega)) _ | refine Below.alloc ?_ (by first | (simp; done) | (simp; omega) | omega) _ | refine Below.drew ?_ | refine Below.trans ?_ (Below.mono (by assumption) (by first | (simp; done) | (simp; omega) | omega))))
  clear hb3 be2
  rw [N2.out]
  simp only [IV]
  go_wp2_with fail
  refine (number_any _ _ _ _ (HE.out.below (by repeat (first | exact Below.refl _ _ | assumption | refine below_drewN ?_ _ | refine Below.setCell ?_ (by first | (simp; done) | (simp; omega)) _ | refine Below.alloc ?_ (by first | (simp; done) | (simp; omega) | omega) _ | refine Below.drew ?_ | refine Below.trans ?_ (Below.mono (by assumption) (by first | (simp; done) | (simp; omega) | omega)))))).mono ?_
  rintro e w4 ⟨rfl, hb4⟩
  have hz4 := hb4.size
  (try simp at hz4)
  have be4 : Below w.heap.size w w4 := (by repeat (first | exact Below.refl _ _ | assumption | refine below_drewN ?_ _ | refine Below.setCell ?_ (by first | (simp; done) | (simp; omega)) _ | refine Below.alloc ?_ (by first | (simp; done) | (simp; omega) | omega) _ | refine Below.drew ?_ | refine Below.trans ?_ (Below.mono (by assumption) (by first | (simp; done) | (simp; omega) | omega))))
  clear hb4 be3
  rw [N3.out]
  simp only [IV]
  have hd : A + 366 - A = 366 := by omega
  have hw : IntKind.i64.wrap (A + 366 - A) = 366 := by rw [hd]; exact IntWalk.i64_in _ (by omega)
  go_wp2
  go_ret
  exact ⟨rfl, (by repeat (first | exact Below.refl _ _ | assumption | refine below_drewN ?_ _ | refine Below.setCell ?_ (by first | (simp; done) | (simp; omega)) _ | refine Below.alloc ?_ (by first | (simp; done) | (simp; omega) | omega) _ | refine Below.drew ?_ | refine Below.trans ?_ (Below.mono (by assumption) (by first | (simp; done) | (simp; omega) | omega))))⟩
set_option maxRecDepth 100000 in
set_option maxHeartbeats 1600000 in
theorem years_b (r Y A B C : Int) (w : World) (h0 : 0 ≤ r) (h1 : r ≤ 65535) (hY : 1990 + r % 199 = Y) (hE : Env w) (n1 : Dt.num Y 1 1 = (A, 0)) (n2 : Dt.num (Y + 1) 1 1 = (B, 0)) (n3 : Dt.num Y 2 29 = (C, 0)) (hB : B = A + 366) (t4 : Y % 4 = 0) (t1 : Y % 100 = 0) (t0 : Y % 400 = 0) :
    Calls Tryd.prog 4 #[.int .u16 r] w fun e w' => e = .returned (.bool true) ∧ Below w.heap.size w w' := by
  have y1 : 1990 ≤ Y := by omega
  have y2 : Y ≤ 2188 := by omega
  have HY := Lib.hid hY
  have HE := Lib.hid hE
  have N1 := Lib.hid n1
  have N2 := Lib.hid n2
  have N3 := Lib.hid n3
  subst hB
  clear hY hE n1 n2 n3
  go_enter Tryd.func4, Tryd.ntmps4
  go_wp2_with fail
  refine (head_any _ HE.out).mono ?_
  rintro e w1 ⟨rfl, hb1⟩
  have be1 : Below w.heap.size w w1 := (by repeat (first | exact Below.refl _ _ | assumption | refine below_drewN ?_ _ | refine Below.setCell ?_ (by first | (simp; done) | (simp; omega)) _ | refine Below.alloc ?_ (by first | (simp; done) | (simp; omega) | omega) _ | refine Below.drew ?_ | refine Below.trans ?_ (Below.mono (by assumption) (by first | (simp; done) | (simp; omega) | omega))))
  have hz1 := hb1.size
  clear hb1
  go_wp2_with fail
  simp only [HY.out]
  refine (number_any _ _ _ _ (HE.out.below (by repeat (first | exact Below.refl _ _ | assumption | refine below_drewN ?_ _ | refine Below.setCell ?_ (by first | (simp; done) | (simp; omega)) _ | refine Below.alloc ?_ (by first | (simp; done) | (simp; omega) | omega) _ | refine Below.drew ?_ | refine Below.trans ?_ (Below.mono (by assumption) (by first | (simp; done) | (simp; omega) | omega)))))).mono ?_
  rintro e w2 ⟨rfl, hb2⟩
  have hz2 := hb2.size
  (try simp at hz2)
  have be2 : Below w.heap.size w w2 := (by repeat (first | exact Below.refl _ _ | assumption | refine below_drewN ?_ _ | refine Below.setCell ?_ (by first | (simp; done) | (simp; omega)) _ | refine Below.alloc ?_ (by first | (simp; done) | (simp; omega) | omega) _ | refine Below.drew ?_ | refine Below.trans ?_ (Below.mono (by assumption) (by first | (simp; done) | (simp; omega) | omega))))
  clear hb2 be1
  rw [N1.out]
  simp only [IV]
  go_wp2_with fail
  refine (number_any _ _ _ _ (HE.out.below (by repeat (first | exact Below.refl _ _ | assumption | refine below_drewN ?_ _ | refine Below.setCell ?_ (by first | (simp; done) | (simp; omega)) _ | refine Below.alloc ?_ (by first | (simp; done) | (simp; omega) | omega) _ | refine Below.drew ?_ | refine Below.trans ?_ (Below.mono (by assumption) (by first | (simp; done) | (simp; omega) | omega)))))).mono ?_
  rintro e w3 ⟨rfl, hb3⟩
  have hz3 := hb3.size
  (try simp at hz3)
  have be3 : Below w.heap.size w w3 := (by repeat (first | exact Below.refl _ _ | assumption | refine below_drewN ?_ _ | refine Below.setCell ?_ (by first | (simp; done) | (simp; omega)) _ | refine Below.alloc ?_ (by first | (simp; done) | (simp; omega) | omega) _ | refine Below.drew ?_ | refine Below.trans ?_ (Below.mono (by assumption) (by first | (simp; done) | (simp; omega) | omega))))
  clear hb3 be2
  rw [N2.out]
  simp only [IV]
  go_wp2_with fail
  refine (number_any _ _ _ _ (HE.out.below (by repeat (first | exact Below.refl _ _ | assumption | refine below_drewN ?_ _ | refine Below.setCell ?_ (by first | (simp; done) | (simp; omega)) _ | refine Below.alloc ?_ (by first | (simp; done) | (simp; omega) | omega) _ | refine Below.drew ?_ | refine Below.trans ?_ (Below.mono (by assumption) (by first | (simp; done) | (simp; omega) | omega)))))).mono ?_
  rintro e w4 ⟨rfl, hb4⟩
  have hz4 := hb4.size
  (try simp at hz4)
  have be4 : Below w.heap.size w w4 := (by repeat (first | exact Below.refl _ _ | assumption | refine below_drewN ?_ _ | refine Below.setCell ?_ (by first | (simp; done) | (simp; omega)) _ | refine Below.alloc ?_ (by first | (simp; done) | (simp; omega) | omega) _ | refine Below.drew ?_ | refine Below.trans ?_ (Below.mono (by assumption) (by first | (simp; done) | (simp; omega) | omega))))
  clear hb4 be3
  rw [N3.out]
  simp only [IV]
  have hd : A + 366 - A = 366 := by omega
  have hw : IntKind.i64.wrap (A + 366 - A) = 366 := by rw [hd]; exact IntWalk.i64_in _ (by omega)
  go_wp2
  go_ret
  exact ⟨rfl, (by repeat (first | exact Below.refl _ _ | assumption | refine below_drewN ?_ _ | refine Below.setCell ?_ (by first | (simp; done) | (simp; omega)) _ | refine Below.alloc ?_ (by first | (simp; done) | (simp; omega) | omega) _ | refine Below.drew ?_ | refine Below.trans ?_ (Below.mono (by assumption) (by first | (simp; done) | (simp; omega) | omega))))⟩
set_option maxRecDepth 100000 in
set_option maxHeartbeats 1600000 in
theorem years_c (r Y A B C : Int) (w : World) (h0 : 0 ≤ r) (h1 : r ≤ 65535) (hY : 1990 + r % 199 = Y) (hE : Env w) (n1 : Dt.num Y 1 1 = (A, 0)) (n2 : Dt.num (Y + 1) 1 1 = (B, 0)) (n3 : Dt.num Y 2 29 = (C, 1)) (hB : B = A + 365) (t4 : Y % 4 = 0) (t1 : Y % 100 = 0) (t0 : ¬ Y % 400 = 0) :
    Calls Tryd.prog 4 #[.int .u16 r] w fun e w' => e = .returned (.bool true) ∧ Below w.heap.size w w' := by
  have y1 : 1990 ≤ Y := by omega
  have y2 : Y ≤ 2188 := by omega
  have HY := Lib.hid hY
  have HE := Lib.hid hE
  have N1 := Lib.hid n1
  have N2 := Lib.hid n2
  have N3 := Lib.hid n3
  subst hB
  clear hY hE n1 n2 n3
  go_enter Tryd.func4, Tryd.ntmps4
  go_wp2_with fail
  refine (head_any _ HE.out).mono ?_
  rintro e w1 ⟨rfl, hb1⟩
  have be1 : Below w.heap.size w w1 := (by repeat (first | exact Below.refl _ _ | assumption | refine below_drewN ?_ _ | refine Below.setCell ?_ (by first | (simp; done) | (simp; omega)) _ | refine Below.alloc ?_ (by first | (simp; done) | (simp; omega) | omega) _ | refine Below.drew ?_ | refine Below.trans ?_ (Below.mono (by assumption) (by first | (simp; done) | (simp; omega) | omega))))
  have hz1 := hb1.size
  clear hb1
  go_wp2_with fail
  simp only [HY.out]
  refine (number_any _ _ _ _ (HE.out.below (by repeat (first | exact Below.refl _ _ | assumption | refine below_drewN ?_ _ | refine Below.setCell ?_ (by first | (simp; done) | (simp; omega)) _ | refine Below.alloc ?_ (by first | (simp; done) | (simp; omega) | omega) _ | refine Below.drew ?_ | refine Below.trans ?_ (Below.mono (by assumption) (by first | (simp; done) | (simp; omega) | omega)))))).mono ?_
  rintro e w2 ⟨rfl, hb2⟩
  have hz2 := hb2.size
  (try simp at hz2)
  have be2 : Below w.heap.size w w2 := (by repeat (first | exact Below.refl _ _ | assumption | refine below_drewN ?_ _ | refine Below.setCell ?_ (by first | (simp; done) | (simp; omega)) _ | refine Below.alloc ?_ (by first | (simp; done) | (simp; omega) | omega) _ | refine Below.drew ?_ | refine Below.trans ?_ (Below.mono (by assumption) (by first | (simp; done) | (simp; omega) | omega))))
  clear hb2 be1
  rw [N1.out]
  simp only [IV]
  go_wp2_with fail
  refine (number_any _ _ _ _ (HE.out.below (by repeat (first | exact Below.refl _ _ | assumption | refine below_drewN ?_ _ | refine Below.setCell ?_ (by first | (simp; done) | (simp; omega)) _ | refine Below.alloc ?_ (by first | (simp; done) | (simp; omega) | omega) _ | refine Below.drew ?_ | refine Below.trans ?_ (Below.mono (by assumption) (by first | (simp; done) | (simp; omega) | omega)))))).mono ?_
  rintro e w3 ⟨rfl, hb3⟩
  have hz3 := hb3.size
  (try simp at hz3)
  have be3 : Below w.heap.size w w3 := (by repeat (first | exact Below.refl _ _ | assumption | refine below_drewN ?_ _ | refine Below.setCell ?_ (by first | (simp; done) | (simp; omega)) _ | refine Below.alloc ?_ (by first | (simp; done) | (simp; omega) | omega) _ | refine Below.drew ?_ | refine Below.trans ?_ (Below.mono (by assumption) (by first | (simp; done) | (simp; omega) | omega))))
  clear hb3 be2
  rw [N2.out]
  simp only [IV]
  go_wp2_with fail
  refine (number_any _ _ _ _ (HE.out.below (by repeat (first | exact Below.refl _ _ | assumption | refine below_drewN ?_ _ | refine Below.setCell ?_ (by first | (simp; done) | (simp; omega)) _ | refine Below.alloc ?_ (by first | (simp; done) | (simp; omega) | omega) _ | refine Below.drew ?_ | refine Below.trans ?_ (Below.mono (by assumption) (by first | (simp; done) | (simp; omega) | omega)))))).mono ?_
  rintro e w4 ⟨rfl, hb4⟩
  have hz4 := hb4.size
  (try simp at hz4)
  have be4 : Below w.heap.size w w4 := (by repeat (first | exact Below.refl _ _ | assumption | refine below_drewN ?_ _ | refine Below.setCell ?_ (by first | (simp; done) | (simp; omega)) _ | refine Below.alloc ?_ (by first | (simp; done) | (simp; omega) | omega) _ | refine Below.drew ?_ | refine Below.trans ?_ (Below.mono (by assumption) (by first | (simp; done) | (simp; omega) | omega))))
  clear hb4 be3
  rw [N3.out]
  simp only [IV]
  have hd : A + 365 - A = 365 := by omega
  have hw : IntKind.i64.wrap (A + 365 - A) = 365 := by rw [hd]; exact IntWalk.i64_in _ (by omega)
  go_wp2
  go_ret
  exact ⟨rfl, (by repeat (first | exact Below.refl _ _ | assumption | refine below_drewN ?_ _ | refine Below.setCell ?_ (by first | (simp; done) | (simp; omega)) _ | refine Below.alloc ?_ (by first | (simp; done) | (simp; omega) | omega) _ | refine Below.drew ?_ | refine Below.trans ?_ (Below.mono (by assumption) (by first | (simp; done) | (simp; omega) | omega))))⟩
set_option maxRecDepth 100000 in
set_option maxHeartbeats 1600000 in
theorem years_d (r Y A B C : Int) (w : World) (h0 : 0 ≤ r) (h1 : r ≤ 65535) (hY : 1990 + r % 199 = Y) (hE : Env w) (n1 : Dt.num Y 1 1 = (A, 0)) (n2 : Dt.num (Y + 1) 1 1 = (B, 0)) (n3 : Dt.num Y 2 29 = (C, 1)) (hB : B = A + 365) (t4 : ¬ Y % 4 = 0) (t0 : ¬ Y % 400 = 0) :
    Calls Tryd.prog 4 #[.int .u16 r] w fun e w' => e = .returned (.bool true) ∧ Below w.heap.size w w' := by
  have y1 : 1990 ≤ Y := by omega
  have y2 : Y ≤ 2188 := by omega
  have HY := Lib.hid hY
  have HE := Lib.hid hE
  have N1 := Lib.hid n1
  have N2 := Lib.hid n2
  have N3 := Lib.hid n3
  subst hB
  clear hY hE n1 n2 n3
  go_enter Tryd.func4, Tryd.ntmps4
  go_wp2_with fail
  refine (head_any _ HE.out).mono ?_
  rintro e w1 ⟨rfl, hb1⟩
  have be1 : Below w.heap.size w w1 := (by repeat (first | exact Below.refl _ _ | assumption | refine below_drewN ?_ _ | refine Below.setCell ?_ (by first | (simp; done) | (simp; omega)) _ | refine Below.alloc ?_ (by first | (simp; done) | (simp; omega) | omega) _ | refine Below.drew ?_ | refine Below.trans ?_ (Below.mono (by assumption) (by first | (simp; done) | (simp; omega) | omega))))
  have hz1 := hb1.size
  clear hb1
  go_wp2_with fail
  simp only [HY.out]
  refine (number_any _ _ _ _ (HE.out.below (by repeat (first | exact Below.refl _ _ | assumption | refine below_drewN ?_ _ | refine Below.setCell ?_ (by first | (simp; done) | (simp; omega)) _ | refine Below.alloc ?_ (by first | (simp; done) | (simp; omega) | omega) _ | refine Below.drew ?_ | refine Below.trans ?_ (Below.mono (by assumption) (by first | (simp; done) | (simp; omega) | omega)))))).mono ?_
  rintro e w2 ⟨rfl, hb2⟩
  have hz2 := hb2.size
  (try simp at hz2)
  have be2 : Below w.heap.size w w2 := (by repeat (first | exact Below.refl _ _ | assumption | refine below_drewN ?_ _ | refine Below.setCell ?_ (by first | (simp; done) | (simp; omega)) _ | refine Below.alloc ?_ (by first | (simp; done) | (simp; omega) | omega) _ | refine Below.drew ?_ | refine Below.trans ?_ (Below.mono (by assumption) (by first | (simp; done) | (simp; omega) | omega))))
  clear hb2 be1
  rw [N1.out]
  simp only [IV]
  go_wp2_with fail
  refine (number_any _ _ _ _ (HE.out.below (by repeat (first | exact Below.refl _ _ | assumption | refine below_drewN ?_ _ | refine Below.setCell ?_ (by first | (simp; done) | (simp; omega)) _ | refine Below.alloc ?_ (by first | (simp; done) | (simp; omega) | omega) _ | refine Below.drew ?_ | refine Below.trans ?_ (Below.mono (by assumption) (by first | (simp; done) | (simp; omega) | omega)))))).mono ?_
  rintro e w3 ⟨rfl, hb3⟩
  have hz3 := hb3.size
  (try simp at hz3)
  have be3 : Below w.heap.size w w3 := (by repeat (first | exact Below.refl _ _ | assumption | refine below_drewN ?_ _ | refine Below.setCell ?_ (by first | (simp; done) | (simp; omega)) _ | refine Below.alloc ?_ (by first | (simp; done) | (simp; omega) | omega) _ | refine Below.drew ?_ | refine Below.trans ?_ (Below.mono (by assumption) (by first | (simp; done) | (simp; omega) | omega))))
  clear hb3 be2
  rw [N2.out]
  simp only [IV]
  go_wp2_with fail
  refine (number_any _ _ _ _ (HE.out.below (by repeat (first | exact Below.refl _ _ | assumption | refine below_drewN ?_ _ | refine Below.setCell ?_ (by first | (simp; done) | (simp; omega)) _ | refine Below.alloc ?_ (by first | (simp; done) | (simp; omega) | omega) _ | refine Below.drew ?_ | refine Below.trans ?_ (Below.mono (by assumption) (by first | (simp; done) | (simp; omega) | omega)))))).mono ?_
  rintro e w4 ⟨rfl, hb4⟩
  have hz4 := hb4.size
  (try simp at hz4)
  have be4 : Below w.heap.size w w4 := (by repeat (first | exact Below.refl _ _ | assumption | refine below_drewN ?_ _ | refine Below.setCell ?_ (by first | (simp; done) | (simp; omega)) _ | refine Below.alloc ?_ (by first | (simp; done) | (simp; omega) | omega) _ | refine Below.drew ?_ | refine Below.trans ?_ (Below.mono (by assumption) (by first | (simp; done) | (simp; omega) | omega))))
  clear hb4 be3
  rw [N3.out]
  simp only [IV]
  have hd : A + 365 - A = 365 := by omega
  have hw : IntKind.i64.wrap (A + 365 - A) = 365 := by rw [hd]; exact IntWalk.i64_in _ (by omega)
  go_wp2
  go_ret
  exact ⟨rfl, (by repeat (first | exact Below.refl _ _ | assumption | refine below_drewN ?_ _ | refine Below.setCell ?_ (by first | (simp; done) | (simp; omega)) _ | refine Below.alloc ?_ (by first | (simp; done) | (simp; omega) | omega) _ | refine Below.drew ?_ | refine Below.trans ?_ (Below.mono (by assumption) (by first | (simp; done) | (simp; omega) | omega))))⟩
theorem years_any (r : Int) (w : World) (h0 : 0 ≤ r) (h1 : r ≤ 65535) (hE : Env w) :
    Calls Tryd.prog 4 #[.int .u16 r] w fun e w' => e = .returned (.bool true) ∧ Below w.heap.size w w' := by
  obtain ⟨Y, hY⟩ : ∃ Y, 1990 + r % 199 = Y := ⟨_, rfl⟩
  have y1 : 1990 ≤ Y := by omega
  have y2 : Y ≤ 2188 := by omega
  have n1 := num_first y1 (by omega)
  have n2 := num_first (y := Y + 1) (by omega) (by omega)
  have s := Dt.yb_step Y
  have l : Dt.leap Y = decide ((Y % 4 = 0 ∧ ¬ Y % 100 = 0) ∨ Y % 400 = 0) := rfl
  by_cases t4 : Y % 4 = 0
  · by_cases t1 : Y % 100 = 0
    · by_cases t0 : Y % 400 = 0
      · rw [decide_eq_true (show (Y % 4 = 0 ∧ ¬ Y % 100 = 0) ∨ Y % 400 = 0 from .inr t0)] at l
        obtain ⟨c, n3⟩ := num_feb_leap y1 (by omega) l
        exact years_b r Y _ _ c w h0 h1 hY hE n1 n2 n3 (by rw [s, l, if_pos rfl]) t4 t1 t0
      · rw [decide_eq_false (show ¬ ((Y % 4 = 0 ∧ ¬ Y % 100 = 0) ∨ Y % 400 = 0) by omega)] at l
        exact years_c r Y _ _ 0 w h0 h1 hY hE n1 n2 (num_feb l) (by rw [s, l, if_neg (by simp)]) t4 t1 t0
    · rw [decide_eq_true (show (Y % 4 = 0 ∧ ¬ Y % 100 = 0) ∨ Y % 400 = 0 from .inl ⟨t4, t1⟩)] at l
      obtain ⟨c, n3⟩ := num_feb_leap y1 (by omega) l
      exact years_a r Y _ _ c w h0 h1 hY hE n1 n2 n3 (by rw [s, l, if_pos rfl]) t4 t1
  · rw [decide_eq_false (show ¬ ((Y % 4 = 0 ∧ ¬ Y % 100 = 0) ∨ Y % 400 = 0) by omega)] at l
    exact years_d r Y _ _ 0 w h0 h1 hY hE n1 n2 (num_feb l) (by rw [s, l, if_neg (by simp)]) t4 (by omega)
end Go.Proofs.YtackkeggabgaeaaDoor

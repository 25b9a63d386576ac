/- RatioRounds: the walk of the law. -/
import Derived.Test.YtnfbagihbgmpfaaDoorRtK
import Derived.Test.YtnfbagihbgmpfaaDoorRtMath4
namespace Go.Proofs.YtnfbagihbgmpfaaDoor
open Go.RowKit

set_option maxRecDepth 100000 in
set_option maxHeartbeats 4000000 in
theorem rr_a (an ad bn bd raw : Int) (w : World) (hE : Env w) (ka1 : -9223372036854775808 ≤ an) (ka2 : an ≤ 9223372036854775807) (ha : ¬ Rt.Ok an ad) :
    Calls Tryd.prog 8 #[.agg #[.int .i64 an, .int .i64 ad], .agg #[.int .i64 bn, .int .i64 bd], .int .i64 raw] w fun e w' => e = .returned (.bool true) ∧ Below w.heap.size w w' := by
  have HE := Lib.hid hE
  clear hE
  have HA := Lib.hid ha
  clear ha
  go_enter Tryd.func8, Tryd.ntmps8
  go_wp2_with fail
  refine (head_any _ (HE.out.below (by repeat (first | exact Below.refl _ _ | assumption | refine below_drewN ?_ _ | refine Below.setCell ?_ (by first | (simp; done) | (simp; omega)) _ | refine Below.alloc ?_ (by first | (simp; done) | (simp; omega) | omega) _ | refine Below.drew ?_ | refine Below.trans ?_ (Below.mono (by assumption) (by first | (simp; done) | (simp; omega) | omega)))))).mono ?_
  rintro e w1 ⟨rfl, hb1⟩
  have hz1 := hb1.size
  (try simp at hz1)
  have l1_a : w.heap.size < w1.heap.size := by omega
  have a1_a : w1.cell? ⟨w.heap.size, 0, none⟩ = some (.int .i64 (an)) := cell_keep hb1 (by go_simp)
  have c1_a : w1.cell? ⟨w.heap.size, 1, none⟩ = some (.int .i64 (ad)) := cell_keep hb1 (by go_simp)
  have l1_b : w.heap.size + 1 < w1.heap.size := by omega
  have a1_b : w1.cell? ⟨w.heap.size + 1, 0, none⟩ = some (.int .i64 (bn)) := cell_keep hb1 (by go_simp)
  have c1_b : w1.cell? ⟨w.heap.size + 1, 1, none⟩ = some (.int .i64 (bd)) := cell_keep hb1 (by go_simp)
  have be1 : Below w.heap.size w w1 := (by repeat (first | exact Below.refl _ _ | assumption | refine below_drewN ?_ _ | refine Below.setCell ?_ (by first | (simp; done) | (simp; omega)) _ | refine Below.alloc ?_ (by first | (simp; done) | (simp; omega) | omega) _ | refine Below.drew ?_ | refine Below.trans ?_ (Below.mono (by assumption) (by first | (simp; done) | (simp; omega) | omega))))
  clear hb1
  go_wp2_with fail
  refine (valid_false _ _ _ ka1 ka2 HA.out).mono ?_
  rintro e w2 ⟨rfl, hb2⟩
  have hz2 := hb2.size
  (try simp at hz2)
  have bb2 : Below w1.heap.size w1 w2 := (by repeat (first | exact Below.refl _ _ | assumption | refine below_drewN ?_ _ | refine Below.setCell ?_ (by first | (simp; done) | (simp; omega)) _ | refine Below.alloc ?_ (by first | (simp; done) | (simp; omega) | omega) _ | refine Below.drew ?_ | refine Below.trans ?_ (Below.mono (by assumption) (by first | (simp; done) | (simp; omega) | omega))))
  have l2_a : w.heap.size < w2.heap.size := by omega
  have a2_a : w2.cell? ⟨w.heap.size, 0, none⟩ = some (.int .i64 (an)) := cell_keep bb2 a1_a
  have c2_a : w2.cell? ⟨w.heap.size, 1, none⟩ = some (.int .i64 (ad)) := cell_keep bb2 c1_a
  have l2_b : w.heap.size + 1 < w2.heap.size := by omega
  have a2_b : w2.cell? ⟨w.heap.size + 1, 0, none⟩ = some (.int .i64 (bn)) := cell_keep bb2 a1_b
  have c2_b : w2.cell? ⟨w.heap.size + 1, 1, none⟩ = some (.int .i64 (bd)) := cell_keep bb2 c1_b
  have be2 : Below w.heap.size w w2 := (by repeat (first | exact Below.refl _ _ | assumption | refine below_drewN ?_ _ | refine Below.setCell ?_ (by first | (simp; done) | (simp; omega)) _ | refine Below.alloc ?_ (by first | (simp; done) | (simp; omega) | omega) _ | refine Below.drew ?_ | refine Below.trans ?_ (Below.mono (by assumption) (by first | (simp; done) | (simp; omega) | omega))))
  clear hb2 bb2 be1 l1_a a1_a c1_a l1_b a1_b c1_b
  go_wp2
  go_ret
  exact ⟨rfl, (by repeat (first | exact Below.refl _ _ | assumption | refine below_drewN ?_ _ | refine Below.setCell ?_ (by first | (simp; done) | (simp; omega)) _ | refine Below.alloc ?_ (by first | (simp; done) | (simp; omega) | omega) _ | refine Below.drew ?_ | refine Below.trans ?_ (Below.mono (by assumption) (by first | (simp; done) | (simp; omega) | omega))))⟩
set_option maxRecDepth 100000 in
set_option maxHeartbeats 4000000 in
theorem rr_b (an ad bn bd raw : Int) (w : World) (hE : Env w) (kb1 : -9223372036854775808 ≤ bn) (kb2 : bn ≤ 9223372036854775807) (ha : Rt.Ok an ad) (hb : ¬ Rt.Ok bn bd) :
    Calls Tryd.prog 8 #[.agg #[.int .i64 an, .int .i64 ad], .agg #[.int .i64 bn, .int .i64 bd], .int .i64 raw] w fun e w' => e = .returned (.bool true) ∧ Below w.heap.size w w' := by
  have HE := Lib.hid hE
  clear hE
  have HA := Lib.hid ha
  have HB := Lib.hid hb
  clear ha hb
  go_enter Tryd.func8, Tryd.ntmps8
  go_wp2_with fail
  refine (head_any _ (HE.out.below (by repeat (first | exact Below.refl _ _ | assumption | refine below_drewN ?_ _ | refine Below.setCell ?_ (by first | (simp; done) | (simp; omega)) _ | refine Below.alloc ?_ (by first | (simp; done) | (simp; omega) | omega) _ | refine Below.drew ?_ | refine Below.trans ?_ (Below.mono (by assumption) (by first | (simp; done) | (simp; omega) | omega)))))).mono ?_
  rintro e w1 ⟨rfl, hb1⟩
  have hz1 := hb1.size
  (try simp at hz1)
  have l1_a : w.heap.size < w1.heap.size := by omega
  have a1_a : w1.cell? ⟨w.heap.size, 0, none⟩ = some (.int .i64 (an)) := cell_keep hb1 (by go_simp)
  have c1_a : w1.cell? ⟨w.heap.size, 1, none⟩ = some (.int .i64 (ad)) := cell_keep hb1 (by go_simp)
  have l1_b : w.heap.size + 1 < w1.heap.size := by omega
  have a1_b : w1.cell? ⟨w.heap.size + 1, 0, none⟩ = some (.int .i64 (bn)) := cell_keep hb1 (by go_simp)
  have c1_b : w1.cell? ⟨w.heap.size + 1, 1, none⟩ = some (.int .i64 (bd)) := cell_keep hb1 (by go_simp)
  have be1 : Below w.heap.size w w1 := (by repeat (first | exact Below.refl _ _ | assumption | refine below_drewN ?_ _ | refine Below.setCell ?_ (by first | (simp; done) | (simp; omega)) _ | refine Below.alloc ?_ (by first | (simp; done) | (simp; omega) | omega) _ | refine Below.drew ?_ | refine Below.trans ?_ (Below.mono (by assumption) (by first | (simp; done) | (simp; omega) | omega))))
  clear hb1
  go_wp2_with fail
  refine (valid_true _ _ _ HA.out).mono ?_
  rintro e w2 ⟨rfl, hb2⟩
  have hz2 := hb2.size
  (try simp at hz2)
  have bb2 : Below w1.heap.size w1 w2 := (by repeat (first | exact Below.refl _ _ | assumption | refine below_drewN ?_ _ | refine Below.setCell ?_ (by first | (simp; done) | (simp; omega)) _ | refine Below.alloc ?_ (by first | (simp; done) | (simp; omega) | omega) _ | refine Below.drew ?_ | refine Below.trans ?_ (Below.mono (by assumption) (by first | (simp; done) | (simp; omega) | omega))))
  have l2_a : w.heap.size < w2.heap.size := by omega
  have a2_a : w2.cell? ⟨w.heap.size, 0, none⟩ = some (.int .i64 (an)) := cell_keep bb2 a1_a
  have c2_a : w2.cell? ⟨w.heap.size, 1, none⟩ = some (.int .i64 (ad)) := cell_keep bb2 c1_a
  have l2_b : w.heap.size + 1 < w2.heap.size := by omega
  have a2_b : w2.cell? ⟨w.heap.size + 1, 0, none⟩ = some (.int .i64 (bn)) := cell_keep bb2 a1_b
  have c2_b : w2.cell? ⟨w.heap.size + 1, 1, none⟩ = some (.int .i64 (bd)) := cell_keep bb2 c1_b
  have be2 : Below w.heap.size w w2 := (by repeat (first | exact Below.refl _ _ | assumption | refine below_drewN ?_ _ | refine Below.setCell ?_ (by first | (simp; done) | (simp; omega)) _ | refine Below.alloc ?_ (by first | (simp; done) | (simp; omega) | omega) _ | refine Below.drew ?_ | refine Below.trans ?_ (Below.mono (by assumption) (by first | (simp; done) | (simp; omega) | omega))))
  clear hb2 bb2 be1 l1_a a1_a c1_a l1_b a1_b c1_b
  go_wp2_with fail
  refine (valid_false _ _ _ kb1 kb2 HB.out).mono ?_
  rintro e w3 ⟨rfl, hb3⟩
  have hz3 := hb3.size
  (try simp at hz3)
  have bb3 : Below w2.heap.size w2 w3 := (by repeat (first | exact Below.refl _ _ | assumption | refine below_drewN ?_ _ | refine Below.setCell ?_ (by first | (simp; done) | (simp; omega)) _ | refine Below.alloc ?_ (by first | (simp; done) | (simp; omega) | omega) _ | refine Below.drew ?_ | refine Below.trans ?_ (Below.mono (by assumption) (by first | (simp; done) | (simp; omega) | omega))))
  have l3_a : w.heap.size < w3.heap.size := by omega
  have a3_a : w3.cell? ⟨w.heap.size, 0, none⟩ = some (.int .i64 (an)) := cell_keep bb3 a2_a
  have c3_a : w3.cell? ⟨w.heap.size, 1, none⟩ = some (.int .i64 (ad)) := cell_keep bb3 c2_a
  have l3_b : w.heap.size + 1 < w3.heap.size := by omega
  have a3_b : w3.cell? ⟨w.heap.size + 1, 0, none⟩ = some (.int .i64 (bn)) := cell_keep bb3 a2_b
  have c3_b : w3.cell? ⟨w.heap.size + 1, 1, none⟩ = some (.int .i64 (bd)) := cell_keep bb3 c2_b
  have be3 : Below w.heap.size w w3 := (by repeat (first | exact Below.refl _ _ | assumption | refine below_drewN ?_ _ | refine Below.setCell ?_ (by first | (simp; done) | (simp; omega)) _ | refine Below.alloc ?_ (by first | (simp; done) | (simp; omega) | omega) _ | refine Below.drew ?_ | refine Below.trans ?_ (Below.mono (by assumption) (by first | (simp; done) | (simp; omega) | omega))))
  clear hb3 bb3 be2 l2_a a2_a c2_a l2_b a2_b c2_b
  go_wp2
  go_ret
  exact ⟨rfl, (by repeat (first | exact Below.refl _ _ | assumption | refine below_drewN ?_ _ | refine Below.setCell ?_ (by first | (simp; done) | (simp; omega)) _ | refine Below.alloc ?_ (by first | (simp; done) | (simp; omega) | omega) _ | refine Below.drew ?_ | refine Below.trans ?_ (Below.mono (by assumption) (by first | (simp; done) | (simp; omega) | omega))))⟩
set_option maxRecDepth 100000 in
set_option maxHeartbeats 4000000 in
theorem rr_m1 (an ad bn bd raw : Int) (w : World) (hE : Env w) (ha : Rt.Ok an ad) (hb : Rt.Ok bn bd) (h : 1000000000 < max an (-an)) :
    Calls Tryd.prog 8 #[.agg #[.int .i64 an, .int .i64 ad], .agg #[.int .i64 bn, .int .i64 bd], .int .i64 raw] w fun e w' => e = .returned (.bool true) ∧ Below w.heap.size w w' := by
  have HE := Lib.hid hE
  clear hE
  have HA := Lib.hid ha
  have HB := Lib.hid hb
  obtain ⟨a1, a2, a3, a4, _⟩ := ha
  obtain ⟨b1, b2, b3, b4, _⟩ := hb
  go_enter Tryd.func8, Tryd.ntmps8
  go_wp2_with fail
  refine (head_any _ (HE.out.below (by repeat (first | exact Below.refl _ _ | assumption | refine below_drewN ?_ _ | refine Below.setCell ?_ (by first | (simp; done) | (simp; omega)) _ | refine Below.alloc ?_ (by first | (simp; done) | (simp; omega) | omega) _ | refine Below.drew ?_ | refine Below.trans ?_ (Below.mono (by assumption) (by first | (simp; done) | (simp; omega) | omega)))))).mono ?_
  rintro e w1 ⟨rfl, hb1⟩
  have hz1 := hb1.size
  (try simp at hz1)
  have l1_a : w.heap.size < w1.heap.size := by omega
  have a1_a : w1.cell? ⟨w.heap.size, 0, none⟩ = some (.int .i64 (an)) := cell_keep hb1 (by go_simp)
  have c1_a : w1.cell? ⟨w.heap.size, 1, none⟩ = some (.int .i64 (ad)) := cell_keep hb1 (by go_simp)
  have l1_b : w.heap.size + 1 < w1.heap.size := by omega
  have a1_b : w1.cell? ⟨w.heap.size + 1, 0, none⟩ = some (.int .i64 (bn)) := cell_keep hb1 (by go_simp)
  have c1_b : w1.cell? ⟨w.heap.size + 1, 1, none⟩ = some (.int .i64 (bd)) := cell_keep hb1 (by go_simp)
  have be1 : Below w.heap.size w w1 := (by repeat (first | exact Below.refl _ _ | assumption | refine below_drewN ?_ _ | refine Below.setCell ?_ (by first | (simp; done) | (simp; omega)) _ | refine Below.alloc ?_ (by first | (simp; done) | (simp; omega) | omega) _ | refine Below.drew ?_ | refine Below.trans ?_ (Below.mono (by assumption) (by first | (simp; done) | (simp; omega) | omega))))
  clear hb1
  go_wp2_with fail
  refine (valid_true _ _ _ HA.out).mono ?_
  rintro e w2 ⟨rfl, hb2⟩
  have hz2 := hb2.size
  (try simp at hz2)
  have bb2 : Below w1.heap.size w1 w2 := (by repeat (first | exact Below.refl _ _ | assumption | refine below_drewN ?_ _ | refine Below.setCell ?_ (by first | (simp; done) | (simp; omega)) _ | refine Below.alloc ?_ (by first | (simp; done) | (simp; omega) | omega) _ | refine Below.drew ?_ | refine Below.trans ?_ (Below.mono (by assumption) (by first | (simp; done) | (simp; omega) | omega))))
  have l2_a : w.heap.size < w2.heap.size := by omega
  have a2_a : w2.cell? ⟨w.heap.size, 0, none⟩ = some (.int .i64 (an)) := cell_keep bb2 a1_a
  have c2_a : w2.cell? ⟨w.heap.size, 1, none⟩ = some (.int .i64 (ad)) := cell_keep bb2 c1_a
  have l2_b : w.heap.size + 1 < w2.heap.size := by omega
  have a2_b : w2.cell? ⟨w.heap.size + 1, 0, none⟩ = some (.int .i64 (bn)) := cell_keep bb2 a1_b
  have c2_b : w2.cell? ⟨w.heap.size + 1, 1, none⟩ = some (.int .i64 (bd)) := cell_keep bb2 c1_b
  have be2 : Below w.heap.size w w2 := (by repeat (first | exact Below.refl _ _ | assumption | refine below_drewN ?_ _ | refine Below.setCell ?_ (by first | (simp; done) | (simp; omega)) _ | refine Below.alloc ?_ (by first | (simp; done) | (simp; omega) | omega) _ | refine Below.drew ?_ | refine Below.trans ?_ (Below.mono (by assumption) (by first | (simp; done) | (simp; omega) | omega))))
  clear hb2 bb2 be1 l1_a a1_a c1_a l1_b a1_b c1_b
  go_wp2_with fail
  refine (valid_true _ _ _ HB.out).mono ?_
  rintro e w3 ⟨rfl, hb3⟩
  have hz3 := hb3.size
  (try simp at hz3)
  have bb3 : Below w2.heap.size w2 w3 := (by repeat (first | exact Below.refl _ _ | assumption | refine below_drewN ?_ _ | refine Below.setCell ?_ (by first | (simp; done) | (simp; omega)) _ | refine Below.alloc ?_ (by first | (simp; done) | (simp; omega) | omega) _ | refine Below.drew ?_ | refine Below.trans ?_ (Below.mono (by assumption) (by first | (simp; done) | (simp; omega) | omega))))
  have l3_a : w.heap.size < w3.heap.size := by omega
  have a3_a : w3.cell? ⟨w.heap.size, 0, none⟩ = some (.int .i64 (an)) := cell_keep bb3 a2_a
  have c3_a : w3.cell? ⟨w.heap.size, 1, none⟩ = some (.int .i64 (ad)) := cell_keep bb3 c2_a
  have l3_b : w.heap.size + 1 < w3.heap.size := by omega
  have a3_b : w3.cell? ⟨w.heap.size + 1, 0, none⟩ = some (.int .i64 (bn)) := cell_keep bb3 a2_b
  have c3_b : w3.cell? ⟨w.heap.size + 1, 1, none⟩ = some (.int .i64 (bd)) := cell_keep bb3 c2_b
  have be3 : Below w.heap.size w w3 := (by repeat (first | exact Below.refl _ _ | assumption | refine below_drewN ?_ _ | refine Below.setCell ?_ (by first | (simp; done) | (simp; omega)) _ | refine Below.alloc ?_ (by first | (simp; done) | (simp; omega) | omega) _ | refine Below.drew ?_ | refine Below.trans ?_ (Below.mono (by assumption) (by first | (simp; done) | (simp; omega) | omega))))
  clear hb3 bb3 be2 l2_a a2_a c2_a l2_b a2_b c2_b
  go_wp2
  go_ret
  exact ⟨rfl, (by repeat (first | exact Below.refl _ _ | assumption | refine below_drewN ?_ _ | refine Below.setCell ?_ (by first | (simp; done) | (simp; omega)) _ | refine Below.alloc ?_ (by first | (simp; done) | (simp; omega) | omega) _ | refine Below.drew ?_ | refine Below.trans ?_ (Below.mono (by assumption) (by first | (simp; done) | (simp; omega) | omega))))⟩
set_option maxRecDepth 100000 in
set_option maxHeartbeats 4000000 in
theorem rr_m2 (an ad bn bd raw : Int) (w : World) (hE : Env w) (ha : Rt.Ok an ad) (hb : Rt.Ok bn bd) (h0 : max an (-an) ≤ 1000000000) (h : 1000000000 < max bn (-bn)) :
    Calls Tryd.prog 8 #[.agg #[.int .i64 an, .int .i64 ad], .agg #[.int .i64 bn, .int .i64 bd], .int .i64 raw] w fun e w' => e = .returned (.bool true) ∧ Below w.heap.size w w' := by
  have HE := Lib.hid hE
  clear hE
  have HA := Lib.hid ha
  have HB := Lib.hid hb
  obtain ⟨a1, a2, a3, a4, _⟩ := ha
  obtain ⟨b1, b2, b3, b4, _⟩ := hb
  go_enter Tryd.func8, Tryd.ntmps8
  go_wp2_with fail
  refine (head_any _ (HE.out.below (by repeat (first | exact Below.refl _ _ | assumption | refine below_drewN ?_ _ | refine Below.setCell ?_ (by first | (simp; done) | (simp; omega)) _ | refine Below.alloc ?_ (by first | (simp; done) | (simp; omega) | omega) _ | refine Below.drew ?_ | refine Below.trans ?_ (Below.mono (by assumption) (by first | (simp; done) | (simp; omega) | omega)))))).mono ?_
  rintro e w1 ⟨rfl, hb1⟩
  have hz1 := hb1.size
  (try simp at hz1)
  have l1_a : w.heap.size < w1.heap.size := by omega
  have a1_a : w1.cell? ⟨w.heap.size, 0, none⟩ = some (.int .i64 (an)) := cell_keep hb1 (by go_simp)
  have c1_a : w1.cell? ⟨w.heap.size, 1, none⟩ = some (.int .i64 (ad)) := cell_keep hb1 (by go_simp)
  have l1_b : w.heap.size + 1 < w1.heap.size := by omega
  have a1_b : w1.cell? ⟨w.heap.size + 1, 0, none⟩ = some (.int .i64 (bn)) := cell_keep hb1 (by go_simp)
  have c1_b : w1.cell? ⟨w.heap.size + 1, 1, none⟩ = some (.int .i64 (bd)) := cell_keep hb1 (by go_simp)
  have be1 : Below w.heap.size w w1 := (by repeat (first | exact Below.refl _ _ | assumption | refine below_drewN ?_ _ | refine Below.setCell ?_ (by first | (simp; done) | (simp; omega)) _ | refine Below.alloc ?_ (by first | (simp; done) | (simp; omega) | omega) _ | refine Below.drew ?_ | refine Below.trans ?_ (Below.mono (by assumption) (by first | (simp; done) | (simp; omega) | omega))))
  clear hb1
  go_wp2_with fail
  refine (valid_true _ _ _ HA.out).mono ?_
  rintro e w2 ⟨rfl, hb2⟩
  have hz2 := hb2.size
  (try simp at hz2)
  have bb2 : Below w1.heap.size w1 w2 := (by repeat (first | exact Below.refl _ _ | assumption | refine below_drewN ?_ _ | refine Below.setCell ?_ (by first | (simp; done) | (simp; omega)) _ | refine Below.alloc ?_ (by first | (simp; done) | (simp; omega) | omega) _ | refine Below.drew ?_ | refine Below.trans ?_ (Below.mono (by assumption) (by first | (simp; done) | (simp; omega) | omega))))
  have l2_a : w.heap.size < w2.heap.size := by omega
  have a2_a : w2.cell? ⟨w.heap.size, 0, none⟩ = some (.int .i64 (an)) := cell_keep bb2 a1_a
  have c2_a : w2.cell? ⟨w.heap.size, 1, none⟩ = some (.int .i64 (ad)) := cell_keep bb2 c1_a
  have l2_b : w.heap.size + 1 < w2.heap.size := by omega
  have a2_b : w2.cell? ⟨w.heap.size + 1, 0, none⟩ = some (.int .i64 (bn)) := cell_keep bb2 a1_b
  have c2_b : w2.cell? ⟨w.heap.size + 1, 1, none⟩ = some (.int .i64 (bd)) := cell_keep bb2 c1_b
  have be2 : Below w.heap.size w w2 := (by repeat (first | exact Below.refl _ _ | assumption | refine below_drewN ?_ _ | refine Below.setCell ?_ (by first | (simp; done) | (simp; omega)) _ | refine Below.alloc ?_ (by first | (simp; done) | (simp; omega) | omega) _ | refine Below.drew ?_ | refine Below.trans ?_ (Below.mono (by assumption) (by first | (simp; done) | (simp; omega) | omega))))
  clear hb2 bb2 be1 l1_a a1_a c1_a l1_b a1_b c1_b
  go_wp2_with fail
  refine (valid_true _ _ _ HB.out).mono ?_
  rintro e w3 ⟨rfl, hb3⟩
  have hz3 := hb3.size
  (try simp at hz3)
  have bb3 : Below w2.heap.size w2 w3 := (by repeat (first | exact Below.refl _ _ | assumption | refine below_drewN ?_ _ | refine Below.setCell ?_ (by first | (simp; done) | (simp; omega)) _ | refine Below.alloc ?_ (by first | (simp; done) | (simp; omega) | omega) _ | refine Below.drew ?_ | refine Below.trans ?_ (Below.mono (by assumption) (by first | (simp; done) | (simp; omega) | omega))))
  have l3_a : w.heap.size < w3.heap.size := by omega
  have a3_a : w3.cell? ⟨w.heap.size, 0, none⟩ = some (.int .i64 (an)) := cell_keep bb3 a2_a
  have c3_a : w3.cell? ⟨w.heap.size, 1, none⟩ = some (.int .i64 (ad)) := cell_keep bb3 c2_a
  have l3_b : w.heap.size + 1 < w3.heap.size := by omega
  have a3_b : w3.cell? ⟨w.heap.size + 1, 0, none⟩ = some (.int .i64 (bn)) := cell_keep bb3 a2_b
  have c3_b : w3.cell? ⟨w.heap.size + 1, 1, none⟩ = some (.int .i64 (bd)) := cell_keep bb3 c2_b
  have be3 : Below w.heap.size w w3 := (by repeat (first | exact Below.refl _ _ | assumption | refine below_drewN ?_ _ | refine Below.setCell ?_ (by first | (simp; done) | (simp; omega)) _ | refine Below.alloc ?_ (by first | (simp; done) | (simp; omega) | omega) _ | refine Below.drew ?_ | refine Below.trans ?_ (Below.mono (by assumption) (by first | (simp; done) | (simp; omega) | omega))))
  clear hb3 bb3 be2 l2_a a2_a c2_a l2_b a2_b c2_b
  go_wp2
  go_ret
  exact ⟨rfl, (by repeat (first | exact Below.refl _ _ | assumption | refine below_drewN ?_ _ | refine Below.setCell ?_ (by first | (simp; done) | (simp; omega)) _ | refine Below.alloc ?_ (by first | (simp; done) | (simp; omega) | omega) _ | refine Below.drew ?_ | refine Below.trans ?_ (Below.mono (by assumption) (by first | (simp; done) | (simp; omega) | omega))))⟩
end Go.Proofs.YtnfbagihbgmpfaaDoor

/- RatioOrder: the walk of the law. -/
import Derived.Test.YtnfbagihbgmpfaaDoorRtK
import Derived.Deep.DeepCutAuto
namespace Go.Proofs.YtnfbagihbgmpfaaDoor
open Go.RowKit

set_option maxRecDepth 100000 in
set_option maxHeartbeats 16000000 in
theorem or_a (an ad bn bd cn cd : Int) (w : World) (hE : Env w) (ka1 : -9223372036854775808 ≤ an) (ka2 : an ≤ 9223372036854775807) (ha : ¬ Rt.Ok an ad) :
    Calls Tryd.prog 6 #[.agg #[.int .i64 an, .int .i64 ad], .agg #[.int .i64 bn, .int .i64 bd], .agg #[.int .i64 cn, .int .i64 cd]] w fun e w' => e = .returned (.bool true) ∧ Below w.heap.size w w' := by
  have HE := Lib.hid hE
  clear hE
  have HA := Lib.hid ha
  clear ha
  go_enter Tryd.func6, Tryd.ntmps6
  go_wp2_with fail
  refine (head_any _ (HE.out.below (by repeat (first | exact Below.refl _ _ | assumption | refine below_drewN ?_ _ | refine Below.setCell ?_ (by first | (simp; done) | (simp; omega)) _ | refine Below.alloc ?_ (by first | (simp; done) | (simp; omega) | omega) _ | refine Below.drew ?_ | refine Below.trans ?_ (Below.mono (by assumption) (by first | (simp; done) | (simp; omega) | omega)))))).mono ?_
  rintro e w1 ⟨rfl, hb1⟩
  have hz1 := hb1.size
  (try simp at hz1)
  have l1_a : w.heap.size < w1.heap.size := by omega
  have a1_a : w1.cell? ⟨w.heap.size, 0, none⟩ = some (.int .i64 (an)) := cell_keep hb1 (by go_simp)
  have c1_a : w1.cell? ⟨w.heap.size, 1, none⟩ = some (.int .i64 (ad)) := cell_keep hb1 (by go_simp)
  have l1_b : w.heap.size + 1 < w1.heap.size := by omega
  have a1_b : w1.cell? ⟨w.heap.size + 1, 0, none⟩ = some (.int .i64 (bn)) := cell_keep hb1 (by go_simp)
  have c1_b : w1.cell? ⟨w.heap.size + 1, 1, none⟩ = some (.int .i64 (bd)) := cell_keep hb1 (by go_simp)
  have l1_c : w.heap.size + 1 + 1 < w1.heap.size := by omega
  have a1_c : w1.cell? ⟨w.heap.size + 1 + 1, 0, none⟩ = some (.int .i64 (cn)) := cell_keep hb1 (by go_simp)
  have c1_c : w1.cell? ⟨w.heap.size + 1 + 1, 1, none⟩ = some (.int .i64 (cd)) := cell_keep hb1 (by go_simp)
  have be1 : Below w.heap.size w w1 := (by repeat (first | exact Below.refl _ _ | assumption | refine below_drewN ?_ _ | refine Below.setCell ?_ (by first | (simp; done) | (simp; omega)) _ | refine Below.alloc ?_ (by first | (simp; done) | (simp; omega) | omega) _ | refine Below.drew ?_ | refine Below.trans ?_ (Below.mono (by assumption) (by first | (simp; done) | (simp; omega) | omega))))
  clear hb1
  go_wp2_with fail
  refine (valid_false _ _ _ ka1 ka2 HA.out).mono ?_
  rintro e w2 ⟨rfl, hb2⟩
  have hz2 := hb2.size
  (try simp at hz2)
  have bb2 : Below w1.heap.size w1 w2 := (by repeat (first | exact Below.refl _ _ | assumption | refine below_drewN ?_ _ | refine Below.setCell ?_ (by first | (simp; done) | (simp; omega)) _ | refine Below.alloc ?_ (by first | (simp; done) | (simp; omega) | omega) _ | refine Below.drew ?_ | refine Below.trans ?_ (Below.mono (by assumption) (by first | (simp; done) | (simp; omega) | omega))))
  have l2_a : w.heap.size < w2.heap.size := by omega
  have a2_a : w2.cell? ⟨w.heap.size, 0, none⟩ = some (.int .i64 (an)) := cell_keep bb2 a1_a
  have c2_a : w2.cell? ⟨w.heap.size, 1, none⟩ = some (.int .i64 (ad)) := cell_keep bb2 c1_a
  have l2_b : w.heap.size + 1 < w2.heap.size := by omega
  have a2_b : w2.cell? ⟨w.heap.size + 1, 0, none⟩ = some (.int .i64 (bn)) := cell_keep bb2 a1_b
  have c2_b : w2.cell? ⟨w.heap.size + 1, 1, none⟩ = some (.int .i64 (bd)) := cell_keep bb2 c1_b
  have l2_c : w.heap.size + 1 + 1 < w2.heap.size := by omega
  have a2_c : w2.cell? ⟨w.heap.size + 1 + 1, 0, none⟩ = some (.int .i64 (cn)) := cell_keep bb2 a1_c
  have c2_c : w2.cell? ⟨w.heap.size + 1 + 1, 1, none⟩ = some (.int .i64 (cd)) := cell_keep bb2 c1_c
  have be2 : Below w.heap.size w w2 := be1.trans (bb2.mono (by omega))
  clear hb2 bb2 be1 l1_a a1_a c1_a l1_b a1_b c1_b l1_c a1_c c1_c
  go_wp2
  go_ret
  exact ⟨rfl, (by repeat (first | exact Below.refl _ _ | assumption | refine below_drewN ?_ _ | refine Below.setCell ?_ (by first | (simp; done) | (simp; omega)) _ | refine Below.alloc ?_ (by first | (simp; done) | (simp; omega) | omega) _ | refine Below.drew ?_ | refine Below.trans ?_ (Below.mono (by assumption) (by first | (simp; done) | (simp; omega) | omega))))⟩
set_option maxRecDepth 100000 in
set_option maxHeartbeats 16000000 in
theorem or_b (an ad bn bd cn cd : Int) (w : World) (hE : Env w) (kb1 : -9223372036854775808 ≤ bn) (kb2 : bn ≤ 9223372036854775807) (ha : Rt.Ok an ad) (hb : ¬ Rt.Ok bn bd) :
    Calls Tryd.prog 6 #[.agg #[.int .i64 an, .int .i64 ad], .agg #[.int .i64 bn, .int .i64 bd], .agg #[.int .i64 cn, .int .i64 cd]] w fun e w' => e = .returned (.bool true) ∧ Below w.heap.size w w' := by
  have HE := Lib.hid hE
  clear hE
  have HA := Lib.hid ha
  have HB := Lib.hid hb
  clear ha hb
  go_enter Tryd.func6, Tryd.ntmps6
  go_wp2_with fail
  refine (head_any _ (HE.out.below (by repeat (first | exact Below.refl _ _ | assumption | refine below_drewN ?_ _ | refine Below.setCell ?_ (by first | (simp; done) | (simp; omega)) _ | refine Below.alloc ?_ (by first | (simp; done) | (simp; omega) | omega) _ | refine Below.drew ?_ | refine Below.trans ?_ (Below.mono (by assumption) (by first | (simp; done) | (simp; omega) | omega)))))).mono ?_
  rintro e w1 ⟨rfl, hb1⟩
  have hz1 := hb1.size
  (try simp at hz1)
  have l1_a : w.heap.size < w1.heap.size := by omega
  have a1_a : w1.cell? ⟨w.heap.size, 0, none⟩ = some (.int .i64 (an)) := cell_keep hb1 (by go_simp)
  have c1_a : w1.cell? ⟨w.heap.size, 1, none⟩ = some (.int .i64 (ad)) := cell_keep hb1 (by go_simp)
  have l1_b : w.heap.size + 1 < w1.heap.size := by omega
  have a1_b : w1.cell? ⟨w.heap.size + 1, 0, none⟩ = some (.int .i64 (bn)) := cell_keep hb1 (by go_simp)
  have c1_b : w1.cell? ⟨w.heap.size + 1, 1, none⟩ = some (.int .i64 (bd)) := cell_keep hb1 (by go_simp)
  have l1_c : w.heap.size + 1 + 1 < w1.heap.size := by omega
  have a1_c : w1.cell? ⟨w.heap.size + 1 + 1, 0, none⟩ = some (.int .i64 (cn)) := cell_keep hb1 (by go_simp)
  have c1_c : w1.cell? ⟨w.heap.size + 1 + 1, 1, none⟩ = some (.int .i64 (cd)) := cell_keep hb1 (by go_simp)
  have be1 : Below w.heap.size w w1 := (by repeat (first | exact Below.refl _ _ | assumption | refine below_drewN ?_ _ | refine Below.setCell ?_ (by first | (simp; done) | (simp; omega)) _ | refine Below.alloc ?_ (by first | (simp; done) | (simp; omega) | omega) _ | refine Below.drew ?_ | refine Below.trans ?_ (Below.mono (by assumption) (by first | (simp; done) | (simp; omega) | omega))))
  clear hb1
  go_wp2_with fail
  refine (valid_true _ _ _ HA.out).mono ?_
  rintro e w2 ⟨rfl, hb2⟩
  have hz2 := hb2.size
  (try simp at hz2)
  have bb2 : Below w1.heap.size w1 w2 := (by repeat (first | exact Below.refl _ _ | assumption | refine below_drewN ?_ _ | refine Below.setCell ?_ (by first | (simp; done) | (simp; omega)) _ | refine Below.alloc ?_ (by first | (simp; done) | (simp; omega) | omega) _ | refine Below.drew ?_ | refine Below.trans ?_ (Below.mono (by assumption) (by first | (simp; done) | (simp; omega) | omega))))
  have l2_a : w.heap.size < w2.heap.size := by omega
  have a2_a : w2.cell? ⟨w.heap.size, 0, none⟩ = some (.int .i64 (an)) := cell_keep bb2 a1_a
  have c2_a : w2.cell? ⟨w.heap.size, 1, none⟩ = some (.int .i64 (ad)) := cell_keep bb2 c1_a
  have l2_b : w.heap.size + 1 < w2.heap.size := by omega
  have a2_b : w2.cell? ⟨w.heap.size + 1, 0, none⟩ = some (.int .i64 (bn)) := cell_keep bb2 a1_b
  have c2_b : w2.cell? ⟨w.heap.size + 1, 1, none⟩ = some (.int .i64 (bd)) := cell_keep bb2 c1_b
  have l2_c : w.heap.size + 1 + 1 < w2.heap.size := by omega
  have a2_c : w2.cell? ⟨w.heap.size + 1 + 1, 0, none⟩ = some (.int .i64 (cn)) := cell_keep bb2 a1_c
  have c2_c : w2.cell? ⟨w.heap.size + 1 + 1, 1, none⟩ = some (.int .i64 (cd)) := cell_keep bb2 c1_c
  have be2 : Below w.heap.size w w2 := be1.trans (bb2.mono (by omega))
  clear hb2 bb2 be1 l1_a a1_a c1_a l1_b a1_b c1_b l1_c a1_c c1_c
  go_wp2_with fail
  refine (valid_false _ _ _ kb1 kb2 HB.out).mono ?_
  rintro e w3 ⟨rfl, hb3⟩
  have hz3 := hb3.size
  (try simp at hz3)
  have bb3 : Below w2.heap.size w2 w3 := (by repeat (first | exact Below.refl _ _ | assumption | refine below_drewN ?_ _ | refine Below.setCell ?_ (by first | (simp; done) | (simp; omega)) _ | refine Below.alloc ?_ (by first | (simp; done) | (simp; omega) | omega) _ | refine Below.drew ?_ | refine Below.trans ?_ (Below.mono (by assumption) (by first | (simp; done) | (simp; omega) | omega))))
  have l3_a : w.heap.size < w3.heap.size := by omega
  have a3_a : w3.cell? ⟨w.heap.size, 0, none⟩ = some (.int .i64 (an)) := cell_keep bb3 a2_a
  have c3_a : w3.cell? ⟨w.heap.size, 1, none⟩ = some (.int .i64 (ad)) := cell_keep bb3 c2_a
  have l3_b : w.heap.size + 1 < w3.heap.size := by omega
  have a3_b : w3.cell? ⟨w.heap.size + 1, 0, none⟩ = some (.int .i64 (bn)) := cell_keep bb3 a2_b
  have c3_b : w3.cell? ⟨w.heap.size + 1, 1, none⟩ = some (.int .i64 (bd)) := cell_keep bb3 c2_b
  have l3_c : w.heap.size + 1 + 1 < w3.heap.size := by omega
  have a3_c : w3.cell? ⟨w.heap.size + 1 + 1, 0, none⟩ = some (.int .i64 (cn)) := cell_keep bb3 a2_c
  have c3_c : w3.cell? ⟨w.heap.size + 1 + 1, 1, none⟩ = some (.int .i64 (cd)) := cell_keep bb3 c2_c
  have be3 : Below w.heap.size w w3 := be2.trans (bb3.mono (by omega))
  clear hb3 bb3 be2 l2_a a2_a c2_a l2_b a2_b c2_b l2_c a2_c c2_c
  go_wp2
  go_ret
  exact ⟨rfl, (by repeat (first | exact Below.refl _ _ | assumption | refine below_drewN ?_ _ | refine Below.setCell ?_ (by first | (simp; done) | (simp; omega)) _ | refine Below.alloc ?_ (by first | (simp; done) | (simp; omega) | omega) _ | refine Below.drew ?_ | refine Below.trans ?_ (Below.mono (by assumption) (by first | (simp; done) | (simp; omega) | omega))))⟩
set_option maxRecDepth 100000 in
set_option maxHeartbeats 16000000 in
theorem or_c (an ad bn bd cn cd : Int) (w : World) (hE : Env w) (kc1 : -9223372036854775808 ≤ cn) (kc2 : cn ≤ 9223372036854775807) (ha : Rt.Ok an ad) (hb : Rt.Ok bn bd) (hc : ¬ Rt.Ok cn cd) :
    Calls Tryd.prog 6 #[.agg #[.int .i64 an, .int .i64 ad], .agg #[.int .i64 bn, .int .i64 bd], .agg #[.int .i64 cn, .int .i64 cd]] w fun e w' => e = .returned (.bool true) ∧ Below w.heap.size w w' := by
  have HE := Lib.hid hE
  clear hE
  have HA := Lib.hid ha
  have HB := Lib.hid hb
  have HC := Lib.hid hc
  clear ha hb hc
  go_enter Tryd.func6, Tryd.ntmps6
  go_wp2_with fail
  refine (head_any _ (HE.out.below (by repeat (first | exact Below.refl _ _ | assumption | refine below_drewN ?_ _ | refine Below.setCell ?_ (by first | (simp; done) | (simp; omega)) _ | refine Below.alloc ?_ (by first | (simp; done) | (simp; omega) | omega) _ | refine Below.drew ?_ | refine Below.trans ?_ (Below.mono (by assumption) (by first | (simp; done) | (simp; omega) | omega)))))).mono ?_
  rintro e w1 ⟨rfl, hb1⟩
  have hz1 := hb1.size
  (try simp at hz1)
  have l1_a : w.heap.size < w1.heap.size := by omega
  have a1_a : w1.cell? ⟨w.heap.size, 0, none⟩ = some (.int .i64 (an)) := cell_keep hb1 (by go_simp)
  have c1_a : w1.cell? ⟨w.heap.size, 1, none⟩ = some (.int .i64 (ad)) := cell_keep hb1 (by go_simp)
  have l1_b : w.heap.size + 1 < w1.heap.size := by omega
  have a1_b : w1.cell? ⟨w.heap.size + 1, 0, none⟩ = some (.int .i64 (bn)) := cell_keep hb1 (by go_simp)
  have c1_b : w1.cell? ⟨w.heap.size + 1, 1, none⟩ = some (.int .i64 (bd)) := cell_keep hb1 (by go_simp)
  have l1_c : w.heap.size + 1 + 1 < w1.heap.size := by omega
  have a1_c : w1.cell? ⟨w.heap.size + 1 + 1, 0, none⟩ = some (.int .i64 (cn)) := cell_keep hb1 (by go_simp)
  have c1_c : w1.cell? ⟨w.heap.size + 1 + 1, 1, none⟩ = some (.int .i64 (cd)) := cell_keep hb1 (by go_simp)
  have be1 : Below w.heap.size w w1 := (by repeat (first | exact Below.refl _ _ | assumption | refine below_drewN ?_ _ | refine Below.setCell ?_ (by first | (simp; done) | (simp; omega)) _ | refine Below.alloc ?_ (by first | (simp; done) | (simp; omega) | omega) _ | refine Below.drew ?_ | refine Below.trans ?_ (Below.mono (by assumption) (by first | (simp; done) | (simp; omega) | omega))))
  clear hb1
  go_wp2_with fail
  refine (valid_true _ _ _ HA.out).mono ?_
  rintro e w2 ⟨rfl, hb2⟩
  have hz2 := hb2.size
  (try simp at hz2)
  have bb2 : Below w1.heap.size w1 w2 := (by repeat (first | exact Below.refl _ _ | assumption | refine below_drewN ?_ _ | refine Below.setCell ?_ (by first | (simp; done) | (simp; omega)) _ | refine Below.alloc ?_ (by first | (simp; done) | (simp; omega) | omega) _ | refine Below.drew ?_ | refine Below.trans ?_ (Below.mono (by assumption) (by first | (simp; done) | (simp; omega) | omega))))
  have l2_a : w.heap.size < w2.heap.size := by omega
  have a2_a : w2.cell? ⟨w.heap.size, 0, none⟩ = some (.int .i64 (an)) := cell_keep bb2 a1_a
  have c2_a : w2.cell? ⟨w.heap.size, 1, none⟩ = some (.int .i64 (ad)) := cell_keep bb2 c1_a
  have l2_b : w.heap.size + 1 < w2.heap.size := by omega
  have a2_b : w2.cell? ⟨w.heap.size + 1, 0, none⟩ = some (.int .i64 (bn)) := cell_keep bb2 a1_b
  have c2_b : w2.cell? ⟨w.heap.size + 1, 1, none⟩ = some (.int .i64 (bd)) := cell_keep bb2 c1_b
  have l2_c : w.heap.size + 1 + 1 < w2.heap.size := by omega
  have a2_c : w2.cell? ⟨w.heap.size + 1 + 1, 0, none⟩ = some (.int .i64 (cn)) := cell_keep bb2 a1_c
  have c2_c : w2.cell? ⟨w.heap.size + 1 + 1, 1, none⟩ = some (.int .i64 (cd)) := cell_keep bb2 c1_c
  have be2 : Below w.heap.size w w2 := be1.trans (bb2.mono (by omega))
  clear hb2 bb2 be1 l1_a a1_a c1_a l1_b a1_b c1_b l1_c a1_c c1_c
  go_wp2_with fail
  refine (valid_true _ _ _ HB.out).mono ?_
  rintro e w3 ⟨rfl, hb3⟩
  have hz3 := hb3.size
  (try simp at hz3)
  have bb3 : Below w2.heap.size w2 w3 := (by repeat (first | exact Below.refl _ _ | assumption | refine below_drewN ?_ _ | refine Below.setCell ?_ (by first | (simp; done) | (simp; omega)) _ | refine Below.alloc ?_ (by first | (simp; done) | (simp; omega) | omega) _ | refine Below.drew ?_ | refine Below.trans ?_ (Below.mono (by assumption) (by first | (simp; done) | (simp; omega) | omega))))
  have l3_a : w.heap.size < w3.heap.size := by omega
  have a3_a : w3.cell? ⟨w.heap.size, 0, none⟩ = some (.int .i64 (an)) := cell_keep bb3 a2_a
  have c3_a : w3.cell? ⟨w.heap.size, 1, none⟩ = some (.int .i64 (ad)) := cell_keep bb3 c2_a
  have l3_b : w.heap.size + 1 < w3.heap.size := by omega
  have a3_b : w3.cell? ⟨w.heap.size + 1, 0, none⟩ = some (.int .i64 (bn)) := cell_keep bb3 a2_b
  have c3_b : w3.cell? ⟨w.heap.size + 1, 1, none⟩ = some (.int .i64 (bd)) := cell_keep bb3 c2_b
  have l3_c : w.heap.size + 1 + 1 < w3.heap.size := by omega
  have a3_c : w3.cell? ⟨w.heap.size + 1 + 1, 0, none⟩ = some (.int .i64 (cn)) := cell_keep bb3 a2_c
  have c3_c : w3.cell? ⟨w.heap.size + 1 + 1, 1, none⟩ = some (.int .i64 (cd)) := cell_keep bb3 c2_c
  have be3 : Below w.heap.size w w3 := be2.trans (bb3.mono (by omega))
  clear hb3 bb3 be2 l2_a a2_a c2_a l2_b a2_b c2_b l2_c a2_c c2_c
  go_wp2_with fail
  refine (valid_false _ _ _ kc1 kc2 HC.out).mono ?_
  rintro e w4 ⟨rfl, hb4⟩
  have hz4 := hb4.size
  (try simp at hz4)
  have bb4 : Below w3.heap.size w3 w4 := (by repeat (first | exact Below.refl _ _ | assumption | refine below_drewN ?_ _ | refine Below.setCell ?_ (by first | (simp; done) | (simp; omega)) _ | refine Below.alloc ?_ (by first | (simp; done) | (simp; omega) | omega) _ | refine Below.drew ?_ | refine Below.trans ?_ (Below.mono (by assumption) (by first | (simp; done) | (simp; omega) | omega))))
  have l4_a : w.heap.size < w4.heap.size := by omega
  have a4_a : w4.cell? ⟨w.heap.size, 0, none⟩ = some (.int .i64 (an)) := cell_keep bb4 a3_a
  have c4_a : w4.cell? ⟨w.heap.size, 1, none⟩ = some (.int .i64 (ad)) := cell_keep bb4 c3_a
  have l4_b : w.heap.size + 1 < w4.heap.size := by omega
  have a4_b : w4.cell? ⟨w.heap.size + 1, 0, none⟩ = some (.int .i64 (bn)) := cell_keep bb4 a3_b
  have c4_b : w4.cell? ⟨w.heap.size + 1, 1, none⟩ = some (.int .i64 (bd)) := cell_keep bb4 c3_b
  have l4_c : w.heap.size + 1 + 1 < w4.heap.size := by omega
  have a4_c : w4.cell? ⟨w.heap.size + 1 + 1, 0, none⟩ = some (.int .i64 (cn)) := cell_keep bb4 a3_c
  have c4_c : w4.cell? ⟨w.heap.size + 1 + 1, 1, none⟩ = some (.int .i64 (cd)) := cell_keep bb4 c3_c
  have be4 : Below w.heap.size w w4 := be3.trans (bb4.mono (by omega))
  clear hb4 bb4 be3 l3_a a3_a c3_a l3_b a3_b c3_b l3_c a3_c c3_c
  go_wp2
  go_ret
  exact ⟨rfl, (by repeat (first | exact Below.refl _ _ | assumption | refine below_drewN ?_ _ | refine Below.setCell ?_ (by first | (simp; done) | (simp; omega)) _ | refine Below.alloc ?_ (by first | (simp; done) | (simp; omega) | omega) _ | refine Below.drew ?_ | refine Below.trans ?_ (Below.mono (by assumption) (by first | (simp; done) | (simp; omega) | omega))))⟩
set_option maxRecDepth 100000 in
set_option maxHeartbeats 16000000 in
theorem or_in (an ad bn bd cn cd : Int) (w : World) (hE : Env w) (ha : Rt.Ok an ad) (hb : Rt.Ok bn bd) (hc : Rt.Ok cn cd) (k m j : Int) (hk : Rt.cmpS an ad bn bd = k) (hk2 : Rt.cmpS bn bd an ad = -k) (hm : Rt.cmpS bn bd cn cd = m) (hj : Rt.cmpS an ad cn cd = j) (hkb : -1 ≤ k ∧ k ≤ 1) (heq : (k = 0 ∧ an = bn ∧ ad = bd) ∨ (k ≠ 0 ∧ (an ≠ bn ∨ ad ≠ bd))) (htr : k ≤ 0 → m ≤ 0 → j ≤ 0) (s1 s2 se t1 t2 te : Int) (hs : Rt.addS an ad cn cd = (s1, s2, se)) (ht : Rt.addS bn bd cn cd = (t1, t2, te)) (sb : -1000000000000 ≤ s1 ∧ s1 ≤ 1000000000000) (tb : -1000000000000 ≤ t1 ∧ t1 ≤ 1000000000000) (hst : se = 0 → te = 0 → Rt.cmpS s1 s2 t1 t2 = k) (p1 p2 pe q1 q2 qe : Int) (hp : Rt.mulS an ad cn cd = (p1, p2, pe)) (hq : Rt.mulS bn bd cn cd = (q1, q2, qe)) (pb : -1000000000000 ≤ p1 ∧ p1 ≤ 1000000000000) (qb : -1000000000000 ≤ q1 ∧ q1 ≤ 1000000000000) (hpq : pe = 0 → qe = 0 → 0 < cn → Rt.cmpS p1 p2 q1 q2 = k) :
    Calls Tryd.prog 6 #[.agg #[.int .i64 an, .int .i64 ad], .agg #[.int .i64 bn, .int .i64 bd], .agg #[.int .i64 cn, .int .i64 cd]] w fun e w' => e = .returned (.bool true) ∧ Below w.heap.size w w' := by
  have HE := Lib.hid hE
  clear hE
  have HA := Lib.hid ha
  have HB := Lib.hid hb
  have HC := Lib.hid hc
  have HK := Lib.hid hk
  have HK2 := Lib.hid hk2
  have HM := Lib.hid hm
  have HJ := Lib.hid hj
  have HEQ := Lib.hid heq
  have HTR := Lib.hid htr
  obtain ⟨a1, a2, a3, a4, _⟩ := ha
  obtain ⟨b1, b2, b3, b4, _⟩ := hb
  obtain ⟨c1, c2, c3, c4, _⟩ := hc
  clear hk hk2 hm hj heq htr
  have HS := Lib.hid hs
  have HT := Lib.hid ht
  have HST := Lib.hid hst
  clear hs ht hst
  have HP := Lib.hid hp
  have HQ := Lib.hid hq
  have HPQ := Lib.hid hpq
  clear hp hq hpq
  go_enter Tryd.func6, Tryd.ntmps6
  go_wp2_with fail
  refine (head_any _ (HE.out.below (by repeat (first | exact Below.refl _ _ | assumption | refine below_drewN ?_ _ | refine Below.setCell ?_ (by first | (simp; done) | (simp; omega)) _ | refine Below.alloc ?_ (by first | (simp; done) | (simp; omega) | omega) _ | refine Below.drew ?_ | refine Below.trans ?_ (Below.mono (by assumption) (by first | (simp; done) | (simp; omega) | omega)))))).mono ?_
  rintro e w1 ⟨rfl, hb1⟩
  have hz1 := hb1.size
  (try simp at hz1)
  have l1_a : w.heap.size < w1.heap.size := by omega
  have a1_a : w1.cell? ⟨w.heap.size, 0, none⟩ = some (.int .i64 (an)) := cell_keep hb1 (by go_simp)
  have c1_a : w1.cell? ⟨w.heap.size, 1, none⟩ = some (.int .i64 (ad)) := cell_keep hb1 (by go_simp)
  have l1_b : w.heap.size + 1 < w1.heap.size := by omega
  have a1_b : w1.cell? ⟨w.heap.size + 1, 0, none⟩ = some (.int .i64 (bn)) := cell_keep hb1 (by go_simp)
  have c1_b : w1.cell? ⟨w.heap.size + 1, 1, none⟩ = some (.int .i64 (bd)) := cell_keep hb1 (by go_simp)
  have l1_c : w.heap.size + 1 + 1 < w1.heap.size := by omega
  have a1_c : w1.cell? ⟨w.heap.size + 1 + 1, 0, none⟩ = some (.int .i64 (cn)) := cell_keep hb1 (by go_simp)
  have c1_c : w1.cell? ⟨w.heap.size + 1 + 1, 1, none⟩ = some (.int .i64 (cd)) := cell_keep hb1 (by go_simp)
  have be1 : Below w.heap.size w w1 := (by repeat (first | exact Below.refl _ _ | assumption | refine below_drewN ?_ _ | refine Below.setCell ?_ (by first | (simp; done) | (simp; omega)) _ | refine Below.alloc ?_ (by first | (simp; done) | (simp; omega) | omega) _ | refine Below.drew ?_ | refine Below.trans ?_ (Below.mono (by assumption) (by first | (simp; done) | (simp; omega) | omega))))
  clear hb1
  go_wp2_with fail
  refine (valid_true _ _ _ HA.out).mono ?_
  rintro e w2 ⟨rfl, hb2⟩
  have hz2 := hb2.size
  (try simp at hz2)
  have bb2 : Below w1.heap.size w1 w2 := (by repeat (first | exact Below.refl _ _ | assumption | refine below_drewN ?_ _ | refine Below.setCell ?_ (by first | (simp; done) | (simp; omega)) _ | refine Below.alloc ?_ (by first | (simp; done) | (simp; omega) | omega) _ | refine Below.drew ?_ | refine Below.trans ?_ (Below.mono (by assumption) (by first | (simp; done) | (simp; omega) | omega))))
  have l2_a : w.heap.size < w2.heap.size := by omega
  have a2_a : w2.cell? ⟨w.heap.size, 0, none⟩ = some (.int .i64 (an)) := cell_keep bb2 a1_a
  have c2_a : w2.cell? ⟨w.heap.size, 1, none⟩ = some (.int .i64 (ad)) := cell_keep bb2 c1_a
  have l2_b : w.heap.size + 1 < w2.heap.size := by omega
  have a2_b : w2.cell? ⟨w.heap.size + 1, 0, none⟩ = some (.int .i64 (bn)) := cell_keep bb2 a1_b
  have c2_b : w2.cell? ⟨w.heap.size + 1, 1, none⟩ = some (.int .i64 (bd)) := cell_keep bb2 c1_b
  have l2_c : w.heap.size + 1 + 1 < w2.heap.size := by omega
  have a2_c : w2.cell? ⟨w.heap.size + 1 + 1, 0, none⟩ = some (.int .i64 (cn)) := cell_keep bb2 a1_c
  have c2_c : w2.cell? ⟨w.heap.size + 1 + 1, 1, none⟩ = some (.int .i64 (cd)) := cell_keep bb2 c1_c
  have be2 : Below w.heap.size w w2 := be1.trans (bb2.mono (by omega))
  clear hb2 bb2 be1 l1_a a1_a c1_a l1_b a1_b c1_b l1_c a1_c c1_c
  go_wp2_with fail
  refine (valid_true _ _ _ HB.out).mono ?_
  rintro e w3 ⟨rfl, hb3⟩
  have hz3 := hb3.size
  (try simp at hz3)
  have bb3 : Below w2.heap.size w2 w3 := (by repeat (first | exact Below.refl _ _ | assumption | refine below_drewN ?_ _ | refine Below.setCell ?_ (by first | (simp; done) | (simp; omega)) _ | refine Below.alloc ?_ (by first | (simp; done) | (simp; omega) | omega) _ | refine Below.drew ?_ | refine Below.trans ?_ (Below.mono (by assumption) (by first | (simp; done) | (simp; omega) | omega))))
  have l3_a : w.heap.size < w3.heap.size := by omega
  have a3_a : w3.cell? ⟨w.heap.size, 0, none⟩ = some (.int .i64 (an)) := cell_keep bb3 a2_a
  have c3_a : w3.cell? ⟨w.heap.size, 1, none⟩ = some (.int .i64 (ad)) := cell_keep bb3 c2_a
  have l3_b : w.heap.size + 1 < w3.heap.size := by omega
  have a3_b : w3.cell? ⟨w.heap.size + 1, 0, none⟩ = some (.int .i64 (bn)) := cell_keep bb3 a2_b
  have c3_b : w3.cell? ⟨w.heap.size + 1, 1, none⟩ = some (.int .i64 (bd)) := cell_keep bb3 c2_b
  have l3_c : w.heap.size + 1 + 1 < w3.heap.size := by omega
  have a3_c : w3.cell? ⟨w.heap.size + 1 + 1, 0, none⟩ = some (.int .i64 (cn)) := cell_keep bb3 a2_c
  have c3_c : w3.cell? ⟨w.heap.size + 1 + 1, 1, none⟩ = some (.int .i64 (cd)) := cell_keep bb3 c2_c
  have be3 : Below w.heap.size w w3 := be2.trans (bb3.mono (by omega))
  clear hb3 bb3 be2 l2_a a2_a c2_a l2_b a2_b c2_b l2_c a2_c c2_c
  go_wp2_with fail
  refine (valid_true _ _ _ HC.out).mono ?_
  rintro e w4 ⟨rfl, hb4⟩
  have hz4 := hb4.size
  (try simp at hz4)
  have bb4 : Below w3.heap.size w3 w4 := (by repeat (first | exact Below.refl _ _ | assumption | refine below_drewN ?_ _ | refine Below.setCell ?_ (by first | (simp; done) | (simp; omega)) _ | refine Below.alloc ?_ (by first | (simp; done) | (simp; omega) | omega) _ | refine Below.drew ?_ | refine Below.trans ?_ (Below.mono (by assumption) (by first | (simp; done) | (simp; omega) | omega))))
  have l4_a : w.heap.size < w4.heap.size := by omega
  have a4_a : w4.cell? ⟨w.heap.size, 0, none⟩ = some (.int .i64 (an)) := cell_keep bb4 a3_a
  have c4_a : w4.cell? ⟨w.heap.size, 1, none⟩ = some (.int .i64 (ad)) := cell_keep bb4 c3_a
  have l4_b : w.heap.size + 1 < w4.heap.size := by omega
  have a4_b : w4.cell? ⟨w.heap.size + 1, 0, none⟩ = some (.int .i64 (bn)) := cell_keep bb4 a3_b
  have c4_b : w4.cell? ⟨w.heap.size + 1, 1, none⟩ = some (.int .i64 (bd)) := cell_keep bb4 c3_b
  have l4_c : w.heap.size + 1 + 1 < w4.heap.size := by omega
  have a4_c : w4.cell? ⟨w.heap.size + 1 + 1, 0, none⟩ = some (.int .i64 (cn)) := cell_keep bb4 a3_c
  have c4_c : w4.cell? ⟨w.heap.size + 1 + 1, 1, none⟩ = some (.int .i64 (cd)) := cell_keep bb4 c3_c
  have be4 : Below w.heap.size w w4 := be3.trans (bb4.mono (by omega))
  clear hb4 bb4 be3 l3_a a3_a c3_a l3_b a3_b c3_b l3_c a3_c c3_c
  go_wp2_with fail
  refine (cmp_any an ad bn bd _ (by omega) (by omega) (by omega) (by omega)).mono ?_
  rintro e w5 ⟨rfl, hb5⟩
  rw [HK.out]
  have hz5 := hb5.size
  (try simp at hz5)
  have bb5 : Below w4.heap.size w4 w5 := (by repeat (first | exact Below.refl _ _ | assumption | refine below_drewN ?_ _ | refine Below.setCell ?_ (by first | (simp; done) | (simp; omega)) _ | refine Below.alloc ?_ (by first | (simp; done) | (simp; omega) | omega) _ | refine Below.drew ?_ | refine Below.trans ?_ (Below.mono (by assumption) (by first | (simp; done) | (simp; omega) | omega))))
  have l5_a : w.heap.size < w5.heap.size := by omega
  have a5_a : w5.cell? ⟨w.heap.size, 0, none⟩ = some (.int .i64 (an)) := cell_keep bb5 a4_a
  have c5_a : w5.cell? ⟨w.heap.size, 1, none⟩ = some (.int .i64 (ad)) := cell_keep bb5 c4_a
  have l5_b : w.heap.size + 1 < w5.heap.size := by omega
  have a5_b : w5.cell? ⟨w.heap.size + 1, 0, none⟩ = some (.int .i64 (bn)) := cell_keep bb5 a4_b
  have c5_b : w5.cell? ⟨w.heap.size + 1, 1, none⟩ = some (.int .i64 (bd)) := cell_keep bb5 c4_b
  have l5_c : w.heap.size + 1 + 1 < w5.heap.size := by omega
  have a5_c : w5.cell? ⟨w.heap.size + 1 + 1, 0, none⟩ = some (.int .i64 (cn)) := cell_keep bb5 a4_c
  have c5_c : w5.cell? ⟨w.heap.size + 1 + 1, 1, none⟩ = some (.int .i64 (cd)) := cell_keep bb5 c4_c
  have be5 : Below w.heap.size w w5 := be4.trans (bb5.mono (by omega))
  clear hb5 bb5 be4 l4_a a4_a c4_a l4_b a4_b c4_b l4_c a4_c c4_c
  go_upto_region 5 with fail
  go_cut [68] (fun s wx => s = .bool false ∧ Below w5.heap.size w5 wx)
  case first =>
    rcases HEQ.out with ⟨e0, e1, e2⟩ | ⟨e0, e12⟩
    · have f1 : k ≤ 0 := by omega
      have f4 : (an == bn) = true := by simp [e1]
      have f6 : (ad == bd) = true := by simp [e2]
      have f5 : (k == 0) = true := by simp [e0]
      clear e0 e1 e2
      by_cases q2 : m ≤ 0
      · have q3 : j ≤ 0 := HTR.out (by omega) (by omega)
        go_wp2_with fail
        refine (cmp_any bn bd an ad _ (by omega) (by omega) (by omega) (by omega)).mono ?_
        rintro e w6 ⟨rfl, hb6⟩
        rw [HK2.out]
        have hz6 := hb6.size
        (try simp at hz6)
        have bb6 : Below w5.heap.size w5 w6 := (by repeat (first | exact Below.refl _ _ | assumption | refine below_drewN ?_ _ | refine Below.setCell ?_ (by first | (simp; done) | (simp; omega)) _ | refine Below.alloc ?_ (by first | (simp; done) | (simp; omega) | omega) _ | refine Below.drew ?_ | refine Below.trans ?_ (Below.mono (by assumption) (by first | (simp; done) | (simp; omega) | omega))))
        have l6_a : w.heap.size < w6.heap.size := by omega
        have a6_a : w6.cell? ⟨w.heap.size, 0, none⟩ = some (.int .i64 (an)) := cell_keep bb6 a5_a
        have c6_a : w6.cell? ⟨w.heap.size, 1, none⟩ = some (.int .i64 (ad)) := cell_keep bb6 c5_a
        have l6_b : w.heap.size + 1 < w6.heap.size := by omega
        have a6_b : w6.cell? ⟨w.heap.size + 1, 0, none⟩ = some (.int .i64 (bn)) := cell_keep bb6 a5_b
        have c6_b : w6.cell? ⟨w.heap.size + 1, 1, none⟩ = some (.int .i64 (bd)) := cell_keep bb6 c5_b
        have l6_c : w.heap.size + 1 + 1 < w6.heap.size := by omega
        have a6_c : w6.cell? ⟨w.heap.size + 1 + 1, 0, none⟩ = some (.int .i64 (cn)) := cell_keep bb6 a5_c
        have c6_c : w6.cell? ⟨w.heap.size + 1 + 1, 1, none⟩ = some (.int .i64 (cd)) := cell_keep bb6 c5_c
        have bx6 : Below w5.heap.size w5 w6 := hb6
        have be6 : Below w.heap.size w w6 := be5.trans (bb6.mono (by omega))
        clear hb6 bb6 be5 l5_a a5_a c5_a l5_b a5_b c5_b l5_c a5_c c5_c
        go_wp2_with fail
        refine (cmp_any bn bd cn cd _ (by omega) (by omega) (by omega) (by omega)).mono ?_
        rintro e w7 ⟨rfl, hb7⟩
        rw [HM.out]
        have hz7 := hb7.size
        (try simp at hz7)
        have bb7 : Below w6.heap.size w6 w7 := (by repeat (first | exact Below.refl _ _ | assumption | refine below_drewN ?_ _ | refine Below.setCell ?_ (by first | (simp; done) | (simp; omega)) _ | refine Below.alloc ?_ (by first | (simp; done) | (simp; omega) | omega) _ | refine Below.drew ?_ | refine Below.trans ?_ (Below.mono (by assumption) (by first | (simp; done) | (simp; omega) | omega))))
        have l7_a : w.heap.size < w7.heap.size := by omega
        have a7_a : w7.cell? ⟨w.heap.size, 0, none⟩ = some (.int .i64 (an)) := cell_keep bb7 a6_a
        have c7_a : w7.cell? ⟨w.heap.size, 1, none⟩ = some (.int .i64 (ad)) := cell_keep bb7 c6_a
        have l7_b : w.heap.size + 1 < w7.heap.size := by omega
        have a7_b : w7.cell? ⟨w.heap.size + 1, 0, none⟩ = some (.int .i64 (bn)) := cell_keep bb7 a6_b
        have c7_b : w7.cell? ⟨w.heap.size + 1, 1, none⟩ = some (.int .i64 (bd)) := cell_keep bb7 c6_b
        have l7_c : w.heap.size + 1 + 1 < w7.heap.size := by omega
        have a7_c : w7.cell? ⟨w.heap.size + 1 + 1, 0, none⟩ = some (.int .i64 (cn)) := cell_keep bb7 a6_c
        have c7_c : w7.cell? ⟨w.heap.size + 1 + 1, 1, none⟩ = some (.int .i64 (cd)) := cell_keep bb7 c6_c
        have bx7 : Below w5.heap.size w5 w7 := bx6.trans (bb7.mono (by omega))
        have be7 : Below w.heap.size w w7 := be6.trans (bb7.mono (by omega))
        clear hb7 bb7 be6 l6_a a6_a c6_a l6_b a6_b c6_b l6_c a6_c c6_c
        go_wp2_with fail
        refine (cmp_any an ad cn cd _ (by omega) (by omega) (by omega) (by omega)).mono ?_
        rintro e w8 ⟨rfl, hb8⟩
        rw [HJ.out]
        have hz8 := hb8.size
        (try simp at hz8)
        have bb8 : Below w7.heap.size w7 w8 := (by repeat (first | exact Below.refl _ _ | assumption | refine below_drewN ?_ _ | refine Below.setCell ?_ (by first | (simp; done) | (simp; omega)) _ | refine Below.alloc ?_ (by first | (simp; done) | (simp; omega) | omega) _ | refine Below.drew ?_ | refine Below.trans ?_ (Below.mono (by assumption) (by first | (simp; done) | (simp; omega) | omega))))
        have l8_a : w.heap.size < w8.heap.size := by omega
        have a8_a : w8.cell? ⟨w.heap.size, 0, none⟩ = some (.int .i64 (an)) := cell_keep bb8 a7_a
        have c8_a : w8.cell? ⟨w.heap.size, 1, none⟩ = some (.int .i64 (ad)) := cell_keep bb8 c7_a
        have l8_b : w.heap.size + 1 < w8.heap.size := by omega
        have a8_b : w8.cell? ⟨w.heap.size + 1, 0, none⟩ = some (.int .i64 (bn)) := cell_keep bb8 a7_b
        have c8_b : w8.cell? ⟨w.heap.size + 1, 1, none⟩ = some (.int .i64 (bd)) := cell_keep bb8 c7_b
        have l8_c : w.heap.size + 1 + 1 < w8.heap.size := by omega
        have a8_c : w8.cell? ⟨w.heap.size + 1 + 1, 0, none⟩ = some (.int .i64 (cn)) := cell_keep bb8 a7_c
        have c8_c : w8.cell? ⟨w.heap.size + 1 + 1, 1, none⟩ = some (.int .i64 (cd)) := cell_keep bb8 c7_c
        have bx8 : Below w5.heap.size w5 w8 := bx7.trans (bb8.mono (by omega))
        have be8 : Below w.heap.size w w8 := be7.trans (bb8.mono (by omega))
        clear hb8 bb8 be7 l7_a a7_a c7_a l7_b a7_b c7_b l7_c a7_c c7_c
        go_wp2
        go_meet
        exact ⟨by first | rfl | (simp; done) | (simp; omega), bx8⟩
      · go_wp2_with fail
        refine (cmp_any bn bd an ad _ (by omega) (by omega) (by omega) (by omega)).mono ?_
        rintro e w6 ⟨rfl, hb6⟩
        rw [HK2.out]
        have hz6 := hb6.size
        (try simp at hz6)
        have bb6 : Below w5.heap.size w5 w6 := (by repeat (first | exact Below.refl _ _ | assumption | refine below_drewN ?_ _ | refine Below.setCell ?_ (by first | (simp; done) | (simp; omega)) _ | refine Below.alloc ?_ (by first | (simp; done) | (simp; omega) | omega) _ | refine Below.drew ?_ | refine Below.trans ?_ (Below.mono (by assumption) (by first | (simp; done) | (simp; omega) | omega))))
        have l6_a : w.heap.size < w6.heap.size := by omega
        have a6_a : w6.cell? ⟨w.heap.size, 0, none⟩ = some (.int .i64 (an)) := cell_keep bb6 a5_a
        have c6_a : w6.cell? ⟨w.heap.size, 1, none⟩ = some (.int .i64 (ad)) := cell_keep bb6 c5_a
        have l6_b : w.heap.size + 1 < w6.heap.size := by omega
        have a6_b : w6.cell? ⟨w.heap.size + 1, 0, none⟩ = some (.int .i64 (bn)) := cell_keep bb6 a5_b
        have c6_b : w6.cell? ⟨w.heap.size + 1, 1, none⟩ = some (.int .i64 (bd)) := cell_keep bb6 c5_b
        have l6_c : w.heap.size + 1 + 1 < w6.heap.size := by omega
        have a6_c : w6.cell? ⟨w.heap.size + 1 + 1, 0, none⟩ = some (.int .i64 (cn)) := cell_keep bb6 a5_c
        have c6_c : w6.cell? ⟨w.heap.size + 1 + 1, 1, none⟩ = some (.int .i64 (cd)) := cell_keep bb6 c5_c
        have bx6 : Below w5.heap.size w5 w6 := hb6
        have be6 : Below w.heap.size w w6 := be5.trans (bb6.mono (by omega))
        clear hb6 bb6 be5 l5_a a5_a c5_a l5_b a5_b c5_b l5_c a5_c c5_c
        go_wp2_with fail
        refine (cmp_any bn bd cn cd _ (by omega) (by omega) (by omega) (by omega)).mono ?_
        rintro e w7 ⟨rfl, hb7⟩
        rw [HM.out]
        have hz7 := hb7.size
        (try simp at hz7)
        have bb7 : Below w6.heap.size w6 w7 := (by repeat (first | exact Below.refl _ _ | assumption | refine below_drewN ?_ _ | refine Below.setCell ?_ (by first | (simp; done) | (simp; omega)) _ | refine Below.alloc ?_ (by first | (simp; done) | (simp; omega) | omega) _ | refine Below.drew ?_ | refine Below.trans ?_ (Below.mono (by assumption) (by first | (simp; done) | (simp; omega) | omega))))
        have l7_a : w.heap.size < w7.heap.size := by omega
        have a7_a : w7.cell? ⟨w.heap.size, 0, none⟩ = some (.int .i64 (an)) := cell_keep bb7 a6_a
        have c7_a : w7.cell? ⟨w.heap.size, 1, none⟩ = some (.int .i64 (ad)) := cell_keep bb7 c6_a
        have l7_b : w.heap.size + 1 < w7.heap.size := by omega
        have a7_b : w7.cell? ⟨w.heap.size + 1, 0, none⟩ = some (.int .i64 (bn)) := cell_keep bb7 a6_b
        have c7_b : w7.cell? ⟨w.heap.size + 1, 1, none⟩ = some (.int .i64 (bd)) := cell_keep bb7 c6_b
        have l7_c : w.heap.size + 1 + 1 < w7.heap.size := by omega
        have a7_c : w7.cell? ⟨w.heap.size + 1 + 1, 0, none⟩ = some (.int .i64 (cn)) := cell_keep bb7 a6_c
        have c7_c : w7.cell? ⟨w.heap.size + 1 + 1, 1, none⟩ = some (.int .i64 (cd)) := cell_keep bb7 c6_c
        have bx7 : Below w5.heap.size w5 w7 := bx6.trans (bb7.mono (by omega))
        have be7 : Below w.heap.size w w7 := be6.trans (bb7.mono (by omega))
        clear hb7 bb7 be6 l6_a a6_a c6_a l6_b a6_b c6_b l6_c a6_c c6_c
        go_wp2
        go_meet
        exact ⟨by first | rfl | (simp; done) | (simp; omega), bx7⟩
    · have f5 : (k == 0) = false := by simpa using e0
      by_cases h' : an = bn
      · have h2 : ad ≠ bd := fun hx => e12.elim (fun h => h h') (fun h => h hx)
        have f4 : (an == bn) = true := by simp [h']
        have f6 : (ad == bd) = false := by simpa using h2
        clear h' h2 e12 e0
        by_cases q1 : k ≤ 0
        · by_cases q2 : m ≤ 0
          · have q3 : j ≤ 0 := HTR.out (by omega) (by omega)
            go_wp2_with fail
            refine (cmp_any bn bd an ad _ (by omega) (by omega) (by omega) (by omega)).mono ?_
            rintro e w6 ⟨rfl, hb6⟩
            rw [HK2.out]
            have hz6 := hb6.size
            (try simp at hz6)
            have bb6 : Below w5.heap.size w5 w6 := (by repeat (first | exact Below.refl _ _ | assumption | refine below_drewN ?_ _ | refine Below.setCell ?_ (by first | (simp; done) | (simp; omega)) _ | refine Below.alloc ?_ (by first | (simp; done) | (simp; omega) | omega) _ | refine Below.drew ?_ | refine Below.trans ?_ (Below.mono (by assumption) (by first | (simp; done) | (simp; omega) | omega))))
            have l6_a : w.heap.size < w6.heap.size := by omega
            have a6_a : w6.cell? ⟨w.heap.size, 0, none⟩ = some (.int .i64 (an)) := cell_keep bb6 a5_a
            have c6_a : w6.cell? ⟨w.heap.size, 1, none⟩ = some (.int .i64 (ad)) := cell_keep bb6 c5_a
            have l6_b : w.heap.size + 1 < w6.heap.size := by omega
            have a6_b : w6.cell? ⟨w.heap.size + 1, 0, none⟩ = some (.int .i64 (bn)) := cell_keep bb6 a5_b
            have c6_b : w6.cell? ⟨w.heap.size + 1, 1, none⟩ = some (.int .i64 (bd)) := cell_keep bb6 c5_b
            have l6_c : w.heap.size + 1 + 1 < w6.heap.size := by omega
            have a6_c : w6.cell? ⟨w.heap.size + 1 + 1, 0, none⟩ = some (.int .i64 (cn)) := cell_keep bb6 a5_c
            have c6_c : w6.cell? ⟨w.heap.size + 1 + 1, 1, none⟩ = some (.int .i64 (cd)) := cell_keep bb6 c5_c
            have bx6 : Below w5.heap.size w5 w6 := hb6
            have be6 : Below w.heap.size w w6 := be5.trans (bb6.mono (by omega))
            clear hb6 bb6 be5 l5_a a5_a c5_a l5_b a5_b c5_b l5_c a5_c c5_c
            go_wp2_with fail
            refine (cmp_any bn bd cn cd _ (by omega) (by omega) (by omega) (by omega)).mono ?_
            rintro e w7 ⟨rfl, hb7⟩
            rw [HM.out]
            have hz7 := hb7.size
            (try simp at hz7)
            have bb7 : Below w6.heap.size w6 w7 := (by repeat (first | exact Below.refl _ _ | assumption | refine below_drewN ?_ _ | refine Below.setCell ?_ (by first | (simp; done) | (simp; omega)) _ | refine Below.alloc ?_ (by first | (simp; done) | (simp; omega) | omega) _ | refine Below.drew ?_ | refine Below.trans ?_ (Below.mono (by assumption) (by first | (simp; done) | (simp; omega) | omega))))
            have l7_a : w.heap.size < w7.heap.size := by omega
            have a7_a : w7.cell? ⟨w.heap.size, 0, none⟩ = some (.int .i64 (an)) := cell_keep bb7 a6_a
            have c7_a : w7.cell? ⟨w.heap.size, 1, none⟩ = some (.int .i64 (ad)) := cell_keep bb7 c6_a
            have l7_b : w.heap.size + 1 < w7.heap.size := by omega
            have a7_b : w7.cell? ⟨w.heap.size + 1, 0, none⟩ = some (.int .i64 (bn)) := cell_keep bb7 a6_b
            have c7_b : w7.cell? ⟨w.heap.size + 1, 1, none⟩ = some (.int .i64 (bd)) := cell_keep bb7 c6_b
            have l7_c : w.heap.size + 1 + 1 < w7.heap.size := by omega
            have a7_c : w7.cell? ⟨w.heap.size + 1 + 1, 0, none⟩ = some (.int .i64 (cn)) := cell_keep bb7 a6_c
            have c7_c : w7.cell? ⟨w.heap.size + 1 + 1, 1, none⟩ = some (.int .i64 (cd)) := cell_keep bb7 c6_c
            have bx7 : Below w5.heap.size w5 w7 := bx6.trans (bb7.mono (by omega))
            have be7 : Below w.heap.size w w7 := be6.trans (bb7.mono (by omega))
            clear hb7 bb7 be6 l6_a a6_a c6_a l6_b a6_b c6_b l6_c a6_c c6_c
            go_wp2_with fail
            refine (cmp_any an ad cn cd _ (by omega) (by omega) (by omega) (by omega)).mono ?_
            rintro e w8 ⟨rfl, hb8⟩
            rw [HJ.out]
            have hz8 := hb8.size
            (try simp at hz8)
            have bb8 : Below w7.heap.size w7 w8 := (by repeat (first | exact Below.refl _ _ | assumption | refine below_drewN ?_ _ | refine Below.setCell ?_ (by first | (simp; done) | (simp; omega)) _ | refine Below.alloc ?_ (by first | (simp; done) | (simp; omega) | omega) _ | refine Below.drew ?_ | refine Below.trans ?_ (Below.mono (by assumption) (by first | (simp; done) | (simp; omega) | omega))))
            have l8_a : w.heap.size < w8.heap.size := by omega
            have a8_a : w8.cell? ⟨w.heap.size, 0, none⟩ = some (.int .i64 (an)) := cell_keep bb8 a7_a
            have c8_a : w8.cell? ⟨w.heap.size, 1, none⟩ = some (.int .i64 (ad)) := cell_keep bb8 c7_a
            have l8_b : w.heap.size + 1 < w8.heap.size := by omega
            have a8_b : w8.cell? ⟨w.heap.size + 1, 0, none⟩ = some (.int .i64 (bn)) := cell_keep bb8 a7_b
            have c8_b : w8.cell? ⟨w.heap.size + 1, 1, none⟩ = some (.int .i64 (bd)) := cell_keep bb8 c7_b
            have l8_c : w.heap.size + 1 + 1 < w8.heap.size := by omega
            have a8_c : w8.cell? ⟨w.heap.size + 1 + 1, 0, none⟩ = some (.int .i64 (cn)) := cell_keep bb8 a7_c
            have c8_c : w8.cell? ⟨w.heap.size + 1 + 1, 1, none⟩ = some (.int .i64 (cd)) := cell_keep bb8 c7_c
            have bx8 : Below w5.heap.size w5 w8 := bx7.trans (bb8.mono (by omega))
            have be8 : Below w.heap.size w w8 := be7.trans (bb8.mono (by omega))
            clear hb8 bb8 be7 l7_a a7_a c7_a l7_b a7_b c7_b l7_c a7_c c7_c
            go_wp2
            go_meet
            exact ⟨by first | rfl | (simp; done) | (simp; omega), bx8⟩
          · go_wp2_with fail
            refine (cmp_any bn bd an ad _ (by omega) (by omega) (by omega) (by omega)).mono ?_
            rintro e w6 ⟨rfl, hb6⟩
            rw [HK2.out]
            have hz6 := hb6.size
            (try simp at hz6)
            have bb6 : Below w5.heap.size w5 w6 := (by repeat (first | exact Below.refl _ _ | assumption | refine below_drewN ?_ _ | refine Below.setCell ?_ (by first | (simp; done) | (simp; omega)) _ | refine Below.alloc ?_ (by first | (simp; done) | (simp; omega) | omega) _ | refine Below.drew ?_ | refine Below.trans ?_ (Below.mono (by assumption) (by first | (simp; done) | (simp; omega) | omega))))
            have l6_a : w.heap.size < w6.heap.size := by omega
            have a6_a : w6.cell? ⟨w.heap.size, 0, none⟩ = some (.int .i64 (an)) := cell_keep bb6 a5_a
            have c6_a : w6.cell? ⟨w.heap.size, 1, none⟩ = some (.int .i64 (ad)) := cell_keep bb6 c5_a
            have l6_b : w.heap.size + 1 < w6.heap.size := by omega
            have a6_b : w6.cell? ⟨w.heap.size + 1, 0, none⟩ = some (.int .i64 (bn)) := cell_keep bb6 a5_b
            have c6_b : w6.cell? ⟨w.heap.size + 1, 1, none⟩ = some (.int .i64 (bd)) := cell_keep bb6 c5_b
            have l6_c : w.heap.size + 1 + 1 < w6.heap.size := by omega
            have a6_c : w6.cell? ⟨w.heap.size + 1 + 1, 0, none⟩ = some (.int .i64 (cn)) := cell_keep bb6 a5_c
            have c6_c : w6.cell? ⟨w.heap.size + 1 + 1, 1, none⟩ = some (.int .i64 (cd)) := cell_keep bb6 c5_c
            have bx6 : Below w5.heap.size w5 w6 := hb6
            have be6 : Below w.heap.size w w6 := be5.trans (bb6.mono (by omega))
            clear hb6 bb6 be5 l5_a a5_a c5_a l5_b a5_b c5_b l5_c a5_c c5_c
            go_wp2_with fail
            refine (cmp_any bn bd cn cd _ (by omega) (by omega) (by omega) (by omega)).mono ?_
            rintro e w7 ⟨rfl, hb7⟩
            rw [HM.out]
            have hz7 := hb7.size
            (try simp at hz7)
            have bb7 : Below w6.heap.size w6 w7 := (by repeat (first | exact Below.refl _ _ | assumption | refine below_drewN ?_ _ | refine Below.setCell ?_ (by first | (simp; done) | (simp; omega)) _ | refine Below.alloc ?_ (by first | (simp; done) | (simp; omega) | omega) _ | refine Below.drew ?_ | refine Below.trans ?_ (Below.mono (by assumption) (by first | (simp; done) | (simp; omega) | omega))))
            have l7_a : w.heap.size < w7.heap.size := by omega
            have a7_a : w7.cell? ⟨w.heap.size, 0, none⟩ = some (.int .i64 (an)) := cell_keep bb7 a6_a
            have c7_a : w7.cell? ⟨w.heap.size, 1, none⟩ = some (.int .i64 (ad)) := cell_keep bb7 c6_a
            have l7_b : w.heap.size + 1 < w7.heap.size := by omega
            have a7_b : w7.cell? ⟨w.heap.size + 1, 0, none⟩ = some (.int .i64 (bn)) := cell_keep bb7 a6_b
            have c7_b : w7.cell? ⟨w.heap.size + 1, 1, none⟩ = some (.int .i64 (bd)) := cell_keep bb7 c6_b
            have l7_c : w.heap.size + 1 + 1 < w7.heap.size := by omega
            have a7_c : w7.cell? ⟨w.heap.size + 1 + 1, 0, none⟩ = some (.int .i64 (cn)) := cell_keep bb7 a6_c
            have c7_c : w7.cell? ⟨w.heap.size + 1 + 1, 1, none⟩ = some (.int .i64 (cd)) := cell_keep bb7 c6_c
            have bx7 : Below w5.heap.size w5 w7 := bx6.trans (bb7.mono (by omega))
            have be7 : Below w.heap.size w w7 := be6.trans (bb7.mono (by omega))
            clear hb7 bb7 be6 l6_a a6_a c6_a l6_b a6_b c6_b l6_c a6_c c6_c
            go_wp2
            go_meet
            exact ⟨by first | rfl | (simp; done) | (simp; omega), bx7⟩
        · go_wp2_with fail
          refine (cmp_any bn bd an ad _ (by omega) (by omega) (by omega) (by omega)).mono ?_
          rintro e w6 ⟨rfl, hb6⟩
          rw [HK2.out]
          have hz6 := hb6.size
          (try simp at hz6)
          have bb6 : Below w5.heap.size w5 w6 := (by repeat (first | exact Below.refl _ _ | assumption | refine below_drewN ?_ _ | refine Below.setCell ?_ (by first | (simp; done) | (simp; omega)) _ | refine Below.alloc ?_ (by first | (simp; done) | (simp; omega) | omega) _ | refine Below.drew ?_ | refine Below.trans ?_ (Below.mono (by assumption) (by first | (simp; done) | (simp; omega) | omega))))
          have l6_a : w.heap.size < w6.heap.size := by omega
          have a6_a : w6.cell? ⟨w.heap.size, 0, none⟩ = some (.int .i64 (an)) := cell_keep bb6 a5_a
          have c6_a : w6.cell? ⟨w.heap.size, 1, none⟩ = some (.int .i64 (ad)) := cell_keep bb6 c5_a
          have l6_b : w.heap.size + 1 < w6.heap.size := by omega
          have a6_b : w6.cell? ⟨w.heap.size + 1, 0, none⟩ = some (.int .i64 (bn)) := cell_keep bb6 a5_b
          have c6_b : w6.cell? ⟨w.heap.size + 1, 1, none⟩ = some (.int .i64 (bd)) := cell_keep bb6 c5_b
          have l6_c : w.heap.size + 1 + 1 < w6.heap.size := by omega
          have a6_c : w6.cell? ⟨w.heap.size + 1 + 1, 0, none⟩ = some (.int .i64 (cn)) := cell_keep bb6 a5_c
          have c6_c : w6.cell? ⟨w.heap.size + 1 + 1, 1, none⟩ = some (.int .i64 (cd)) := cell_keep bb6 c5_c
          have bx6 : Below w5.heap.size w5 w6 := hb6
          have be6 : Below w.heap.size w w6 := be5.trans (bb6.mono (by omega))
          clear hb6 bb6 be5 l5_a a5_a c5_a l5_b a5_b c5_b l5_c a5_c c5_c
          go_wp2
          go_meet
          exact ⟨by first | rfl | (simp; done) | (simp; omega), bx6⟩
      · have f4 : (an == bn) = false := by simpa using h'
        clear h' e12 e0
        by_cases q1 : k ≤ 0
        · by_cases q2 : m ≤ 0
          · have q3 : j ≤ 0 := HTR.out (by omega) (by omega)
            go_wp2_with fail
            refine (cmp_any bn bd an ad _ (by omega) (by omega) (by omega) (by omega)).mono ?_
            rintro e w6 ⟨rfl, hb6⟩
            rw [HK2.out]
            have hz6 := hb6.size
            (try simp at hz6)
            have bb6 : Below w5.heap.size w5 w6 := (by repeat (first | exact Below.refl _ _ | assumption | refine below_drewN ?_ _ | refine Below.setCell ?_ (by first | (simp; done) | (simp; omega)) _ | refine Below.alloc ?_ (by first | (simp; done) | (simp; omega) | omega) _ | refine Below.drew ?_ | refine Below.trans ?_ (Below.mono (by assumption) (by first | (simp; done) | (simp; omega) | omega))))
            have l6_a : w.heap.size < w6.heap.size := by omega
            have a6_a : w6.cell? ⟨w.heap.size, 0, none⟩ = some (.int .i64 (an)) := cell_keep bb6 a5_a
            have c6_a : w6.cell? ⟨w.heap.size, 1, none⟩ = some (.int .i64 (ad)) := cell_keep bb6 c5_a
            have l6_b : w.heap.size + 1 < w6.heap.size := by omega
            have a6_b : w6.cell? ⟨w.heap.size + 1, 0, none⟩ = some (.int .i64 (bn)) := cell_keep bb6 a5_b
            have c6_b : w6.cell? ⟨w.heap.size + 1, 1, none⟩ = some (.int .i64 (bd)) := cell_keep bb6 c5_b
            have l6_c : w.heap.size + 1 + 1 < w6.heap.size := by omega
            have a6_c : w6.cell? ⟨w.heap.size + 1 + 1, 0, none⟩ = some (.int .i64 (cn)) := cell_keep bb6 a5_c
            have c6_c : w6.cell? ⟨w.heap.size + 1 + 1, 1, none⟩ = some (.int .i64 (cd)) := cell_keep bb6 c5_c
            have bx6 : Below w5.heap.size w5 w6 := hb6
            have be6 : Below w.heap.size w w6 := be5.trans (bb6.mono (by omega))
            clear hb6 bb6 be5 l5_a a5_a c5_a l5_b a5_b c5_b l5_c a5_c c5_c
            go_wp2_with fail
            refine (cmp_any bn bd cn cd _ (by omega) (by omega) (by omega) (by omega)).mono ?_
            rintro e w7 ⟨rfl, hb7⟩
            rw [HM.out]
            have hz7 := hb7.size
            (try simp at hz7)
            have bb7 : Below w6.heap.size w6 w7 := (by repeat (first | exact Below.refl _ _ | assumption | refine below_drewN ?_ _ | refine Below.setCell ?_ (by first | (simp; done) | (simp; omega)) _ | refine Below.alloc ?_ (by first | (simp; done) | (simp; omega) | omega) _ | refine Below.drew ?_ | refine Below.trans ?_ (Below.mono (by assumption) (by first | (simp; done) | (simp; omega) | omega))))
            have l7_a : w.heap.size < w7.heap.size := by omega
            have a7_a : w7.cell? ⟨w.heap.size, 0, none⟩ = some (.int .i64 (an)) := cell_keep bb7 a6_a
            have c7_a : w7.cell? ⟨w.heap.size, 1, none⟩ = some (.int .i64 (ad)) := cell_keep bb7 c6_a
            have l7_b : w.heap.size + 1 < w7.heap.size := by omega
            have a7_b : w7.cell? ⟨w.heap.size + 1, 0, none⟩ = some (.int .i64 (bn)) := cell_keep bb7 a6_b
            have c7_b : w7.cell? ⟨w.heap.size + 1, 1, none⟩ = some (.int .i64 (bd)) := cell_keep bb7 c6_b
            have l7_c : w.heap.size + 1 + 1 < w7.heap.size := by omega
            have a7_c : w7.cell? ⟨w.heap.size + 1 + 1, 0, none⟩ = some (.int .i64 (cn)) := cell_keep bb7 a6_c
            have c7_c : w7.cell? ⟨w.heap.size + 1 + 1, 1, none⟩ = some (.int .i64 (cd)) := cell_keep bb7 c6_c
            have bx7 : Below w5.heap.size w5 w7 := bx6.trans (bb7.mono (by omega))
            have be7 : Below w.heap.size w w7 := be6.trans (bb7.mono (by omega))
            clear hb7 bb7 be6 l6_a a6_a c6_a l6_b a6_b c6_b l6_c a6_c c6_c
            go_wp2_with fail
            refine (cmp_any an ad cn cd _ (by omega) (by omega) (by omega) (by omega)).mono ?_
            rintro e w8 ⟨rfl, hb8⟩
            rw [HJ.out]
            have hz8 := hb8.size
            (try simp at hz8)
            have bb8 : Below w7.heap.size w7 w8 := (by repeat (first | exact Below.refl _ _ | assumption | refine below_drewN ?_ _ | refine Below.setCell ?_ (by first | (simp; done) | (simp; omega)) _ | refine Below.alloc ?_ (by first | (simp; done) | (simp; omega) | omega) _ | refine Below.drew ?_ | refine Below.trans ?_ (Below.mono (by assumption) (by first | (simp; done) | (simp; omega) | omega))))
            have l8_a : w.heap.size < w8.heap.size := by omega
            have a8_a : w8.cell? ⟨w.heap.size, 0, none⟩ = some (.int .i64 (an)) := cell_keep bb8 a7_a
            have c8_a : w8.cell? ⟨w.heap.size, 1, none⟩ = some (.int .i64 (ad)) := cell_keep bb8 c7_a
            have l8_b : w.heap.size + 1 < w8.heap.size := by omega
            have a8_b : w8.cell? ⟨w.heap.size + 1, 0, none⟩ = some (.int .i64 (bn)) := cell_keep bb8 a7_b
            have c8_b : w8.cell? ⟨w.heap.size + 1, 1, none⟩ = some (.int .i64 (bd)) := cell_keep bb8 c7_b
            have l8_c : w.heap.size + 1 + 1 < w8.heap.size := by omega
            have a8_c : w8.cell? ⟨w.heap.size + 1 + 1, 0, none⟩ = some (.int .i64 (cn)) := cell_keep bb8 a7_c
            have c8_c : w8.cell? ⟨w.heap.size + 1 + 1, 1, none⟩ = some (.int .i64 (cd)) := cell_keep bb8 c7_c
            have bx8 : Below w5.heap.size w5 w8 := bx7.trans (bb8.mono (by omega))
            have be8 : Below w.heap.size w w8 := be7.trans (bb8.mono (by omega))
            clear hb8 bb8 be7 l7_a a7_a c7_a l7_b a7_b c7_b l7_c a7_c c7_c
            go_wp2
            go_meet
            exact ⟨by first | rfl | (simp; done) | (simp; omega), bx8⟩
          · go_wp2_with fail
            refine (cmp_any bn bd an ad _ (by omega) (by omega) (by omega) (by omega)).mono ?_
            rintro e w6 ⟨rfl, hb6⟩
            rw [HK2.out]
            have hz6 := hb6.size
            (try simp at hz6)
            have bb6 : Below w5.heap.size w5 w6 := (by repeat (first | exact Below.refl _ _ | assumption | refine below_drewN ?_ _ | refine Below.setCell ?_ (by first | (simp; done) | (simp; omega)) _ | refine Below.alloc ?_ (by first | (simp; done) | (simp; omega) | omega) _ | refine Below.drew ?_ | refine Below.trans ?_ (Below.mono (by assumption) (by first | (simp; done) | (simp; omega) | omega))))
            have l6_a : w.heap.size < w6.heap.size := by omega
            have a6_a : w6.cell? ⟨w.heap.size, 0, none⟩ = some (.int .i64 (an)) := cell_keep bb6 a5_a
            have c6_a : w6.cell? ⟨w.heap.size, 1, none⟩ = some (.int .i64 (ad)) := cell_keep bb6 c5_a
            have l6_b : w.heap.size + 1 < w6.heap.size := by omega
            have a6_b : w6.cell? ⟨w.heap.size + 1, 0, none⟩ = some (.int .i64 (bn)) := cell_keep bb6 a5_b
            have c6_b : w6.cell? ⟨w.heap.size + 1, 1, none⟩ = some (.int .i64 (bd)) := cell_keep bb6 c5_b
            have l6_c : w.heap.size + 1 + 1 < w6.heap.size := by omega
            have a6_c : w6.cell? ⟨w.heap.size + 1 + 1, 0, none⟩ = some (.int .i64 (cn)) := cell_keep bb6 a5_c
            have c6_c : w6.cell? ⟨w.heap.size + 1 + 1, 1, none⟩ = some (.int .i64 (cd)) := cell_keep bb6 c5_c
            have bx6 : Below w5.heap.size w5 w6 := hb6
            have be6 : Below w.heap.size w w6 := be5.trans (bb6.mono (by omega))
            clear hb6 bb6 be5 l5_a a5_a c5_a l5_b a5_b c5_b l5_c a5_c c5_c
            go_wp2_with fail
            refine (cmp_any bn bd cn cd _ (by omega) (by omega) (by omega) (by omega)).mono ?_
            rintro e w7 ⟨rfl, hb7⟩
            rw [HM.out]
            have hz7 := hb7.size
            (try simp at hz7)
            have bb7 : Below w6.heap.size w6 w7 := (by repeat (first | exact Below.refl _ _ | assumption | refine below_drewN ?_ _ | refine Below.setCell ?_ (by first | (simp; done) | (simp; omega)) _ | refine Below.alloc ?_ (by first | (simp; done) | (simp; omega) | omega) _ | refine Below.drew ?_ | refine Below.trans ?_ (Below.mono (by assumption) (by first | (simp; done) | (simp; omega) | omega))))
            have l7_a : w.heap.size < w7.heap.size := by omega
            have a7_a : w7.cell? ⟨w.heap.size, 0, none⟩ = some (.int .i64 (an)) := cell_keep bb7 a6_a
            have c7_a : w7.cell? ⟨w.heap.size, 1, none⟩ = some (.int .i64 (ad)) := cell_keep bb7 c6_a
            have l7_b : w.heap.size + 1 < w7.heap.size := by omega
            have a7_b : w7.cell? ⟨w.heap.size + 1, 0, none⟩ = some (.int .i64 (bn)) := cell_keep bb7 a6_b
            have c7_b : w7.cell? ⟨w.heap.size + 1, 1, none⟩ = some (.int .i64 (bd)) := cell_keep bb7 c6_b
            have l7_c : w.heap.size + 1 + 1 < w7.heap.size := by omega
            have a7_c : w7.cell? ⟨w.heap.size + 1 + 1, 0, none⟩ = some (.int .i64 (cn)) := cell_keep bb7 a6_c
            have c7_c : w7.cell? ⟨w.heap.size + 1 + 1, 1, none⟩ = some (.int .i64 (cd)) := cell_keep bb7 c6_c
            have bx7 : Below w5.heap.size w5 w7 := bx6.trans (bb7.mono (by omega))
            have be7 : Below w.heap.size w w7 := be6.trans (bb7.mono (by omega))
            clear hb7 bb7 be6 l6_a a6_a c6_a l6_b a6_b c6_b l6_c a6_c c6_c
            go_wp2
            go_meet
            exact ⟨by first | rfl | (simp; done) | (simp; omega), bx7⟩
        · go_wp2_with fail
          refine (cmp_any bn bd an ad _ (by omega) (by omega) (by omega) (by omega)).mono ?_
          rintro e w6 ⟨rfl, hb6⟩
          rw [HK2.out]
          have hz6 := hb6.size
          (try simp at hz6)
          have bb6 : Below w5.heap.size w5 w6 := (by repeat (first | exact Below.refl _ _ | assumption | refine below_drewN ?_ _ | refine Below.setCell ?_ (by first | (simp; done) | (simp; omega)) _ | refine Below.alloc ?_ (by first | (simp; done) | (simp; omega) | omega) _ | refine Below.drew ?_ | refine Below.trans ?_ (Below.mono (by assumption) (by first | (simp; done) | (simp; omega) | omega))))
          have l6_a : w.heap.size < w6.heap.size := by omega
          have a6_a : w6.cell? ⟨w.heap.size, 0, none⟩ = some (.int .i64 (an)) := cell_keep bb6 a5_a
          have c6_a : w6.cell? ⟨w.heap.size, 1, none⟩ = some (.int .i64 (ad)) := cell_keep bb6 c5_a
          have l6_b : w.heap.size + 1 < w6.heap.size := by omega
          have a6_b : w6.cell? ⟨w.heap.size + 1, 0, none⟩ = some (.int .i64 (bn)) := cell_keep bb6 a5_b
          have c6_b : w6.cell? ⟨w.heap.size + 1, 1, none⟩ = some (.int .i64 (bd)) := cell_keep bb6 c5_b
          have l6_c : w.heap.size + 1 + 1 < w6.heap.size := by omega
          have a6_c : w6.cell? ⟨w.heap.size + 1 + 1, 0, none⟩ = some (.int .i64 (cn)) := cell_keep bb6 a5_c
          have c6_c : w6.cell? ⟨w.heap.size + 1 + 1, 1, none⟩ = some (.int .i64 (cd)) := cell_keep bb6 c5_c
          have bx6 : Below w5.heap.size w5 w6 := hb6
          have be6 : Below w.heap.size w w6 := be5.trans (bb6.mono (by omega))
          clear hb6 bb6 be5 l5_a a5_a c5_a l5_b a5_b c5_b l5_c a5_c c5_c
          go_wp2
          go_meet
          exact ⟨by first | rfl | (simp; done) | (simp; omega), bx6⟩
  case rest =>
    obtain ⟨w6, rfl⟩ : ∃ W : World, W = wc := ⟨wc, rfl⟩
    obtain ⟨rfl, hb6⟩ := hcut
    have hz6 := hb6.size
    (try simp at hz6)
    have bb6 : Below w5.heap.size w5 w6 := (by repeat (first | exact Below.refl _ _ | assumption | refine below_drewN ?_ _ | refine Below.setCell ?_ (by first | (simp; done) | (simp; omega)) _ | refine Below.alloc ?_ (by first | (simp; done) | (simp; omega) | omega) _ | refine Below.drew ?_ | refine Below.trans ?_ (Below.mono (by assumption) (by first | (simp; done) | (simp; omega) | omega))))
    have l6_a : w.heap.size < w6.heap.size := by omega
    have a6_a : w6.cell? ⟨w.heap.size, 0, none⟩ = some (.int .i64 (an)) := cell_keep bb6 a5_a
    have c6_a : w6.cell? ⟨w.heap.size, 1, none⟩ = some (.int .i64 (ad)) := cell_keep bb6 c5_a
    have l6_b : w.heap.size + 1 < w6.heap.size := by omega
    have a6_b : w6.cell? ⟨w.heap.size + 1, 0, none⟩ = some (.int .i64 (bn)) := cell_keep bb6 a5_b
    have c6_b : w6.cell? ⟨w.heap.size + 1, 1, none⟩ = some (.int .i64 (bd)) := cell_keep bb6 c5_b
    have l6_c : w.heap.size + 1 + 1 < w6.heap.size := by omega
    have a6_c : w6.cell? ⟨w.heap.size + 1 + 1, 0, none⟩ = some (.int .i64 (cn)) := cell_keep bb6 a5_c
    have c6_c : w6.cell? ⟨w.heap.size + 1 + 1, 1, none⟩ = some (.int .i64 (cd)) := cell_keep bb6 c5_c
    have be6 : Below w.heap.size w w6 := be5.trans (bb6.mono (by omega))
    clear bb6 be5 l5_a a5_a c5_a l5_b a5_b c5_b l5_c a5_c c5_c
    go_wp2_with fail
    refine (add_any an ad cn cd _ (by omega) (by omega) (by omega) (by omega)).mono ?_
    rintro e w7 ⟨rfl, hb7⟩
    rw [HS.out]
    have hz7 := hb7.size
    (try simp at hz7)
    have bb7 : Below w6.heap.size w6 w7 := (by repeat (first | exact Below.refl _ _ | assumption | refine below_drewN ?_ _ | refine Below.setCell ?_ (by first | (simp; done) | (simp; omega)) _ | refine Below.alloc ?_ (by first | (simp; done) | (simp; omega) | omega) _ | refine Below.drew ?_ | refine Below.trans ?_ (Below.mono (by assumption) (by first | (simp; done) | (simp; omega) | omega))))
    have l7_a : w.heap.size < w7.heap.size := by omega
    have a7_a : w7.cell? ⟨w.heap.size, 0, none⟩ = some (.int .i64 (an)) := cell_keep bb7 a6_a
    have c7_a : w7.cell? ⟨w.heap.size, 1, none⟩ = some (.int .i64 (ad)) := cell_keep bb7 c6_a
    have l7_b : w.heap.size + 1 < w7.heap.size := by omega
    have a7_b : w7.cell? ⟨w.heap.size + 1, 0, none⟩ = some (.int .i64 (bn)) := cell_keep bb7 a6_b
    have c7_b : w7.cell? ⟨w.heap.size + 1, 1, none⟩ = some (.int .i64 (bd)) := cell_keep bb7 c6_b
    have l7_c : w.heap.size + 1 + 1 < w7.heap.size := by omega
    have a7_c : w7.cell? ⟨w.heap.size + 1 + 1, 0, none⟩ = some (.int .i64 (cn)) := cell_keep bb7 a6_c
    have c7_c : w7.cell? ⟨w.heap.size + 1 + 1, 1, none⟩ = some (.int .i64 (cd)) := cell_keep bb7 c6_c
    have be7 : Below w.heap.size w w7 := be6.trans (bb7.mono (by omega))
    clear hb7 bb7 be6 l6_a a6_a c6_a l6_b a6_b c6_b l6_c a6_c c6_c
    simp only [RV]
    go_wp2_with fail
    refine (add_any bn bd cn cd _ (by omega) (by omega) (by omega) (by omega)).mono ?_
    rintro e w8 ⟨rfl, hb8⟩
    rw [HT.out]
    have hz8 := hb8.size
    (try simp at hz8)
    have bb8 : Below w7.heap.size w7 w8 := (by repeat (first | exact Below.refl _ _ | assumption | refine below_drewN ?_ _ | refine Below.setCell ?_ (by first | (simp; done) | (simp; omega)) _ | refine Below.alloc ?_ (by first | (simp; done) | (simp; omega) | omega) _ | refine Below.drew ?_ | refine Below.trans ?_ (Below.mono (by assumption) (by first | (simp; done) | (simp; omega) | omega))))
    have l8_a : w.heap.size < w8.heap.size := by omega
    have a8_a : w8.cell? ⟨w.heap.size, 0, none⟩ = some (.int .i64 (an)) := cell_keep bb8 a7_a
    have c8_a : w8.cell? ⟨w.heap.size, 1, none⟩ = some (.int .i64 (ad)) := cell_keep bb8 c7_a
    have l8_b : w.heap.size + 1 < w8.heap.size := by omega
    have a8_b : w8.cell? ⟨w.heap.size + 1, 0, none⟩ = some (.int .i64 (bn)) := cell_keep bb8 a7_b
    have c8_b : w8.cell? ⟨w.heap.size + 1, 1, none⟩ = some (.int .i64 (bd)) := cell_keep bb8 c7_b
    have l8_c : w.heap.size + 1 + 1 < w8.heap.size := by omega
    have a8_c : w8.cell? ⟨w.heap.size + 1 + 1, 0, none⟩ = some (.int .i64 (cn)) := cell_keep bb8 a7_c
    have c8_c : w8.cell? ⟨w.heap.size + 1 + 1, 1, none⟩ = some (.int .i64 (cd)) := cell_keep bb8 c7_c
    have l8_s : w7.heap.size < w8.heap.size := by omega
    have a8_s : w8.cell? ⟨w7.heap.size, 0, none⟩ = some (.int .i64 (s1)) := cell_keep hb8 (by go_simp)
    have c8_s : w8.cell? ⟨w7.heap.size, 1, none⟩ = some (.int .i64 (s2)) := cell_keep hb8 (by go_simp)
    have f8_s0 : w8.frozen? ⟨w7.heap.size, 0, none⟩ = false := (hb8.frozen (p := ⟨w7.heap.size, 0, none⟩) (by first | (simp; done) | (simp; omega))).trans (by go_simp)
    have f8_s1 : w8.frozen? ⟨w7.heap.size, 1, none⟩ = false := (hb8.frozen (p := ⟨w7.heap.size, 1, none⟩) (by first | (simp; done) | (simp; omega))).trans (by go_simp)
    have be8 : Below w.heap.size w w8 := be7.trans (bb8.mono (by omega))
    clear hb8 bb8 be7 l7_a a7_a c7_a l7_b a7_b c7_b l7_c a7_c c7_c
    simp only [RV]
    go_upto_region 9 with fail
    go_cut [93] (fun s wx => s = .bool false ∧ Below (w8.alloc (.cells #[.int .i64 t1, .int .i64 t2] 23)).heap.size (w8.alloc (.cells #[.int .i64 t1, .int .i64 t2] 23)) wx)
    case first =>
      by_cases g1 : se = 0
      · have g11 : (se == 0) = true := by simp [g1]
        have g12 : (se != 0) = false := by simp [g1]
        by_cases g2 : te = 0
        · have g21 : (te == 0) = true := by simp [g2]
          have g22 : (te != 0) = false := by simp [g2]
          have g1H := Lib.hid g1
          clear g1
          have g2H := Lib.hid g2
          clear g2
          go_wp2_with fail
          refine (cmp_any s1 s2 t1 t2 _ (by omega) (by omega) (by omega) (by omega)).mono ?_
          rintro e w9 ⟨rfl, hb9⟩
          rw [HST.out g1H.out g2H.out]
          have hz9 := hb9.size
          (try simp at hz9)
          have bb9 : Below w8.heap.size w8 w9 := (by repeat (first | exact Below.refl _ _ | assumption | refine below_drewN ?_ _ | refine Below.setCell ?_ (by first | (simp; done) | (simp; omega)) _ | refine Below.alloc ?_ (by first | (simp; done) | (simp; omega) | omega) _ | refine Below.drew ?_ | refine Below.trans ?_ (Below.mono (by assumption) (by first | (simp; done) | (simp; omega) | omega))))
          have l9_a : w.heap.size < w9.heap.size := by omega
          have a9_a : w9.cell? ⟨w.heap.size, 0, none⟩ = some (.int .i64 (an)) := cell_keep bb9 a8_a
          have c9_a : w9.cell? ⟨w.heap.size, 1, none⟩ = some (.int .i64 (ad)) := cell_keep bb9 c8_a
          have l9_b : w.heap.size + 1 < w9.heap.size := by omega
          have a9_b : w9.cell? ⟨w.heap.size + 1, 0, none⟩ = some (.int .i64 (bn)) := cell_keep bb9 a8_b
          have c9_b : w9.cell? ⟨w.heap.size + 1, 1, none⟩ = some (.int .i64 (bd)) := cell_keep bb9 c8_b
          have l9_c : w.heap.size + 1 + 1 < w9.heap.size := by omega
          have a9_c : w9.cell? ⟨w.heap.size + 1 + 1, 0, none⟩ = some (.int .i64 (cn)) := cell_keep bb9 a8_c
          have c9_c : w9.cell? ⟨w.heap.size + 1 + 1, 1, none⟩ = some (.int .i64 (cd)) := cell_keep bb9 c8_c
          have l9_s : w7.heap.size < w9.heap.size := by omega
          have a9_s : w9.cell? ⟨w7.heap.size, 0, none⟩ = some (.int .i64 (s1)) := cell_keep bb9 a8_s
          have c9_s : w9.cell? ⟨w7.heap.size, 1, none⟩ = some (.int .i64 (s2)) := cell_keep bb9 c8_s
          have f9_s0 : w9.frozen? ⟨w7.heap.size, 0, none⟩ = false := (bb9.frozen (p := ⟨w7.heap.size, 0, none⟩) l8_s).trans f8_s0
          have f9_s1 : w9.frozen? ⟨w7.heap.size, 1, none⟩ = false := (bb9.frozen (p := ⟨w7.heap.size, 1, none⟩) l8_s).trans f8_s1
          have l9_t : w8.heap.size < w9.heap.size := by omega
          have a9_t : w9.cell? ⟨w8.heap.size, 0, none⟩ = some (.int .i64 (t1)) := cell_keep hb9 (by go_simp)
          have c9_t : w9.cell? ⟨w8.heap.size, 1, none⟩ = some (.int .i64 (t2)) := cell_keep hb9 (by go_simp)
          have f9_t0 : w9.frozen? ⟨w8.heap.size, 0, none⟩ = false := (hb9.frozen (p := ⟨w8.heap.size, 0, none⟩) (by first | (simp; done) | (simp; omega))).trans (by go_simp)
          have f9_t1 : w9.frozen? ⟨w8.heap.size, 1, none⟩ = false := (hb9.frozen (p := ⟨w8.heap.size, 1, none⟩) (by first | (simp; done) | (simp; omega))).trans (by go_simp)
          have bx9 : Below (w8.alloc (.cells #[.int .i64 t1, .int .i64 t2] 23)).heap.size (w8.alloc (.cells #[.int .i64 t1, .int .i64 t2] 23)) w9 := hb9
          have be9 : Below w.heap.size w w9 := be8.trans (bb9.mono (by omega))
          clear hb9 bb9 be8 l8_a a8_a c8_a l8_b a8_b c8_b l8_c a8_c c8_c l8_s a8_s c8_s f8_s0 f8_s1
          go_wp2
          go_meet
          exact ⟨by first | rfl | (simp; done) | (simp; omega), bx9⟩
        · have g21 : (te == 0) = false := by simpa using g2
          have g22 : (te != 0) = true := by simpa using g2
          have g1H := Lib.hid g1
          clear g1
          go_wp2
          go_meet
          exact ⟨by first | rfl | (simp; done) | (simp; omega), Below.refl _ _⟩
      · have g11 : (se == 0) = false := by simpa using g1
        have g12 : (se != 0) = true := by simpa using g1
        go_wp2
        go_meet
        exact ⟨by first | rfl | (simp; done) | (simp; omega), Below.refl _ _⟩
    case rest =>
      obtain ⟨w9, rfl⟩ : ∃ W : World, W = wc := ⟨wc, rfl⟩
      obtain ⟨rfl, hb9⟩ := hcut
      have hz9 := hb9.size
      (try simp at hz9)
      have bb9 : Below w8.heap.size w8 w9 := (by repeat (first | exact Below.refl _ _ | assumption | refine below_drewN ?_ _ | refine Below.setCell ?_ (by first | (simp; done) | (simp; omega)) _ | refine Below.alloc ?_ (by first | (simp; done) | (simp; omega) | omega) _ | refine Below.drew ?_ | refine Below.trans ?_ (Below.mono (by assumption) (by first | (simp; done) | (simp; omega) | omega))))
      have l9_a : w.heap.size < w9.heap.size := by omega
      have a9_a : w9.cell? ⟨w.heap.size, 0, none⟩ = some (.int .i64 (an)) := cell_keep bb9 a8_a
      have c9_a : w9.cell? ⟨w.heap.size, 1, none⟩ = some (.int .i64 (ad)) := cell_keep bb9 c8_a
      have l9_b : w.heap.size + 1 < w9.heap.size := by omega
      have a9_b : w9.cell? ⟨w.heap.size + 1, 0, none⟩ = some (.int .i64 (bn)) := cell_keep bb9 a8_b
      have c9_b : w9.cell? ⟨w.heap.size + 1, 1, none⟩ = some (.int .i64 (bd)) := cell_keep bb9 c8_b
      have l9_c : w.heap.size + 1 + 1 < w9.heap.size := by omega
      have a9_c : w9.cell? ⟨w.heap.size + 1 + 1, 0, none⟩ = some (.int .i64 (cn)) := cell_keep bb9 a8_c
      have c9_c : w9.cell? ⟨w.heap.size + 1 + 1, 1, none⟩ = some (.int .i64 (cd)) := cell_keep bb9 c8_c
      have l9_s : w7.heap.size < w9.heap.size := by omega
      have a9_s : w9.cell? ⟨w7.heap.size, 0, none⟩ = some (.int .i64 (s1)) := cell_keep bb9 a8_s
      have c9_s : w9.cell? ⟨w7.heap.size, 1, none⟩ = some (.int .i64 (s2)) := cell_keep bb9 c8_s
      have f9_s0 : w9.frozen? ⟨w7.heap.size, 0, none⟩ = false := (bb9.frozen (p := ⟨w7.heap.size, 0, none⟩) l8_s).trans f8_s0
      have f9_s1 : w9.frozen? ⟨w7.heap.size, 1, none⟩ = false := (bb9.frozen (p := ⟨w7.heap.size, 1, none⟩) l8_s).trans f8_s1
      have l9_t : w8.heap.size < w9.heap.size := by omega
      have a9_t : w9.cell? ⟨w8.heap.size, 0, none⟩ = some (.int .i64 (t1)) := cell_keep hb9 (by go_simp)
      have c9_t : w9.cell? ⟨w8.heap.size, 1, none⟩ = some (.int .i64 (t2)) := cell_keep hb9 (by go_simp)
      have f9_t0 : w9.frozen? ⟨w8.heap.size, 0, none⟩ = false := (hb9.frozen (p := ⟨w8.heap.size, 0, none⟩) (by first | (simp; done) | (simp; omega))).trans (by go_simp)
      have f9_t1 : w9.frozen? ⟨w8.heap.size, 1, none⟩ = false := (hb9.frozen (p := ⟨w8.heap.size, 1, none⟩) (by first | (simp; done) | (simp; omega))).trans (by go_simp)
      have be9 : Below w.heap.size w w9 := be8.trans (bb9.mono (by omega))
      clear bb9 be8 l8_a a8_a c8_a l8_b a8_b c8_b l8_c a8_c c8_c l8_s a8_s c8_s f8_s0 f8_s1
      go_wp2_with fail
      refine (mul_any an ad cn cd _ (by omega) (by omega) (by omega) (by omega)).mono ?_
      rintro e w10 ⟨rfl, hb10⟩
      rw [HP.out]
      have hz10 := hb10.size
      (try simp at hz10)
      have bb10 : Below w9.heap.size w9 w10 := (by repeat (first | exact Below.refl _ _ | assumption | refine below_drewN ?_ _ | refine Below.setCell ?_ (by first | (simp; done) | (simp; omega)) _ | refine Below.alloc ?_ (by first | (simp; done) | (simp; omega) | omega) _ | refine Below.drew ?_ | refine Below.trans ?_ (Below.mono (by assumption) (by first | (simp; done) | (simp; omega) | omega))))
      have l10_a : w.heap.size < w10.heap.size := by omega
      have a10_a : w10.cell? ⟨w.heap.size, 0, none⟩ = some (.int .i64 (an)) := cell_keep bb10 a9_a
      have c10_a : w10.cell? ⟨w.heap.size, 1, none⟩ = some (.int .i64 (ad)) := cell_keep bb10 c9_a
      have l10_b : w.heap.size + 1 < w10.heap.size := by omega
      have a10_b : w10.cell? ⟨w.heap.size + 1, 0, none⟩ = some (.int .i64 (bn)) := cell_keep bb10 a9_b
      have c10_b : w10.cell? ⟨w.heap.size + 1, 1, none⟩ = some (.int .i64 (bd)) := cell_keep bb10 c9_b
      have l10_c : w.heap.size + 1 + 1 < w10.heap.size := by omega
      have a10_c : w10.cell? ⟨w.heap.size + 1 + 1, 0, none⟩ = some (.int .i64 (cn)) := cell_keep bb10 a9_c
      have c10_c : w10.cell? ⟨w.heap.size + 1 + 1, 1, none⟩ = some (.int .i64 (cd)) := cell_keep bb10 c9_c
      have l10_s : w7.heap.size < w10.heap.size := by omega
      have a10_s : w10.cell? ⟨w7.heap.size, 0, none⟩ = some (.int .i64 (s1)) := cell_keep bb10 a9_s
      have c10_s : w10.cell? ⟨w7.heap.size, 1, none⟩ = some (.int .i64 (s2)) := cell_keep bb10 c9_s
      have f10_s0 : w10.frozen? ⟨w7.heap.size, 0, none⟩ = false := (bb10.frozen (p := ⟨w7.heap.size, 0, none⟩) l9_s).trans f9_s0
      have f10_s1 : w10.frozen? ⟨w7.heap.size, 1, none⟩ = false := (bb10.frozen (p := ⟨w7.heap.size, 1, none⟩) l9_s).trans f9_s1
      have l10_t : w8.heap.size < w10.heap.size := by omega
      have a10_t : w10.cell? ⟨w8.heap.size, 0, none⟩ = some (.int .i64 (t1)) := cell_keep bb10 a9_t
      have c10_t : w10.cell? ⟨w8.heap.size, 1, none⟩ = some (.int .i64 (t2)) := cell_keep bb10 c9_t
      have f10_t0 : w10.frozen? ⟨w8.heap.size, 0, none⟩ = false := (bb10.frozen (p := ⟨w8.heap.size, 0, none⟩) l9_t).trans f9_t0
      have f10_t1 : w10.frozen? ⟨w8.heap.size, 1, none⟩ = false := (bb10.frozen (p := ⟨w8.heap.size, 1, none⟩) l9_t).trans f9_t1
      have be10 : Below w.heap.size w w10 := be9.trans (bb10.mono (by omega))
      clear hb10 bb10 be9 l9_a a9_a c9_a l9_b a9_b c9_b l9_c a9_c c9_c l9_s a9_s c9_s f9_s0 f9_s1 l9_t a9_t c9_t f9_t0 f9_t1
      simp only [RV]
      have ne_b_s : ¬ w.heap.size + 1 = w7.heap.size := by omega
      have en_b_s : ¬ w7.heap.size = w.heap.size + 1 := by omega
      have ne_c_s : ¬ w.heap.size + 1 + 1 = w7.heap.size := by omega
      have en_c_s : ¬ w7.heap.size = w.heap.size + 1 + 1 := by omega
      have ne_t_s : ¬ w8.heap.size = w7.heap.size := by omega
      have en_t_s : ¬ w7.heap.size = w8.heap.size := by omega
      go_wp2_with fail
      refine (mul_any bn bd cn cd _ (by omega) (by omega) (by omega) (by omega)).mono ?_
      rintro e w11 ⟨rfl, hb11⟩
      rw [HQ.out]
      have hz11 := hb11.size
      (try simp at hz11)
      have l11_c : w.heap.size + 1 + 1 < w11.heap.size := by omega
      have a11_c : w11.cell? ⟨w.heap.size + 1 + 1, 0, none⟩ = some (.int .i64 (cn)) := cell_keep hb11 (by go_simp)
      have c11_c : w11.cell? ⟨w.heap.size + 1 + 1, 1, none⟩ = some (.int .i64 (cd)) := cell_keep hb11 (by go_simp)
      have l11_s : w7.heap.size < w11.heap.size := by omega
      have a11_s : w11.cell? ⟨w7.heap.size, 0, none⟩ = some (.int .i64 (p1)) := cell_keep hb11 (by go_simp)
      have c11_s : w11.cell? ⟨w7.heap.size, 1, none⟩ = some (.int .i64 (p2)) := cell_keep hb11 (by go_simp)
      have f11_s0 : w11.frozen? ⟨w7.heap.size, 0, none⟩ = false := (hb11.frozen (p := ⟨w7.heap.size, 0, none⟩) (by first | (simp; done) | (simp; omega))).trans (by go_simp)
      have f11_s1 : w11.frozen? ⟨w7.heap.size, 1, none⟩ = false := (hb11.frozen (p := ⟨w7.heap.size, 1, none⟩) (by first | (simp; done) | (simp; omega))).trans (by go_simp)
      have l11_t : w8.heap.size < w11.heap.size := by omega
      have a11_t : w11.cell? ⟨w8.heap.size, 0, none⟩ = some (.int .i64 (t1)) := cell_keep hb11 (by go_simp)
      have c11_t : w11.cell? ⟨w8.heap.size, 1, none⟩ = some (.int .i64 (t2)) := cell_keep hb11 (by go_simp)
      have f11_t0 : w11.frozen? ⟨w8.heap.size, 0, none⟩ = false := (hb11.frozen (p := ⟨w8.heap.size, 0, none⟩) (by first | (simp; done) | (simp; omega))).trans (by go_simp)
      have f11_t1 : w11.frozen? ⟨w8.heap.size, 1, none⟩ = false := (hb11.frozen (p := ⟨w8.heap.size, 1, none⟩) (by first | (simp; done) | (simp; omega))).trans (by go_simp)
      have be11 : Below w.heap.size w w11 := (by repeat (first | exact Below.refl _ _ | assumption | refine below_drewN ?_ _ | refine Below.setCell ?_ (by first | (simp; done) | (simp; omega)) _ | refine Below.alloc ?_ (by first | (simp; done) | (simp; omega) | omega) _ | refine Below.drew ?_ | refine Below.trans ?_ (Below.mono (by assumption) (by first | (simp; done) | (simp; omega) | omega))))
      clear hb11 be10 l10_a a10_a c10_a l10_b a10_b c10_b l10_c a10_c c10_c l10_s a10_s c10_s f10_s0 f10_s1 l10_t a10_t c10_t f10_t0 f10_t1
      simp only [RV]
      have ne_c_t : ¬ w.heap.size + 1 + 1 = w8.heap.size := by omega
      have en_c_t : ¬ w8.heap.size = w.heap.size + 1 + 1 := by omega
      have ne_s_t : ¬ w7.heap.size = w8.heap.size := by omega
      have en_s_t : ¬ w8.heap.size = w7.heap.size := by omega
      by_cases g4 : 0 < cn
      · by_cases g5 : pe = 0
        · have g51 : (pe == 0) = true := by simp [g5]
          have g52 : (pe != 0) = false := by simp [g5]
          by_cases g6 : qe = 0
          · have g61 : (qe == 0) = true := by simp [g6]
            have g62 : (qe != 0) = false := by simp [g6]
            have g5H := Lib.hid g5
            clear g5
            have g6H := Lib.hid g6
            clear g6
            go_wp2_with fail
            refine (cmp_any p1 p2 q1 q2 _ (by omega) (by omega) (by omega) (by omega)).mono ?_
            rintro e w12 ⟨rfl, hb12⟩
            rw [HPQ.out g5H.out g6H.out g4]
            have hz12 := hb12.size
            (try simp at hz12)
            have l12_c : w.heap.size + 1 + 1 < w12.heap.size := by omega
            have a12_c : w12.cell? ⟨w.heap.size + 1 + 1, 0, none⟩ = some (.int .i64 (cn)) := cell_keep hb12 (by go_simp)
            have c12_c : w12.cell? ⟨w.heap.size + 1 + 1, 1, none⟩ = some (.int .i64 (cd)) := cell_keep hb12 (by go_simp)
            have l12_s : w7.heap.size < w12.heap.size := by omega
            have a12_s : w12.cell? ⟨w7.heap.size, 0, none⟩ = some (.int .i64 (p1)) := cell_keep hb12 (by go_simp)
            have c12_s : w12.cell? ⟨w7.heap.size, 1, none⟩ = some (.int .i64 (p2)) := cell_keep hb12 (by go_simp)
            have f12_s0 : w12.frozen? ⟨w7.heap.size, 0, none⟩ = false := (hb12.frozen (p := ⟨w7.heap.size, 0, none⟩) (by first | (simp; done) | (simp; omega))).trans (by go_simp)
            have f12_s1 : w12.frozen? ⟨w7.heap.size, 1, none⟩ = false := (hb12.frozen (p := ⟨w7.heap.size, 1, none⟩) (by first | (simp; done) | (simp; omega))).trans (by go_simp)
            have l12_t : w8.heap.size < w12.heap.size := by omega
            have a12_t : w12.cell? ⟨w8.heap.size, 0, none⟩ = some (.int .i64 (q1)) := cell_keep hb12 (by go_simp)
            have c12_t : w12.cell? ⟨w8.heap.size, 1, none⟩ = some (.int .i64 (q2)) := cell_keep hb12 (by go_simp)
            have f12_t0 : w12.frozen? ⟨w8.heap.size, 0, none⟩ = false := (hb12.frozen (p := ⟨w8.heap.size, 0, none⟩) (by first | (simp; done) | (simp; omega))).trans (by go_simp)
            have f12_t1 : w12.frozen? ⟨w8.heap.size, 1, none⟩ = false := (hb12.frozen (p := ⟨w8.heap.size, 1, none⟩) (by first | (simp; done) | (simp; omega))).trans (by go_simp)
            have be12 : Below w.heap.size w w12 := (by repeat (first | exact Below.refl _ _ | assumption | refine below_drewN ?_ _ | refine Below.setCell ?_ (by first | (simp; done) | (simp; omega)) _ | refine Below.alloc ?_ (by first | (simp; done) | (simp; omega) | omega) _ | refine Below.drew ?_ | refine Below.trans ?_ (Below.mono (by assumption) (by first | (simp; done) | (simp; omega) | omega))))
            clear hb12 be11 l11_c a11_c c11_c l11_s a11_s c11_s f11_s0 f11_s1 l11_t a11_t c11_t f11_t0 f11_t1
            go_wp2
            go_ret
            exact ⟨rfl, (by repeat (first | exact Below.refl _ _ | assumption | refine below_drewN ?_ _ | refine Below.setCell ?_ (by first | (simp; done) | (simp; omega)) _ | refine Below.alloc ?_ (by first | (simp; done) | (simp; omega) | omega) _ | refine Below.drew ?_ | refine Below.trans ?_ (Below.mono (by assumption) (by first | (simp; done) | (simp; omega) | omega))))⟩
          · have g61 : (qe == 0) = false := by simpa using g6
            have g62 : (qe != 0) = true := by simpa using g6
            have g5H := Lib.hid g5
            clear g5
            go_wp2
            go_ret
            exact ⟨rfl, (by repeat (first | exact Below.refl _ _ | assumption | refine below_drewN ?_ _ | refine Below.setCell ?_ (by first | (simp; done) | (simp; omega)) _ | refine Below.alloc ?_ (by first | (simp; done) | (simp; omega) | omega) _ | refine Below.drew ?_ | refine Below.trans ?_ (Below.mono (by assumption) (by first | (simp; done) | (simp; omega) | omega))))⟩
        · have g51 : (pe == 0) = false := by simpa using g5
          have g52 : (pe != 0) = true := by simpa using g5
          go_wp2
          go_ret
          exact ⟨rfl, (by repeat (first | exact Below.refl _ _ | assumption | refine below_drewN ?_ _ | refine Below.setCell ?_ (by first | (simp; done) | (simp; omega)) _ | refine Below.alloc ?_ (by first | (simp; done) | (simp; omega) | omega) _ | refine Below.drew ?_ | refine Below.trans ?_ (Below.mono (by assumption) (by first | (simp; done) | (simp; omega) | omega))))⟩
      · go_wp2
        go_ret
        exact ⟨rfl, (by repeat (first | exact Below.refl _ _ | assumption | refine below_drewN ?_ _ | refine Below.setCell ?_ (by first | (simp; done) | (simp; omega)) _ | refine Below.alloc ?_ (by first | (simp; done) | (simp; omega) | omega) _ | refine Below.drew ?_ | refine Below.trans ?_ (Below.mono (by assumption) (by first | (simp; done) | (simp; omega) | omega))))⟩
end Go.Proofs.YtnfbagihbgmpfaaDoor

/- RatioExact: the walk of the law. -/
import Derived.Test.YtnfbagihbgmpfaaDoorRtK
namespace Go.Proofs.YtnfbagihbgmpfaaDoor
open Go.RowKit

theorem max_if (x y : Int) : (if y > x then y else x) = max x y := by omega
@[go_sem] theorem run_max_int4 {P : Program} {w : World} (ts : Array TypeId) (t : TypeId) (k k' k'' l : IntKind) (x y z u : Int) : (Builtin.max_ ts t #[.int k x, .int k' y, .int k'' z, .int l u]).run P w = .ok (.int k (max (max (max x y) z) u)) w := by
  simp only [← max_if]
  simp [Builtin.max_, Builtin.max2]
set_option maxRecDepth 100000 in
set_option maxHeartbeats 4000000 in
theorem ex_a (an ad bn bd : Int) (w : World) (hE : Env w) (ka1 : -9223372036854775808 ≤ an) (ka2 : an ≤ 9223372036854775807) (ha : ¬ Rt.Ok an ad) :
    Calls Tryd.prog 10 #[.agg #[.int .i64 an, .int .i64 ad], .agg #[.int .i64 bn, .int .i64 bd]] w fun e w' => e = .returned (.bool true) ∧ Below w.heap.size w w' := by
  have HE := Lib.hid hE
  clear hE
  have HA := Lib.hid ha
  clear ha
  go_enter Tryd.func10, Tryd.ntmps10
  go_wp2_with fail
  refine (head_any _ (HE.out.below (by repeat (first | exact Below.refl _ _ | assumption | refine below_drewN ?_ _ | refine Below.setCell ?_ (by first | (simp; done) | (simp; omega)) _ | refine Below.alloc ?_ (by first | (simp; done) | (simp; omega) | omega) _ | refine Below.drew ?_ | refine Below.trans ?_ (Below.mono (by assumption) (by first | (simp; done) | (simp; omega) | omega)))))).mono ?_
  rintro e w1 ⟨rfl, hb1⟩
  have hz1 := hb1.size
  (try simp at hz1)
  have l1_a : w.heap.size < w1.heap.size := by omega
  have a1_a : w1.cell? ⟨w.heap.size, 0, none⟩ = some (.int .i64 (an)) := cell_keep hb1 (by go_simp)
  have c1_a : w1.cell? ⟨w.heap.size, 1, none⟩ = some (.int .i64 (ad)) := cell_keep hb1 (by go_simp)
  have l1_b : w.heap.size + 1 < w1.heap.size := by omega
  have a1_b : w1.cell? ⟨w.heap.size + 1, 0, none⟩ = some (.int .i64 (bn)) := cell_keep hb1 (by go_simp)
  have c1_b : w1.cell? ⟨w.heap.size + 1, 1, none⟩ = some (.int .i64 (bd)) := cell_keep hb1 (by go_simp)
  have be1 : Below w.heap.size w w1 := (by repeat (first | exact Below.refl _ _ | assumption | refine below_drewN ?_ _ | refine Below.setCell ?_ (by first | (simp; done) | (simp; omega)) _ | refine Below.alloc ?_ (by first | (simp; done) | (simp; omega) | omega) _ | refine Below.drew ?_ | refine Below.trans ?_ (Below.mono (by assumption) (by first | (simp; done) | (simp; omega) | omega))))
  clear hb1
  go_wp2_with fail
  refine (valid_false _ _ _ ka1 ka2 HA.out).mono ?_
  rintro e w2 ⟨rfl, hb2⟩
  have hz2 := hb2.size
  (try simp at hz2)
  have bb2 : Below w1.heap.size w1 w2 := (by repeat (first | exact Below.refl _ _ | assumption | refine below_drewN ?_ _ | refine Below.setCell ?_ (by first | (simp; done) | (simp; omega)) _ | refine Below.alloc ?_ (by first | (simp; done) | (simp; omega) | omega) _ | refine Below.drew ?_ | refine Below.trans ?_ (Below.mono (by assumption) (by first | (simp; done) | (simp; omega) | omega))))
  have l2_a : w.heap.size < w2.heap.size := by omega
  have a2_a : w2.cell? ⟨w.heap.size, 0, none⟩ = some (.int .i64 (an)) := cell_keep bb2 a1_a
  have c2_a : w2.cell? ⟨w.heap.size, 1, none⟩ = some (.int .i64 (ad)) := cell_keep bb2 c1_a
  have l2_b : w.heap.size + 1 < w2.heap.size := by omega
  have a2_b : w2.cell? ⟨w.heap.size + 1, 0, none⟩ = some (.int .i64 (bn)) := cell_keep bb2 a1_b
  have c2_b : w2.cell? ⟨w.heap.size + 1, 1, none⟩ = some (.int .i64 (bd)) := cell_keep bb2 c1_b
  have be2 : Below w.heap.size w w2 := (by repeat (first | exact Below.refl _ _ | assumption | refine below_drewN ?_ _ | refine Below.setCell ?_ (by first | (simp; done) | (simp; omega)) _ | refine Below.alloc ?_ (by first | (simp; done) | (simp; omega) | omega) _ | refine Below.drew ?_ | refine Below.trans ?_ (Below.mono (by assumption) (by first | (simp; done) | (simp; omega) | omega))))
  clear hb2 bb2 be1 l1_a a1_a c1_a l1_b a1_b c1_b
  go_wp2
  go_ret
  exact ⟨rfl, (by repeat (first | exact Below.refl _ _ | assumption | refine below_drewN ?_ _ | refine Below.setCell ?_ (by first | (simp; done) | (simp; omega)) _ | refine Below.alloc ?_ (by first | (simp; done) | (simp; omega) | omega) _ | refine Below.drew ?_ | refine Below.trans ?_ (Below.mono (by assumption) (by first | (simp; done) | (simp; omega) | omega))))⟩
set_option maxRecDepth 100000 in
set_option maxHeartbeats 4000000 in
theorem ex_b (an ad bn bd : Int) (w : World) (hE : Env w) (kb1 : -9223372036854775808 ≤ bn) (kb2 : bn ≤ 9223372036854775807) (ha : Rt.Ok an ad) (hb : ¬ Rt.Ok bn bd) :
    Calls Tryd.prog 10 #[.agg #[.int .i64 an, .int .i64 ad], .agg #[.int .i64 bn, .int .i64 bd]] w fun e w' => e = .returned (.bool true) ∧ Below w.heap.size w w' := by
  have HE := Lib.hid hE
  clear hE
  have HA := Lib.hid ha
  have HB := Lib.hid hb
  clear ha hb
  go_enter Tryd.func10, Tryd.ntmps10
  go_wp2_with fail
  refine (head_any _ (HE.out.below (by repeat (first | exact Below.refl _ _ | assumption | refine below_drewN ?_ _ | refine Below.setCell ?_ (by first | (simp; done) | (simp; omega)) _ | refine Below.alloc ?_ (by first | (simp; done) | (simp; omega) | omega) _ | refine Below.drew ?_ | refine Below.trans ?_ (Below.mono (by assumption) (by first | (simp; done) | (simp; omega) | omega)))))).mono ?_
  rintro e w1 ⟨rfl, hb1⟩
  have hz1 := hb1.size
  (try simp at hz1)
  have l1_a : w.heap.size < w1.heap.size := by omega
  have a1_a : w1.cell? ⟨w.heap.size, 0, none⟩ = some (.int .i64 (an)) := cell_keep hb1 (by go_simp)
  have c1_a : w1.cell? ⟨w.heap.size, 1, none⟩ = some (.int .i64 (ad)) := cell_keep hb1 (by go_simp)
  have l1_b : w.heap.size + 1 < w1.heap.size := by omega
  have a1_b : w1.cell? ⟨w.heap.size + 1, 0, none⟩ = some (.int .i64 (bn)) := cell_keep hb1 (by go_simp)
  have c1_b : w1.cell? ⟨w.heap.size + 1, 1, none⟩ = some (.int .i64 (bd)) := cell_keep hb1 (by go_simp)
  have be1 : Below w.heap.size w w1 := (by repeat (first | exact Below.refl _ _ | assumption | refine below_drewN ?_ _ | refine Below.setCell ?_ (by first | (simp; done) | (simp; omega)) _ | refine Below.alloc ?_ (by first | (simp; done) | (simp; omega) | omega) _ | refine Below.drew ?_ | refine Below.trans ?_ (Below.mono (by assumption) (by first | (simp; done) | (simp; omega) | omega))))
  clear hb1
  go_wp2_with fail
  refine (valid_true _ _ _ HA.out).mono ?_
  rintro e w2 ⟨rfl, hb2⟩
  have hz2 := hb2.size
  (try simp at hz2)
  have bb2 : Below w1.heap.size w1 w2 := (by repeat (first | exact Below.refl _ _ | assumption | refine below_drewN ?_ _ | refine Below.setCell ?_ (by first | (simp; done) | (simp; omega)) _ | refine Below.alloc ?_ (by first | (simp; done) | (simp; omega) | omega) _ | refine Below.drew ?_ | refine Below.trans ?_ (Below.mono (by assumption) (by first | (simp; done) | (simp; omega) | omega))))
  have l2_a : w.heap.size < w2.heap.size := by omega
  have a2_a : w2.cell? ⟨w.heap.size, 0, none⟩ = some (.int .i64 (an)) := cell_keep bb2 a1_a
  have c2_a : w2.cell? ⟨w.heap.size, 1, none⟩ = some (.int .i64 (ad)) := cell_keep bb2 c1_a
  have l2_b : w.heap.size + 1 < w2.heap.size := by omega
  have a2_b : w2.cell? ⟨w.heap.size + 1, 0, none⟩ = some (.int .i64 (bn)) := cell_keep bb2 a1_b
  have c2_b : w2.cell? ⟨w.heap.size + 1, 1, none⟩ = some (.int .i64 (bd)) := cell_keep bb2 c1_b
  have be2 : Below w.heap.size w w2 := (by repeat (first | exact Below.refl _ _ | assumption | refine below_drewN ?_ _ | refine Below.setCell ?_ (by first | (simp; done) | (simp; omega)) _ | refine Below.alloc ?_ (by first | (simp; done) | (simp; omega) | omega) _ | refine Below.drew ?_ | refine Below.trans ?_ (Below.mono (by assumption) (by first | (simp; done) | (simp; omega) | omega))))
  clear hb2 bb2 be1 l1_a a1_a c1_a l1_b a1_b c1_b
  go_wp2_with fail
  refine (valid_false _ _ _ kb1 kb2 HB.out).mono ?_
  rintro e w3 ⟨rfl, hb3⟩
  have hz3 := hb3.size
  (try simp at hz3)
  have bb3 : Below w2.heap.size w2 w3 := (by repeat (first | exact Below.refl _ _ | assumption | refine below_drewN ?_ _ | refine Below.setCell ?_ (by first | (simp; done) | (simp; omega)) _ | refine Below.alloc ?_ (by first | (simp; done) | (simp; omega) | omega) _ | refine Below.drew ?_ | refine Below.trans ?_ (Below.mono (by assumption) (by first | (simp; done) | (simp; omega) | omega))))
  have l3_a : w.heap.size < w3.heap.size := by omega
  have a3_a : w3.cell? ⟨w.heap.size, 0, none⟩ = some (.int .i64 (an)) := cell_keep bb3 a2_a
  have c3_a : w3.cell? ⟨w.heap.size, 1, none⟩ = some (.int .i64 (ad)) := cell_keep bb3 c2_a
  have l3_b : w.heap.size + 1 < w3.heap.size := by omega
  have a3_b : w3.cell? ⟨w.heap.size + 1, 0, none⟩ = some (.int .i64 (bn)) := cell_keep bb3 a2_b
  have c3_b : w3.cell? ⟨w.heap.size + 1, 1, none⟩ = some (.int .i64 (bd)) := cell_keep bb3 c2_b
  have be3 : Below w.heap.size w w3 := (by repeat (first | exact Below.refl _ _ | assumption | refine below_drewN ?_ _ | refine Below.setCell ?_ (by first | (simp; done) | (simp; omega)) _ | refine Below.alloc ?_ (by first | (simp; done) | (simp; omega) | omega) _ | refine Below.drew ?_ | refine Below.trans ?_ (Below.mono (by assumption) (by first | (simp; done) | (simp; omega) | omega))))
  clear hb3 bb3 be2 l2_a a2_a c2_a l2_b a2_b c2_b
  go_wp2
  go_ret
  exact ⟨rfl, (by repeat (first | exact Below.refl _ _ | assumption | refine below_drewN ?_ _ | refine Below.setCell ?_ (by first | (simp; done) | (simp; omega)) _ | refine Below.alloc ?_ (by first | (simp; done) | (simp; omega) | omega) _ | refine Below.drew ?_ | refine Below.trans ?_ (Below.mono (by assumption) (by first | (simp; done) | (simp; omega) | omega))))⟩
set_option maxRecDepth 100000 in
set_option maxHeartbeats 4000000 in
theorem ex_mn (an ad bn bd : Int) (w : World) (hE : Env w) (ha : Rt.Ok an ad) (hb : Rt.Ok bn bd) (h : 1000 < max (max (max an (-an)) bn) (-bn)) :
    Calls Tryd.prog 10 #[.agg #[.int .i64 an, .int .i64 ad], .agg #[.int .i64 bn, .int .i64 bd]] w fun e w' => e = .returned (.bool true) ∧ Below w.heap.size w w' := by
  have HE := Lib.hid hE
  clear hE
  have HA := Lib.hid ha
  have HB := Lib.hid hb
  obtain ⟨a1, a2, a3, a4, _⟩ := ha
  obtain ⟨b1, b2, b3, b4, _⟩ := hb
  go_enter Tryd.func10, Tryd.ntmps10
  go_wp2_with fail
  refine (head_any _ (HE.out.below (by repeat (first | exact Below.refl _ _ | assumption | refine below_drewN ?_ _ | refine Below.setCell ?_ (by first | (simp; done) | (simp; omega)) _ | refine Below.alloc ?_ (by first | (simp; done) | (simp; omega) | omega) _ | refine Below.drew ?_ | refine Below.trans ?_ (Below.mono (by assumption) (by first | (simp; done) | (simp; omega) | omega)))))).mono ?_
  rintro e w1 ⟨rfl, hb1⟩
  have hz1 := hb1.size
  (try simp at hz1)
  have l1_a : w.heap.size < w1.heap.size := by omega
  have a1_a : w1.cell? ⟨w.heap.size, 0, none⟩ = some (.int .i64 (an)) := cell_keep hb1 (by go_simp)
  have c1_a : w1.cell? ⟨w.heap.size, 1, none⟩ = some (.int .i64 (ad)) := cell_keep hb1 (by go_simp)
  have l1_b : w.heap.size + 1 < w1.heap.size := by omega
  have a1_b : w1.cell? ⟨w.heap.size + 1, 0, none⟩ = some (.int .i64 (bn)) := cell_keep hb1 (by go_simp)
  have c1_b : w1.cell? ⟨w.heap.size + 1, 1, none⟩ = some (.int .i64 (bd)) := cell_keep hb1 (by go_simp)
  have be1 : Below w.heap.size w w1 := (by repeat (first | exact Below.refl _ _ | assumption | refine below_drewN ?_ _ | refine Below.setCell ?_ (by first | (simp; done) | (simp; omega)) _ | refine Below.alloc ?_ (by first | (simp; done) | (simp; omega) | omega) _ | refine Below.drew ?_ | refine Below.trans ?_ (Below.mono (by assumption) (by first | (simp; done) | (simp; omega) | omega))))
  clear hb1
  go_wp2_with fail
  refine (valid_true _ _ _ HA.out).mono ?_
  rintro e w2 ⟨rfl, hb2⟩
  have hz2 := hb2.size
  (try simp at hz2)
  have bb2 : Below w1.heap.size w1 w2 := (by repeat (first | exact Below.refl _ _ | assumption | refine below_drewN ?_ _ | refine Below.setCell ?_ (by first | (simp; done) | (simp; omega)) _ | refine Below.alloc ?_ (by first | (simp; done) | (simp; omega) | omega) _ | refine Below.drew ?_ | refine Below.trans ?_ (Below.mono (by assumption) (by first | (simp; done) | (simp; omega) | omega))))
  have l2_a : w.heap.size < w2.heap.size := by omega
  have a2_a : w2.cell? ⟨w.heap.size, 0, none⟩ = some (.int .i64 (an)) := cell_keep bb2 a1_a
  have c2_a : w2.cell? ⟨w.heap.size, 1, none⟩ = some (.int .i64 (ad)) := cell_keep bb2 c1_a
  have l2_b : w.heap.size + 1 < w2.heap.size := by omega
  have a2_b : w2.cell? ⟨w.heap.size + 1, 0, none⟩ = some (.int .i64 (bn)) := cell_keep bb2 a1_b
  have c2_b : w2.cell? ⟨w.heap.size + 1, 1, none⟩ = some (.int .i64 (bd)) := cell_keep bb2 c1_b
  have be2 : Below w.heap.size w w2 := (by repeat (first | exact Below.refl _ _ | assumption | refine below_drewN ?_ _ | refine Below.setCell ?_ (by first | (simp; done) | (simp; omega)) _ | refine Below.alloc ?_ (by first | (simp; done) | (simp; omega) | omega) _ | refine Below.drew ?_ | refine Below.trans ?_ (Below.mono (by assumption) (by first | (simp; done) | (simp; omega) | omega))))
  clear hb2 bb2 be1 l1_a a1_a c1_a l1_b a1_b c1_b
  go_wp2_with fail
  refine (valid_true _ _ _ HB.out).mono ?_
  rintro e w3 ⟨rfl, hb3⟩
  have hz3 := hb3.size
  (try simp at hz3)
  have bb3 : Below w2.heap.size w2 w3 := (by repeat (first | exact Below.refl _ _ | assumption | refine below_drewN ?_ _ | refine Below.setCell ?_ (by first | (simp; done) | (simp; omega)) _ | refine Below.alloc ?_ (by first | (simp; done) | (simp; omega) | omega) _ | refine Below.drew ?_ | refine Below.trans ?_ (Below.mono (by assumption) (by first | (simp; done) | (simp; omega) | omega))))
  have l3_a : w.heap.size < w3.heap.size := by omega
  have a3_a : w3.cell? ⟨w.heap.size, 0, none⟩ = some (.int .i64 (an)) := cell_keep bb3 a2_a
  have c3_a : w3.cell? ⟨w.heap.size, 1, none⟩ = some (.int .i64 (ad)) := cell_keep bb3 c2_a
  have l3_b : w.heap.size + 1 < w3.heap.size := by omega
  have a3_b : w3.cell? ⟨w.heap.size + 1, 0, none⟩ = some (.int .i64 (bn)) := cell_keep bb3 a2_b
  have c3_b : w3.cell? ⟨w.heap.size + 1, 1, none⟩ = some (.int .i64 (bd)) := cell_keep bb3 c2_b
  have be3 : Below w.heap.size w w3 := (by repeat (first | exact Below.refl _ _ | assumption | refine below_drewN ?_ _ | refine Below.setCell ?_ (by first | (simp; done) | (simp; omega)) _ | refine Below.alloc ?_ (by first | (simp; done) | (simp; omega) | omega) _ | refine Below.drew ?_ | refine Below.trans ?_ (Below.mono (by assumption) (by first | (simp; done) | (simp; omega) | omega))))
  clear hb3 bb3 be2 l2_a a2_a c2_a l2_b a2_b c2_b
  go_wp2
  go_ret
  exact ⟨rfl, (by repeat (first | exact Below.refl _ _ | assumption | refine below_drewN ?_ _ | refine Below.setCell ?_ (by first | (simp; done) | (simp; omega)) _ | refine Below.alloc ?_ (by first | (simp; done) | (simp; omega) | omega) _ | refine Below.drew ?_ | refine Below.trans ?_ (Below.mono (by assumption) (by first | (simp; done) | (simp; omega) | omega))))⟩
set_option maxRecDepth 100000 in
set_option maxHeartbeats 4000000 in
theorem ex_md (an ad bn bd : Int) (w : World) (hE : Env w) (ha : Rt.Ok an ad) (hb : Rt.Ok bn bd) (h0 : max (max (max an (-an)) bn) (-bn) ≤ 1000) (h : 1000 < max ad bd) :
    Calls Tryd.prog 10 #[.agg #[.int .i64 an, .int .i64 ad], .agg #[.int .i64 bn, .int .i64 bd]] w fun e w' => e = .returned (.bool true) ∧ Below w.heap.size w w' := by
  have HE := Lib.hid hE
  clear hE
  have HA := Lib.hid ha
  have HB := Lib.hid hb
  obtain ⟨a1, a2, a3, a4, _⟩ := ha
  obtain ⟨b1, b2, b3, b4, _⟩ := hb
  go_enter Tryd.func10, Tryd.ntmps10
  go_wp2_with fail
  refine (head_any _ (HE.out.below (by repeat (first | exact Below.refl _ _ | assumption | refine below_drewN ?_ _ | refine Below.setCell ?_ (by first | (simp; done) | (simp; omega)) _ | refine Below.alloc ?_ (by first | (simp; done) | (simp; omega) | omega) _ | refine Below.drew ?_ | refine Below.trans ?_ (Below.mono (by assumption) (by first | (simp; done) | (simp; omega) | omega)))))).mono ?_
  rintro e w1 ⟨rfl, hb1⟩
  have hz1 := hb1.size
  (try simp at hz1)
  have l1_a : w.heap.size < w1.heap.size := by omega
  have a1_a : w1.cell? ⟨w.heap.size, 0, none⟩ = some (.int .i64 (an)) := cell_keep hb1 (by go_simp)
  have c1_a : w1.cell? ⟨w.heap.size, 1, none⟩ = some (.int .i64 (ad)) := cell_keep hb1 (by go_simp)
  have l1_b : w.heap.size + 1 < w1.heap.size := by omega
  have a1_b : w1.cell? ⟨w.heap.size + 1, 0, none⟩ = some (.int .i64 (bn)) := cell_keep hb1 (by go_simp)
  have c1_b : w1.cell? ⟨w.heap.size + 1, 1, none⟩ = some (.int .i64 (bd)) := cell_keep hb1 (by go_simp)
  have be1 : Below w.heap.size w w1 := (by repeat (first | exact Below.refl _ _ | assumption | refine below_drewN ?_ _ | refine Below.setCell ?_ (by first | (simp; done) | (simp; omega)) _ | refine Below.alloc ?_ (by first | (simp; done) | (simp; omega) | omega) _ | refine Below.drew ?_ | refine Below.trans ?_ (Below.mono (by assumption) (by first | (simp; done) | (simp; omega) | omega))))
  clear hb1
  go_wp2_with fail
  refine (valid_true _ _ _ HA.out).mono ?_
  rintro e w2 ⟨rfl, hb2⟩
  have hz2 := hb2.size
  (try simp at hz2)
  have bb2 : Below w1.heap.size w1 w2 := (by repeat (first | exact Below.refl _ _ | assumption | refine below_drewN ?_ _ | refine Below.setCell ?_ (by first | (simp; done) | (simp; omega)) _ | refine Below.alloc ?_ (by first | (simp; done) | (simp; omega) | omega) _ | refine Below.drew ?_ | refine Below.trans ?_ (Below.mono (by assumption) (by first | (simp; done) | (simp; omega) | omega))))
  have l2_a : w.heap.size < w2.heap.size := by omega
  have a2_a : w2.cell? ⟨w.heap.size, 0, none⟩ = some (.int .i64 (an)) := cell_keep bb2 a1_a
  have c2_a : w2.cell? ⟨w.heap.size, 1, none⟩ = some (.int .i64 (ad)) := cell_keep bb2 c1_a
  have l2_b : w.heap.size + 1 < w2.heap.size := by omega
  have a2_b : w2.cell? ⟨w.heap.size + 1, 0, none⟩ = some (.int .i64 (bn)) := cell_keep bb2 a1_b
  have c2_b : w2.cell? ⟨w.heap.size + 1, 1, none⟩ = some (.int .i64 (bd)) := cell_keep bb2 c1_b
  have be2 : Below w.heap.size w w2 := (by repeat (first | exact Below.refl _ _ | assumption | refine below_drewN ?_ _ | refine Below.setCell ?_ (by first | (simp; done) | (simp; omega)) _ | refine Below.alloc ?_ (by first | (simp; done) | (simp; omega) | omega) _ | refine Below.drew ?_ | refine Below.trans ?_ (Below.mono (by assumption) (by first | (simp; done) | (simp; omega) | omega))))
  clear hb2 bb2 be1 l1_a a1_a c1_a l1_b a1_b c1_b
  go_wp2_with fail
  refine (valid_true _ _ _ HB.out).mono ?_
  rintro e w3 ⟨rfl, hb3⟩
  have hz3 := hb3.size
  (try simp at hz3)
  have bb3 : Below w2.heap.size w2 w3 := (by repeat (first | exact Below.refl _ _ | assumption | refine below_drewN ?_ _ | refine Below.setCell ?_ (by first | (simp; done) | (simp; omega)) _ | refine Below.alloc ?_ (by first | (simp; done) | (simp; omega) | omega) _ | refine Below.drew ?_ | refine Below.trans ?_ (Below.mono (by assumption) (by first | (simp; done) | (simp; omega) | omega))))
  have l3_a : w.heap.size < w3.heap.size := by omega
  have a3_a : w3.cell? ⟨w.heap.size, 0, none⟩ = some (.int .i64 (an)) := cell_keep bb3 a2_a
  have c3_a : w3.cell? ⟨w.heap.size, 1, none⟩ = some (.int .i64 (ad)) := cell_keep bb3 c2_a
  have l3_b : w.heap.size + 1 < w3.heap.size := by omega
  have a3_b : w3.cell? ⟨w.heap.size + 1, 0, none⟩ = some (.int .i64 (bn)) := cell_keep bb3 a2_b
  have c3_b : w3.cell? ⟨w.heap.size + 1, 1, none⟩ = some (.int .i64 (bd)) := cell_keep bb3 c2_b
  have be3 : Below w.heap.size w w3 := (by repeat (first | exact Below.refl _ _ | assumption | refine below_drewN ?_ _ | refine Below.setCell ?_ (by first | (simp; done) | (simp; omega)) _ | refine Below.alloc ?_ (by first | (simp; done) | (simp; omega) | omega) _ | refine Below.drew ?_ | refine Below.trans ?_ (Below.mono (by assumption) (by first | (simp; done) | (simp; omega) | omega))))
  clear hb3 bb3 be2 l2_a a2_a c2_a l2_b a2_b c2_b
  go_wp2
  go_ret
  exact ⟨rfl, (by repeat (first | exact Below.refl _ _ | assumption | refine below_drewN ?_ _ | refine Below.setCell ?_ (by first | (simp; done) | (simp; omega)) _ | refine Below.alloc ?_ (by first | (simp; done) | (simp; omega) | omega) _ | refine Below.drew ?_ | refine Below.trans ?_ (Below.mono (by assumption) (by first | (simp; done) | (simp; omega) | omega))))⟩
theorem mul_bd {a b : Int} (h1 : -1000 ≤ a) (h2 : a ≤ 1000) (h3 : -1000 ≤ b) (h4 : b ≤ 1000) : -1000000 ≤ a * b ∧ a * b ≤ 1000000 := by
  have e : (a * b).natAbs ≤ 1000 * 1000 := by rw [Int.natAbs_mul]; exact Nat.mul_le_mul (by omega) (by omega)
  omega
set_option maxRecDepth 100000 in
set_option maxHeartbeats 4000000 in
theorem ex_zero (an ad bn bd : Int) (w : World) (hE : Env w) (ha : Rt.Ok an ad) (hb : Rt.Ok bn bd) (g1 : -1000 ≤ an ∧ an ≤ 1000 ∧ -1000 ≤ bn ∧ bn ≤ 1000) (g2 : ad ≤ 1000 ∧ bd ≤ 1000) (s1 s2 d1 d2 p1 p2 : Int) (h1 : Rt.addS an ad bn bd = (s1, s2, 0)) (h2 : Rt.subS an ad bn bd = (d1, d2, 0)) (h3 : Rt.mulS an ad bn bd = (p1, p2, 0)) (o1 : Rt.Ok s1 s2) (o2 : Rt.Ok d1 d2) (o3 : Rt.Ok p1 p2) (x1 : s1 * (ad * bd) = (an * bd + bn * ad) * s2) (x2 : d1 * (ad * bd) = (an * bd - bn * ad) * d2) (x3 : p1 * (ad * bd) = (an * bn) * p2) (h4 : Rt.divS an ad bn bd = (0, 0, 1)) (hz : bn = 0) :
    Calls Tryd.prog 10 #[.agg #[.int .i64 an, .int .i64 ad], .agg #[.int .i64 bn, .int .i64 bd]] w fun e w' => e = .returned (.bool true) ∧ Below w.heap.size w w' := by
  have HE := Lib.hid hE
  clear hE
  have HA := Lib.hid ha
  have HB := Lib.hid hb
  obtain ⟨a1, a2, a3, a4, _⟩ := ha
  obtain ⟨b1, b2, b3, b4, _⟩ := hb
  have H1 := Lib.hid h1
  have H2 := Lib.hid h2
  have H3 := Lib.hid h3
  have H4 := Lib.hid h4
  have O1 := Lib.hid o1
  have O2 := Lib.hid o2
  have O3 := Lib.hid o3
  have m1 := mulb (a := an) (m := 1000) (by omega) (by omega) b1 g2.2 (by omega)
  have m2 := mulb (a := bn) (m := 1000) (by omega) (by omega) a1 g2.1 (by omega)
  have m3 := mulb (a := ad) (m := 1000) (by omega) g2.1 b1 g2.2 (by omega)
  have m3' : 1 ≤ ad * bd := Int.mul_pos (by omega) (by omega)
  have m4 : -1000000 ≤ an * bn ∧ an * bn ≤ 1000000 := mul_bd g1.1 g1.2.1 g1.2.2.1 g1.2.2.2
  have n1 := mulb o1.2.2.1 o1.2.2.2.1 m3' m3.2 (by omega)
  have n2 := mulb o2.2.2.1 o2.2.2.2.1 m3' m3.2 (by omega)
  have n3 := mulb o3.2.2.1 o3.2.2.2.1 m3' m3.2 (by omega)
  have r1 : -1000000000000000000 ≤ (an * bd + bn * ad) * s2 ∧ (an * bd + bn * ad) * s2 ≤ 1000000000000000000 := by rw [← x1]; omega
  have r2 : -1000000000000000000 ≤ (an * bd - bn * ad) * d2 ∧ (an * bd - bn * ad) * d2 ≤ 1000000000000000000 := by rw [← x2]; omega
  have r3 : -1000000000000000000 ≤ an * bn * p2 ∧ an * bn * p2 ≤ 1000000000000000000 := by rw [← x3]; omega
  have y1 : (s1 * (ad * bd) != (an * bd + bn * ad) * s2) = false := by rw [x1]; simp
  have y2 : (d1 * (ad * bd) != (an * bd - bn * ad) * d2) = false := by rw [x2]; simp
  have y3 : (p1 * (ad * bd) != an * bn * p2) = false := by rw [x3]; simp
  have z1 : (s1 * (ad * bd) == (an * bd + bn * ad) * s2) = true := by rw [x1]; simp
  have z2 : (d1 * (ad * bd) == (an * bd - bn * ad) * d2) = true := by rw [x2]; simp
  have z3 : (p1 * (ad * bd) == an * bn * p2) = true := by rw [x3]; simp
  have w1 : (bn == 0) = true := by rw [hz]; rfl
  clear hz
  clear h1 h2 h3 h4 o1 o2 o3 x1 x2 x3
  go_enter Tryd.func10, Tryd.ntmps10
  go_wp2_with fail
  refine (head_any _ (HE.out.below (by repeat (first | exact Below.refl _ _ | assumption | refine below_drewN ?_ _ | refine Below.setCell ?_ (by first | (simp; done) | (simp; omega)) _ | refine Below.alloc ?_ (by first | (simp; done) | (simp; omega) | omega) _ | refine Below.drew ?_ | refine Below.trans ?_ (Below.mono (by assumption) (by first | (simp; done) | (simp; omega) | omega)))))).mono ?_
  rintro e w1 ⟨rfl, hb1⟩
  have hz1 := hb1.size
  (try simp at hz1)
  have l1_a : w.heap.size < w1.heap.size := by omega
  have a1_a : w1.cell? ⟨w.heap.size, 0, none⟩ = some (.int .i64 (an)) := cell_keep hb1 (by go_simp)
  have c1_a : w1.cell? ⟨w.heap.size, 1, none⟩ = some (.int .i64 (ad)) := cell_keep hb1 (by go_simp)
  have l1_b : w.heap.size + 1 < w1.heap.size := by omega
  have a1_b : w1.cell? ⟨w.heap.size + 1, 0, none⟩ = some (.int .i64 (bn)) := cell_keep hb1 (by go_simp)
  have c1_b : w1.cell? ⟨w.heap.size + 1, 1, none⟩ = some (.int .i64 (bd)) := cell_keep hb1 (by go_simp)
  have be1 : Below w.heap.size w w1 := (by repeat (first | exact Below.refl _ _ | assumption | refine below_drewN ?_ _ | refine Below.setCell ?_ (by first | (simp; done) | (simp; omega)) _ | refine Below.alloc ?_ (by first | (simp; done) | (simp; omega) | omega) _ | refine Below.drew ?_ | refine Below.trans ?_ (Below.mono (by assumption) (by first | (simp; done) | (simp; omega) | omega))))
  clear hb1
  go_wp2_with fail
  refine (valid_true _ _ _ HA.out).mono ?_
  rintro e w2 ⟨rfl, hb2⟩
  have hz2 := hb2.size
  (try simp at hz2)
  have bb2 : Below w1.heap.size w1 w2 := (by repeat (first | exact Below.refl _ _ | assumption | refine below_drewN ?_ _ | refine Below.setCell ?_ (by first | (simp; done) | (simp; omega)) _ | refine Below.alloc ?_ (by first | (simp; done) | (simp; omega) | omega) _ | refine Below.drew ?_ | refine Below.trans ?_ (Below.mono (by assumption) (by first | (simp; done) | (simp; omega) | omega))))
  have l2_a : w.heap.size < w2.heap.size := by omega
  have a2_a : w2.cell? ⟨w.heap.size, 0, none⟩ = some (.int .i64 (an)) := cell_keep bb2 a1_a
  have c2_a : w2.cell? ⟨w.heap.size, 1, none⟩ = some (.int .i64 (ad)) := cell_keep bb2 c1_a
  have l2_b : w.heap.size + 1 < w2.heap.size := by omega
  have a2_b : w2.cell? ⟨w.heap.size + 1, 0, none⟩ = some (.int .i64 (bn)) := cell_keep bb2 a1_b
  have c2_b : w2.cell? ⟨w.heap.size + 1, 1, none⟩ = some (.int .i64 (bd)) := cell_keep bb2 c1_b
  have be2 : Below w.heap.size w w2 := (by repeat (first | exact Below.refl _ _ | assumption | refine below_drewN ?_ _ | refine Below.setCell ?_ (by first | (simp; done) | (simp; omega)) _ | refine Below.alloc ?_ (by first | (simp; done) | (simp; omega) | omega) _ | refine Below.drew ?_ | refine Below.trans ?_ (Below.mono (by assumption) (by first | (simp; done) | (simp; omega) | omega))))
  clear hb2 bb2 be1 l1_a a1_a c1_a l1_b a1_b c1_b
  go_wp2_with fail
  refine (valid_true _ _ _ HB.out).mono ?_
  rintro e w3 ⟨rfl, hb3⟩
  have hz3 := hb3.size
  (try simp at hz3)
  have bb3 : Below w2.heap.size w2 w3 := (by repeat (first | exact Below.refl _ _ | assumption | refine below_drewN ?_ _ | refine Below.setCell ?_ (by first | (simp; done) | (simp; omega)) _ | refine Below.alloc ?_ (by first | (simp; done) | (simp; omega) | omega) _ | refine Below.drew ?_ | refine Below.trans ?_ (Below.mono (by assumption) (by first | (simp; done) | (simp; omega) | omega))))
  have l3_a : w.heap.size < w3.heap.size := by omega
  have a3_a : w3.cell? ⟨w.heap.size, 0, none⟩ = some (.int .i64 (an)) := cell_keep bb3 a2_a
  have c3_a : w3.cell? ⟨w.heap.size, 1, none⟩ = some (.int .i64 (ad)) := cell_keep bb3 c2_a
  have l3_b : w.heap.size + 1 < w3.heap.size := by omega
  have a3_b : w3.cell? ⟨w.heap.size + 1, 0, none⟩ = some (.int .i64 (bn)) := cell_keep bb3 a2_b
  have c3_b : w3.cell? ⟨w.heap.size + 1, 1, none⟩ = some (.int .i64 (bd)) := cell_keep bb3 c2_b
  have be3 : Below w.heap.size w w3 := (by repeat (first | exact Below.refl _ _ | assumption | refine below_drewN ?_ _ | refine Below.setCell ?_ (by first | (simp; done) | (simp; omega)) _ | refine Below.alloc ?_ (by first | (simp; done) | (simp; omega) | omega) _ | refine Below.drew ?_ | refine Below.trans ?_ (Below.mono (by assumption) (by first | (simp; done) | (simp; omega) | omega))))
  clear hb3 bb3 be2 l2_a a2_a c2_a l2_b a2_b c2_b
  go_wp2_with fail
  refine (add_any an ad bn bd _ (by omega) (by omega) (by omega) (by omega)).mono ?_
  rintro e w4 ⟨rfl, hb4⟩
  rw [H1.out]
  have hz4 := hb4.size
  (try simp at hz4)
  have bb4 : Below w3.heap.size w3 w4 := (by repeat (first | exact Below.refl _ _ | assumption | refine below_drewN ?_ _ | refine Below.setCell ?_ (by first | (simp; done) | (simp; omega)) _ | refine Below.alloc ?_ (by first | (simp; done) | (simp; omega) | omega) _ | refine Below.drew ?_ | refine Below.trans ?_ (Below.mono (by assumption) (by first | (simp; done) | (simp; omega) | omega))))
  have l4_a : w.heap.size < w4.heap.size := by omega
  have a4_a : w4.cell? ⟨w.heap.size, 0, none⟩ = some (.int .i64 (an)) := cell_keep bb4 a3_a
  have c4_a : w4.cell? ⟨w.heap.size, 1, none⟩ = some (.int .i64 (ad)) := cell_keep bb4 c3_a
  have l4_b : w.heap.size + 1 < w4.heap.size := by omega
  have a4_b : w4.cell? ⟨w.heap.size + 1, 0, none⟩ = some (.int .i64 (bn)) := cell_keep bb4 a3_b
  have c4_b : w4.cell? ⟨w.heap.size + 1, 1, none⟩ = some (.int .i64 (bd)) := cell_keep bb4 c3_b
  have be4 : Below w.heap.size w w4 := (by repeat (first | exact Below.refl _ _ | assumption | refine below_drewN ?_ _ | refine Below.setCell ?_ (by first | (simp; done) | (simp; omega)) _ | refine Below.alloc ?_ (by first | (simp; done) | (simp; omega) | omega) _ | refine Below.drew ?_ | refine Below.trans ?_ (Below.mono (by assumption) (by first | (simp; done) | (simp; omega) | omega))))
  clear hb4 bb4 be3 l3_a a3_a c3_a l3_b a3_b c3_b
  simp only [RV]
  go_wp2_with fail
  refine (sub_any an ad bn bd _ (by omega) (by omega) (by omega) (by omega)).mono ?_
  rintro e w5 ⟨rfl, hb5⟩
  rw [H2.out]
  have hz5 := hb5.size
  (try simp at hz5)
  have bb5 : Below w4.heap.size w4 w5 := (by repeat (first | exact Below.refl _ _ | assumption | refine below_drewN ?_ _ | refine Below.setCell ?_ (by first | (simp; done) | (simp; omega)) _ | refine Below.alloc ?_ (by first | (simp; done) | (simp; omega) | omega) _ | refine Below.drew ?_ | refine Below.trans ?_ (Below.mono (by assumption) (by first | (simp; done) | (simp; omega) | omega))))
  have l5_a : w.heap.size < w5.heap.size := by omega
  have a5_a : w5.cell? ⟨w.heap.size, 0, none⟩ = some (.int .i64 (an)) := cell_keep bb5 a4_a
  have c5_a : w5.cell? ⟨w.heap.size, 1, none⟩ = some (.int .i64 (ad)) := cell_keep bb5 c4_a
  have l5_b : w.heap.size + 1 < w5.heap.size := by omega
  have a5_b : w5.cell? ⟨w.heap.size + 1, 0, none⟩ = some (.int .i64 (bn)) := cell_keep bb5 a4_b
  have c5_b : w5.cell? ⟨w.heap.size + 1, 1, none⟩ = some (.int .i64 (bd)) := cell_keep bb5 c4_b
  have l5_s : w4.heap.size < w5.heap.size := by omega
  have a5_s : w5.cell? ⟨w4.heap.size, 0, none⟩ = some (.int .i64 (s1)) := cell_keep hb5 (by go_simp)
  have c5_s : w5.cell? ⟨w4.heap.size, 1, none⟩ = some (.int .i64 (s2)) := cell_keep hb5 (by go_simp)
  have be5 : Below w.heap.size w w5 := (by repeat (first | exact Below.refl _ _ | assumption | refine below_drewN ?_ _ | refine Below.setCell ?_ (by first | (simp; done) | (simp; omega)) _ | refine Below.alloc ?_ (by first | (simp; done) | (simp; omega) | omega) _ | refine Below.drew ?_ | refine Below.trans ?_ (Below.mono (by assumption) (by first | (simp; done) | (simp; omega) | omega))))
  clear hb5 bb5 be4 l4_a a4_a c4_a l4_b a4_b c4_b
  simp only [RV]
  go_wp2_with fail
  refine (mul_any an ad bn bd _ (by omega) (by omega) (by omega) (by omega)).mono ?_
  rintro e w6 ⟨rfl, hb6⟩
  rw [H3.out]
  have hz6 := hb6.size
  (try simp at hz6)
  have bb6 : Below w5.heap.size w5 w6 := (by repeat (first | exact Below.refl _ _ | assumption | refine below_drewN ?_ _ | refine Below.setCell ?_ (by first | (simp; done) | (simp; omega)) _ | refine Below.alloc ?_ (by first | (simp; done) | (simp; omega) | omega) _ | refine Below.drew ?_ | refine Below.trans ?_ (Below.mono (by assumption) (by first | (simp; done) | (simp; omega) | omega))))
  have l6_a : w.heap.size < w6.heap.size := by omega
  have a6_a : w6.cell? ⟨w.heap.size, 0, none⟩ = some (.int .i64 (an)) := cell_keep bb6 a5_a
  have c6_a : w6.cell? ⟨w.heap.size, 1, none⟩ = some (.int .i64 (ad)) := cell_keep bb6 c5_a
  have l6_b : w.heap.size + 1 < w6.heap.size := by omega
  have a6_b : w6.cell? ⟨w.heap.size + 1, 0, none⟩ = some (.int .i64 (bn)) := cell_keep bb6 a5_b
  have c6_b : w6.cell? ⟨w.heap.size + 1, 1, none⟩ = some (.int .i64 (bd)) := cell_keep bb6 c5_b
  have l6_s : w4.heap.size < w6.heap.size := by omega
  have a6_s : w6.cell? ⟨w4.heap.size, 0, none⟩ = some (.int .i64 (s1)) := cell_keep bb6 a5_s
  have c6_s : w6.cell? ⟨w4.heap.size, 1, none⟩ = some (.int .i64 (s2)) := cell_keep bb6 c5_s
  have l6_d : w5.heap.size < w6.heap.size := by omega
  have a6_d : w6.cell? ⟨w5.heap.size, 0, none⟩ = some (.int .i64 (d1)) := cell_keep hb6 (by go_simp)
  have c6_d : w6.cell? ⟨w5.heap.size, 1, none⟩ = some (.int .i64 (d2)) := cell_keep hb6 (by go_simp)
  have be6 : Below w.heap.size w w6 := (by repeat (first | exact Below.refl _ _ | assumption | refine below_drewN ?_ _ | refine Below.setCell ?_ (by first | (simp; done) | (simp; omega)) _ | refine Below.alloc ?_ (by first | (simp; done) | (simp; omega) | omega) _ | refine Below.drew ?_ | refine Below.trans ?_ (Below.mono (by assumption) (by first | (simp; done) | (simp; omega) | omega))))
  clear hb6 bb6 be5 l5_a a5_a c5_a l5_b a5_b c5_b l5_s a5_s c5_s
  simp only [RV]
  go_wp2_with fail
  refine (div_any an ad bn bd _ (by omega) (by omega) (by omega) (by omega)).mono ?_
  rintro e w7 ⟨rfl, hb7⟩
  rw [H4.out]
  have hz7 := hb7.size
  (try simp at hz7)
  have bb7 : Below w6.heap.size w6 w7 := (by repeat (first | exact Below.refl _ _ | assumption | refine below_drewN ?_ _ | refine Below.setCell ?_ (by first | (simp; done) | (simp; omega)) _ | refine Below.alloc ?_ (by first | (simp; done) | (simp; omega) | omega) _ | refine Below.drew ?_ | refine Below.trans ?_ (Below.mono (by assumption) (by first | (simp; done) | (simp; omega) | omega))))
  have l7_a : w.heap.size < w7.heap.size := by omega
  have a7_a : w7.cell? ⟨w.heap.size, 0, none⟩ = some (.int .i64 (an)) := cell_keep bb7 a6_a
  have c7_a : w7.cell? ⟨w.heap.size, 1, none⟩ = some (.int .i64 (ad)) := cell_keep bb7 c6_a
  have l7_b : w.heap.size + 1 < w7.heap.size := by omega
  have a7_b : w7.cell? ⟨w.heap.size + 1, 0, none⟩ = some (.int .i64 (bn)) := cell_keep bb7 a6_b
  have c7_b : w7.cell? ⟨w.heap.size + 1, 1, none⟩ = some (.int .i64 (bd)) := cell_keep bb7 c6_b
  have l7_s : w4.heap.size < w7.heap.size := by omega
  have a7_s : w7.cell? ⟨w4.heap.size, 0, none⟩ = some (.int .i64 (s1)) := cell_keep bb7 a6_s
  have c7_s : w7.cell? ⟨w4.heap.size, 1, none⟩ = some (.int .i64 (s2)) := cell_keep bb7 c6_s
  have l7_d : w5.heap.size < w7.heap.size := by omega
  have a7_d : w7.cell? ⟨w5.heap.size, 0, none⟩ = some (.int .i64 (d1)) := cell_keep bb7 a6_d
  have c7_d : w7.cell? ⟨w5.heap.size, 1, none⟩ = some (.int .i64 (d2)) := cell_keep bb7 c6_d
  have l7_p : w6.heap.size < w7.heap.size := by omega
  have a7_p : w7.cell? ⟨w6.heap.size, 0, none⟩ = some (.int .i64 (p1)) := cell_keep hb7 (by go_simp)
  have c7_p : w7.cell? ⟨w6.heap.size, 1, none⟩ = some (.int .i64 (p2)) := cell_keep hb7 (by go_simp)
  have be7 : Below w.heap.size w w7 := (by repeat (first | exact Below.refl _ _ | assumption | refine below_drewN ?_ _ | refine Below.setCell ?_ (by first | (simp; done) | (simp; omega)) _ | refine Below.alloc ?_ (by first | (simp; done) | (simp; omega) | omega) _ | refine Below.drew ?_ | refine Below.trans ?_ (Below.mono (by assumption) (by first | (simp; done) | (simp; omega) | omega))))
  clear hb7 bb7 be6 l6_a a6_a c6_a l6_b a6_b c6_b l6_s a6_s c6_s l6_d a6_d c6_d
  simp only [RV]
  go_wp2_with fail
  refine (valid_true _ _ _ O1.out).mono ?_
  rintro e w8 ⟨rfl, hb8⟩
  have hz8 := hb8.size
  (try simp at hz8)
  have bb8 : Below w7.heap.size w7 w8 := (by repeat (first | exact Below.refl _ _ | assumption | refine below_drewN ?_ _ | refine Below.setCell ?_ (by first | (simp; done) | (simp; omega)) _ | refine Below.alloc ?_ (by first | (simp; done) | (simp; omega) | omega) _ | refine Below.drew ?_ | refine Below.trans ?_ (Below.mono (by assumption) (by first | (simp; done) | (simp; omega) | omega))))
  have l8_a : w.heap.size < w8.heap.size := by omega
  have a8_a : w8.cell? ⟨w.heap.size, 0, none⟩ = some (.int .i64 (an)) := cell_keep bb8 a7_a
  have c8_a : w8.cell? ⟨w.heap.size, 1, none⟩ = some (.int .i64 (ad)) := cell_keep bb8 c7_a
  have l8_b : w.heap.size + 1 < w8.heap.size := by omega
  have a8_b : w8.cell? ⟨w.heap.size + 1, 0, none⟩ = some (.int .i64 (bn)) := cell_keep bb8 a7_b
  have c8_b : w8.cell? ⟨w.heap.size + 1, 1, none⟩ = some (.int .i64 (bd)) := cell_keep bb8 c7_b
  have l8_s : w4.heap.size < w8.heap.size := by omega
  have a8_s : w8.cell? ⟨w4.heap.size, 0, none⟩ = some (.int .i64 (s1)) := cell_keep bb8 a7_s
  have c8_s : w8.cell? ⟨w4.heap.size, 1, none⟩ = some (.int .i64 (s2)) := cell_keep bb8 c7_s
  have l8_d : w5.heap.size < w8.heap.size := by omega
  have a8_d : w8.cell? ⟨w5.heap.size, 0, none⟩ = some (.int .i64 (d1)) := cell_keep bb8 a7_d
  have c8_d : w8.cell? ⟨w5.heap.size, 1, none⟩ = some (.int .i64 (d2)) := cell_keep bb8 c7_d
  have l8_p : w6.heap.size < w8.heap.size := by omega
  have a8_p : w8.cell? ⟨w6.heap.size, 0, none⟩ = some (.int .i64 (p1)) := cell_keep bb8 a7_p
  have c8_p : w8.cell? ⟨w6.heap.size, 1, none⟩ = some (.int .i64 (p2)) := cell_keep bb8 c7_p
  have l8_q : w7.heap.size < w8.heap.size := by omega
  have a8_q : w8.cell? ⟨w7.heap.size, 0, none⟩ = some (.int .i64 (0)) := cell_keep hb8 (by go_simp)
  have c8_q : w8.cell? ⟨w7.heap.size, 1, none⟩ = some (.int .i64 (0)) := cell_keep hb8 (by go_simp)
  have be8 : Below w.heap.size w w8 := (by repeat (first | exact Below.refl _ _ | assumption | refine below_drewN ?_ _ | refine Below.setCell ?_ (by first | (simp; done) | (simp; omega)) _ | refine Below.alloc ?_ (by first | (simp; done) | (simp; omega) | omega) _ | refine Below.drew ?_ | refine Below.trans ?_ (Below.mono (by assumption) (by first | (simp; done) | (simp; omega) | omega))))
  clear hb8 bb8 be7 l7_a a7_a c7_a l7_b a7_b c7_b l7_s a7_s c7_s l7_d a7_d c7_d l7_p a7_p c7_p
  go_wp2_with fail
  refine (valid_true _ _ _ O2.out).mono ?_
  rintro e w9 ⟨rfl, hb9⟩
  have hz9 := hb9.size
  (try simp at hz9)
  have bb9 : Below w8.heap.size w8 w9 := (by repeat (first | exact Below.refl _ _ | assumption | refine below_drewN ?_ _ | refine Below.setCell ?_ (by first | (simp; done) | (simp; omega)) _ | refine Below.alloc ?_ (by first | (simp; done) | (simp; omega) | omega) _ | refine Below.drew ?_ | refine Below.trans ?_ (Below.mono (by assumption) (by first | (simp; done) | (simp; omega) | omega))))
  have l9_a : w.heap.size < w9.heap.size := by omega
  have a9_a : w9.cell? ⟨w.heap.size, 0, none⟩ = some (.int .i64 (an)) := cell_keep bb9 a8_a
  have c9_a : w9.cell? ⟨w.heap.size, 1, none⟩ = some (.int .i64 (ad)) := cell_keep bb9 c8_a
  have l9_b : w.heap.size + 1 < w9.heap.size := by omega
  have a9_b : w9.cell? ⟨w.heap.size + 1, 0, none⟩ = some (.int .i64 (bn)) := cell_keep bb9 a8_b
  have c9_b : w9.cell? ⟨w.heap.size + 1, 1, none⟩ = some (.int .i64 (bd)) := cell_keep bb9 c8_b
  have l9_s : w4.heap.size < w9.heap.size := by omega
  have a9_s : w9.cell? ⟨w4.heap.size, 0, none⟩ = some (.int .i64 (s1)) := cell_keep bb9 a8_s
  have c9_s : w9.cell? ⟨w4.heap.size, 1, none⟩ = some (.int .i64 (s2)) := cell_keep bb9 c8_s
  have l9_d : w5.heap.size < w9.heap.size := by omega
  have a9_d : w9.cell? ⟨w5.heap.size, 0, none⟩ = some (.int .i64 (d1)) := cell_keep bb9 a8_d
  have c9_d : w9.cell? ⟨w5.heap.size, 1, none⟩ = some (.int .i64 (d2)) := cell_keep bb9 c8_d
  have l9_p : w6.heap.size < w9.heap.size := by omega
  have a9_p : w9.cell? ⟨w6.heap.size, 0, none⟩ = some (.int .i64 (p1)) := cell_keep bb9 a8_p
  have c9_p : w9.cell? ⟨w6.heap.size, 1, none⟩ = some (.int .i64 (p2)) := cell_keep bb9 c8_p
  have l9_q : w7.heap.size < w9.heap.size := by omega
  have a9_q : w9.cell? ⟨w7.heap.size, 0, none⟩ = some (.int .i64 (0)) := cell_keep bb9 a8_q
  have c9_q : w9.cell? ⟨w7.heap.size, 1, none⟩ = some (.int .i64 (0)) := cell_keep bb9 c8_q
  have be9 : Below w.heap.size w w9 := (by repeat (first | exact Below.refl _ _ | assumption | refine below_drewN ?_ _ | refine Below.setCell ?_ (by first | (simp; done) | (simp; omega)) _ | refine Below.alloc ?_ (by first | (simp; done) | (simp; omega) | omega) _ | refine Below.drew ?_ | refine Below.trans ?_ (Below.mono (by assumption) (by first | (simp; done) | (simp; omega) | omega))))
  clear hb9 bb9 be8 l8_a a8_a c8_a l8_b a8_b c8_b l8_s a8_s c8_s l8_d a8_d c8_d l8_p a8_p c8_p l8_q a8_q c8_q
  go_wp2_with fail
  refine (valid_true _ _ _ O3.out).mono ?_
  rintro e w10 ⟨rfl, hb10⟩
  have hz10 := hb10.size
  (try simp at hz10)
  have bb10 : Below w9.heap.size w9 w10 := (by repeat (first | exact Below.refl _ _ | assumption | refine below_drewN ?_ _ | refine Below.setCell ?_ (by first | (simp; done) | (simp; omega)) _ | refine Below.alloc ?_ (by first | (simp; done) | (simp; omega) | omega) _ | refine Below.drew ?_ | refine Below.trans ?_ (Below.mono (by assumption) (by first | (simp; done) | (simp; omega) | omega))))
  have l10_a : w.heap.size < w10.heap.size := by omega
  have a10_a : w10.cell? ⟨w.heap.size, 0, none⟩ = some (.int .i64 (an)) := cell_keep bb10 a9_a
  have c10_a : w10.cell? ⟨w.heap.size, 1, none⟩ = some (.int .i64 (ad)) := cell_keep bb10 c9_a
  have l10_b : w.heap.size + 1 < w10.heap.size := by omega
  have a10_b : w10.cell? ⟨w.heap.size + 1, 0, none⟩ = some (.int .i64 (bn)) := cell_keep bb10 a9_b
  have c10_b : w10.cell? ⟨w.heap.size + 1, 1, none⟩ = some (.int .i64 (bd)) := cell_keep bb10 c9_b
  have l10_s : w4.heap.size < w10.heap.size := by omega
  have a10_s : w10.cell? ⟨w4.heap.size, 0, none⟩ = some (.int .i64 (s1)) := cell_keep bb10 a9_s
  have c10_s : w10.cell? ⟨w4.heap.size, 1, none⟩ = some (.int .i64 (s2)) := cell_keep bb10 c9_s
  have l10_d : w5.heap.size < w10.heap.size := by omega
  have a10_d : w10.cell? ⟨w5.heap.size, 0, none⟩ = some (.int .i64 (d1)) := cell_keep bb10 a9_d
  have c10_d : w10.cell? ⟨w5.heap.size, 1, none⟩ = some (.int .i64 (d2)) := cell_keep bb10 c9_d
  have l10_p : w6.heap.size < w10.heap.size := by omega
  have a10_p : w10.cell? ⟨w6.heap.size, 0, none⟩ = some (.int .i64 (p1)) := cell_keep bb10 a9_p
  have c10_p : w10.cell? ⟨w6.heap.size, 1, none⟩ = some (.int .i64 (p2)) := cell_keep bb10 c9_p
  have l10_q : w7.heap.size < w10.heap.size := by omega
  have a10_q : w10.cell? ⟨w7.heap.size, 0, none⟩ = some (.int .i64 (0)) := cell_keep bb10 a9_q
  have c10_q : w10.cell? ⟨w7.heap.size, 1, none⟩ = some (.int .i64 (0)) := cell_keep bb10 c9_q
  have be10 : Below w.heap.size w w10 := (by repeat (first | exact Below.refl _ _ | assumption | refine below_drewN ?_ _ | refine Below.setCell ?_ (by first | (simp; done) | (simp; omega)) _ | refine Below.alloc ?_ (by first | (simp; done) | (simp; omega) | omega) _ | refine Below.drew ?_ | refine Below.trans ?_ (Below.mono (by assumption) (by first | (simp; done) | (simp; omega) | omega))))
  clear hb10 bb10 be9 l9_a a9_a c9_a l9_b a9_b c9_b l9_s a9_s c9_s l9_d a9_d c9_d l9_p a9_p c9_p l9_q a9_q c9_q
  go_wp2
  go_ret
  exact ⟨rfl, (by repeat (first | exact Below.refl _ _ | assumption | refine below_drewN ?_ _ | refine Below.setCell ?_ (by first | (simp; done) | (simp; omega)) _ | refine Below.alloc ?_ (by first | (simp; done) | (simp; omega) | omega) _ | refine Below.drew ?_ | refine Below.trans ?_ (Below.mono (by assumption) (by first | (simp; done) | (simp; omega) | omega))))⟩
set_option maxRecDepth 100000 in
set_option maxHeartbeats 4000000 in
theorem ex_in (an ad bn bd : Int) (w : World) (hE : Env w) (ha : Rt.Ok an ad) (hb : Rt.Ok bn bd) (g1 : -1000 ≤ an ∧ an ≤ 1000 ∧ -1000 ≤ bn ∧ bn ≤ 1000) (g2 : ad ≤ 1000 ∧ bd ≤ 1000) (s1 s2 d1 d2 p1 p2 q1 q2 : Int) (h1 : Rt.addS an ad bn bd = (s1, s2, 0)) (h2 : Rt.subS an ad bn bd = (d1, d2, 0)) (h3 : Rt.mulS an ad bn bd = (p1, p2, 0)) (o1 : Rt.Ok s1 s2) (o2 : Rt.Ok d1 d2) (o3 : Rt.Ok p1 p2) (x1 : s1 * (ad * bd) = (an * bd + bn * ad) * s2) (x2 : d1 * (ad * bd) = (an * bd - bn * ad) * d2) (x3 : p1 * (ad * bd) = (an * bn) * p2) (h4 : Rt.divS an ad bn bd = (q1, q2, 0)) (hz : bn ≠ 0) (o4 : Rt.Ok q1 q2) (x4 : q1 * (ad * bn) = an * bd * q2) :
    Calls Tryd.prog 10 #[.agg #[.int .i64 an, .int .i64 ad], .agg #[.int .i64 bn, .int .i64 bd]] w fun e w' => e = .returned (.bool true) ∧ Below w.heap.size w w' := by
  have HE := Lib.hid hE
  clear hE
  have HA := Lib.hid ha
  have HB := Lib.hid hb
  obtain ⟨a1, a2, a3, a4, _⟩ := ha
  obtain ⟨b1, b2, b3, b4, _⟩ := hb
  have H1 := Lib.hid h1
  have H2 := Lib.hid h2
  have H3 := Lib.hid h3
  have H4 := Lib.hid h4
  have O1 := Lib.hid o1
  have O2 := Lib.hid o2
  have O3 := Lib.hid o3
  have m1 := mulb (a := an) (m := 1000) (by omega) (by omega) b1 g2.2 (by omega)
  have m2 := mulb (a := bn) (m := 1000) (by omega) (by omega) a1 g2.1 (by omega)
  have m3 := mulb (a := ad) (m := 1000) (by omega) g2.1 b1 g2.2 (by omega)
  have m3' : 1 ≤ ad * bd := Int.mul_pos (by omega) (by omega)
  have m4 : -1000000 ≤ an * bn ∧ an * bn ≤ 1000000 := mul_bd g1.1 g1.2.1 g1.2.2.1 g1.2.2.2
  have n1 := mulb o1.2.2.1 o1.2.2.2.1 m3' m3.2 (by omega)
  have n2 := mulb o2.2.2.1 o2.2.2.2.1 m3' m3.2 (by omega)
  have n3 := mulb o3.2.2.1 o3.2.2.2.1 m3' m3.2 (by omega)
  have r1 : -1000000000000000000 ≤ (an * bd + bn * ad) * s2 ∧ (an * bd + bn * ad) * s2 ≤ 1000000000000000000 := by rw [← x1]; omega
  have r2 : -1000000000000000000 ≤ (an * bd - bn * ad) * d2 ∧ (an * bd - bn * ad) * d2 ≤ 1000000000000000000 := by rw [← x2]; omega
  have r3 : -1000000000000000000 ≤ an * bn * p2 ∧ an * bn * p2 ≤ 1000000000000000000 := by rw [← x3]; omega
  have y1 : (s1 * (ad * bd) != (an * bd + bn * ad) * s2) = false := by rw [x1]; simp
  have y2 : (d1 * (ad * bd) != (an * bd - bn * ad) * d2) = false := by rw [x2]; simp
  have y3 : (p1 * (ad * bd) != an * bn * p2) = false := by rw [x3]; simp
  have z1 : (s1 * (ad * bd) == (an * bd + bn * ad) * s2) = true := by rw [x1]; simp
  have z2 : (d1 * (ad * bd) == (an * bd - bn * ad) * d2) = true := by rw [x2]; simp
  have z3 : (p1 * (ad * bd) == an * bn * p2) = true := by rw [x3]; simp
  have O4 := Lib.hid o4
  have n4 : -1000000000000000000 ≤ q1 * (ad * bn) ∧ q1 * (ad * bn) ≤ 1000000000000000000 := by
    have e : (q1 * (ad * bn)).natAbs ≤ 1000000000000 * 1000000 := by
      rw [Int.natAbs_mul]; exact Nat.mul_le_mul (by have := o4.2.2.1; have := o4.2.2.2.1; omega) (by rw [Int.mul_comm]; omega)
    omega
  have r4 : -1000000000000000000 ≤ an * bd * q2 ∧ an * bd * q2 ≤ 1000000000000000000 := by rw [← x4]; exact n4
  have m5 : -1000000 ≤ ad * bn ∧ ad * bn ≤ 1000000 := by rw [Int.mul_comm]; omega
  have z4 : (q1 * (ad * bn) == an * bd * q2) = true := by rw [x4]; simp
  have w1 : (bn == 0) = false := by simp [hz]
  clear hz o4 x4
  clear h1 h2 h3 h4 o1 o2 o3 x1 x2 x3
  go_enter Tryd.func10, Tryd.ntmps10
  go_wp2_with fail
  refine (head_any _ (HE.out.below (by repeat (first | exact Below.refl _ _ | assumption | refine below_drewN ?_ _ | refine Below.setCell ?_ (by first | (simp; done) | (simp; omega)) _ | refine Below.alloc ?_ (by first | (simp; done) | (simp; omega) | omega) _ | refine Below.drew ?_ | refine Below.trans ?_ (Below.mono (by assumption) (by first | (simp; done) | (simp; omega) | omega)))))).mono ?_
  rintro e w1 ⟨rfl, hb1⟩
  have hz1 := hb1.size
  (try simp at hz1)
  have l1_a : w.heap.size < w1.heap.size := by omega
  have a1_a : w1.cell? ⟨w.heap.size, 0, none⟩ = some (.int .i64 (an)) := cell_keep hb1 (by go_simp)
  have c1_a : w1.cell? ⟨w.heap.size, 1, none⟩ = some (.int .i64 (ad)) := cell_keep hb1 (by go_simp)
  have l1_b : w.heap.size + 1 < w1.heap.size := by omega
  have a1_b : w1.cell? ⟨w.heap.size + 1, 0, none⟩ = some (.int .i64 (bn)) := cell_keep hb1 (by go_simp)
  have c1_b : w1.cell? ⟨w.heap.size + 1, 1, none⟩ = some (.int .i64 (bd)) := cell_keep hb1 (by go_simp)
  have be1 : Below w.heap.size w w1 := (by repeat (first | exact Below.refl _ _ | assumption | refine below_drewN ?_ _ | refine Below.setCell ?_ (by first | (simp; done) | (simp; omega)) _ | refine Below.alloc ?_ (by first | (simp; done) | (simp; omega) | omega) _ | refine Below.drew ?_ | refine Below.trans ?_ (Below.mono (by assumption) (by first | (simp; done) | (simp; omega) | omega))))
  clear hb1
  go_wp2_with fail
  refine (valid_true _ _ _ HA.out).mono ?_
  rintro e w2 ⟨rfl, hb2⟩
  have hz2 := hb2.size
  (try simp at hz2)
  have bb2 : Below w1.heap.size w1 w2 := (by repeat (first | exact Below.refl _ _ | assumption | refine below_drewN ?_ _ | refine Below.setCell ?_ (by first | (simp; done) | (simp; omega)) _ | refine Below.alloc ?_ (by first | (simp; done) | (simp; omega) | omega) _ | refine Below.drew ?_ | refine Below.trans ?_ (Below.mono (by assumption) (by first | (simp; done) | (simp; omega) | omega))))
  have l2_a : w.heap.size < w2.heap.size := by omega
  have a2_a : w2.cell? ⟨w.heap.size, 0, none⟩ = some (.int .i64 (an)) := cell_keep bb2 a1_a
  have c2_a : w2.cell? ⟨w.heap.size, 1, none⟩ = some (.int .i64 (ad)) := cell_keep bb2 c1_a
  have l2_b : w.heap.size + 1 < w2.heap.size := by omega
  have a2_b : w2.cell? ⟨w.heap.size + 1, 0, none⟩ = some (.int .i64 (bn)) := cell_keep bb2 a1_b
  have c2_b : w2.cell? ⟨w.heap.size + 1, 1, none⟩ = some (.int .i64 (bd)) := cell_keep bb2 c1_b
  have be2 : Below w.heap.size w w2 := (by repeat (first | exact Below.refl _ _ | assumption | refine below_drewN ?_ _ | refine Below.setCell ?_ (by first | (simp; done) | (simp; omega)) _ | refine Below.alloc ?_ (by first | (simp; done) | (simp; omega) | omega) _ | refine Below.drew ?_ | refine Below.trans ?_ (Below.mono (by assumption) (by first | (simp; done) | (simp; omega) | omega))))
  clear hb2 bb2 be1 l1_a a1_a c1_a l1_b a1_b c1_b
  go_wp2_with fail
  refine (valid_true _ _ _ HB.out).mono ?_
  rintro e w3 ⟨rfl, hb3⟩
  have hz3 := hb3.size
  (try simp at hz3)
  have bb3 : Below w2.heap.size w2 w3 := (by repeat (first | exact Below.refl _ _ | assumption | refine below_drewN ?_ _ | refine Below.setCell ?_ (by first | (simp; done) | (simp; omega)) _ | refine Below.alloc ?_ (by first | (simp; done) | (simp; omega) | omega) _ | refine Below.drew ?_ | refine Below.trans ?_ (Below.mono (by assumption) (by first | (simp; done) | (simp; omega) | omega))))
  have l3_a : w.heap.size < w3.heap.size := by omega
  have a3_a : w3.cell? ⟨w.heap.size, 0, none⟩ = some (.int .i64 (an)) := cell_keep bb3 a2_a
  have c3_a : w3.cell? ⟨w.heap.size, 1, none⟩ = some (.int .i64 (ad)) := cell_keep bb3 c2_a
  have l3_b : w.heap.size + 1 < w3.heap.size := by omega
  have a3_b : w3.cell? ⟨w.heap.size + 1, 0, none⟩ = some (.int .i64 (bn)) := cell_keep bb3 a2_b
  have c3_b : w3.cell? ⟨w.heap.size + 1, 1, none⟩ = some (.int .i64 (bd)) := cell_keep bb3 c2_b
  have be3 : Below w.heap.size w w3 := (by repeat (first | exact Below.refl _ _ | assumption | refine below_drewN ?_ _ | refine Below.setCell ?_ (by first | (simp; done) | (simp; omega)) _ | refine Below.alloc ?_ (by first | (simp; done) | (simp; omega) | omega) _ | refine Below.drew ?_ | refine Below.trans ?_ (Below.mono (by assumption) (by first | (simp; done) | (simp; omega) | omega))))
  clear hb3 bb3 be2 l2_a a2_a c2_a l2_b a2_b c2_b
  go_wp2_with fail
  refine (add_any an ad bn bd _ (by omega) (by omega) (by omega) (by omega)).mono ?_
  rintro e w4 ⟨rfl, hb4⟩
  rw [H1.out]
  have hz4 := hb4.size
  (try simp at hz4)
  have bb4 : Below w3.heap.size w3 w4 := (by repeat (first | exact Below.refl _ _ | assumption | refine below_drewN ?_ _ | refine Below.setCell ?_ (by first | (simp; done) | (simp; omega)) _ | refine Below.alloc ?_ (by first | (simp; done) | (simp; omega) | omega) _ | refine Below.drew ?_ | refine Below.trans ?_ (Below.mono (by assumption) (by first | (simp; done) | (simp; omega) | omega))))
  have l4_a : w.heap.size < w4.heap.size := by omega
  have a4_a : w4.cell? ⟨w.heap.size, 0, none⟩ = some (.int .i64 (an)) := cell_keep bb4 a3_a
  have c4_a : w4.cell? ⟨w.heap.size, 1, none⟩ = some (.int .i64 (ad)) := cell_keep bb4 c3_a
  have l4_b : w.heap.size + 1 < w4.heap.size := by omega
  have a4_b : w4.cell? ⟨w.heap.size + 1, 0, none⟩ = some (.int .i64 (bn)) := cell_keep bb4 a3_b
  have c4_b : w4.cell? ⟨w.heap.size + 1, 1, none⟩ = some (.int .i64 (bd)) := cell_keep bb4 c3_b
  have be4 : Below w.heap.size w w4 := (by repeat (first | exact Below.refl _ _ | assumption | refine below_drewN ?_ _ | refine Below.setCell ?_ (by first | (simp; done) | (simp; omega)) _ | refine Below.alloc ?_ (by first | (simp; done) | (simp; omega) | omega) _ | refine Below.drew ?_ | refine Below.trans ?_ (Below.mono (by assumption) (by first | (simp; done) | (simp; omega) | omega))))
  clear hb4 bb4 be3 l3_a a3_a c3_a l3_b a3_b c3_b
  simp only [RV]
  go_wp2_with fail
  refine (sub_any an ad bn bd _ (by omega) (by omega) (by omega) (by omega)).mono ?_
  rintro e w5 ⟨rfl, hb5⟩
  rw [H2.out]
  have hz5 := hb5.size
  (try simp at hz5)
  have bb5 : Below w4.heap.size w4 w5 := (by repeat (first | exact Below.refl _ _ | assumption | refine below_drewN ?_ _ | refine Below.setCell ?_ (by first | (simp; done) | (simp; omega)) _ | refine Below.alloc ?_ (by first | (simp; done) | (simp; omega) | omega) _ | refine Below.drew ?_ | refine Below.trans ?_ (Below.mono (by assumption) (by first | (simp; done) | (simp; omega) | omega))))
  have l5_a : w.heap.size < w5.heap.size := by omega
  have a5_a : w5.cell? ⟨w.heap.size, 0, none⟩ = some (.int .i64 (an)) := cell_keep bb5 a4_a
  have c5_a : w5.cell? ⟨w.heap.size, 1, none⟩ = some (.int .i64 (ad)) := cell_keep bb5 c4_a
  have l5_b : w.heap.size + 1 < w5.heap.size := by omega
  have a5_b : w5.cell? ⟨w.heap.size + 1, 0, none⟩ = some (.int .i64 (bn)) := cell_keep bb5 a4_b
  have c5_b : w5.cell? ⟨w.heap.size + 1, 1, none⟩ = some (.int .i64 (bd)) := cell_keep bb5 c4_b
  have l5_s : w4.heap.size < w5.heap.size := by omega
  have a5_s : w5.cell? ⟨w4.heap.size, 0, none⟩ = some (.int .i64 (s1)) := cell_keep hb5 (by go_simp)
  have c5_s : w5.cell? ⟨w4.heap.size, 1, none⟩ = some (.int .i64 (s2)) := cell_keep hb5 (by go_simp)
  have be5 : Below w.heap.size w w5 := (by repeat (first | exact Below.refl _ _ | assumption | refine below_drewN ?_ _ | refine Below.setCell ?_ (by first | (simp; done) | (simp; omega)) _ | refine Below.alloc ?_ (by first | (simp; done) | (simp; omega) | omega) _ | refine Below.drew ?_ | refine Below.trans ?_ (Below.mono (by assumption) (by first | (simp; done) | (simp; omega) | omega))))
  clear hb5 bb5 be4 l4_a a4_a c4_a l4_b a4_b c4_b
  simp only [RV]
  go_wp2_with fail
  refine (mul_any an ad bn bd _ (by omega) (by omega) (by omega) (by omega)).mono ?_
  rintro e w6 ⟨rfl, hb6⟩
  rw [H3.out]
  have hz6 := hb6.size
  (try simp at hz6)
  have bb6 : Below w5.heap.size w5 w6 := (by repeat (first | exact Below.refl _ _ | assumption | refine below_drewN ?_ _ | refine Below.setCell ?_ (by first | (simp; done) | (simp; omega)) _ | refine Below.alloc ?_ (by first | (simp; done) | (simp; omega) | omega) _ | refine Below.drew ?_ | refine Below.trans ?_ (Below.mono (by assumption) (by first | (simp; done) | (simp; omega) | omega))))
  have l6_a : w.heap.size < w6.heap.size := by omega
  have a6_a : w6.cell? ⟨w.heap.size, 0, none⟩ = some (.int .i64 (an)) := cell_keep bb6 a5_a
  have c6_a : w6.cell? ⟨w.heap.size, 1, none⟩ = some (.int .i64 (ad)) := cell_keep bb6 c5_a
  have l6_b : w.heap.size + 1 < w6.heap.size := by omega
  have a6_b : w6.cell? ⟨w.heap.size + 1, 0, none⟩ = some (.int .i64 (bn)) := cell_keep bb6 a5_b
  have c6_b : w6.cell? ⟨w.heap.size + 1, 1, none⟩ = some (.int .i64 (bd)) := cell_keep bb6 c5_b
  have l6_s : w4.heap.size < w6.heap.size := by omega
  have a6_s : w6.cell? ⟨w4.heap.size, 0, none⟩ = some (.int .i64 (s1)) := cell_keep bb6 a5_s
  have c6_s : w6.cell? ⟨w4.heap.size, 1, none⟩ = some (.int .i64 (s2)) := cell_keep bb6 c5_s
  have l6_d : w5.heap.size < w6.heap.size := by omega
  have a6_d : w6.cell? ⟨w5.heap.size, 0, none⟩ = some (.int .i64 (d1)) := cell_keep hb6 (by go_simp)
  have c6_d : w6.cell? ⟨w5.heap.size, 1, none⟩ = some (.int .i64 (d2)) := cell_keep hb6 (by go_simp)
  have be6 : Below w.heap.size w w6 := (by repeat (first | exact Below.refl _ _ | assumption | refine below_drewN ?_ _ | refine Below.setCell ?_ (by first | (simp; done) | (simp; omega)) _ | refine Below.alloc ?_ (by first | (simp; done) | (simp; omega) | omega) _ | refine Below.drew ?_ | refine Below.trans ?_ (Below.mono (by assumption) (by first | (simp; done) | (simp; omega) | omega))))
  clear hb6 bb6 be5 l5_a a5_a c5_a l5_b a5_b c5_b l5_s a5_s c5_s
  simp only [RV]
  go_wp2_with fail
  refine (div_any an ad bn bd _ (by omega) (by omega) (by omega) (by omega)).mono ?_
  rintro e w7 ⟨rfl, hb7⟩
  rw [H4.out]
  have hz7 := hb7.size
  (try simp at hz7)
  have bb7 : Below w6.heap.size w6 w7 := (by repeat (first | exact Below.refl _ _ | assumption | refine below_drewN ?_ _ | refine Below.setCell ?_ (by first | (simp; done) | (simp; omega)) _ | refine Below.alloc ?_ (by first | (simp; done) | (simp; omega) | omega) _ | refine Below.drew ?_ | refine Below.trans ?_ (Below.mono (by assumption) (by first | (simp; done) | (simp; omega) | omega))))
  have l7_a : w.heap.size < w7.heap.size := by omega
  have a7_a : w7.cell? ⟨w.heap.size, 0, none⟩ = some (.int .i64 (an)) := cell_keep bb7 a6_a
  have c7_a : w7.cell? ⟨w.heap.size, 1, none⟩ = some (.int .i64 (ad)) := cell_keep bb7 c6_a
  have l7_b : w.heap.size + 1 < w7.heap.size := by omega
  have a7_b : w7.cell? ⟨w.heap.size + 1, 0, none⟩ = some (.int .i64 (bn)) := cell_keep bb7 a6_b
  have c7_b : w7.cell? ⟨w.heap.size + 1, 1, none⟩ = some (.int .i64 (bd)) := cell_keep bb7 c6_b
  have l7_s : w4.heap.size < w7.heap.size := by omega
  have a7_s : w7.cell? ⟨w4.heap.size, 0, none⟩ = some (.int .i64 (s1)) := cell_keep bb7 a6_s
  have c7_s : w7.cell? ⟨w4.heap.size, 1, none⟩ = some (.int .i64 (s2)) := cell_keep bb7 c6_s
  have l7_d : w5.heap.size < w7.heap.size := by omega
  have a7_d : w7.cell? ⟨w5.heap.size, 0, none⟩ = some (.int .i64 (d1)) := cell_keep bb7 a6_d
  have c7_d : w7.cell? ⟨w5.heap.size, 1, none⟩ = some (.int .i64 (d2)) := cell_keep bb7 c6_d
  have l7_p : w6.heap.size < w7.heap.size := by omega
  have a7_p : w7.cell? ⟨w6.heap.size, 0, none⟩ = some (.int .i64 (p1)) := cell_keep hb7 (by go_simp)
  have c7_p : w7.cell? ⟨w6.heap.size, 1, none⟩ = some (.int .i64 (p2)) := cell_keep hb7 (by go_simp)
  have be7 : Below w.heap.size w w7 := (by repeat (first | exact Below.refl _ _ | assumption | refine below_drewN ?_ _ | refine Below.setCell ?_ (by first | (simp; done) | (simp; omega)) _ | refine Below.alloc ?_ (by first | (simp; done) | (simp; omega) | omega) _ | refine Below.drew ?_ | refine Below.trans ?_ (Below.mono (by assumption) (by first | (simp; done) | (simp; omega) | omega))))
  clear hb7 bb7 be6 l6_a a6_a c6_a l6_b a6_b c6_b l6_s a6_s c6_s l6_d a6_d c6_d
  simp only [RV]
  go_wp2_with fail
  refine (valid_true _ _ _ O1.out).mono ?_
  rintro e w8 ⟨rfl, hb8⟩
  have hz8 := hb8.size
  (try simp at hz8)
  have bb8 : Below w7.heap.size w7 w8 := (by repeat (first | exact Below.refl _ _ | assumption | refine below_drewN ?_ _ | refine Below.setCell ?_ (by first | (simp; done) | (simp; omega)) _ | refine Below.alloc ?_ (by first | (simp; done) | (simp; omega) | omega) _ | refine Below.drew ?_ | refine Below.trans ?_ (Below.mono (by assumption) (by first | (simp; done) | (simp; omega) | omega))))
  have l8_a : w.heap.size < w8.heap.size := by omega
  have a8_a : w8.cell? ⟨w.heap.size, 0, none⟩ = some (.int .i64 (an)) := cell_keep bb8 a7_a
  have c8_a : w8.cell? ⟨w.heap.size, 1, none⟩ = some (.int .i64 (ad)) := cell_keep bb8 c7_a
  have l8_b : w.heap.size + 1 < w8.heap.size := by omega
  have a8_b : w8.cell? ⟨w.heap.size + 1, 0, none⟩ = some (.int .i64 (bn)) := cell_keep bb8 a7_b
  have c8_b : w8.cell? ⟨w.heap.size + 1, 1, none⟩ = some (.int .i64 (bd)) := cell_keep bb8 c7_b
  have l8_s : w4.heap.size < w8.heap.size := by omega
  have a8_s : w8.cell? ⟨w4.heap.size, 0, none⟩ = some (.int .i64 (s1)) := cell_keep bb8 a7_s
  have c8_s : w8.cell? ⟨w4.heap.size, 1, none⟩ = some (.int .i64 (s2)) := cell_keep bb8 c7_s
  have l8_d : w5.heap.size < w8.heap.size := by omega
  have a8_d : w8.cell? ⟨w5.heap.size, 0, none⟩ = some (.int .i64 (d1)) := cell_keep bb8 a7_d
  have c8_d : w8.cell? ⟨w5.heap.size, 1, none⟩ = some (.int .i64 (d2)) := cell_keep bb8 c7_d
  have l8_p : w6.heap.size < w8.heap.size := by omega
  have a8_p : w8.cell? ⟨w6.heap.size, 0, none⟩ = some (.int .i64 (p1)) := cell_keep bb8 a7_p
  have c8_p : w8.cell? ⟨w6.heap.size, 1, none⟩ = some (.int .i64 (p2)) := cell_keep bb8 c7_p
  have l8_q : w7.heap.size < w8.heap.size := by omega
  have a8_q : w8.cell? ⟨w7.heap.size, 0, none⟩ = some (.int .i64 (q1)) := cell_keep hb8 (by go_simp)
  have c8_q : w8.cell? ⟨w7.heap.size, 1, none⟩ = some (.int .i64 (q2)) := cell_keep hb8 (by go_simp)
  have be8 : Below w.heap.size w w8 := (by repeat (first | exact Below.refl _ _ | assumption | refine below_drewN ?_ _ | refine Below.setCell ?_ (by first | (simp; done) | (simp; omega)) _ | refine Below.alloc ?_ (by first | (simp; done) | (simp; omega) | omega) _ | refine Below.drew ?_ | refine Below.trans ?_ (Below.mono (by assumption) (by first | (simp; done) | (simp; omega) | omega))))
  clear hb8 bb8 be7 l7_a a7_a c7_a l7_b a7_b c7_b l7_s a7_s c7_s l7_d a7_d c7_d l7_p a7_p c7_p
  go_wp2_with fail
  refine (valid_true _ _ _ O2.out).mono ?_
  rintro e w9 ⟨rfl, hb9⟩
  have hz9 := hb9.size
  (try simp at hz9)
  have bb9 : Below w8.heap.size w8 w9 := (by repeat (first | exact Below.refl _ _ | assumption | refine below_drewN ?_ _ | refine Below.setCell ?_ (by first | (simp; done) | (simp; omega)) _ | refine Below.alloc ?_ (by first | (simp; done) | (simp; omega) | omega) _ | refine Below.drew ?_ | refine Below.trans ?_ (Below.mono (by assumption) (by first | (simp; done) | (simp; omega) | omega))))
  have l9_a : w.heap.size < w9.heap.size := by omega
  have a9_a : w9.cell? ⟨w.heap.size, 0, none⟩ = some (.int .i64 (an)) := cell_keep bb9 a8_a
  have c9_a : w9.cell? ⟨w.heap.size, 1, none⟩ = some (.int .i64 (ad)) := cell_keep bb9 c8_a
  have l9_b : w.heap.size + 1 < w9.heap.size := by omega
  have a9_b : w9.cell? ⟨w.heap.size + 1, 0, none⟩ = some (.int .i64 (bn)) := cell_keep bb9 a8_b
  have c9_b : w9.cell? ⟨w.heap.size + 1, 1, none⟩ = some (.int .i64 (bd)) := cell_keep bb9 c8_b
  have l9_s : w4.heap.size < w9.heap.size := by omega
  have a9_s : w9.cell? ⟨w4.heap.size, 0, none⟩ = some (.int .i64 (s1)) := cell_keep bb9 a8_s
  have c9_s : w9.cell? ⟨w4.heap.size, 1, none⟩ = some (.int .i64 (s2)) := cell_keep bb9 c8_s
  have l9_d : w5.heap.size < w9.heap.size := by omega
  have a9_d : w9.cell? ⟨w5.heap.size, 0, none⟩ = some (.int .i64 (d1)) := cell_keep bb9 a8_d
  have c9_d : w9.cell? ⟨w5.heap.size, 1, none⟩ = some (.int .i64 (d2)) := cell_keep bb9 c8_d
  have l9_p : w6.heap.size < w9.heap.size := by omega
  have a9_p : w9.cell? ⟨w6.heap.size, 0, none⟩ = some (.int .i64 (p1)) := cell_keep bb9 a8_p
  have c9_p : w9.cell? ⟨w6.heap.size, 1, none⟩ = some (.int .i64 (p2)) := cell_keep bb9 c8_p
  have l9_q : w7.heap.size < w9.heap.size := by omega
  have a9_q : w9.cell? ⟨w7.heap.size, 0, none⟩ = some (.int .i64 (q1)) := cell_keep bb9 a8_q
  have c9_q : w9.cell? ⟨w7.heap.size, 1, none⟩ = some (.int .i64 (q2)) := cell_keep bb9 c8_q
  have be9 : Below w.heap.size w w9 := (by repeat (first | exact Below.refl _ _ | assumption | refine below_drewN ?_ _ | refine Below.setCell ?_ (by first | (simp; done) | (simp; omega)) _ | refine Below.alloc ?_ (by first | (simp; done) | (simp; omega) | omega) _ | refine Below.drew ?_ | refine Below.trans ?_ (Below.mono (by assumption) (by first | (simp; done) | (simp; omega) | omega))))
  clear hb9 bb9 be8 l8_a a8_a c8_a l8_b a8_b c8_b l8_s a8_s c8_s l8_d a8_d c8_d l8_p a8_p c8_p l8_q a8_q c8_q
  go_wp2_with fail
  refine (valid_true _ _ _ O3.out).mono ?_
  rintro e w10 ⟨rfl, hb10⟩
  have hz10 := hb10.size
  (try simp at hz10)
  have bb10 : Below w9.heap.size w9 w10 := (by repeat (first | exact Below.refl _ _ | assumption | refine below_drewN ?_ _ | refine Below.setCell ?_ (by first | (simp; done) | (simp; omega)) _ | refine Below.alloc ?_ (by first | (simp; done) | (simp; omega) | omega) _ | refine Below.drew ?_ | refine Below.trans ?_ (Below.mono (by assumption) (by first | (simp; done) | (simp; omega) | omega))))
  have l10_a : w.heap.size < w10.heap.size := by omega
  have a10_a : w10.cell? ⟨w.heap.size, 0, none⟩ = some (.int .i64 (an)) := cell_keep bb10 a9_a
  have c10_a : w10.cell? ⟨w.heap.size, 1, none⟩ = some (.int .i64 (ad)) := cell_keep bb10 c9_a
  have l10_b : w.heap.size + 1 < w10.heap.size := by omega
  have a10_b : w10.cell? ⟨w.heap.size + 1, 0, none⟩ = some (.int .i64 (bn)) := cell_keep bb10 a9_b
  have c10_b : w10.cell? ⟨w.heap.size + 1, 1, none⟩ = some (.int .i64 (bd)) := cell_keep bb10 c9_b
  have l10_s : w4.heap.size < w10.heap.size := by omega
  have a10_s : w10.cell? ⟨w4.heap.size, 0, none⟩ = some (.int .i64 (s1)) := cell_keep bb10 a9_s
  have c10_s : w10.cell? ⟨w4.heap.size, 1, none⟩ = some (.int .i64 (s2)) := cell_keep bb10 c9_s
  have l10_d : w5.heap.size < w10.heap.size := by omega
  have a10_d : w10.cell? ⟨w5.heap.size, 0, none⟩ = some (.int .i64 (d1)) := cell_keep bb10 a9_d
  have c10_d : w10.cell? ⟨w5.heap.size, 1, none⟩ = some (.int .i64 (d2)) := cell_keep bb10 c9_d
  have l10_p : w6.heap.size < w10.heap.size := by omega
  have a10_p : w10.cell? ⟨w6.heap.size, 0, none⟩ = some (.int .i64 (p1)) := cell_keep bb10 a9_p
  have c10_p : w10.cell? ⟨w6.heap.size, 1, none⟩ = some (.int .i64 (p2)) := cell_keep bb10 c9_p
  have l10_q : w7.heap.size < w10.heap.size := by omega
  have a10_q : w10.cell? ⟨w7.heap.size, 0, none⟩ = some (.int .i64 (q1)) := cell_keep bb10 a9_q
  have c10_q : w10.cell? ⟨w7.heap.size, 1, none⟩ = some (.int .i64 (q2)) := cell_keep bb10 c9_q
  have be10 : Below w.heap.size w w10 := (by repeat (first | exact Below.refl _ _ | assumption | refine below_drewN ?_ _ | refine Below.setCell ?_ (by first | (simp; done) | (simp; omega)) _ | refine Below.alloc ?_ (by first | (simp; done) | (simp; omega) | omega) _ | refine Below.drew ?_ | refine Below.trans ?_ (Below.mono (by assumption) (by first | (simp; done) | (simp; omega) | omega))))
  clear hb10 bb10 be9 l9_a a9_a c9_a l9_b a9_b c9_b l9_s a9_s c9_s l9_d a9_d c9_d l9_p a9_p c9_p l9_q a9_q c9_q
  go_wp2_with fail
  refine (valid_true _ _ _ O4.out).mono ?_
  rintro e w11 ⟨rfl, hb11⟩
  have hz11 := hb11.size
  (try simp at hz11)
  have bb11 : Below w10.heap.size w10 w11 := (by repeat (first | exact Below.refl _ _ | assumption | refine below_drewN ?_ _ | refine Below.setCell ?_ (by first | (simp; done) | (simp; omega)) _ | refine Below.alloc ?_ (by first | (simp; done) | (simp; omega) | omega) _ | refine Below.drew ?_ | refine Below.trans ?_ (Below.mono (by assumption) (by first | (simp; done) | (simp; omega) | omega))))
  have l11_a : w.heap.size < w11.heap.size := by omega
  have a11_a : w11.cell? ⟨w.heap.size, 0, none⟩ = some (.int .i64 (an)) := cell_keep bb11 a10_a
  have c11_a : w11.cell? ⟨w.heap.size, 1, none⟩ = some (.int .i64 (ad)) := cell_keep bb11 c10_a
  have l11_b : w.heap.size + 1 < w11.heap.size := by omega
  have a11_b : w11.cell? ⟨w.heap.size + 1, 0, none⟩ = some (.int .i64 (bn)) := cell_keep bb11 a10_b
  have c11_b : w11.cell? ⟨w.heap.size + 1, 1, none⟩ = some (.int .i64 (bd)) := cell_keep bb11 c10_b
  have l11_s : w4.heap.size < w11.heap.size := by omega
  have a11_s : w11.cell? ⟨w4.heap.size, 0, none⟩ = some (.int .i64 (s1)) := cell_keep bb11 a10_s
  have c11_s : w11.cell? ⟨w4.heap.size, 1, none⟩ = some (.int .i64 (s2)) := cell_keep bb11 c10_s
  have l11_d : w5.heap.size < w11.heap.size := by omega
  have a11_d : w11.cell? ⟨w5.heap.size, 0, none⟩ = some (.int .i64 (d1)) := cell_keep bb11 a10_d
  have c11_d : w11.cell? ⟨w5.heap.size, 1, none⟩ = some (.int .i64 (d2)) := cell_keep bb11 c10_d
  have l11_p : w6.heap.size < w11.heap.size := by omega
  have a11_p : w11.cell? ⟨w6.heap.size, 0, none⟩ = some (.int .i64 (p1)) := cell_keep bb11 a10_p
  have c11_p : w11.cell? ⟨w6.heap.size, 1, none⟩ = some (.int .i64 (p2)) := cell_keep bb11 c10_p
  have l11_q : w7.heap.size < w11.heap.size := by omega
  have a11_q : w11.cell? ⟨w7.heap.size, 0, none⟩ = some (.int .i64 (q1)) := cell_keep bb11 a10_q
  have c11_q : w11.cell? ⟨w7.heap.size, 1, none⟩ = some (.int .i64 (q2)) := cell_keep bb11 c10_q
  have be11 : Below w.heap.size w w11 := (by repeat (first | exact Below.refl _ _ | assumption | refine below_drewN ?_ _ | refine Below.setCell ?_ (by first | (simp; done) | (simp; omega)) _ | refine Below.alloc ?_ (by first | (simp; done) | (simp; omega) | omega) _ | refine Below.drew ?_ | refine Below.trans ?_ (Below.mono (by assumption) (by first | (simp; done) | (simp; omega) | omega))))
  clear hb11 bb11 be10 l10_a a10_a c10_a l10_b a10_b c10_b l10_s a10_s c10_s l10_d a10_d c10_d l10_p a10_p c10_p l10_q a10_q c10_q
  go_wp2
  go_ret
  exact ⟨rfl, (by repeat (first | exact Below.refl _ _ | assumption | refine below_drewN ?_ _ | refine Below.setCell ?_ (by first | (simp; done) | (simp; omega)) _ | refine Below.alloc ?_ (by first | (simp; done) | (simp; omega) | omega) _ | refine Below.drew ?_ | refine Below.trans ?_ (Below.mono (by assumption) (by first | (simp; done) | (simp; omega) | omega))))⟩
theorem mk_small {n d : Int} (h1 : n.natAbs ≤ 1000000000000) (h0 : d ≠ 0) (h2 : d.natAbs ≤ 1000000) : ∃ p q : Int, Rt.mk n d = (p, q, 0) ∧ Rt.Ok p q ∧ p * d = n * q := by
  rcases Rt.mk_ok (n := n) h0 with ⟨p, q, a, b, c, _⟩ | ⟨_, _, h⟩
  · exact ⟨p, q, a, b, c⟩
  · have hg : 1 ≤ Nat.gcd n.natAbs d.natAbs := Nat.gcd_pos_of_pos_right _ (by omega)
    omega
theorem exact_any (an ad bn bd : Int) (w : World) (ka1 : -9223372036854775808 ≤ an) (ka2 : an ≤ 9223372036854775807) (_ : -9223372036854775808 ≤ ad) (_ : ad ≤ 9223372036854775807)
    (kb1 : -9223372036854775808 ≤ bn) (kb2 : bn ≤ 9223372036854775807) (_ : -9223372036854775808 ≤ bd) (_ : bd ≤ 9223372036854775807) (hE : Env w) :
    Calls Tryd.prog 10 #[.agg #[.int .i64 an, .int .i64 ad], .agg #[.int .i64 bn, .int .i64 bd]] w fun e w' => e = .returned (.bool true) ∧ Below w.heap.size w w' := by
  by_cases ha : Rt.Ok an ad
  · by_cases hb : Rt.Ok bn bd
    · by_cases g1 : 1000 < max (max (max an (-an)) bn) (-bn)
      · exact ex_mn an ad bn bd w hE ha hb g1
      by_cases g2 : 1000 < max ad bd
      · exact ex_md an ad bn bd w hE ha hb (by omega) g2
      have a1 := ha.1
      have b1 := hb.1
      have m1 := mulb (a := an) (m := 1000) (b := bd) (k := 1000) (by omega) (by omega) b1 (by omega) (by omega)
      have m2 := mulb (a := bn) (m := 1000) (b := ad) (k := 1000) (by omega) (by omega) a1 (by omega) (by omega)
      have m3 := mulb (a := ad) (m := 1000) (b := bd) (k := 1000) (by omega) (by omega) b1 (by omega) (by omega)
      have m4 := mul_bd (a := an) (b := bn) (by omega) (by omega) (by omega) (by omega)
      have d0 : ad * bd ≠ 0 := Rt.mul_ne (by omega) (by omega)
      obtain ⟨s1, s2, u1, u2, u3⟩ := mk_small (n := an * bd + bn * ad) (by omega) d0 (by omega)
      obtain ⟨t1, t2, v1, v2, v3⟩ := mk_small (n := an * bd - bn * ad) (by omega) d0 (by omega)
      obtain ⟨p1, p2, x1, x2, x3⟩ := mk_small (n := an * bn) (by omega) d0 (by omega)
      have g3 : -1000 ≤ an ∧ an ≤ 1000 ∧ -1000 ≤ bn ∧ bn ≤ 1000 := by omega
      have g4 : ad ≤ 1000 ∧ bd ≤ 1000 := by omega
      have e1 : Rt.addS an ad bn bd = (s1, s2, 0) := by unfold Rt.addS; rw [if_pos ⟨ha, hb⟩]; exact u1
      have e2 : Rt.subS an ad bn bd = (t1, t2, 0) := by unfold Rt.subS; rw [if_pos ⟨ha, hb⟩]; exact v1
      have e3 : Rt.mulS an ad bn bd = (p1, p2, 0) := by unfold Rt.mulS; rw [if_pos ⟨ha, hb⟩]; exact x1
      by_cases hz : bn = 0
      · exact ex_zero an ad bn bd w hE ha hb g3 g4 s1 s2 t1 t2 p1 p2 e1 e2 e3 u2 v2 x2 u3 v3 x3 (by unfold Rt.divS; rw [if_pos ⟨ha, hb⟩, hz, Int.mul_zero]; exact Rt.mk_zero _) hz
      · obtain ⟨q1, q2, y1, y2, y3⟩ := mk_small (n := an * bd) (d := ad * bn) (by omega) (Rt.mul_ne (by omega) hz) (by rw [Int.mul_comm]; omega)
        exact ex_in an ad bn bd w hE ha hb g3 g4 s1 s2 t1 t2 p1 p2 q1 q2 e1 e2 e3 u2 v2 x2 u3 v3 x3 (by unfold Rt.divS; rw [if_pos ⟨ha, hb⟩]; exact y1) hz y2 y3
    · exact ex_b an ad bn bd w hE kb1 kb2 ha hb
  · exact ex_a an ad bn bd w hE ka1 ka2 ha
end Go.Proofs.YtnfbagihbgmpfaaDoor

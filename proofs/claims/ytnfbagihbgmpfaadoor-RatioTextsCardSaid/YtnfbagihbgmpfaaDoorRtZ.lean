/- RatioTexts: the walk of the law. -/
import Derived.Test.YtnfbagihbgmpfaaDoorRtK
import Derived.Test.YtnfbagihbgmpfaaDoorRtMath5
namespace Go.Proofs.YtnfbagihbgmpfaaDoor
open Go.RowKit

set_option maxRecDepth 100000 in
set_option maxHeartbeats 4000000 in
theorem tx_long (an ad : Int) (l : List UInt8) (w : World) (hE : Env w) (hl : 1000 < l.length) :
    Calls Tryd.prog 9 #[.agg #[.int .i64 an, .int .i64 ad], .string ⟨l.toArray⟩] w fun e w' => e = .returned (.bool true) ∧ Below w.heap.size w w' := by
  have HE := Lib.hid hE
  clear hE
  go_enter Tryd.func9, Tryd.ntmps9
  go_wp2_with fail
  refine (head_any _ (HE.out.below (by repeat (first | exact Below.refl _ _ | assumption | refine below_drewN ?_ _ | refine Below.setCell ?_ (by first | (simp; done) | (simp; omega)) _ | refine Below.alloc ?_ (by first | (simp; done) | (simp; omega) | omega) _ | refine Below.drew ?_ | refine Below.trans ?_ (Below.mono (by assumption) (by first | (simp; done) | (simp; omega) | omega)))))).mono ?_
  rintro e w1 ⟨rfl, hb1⟩
  have hz1 := hb1.size
  (try simp at hz1)
  have l1_a : w.heap.size < w1.heap.size := by omega
  have a1_a : w1.cell? ⟨w.heap.size, 0, none⟩ = some (.int .i64 (an)) := cell_keep hb1 (by go_simp)
  have c1_a : w1.cell? ⟨w.heap.size, 1, none⟩ = some (.int .i64 (ad)) := cell_keep hb1 (by go_simp)
  have be1 : Below w.heap.size w w1 := (by repeat (first | exact Below.refl _ _ | assumption | refine below_drewN ?_ _ | refine Below.setCell ?_ (by first | (simp; done) | (simp; omega)) _ | refine Below.alloc ?_ (by first | (simp; done) | (simp; omega) | omega) _ | refine Below.drew ?_ | refine Below.trans ?_ (Below.mono (by assumption) (by first | (simp; done) | (simp; omega) | omega))))
  clear hb1
  go_wp2
  go_ret
  exact ⟨rfl, (by repeat (first | exact Below.refl _ _ | assumption | refine below_drewN ?_ _ | refine Below.setCell ?_ (by first | (simp; done) | (simp; omega)) _ | refine Below.alloc ?_ (by first | (simp; done) | (simp; omega) | omega) _ | refine Below.drew ?_ | refine Below.trans ?_ (Below.mono (by assumption) (by first | (simp; done) | (simp; omega) | omega))))⟩
set_option maxRecDepth 100000 in
set_option maxHeartbeats 4000000 in
theorem tx_oo (an ad : Int) (l : List UInt8) (w : World) (hE : Env w) (hl : l.length ≤ 1000) (ha : Rt.Ok an ad) (tx : List UInt8) (ht : Rt.textS an ad = tx) (hlx : tx.length ≤ 4294967280) (hne : tx ≠ []) (hp : Rt.parseS tx = (an, ad, 0)) (n d : Int) (hq : Rt.parseS l = (n, d, 0)) (ho : Rt.Ok n d) (hu : Rt.textS n d = l) :
    Calls Tryd.prog 9 #[.agg #[.int .i64 an, .int .i64 ad], .string ⟨l.toArray⟩] w fun e w' => e = .returned (.bool true) ∧ Below w.heap.size w w' := by
  have HE := Lib.hid hE
  clear hE
  have HA := Lib.hid ha
  have HT := Lib.hid ht
  have HL := Lib.hid hlx
  have HP := Lib.hid hp
  have ne1 : tx.isEmpty = false := by simpa using hne
  have ne2 : (tx == []) = false := by simpa using hne
  obtain ⟨a1, a2, a3, a4, _⟩ := ha
  clear ht hlx hp
  have HQ := Lib.hid hq
  have HO := Lib.hid ho
  have HU := Lib.hid hu
  obtain ⟨b1, b2, b3, b4, _⟩ := ho
  clear hq hu
  go_enter Tryd.func9, Tryd.ntmps9
  go_wp2_with fail
  refine (head_any _ (HE.out.below (by repeat (first | exact Below.refl _ _ | assumption | refine below_drewN ?_ _ | refine Below.setCell ?_ (by first | (simp; done) | (simp; omega)) _ | refine Below.alloc ?_ (by first | (simp; done) | (simp; omega) | omega) _ | refine Below.drew ?_ | refine Below.trans ?_ (Below.mono (by assumption) (by first | (simp; done) | (simp; omega) | omega)))))).mono ?_
  rintro e w1 ⟨rfl, hb1⟩
  have hz1 := hb1.size
  (try simp at hz1)
  have l1_a : w.heap.size < w1.heap.size := by omega
  have a1_a : w1.cell? ⟨w.heap.size, 0, none⟩ = some (.int .i64 (an)) := cell_keep hb1 (by go_simp)
  have c1_a : w1.cell? ⟨w.heap.size, 1, none⟩ = some (.int .i64 (ad)) := cell_keep hb1 (by go_simp)
  have be1 : Below w.heap.size w w1 := (by repeat (first | exact Below.refl _ _ | assumption | refine below_drewN ?_ _ | refine Below.setCell ?_ (by first | (simp; done) | (simp; omega)) _ | refine Below.alloc ?_ (by first | (simp; done) | (simp; omega) | omega) _ | refine Below.drew ?_ | refine Below.trans ?_ (Below.mono (by assumption) (by first | (simp; done) | (simp; omega) | omega))))
  clear hb1
  go_wp2_with fail
  refine (text_any an ad _ (by omega) (by omega) (HE.out.below (by repeat (first | exact Below.refl _ _ | assumption | refine below_drewN ?_ _ | refine Below.setCell ?_ (by first | (simp; done) | (simp; omega)) _ | refine Below.alloc ?_ (by first | (simp; done) | (simp; omega) | omega) _ | refine Below.drew ?_ | refine Below.trans ?_ (Below.mono (by assumption) (by first | (simp; done) | (simp; omega) | omega)))))).mono ?_
  rintro e w2 ⟨rfl, hb2⟩
  rw [HT.out]
  have hz2 := hb2.size
  (try simp at hz2)
  have bb2 : Below w1.heap.size w1 w2 := (by repeat (first | exact Below.refl _ _ | assumption | refine below_drewN ?_ _ | refine Below.setCell ?_ (by first | (simp; done) | (simp; omega)) _ | refine Below.alloc ?_ (by first | (simp; done) | (simp; omega) | omega) _ | refine Below.drew ?_ | refine Below.trans ?_ (Below.mono (by assumption) (by first | (simp; done) | (simp; omega) | omega))))
  have l2_a : w.heap.size < w2.heap.size := by omega
  have a2_a : w2.cell? ⟨w.heap.size, 0, none⟩ = some (.int .i64 (an)) := cell_keep bb2 a1_a
  have c2_a : w2.cell? ⟨w.heap.size, 1, none⟩ = some (.int .i64 (ad)) := cell_keep bb2 c1_a
  have be2 : Below w.heap.size w w2 := (by repeat (first | exact Below.refl _ _ | assumption | refine below_drewN ?_ _ | refine Below.setCell ?_ (by first | (simp; done) | (simp; omega)) _ | refine Below.alloc ?_ (by first | (simp; done) | (simp; omega) | omega) _ | refine Below.drew ?_ | refine Below.trans ?_ (Below.mono (by assumption) (by first | (simp; done) | (simp; omega) | omega))))
  clear hb2 bb2 be1 l1_a a1_a c1_a
  go_wp2_with fail
  refine (valid_true _ _ _ HA.out).mono ?_
  rintro e w3 ⟨rfl, hb3⟩
  have hz3 := hb3.size
  (try simp at hz3)
  have bb3 : Below w2.heap.size w2 w3 := (by repeat (first | exact Below.refl _ _ | assumption | refine below_drewN ?_ _ | refine Below.setCell ?_ (by first | (simp; done) | (simp; omega)) _ | refine Below.alloc ?_ (by first | (simp; done) | (simp; omega) | omega) _ | refine Below.drew ?_ | refine Below.trans ?_ (Below.mono (by assumption) (by first | (simp; done) | (simp; omega) | omega))))
  have l3_a : w.heap.size < w3.heap.size := by omega
  have a3_a : w3.cell? ⟨w.heap.size, 0, none⟩ = some (.int .i64 (an)) := cell_keep bb3 a2_a
  have c3_a : w3.cell? ⟨w.heap.size, 1, none⟩ = some (.int .i64 (ad)) := cell_keep bb3 c2_a
  have be3 : Below w.heap.size w w3 := (by repeat (first | exact Below.refl _ _ | assumption | refine below_drewN ?_ _ | refine Below.setCell ?_ (by first | (simp; done) | (simp; omega)) _ | refine Below.alloc ?_ (by first | (simp; done) | (simp; omega) | omega) _ | refine Below.drew ?_ | refine Below.trans ?_ (Below.mono (by assumption) (by first | (simp; done) | (simp; omega) | omega))))
  clear hb3 bb3 be2 l2_a a2_a c2_a
  go_wp2_with fail
  refine (parse_any tx _ HL.out (HE.out.below (by repeat (first | exact Below.refl _ _ | assumption | refine below_drewN ?_ _ | refine Below.setCell ?_ (by first | (simp; done) | (simp; omega)) _ | refine Below.alloc ?_ (by first | (simp; done) | (simp; omega) | omega) _ | refine Below.drew ?_ | refine Below.trans ?_ (Below.mono (by assumption) (by first | (simp; done) | (simp; omega) | omega)))))).mono ?_
  rintro e w4 ⟨rfl, hb4⟩
  rw [HP.out]
  have hz4 := hb4.size
  (try simp at hz4)
  have bb4 : Below w3.heap.size w3 w4 := (by repeat (first | exact Below.refl _ _ | assumption | refine below_drewN ?_ _ | refine Below.setCell ?_ (by first | (simp; done) | (simp; omega)) _ | refine Below.alloc ?_ (by first | (simp; done) | (simp; omega) | omega) _ | refine Below.drew ?_ | refine Below.trans ?_ (Below.mono (by assumption) (by first | (simp; done) | (simp; omega) | omega))))
  have l4_a : w.heap.size < w4.heap.size := by omega
  have a4_a : w4.cell? ⟨w.heap.size, 0, none⟩ = some (.int .i64 (an)) := cell_keep bb4 a3_a
  have c4_a : w4.cell? ⟨w.heap.size, 1, none⟩ = some (.int .i64 (ad)) := cell_keep bb4 c3_a
  have be4 : Below w.heap.size w w4 := (by repeat (first | exact Below.refl _ _ | assumption | refine below_drewN ?_ _ | refine Below.setCell ?_ (by first | (simp; done) | (simp; omega)) _ | refine Below.alloc ?_ (by first | (simp; done) | (simp; omega) | omega) _ | refine Below.drew ?_ | refine Below.trans ?_ (Below.mono (by assumption) (by first | (simp; done) | (simp; omega) | omega))))
  clear hb4 bb4 be3 l3_a a3_a c3_a
  simp only [RV]
  go_wp2_with fail
  refine (parse_any l _ (by omega) (HE.out.below (by repeat (first | exact Below.refl _ _ | assumption | refine below_drewN ?_ _ | refine Below.setCell ?_ (by first | (simp; done) | (simp; omega)) _ | refine Below.alloc ?_ (by first | (simp; done) | (simp; omega) | omega) _ | refine Below.drew ?_ | refine Below.trans ?_ (Below.mono (by assumption) (by first | (simp; done) | (simp; omega) | omega)))))).mono ?_
  rintro e w5 ⟨rfl, hb5⟩
  rw [HQ.out]
  have hz5 := hb5.size
  (try simp at hz5)
  have bb5 : Below w4.heap.size w4 w5 := (by repeat (first | exact Below.refl _ _ | assumption | refine below_drewN ?_ _ | refine Below.setCell ?_ (by first | (simp; done) | (simp; omega)) _ | refine Below.alloc ?_ (by first | (simp; done) | (simp; omega) | omega) _ | refine Below.drew ?_ | refine Below.trans ?_ (Below.mono (by assumption) (by first | (simp; done) | (simp; omega) | omega))))
  have l5_a : w.heap.size < w5.heap.size := by omega
  have a5_a : w5.cell? ⟨w.heap.size, 0, none⟩ = some (.int .i64 (an)) := cell_keep bb5 a4_a
  have c5_a : w5.cell? ⟨w.heap.size, 1, none⟩ = some (.int .i64 (ad)) := cell_keep bb5 c4_a
  have l5_b : w4.heap.size < w5.heap.size := by omega
  have a5_b : w5.cell? ⟨w4.heap.size, 0, none⟩ = some (.int .i64 (an)) := cell_keep hb5 (by go_simp)
  have c5_b : w5.cell? ⟨w4.heap.size, 1, none⟩ = some (.int .i64 (ad)) := cell_keep hb5 (by go_simp)
  have be5 : Below w.heap.size w w5 := (by repeat (first | exact Below.refl _ _ | assumption | refine below_drewN ?_ _ | refine Below.setCell ?_ (by first | (simp; done) | (simp; omega)) _ | refine Below.alloc ?_ (by first | (simp; done) | (simp; omega) | omega) _ | refine Below.drew ?_ | refine Below.trans ?_ (Below.mono (by assumption) (by first | (simp; done) | (simp; omega) | omega))))
  clear hb5 bb5 be4 l4_a a4_a c4_a
  simp only [RV]
  go_wp2_with fail
  refine (valid_true _ _ _ HO.out).mono ?_
  rintro e w6 ⟨rfl, hb6⟩
  have hz6 := hb6.size
  (try simp at hz6)
  have bb6 : Below w5.heap.size w5 w6 := (by repeat (first | exact Below.refl _ _ | assumption | refine below_drewN ?_ _ | refine Below.setCell ?_ (by first | (simp; done) | (simp; omega)) _ | refine Below.alloc ?_ (by first | (simp; done) | (simp; omega) | omega) _ | refine Below.drew ?_ | refine Below.trans ?_ (Below.mono (by assumption) (by first | (simp; done) | (simp; omega) | omega))))
  have l6_a : w.heap.size < w6.heap.size := by omega
  have a6_a : w6.cell? ⟨w.heap.size, 0, none⟩ = some (.int .i64 (an)) := cell_keep bb6 a5_a
  have c6_a : w6.cell? ⟨w.heap.size, 1, none⟩ = some (.int .i64 (ad)) := cell_keep bb6 c5_a
  have l6_b : w4.heap.size < w6.heap.size := by omega
  have a6_b : w6.cell? ⟨w4.heap.size, 0, none⟩ = some (.int .i64 (an)) := cell_keep bb6 a5_b
  have c6_b : w6.cell? ⟨w4.heap.size, 1, none⟩ = some (.int .i64 (ad)) := cell_keep bb6 c5_b
  have l6_c : w5.heap.size < w6.heap.size := by omega
  have a6_c : w6.cell? ⟨w5.heap.size, 0, none⟩ = some (.int .i64 (n)) := cell_keep hb6 (by go_simp)
  have c6_c : w6.cell? ⟨w5.heap.size, 1, none⟩ = some (.int .i64 (d)) := cell_keep hb6 (by go_simp)
  have be6 : Below w.heap.size w w6 := (by repeat (first | exact Below.refl _ _ | assumption | refine below_drewN ?_ _ | refine Below.setCell ?_ (by first | (simp; done) | (simp; omega)) _ | refine Below.alloc ?_ (by first | (simp; done) | (simp; omega) | omega) _ | refine Below.drew ?_ | refine Below.trans ?_ (Below.mono (by assumption) (by first | (simp; done) | (simp; omega) | omega))))
  clear hb6 bb6 be5 l5_a a5_a c5_a l5_b a5_b c5_b
  go_wp2_with fail
  refine (text_any n d _ (by omega) (by omega) (HE.out.below (by repeat (first | exact Below.refl _ _ | assumption | refine below_drewN ?_ _ | refine Below.setCell ?_ (by first | (simp; done) | (simp; omega)) _ | refine Below.alloc ?_ (by first | (simp; done) | (simp; omega) | omega) _ | refine Below.drew ?_ | refine Below.trans ?_ (Below.mono (by assumption) (by first | (simp; done) | (simp; omega) | omega)))))).mono ?_
  rintro e w7 ⟨rfl, hb7⟩
  rw [HU.out]
  have hz7 := hb7.size
  (try simp at hz7)
  have bb7 : Below w6.heap.size w6 w7 := (by repeat (first | exact Below.refl _ _ | assumption | refine below_drewN ?_ _ | refine Below.setCell ?_ (by first | (simp; done) | (simp; omega)) _ | refine Below.alloc ?_ (by first | (simp; done) | (simp; omega) | omega) _ | refine Below.drew ?_ | refine Below.trans ?_ (Below.mono (by assumption) (by first | (simp; done) | (simp; omega) | omega))))
  have l7_a : w.heap.size < w7.heap.size := by omega
  have a7_a : w7.cell? ⟨w.heap.size, 0, none⟩ = some (.int .i64 (an)) := cell_keep bb7 a6_a
  have c7_a : w7.cell? ⟨w.heap.size, 1, none⟩ = some (.int .i64 (ad)) := cell_keep bb7 c6_a
  have l7_b : w4.heap.size < w7.heap.size := by omega
  have a7_b : w7.cell? ⟨w4.heap.size, 0, none⟩ = some (.int .i64 (an)) := cell_keep bb7 a6_b
  have c7_b : w7.cell? ⟨w4.heap.size, 1, none⟩ = some (.int .i64 (ad)) := cell_keep bb7 c6_b
  have l7_c : w5.heap.size < w7.heap.size := by omega
  have a7_c : w7.cell? ⟨w5.heap.size, 0, none⟩ = some (.int .i64 (n)) := cell_keep bb7 a6_c
  have c7_c : w7.cell? ⟨w5.heap.size, 1, none⟩ = some (.int .i64 (d)) := cell_keep bb7 c6_c
  have be7 : Below w.heap.size w w7 := (by repeat (first | exact Below.refl _ _ | assumption | refine below_drewN ?_ _ | refine Below.setCell ?_ (by first | (simp; done) | (simp; omega)) _ | refine Below.alloc ?_ (by first | (simp; done) | (simp; omega) | omega) _ | refine Below.drew ?_ | refine Below.trans ?_ (Below.mono (by assumption) (by first | (simp; done) | (simp; omega) | omega))))
  clear hb7 bb7 be6 l6_a a6_a c6_a l6_b a6_b c6_b l6_c a6_c c6_c
  go_wp2
  go_ret
  exact ⟨rfl, (by repeat (first | exact Below.refl _ _ | assumption | refine below_drewN ?_ _ | refine Below.setCell ?_ (by first | (simp; done) | (simp; omega)) _ | refine Below.alloc ?_ (by first | (simp; done) | (simp; omega) | omega) _ | refine Below.drew ?_ | refine Below.trans ?_ (Below.mono (by assumption) (by first | (simp; done) | (simp; omega) | omega))))⟩
set_option maxRecDepth 100000 in
set_option maxHeartbeats 4000000 in
theorem tx_on (an ad : Int) (l : List UInt8) (w : World) (hE : Env w) (hl : l.length ≤ 1000) (ha : Rt.Ok an ad) (tx : List UInt8) (ht : Rt.textS an ad = tx) (hlx : tx.length ≤ 4294967280) (hne : tx ≠ []) (hp : Rt.parseS tx = (an, ad, 0)) (hq : Rt.parseS l = (0, 0, 5)) :
    Calls Tryd.prog 9 #[.agg #[.int .i64 an, .int .i64 ad], .string ⟨l.toArray⟩] w fun e w' => e = .returned (.bool true) ∧ Below w.heap.size w w' := by
  have HE := Lib.hid hE
  clear hE
  have HA := Lib.hid ha
  have HT := Lib.hid ht
  have HL := Lib.hid hlx
  have HP := Lib.hid hp
  have ne1 : tx.isEmpty = false := by simpa using hne
  have ne2 : (tx == []) = false := by simpa using hne
  obtain ⟨a1, a2, a3, a4, _⟩ := ha
  clear ht hlx hp
  have HQ := Lib.hid hq
  clear hq
  go_enter Tryd.func9, Tryd.ntmps9
  go_wp2_with fail
  refine (head_any _ (HE.out.below (by repeat (first | exact Below.refl _ _ | assumption | refine below_drewN ?_ _ | refine Below.setCell ?_ (by first | (simp; done) | (simp; omega)) _ | refine Below.alloc ?_ (by first | (simp; done) | (simp; omega) | omega) _ | refine Below.drew ?_ | refine Below.trans ?_ (Below.mono (by assumption) (by first | (simp; done) | (simp; omega) | omega)))))).mono ?_
  rintro e w1 ⟨rfl, hb1⟩
  have hz1 := hb1.size
  (try simp at hz1)
  have l1_a : w.heap.size < w1.heap.size := by omega
  have a1_a : w1.cell? ⟨w.heap.size, 0, none⟩ = some (.int .i64 (an)) := cell_keep hb1 (by go_simp)
  have c1_a : w1.cell? ⟨w.heap.size, 1, none⟩ = some (.int .i64 (ad)) := cell_keep hb1 (by go_simp)
  have be1 : Below w.heap.size w w1 := (by repeat (first | exact Below.refl _ _ | assumption | refine below_drewN ?_ _ | refine Below.setCell ?_ (by first | (simp; done) | (simp; omega)) _ | refine Below.alloc ?_ (by first | (simp; done) | (simp; omega) | omega) _ | refine Below.drew ?_ | refine Below.trans ?_ (Below.mono (by assumption) (by first | (simp; done) | (simp; omega) | omega))))
  clear hb1
  go_wp2_with fail
  refine (text_any an ad _ (by omega) (by omega) (HE.out.below (by repeat (first | exact Below.refl _ _ | assumption | refine below_drewN ?_ _ | refine Below.setCell ?_ (by first | (simp; done) | (simp; omega)) _ | refine Below.alloc ?_ (by first | (simp; done) | (simp; omega) | omega) _ | refine Below.drew ?_ | refine Below.trans ?_ (Below.mono (by assumption) (by first | (simp; done) | (simp; omega) | omega)))))).mono ?_
  rintro e w2 ⟨rfl, hb2⟩
  rw [HT.out]
  have hz2 := hb2.size
  (try simp at hz2)
  have bb2 : Below w1.heap.size w1 w2 := (by repeat (first | exact Below.refl _ _ | assumption | refine below_drewN ?_ _ | refine Below.setCell ?_ (by first | (simp; done) | (simp; omega)) _ | refine Below.alloc ?_ (by first | (simp; done) | (simp; omega) | omega) _ | refine Below.drew ?_ | refine Below.trans ?_ (Below.mono (by assumption) (by first | (simp; done) | (simp; omega) | omega))))
  have l2_a : w.heap.size < w2.heap.size := by omega
  have a2_a : w2.cell? ⟨w.heap.size, 0, none⟩ = some (.int .i64 (an)) := cell_keep bb2 a1_a
  have c2_a : w2.cell? ⟨w.heap.size, 1, none⟩ = some (.int .i64 (ad)) := cell_keep bb2 c1_a
  have be2 : Below w.heap.size w w2 := (by repeat (first | exact Below.refl _ _ | assumption | refine below_drewN ?_ _ | refine Below.setCell ?_ (by first | (simp; done) | (simp; omega)) _ | refine Below.alloc ?_ (by first | (simp; done) | (simp; omega) | omega) _ | refine Below.drew ?_ | refine Below.trans ?_ (Below.mono (by assumption) (by first | (simp; done) | (simp; omega) | omega))))
  clear hb2 bb2 be1 l1_a a1_a c1_a
  go_wp2_with fail
  refine (valid_true _ _ _ HA.out).mono ?_
  rintro e w3 ⟨rfl, hb3⟩
  have hz3 := hb3.size
  (try simp at hz3)
  have bb3 : Below w2.heap.size w2 w3 := (by repeat (first | exact Below.refl _ _ | assumption | refine below_drewN ?_ _ | refine Below.setCell ?_ (by first | (simp; done) | (simp; omega)) _ | refine Below.alloc ?_ (by first | (simp; done) | (simp; omega) | omega) _ | refine Below.drew ?_ | refine Below.trans ?_ (Below.mono (by assumption) (by first | (simp; done) | (simp; omega) | omega))))
  have l3_a : w.heap.size < w3.heap.size := by omega
  have a3_a : w3.cell? ⟨w.heap.size, 0, none⟩ = some (.int .i64 (an)) := cell_keep bb3 a2_a
  have c3_a : w3.cell? ⟨w.heap.size, 1, none⟩ = some (.int .i64 (ad)) := cell_keep bb3 c2_a
  have be3 : Below w.heap.size w w3 := (by repeat (first | exact Below.refl _ _ | assumption | refine below_drewN ?_ _ | refine Below.setCell ?_ (by first | (simp; done) | (simp; omega)) _ | refine Below.alloc ?_ (by first | (simp; done) | (simp; omega) | omega) _ | refine Below.drew ?_ | refine Below.trans ?_ (Below.mono (by assumption) (by first | (simp; done) | (simp; omega) | omega))))
  clear hb3 bb3 be2 l2_a a2_a c2_a
  go_wp2_with fail
  refine (parse_any tx _ HL.out (HE.out.below (by repeat (first | exact Below.refl _ _ | assumption | refine below_drewN ?_ _ | refine Below.setCell ?_ (by first | (simp; done) | (simp; omega)) _ | refine Below.alloc ?_ (by first | (simp; done) | (simp; omega) | omega) _ | refine Below.drew ?_ | refine Below.trans ?_ (Below.mono (by assumption) (by first | (simp; done) | (simp; omega) | omega)))))).mono ?_
  rintro e w4 ⟨rfl, hb4⟩
  rw [HP.out]
  have hz4 := hb4.size
  (try simp at hz4)
  have bb4 : Below w3.heap.size w3 w4 := (by repeat (first | exact Below.refl _ _ | assumption | refine below_drewN ?_ _ | refine Below.setCell ?_ (by first | (simp; done) | (simp; omega)) _ | refine Below.alloc ?_ (by first | (simp; done) | (simp; omega) | omega) _ | refine Below.drew ?_ | refine Below.trans ?_ (Below.mono (by assumption) (by first | (simp; done) | (simp; omega) | omega))))
  have l4_a : w.heap.size < w4.heap.size := by omega
  have a4_a : w4.cell? ⟨w.heap.size, 0, none⟩ = some (.int .i64 (an)) := cell_keep bb4 a3_a
  have c4_a : w4.cell? ⟨w.heap.size, 1, none⟩ = some (.int .i64 (ad)) := cell_keep bb4 c3_a
  have be4 : Below w.heap.size w w4 := (by repeat (first | exact Below.refl _ _ | assumption | refine below_drewN ?_ _ | refine Below.setCell ?_ (by first | (simp; done) | (simp; omega)) _ | refine Below.alloc ?_ (by first | (simp; done) | (simp; omega) | omega) _ | refine Below.drew ?_ | refine Below.trans ?_ (Below.mono (by assumption) (by first | (simp; done) | (simp; omega) | omega))))
  clear hb4 bb4 be3 l3_a a3_a c3_a
  simp only [RV]
  go_wp2_with fail
  refine (parse_any l _ (by omega) (HE.out.below (by repeat (first | exact Below.refl _ _ | assumption | refine below_drewN ?_ _ | refine Below.setCell ?_ (by first | (simp; done) | (simp; omega)) _ | refine Below.alloc ?_ (by first | (simp; done) | (simp; omega) | omega) _ | refine Below.drew ?_ | refine Below.trans ?_ (Below.mono (by assumption) (by first | (simp; done) | (simp; omega) | omega)))))).mono ?_
  rintro e w5 ⟨rfl, hb5⟩
  rw [HQ.out]
  have hz5 := hb5.size
  (try simp at hz5)
  have bb5 : Below w4.heap.size w4 w5 := (by repeat (first | exact Below.refl _ _ | assumption | refine below_drewN ?_ _ | refine Below.setCell ?_ (by first | (simp; done) | (simp; omega)) _ | refine Below.alloc ?_ (by first | (simp; done) | (simp; omega) | omega) _ | refine Below.drew ?_ | refine Below.trans ?_ (Below.mono (by assumption) (by first | (simp; done) | (simp; omega) | omega))))
  have l5_a : w.heap.size < w5.heap.size := by omega
  have a5_a : w5.cell? ⟨w.heap.size, 0, none⟩ = some (.int .i64 (an)) := cell_keep bb5 a4_a
  have c5_a : w5.cell? ⟨w.heap.size, 1, none⟩ = some (.int .i64 (ad)) := cell_keep bb5 c4_a
  have l5_b : w4.heap.size < w5.heap.size := by omega
  have a5_b : w5.cell? ⟨w4.heap.size, 0, none⟩ = some (.int .i64 (an)) := cell_keep hb5 (by go_simp)
  have c5_b : w5.cell? ⟨w4.heap.size, 1, none⟩ = some (.int .i64 (ad)) := cell_keep hb5 (by go_simp)
  have be5 : Below w.heap.size w w5 := (by repeat (first | exact Below.refl _ _ | assumption | refine below_drewN ?_ _ | refine Below.setCell ?_ (by first | (simp; done) | (simp; omega)) _ | refine Below.alloc ?_ (by first | (simp; done) | (simp; omega) | omega) _ | refine Below.drew ?_ | refine Below.trans ?_ (Below.mono (by assumption) (by first | (simp; done) | (simp; omega) | omega))))
  clear hb5 bb5 be4 l4_a a4_a c4_a
  simp only [RV]
  go_wp2
  go_ret
  exact ⟨rfl, (by repeat (first | exact Below.refl _ _ | assumption | refine below_drewN ?_ _ | refine Below.setCell ?_ (by first | (simp; done) | (simp; omega)) _ | refine Below.alloc ?_ (by first | (simp; done) | (simp; omega) | omega) _ | refine Below.drew ?_ | refine Below.trans ?_ (Below.mono (by assumption) (by first | (simp; done) | (simp; omega) | omega))))⟩
set_option maxRecDepth 100000 in
set_option maxHeartbeats 4000000 in
theorem tx_no (an ad : Int) (l : List UInt8) (w : World) (hE : Env w) (hl : l.length ≤ 1000) (ka1 : -9223372036854775808 ≤ an) (ka2 : an ≤ 9223372036854775807) (ha : ¬ Rt.Ok an ad) (n d : Int) (hq : Rt.parseS l = (n, d, 0)) (ho : Rt.Ok n d) (hu : Rt.textS n d = l) :
    Calls Tryd.prog 9 #[.agg #[.int .i64 an, .int .i64 ad], .string ⟨l.toArray⟩] w fun e w' => e = .returned (.bool true) ∧ Below w.heap.size w w' := by
  have HE := Lib.hid hE
  clear hE
  have HA := Lib.hid ha
  clear ha
  have HQ := Lib.hid hq
  have HO := Lib.hid ho
  have HU := Lib.hid hu
  obtain ⟨b1, b2, b3, b4, _⟩ := ho
  clear hq hu
  go_enter Tryd.func9, Tryd.ntmps9
  go_wp2_with fail
  refine (head_any _ (HE.out.below (by repeat (first | exact Below.refl _ _ | assumption | refine below_drewN ?_ _ | refine Below.setCell ?_ (by first | (simp; done) | (simp; omega)) _ | refine Below.alloc ?_ (by first | (simp; done) | (simp; omega) | omega) _ | refine Below.drew ?_ | refine Below.trans ?_ (Below.mono (by assumption) (by first | (simp; done) | (simp; omega) | omega)))))).mono ?_
  rintro e w1 ⟨rfl, hb1⟩
  have hz1 := hb1.size
  (try simp at hz1)
  have l1_a : w.heap.size < w1.heap.size := by omega
  have a1_a : w1.cell? ⟨w.heap.size, 0, none⟩ = some (.int .i64 (an)) := cell_keep hb1 (by go_simp)
  have c1_a : w1.cell? ⟨w.heap.size, 1, none⟩ = some (.int .i64 (ad)) := cell_keep hb1 (by go_simp)
  have be1 : Below w.heap.size w w1 := (by repeat (first | exact Below.refl _ _ | assumption | refine below_drewN ?_ _ | refine Below.setCell ?_ (by first | (simp; done) | (simp; omega)) _ | refine Below.alloc ?_ (by first | (simp; done) | (simp; omega) | omega) _ | refine Below.drew ?_ | refine Below.trans ?_ (Below.mono (by assumption) (by first | (simp; done) | (simp; omega) | omega))))
  clear hb1
  go_wp2_with fail
  refine (text_no an ad _ ka1 ka2 HA.out).mono ?_
  rintro e w2 ⟨rfl, hb2⟩
  have hz2 := hb2.size
  (try simp at hz2)
  have bb2 : Below w1.heap.size w1 w2 := (by repeat (first | exact Below.refl _ _ | assumption | refine below_drewN ?_ _ | refine Below.setCell ?_ (by first | (simp; done) | (simp; omega)) _ | refine Below.alloc ?_ (by first | (simp; done) | (simp; omega) | omega) _ | refine Below.drew ?_ | refine Below.trans ?_ (Below.mono (by assumption) (by first | (simp; done) | (simp; omega) | omega))))
  have l2_a : w.heap.size < w2.heap.size := by omega
  have a2_a : w2.cell? ⟨w.heap.size, 0, none⟩ = some (.int .i64 (an)) := cell_keep bb2 a1_a
  have c2_a : w2.cell? ⟨w.heap.size, 1, none⟩ = some (.int .i64 (ad)) := cell_keep bb2 c1_a
  have be2 : Below w.heap.size w w2 := (by repeat (first | exact Below.refl _ _ | assumption | refine below_drewN ?_ _ | refine Below.setCell ?_ (by first | (simp; done) | (simp; omega)) _ | refine Below.alloc ?_ (by first | (simp; done) | (simp; omega) | omega) _ | refine Below.drew ?_ | refine Below.trans ?_ (Below.mono (by assumption) (by first | (simp; done) | (simp; omega) | omega))))
  clear hb2 bb2 be1 l1_a a1_a c1_a
  go_wp2_with fail
  refine (valid_false _ _ _ ka1 ka2 HA.out).mono ?_
  rintro e w3 ⟨rfl, hb3⟩
  have hz3 := hb3.size
  (try simp at hz3)
  have bb3 : Below w2.heap.size w2 w3 := (by repeat (first | exact Below.refl _ _ | assumption | refine below_drewN ?_ _ | refine Below.setCell ?_ (by first | (simp; done) | (simp; omega)) _ | refine Below.alloc ?_ (by first | (simp; done) | (simp; omega) | omega) _ | refine Below.drew ?_ | refine Below.trans ?_ (Below.mono (by assumption) (by first | (simp; done) | (simp; omega) | omega))))
  have l3_a : w.heap.size < w3.heap.size := by omega
  have a3_a : w3.cell? ⟨w.heap.size, 0, none⟩ = some (.int .i64 (an)) := cell_keep bb3 a2_a
  have c3_a : w3.cell? ⟨w.heap.size, 1, none⟩ = some (.int .i64 (ad)) := cell_keep bb3 c2_a
  have be3 : Below w.heap.size w w3 := (by repeat (first | exact Below.refl _ _ | assumption | refine below_drewN ?_ _ | refine Below.setCell ?_ (by first | (simp; done) | (simp; omega)) _ | refine Below.alloc ?_ (by first | (simp; done) | (simp; omega) | omega) _ | refine Below.drew ?_ | refine Below.trans ?_ (Below.mono (by assumption) (by first | (simp; done) | (simp; omega) | omega))))
  clear hb3 bb3 be2 l2_a a2_a c2_a
  go_wp2_with fail
  refine (parse_any [] _ (by simp) (HE.out.below (by repeat (first | exact Below.refl _ _ | assumption | refine below_drewN ?_ _ | refine Below.setCell ?_ (by first | (simp; done) | (simp; omega)) _ | refine Below.alloc ?_ (by first | (simp; done) | (simp; omega) | omega) _ | refine Below.drew ?_ | refine Below.trans ?_ (Below.mono (by assumption) (by first | (simp; done) | (simp; omega) | omega)))))).mono ?_
  rintro e w4 ⟨rfl, hb4⟩
  rw [Rt.parse_nil]
  have hz4 := hb4.size
  (try simp at hz4)
  have bb4 : Below w3.heap.size w3 w4 := (by repeat (first | exact Below.refl _ _ | assumption | refine below_drewN ?_ _ | refine Below.setCell ?_ (by first | (simp; done) | (simp; omega)) _ | refine Below.alloc ?_ (by first | (simp; done) | (simp; omega) | omega) _ | refine Below.drew ?_ | refine Below.trans ?_ (Below.mono (by assumption) (by first | (simp; done) | (simp; omega) | omega))))
  have l4_a : w.heap.size < w4.heap.size := by omega
  have a4_a : w4.cell? ⟨w.heap.size, 0, none⟩ = some (.int .i64 (an)) := cell_keep bb4 a3_a
  have c4_a : w4.cell? ⟨w.heap.size, 1, none⟩ = some (.int .i64 (ad)) := cell_keep bb4 c3_a
  have be4 : Below w.heap.size w w4 := (by repeat (first | exact Below.refl _ _ | assumption | refine below_drewN ?_ _ | refine Below.setCell ?_ (by first | (simp; done) | (simp; omega)) _ | refine Below.alloc ?_ (by first | (simp; done) | (simp; omega) | omega) _ | refine Below.drew ?_ | refine Below.trans ?_ (Below.mono (by assumption) (by first | (simp; done) | (simp; omega) | omega))))
  clear hb4 bb4 be3 l3_a a3_a c3_a
  simp only [RV]
  go_wp2_with fail
  refine (parse_any l _ (by omega) (HE.out.below (by repeat (first | exact Below.refl _ _ | assumption | refine below_drewN ?_ _ | refine Below.setCell ?_ (by first | (simp; done) | (simp; omega)) _ | refine Below.alloc ?_ (by first | (simp; done) | (simp; omega) | omega) _ | refine Below.drew ?_ | refine Below.trans ?_ (Below.mono (by assumption) (by first | (simp; done) | (simp; omega) | omega)))))).mono ?_
  rintro e w5 ⟨rfl, hb5⟩
  rw [HQ.out]
  have hz5 := hb5.size
  (try simp at hz5)
  have bb5 : Below w4.heap.size w4 w5 := (by repeat (first | exact Below.refl _ _ | assumption | refine below_drewN ?_ _ | refine Below.setCell ?_ (by first | (simp; done) | (simp; omega)) _ | refine Below.alloc ?_ (by first | (simp; done) | (simp; omega) | omega) _ | refine Below.drew ?_ | refine Below.trans ?_ (Below.mono (by assumption) (by first | (simp; done) | (simp; omega) | omega))))
  have l5_a : w.heap.size < w5.heap.size := by omega
  have a5_a : w5.cell? ⟨w.heap.size, 0, none⟩ = some (.int .i64 (an)) := cell_keep bb5 a4_a
  have c5_a : w5.cell? ⟨w.heap.size, 1, none⟩ = some (.int .i64 (ad)) := cell_keep bb5 c4_a
  have l5_b : w4.heap.size < w5.heap.size := by omega
  have a5_b : w5.cell? ⟨w4.heap.size, 0, none⟩ = some (.int .i64 (0)) := cell_keep hb5 (by go_simp)
  have c5_b : w5.cell? ⟨w4.heap.size, 1, none⟩ = some (.int .i64 (0)) := cell_keep hb5 (by go_simp)
  have be5 : Below w.heap.size w w5 := (by repeat (first | exact Below.refl _ _ | assumption | refine below_drewN ?_ _ | refine Below.setCell ?_ (by first | (simp; done) | (simp; omega)) _ | refine Below.alloc ?_ (by first | (simp; done) | (simp; omega) | omega) _ | refine Below.drew ?_ | refine Below.trans ?_ (Below.mono (by assumption) (by first | (simp; done) | (simp; omega) | omega))))
  clear hb5 bb5 be4 l4_a a4_a c4_a
  simp only [RV]
  go_wp2_with fail
  refine (valid_true _ _ _ HO.out).mono ?_
  rintro e w6 ⟨rfl, hb6⟩
  have hz6 := hb6.size
  (try simp at hz6)
  have bb6 : Below w5.heap.size w5 w6 := (by repeat (first | exact Below.refl _ _ | assumption | refine below_drewN ?_ _ | refine Below.setCell ?_ (by first | (simp; done) | (simp; omega)) _ | refine Below.alloc ?_ (by first | (simp; done) | (simp; omega) | omega) _ | refine Below.drew ?_ | refine Below.trans ?_ (Below.mono (by assumption) (by first | (simp; done) | (simp; omega) | omega))))
  have l6_a : w.heap.size < w6.heap.size := by omega
  have a6_a : w6.cell? ⟨w.heap.size, 0, none⟩ = some (.int .i64 (an)) := cell_keep bb6 a5_a
  have c6_a : w6.cell? ⟨w.heap.size, 1, none⟩ = some (.int .i64 (ad)) := cell_keep bb6 c5_a
  have l6_b : w4.heap.size < w6.heap.size := by omega
  have a6_b : w6.cell? ⟨w4.heap.size, 0, none⟩ = some (.int .i64 (0)) := cell_keep bb6 a5_b
  have c6_b : w6.cell? ⟨w4.heap.size, 1, none⟩ = some (.int .i64 (0)) := cell_keep bb6 c5_b
  have l6_c : w5.heap.size < w6.heap.size := by omega
  have a6_c : w6.cell? ⟨w5.heap.size, 0, none⟩ = some (.int .i64 (n)) := cell_keep hb6 (by go_simp)
  have c6_c : w6.cell? ⟨w5.heap.size, 1, none⟩ = some (.int .i64 (d)) := cell_keep hb6 (by go_simp)
  have be6 : Below w.heap.size w w6 := (by repeat (first | exact Below.refl _ _ | assumption | refine below_drewN ?_ _ | refine Below.setCell ?_ (by first | (simp; done) | (simp; omega)) _ | refine Below.alloc ?_ (by first | (simp; done) | (simp; omega) | omega) _ | refine Below.drew ?_ | refine Below.trans ?_ (Below.mono (by assumption) (by first | (simp; done) | (simp; omega) | omega))))
  clear hb6 bb6 be5 l5_a a5_a c5_a l5_b a5_b c5_b
  go_wp2_with fail
  refine (text_any n d _ (by omega) (by omega) (HE.out.below (by repeat (first | exact Below.refl _ _ | assumption | refine below_drewN ?_ _ | refine Below.setCell ?_ (by first | (simp; done) | (simp; omega)) _ | refine Below.alloc ?_ (by first | (simp; done) | (simp; omega) | omega) _ | refine Below.drew ?_ | refine Below.trans ?_ (Below.mono (by assumption) (by first | (simp; done) | (simp; omega) | omega)))))).mono ?_
  rintro e w7 ⟨rfl, hb7⟩
  rw [HU.out]
  have hz7 := hb7.size
  (try simp at hz7)
  have bb7 : Below w6.heap.size w6 w7 := (by repeat (first | exact Below.refl _ _ | assumption | refine below_drewN ?_ _ | refine Below.setCell ?_ (by first | (simp; done) | (simp; omega)) _ | refine Below.alloc ?_ (by first | (simp; done) | (simp; omega) | omega) _ | refine Below.drew ?_ | refine Below.trans ?_ (Below.mono (by assumption) (by first | (simp; done) | (simp; omega) | omega))))
  have l7_a : w.heap.size < w7.heap.size := by omega
  have a7_a : w7.cell? ⟨w.heap.size, 0, none⟩ = some (.int .i64 (an)) := cell_keep bb7 a6_a
  have c7_a : w7.cell? ⟨w.heap.size, 1, none⟩ = some (.int .i64 (ad)) := cell_keep bb7 c6_a
  have l7_b : w4.heap.size < w7.heap.size := by omega
  have a7_b : w7.cell? ⟨w4.heap.size, 0, none⟩ = some (.int .i64 (0)) := cell_keep bb7 a6_b
  have c7_b : w7.cell? ⟨w4.heap.size, 1, none⟩ = some (.int .i64 (0)) := cell_keep bb7 c6_b
  have l7_c : w5.heap.size < w7.heap.size := by omega
  have a7_c : w7.cell? ⟨w5.heap.size, 0, none⟩ = some (.int .i64 (n)) := cell_keep bb7 a6_c
  have c7_c : w7.cell? ⟨w5.heap.size, 1, none⟩ = some (.int .i64 (d)) := cell_keep bb7 c6_c
  have be7 : Below w.heap.size w w7 := (by repeat (first | exact Below.refl _ _ | assumption | refine below_drewN ?_ _ | refine Below.setCell ?_ (by first | (simp; done) | (simp; omega)) _ | refine Below.alloc ?_ (by first | (simp; done) | (simp; omega) | omega) _ | refine Below.drew ?_ | refine Below.trans ?_ (Below.mono (by assumption) (by first | (simp; done) | (simp; omega) | omega))))
  clear hb7 bb7 be6 l6_a a6_a c6_a l6_b a6_b c6_b l6_c a6_c c6_c
  go_wp2
  go_ret
  exact ⟨rfl, (by repeat (first | exact Below.refl _ _ | assumption | refine below_drewN ?_ _ | refine Below.setCell ?_ (by first | (simp; done) | (simp; omega)) _ | refine Below.alloc ?_ (by first | (simp; done) | (simp; omega) | omega) _ | refine Below.drew ?_ | refine Below.trans ?_ (Below.mono (by assumption) (by first | (simp; done) | (simp; omega) | omega))))⟩
set_option maxRecDepth 100000 in
set_option maxHeartbeats 4000000 in
theorem tx_nn (an ad : Int) (l : List UInt8) (w : World) (hE : Env w) (hl : l.length ≤ 1000) (ka1 : -9223372036854775808 ≤ an) (ka2 : an ≤ 9223372036854775807) (ha : ¬ Rt.Ok an ad) (hq : Rt.parseS l = (0, 0, 5)) :
    Calls Tryd.prog 9 #[.agg #[.int .i64 an, .int .i64 ad], .string ⟨l.toArray⟩] w fun e w' => e = .returned (.bool true) ∧ Below w.heap.size w w' := by
  have HE := Lib.hid hE
  clear hE
  have HA := Lib.hid ha
  clear ha
  have HQ := Lib.hid hq
  clear hq
  go_enter Tryd.func9, Tryd.ntmps9
  go_wp2_with fail
  refine (head_any _ (HE.out.below (by repeat (first | exact Below.refl _ _ | assumption | refine below_drewN ?_ _ | refine Below.setCell ?_ (by first | (simp; done) | (simp; omega)) _ | refine Below.alloc ?_ (by first | (simp; done) | (simp; omega) | omega) _ | refine Below.drew ?_ | refine Below.trans ?_ (Below.mono (by assumption) (by first | (simp; done) | (simp; omega) | omega)))))).mono ?_
  rintro e w1 ⟨rfl, hb1⟩
  have hz1 := hb1.size
  (try simp at hz1)
  have l1_a : w.heap.size < w1.heap.size := by omega
  have a1_a : w1.cell? ⟨w.heap.size, 0, none⟩ = some (.int .i64 (an)) := cell_keep hb1 (by go_simp)
  have c1_a : w1.cell? ⟨w.heap.size, 1, none⟩ = some (.int .i64 (ad)) := cell_keep hb1 (by go_simp)
  have be1 : Below w.heap.size w w1 := (by repeat (first | exact Below.refl _ _ | assumption | refine below_drewN ?_ _ | refine Below.setCell ?_ (by first | (simp; done) | (simp; omega)) _ | refine Below.alloc ?_ (by first | (simp; done) | (simp; omega) | omega) _ | refine Below.drew ?_ | refine Below.trans ?_ (Below.mono (by assumption) (by first | (simp; done) | (simp; omega) | omega))))
  clear hb1
  go_wp2_with fail
  refine (text_no an ad _ ka1 ka2 HA.out).mono ?_
  rintro e w2 ⟨rfl, hb2⟩
  have hz2 := hb2.size
  (try simp at hz2)
  have bb2 : Below w1.heap.size w1 w2 := (by repeat (first | exact Below.refl _ _ | assumption | refine below_drewN ?_ _ | refine Below.setCell ?_ (by first | (simp; done) | (simp; omega)) _ | refine Below.alloc ?_ (by first | (simp; done) | (simp; omega) | omega) _ | refine Below.drew ?_ | refine Below.trans ?_ (Below.mono (by assumption) (by first | (simp; done) | (simp; omega) | omega))))
  have l2_a : w.heap.size < w2.heap.size := by omega
  have a2_a : w2.cell? ⟨w.heap.size, 0, none⟩ = some (.int .i64 (an)) := cell_keep bb2 a1_a
  have c2_a : w2.cell? ⟨w.heap.size, 1, none⟩ = some (.int .i64 (ad)) := cell_keep bb2 c1_a
  have be2 : Below w.heap.size w w2 := (by repeat (first | exact Below.refl _ _ | assumption | refine below_drewN ?_ _ | refine Below.setCell ?_ (by first | (simp; done) | (simp; omega)) _ | refine Below.alloc ?_ (by first | (simp; done) | (simp; omega) | omega) _ | refine Below.drew ?_ | refine Below.trans ?_ (Below.mono (by assumption) (by first | (simp; done) | (simp; omega) | omega))))
  clear hb2 bb2 be1 l1_a a1_a c1_a
  go_wp2_with fail
  refine (valid_false _ _ _ ka1 ka2 HA.out).mono ?_
  rintro e w3 ⟨rfl, hb3⟩
  have hz3 := hb3.size
  (try simp at hz3)
  have bb3 : Below w2.heap.size w2 w3 := (by repeat (first | exact Below.refl _ _ | assumption | refine below_drewN ?_ _ | refine Below.setCell ?_ (by first | (simp; done) | (simp; omega)) _ | refine Below.alloc ?_ (by first | (simp; done) | (simp; omega) | omega) _ | refine Below.drew ?_ | refine Below.trans ?_ (Below.mono (by assumption) (by first | (simp; done) | (simp; omega) | omega))))
  have l3_a : w.heap.size < w3.heap.size := by omega
  have a3_a : w3.cell? ⟨w.heap.size, 0, none⟩ = some (.int .i64 (an)) := cell_keep bb3 a2_a
  have c3_a : w3.cell? ⟨w.heap.size, 1, none⟩ = some (.int .i64 (ad)) := cell_keep bb3 c2_a
  have be3 : Below w.heap.size w w3 := (by repeat (first | exact Below.refl _ _ | assumption | refine below_drewN ?_ _ | refine Below.setCell ?_ (by first | (simp; done) | (simp; omega)) _ | refine Below.alloc ?_ (by first | (simp; done) | (simp; omega) | omega) _ | refine Below.drew ?_ | refine Below.trans ?_ (Below.mono (by assumption) (by first | (simp; done) | (simp; omega) | omega))))
  clear hb3 bb3 be2 l2_a a2_a c2_a
  go_wp2_with fail
  refine (parse_any [] _ (by simp) (HE.out.below (by repeat (first | exact Below.refl _ _ | assumption | refine below_drewN ?_ _ | refine Below.setCell ?_ (by first | (simp; done) | (simp; omega)) _ | refine Below.alloc ?_ (by first | (simp; done) | (simp; omega) | omega) _ | refine Below.drew ?_ | refine Below.trans ?_ (Below.mono (by assumption) (by first | (simp; done) | (simp; omega) | omega)))))).mono ?_
  rintro e w4 ⟨rfl, hb4⟩
  rw [Rt.parse_nil]
  have hz4 := hb4.size
  (try simp at hz4)
  have bb4 : Below w3.heap.size w3 w4 := (by repeat (first | exact Below.refl _ _ | assumption | refine below_drewN ?_ _ | refine Below.setCell ?_ (by first | (simp; done) | (simp; omega)) _ | refine Below.alloc ?_ (by first | (simp; done) | (simp; omega) | omega) _ | refine Below.drew ?_ | refine Below.trans ?_ (Below.mono (by assumption) (by first | (simp; done) | (simp; omega) | omega))))
  have l4_a : w.heap.size < w4.heap.size := by omega
  have a4_a : w4.cell? ⟨w.heap.size, 0, none⟩ = some (.int .i64 (an)) := cell_keep bb4 a3_a
  have c4_a : w4.cell? ⟨w.heap.size, 1, none⟩ = some (.int .i64 (ad)) := cell_keep bb4 c3_a
  have be4 : Below w.heap.size w w4 := (by repeat (first | exact Below.refl _ _ | assumption | refine below_drewN ?_ _ | refine Below.setCell ?_ (by first | (simp; done) | (simp; omega)) _ | refine Below.alloc ?_ (by first | (simp; done) | (simp; omega) | omega) _ | refine Below.drew ?_ | refine Below.trans ?_ (Below.mono (by assumption) (by first | (simp; done) | (simp; omega) | omega))))
  clear hb4 bb4 be3 l3_a a3_a c3_a
  simp only [RV]
  go_wp2_with fail
  refine (parse_any l _ (by omega) (HE.out.below (by repeat (first | exact Below.refl _ _ | assumption | refine below_drewN ?_ _ | refine Below.setCell ?_ (by first | (simp; done) | (simp; omega)) _ | refine Below.alloc ?_ (by first | (simp; done) | (simp; omega) | omega) _ | refine Below.drew ?_ | refine Below.trans ?_ (Below.mono (by assumption) (by first | (simp; done) | (simp; omega) | omega)))))).mono ?_
  rintro e w5 ⟨rfl, hb5⟩
  rw [HQ.out]
  have hz5 := hb5.size
  (try simp at hz5)
  have bb5 : Below w4.heap.size w4 w5 := (by repeat (first | exact Below.refl _ _ | assumption | refine below_drewN ?_ _ | refine Below.setCell ?_ (by first | (simp; done) | (simp; omega)) _ | refine Below.alloc ?_ (by first | (simp; done) | (simp; omega) | omega) _ | refine Below.drew ?_ | refine Below.trans ?_ (Below.mono (by assumption) (by first | (simp; done) | (simp; omega) | omega))))
  have l5_a : w.heap.size < w5.heap.size := by omega
  have a5_a : w5.cell? ⟨w.heap.size, 0, none⟩ = some (.int .i64 (an)) := cell_keep bb5 a4_a
  have c5_a : w5.cell? ⟨w.heap.size, 1, none⟩ = some (.int .i64 (ad)) := cell_keep bb5 c4_a
  have l5_b : w4.heap.size < w5.heap.size := by omega
  have a5_b : w5.cell? ⟨w4.heap.size, 0, none⟩ = some (.int .i64 (0)) := cell_keep hb5 (by go_simp)
  have c5_b : w5.cell? ⟨w4.heap.size, 1, none⟩ = some (.int .i64 (0)) := cell_keep hb5 (by go_simp)
  have be5 : Below w.heap.size w w5 := (by repeat (first | exact Below.refl _ _ | assumption | refine below_drewN ?_ _ | refine Below.setCell ?_ (by first | (simp; done) | (simp; omega)) _ | refine Below.alloc ?_ (by first | (simp; done) | (simp; omega) | omega) _ | refine Below.drew ?_ | refine Below.trans ?_ (Below.mono (by assumption) (by first | (simp; done) | (simp; omega) | omega))))
  clear hb5 bb5 be4 l4_a a4_a c4_a
  simp only [RV]
  go_wp2
  go_ret
  exact ⟨rfl, (by repeat (first | exact Below.refl _ _ | assumption | refine below_drewN ?_ _ | refine Below.setCell ?_ (by first | (simp; done) | (simp; omega)) _ | refine Below.alloc ?_ (by first | (simp; done) | (simp; omega) | omega) _ | refine Below.drew ?_ | refine Below.trans ?_ (Below.mono (by assumption) (by first | (simp; done) | (simp; omega) | omega))))⟩
theorem texts_law (an ad : Int) (s : ByteArray) (w : World) (ka1 : -9223372036854775808 ≤ an) (ka2 : an ≤ 9223372036854775807) (_ : -9223372036854775808 ≤ ad) (_ : ad ≤ 9223372036854775807) (hE : Env w) :
    Calls Tryd.prog 9 #[.agg #[.int .i64 an, .int .i64 ad], .string s] w fun e w' => e = .returned (.bool true) ∧ Below w.heap.size w w' := by
  obtain ⟨l, hs⟩ : ∃ l : List UInt8, s = ⟨l.toArray⟩ := ⟨s.data.toList, by simp⟩
  subst hs
  by_cases hl : l.length ≤ 1000
  · by_cases ha : Rt.Ok an ad
    · have hx : (Rt.textS an ad).length ≤ 4294967280 := by
        have i1 := Lib.itoa_length_le an ka1 ka2
        have i2 := Lib.itoa_length_le ad (by omega) (by omega)
        rw [Rt.textS_ok ha]
        split
        · omega
        · simp; omega
      rcases Rt.parse_cases l with ⟨n, d, h1, h2, h3⟩ | h1
      · exact tx_oo an ad l w hE hl ha _ rfl hx (Rt.text_ne ha) (Rt.parse_text ha) n d h1 h2 h3
      · exact tx_on an ad l w hE hl ha _ rfl hx (Rt.text_ne ha) (Rt.parse_text ha) h1
    · rcases Rt.parse_cases l with ⟨n, d, h1, h2, h3⟩ | h1
      · exact tx_no an ad l w hE hl ka1 ka2 ha n d h1 h2 h3
      · exact tx_nn an ad l w hE hl ka1 ka2 ha h1
  · exact tx_long an ad l w hE (by omega)
end Go.Proofs.YtnfbagihbgmpfaaDoor

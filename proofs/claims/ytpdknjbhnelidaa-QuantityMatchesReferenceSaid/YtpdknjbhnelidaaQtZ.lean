/- The reference's May and Convert. -/
import Derived.Test.YtpdknjbhnelidaaQtY
namespace Go.Proofs.Ytpdknjbhnelidaa
open Go.RowKit

set_option maxRecDepth 100000 in
set_option maxHeartbeats 1600000 in
theorem may_low (p : Option Addr) (n cap : Nat) (a : Qn.Am) (w : World) (h : ¬ 0 ≤ a.1) :
    Calls Try.prog 25 #[.slice p n cap, .agg #[.int .i64 a.1, .int .i64 a.2.1, .int .i64 a.2.2]] w fun e w' => e = .returned (.bool (false)) ∧ Below w.heap.size w w' := by
  go_enter Try.func25, Try.ntmps25
  go_wp2_with fail
  go_ret
  exact ⟨rfl, (by repeat (first | exact Below.refl _ _ | assumption | refine below_drewN ?_ _ | refine Below.setCell ?_ (by first | (simp; done) | (simp; omega)) _ | refine Below.alloc ?_ (by first | (simp; done) | (simp; omega) | omega) _ | refine Below.drew ?_ | refine Below.trans ?_ (Below.mono (by assumption) (by first | (simp; done) | (simp; omega) | omega))))⟩
set_option maxRecDepth 100000 in
set_option maxHeartbeats 1600000 in
theorem may_high (p : Option Addr) (n cap : Nat) (a : Qn.Am) (w : World) (h0 : 0 ≤ a.1) (h : ¬ a.1 < (n : Int)) :
    Calls Try.prog 25 #[.slice p n cap, .agg #[.int .i64 a.1, .int .i64 a.2.1, .int .i64 a.2.2]] w fun e w' => e = .returned (.bool (false)) ∧ Below w.heap.size w w' := by
  go_enter Try.func25, Try.ntmps25
  go_wp2_with fail
  go_ret
  exact ⟨rfl, (by repeat (first | exact Below.refl _ _ | assumption | refine below_drewN ?_ _ | refine Below.setCell ?_ (by first | (simp; done) | (simp; omega)) _ | refine Below.alloc ?_ (by first | (simp; done) | (simp; omega) | omega) _ | refine Below.drew ?_ | refine Below.trans ?_ (Below.mono (by assumption) (by first | (simp; done) | (simp; omega) | omega))))⟩
set_option maxRecDepth 100000 in
set_option maxHeartbeats 1600000 in
theorem may_in (p : Option Addr) (n cap : Nat) (a : Qn.Am) (r : Bool) (w : World) (h0 : 0 ≤ a.1) (h : a.1 < (n : Int)) (hr : decide (Rt.Ok a.2.1 a.2.2) = r) :
    Calls Try.prog 25 #[.slice p n cap, .agg #[.int .i64 a.1, .int .i64 a.2.1, .int .i64 a.2.2]] w fun e w' => e = .returned (.bool (r)) ∧ Below w.heap.size w w' := by
  have HR := Lib.hid hr
  clear hr
  go_enter Try.func25, Try.ntmps25
  go_wp2_with fail
  refine (rvalid_dec a.2.1 a.2.2 _).mono ?_
  rintro e w1 ⟨rfl, hb1⟩
  rw [HR.out]
  have hz1 := hb1.size
  (try simp at hz1)
  have bb1 : Below w.heap.size w w1 := (by repeat (first | exact Below.refl _ _ | assumption | refine below_drewN ?_ _ | refine Below.setCell ?_ (by first | (simp; done) | (simp; omega)) _ | refine Below.alloc ?_ (by first | (simp; done) | (simp; omega) | omega) _ | refine Below.drew ?_ | refine Below.trans ?_ (Below.mono (by assumption) (by first | (simp; done) | (simp; omega) | omega))))
  have be1 : Below w.heap.size w w1 := bb1
  have BE1 := Lib.hid be1
  clear be1 bb1 hb1
  go_wp2_with fail
  go_ret
  exact ⟨rfl, (by have q := BE1.out; repeat (first | exact q | refine Below.setCell ?_ (by first | (simp; done) | omega | (simp; omega)) _ | refine Below.alloc ?_ (by first | (simp; done) | omega | (simp; omega)) _ | refine below_drewN ?_ _ | refine Below.drew ?_))⟩
open Classical in
theorem rmay_any (p : Option Addr) (cap : Nat) (us : List Qn.Un) (a : Qn.Am) (w : World) : Calls Try.prog 25 #[.slice p us.length cap, .agg #[.int .i64 a.1, .int .i64 a.2.1, .int .i64 a.2.2]] w fun e w' => e = .returned (.bool (decide (Qn.May us a))) ∧ Below w.heap.size w w' := by
  by_cases h0 : 0 ≤ a.1
  rotate_left
  · rw [decide_eq_false (fun k => h0 k.1.1)]
    exact may_low p _ cap a w h0
  by_cases h1 : a.1 < (us.length : Int)
  rotate_left
  · rw [decide_eq_false (fun k => h1 k.1.2)]
    exact may_high p _ cap a w h0 h1
  refine may_in p _ cap a _ w h0 h1 ?_
  rw [decide_eq_decide]
  exact ⟨fun k => ⟨⟨h0, h1⟩, k⟩, fun k => k.2⟩
set_option maxRecDepth 100000 in
set_option maxHeartbeats 1600000 in
theorem rconv_bad (p : Option Addr) (cap : Nat) (us : List Qn.Un) (a : Qn.Am) (tt : Int) (vi : Int) (w : World) (ht : Tab w p us) (hva : Qn.validS us = (vi, false)) :
    Calls Try.prog 11 #[.slice p us.length cap, .agg #[.int .i64 a.1, .int .i64 a.2.1, .int .i64 a.2.2], .int .i64 tt] w fun e w' => e = .returned (RA (0, (0, 0), 1)) ∧ Below w.heap.size w w' := by
  have HT0 := Lib.hid ht
  clear ht
  have HVA := Lib.hid hva
  clear hva
  go_enter Try.func11, Try.ntmps11
  go_wp2_with fail
  have hq : Fr3 ((w.alloc (.cells #[.int .i64 a.1, .int .i64 a.2.1, .int .i64 a.2.2] 33)).alloc (.cells #[.int .i64 0, .int .i64 0, .int .i64 0] 33)) (w.heap.size + 1) := ⟨by simp, by go_simp, by go_simp, by go_simp⟩
  obtain ⟨w1, hw1⟩ : ∃ W, W = ((w.alloc (.cells #[.int .i64 a.1, .int .i64 a.2.1, .int .i64 a.2.2] 33)).alloc (.cells #[.int .i64 0, .int .i64 0, .int .i64 0] 33)) := ⟨_, rfl⟩
  have bb1 : Below w.heap.size w w1 := by rw [hw1]; exact (by repeat (first | exact Below.refl _ _ | assumption | refine below_drewN ?_ _ | refine Below.setCell ?_ (by first | (simp; done) | (simp; omega)) _ | refine Below.alloc ?_ (by first | (simp; done) | (simp; omega) | omega) _ | refine Below.drew ?_ | refine Below.trans ?_ (Below.mono (by assumption) (by first | (simp; done) | (simp; omega) | omega))))
  have n1_a_0 : w1.cell? ⟨w.heap.size, 0, none⟩ = some (.int .i64 a.1) := by rw [hw1]; go_simp
  have n1_a_1 : w1.cell? ⟨w.heap.size, 1, none⟩ = some (.int .i64 a.2.1) := by rw [hw1]; go_simp
  have n1_a_2 : w1.cell? ⟨w.heap.size, 2, none⟩ = some (.int .i64 a.2.2) := by rw [hw1]; go_simp
  have n1_r_0 : w1.cell? ⟨w.heap.size + 1, 0, none⟩ = some (.int .i64 0) := by rw [hw1]; go_simp
  have n1_r_1 : w1.cell? ⟨w.heap.size + 1, 1, none⟩ = some (.int .i64 0) := by rw [hw1]; go_simp
  have n1_r_2 : w1.cell? ⟨w.heap.size + 1, 2, none⟩ = some (.int .i64 0) := by rw [hw1]; go_simp
  rw [← hw1]
  rw [← hw1] at hq
  have hz1 := bb1.size
  (try simp at hz1)
  clear hw1
  have be1 : Below w.heap.size w w1 := bb1
  have c1_a_0 : w1.cell? ⟨w.heap.size, 0, none⟩ = some (.int .i64 a.1) := n1_a_0
  have c1_a_1 : w1.cell? ⟨w.heap.size, 1, none⟩ = some (.int .i64 a.2.1) := n1_a_1
  have c1_a_2 : w1.cell? ⟨w.heap.size, 2, none⟩ = some (.int .i64 a.2.2) := n1_a_2
  have l1_a : w.heap.size < w1.heap.size := World.block_lt_of_cell? w1 _ c1_a_0
  have m1_a : w.heap.size < w1.heap.size + 1 := by omega
  have c1_r_0 : w1.cell? ⟨w.heap.size + 1, 0, none⟩ = some (.int .i64 0) := n1_r_0
  have c1_r_1 : w1.cell? ⟨w.heap.size + 1, 1, none⟩ = some (.int .i64 0) := n1_r_1
  have c1_r_2 : w1.cell? ⟨w.heap.size + 1, 2, none⟩ = some (.int .i64 0) := n1_r_2
  have l1_r : w.heap.size + 1 < w1.heap.size := World.block_lt_of_cell? w1 _ c1_r_0
  have m1_r : w.heap.size + 1 < w1.heap.size + 1 := by omega
  have HT1 := Lib.hid (HT0.out.below bb1)
  have BE1 := Lib.hid be1
  clear be1 bb1 HT0
  have HFR1 := Lib.hid hq
  clear hq
  skip
  refine (rqvalid_any p cap us _ (HT1.out.below (by repeat (first | exact Below.refl _ _ | assumption | refine below_drewN ?_ _ | refine Below.setCell ?_ (by first | (simp; done) | (simp; omega)) _ | refine Below.alloc ?_ (by first | (simp; done) | (simp; omega) | omega) _ | refine Below.drew ?_ | refine Below.trans ?_ (Below.mono (by assumption) (by first | (simp; done) | (simp; omega) | omega)))))).mono ?_
  rintro e w2 ⟨rfl, hb2⟩
  rw [HVA.out]
  simp only [RIB]
  have hz2 := hb2.size
  (try simp at hz2)
  have bb2 : Below w1.heap.size w1 w2 := (by repeat (first | exact Below.refl _ _ | assumption | refine below_drewN ?_ _ | refine Below.setCell ?_ (by first | (simp; done) | (simp; omega)) _ | refine Below.alloc ?_ (by first | (simp; done) | (simp; omega) | omega) _ | refine Below.drew ?_ | refine Below.trans ?_ (Below.mono (by assumption) (by first | (simp; done) | (simp; omega) | omega))))
  have be2 : Below w.heap.size w w2 := BE1.out.trans (bb2.mono BE1.out.size)
  have c2_a_0 : w2.cell? ⟨w.heap.size, 0, none⟩ = some (.int .i64 a.1) := cell_keep bb2 c1_a_0
  have c2_a_1 : w2.cell? ⟨w.heap.size, 1, none⟩ = some (.int .i64 a.2.1) := cell_keep bb2 c1_a_1
  have c2_a_2 : w2.cell? ⟨w.heap.size, 2, none⟩ = some (.int .i64 a.2.2) := cell_keep bb2 c1_a_2
  have l2_a : w.heap.size < w2.heap.size := by omega
  have m2_a : w.heap.size < w2.heap.size + 1 := by omega
  have c2_r_0 : w2.cell? ⟨w.heap.size + 1, 0, none⟩ = some (.int .i64 0) := cell_keep bb2 c1_r_0
  have c2_r_1 : w2.cell? ⟨w.heap.size + 1, 1, none⟩ = some (.int .i64 0) := cell_keep bb2 c1_r_1
  have c2_r_2 : w2.cell? ⟨w.heap.size + 1, 2, none⟩ = some (.int .i64 0) := cell_keep bb2 c1_r_2
  have l2_r : w.heap.size + 1 < w2.heap.size := by omega
  have m2_r : w.heap.size + 1 < w2.heap.size + 1 := by omega
  have HT2 := Lib.hid (HT1.out.below bb2)
  have HFR2 := Lib.hid (HFR1.out.below bb2)
  have BE2 := Lib.hid be2
  clear be2 bb2 hb2 BE1 c1_a_0 c1_a_1 c1_a_2 l1_a m1_a c1_r_0 c1_r_1 c1_r_2 l1_r m1_r HT1 HFR1
  obtain ⟨fr0, fr1, fr2, fr3⟩ := HFR2.out
  go_wp2_with fail
  refine bodyPost_ret (v := RA (0, (0, 0), 1)) (by simp [results, Try.results11, go_sem, RA, c2_r_0, c2_r_1, c2_r_2]) rfl ⟨rfl, (by have q := BE2.out; repeat (first | exact q | refine Below.setCell ?_ (by first | (simp; done) | omega | (simp; omega)) _ | refine Below.alloc ?_ (by first | (simp; done) | omega | (simp; omega)) _ | refine below_drewN ?_ _ | refine Below.drew ?_))⟩
open Classical in
set_option maxRecDepth 100000 in
set_option maxHeartbeats 1600000 in
theorem rconv_may (p : Option Addr) (cap : Nat) (us : List Qn.Un) (a : Qn.Am) (tt : Int) (vi : Int) (w : World) (ht : Tab w p us) (hva : Qn.validS us = (vi, true)) (hm : decide (Qn.May us a) = false) :
    Calls Try.prog 11 #[.slice p us.length cap, .agg #[.int .i64 a.1, .int .i64 a.2.1, .int .i64 a.2.2], .int .i64 tt] w fun e w' => e = .returned (RA (0, (0, 0), 1)) ∧ Below w.heap.size w w' := by
  have HT0 := Lib.hid ht
  clear ht
  have HVA := Lib.hid hva
  clear hva
  have HM := Lib.hid hm
  clear hm
  go_enter Try.func11, Try.ntmps11
  go_wp2_with fail
  have hq : Fr3 ((w.alloc (.cells #[.int .i64 a.1, .int .i64 a.2.1, .int .i64 a.2.2] 33)).alloc (.cells #[.int .i64 0, .int .i64 0, .int .i64 0] 33)) (w.heap.size + 1) := ⟨by simp, by go_simp, by go_simp, by go_simp⟩
  obtain ⟨w1, hw1⟩ : ∃ W, W = ((w.alloc (.cells #[.int .i64 a.1, .int .i64 a.2.1, .int .i64 a.2.2] 33)).alloc (.cells #[.int .i64 0, .int .i64 0, .int .i64 0] 33)) := ⟨_, rfl⟩
  have bb1 : Below w.heap.size w w1 := by rw [hw1]; exact (by repeat (first | exact Below.refl _ _ | assumption | refine below_drewN ?_ _ | refine Below.setCell ?_ (by first | (simp; done) | (simp; omega)) _ | refine Below.alloc ?_ (by first | (simp; done) | (simp; omega) | omega) _ | refine Below.drew ?_ | refine Below.trans ?_ (Below.mono (by assumption) (by first | (simp; done) | (simp; omega) | omega))))
  have n1_a_0 : w1.cell? ⟨w.heap.size, 0, none⟩ = some (.int .i64 a.1) := by rw [hw1]; go_simp
  have n1_a_1 : w1.cell? ⟨w.heap.size, 1, none⟩ = some (.int .i64 a.2.1) := by rw [hw1]; go_simp
  have n1_a_2 : w1.cell? ⟨w.heap.size, 2, none⟩ = some (.int .i64 a.2.2) := by rw [hw1]; go_simp
  have n1_r_0 : w1.cell? ⟨w.heap.size + 1, 0, none⟩ = some (.int .i64 0) := by rw [hw1]; go_simp
  have n1_r_1 : w1.cell? ⟨w.heap.size + 1, 1, none⟩ = some (.int .i64 0) := by rw [hw1]; go_simp
  have n1_r_2 : w1.cell? ⟨w.heap.size + 1, 2, none⟩ = some (.int .i64 0) := by rw [hw1]; go_simp
  rw [← hw1]
  rw [← hw1] at hq
  have hz1 := bb1.size
  (try simp at hz1)
  clear hw1
  have be1 : Below w.heap.size w w1 := bb1
  have c1_a_0 : w1.cell? ⟨w.heap.size, 0, none⟩ = some (.int .i64 a.1) := n1_a_0
  have c1_a_1 : w1.cell? ⟨w.heap.size, 1, none⟩ = some (.int .i64 a.2.1) := n1_a_1
  have c1_a_2 : w1.cell? ⟨w.heap.size, 2, none⟩ = some (.int .i64 a.2.2) := n1_a_2
  have l1_a : w.heap.size < w1.heap.size := World.block_lt_of_cell? w1 _ c1_a_0
  have m1_a : w.heap.size < w1.heap.size + 1 := by omega
  have c1_r_0 : w1.cell? ⟨w.heap.size + 1, 0, none⟩ = some (.int .i64 0) := n1_r_0
  have c1_r_1 : w1.cell? ⟨w.heap.size + 1, 1, none⟩ = some (.int .i64 0) := n1_r_1
  have c1_r_2 : w1.cell? ⟨w.heap.size + 1, 2, none⟩ = some (.int .i64 0) := n1_r_2
  have l1_r : w.heap.size + 1 < w1.heap.size := World.block_lt_of_cell? w1 _ c1_r_0
  have m1_r : w.heap.size + 1 < w1.heap.size + 1 := by omega
  have HT1 := Lib.hid (HT0.out.below bb1)
  have BE1 := Lib.hid be1
  clear be1 bb1 HT0
  have HFR1 := Lib.hid hq
  clear hq
  skip
  refine (rqvalid_any p cap us _ (HT1.out.below (by repeat (first | exact Below.refl _ _ | assumption | refine below_drewN ?_ _ | refine Below.setCell ?_ (by first | (simp; done) | (simp; omega)) _ | refine Below.alloc ?_ (by first | (simp; done) | (simp; omega) | omega) _ | refine Below.drew ?_ | refine Below.trans ?_ (Below.mono (by assumption) (by first | (simp; done) | (simp; omega) | omega)))))).mono ?_
  rintro e w2 ⟨rfl, hb2⟩
  rw [HVA.out]
  simp only [RIB]
  have hz2 := hb2.size
  (try simp at hz2)
  have bb2 : Below w1.heap.size w1 w2 := (by repeat (first | exact Below.refl _ _ | assumption | refine below_drewN ?_ _ | refine Below.setCell ?_ (by first | (simp; done) | (simp; omega)) _ | refine Below.alloc ?_ (by first | (simp; done) | (simp; omega) | omega) _ | refine Below.drew ?_ | refine Below.trans ?_ (Below.mono (by assumption) (by first | (simp; done) | (simp; omega) | omega))))
  have be2 : Below w.heap.size w w2 := BE1.out.trans (bb2.mono BE1.out.size)
  have c2_a_0 : w2.cell? ⟨w.heap.size, 0, none⟩ = some (.int .i64 a.1) := cell_keep bb2 c1_a_0
  have c2_a_1 : w2.cell? ⟨w.heap.size, 1, none⟩ = some (.int .i64 a.2.1) := cell_keep bb2 c1_a_1
  have c2_a_2 : w2.cell? ⟨w.heap.size, 2, none⟩ = some (.int .i64 a.2.2) := cell_keep bb2 c1_a_2
  have l2_a : w.heap.size < w2.heap.size := by omega
  have m2_a : w.heap.size < w2.heap.size + 1 := by omega
  have c2_r_0 : w2.cell? ⟨w.heap.size + 1, 0, none⟩ = some (.int .i64 0) := cell_keep bb2 c1_r_0
  have c2_r_1 : w2.cell? ⟨w.heap.size + 1, 1, none⟩ = some (.int .i64 0) := cell_keep bb2 c1_r_1
  have c2_r_2 : w2.cell? ⟨w.heap.size + 1, 2, none⟩ = some (.int .i64 0) := cell_keep bb2 c1_r_2
  have l2_r : w.heap.size + 1 < w2.heap.size := by omega
  have m2_r : w.heap.size + 1 < w2.heap.size + 1 := by omega
  have HT2 := Lib.hid (HT1.out.below bb2)
  have HFR2 := Lib.hid (HFR1.out.below bb2)
  have BE2 := Lib.hid be2
  clear be2 bb2 hb2 BE1 c1_a_0 c1_a_1 c1_a_2 l1_a m1_a c1_r_0 c1_r_1 c1_r_2 l1_r m1_r HT1 HFR1
  go_wp2_with fail
  refine (rmay_any p cap us a _).mono ?_
  rintro e w3 ⟨rfl, hb3⟩
  rw [HM.out]
  have hz3 := hb3.size
  (try simp at hz3)
  have bb3 : Below w2.heap.size w2 w3 := (by repeat (first | exact Below.refl _ _ | assumption | refine below_drewN ?_ _ | refine Below.setCell ?_ (by first | (simp; done) | (simp; omega)) _ | refine Below.alloc ?_ (by first | (simp; done) | (simp; omega) | omega) _ | refine Below.drew ?_ | refine Below.trans ?_ (Below.mono (by assumption) (by first | (simp; done) | (simp; omega) | omega))))
  have be3 : Below w.heap.size w w3 := BE2.out.trans (bb3.mono BE2.out.size)
  have c3_a_0 : w3.cell? ⟨w.heap.size, 0, none⟩ = some (.int .i64 a.1) := cell_keep bb3 c2_a_0
  have c3_a_1 : w3.cell? ⟨w.heap.size, 1, none⟩ = some (.int .i64 a.2.1) := cell_keep bb3 c2_a_1
  have c3_a_2 : w3.cell? ⟨w.heap.size, 2, none⟩ = some (.int .i64 a.2.2) := cell_keep bb3 c2_a_2
  have l3_a : w.heap.size < w3.heap.size := by omega
  have m3_a : w.heap.size < w3.heap.size + 1 := by omega
  have c3_r_0 : w3.cell? ⟨w.heap.size + 1, 0, none⟩ = some (.int .i64 0) := cell_keep bb3 c2_r_0
  have c3_r_1 : w3.cell? ⟨w.heap.size + 1, 1, none⟩ = some (.int .i64 0) := cell_keep bb3 c2_r_1
  have c3_r_2 : w3.cell? ⟨w.heap.size + 1, 2, none⟩ = some (.int .i64 0) := cell_keep bb3 c2_r_2
  have l3_r : w.heap.size + 1 < w3.heap.size := by omega
  have m3_r : w.heap.size + 1 < w3.heap.size + 1 := by omega
  have HT3 := Lib.hid (HT2.out.below bb3)
  have HFR3 := Lib.hid (HFR2.out.below bb3)
  have BE3 := Lib.hid be3
  clear be3 bb3 hb3 BE2 c2_a_0 c2_a_1 c2_a_2 l2_a m2_a c2_r_0 c2_r_1 c2_r_2 l2_r m2_r HT2 HFR2
  obtain ⟨fr0, fr1, fr2, fr3⟩ := HFR3.out
  go_wp2_with fail
  refine bodyPost_ret (v := RA (0, (0, 0), 1)) (by simp [results, Try.results11, go_sem, RA, c3_r_0, c3_r_1, c3_r_2]) rfl ⟨rfl, (by have q := BE3.out; repeat (first | exact q | refine Below.setCell ?_ (by first | (simp; done) | omega | (simp; omega)) _ | refine Below.alloc ?_ (by first | (simp; done) | omega | (simp; omega)) _ | refine below_drewN ?_ _ | refine Below.drew ?_))⟩
open Classical in
set_option maxRecDepth 100000 in
set_option maxHeartbeats 1600000 in
theorem rconv_low (p : Option Addr) (cap : Nat) (us : List Qn.Un) (a : Qn.Am) (tt : Int) (vi : Int) (w : World) (ht : Tab w p us) (hva : Qn.validS us = (vi, true)) (hm : decide (Qn.May us a) = true) (h0 : tt < 0) :
    Calls Try.prog 11 #[.slice p us.length cap, .agg #[.int .i64 a.1, .int .i64 a.2.1, .int .i64 a.2.2], .int .i64 tt] w fun e w' => e = .returned (RA (0, (0, 0), 1)) ∧ Below w.heap.size w w' := by
  have HT0 := Lib.hid ht
  clear ht
  have HVA := Lib.hid hva
  clear hva
  have HM := Lib.hid hm
  clear hm
  go_enter Try.func11, Try.ntmps11
  go_wp2_with fail
  have hq : Fr3 ((w.alloc (.cells #[.int .i64 a.1, .int .i64 a.2.1, .int .i64 a.2.2] 33)).alloc (.cells #[.int .i64 0, .int .i64 0, .int .i64 0] 33)) (w.heap.size + 1) := ⟨by simp, by go_simp, by go_simp, by go_simp⟩
  obtain ⟨w1, hw1⟩ : ∃ W, W = ((w.alloc (.cells #[.int .i64 a.1, .int .i64 a.2.1, .int .i64 a.2.2] 33)).alloc (.cells #[.int .i64 0, .int .i64 0, .int .i64 0] 33)) := ⟨_, rfl⟩
  have bb1 : Below w.heap.size w w1 := by rw [hw1]; exact (by repeat (first | exact Below.refl _ _ | assumption | refine below_drewN ?_ _ | refine Below.setCell ?_ (by first | (simp; done) | (simp; omega)) _ | refine Below.alloc ?_ (by first | (simp; done) | (simp; omega) | omega) _ | refine Below.drew ?_ | refine Below.trans ?_ (Below.mono (by assumption) (by first | (simp; done) | (simp; omega) | omega))))
  have n1_a_0 : w1.cell? ⟨w.heap.size, 0, none⟩ = some (.int .i64 a.1) := by rw [hw1]; go_simp
  have n1_a_1 : w1.cell? ⟨w.heap.size, 1, none⟩ = some (.int .i64 a.2.1) := by rw [hw1]; go_simp
  have n1_a_2 : w1.cell? ⟨w.heap.size, 2, none⟩ = some (.int .i64 a.2.2) := by rw [hw1]; go_simp
  have n1_r_0 : w1.cell? ⟨w.heap.size + 1, 0, none⟩ = some (.int .i64 0) := by rw [hw1]; go_simp
  have n1_r_1 : w1.cell? ⟨w.heap.size + 1, 1, none⟩ = some (.int .i64 0) := by rw [hw1]; go_simp
  have n1_r_2 : w1.cell? ⟨w.heap.size + 1, 2, none⟩ = some (.int .i64 0) := by rw [hw1]; go_simp
  rw [← hw1]
  rw [← hw1] at hq
  have hz1 := bb1.size
  (try simp at hz1)
  clear hw1
  have be1 : Below w.heap.size w w1 := bb1
  have c1_a_0 : w1.cell? ⟨w.heap.size, 0, none⟩ = some (.int .i64 a.1) := n1_a_0
  have c1_a_1 : w1.cell? ⟨w.heap.size, 1, none⟩ = some (.int .i64 a.2.1) := n1_a_1
  have c1_a_2 : w1.cell? ⟨w.heap.size, 2, none⟩ = some (.int .i64 a.2.2) := n1_a_2
  have l1_a : w.heap.size < w1.heap.size := World.block_lt_of_cell? w1 _ c1_a_0
  have m1_a : w.heap.size < w1.heap.size + 1 := by omega
  have c1_r_0 : w1.cell? ⟨w.heap.size + 1, 0, none⟩ = some (.int .i64 0) := n1_r_0
  have c1_r_1 : w1.cell? ⟨w.heap.size + 1, 1, none⟩ = some (.int .i64 0) := n1_r_1
  have c1_r_2 : w1.cell? ⟨w.heap.size + 1, 2, none⟩ = some (.int .i64 0) := n1_r_2
  have l1_r : w.heap.size + 1 < w1.heap.size := World.block_lt_of_cell? w1 _ c1_r_0
  have m1_r : w.heap.size + 1 < w1.heap.size + 1 := by omega
  have HT1 := Lib.hid (HT0.out.below bb1)
  have BE1 := Lib.hid be1
  clear be1 bb1 HT0
  have HFR1 := Lib.hid hq
  clear hq
  skip
  refine (rqvalid_any p cap us _ (HT1.out.below (by repeat (first | exact Below.refl _ _ | assumption | refine below_drewN ?_ _ | refine Below.setCell ?_ (by first | (simp; done) | (simp; omega)) _ | refine Below.alloc ?_ (by first | (simp; done) | (simp; omega) | omega) _ | refine Below.drew ?_ | refine Below.trans ?_ (Below.mono (by assumption) (by first | (simp; done) | (simp; omega) | omega)))))).mono ?_
  rintro e w2 ⟨rfl, hb2⟩
  rw [HVA.out]
  simp only [RIB]
  have hz2 := hb2.size
  (try simp at hz2)
  have bb2 : Below w1.heap.size w1 w2 := (by repeat (first | exact Below.refl _ _ | assumption | refine below_drewN ?_ _ | refine Below.setCell ?_ (by first | (simp; done) | (simp; omega)) _ | refine Below.alloc ?_ (by first | (simp; done) | (simp; omega) | omega) _ | refine Below.drew ?_ | refine Below.trans ?_ (Below.mono (by assumption) (by first | (simp; done) | (simp; omega) | omega))))
  have be2 : Below w.heap.size w w2 := BE1.out.trans (bb2.mono BE1.out.size)
  have c2_a_0 : w2.cell? ⟨w.heap.size, 0, none⟩ = some (.int .i64 a.1) := cell_keep bb2 c1_a_0
  have c2_a_1 : w2.cell? ⟨w.heap.size, 1, none⟩ = some (.int .i64 a.2.1) := cell_keep bb2 c1_a_1
  have c2_a_2 : w2.cell? ⟨w.heap.size, 2, none⟩ = some (.int .i64 a.2.2) := cell_keep bb2 c1_a_2
  have l2_a : w.heap.size < w2.heap.size := by omega
  have m2_a : w.heap.size < w2.heap.size + 1 := by omega
  have c2_r_0 : w2.cell? ⟨w.heap.size + 1, 0, none⟩ = some (.int .i64 0) := cell_keep bb2 c1_r_0
  have c2_r_1 : w2.cell? ⟨w.heap.size + 1, 1, none⟩ = some (.int .i64 0) := cell_keep bb2 c1_r_1
  have c2_r_2 : w2.cell? ⟨w.heap.size + 1, 2, none⟩ = some (.int .i64 0) := cell_keep bb2 c1_r_2
  have l2_r : w.heap.size + 1 < w2.heap.size := by omega
  have m2_r : w.heap.size + 1 < w2.heap.size + 1 := by omega
  have HT2 := Lib.hid (HT1.out.below bb2)
  have HFR2 := Lib.hid (HFR1.out.below bb2)
  have BE2 := Lib.hid be2
  clear be2 bb2 hb2 BE1 c1_a_0 c1_a_1 c1_a_2 l1_a m1_a c1_r_0 c1_r_1 c1_r_2 l1_r m1_r HT1 HFR1
  go_wp2_with fail
  refine (rmay_any p cap us a _).mono ?_
  rintro e w3 ⟨rfl, hb3⟩
  rw [HM.out]
  have hz3 := hb3.size
  (try simp at hz3)
  have bb3 : Below w2.heap.size w2 w3 := (by repeat (first | exact Below.refl _ _ | assumption | refine below_drewN ?_ _ | refine Below.setCell ?_ (by first | (simp; done) | (simp; omega)) _ | refine Below.alloc ?_ (by first | (simp; done) | (simp; omega) | omega) _ | refine Below.drew ?_ | refine Below.trans ?_ (Below.mono (by assumption) (by first | (simp; done) | (simp; omega) | omega))))
  have be3 : Below w.heap.size w w3 := BE2.out.trans (bb3.mono BE2.out.size)
  have c3_a_0 : w3.cell? ⟨w.heap.size, 0, none⟩ = some (.int .i64 a.1) := cell_keep bb3 c2_a_0
  have c3_a_1 : w3.cell? ⟨w.heap.size, 1, none⟩ = some (.int .i64 a.2.1) := cell_keep bb3 c2_a_1
  have c3_a_2 : w3.cell? ⟨w.heap.size, 2, none⟩ = some (.int .i64 a.2.2) := cell_keep bb3 c2_a_2
  have l3_a : w.heap.size < w3.heap.size := by omega
  have m3_a : w.heap.size < w3.heap.size + 1 := by omega
  have c3_r_0 : w3.cell? ⟨w.heap.size + 1, 0, none⟩ = some (.int .i64 0) := cell_keep bb3 c2_r_0
  have c3_r_1 : w3.cell? ⟨w.heap.size + 1, 1, none⟩ = some (.int .i64 0) := cell_keep bb3 c2_r_1
  have c3_r_2 : w3.cell? ⟨w.heap.size + 1, 2, none⟩ = some (.int .i64 0) := cell_keep bb3 c2_r_2
  have l3_r : w.heap.size + 1 < w3.heap.size := by omega
  have m3_r : w.heap.size + 1 < w3.heap.size + 1 := by omega
  have HT3 := Lib.hid (HT2.out.below bb3)
  have HFR3 := Lib.hid (HFR2.out.below bb3)
  have BE3 := Lib.hid be3
  clear be3 bb3 hb3 BE2 c2_a_0 c2_a_1 c2_a_2 l2_a m2_a c2_r_0 c2_r_1 c2_r_2 l2_r m2_r HT2 HFR2
  obtain ⟨fr0, fr1, fr2, fr3⟩ := HFR3.out
  go_wp2_with fail
  refine bodyPost_ret (v := RA (0, (0, 0), 1)) (by simp [results, Try.results11, go_sem, RA, c3_r_0, c3_r_1, c3_r_2]) rfl ⟨rfl, (by have q := BE3.out; repeat (first | exact q | refine Below.setCell ?_ (by first | (simp; done) | omega | (simp; omega)) _ | refine Below.alloc ?_ (by first | (simp; done) | omega | (simp; omega)) _ | refine below_drewN ?_ _ | refine Below.drew ?_))⟩
open Classical in
set_option maxRecDepth 100000 in
set_option maxHeartbeats 1600000 in
theorem rconv_high (p : Option Addr) (cap : Nat) (us : List Qn.Un) (a : Qn.Am) (tt : Int) (vi : Int) (w : World) (ht : Tab w p us) (hva : Qn.validS us = (vi, true)) (hm : decide (Qn.May us a) = true) (h0 : 0 ≤ tt) (h1 : (us.length : Int) ≤ tt) :
    Calls Try.prog 11 #[.slice p us.length cap, .agg #[.int .i64 a.1, .int .i64 a.2.1, .int .i64 a.2.2], .int .i64 tt] w fun e w' => e = .returned (RA (0, (0, 0), 1)) ∧ Below w.heap.size w w' := by
  have HT0 := Lib.hid ht
  clear ht
  have HVA := Lib.hid hva
  clear hva
  have HM := Lib.hid hm
  clear hm
  go_enter Try.func11, Try.ntmps11
  go_wp2_with fail
  have hq : Fr3 ((w.alloc (.cells #[.int .i64 a.1, .int .i64 a.2.1, .int .i64 a.2.2] 33)).alloc (.cells #[.int .i64 0, .int .i64 0, .int .i64 0] 33)) (w.heap.size + 1) := ⟨by simp, by go_simp, by go_simp, by go_simp⟩
  obtain ⟨w1, hw1⟩ : ∃ W, W = ((w.alloc (.cells #[.int .i64 a.1, .int .i64 a.2.1, .int .i64 a.2.2] 33)).alloc (.cells #[.int .i64 0, .int .i64 0, .int .i64 0] 33)) := ⟨_, rfl⟩
  have bb1 : Below w.heap.size w w1 := by rw [hw1]; exact (by repeat (first | exact Below.refl _ _ | assumption | refine below_drewN ?_ _ | refine Below.setCell ?_ (by first | (simp; done) | (simp; omega)) _ | refine Below.alloc ?_ (by first | (simp; done) | (simp; omega) | omega) _ | refine Below.drew ?_ | refine Below.trans ?_ (Below.mono (by assumption) (by first | (simp; done) | (simp; omega) | omega))))
  have n1_a_0 : w1.cell? ⟨w.heap.size, 0, none⟩ = some (.int .i64 a.1) := by rw [hw1]; go_simp
  have n1_a_1 : w1.cell? ⟨w.heap.size, 1, none⟩ = some (.int .i64 a.2.1) := by rw [hw1]; go_simp
  have n1_a_2 : w1.cell? ⟨w.heap.size, 2, none⟩ = some (.int .i64 a.2.2) := by rw [hw1]; go_simp
  have n1_r_0 : w1.cell? ⟨w.heap.size + 1, 0, none⟩ = some (.int .i64 0) := by rw [hw1]; go_simp
  have n1_r_1 : w1.cell? ⟨w.heap.size + 1, 1, none⟩ = some (.int .i64 0) := by rw [hw1]; go_simp
  have n1_r_2 : w1.cell? ⟨w.heap.size + 1, 2, none⟩ = some (.int .i64 0) := by rw [hw1]; go_simp
  rw [← hw1]
  rw [← hw1] at hq
  have hz1 := bb1.size
  (try simp at hz1)
  clear hw1
  have be1 : Below w.heap.size w w1 := bb1
  have c1_a_0 : w1.cell? ⟨w.heap.size, 0, none⟩ = some (.int .i64 a.1) := n1_a_0
  have c1_a_1 : w1.cell? ⟨w.heap.size, 1, none⟩ = some (.int .i64 a.2.1) := n1_a_1
  have c1_a_2 : w1.cell? ⟨w.heap.size, 2, none⟩ = some (.int .i64 a.2.2) := n1_a_2
  have l1_a : w.heap.size < w1.heap.size := World.block_lt_of_cell? w1 _ c1_a_0
  have m1_a : w.heap.size < w1.heap.size + 1 := by omega
  have c1_r_0 : w1.cell? ⟨w.heap.size + 1, 0, none⟩ = some (.int .i64 0) := n1_r_0
  have c1_r_1 : w1.cell? ⟨w.heap.size + 1, 1, none⟩ = some (.int .i64 0) := n1_r_1
  have c1_r_2 : w1.cell? ⟨w.heap.size + 1, 2, none⟩ = some (.int .i64 0) := n1_r_2
  have l1_r : w.heap.size + 1 < w1.heap.size := World.block_lt_of_cell? w1 _ c1_r_0
  have m1_r : w.heap.size + 1 < w1.heap.size + 1 := by omega
  have HT1 := Lib.hid (HT0.out.below bb1)
  have BE1 := Lib.hid be1
  clear be1 bb1 HT0
  have HFR1 := Lib.hid hq
  clear hq
  skip
  refine (rqvalid_any p cap us _ (HT1.out.below (by repeat (first | exact Below.refl _ _ | assumption | refine below_drewN ?_ _ | refine Below.setCell ?_ (by first | (simp; done) | (simp; omega)) _ | refine Below.alloc ?_ (by first | (simp; done) | (simp; omega) | omega) _ | refine Below.drew ?_ | refine Below.trans ?_ (Below.mono (by assumption) (by first | (simp; done) | (simp; omega) | omega)))))).mono ?_
  rintro e w2 ⟨rfl, hb2⟩
  rw [HVA.out]
  simp only [RIB]
  have hz2 := hb2.size
  (try simp at hz2)
  have bb2 : Below w1.heap.size w1 w2 := (by repeat (first | exact Below.refl _ _ | assumption | refine below_drewN ?_ _ | refine Below.setCell ?_ (by first | (simp; done) | (simp; omega)) _ | refine Below.alloc ?_ (by first | (simp; done) | (simp; omega) | omega) _ | refine Below.drew ?_ | refine Below.trans ?_ (Below.mono (by assumption) (by first | (simp; done) | (simp; omega) | omega))))
  have be2 : Below w.heap.size w w2 := BE1.out.trans (bb2.mono BE1.out.size)
  have c2_a_0 : w2.cell? ⟨w.heap.size, 0, none⟩ = some (.int .i64 a.1) := cell_keep bb2 c1_a_0
  have c2_a_1 : w2.cell? ⟨w.heap.size, 1, none⟩ = some (.int .i64 a.2.1) := cell_keep bb2 c1_a_1
  have c2_a_2 : w2.cell? ⟨w.heap.size, 2, none⟩ = some (.int .i64 a.2.2) := cell_keep bb2 c1_a_2
  have l2_a : w.heap.size < w2.heap.size := by omega
  have m2_a : w.heap.size < w2.heap.size + 1 := by omega
  have c2_r_0 : w2.cell? ⟨w.heap.size + 1, 0, none⟩ = some (.int .i64 0) := cell_keep bb2 c1_r_0
  have c2_r_1 : w2.cell? ⟨w.heap.size + 1, 1, none⟩ = some (.int .i64 0) := cell_keep bb2 c1_r_1
  have c2_r_2 : w2.cell? ⟨w.heap.size + 1, 2, none⟩ = some (.int .i64 0) := cell_keep bb2 c1_r_2
  have l2_r : w.heap.size + 1 < w2.heap.size := by omega
  have m2_r : w.heap.size + 1 < w2.heap.size + 1 := by omega
  have HT2 := Lib.hid (HT1.out.below bb2)
  have HFR2 := Lib.hid (HFR1.out.below bb2)
  have BE2 := Lib.hid be2
  clear be2 bb2 hb2 BE1 c1_a_0 c1_a_1 c1_a_2 l1_a m1_a c1_r_0 c1_r_1 c1_r_2 l1_r m1_r HT1 HFR1
  go_wp2_with fail
  refine (rmay_any p cap us a _).mono ?_
  rintro e w3 ⟨rfl, hb3⟩
  rw [HM.out]
  have hz3 := hb3.size
  (try simp at hz3)
  have bb3 : Below w2.heap.size w2 w3 := (by repeat (first | exact Below.refl _ _ | assumption | refine below_drewN ?_ _ | refine Below.setCell ?_ (by first | (simp; done) | (simp; omega)) _ | refine Below.alloc ?_ (by first | (simp; done) | (simp; omega) | omega) _ | refine Below.drew ?_ | refine Below.trans ?_ (Below.mono (by assumption) (by first | (simp; done) | (simp; omega) | omega))))
  have be3 : Below w.heap.size w w3 := BE2.out.trans (bb3.mono BE2.out.size)
  have c3_a_0 : w3.cell? ⟨w.heap.size, 0, none⟩ = some (.int .i64 a.1) := cell_keep bb3 c2_a_0
  have c3_a_1 : w3.cell? ⟨w.heap.size, 1, none⟩ = some (.int .i64 a.2.1) := cell_keep bb3 c2_a_1
  have c3_a_2 : w3.cell? ⟨w.heap.size, 2, none⟩ = some (.int .i64 a.2.2) := cell_keep bb3 c2_a_2
  have l3_a : w.heap.size < w3.heap.size := by omega
  have m3_a : w.heap.size < w3.heap.size + 1 := by omega
  have c3_r_0 : w3.cell? ⟨w.heap.size + 1, 0, none⟩ = some (.int .i64 0) := cell_keep bb3 c2_r_0
  have c3_r_1 : w3.cell? ⟨w.heap.size + 1, 1, none⟩ = some (.int .i64 0) := cell_keep bb3 c2_r_1
  have c3_r_2 : w3.cell? ⟨w.heap.size + 1, 2, none⟩ = some (.int .i64 0) := cell_keep bb3 c2_r_2
  have l3_r : w.heap.size + 1 < w3.heap.size := by omega
  have m3_r : w.heap.size + 1 < w3.heap.size + 1 := by omega
  have HT3 := Lib.hid (HT2.out.below bb3)
  have HFR3 := Lib.hid (HFR2.out.below bb3)
  have BE3 := Lib.hid be3
  clear be3 bb3 hb3 BE2 c2_a_0 c2_a_1 c2_a_2 l2_a m2_a c2_r_0 c2_r_1 c2_r_2 l2_r m2_r HT2 HFR2
  obtain ⟨fr0, fr1, fr2, fr3⟩ := HFR3.out
  go_wp2_with fail
  refine bodyPost_ret (v := RA (0, (0, 0), 1)) (by simp [results, Try.results11, go_sem, RA, c3_r_0, c3_r_1, c3_r_2]) rfl ⟨rfl, (by have q := BE3.out; repeat (first | exact q | refine Below.setCell ?_ (by first | (simp; done) | omega | (simp; omega)) _ | refine Below.alloc ?_ (by first | (simp; done) | omega | (simp; omega)) _ | refine below_drewN ?_ _ | refine Below.drew ?_))⟩
end Go.Proofs.Ytpdknjbhnelidaa

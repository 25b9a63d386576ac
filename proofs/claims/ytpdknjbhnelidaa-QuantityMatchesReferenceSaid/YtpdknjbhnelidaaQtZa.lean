/- The reference's Convert. -/
import Derived.Test.YtpdknjbhnelidaaQtZ
import Derived.Deep.DeepCutAuto
namespace Go.Proofs.Ytpdknjbhnelidaa
open Go.RowKit

theorem hold_new {W w' : World} {o : Obj} (h : Below W.heap.size W w' ∧ ∀ b o, b < W.heap.size → w'.cell? ⟨b, o, none⟩ = W.cell? ⟨b, o, none⟩) : Below W.heap.size W (w'.alloc o) ∧ ∀ b p, b < W.heap.size → (w'.alloc o).cell? ⟨b, p, none⟩ = W.cell? ⟨b, p, none⟩ := holdS (h.1.alloc h.1.size _)
theorem hold_put {W w' : World} {p : Addr} {v : Value} (h : Below W.heap.size W w' ∧ ∀ b o, b < W.heap.size → w'.cell? ⟨b, o, none⟩ = W.cell? ⟨b, o, none⟩) (hp : W.heap.size ≤ p.block) : Below W.heap.size W (w'.setCell p v) ∧ ∀ b q, b < W.heap.size → (w'.setCell p v).cell? ⟨b, q, none⟩ = W.cell? ⟨b, q, none⟩ := holdS (h.1.setCell hp _)
open Classical in
set_option maxRecDepth 100000 in
set_option maxHeartbeats 1600000 in
theorem rconv_kind (p : Option Addr) (cap : Nat) (us : List Qn.Un) (k1 k2 : Nat) (v : Qn.R) (u1 u2 : Qn.Un) (vi : Int) (w : World) (ht : Tab w p us) (hva : Qn.validS us = (vi, true)) (hm : decide (Qn.May us ((k1 : Int), v)) = true) (hu1 : us[k1]? = some u1) (hu2 : us[k2]? = some u2) (hb : (u1.base != u2.base) = true) :
    Calls Try.prog 11 #[.slice p us.length cap, .agg #[.int .i64 k1, .int .i64 v.1, .int .i64 v.2], .int .i64 k2] w fun e w' => e = .returned (RA (0, (0, 0), 11)) ∧ Below w.heap.size w w' := by
  have HT0 := Lib.hid ht
  clear ht
  have HVA := Lib.hid hva
  clear hva
  have HM := Lib.hid hm
  clear hm
  have hl1 := (List.getElem?_eq_some_iff.1 hu1).1
  have hl2 := (List.getElem?_eq_some_iff.1 hu2).1
  have hi1 : (0 : Int) ≤ (k1 : Int) := by omega
  have hi2 : (0 : Int) ≤ (k2 : Int) := by omega
  have hi3 : (k1 : Int) < (us.length : Int) := by omega
  have hi4 : (k2 : Int) < (us.length : Int) := by omega
  have HU1 := Lib.hid hu1
  have HU2 := Lib.hid hu2
  clear hu1 hu2
  go_enter Try.func11, Try.ntmps11
  go_wp2_with fail
  have hq : Fr3 ((w.alloc (.cells #[.int .i64 k1, .int .i64 v.1, .int .i64 v.2] 33)).alloc (.cells #[.int .i64 0, .int .i64 0, .int .i64 0] 33)) (w.heap.size + 1) := ⟨by simp, by go_simp, by go_simp, by go_simp⟩
  obtain ⟨w1, hw1⟩ : ∃ W, W = ((w.alloc (.cells #[.int .i64 k1, .int .i64 v.1, .int .i64 v.2] 33)).alloc (.cells #[.int .i64 0, .int .i64 0, .int .i64 0] 33)) := ⟨_, rfl⟩
  have bb1 : Below w.heap.size w w1 := by rw [hw1]; exact (by repeat (first | exact Below.refl _ _ | assumption | refine below_drewN ?_ _ | refine Below.setCell ?_ (by first | (simp; done) | (simp; omega)) _ | refine Below.alloc ?_ (by first | (simp; done) | (simp; omega) | omega) _ | refine Below.drew ?_ | refine Below.trans ?_ (Below.mono (by assumption) (by first | (simp; done) | (simp; omega) | omega))))
  have n1_a_0 : w1.cell? ⟨w.heap.size, 0, none⟩ = some (.int .i64 k1) := by rw [hw1]; go_simp
  have n1_a_1 : w1.cell? ⟨w.heap.size, 1, none⟩ = some (.int .i64 v.1) := by rw [hw1]; go_simp
  have n1_a_2 : w1.cell? ⟨w.heap.size, 2, none⟩ = some (.int .i64 v.2) := by rw [hw1]; go_simp
  have n1_r_0 : w1.cell? ⟨w.heap.size + 1, 0, none⟩ = some (.int .i64 0) := by rw [hw1]; go_simp
  have n1_r_1 : w1.cell? ⟨w.heap.size + 1, 1, none⟩ = some (.int .i64 0) := by rw [hw1]; go_simp
  have n1_r_2 : w1.cell? ⟨w.heap.size + 1, 2, none⟩ = some (.int .i64 0) := by rw [hw1]; go_simp
  rw [← hw1]
  rw [← hw1] at hq
  have hz1 := bb1.size
  (try simp at hz1)
  clear hw1
  have be1 : Below w.heap.size w w1 := bb1
  have c1_a_0 : w1.cell? ⟨w.heap.size, 0, none⟩ = some (.int .i64 k1) := n1_a_0
  have c1_a_1 : w1.cell? ⟨w.heap.size, 1, none⟩ = some (.int .i64 v.1) := n1_a_1
  have c1_a_2 : w1.cell? ⟨w.heap.size, 2, none⟩ = some (.int .i64 v.2) := n1_a_2
  have l1_a : w.heap.size < w1.heap.size := World.block_lt_of_cell? w1 _ c1_a_0
  have m1_a : w.heap.size < w1.heap.size + 1 := by omega
  have c1_r_0 : w1.cell? ⟨w.heap.size + 1, 0, none⟩ = some (.int .i64 0) := n1_r_0
  have c1_r_1 : w1.cell? ⟨w.heap.size + 1, 1, none⟩ = some (.int .i64 0) := n1_r_1
  have c1_r_2 : w1.cell? ⟨w.heap.size + 1, 2, none⟩ = some (.int .i64 0) := n1_r_2
  have l1_r : w.heap.size + 1 < w1.heap.size := World.block_lt_of_cell? w1 _ c1_r_0
  have m1_r : w.heap.size + 1 < w1.heap.size + 1 := by omega
  have HT1 := Lib.hid (HT0.out.below bb1)
  have BE1 := Lib.hid be1
  clear be1 bb1 HT0
  have HFR1 := Lib.hid hq
  clear hq
  skip
  refine (rqvalid_any p cap us _ (HT1.out.below (by repeat (first | exact Below.refl _ _ | assumption | refine below_drewN ?_ _ | refine Below.setCell ?_ (by first | (simp; done) | (simp; omega)) _ | refine Below.alloc ?_ (by first | (simp; done) | (simp; omega) | omega) _ | refine Below.drew ?_ | refine Below.trans ?_ (Below.mono (by assumption) (by first | (simp; done) | (simp; omega) | omega)))))).mono ?_
  rintro e w2 ⟨rfl, hb2⟩
  rw [HVA.out]
  simp only [RIB]
  have hz2 := hb2.size
  (try simp at hz2)
  have bb2 : Below w1.heap.size w1 w2 := (by repeat (first | exact Below.refl _ _ | assumption | refine below_drewN ?_ _ | refine Below.setCell ?_ (by first | (simp; done) | (simp; omega)) _ | refine Below.alloc ?_ (by first | (simp; done) | (simp; omega) | omega) _ | refine Below.drew ?_ | refine Below.trans ?_ (Below.mono (by assumption) (by first | (simp; done) | (simp; omega) | omega))))
  have be2 : Below w.heap.size w w2 := BE1.out.trans (bb2.mono BE1.out.size)
  have c2_a_0 : w2.cell? ⟨w.heap.size, 0, none⟩ = some (.int .i64 k1) := cell_keep bb2 c1_a_0
  have c2_a_1 : w2.cell? ⟨w.heap.size, 1, none⟩ = some (.int .i64 v.1) := cell_keep bb2 c1_a_1
  have c2_a_2 : w2.cell? ⟨w.heap.size, 2, none⟩ = some (.int .i64 v.2) := cell_keep bb2 c1_a_2
  have l2_a : w.heap.size < w2.heap.size := by omega
  have m2_a : w.heap.size < w2.heap.size + 1 := by omega
  have c2_r_0 : w2.cell? ⟨w.heap.size + 1, 0, none⟩ = some (.int .i64 0) := cell_keep bb2 c1_r_0
  have c2_r_1 : w2.cell? ⟨w.heap.size + 1, 1, none⟩ = some (.int .i64 0) := cell_keep bb2 c1_r_1
  have c2_r_2 : w2.cell? ⟨w.heap.size + 1, 2, none⟩ = some (.int .i64 0) := cell_keep bb2 c1_r_2
  have l2_r : w.heap.size + 1 < w2.heap.size := by omega
  have m2_r : w.heap.size + 1 < w2.heap.size + 1 := by omega
  have HT2 := Lib.hid (HT1.out.below bb2)
  have HFR2 := Lib.hid (HFR1.out.below bb2)
  have BE2 := Lib.hid be2
  clear be2 bb2 hb2 BE1 c1_a_0 c1_a_1 c1_a_2 l1_a m1_a c1_r_0 c1_r_1 c1_r_2 l1_r m1_r HT1 HFR1
  go_wp2_with fail
  refine (rmay_any p cap us ((k1 : Int), v) _).mono ?_
  rintro e w3 ⟨rfl, hb3⟩
  rw [HM.out]
  have hz3 := hb3.size
  (try simp at hz3)
  have bb3 : Below w2.heap.size w2 w3 := (by repeat (first | exact Below.refl _ _ | assumption | refine below_drewN ?_ _ | refine Below.setCell ?_ (by first | (simp; done) | (simp; omega)) _ | refine Below.alloc ?_ (by first | (simp; done) | (simp; omega) | omega) _ | refine Below.drew ?_ | refine Below.trans ?_ (Below.mono (by assumption) (by first | (simp; done) | (simp; omega) | omega))))
  have be3 : Below w.heap.size w w3 := BE2.out.trans (bb3.mono BE2.out.size)
  have c3_a_0 : w3.cell? ⟨w.heap.size, 0, none⟩ = some (.int .i64 k1) := cell_keep bb3 c2_a_0
  have c3_a_1 : w3.cell? ⟨w.heap.size, 1, none⟩ = some (.int .i64 v.1) := cell_keep bb3 c2_a_1
  have c3_a_2 : w3.cell? ⟨w.heap.size, 2, none⟩ = some (.int .i64 v.2) := cell_keep bb3 c2_a_2
  have l3_a : w.heap.size < w3.heap.size := by omega
  have m3_a : w.heap.size < w3.heap.size + 1 := by omega
  have c3_r_0 : w3.cell? ⟨w.heap.size + 1, 0, none⟩ = some (.int .i64 0) := cell_keep bb3 c2_r_0
  have c3_r_1 : w3.cell? ⟨w.heap.size + 1, 1, none⟩ = some (.int .i64 0) := cell_keep bb3 c2_r_1
  have c3_r_2 : w3.cell? ⟨w.heap.size + 1, 2, none⟩ = some (.int .i64 0) := cell_keep bb3 c2_r_2
  have l3_r : w.heap.size + 1 < w3.heap.size := by omega
  have m3_r : w.heap.size + 1 < w3.heap.size + 1 := by omega
  have HT3 := Lib.hid (HT2.out.below bb3)
  have HFR3 := Lib.hid (HFR2.out.below bb3)
  have BE3 := Lib.hid be3
  clear be3 bb3 hb3 BE2 c2_a_0 c2_a_1 c2_a_2 l2_a m2_a c2_r_0 c2_r_1 c2_r_2 l2_r m2_r HT2 HFR2
  obtain ⟨ub, uo, hpe, ⟨_, _, e2, e3, e4⟩, _, hub⟩ := HT3.out.at HU1.out
  subst hpe
  obtain ⟨_, _, hpe, ⟨_, _, g2, g3, g4⟩, _, _⟩ := HT3.out.at HU2.out
  cases hpe
  have hub1 : ub < w3.heap.size + 1 := by omega
  obtain ⟨fr0, fr1, fr2, fr3⟩ := HFR3.out
  go_wp2_with fail
  go_quiet (fail)
  go_wp2_with fail
  refine bodyPost_ret (v := RA (0, (0, 0), 11)) (by simp [results, Try.results11, go_sem, RA, c3_r_0, c3_r_1, c3_r_2]) rfl ⟨rfl, (by have q := BE3.out; repeat (first | exact q | refine Below.setCell ?_ (by first | (simp; done) | omega | (simp; omega)) _ | refine Below.alloc ?_ (by first | (simp; done) | omega | (simp; omega)) _ | refine below_drewN ?_ _ | refine Below.drew ?_))⟩
open Classical in
set_option maxRecDepth 100000 in
set_option maxHeartbeats 3200000 in
theorem rconv_go (p : Option Addr) (cap : Nat) (us : List Qn.Un) (k1 k2 : Nat) (v : Qn.R) (u1 u2 : Qn.Un) (vi : Int) (x y e : Int) (res : Int × Qn.R × Int) (w : World) (ht : Tab w p us) (hva : Qn.validS us = (vi, true)) (hm : decide (Qn.May us ((k1 : Int), v)) = true) (hu1 : us[k1]? = some u1) (hu2 : us[k2]? = some u2) (hb : (u1.base != u2.base) = false) (hrv : Qn.RO v) (hf1 : Qn.Fac u1.fac) (hf2 : Qn.Fac u2.fac) (hcv : Qn.conv v u1.fac u2.fac = (x, y, e)) (hres : (e = 0 → res = ((k2 : Int), (x, y), 0)) ∧ (e ≠ 0 → res = (0, (0, 0), e))) :
    Calls Try.prog 11 #[.slice p us.length cap, .agg #[.int .i64 k1, .int .i64 v.1, .int .i64 v.2], .int .i64 k2] w fun e w' => e = .returned (RA res) ∧ Below w.heap.size w w' := by
  have HT0 := Lib.hid ht
  clear ht
  have HVA := Lib.hid hva
  clear hva
  have HM := Lib.hid hm
  clear hm
  have hl1 := (List.getElem?_eq_some_iff.1 hu1).1
  have hl2 := (List.getElem?_eq_some_iff.1 hu2).1
  have hi1 : (0 : Int) ≤ (k1 : Int) := by omega
  have hi2 : (0 : Int) ≤ (k2 : Int) := by omega
  have hi3 : (k1 : Int) < (us.length : Int) := by omega
  have hi4 : (k2 : Int) < (us.length : Int) := by omega
  have HU1 := Lib.hid hu1
  have HU2 := Lib.hid hu2
  clear hu1 hu2
  have HRV := Lib.hid hrv
  clear hrv
  have HF1 := Lib.hid hf1
  clear hf1
  have HF2 := Lib.hid hf2
  clear hf2
  have HCV := Lib.hid hcv
  clear hcv
  have HRES := Lib.hid hres
  clear hres
  go_enter Try.func11, Try.ntmps11
  go_wp2_with fail
  have hq : Fr3 ((w.alloc (.cells #[.int .i64 k1, .int .i64 v.1, .int .i64 v.2] 33)).alloc (.cells #[.int .i64 0, .int .i64 0, .int .i64 0] 33)) (w.heap.size + 1) := ⟨by simp, by go_simp, by go_simp, by go_simp⟩
  obtain ⟨w1, hw1⟩ : ∃ W, W = ((w.alloc (.cells #[.int .i64 k1, .int .i64 v.1, .int .i64 v.2] 33)).alloc (.cells #[.int .i64 0, .int .i64 0, .int .i64 0] 33)) := ⟨_, rfl⟩
  have bb1 : Below w.heap.size w w1 := by rw [hw1]; exact (by repeat (first | exact Below.refl _ _ | assumption | refine below_drewN ?_ _ | refine Below.setCell ?_ (by first | (simp; done) | (simp; omega)) _ | refine Below.alloc ?_ (by first | (simp; done) | (simp; omega) | omega) _ | refine Below.drew ?_ | refine Below.trans ?_ (Below.mono (by assumption) (by first | (simp; done) | (simp; omega) | omega))))
  have n1_a_0 : w1.cell? ⟨w.heap.size, 0, none⟩ = some (.int .i64 k1) := by rw [hw1]; go_simp
  have n1_a_1 : w1.cell? ⟨w.heap.size, 1, none⟩ = some (.int .i64 v.1) := by rw [hw1]; go_simp
  have n1_a_2 : w1.cell? ⟨w.heap.size, 2, none⟩ = some (.int .i64 v.2) := by rw [hw1]; go_simp
  have n1_r_0 : w1.cell? ⟨w.heap.size + 1, 0, none⟩ = some (.int .i64 0) := by rw [hw1]; go_simp
  have n1_r_1 : w1.cell? ⟨w.heap.size + 1, 1, none⟩ = some (.int .i64 0) := by rw [hw1]; go_simp
  have n1_r_2 : w1.cell? ⟨w.heap.size + 1, 2, none⟩ = some (.int .i64 0) := by rw [hw1]; go_simp
  rw [← hw1]
  rw [← hw1] at hq
  have hz1 := bb1.size
  (try simp at hz1)
  clear hw1
  have be1 : Below w.heap.size w w1 := bb1
  have c1_a_0 : w1.cell? ⟨w.heap.size, 0, none⟩ = some (.int .i64 k1) := n1_a_0
  have c1_a_1 : w1.cell? ⟨w.heap.size, 1, none⟩ = some (.int .i64 v.1) := n1_a_1
  have c1_a_2 : w1.cell? ⟨w.heap.size, 2, none⟩ = some (.int .i64 v.2) := n1_a_2
  have l1_a : w.heap.size < w1.heap.size := World.block_lt_of_cell? w1 _ c1_a_0
  have m1_a : w.heap.size < w1.heap.size + 1 := by omega
  have c1_r_0 : w1.cell? ⟨w.heap.size + 1, 0, none⟩ = some (.int .i64 0) := n1_r_0
  have c1_r_1 : w1.cell? ⟨w.heap.size + 1, 1, none⟩ = some (.int .i64 0) := n1_r_1
  have c1_r_2 : w1.cell? ⟨w.heap.size + 1, 2, none⟩ = some (.int .i64 0) := n1_r_2
  have l1_r : w.heap.size + 1 < w1.heap.size := World.block_lt_of_cell? w1 _ c1_r_0
  have m1_r : w.heap.size + 1 < w1.heap.size + 1 := by omega
  have HT1 := Lib.hid (HT0.out.below bb1)
  have BE1 := Lib.hid be1
  clear be1 bb1 HT0
  have HFR1 := Lib.hid hq
  clear hq
  skip
  refine (rqvalid_any p cap us _ (HT1.out.below (by repeat (first | exact Below.refl _ _ | assumption | refine below_drewN ?_ _ | refine Below.setCell ?_ (by first | (simp; done) | (simp; omega)) _ | refine Below.alloc ?_ (by first | (simp; done) | (simp; omega) | omega) _ | refine Below.drew ?_ | refine Below.trans ?_ (Below.mono (by assumption) (by first | (simp; done) | (simp; omega) | omega)))))).mono ?_
  rintro e w2 ⟨rfl, hb2⟩
  rw [HVA.out]
  simp only [RIB]
  have hz2 := hb2.size
  (try simp at hz2)
  have bb2 : Below w1.heap.size w1 w2 := (by repeat (first | exact Below.refl _ _ | assumption | refine below_drewN ?_ _ | refine Below.setCell ?_ (by first | (simp; done) | (simp; omega)) _ | refine Below.alloc ?_ (by first | (simp; done) | (simp; omega) | omega) _ | refine Below.drew ?_ | refine Below.trans ?_ (Below.mono (by assumption) (by first | (simp; done) | (simp; omega) | omega))))
  have be2 : Below w.heap.size w w2 := BE1.out.trans (bb2.mono BE1.out.size)
  have c2_a_0 : w2.cell? ⟨w.heap.size, 0, none⟩ = some (.int .i64 k1) := cell_keep bb2 c1_a_0
  have c2_a_1 : w2.cell? ⟨w.heap.size, 1, none⟩ = some (.int .i64 v.1) := cell_keep bb2 c1_a_1
  have c2_a_2 : w2.cell? ⟨w.heap.size, 2, none⟩ = some (.int .i64 v.2) := cell_keep bb2 c1_a_2
  have l2_a : w.heap.size < w2.heap.size := by omega
  have m2_a : w.heap.size < w2.heap.size + 1 := by omega
  have c2_r_0 : w2.cell? ⟨w.heap.size + 1, 0, none⟩ = some (.int .i64 0) := cell_keep bb2 c1_r_0
  have c2_r_1 : w2.cell? ⟨w.heap.size + 1, 1, none⟩ = some (.int .i64 0) := cell_keep bb2 c1_r_1
  have c2_r_2 : w2.cell? ⟨w.heap.size + 1, 2, none⟩ = some (.int .i64 0) := cell_keep bb2 c1_r_2
  have l2_r : w.heap.size + 1 < w2.heap.size := by omega
  have m2_r : w.heap.size + 1 < w2.heap.size + 1 := by omega
  have HT2 := Lib.hid (HT1.out.below bb2)
  have HFR2 := Lib.hid (HFR1.out.below bb2)
  have BE2 := Lib.hid be2
  clear be2 bb2 hb2 BE1 c1_a_0 c1_a_1 c1_a_2 l1_a m1_a c1_r_0 c1_r_1 c1_r_2 l1_r m1_r HT1 HFR1
  go_wp2_with fail
  refine (rmay_any p cap us ((k1 : Int), v) _).mono ?_
  rintro e w3 ⟨rfl, hb3⟩
  rw [HM.out]
  have hz3 := hb3.size
  (try simp at hz3)
  have bb3 : Below w2.heap.size w2 w3 := (by repeat (first | exact Below.refl _ _ | assumption | refine below_drewN ?_ _ | refine Below.setCell ?_ (by first | (simp; done) | (simp; omega)) _ | refine Below.alloc ?_ (by first | (simp; done) | (simp; omega) | omega) _ | refine Below.drew ?_ | refine Below.trans ?_ (Below.mono (by assumption) (by first | (simp; done) | (simp; omega) | omega))))
  have be3 : Below w.heap.size w w3 := BE2.out.trans (bb3.mono BE2.out.size)
  have c3_a_0 : w3.cell? ⟨w.heap.size, 0, none⟩ = some (.int .i64 k1) := cell_keep bb3 c2_a_0
  have c3_a_1 : w3.cell? ⟨w.heap.size, 1, none⟩ = some (.int .i64 v.1) := cell_keep bb3 c2_a_1
  have c3_a_2 : w3.cell? ⟨w.heap.size, 2, none⟩ = some (.int .i64 v.2) := cell_keep bb3 c2_a_2
  have l3_a : w.heap.size < w3.heap.size := by omega
  have m3_a : w.heap.size < w3.heap.size + 1 := by omega
  have c3_r_0 : w3.cell? ⟨w.heap.size + 1, 0, none⟩ = some (.int .i64 0) := cell_keep bb3 c2_r_0
  have c3_r_1 : w3.cell? ⟨w.heap.size + 1, 1, none⟩ = some (.int .i64 0) := cell_keep bb3 c2_r_1
  have c3_r_2 : w3.cell? ⟨w.heap.size + 1, 2, none⟩ = some (.int .i64 0) := cell_keep bb3 c2_r_2
  have l3_r : w.heap.size + 1 < w3.heap.size := by omega
  have m3_r : w.heap.size + 1 < w3.heap.size + 1 := by omega
  have HT3 := Lib.hid (HT2.out.below bb3)
  have HFR3 := Lib.hid (HFR2.out.below bb3)
  have BE3 := Lib.hid be3
  clear be3 bb3 hb3 BE2 c2_a_0 c2_a_1 c2_a_2 l2_a m2_a c2_r_0 c2_r_1 c2_r_2 l2_r m2_r HT2 HFR2
  go_upto_region 4 with fail
  go_cut [47] (fun s wx => s = .bool false ∧ Below w3.heap.size w3 wx)
  case first =>
    obtain ⟨ub, uo, hpe, ⟨_, _, e2, e3, e4⟩, _, hub⟩ := HT3.out.at HU1.out
    subst hpe
    obtain ⟨_, _, hpe, ⟨_, _, g2, g3, g4⟩, _, _⟩ := HT3.out.at HU2.out
    cases hpe
    have hub1 : ub < w3.heap.size + 1 := by omega
    go_wp2_with fail
    go_quiet (fail)
    go_wp2_with fail
    go_meet
    exact ⟨rfl, below_drewN (Below.refl _ _) _⟩
  case rest =>
    obtain ⟨rfl, hbx⟩ := hcut
    obtain ⟨wb, rfl⟩ : ∃ W, W = wc := ⟨_, rfl⟩
    have ca0 := cell_keep hbx c3_a_0
    have ca1 := cell_keep hbx c3_a_1
    have ca2 := cell_keep hbx c3_a_2
    have cr0 := cell_keep hbx c3_r_0
    have cr1 := cell_keep hbx c3_r_1
    have cr2 := cell_keep hbx c3_r_2
    have la : w.heap.size < wb.heap.size := World.block_lt_of_cell? wb _ ca0
    have la1 : w.heap.size < wb.heap.size + 1 := by omega
    have lr : w.heap.size + 1 < wb.heap.size := World.block_lt_of_cell? wb _ cr0
    have HFb := Lib.hid (HFR3.out.below hbx)
    have HTb := Lib.hid (HT3.out.below hbx)
    have HBb := Lib.hid (BE3.out.trans (hbx.mono BE3.out.size))
    clear hbx c3_a_0 c3_a_1 c3_a_2 c3_r_0 c3_r_1 c3_r_2
    obtain ⟨ub, uo, hpe, ⟨_, _, e2, e3, e4⟩, _, hub⟩ := HTb.out.at HU1.out
    subst hpe
    obtain ⟨_, _, hpe, ⟨_, _, g2, g3, g4⟩, _, _⟩ := HTb.out.at HU2.out
    cases hpe
    have hub1 : ub < wb.heap.size + 1 := by omega
    go_upto_region 6 with fail
    go_cut [10, 11] (fun s10 s11 wx => ∃ g : Nat, s10 = .pointer (some ⟨g, 0, none⟩) ∧ s11 = .int .i64 e ∧ wb.heap.size ≤ g ∧ wx.cell? ⟨g, 0, none⟩ = some (.int .i64 x) ∧ wx.cell? ⟨g, 1, none⟩ = some (.int .i64 y) ∧ Below wb.heap.size wb wx)
    case first =>
      go_region_held3 (fun w' => Below wb.heap.size wb w' ∧ ∀ b o, b < wb.heap.size → w'.cell? ⟨b, o, none⟩ = wb.cell? ⟨b, o, none⟩) (first | assumption | exact holdT (by assumption) (by assumption) | exact hold_new (by assumption) | exact hold_put (hold_put (by assumption) (by simp; omega)) (by simp; omega) | exact holdS (by repeat (first | exact Below.refl _ _ | assumption | refine below_drewN ?_ _ | refine Below.setCell ?_ (by first | (simp; done) | (simp; omega)) _ | refine Below.alloc ?_ (by first | (simp; done) | (simp; omega) | omega) _ | refine Below.drew ?_ | refine Below.trans ?_ (Below.mono (by assumption) (by first | (simp; done) | (simp; omega) | omega)))))
        (first | (go_at_call 26; refine (scaled_walk v u1.fac u2.fac _ HRV.out HF1.out HF2.out).mono ?_; rintro e w' ⟨rfl, hb'⟩; rw [HCV.out]; simp only [RV]; have hzz := hb'.size; (try simp at hzz); have y0 := hb'.cell (p := ⟨wb.heap.size, 0, none⟩); have y1 := hb'.cell (p := ⟨wb.heap.size, 1, none⟩); have y2 := hb'.frozen (p := ⟨wb.heap.size, 0, none⟩); have y3 := hb'.frozen (p := ⟨wb.heap.size, 1, none⟩)))
      all_goals
        go_wp2_with fail
        go_meet
        exact ⟨_, rfl, rfl, (by first | (simp; done) | (simp; omega) | omega), by go_simp, by go_simp, (by repeat (first | exact Below.refl _ _ | assumption | refine below_drewN ?_ _ | refine Below.setCell ?_ (by first | (simp; done) | (simp; omega)) _ | refine Below.alloc ?_ (by first | (simp; done) | (simp; omega) | omega) _ | refine Below.drew ?_ | refine Below.trans ?_ (Below.mono (by assumption) (by first | (simp; done) | (simp; omega) | omega))))⟩
    case rest =>
      obtain ⟨g, rfl, rfl, hge, q0, q1, hb9⟩ := hcut
      obtain ⟨w9, rfl⟩ : ∃ W, W = wc := ⟨_, rfl⟩
      have r0 := cell_keep hb9 cr0
      have r1 := cell_keep hb9 cr1
      have r2 := cell_keep hb9 cr2
      have hfr := HFb.out.below hb9
      have hg9 : g < w9.heap.size := World.block_lt_of_cell? w9 _ q0
      have hl9 : w.heap.size + 1 < w9.heap.size := hfr.1
      have hne : g ≠ w.heap.size + 1 := by have := lr; omega
      have HB9 := Lib.hid (HBb.out.trans (hb9.mono HBb.out.size))
      obtain ⟨fr0, fr1, fr2, fr3⟩ := hfr
      clear hb9
      by_cases he : e = 0
      · subst he
        go_wp2_with fail
        refine bodyPost_ret (v := RA ((k2 : Int), (x, y), 0)) (by simp [results, Try.results11, go_sem, RA, r0, r1, r2]) rfl ⟨by rw [HRES.out.1 (by first | rfl | trivial)], (by repeat (first | exact Below.refl _ _ | exact HB9.out | assumption | refine below_drewN ?_ _ | refine Below.setCell ?_ (by first | (simp; done) | (simp; omega)) _ | refine Below.alloc ?_ (by first | (simp; done) | (simp; omega) | omega) _ | refine Below.drew ?_ | refine Below.trans ?_ (Below.mono (by assumption) (by first | (simp; done) | (simp; omega) | omega))))⟩
      · have heb : (e != 0) = true := bne_iff_ne.2 he
        have HR2 := Lib.hid (HRES.out.2 he)
        clear he
        go_wp2_with fail
        refine bodyPost_ret (v := RA (0, (0, 0), e)) (by simp [results, Try.results11, go_sem, RA, r0, r1, r2]) rfl ⟨by rw [HR2.out], (by repeat (first | exact Below.refl _ _ | exact HB9.out | assumption | refine below_drewN ?_ _ | refine Below.setCell ?_ (by first | (simp; done) | (simp; omega)) _ | refine Below.alloc ?_ (by first | (simp; done) | (simp; omega) | omega) _ | refine Below.drew ?_ | refine Below.trans ?_ (Below.mono (by assumption) (by first | (simp; done) | (simp; omega) | omega))))⟩
end Go.Proofs.Ytpdknjbhnelidaa

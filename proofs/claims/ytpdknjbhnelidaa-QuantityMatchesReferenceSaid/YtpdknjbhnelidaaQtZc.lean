/- The reference's Sum: its refusals. -/
import Derived.Test.YtpdknjbhnelidaaQtZb
namespace Go.Proofs.Ytpdknjbhnelidaa
open Go.RowKit

theorem take_may {us : List Qn.Un} {l : List Qn.Am} {k : Nat} {a : Qn.Am} (h : ∀ x ∈ l.take k, Qn.May us x) (hu : l[k]? = some a) (ha : Qn.May us a) : ∀ x ∈ l.take (k + 1), Qn.May us x := by
  intro x hx
  rw [List.take_add_one, hu] at hx
  rcases List.mem_append.1 hx with hx | hx
  · exact h x hx
  · obtain rfl : x = a := by simpa using hx
    exact ha
theorem take_any {f : Qn.Am → Bool} {l : List Qn.Am} {k : Nat} {a : Qn.Am} {b : Bool} (h : b = (l.take k).any f) (hu : l[k]? = some a) : (b || f a) = (l.take (k + 1)).any f := by
  rw [List.take_add_one, hu, List.any_append, ← h]
  simp
open Classical in
set_option maxRecDepth 100000 in
set_option maxHeartbeats 1600000 in
theorem rsum_bad (p q : Option Addr) (cap capl : Nat) (us : List Qn.Un) (l : List Qn.Am) (tt : Int) (vi : Int) (w : World) (ht : Tab w p us) (hl : Amts w q l) (hva : Qn.validS us = (vi, false)) :
    Calls Try.prog 13 #[.slice p us.length cap, .slice q l.length capl, .int .i64 tt] w fun e w' => e = .returned (RA (0, (0, 0), 1)) ∧ Below w.heap.size w w' := by
  have HT0 := Lib.hid ht
  have HL0 := Lib.hid hl
  clear ht hl
  have HVA := Lib.hid hva
  clear hva
  go_enter Try.func13, Try.ntmps13
  go_wp2_with fail
  have hq : Fr3 (w.alloc (.cells #[.int .i64 0, .int .i64 0, .int .i64 0] 33)) w.heap.size := ⟨by simp, by go_simp, by go_simp, by go_simp⟩
  obtain ⟨w1, hw1⟩ : ∃ W, W = (w.alloc (.cells #[.int .i64 0, .int .i64 0, .int .i64 0] 33)) := ⟨_, rfl⟩
  have bb1 : Below w.heap.size w w1 := by rw [hw1]; exact (by repeat (first | exact Below.refl _ _ | assumption | refine below_drewN ?_ _ | refine Below.setCell ?_ (by first | (simp; done) | (simp; omega)) _ | refine Below.alloc ?_ (by first | (simp; done) | (simp; omega) | omega) _ | refine Below.drew ?_ | refine Below.trans ?_ (Below.mono (by assumption) (by first | (simp; done) | (simp; omega) | omega))))
  have n1_r_0 : w1.cell? ⟨w.heap.size, 0, none⟩ = some (.int .i64 0) := by rw [hw1]; go_simp
  have n1_r_1 : w1.cell? ⟨w.heap.size, 1, none⟩ = some (.int .i64 0) := by rw [hw1]; go_simp
  have n1_r_2 : w1.cell? ⟨w.heap.size, 2, none⟩ = some (.int .i64 0) := by rw [hw1]; go_simp
  rw [← hw1]
  rw [← hw1] at hq
  have hz1 := bb1.size
  (try simp at hz1)
  clear hw1
  have be1 : Below w.heap.size w w1 := bb1
  have c1_r_0 : w1.cell? ⟨w.heap.size, 0, none⟩ = some (.int .i64 0) := n1_r_0
  have c1_r_1 : w1.cell? ⟨w.heap.size, 1, none⟩ = some (.int .i64 0) := n1_r_1
  have c1_r_2 : w1.cell? ⟨w.heap.size, 2, none⟩ = some (.int .i64 0) := n1_r_2
  have l1_r : w.heap.size < w1.heap.size := World.block_lt_of_cell? w1 _ c1_r_0
  have m1_r : w.heap.size < w1.heap.size + 1 := by omega
  have HT1 := Lib.hid (HT0.out.below bb1)
  have HL1 := Lib.hid (HL0.out.below bb1)
  have BE1 := Lib.hid be1
  clear be1 bb1 HT0 HL0
  have HFR1 := Lib.hid hq
  clear hq
  skip
  refine (rqvalid_any p cap us _ (HT1.out.below (by repeat (first | exact Below.refl _ _ | assumption | refine below_drewN ?_ _ | refine Below.setCell ?_ (by first | (simp; done) | (simp; omega)) _ | refine Below.alloc ?_ (by first | (simp; done) | (simp; omega) | omega) _ | refine Below.drew ?_ | refine Below.trans ?_ (Below.mono (by assumption) (by first | (simp; done) | (simp; omega) | omega)))))).mono ?_
  rintro e w2 ⟨rfl, hb2⟩
  rw [HVA.out]
  simp only [RIB]
  have hz2 := hb2.size
  (try simp at hz2)
  have bb2 : Below w1.heap.size w1 w2 := (by repeat (first | exact Below.refl _ _ | assumption | refine below_drewN ?_ _ | refine Below.setCell ?_ (by first | (simp; done) | (simp; omega)) _ | refine Below.alloc ?_ (by first | (simp; done) | (simp; omega) | omega) _ | refine Below.drew ?_ | refine Below.trans ?_ (Below.mono (by assumption) (by first | (simp; done) | (simp; omega) | omega))))
  have be2 : Below w.heap.size w w2 := BE1.out.trans (bb2.mono BE1.out.size)
  have c2_r_0 : w2.cell? ⟨w.heap.size, 0, none⟩ = some (.int .i64 0) := cell_keep bb2 c1_r_0
  have c2_r_1 : w2.cell? ⟨w.heap.size, 1, none⟩ = some (.int .i64 0) := cell_keep bb2 c1_r_1
  have c2_r_2 : w2.cell? ⟨w.heap.size, 2, none⟩ = some (.int .i64 0) := cell_keep bb2 c1_r_2
  have l2_r : w.heap.size < w2.heap.size := by omega
  have m2_r : w.heap.size < w2.heap.size + 1 := by omega
  have HT2 := Lib.hid (HT1.out.below bb2)
  have HL2 := Lib.hid (HL1.out.below bb2)
  have HFR2 := Lib.hid (HFR1.out.below bb2)
  have BE2 := Lib.hid be2
  clear be2 bb2 hb2 BE1 c1_r_0 c1_r_1 c1_r_2 l1_r m1_r HT1 HL1 HFR1
  obtain ⟨fr0, fr1, fr2, fr3⟩ := HFR2.out
  go_wp2_with fail
  refine bodyPost_ret (v := RA (0, (0, 0), 1)) (by simp [results, Try.results13, go_sem, RA, c2_r_0, c2_r_1, c2_r_2]) rfl ⟨rfl, (by have q := BE2.out; repeat (first | exact q | refine Below.setCell ?_ (by first | (simp; done) | omega | (simp; omega)) _ | refine Below.alloc ?_ (by first | (simp; done) | omega | (simp; omega)) _ | refine below_drewN ?_ _ | refine Below.drew ?_))⟩
open Classical in
set_option maxRecDepth 100000 in
set_option maxHeartbeats 1600000 in
theorem rsum_low (p q : Option Addr) (cap capl : Nat) (us : List Qn.Un) (l : List Qn.Am) (tt : Int) (vi : Int) (w : World) (ht : Tab w p us) (hl : Amts w q l) (hva : Qn.validS us = (vi, true)) (h0 : tt < 0) :
    Calls Try.prog 13 #[.slice p us.length cap, .slice q l.length capl, .int .i64 tt] w fun e w' => e = .returned (RA (0, (0, 0), 1)) ∧ Below w.heap.size w w' := by
  have HT0 := Lib.hid ht
  have HL0 := Lib.hid hl
  clear ht hl
  have HVA := Lib.hid hva
  clear hva
  go_enter Try.func13, Try.ntmps13
  go_wp2_with fail
  have hq : Fr3 (w.alloc (.cells #[.int .i64 0, .int .i64 0, .int .i64 0] 33)) w.heap.size := ⟨by simp, by go_simp, by go_simp, by go_simp⟩
  obtain ⟨w1, hw1⟩ : ∃ W, W = (w.alloc (.cells #[.int .i64 0, .int .i64 0, .int .i64 0] 33)) := ⟨_, rfl⟩
  have bb1 : Below w.heap.size w w1 := by rw [hw1]; exact (by repeat (first | exact Below.refl _ _ | assumption | refine below_drewN ?_ _ | refine Below.setCell ?_ (by first | (simp; done) | (simp; omega)) _ | refine Below.alloc ?_ (by first | (simp; done) | (simp; omega) | omega) _ | refine Below.drew ?_ | refine Below.trans ?_ (Below.mono (by assumption) (by first | (simp; done) | (simp; omega) | omega))))
  have n1_r_0 : w1.cell? ⟨w.heap.size, 0, none⟩ = some (.int .i64 0) := by rw [hw1]; go_simp
  have n1_r_1 : w1.cell? ⟨w.heap.size, 1, none⟩ = some (.int .i64 0) := by rw [hw1]; go_simp
  have n1_r_2 : w1.cell? ⟨w.heap.size, 2, none⟩ = some (.int .i64 0) := by rw [hw1]; go_simp
  rw [← hw1]
  rw [← hw1] at hq
  have hz1 := bb1.size
  (try simp at hz1)
  clear hw1
  have be1 : Below w.heap.size w w1 := bb1
  have c1_r_0 : w1.cell? ⟨w.heap.size, 0, none⟩ = some (.int .i64 0) := n1_r_0
  have c1_r_1 : w1.cell? ⟨w.heap.size, 1, none⟩ = some (.int .i64 0) := n1_r_1
  have c1_r_2 : w1.cell? ⟨w.heap.size, 2, none⟩ = some (.int .i64 0) := n1_r_2
  have l1_r : w.heap.size < w1.heap.size := World.block_lt_of_cell? w1 _ c1_r_0
  have m1_r : w.heap.size < w1.heap.size + 1 := by omega
  have HT1 := Lib.hid (HT0.out.below bb1)
  have HL1 := Lib.hid (HL0.out.below bb1)
  have BE1 := Lib.hid be1
  clear be1 bb1 HT0 HL0
  have HFR1 := Lib.hid hq
  clear hq
  skip
  refine (rqvalid_any p cap us _ (HT1.out.below (by repeat (first | exact Below.refl _ _ | assumption | refine below_drewN ?_ _ | refine Below.setCell ?_ (by first | (simp; done) | (simp; omega)) _ | refine Below.alloc ?_ (by first | (simp; done) | (simp; omega) | omega) _ | refine Below.drew ?_ | refine Below.trans ?_ (Below.mono (by assumption) (by first | (simp; done) | (simp; omega) | omega)))))).mono ?_
  rintro e w2 ⟨rfl, hb2⟩
  rw [HVA.out]
  simp only [RIB]
  have hz2 := hb2.size
  (try simp at hz2)
  have bb2 : Below w1.heap.size w1 w2 := (by repeat (first | exact Below.refl _ _ | assumption | refine below_drewN ?_ _ | refine Below.setCell ?_ (by first | (simp; done) | (simp; omega)) _ | refine Below.alloc ?_ (by first | (simp; done) | (simp; omega) | omega) _ | refine Below.drew ?_ | refine Below.trans ?_ (Below.mono (by assumption) (by first | (simp; done) | (simp; omega) | omega))))
  have be2 : Below w.heap.size w w2 := BE1.out.trans (bb2.mono BE1.out.size)
  have c2_r_0 : w2.cell? ⟨w.heap.size, 0, none⟩ = some (.int .i64 0) := cell_keep bb2 c1_r_0
  have c2_r_1 : w2.cell? ⟨w.heap.size, 1, none⟩ = some (.int .i64 0) := cell_keep bb2 c1_r_1
  have c2_r_2 : w2.cell? ⟨w.heap.size, 2, none⟩ = some (.int .i64 0) := cell_keep bb2 c1_r_2
  have l2_r : w.heap.size < w2.heap.size := by omega
  have m2_r : w.heap.size < w2.heap.size + 1 := by omega
  have HT2 := Lib.hid (HT1.out.below bb2)
  have HL2 := Lib.hid (HL1.out.below bb2)
  have HFR2 := Lib.hid (HFR1.out.below bb2)
  have BE2 := Lib.hid be2
  clear be2 bb2 hb2 BE1 c1_r_0 c1_r_1 c1_r_2 l1_r m1_r HT1 HL1 HFR1
  obtain ⟨fr0, fr1, fr2, fr3⟩ := HFR2.out
  go_wp2_with fail
  refine bodyPost_ret (v := RA (0, (0, 0), 1)) (by simp [results, Try.results13, go_sem, RA, c2_r_0, c2_r_1, c2_r_2]) rfl ⟨rfl, (by have q := BE2.out; repeat (first | exact q | refine Below.setCell ?_ (by first | (simp; done) | omega | (simp; omega)) _ | refine Below.alloc ?_ (by first | (simp; done) | omega | (simp; omega)) _ | refine below_drewN ?_ _ | refine Below.drew ?_))⟩
open Classical in
set_option maxRecDepth 100000 in
set_option maxHeartbeats 1600000 in
theorem rsum_high (p q : Option Addr) (cap capl : Nat) (us : List Qn.Un) (l : List Qn.Am) (tt : Int) (vi : Int) (w : World) (ht : Tab w p us) (hl : Amts w q l) (hva : Qn.validS us = (vi, true)) (h0 : 0 ≤ tt) (h1 : (us.length : Int) ≤ tt) :
    Calls Try.prog 13 #[.slice p us.length cap, .slice q l.length capl, .int .i64 tt] w fun e w' => e = .returned (RA (0, (0, 0), 1)) ∧ Below w.heap.size w w' := by
  have HT0 := Lib.hid ht
  have HL0 := Lib.hid hl
  clear ht hl
  have HVA := Lib.hid hva
  clear hva
  go_enter Try.func13, Try.ntmps13
  go_wp2_with fail
  have hq : Fr3 (w.alloc (.cells #[.int .i64 0, .int .i64 0, .int .i64 0] 33)) w.heap.size := ⟨by simp, by go_simp, by go_simp, by go_simp⟩
  obtain ⟨w1, hw1⟩ : ∃ W, W = (w.alloc (.cells #[.int .i64 0, .int .i64 0, .int .i64 0] 33)) := ⟨_, rfl⟩
  have bb1 : Below w.heap.size w w1 := by rw [hw1]; exact (by repeat (first | exact Below.refl _ _ | assumption | refine below_drewN ?_ _ | refine Below.setCell ?_ (by first | (simp; done) | (simp; omega)) _ | refine Below.alloc ?_ (by first | (simp; done) | (simp; omega) | omega) _ | refine Below.drew ?_ | refine Below.trans ?_ (Below.mono (by assumption) (by first | (simp; done) | (simp; omega) | omega))))
  have n1_r_0 : w1.cell? ⟨w.heap.size, 0, none⟩ = some (.int .i64 0) := by rw [hw1]; go_simp
  have n1_r_1 : w1.cell? ⟨w.heap.size, 1, none⟩ = some (.int .i64 0) := by rw [hw1]; go_simp
  have n1_r_2 : w1.cell? ⟨w.heap.size, 2, none⟩ = some (.int .i64 0) := by rw [hw1]; go_simp
  rw [← hw1]
  rw [← hw1] at hq
  have hz1 := bb1.size
  (try simp at hz1)
  clear hw1
  have be1 : Below w.heap.size w w1 := bb1
  have c1_r_0 : w1.cell? ⟨w.heap.size, 0, none⟩ = some (.int .i64 0) := n1_r_0
  have c1_r_1 : w1.cell? ⟨w.heap.size, 1, none⟩ = some (.int .i64 0) := n1_r_1
  have c1_r_2 : w1.cell? ⟨w.heap.size, 2, none⟩ = some (.int .i64 0) := n1_r_2
  have l1_r : w.heap.size < w1.heap.size := World.block_lt_of_cell? w1 _ c1_r_0
  have m1_r : w.heap.size < w1.heap.size + 1 := by omega
  have HT1 := Lib.hid (HT0.out.below bb1)
  have HL1 := Lib.hid (HL0.out.below bb1)
  have BE1 := Lib.hid be1
  clear be1 bb1 HT0 HL0
  have HFR1 := Lib.hid hq
  clear hq
  skip
  refine (rqvalid_any p cap us _ (HT1.out.below (by repeat (first | exact Below.refl _ _ | assumption | refine below_drewN ?_ _ | refine Below.setCell ?_ (by first | (simp; done) | (simp; omega)) _ | refine Below.alloc ?_ (by first | (simp; done) | (simp; omega) | omega) _ | refine Below.drew ?_ | refine Below.trans ?_ (Below.mono (by assumption) (by first | (simp; done) | (simp; omega) | omega)))))).mono ?_
  rintro e w2 ⟨rfl, hb2⟩
  rw [HVA.out]
  simp only [RIB]
  have hz2 := hb2.size
  (try simp at hz2)
  have bb2 : Below w1.heap.size w1 w2 := (by repeat (first | exact Below.refl _ _ | assumption | refine below_drewN ?_ _ | refine Below.setCell ?_ (by first | (simp; done) | (simp; omega)) _ | refine Below.alloc ?_ (by first | (simp; done) | (simp; omega) | omega) _ | refine Below.drew ?_ | refine Below.trans ?_ (Below.mono (by assumption) (by first | (simp; done) | (simp; omega) | omega))))
  have be2 : Below w.heap.size w w2 := BE1.out.trans (bb2.mono BE1.out.size)
  have c2_r_0 : w2.cell? ⟨w.heap.size, 0, none⟩ = some (.int .i64 0) := cell_keep bb2 c1_r_0
  have c2_r_1 : w2.cell? ⟨w.heap.size, 1, none⟩ = some (.int .i64 0) := cell_keep bb2 c1_r_1
  have c2_r_2 : w2.cell? ⟨w.heap.size, 2, none⟩ = some (.int .i64 0) := cell_keep bb2 c1_r_2
  have l2_r : w.heap.size < w2.heap.size := by omega
  have m2_r : w.heap.size < w2.heap.size + 1 := by omega
  have HT2 := Lib.hid (HT1.out.below bb2)
  have HL2 := Lib.hid (HL1.out.below bb2)
  have HFR2 := Lib.hid (HFR1.out.below bb2)
  have BE2 := Lib.hid be2
  clear be2 bb2 hb2 BE1 c1_r_0 c1_r_1 c1_r_2 l1_r m1_r HT1 HL1 HFR1
  obtain ⟨fr0, fr1, fr2, fr3⟩ := HFR2.out
  go_wp2_with fail
  refine bodyPost_ret (v := RA (0, (0, 0), 1)) (by simp [results, Try.results13, go_sem, RA, c2_r_0, c2_r_1, c2_r_2]) rfl ⟨rfl, (by have q := BE2.out; repeat (first | exact q | refine Below.setCell ?_ (by first | (simp; done) | omega | (simp; omega)) _ | refine Below.alloc ?_ (by first | (simp; done) | omega | (simp; omega)) _ | refine below_drewN ?_ _ | refine Below.drew ?_))⟩
open Classical in
set_option maxRecDepth 100000 in
set_option maxHeartbeats 3200000 in
theorem rsum_stop (p q : Option Addr) (cap capl : Nat) (us : List Qn.Un) (l : List Qn.Am) (k2 : Nat) (u2 : Qn.Un) (vi : Int) (res : Int × Qn.R × Int) (w : World) (ht : Tab w p us) (hl : Amts w q l) (hva : Qn.validS us = (vi, true)) (hu2 : us[k2]? = some u2) (hin2 : Qn.In us k2) (hll : l.length ≤ 1000) (hs1 : ∀ a ∈ l, ¬ Qn.May us a → res = (0, (0, 0), 1)) (hs2 : (∀ a ∈ l, Qn.May us a) → l.any (othB us k2) = true ∧ res = (0, (0, 0), 11)) :
    Calls Try.prog 13 #[.slice p us.length cap, .slice q l.length capl, .int .i64 k2] w fun e w' => e = .returned (RA res) ∧ Below w.heap.size w w' := by
  have HT0 := Lib.hid ht
  have HL0 := Lib.hid hl
  clear ht hl
  have HVA := Lib.hid hva
  clear hva
  have HUN2 := Lib.hid (show Qn.un us (k2 : Int) = u2 from Option.some.inj (Eq.trans (Eq.symm (show us[k2]? = some (Qn.un us (k2 : Int)) by simpa using Qn.un_get hin2)) hu2))
  have HU2 := Lib.hid hu2
  clear hu2
  have HS1 := Lib.hid hs1
  clear hs1
  have HS2 := Lib.hid hs2
  clear hs2
  go_enter Try.func13, Try.ntmps13
  go_wp2_with fail
  have hq : Fr3 (w.alloc (.cells #[.int .i64 0, .int .i64 0, .int .i64 0] 33)) w.heap.size := ⟨by simp, by go_simp, by go_simp, by go_simp⟩
  obtain ⟨w1, hw1⟩ : ∃ W, W = (w.alloc (.cells #[.int .i64 0, .int .i64 0, .int .i64 0] 33)) := ⟨_, rfl⟩
  have bb1 : Below w.heap.size w w1 := by rw [hw1]; exact (by repeat (first | exact Below.refl _ _ | assumption | refine below_drewN ?_ _ | refine Below.setCell ?_ (by first | (simp; done) | (simp; omega)) _ | refine Below.alloc ?_ (by first | (simp; done) | (simp; omega) | omega) _ | refine Below.drew ?_ | refine Below.trans ?_ (Below.mono (by assumption) (by first | (simp; done) | (simp; omega) | omega))))
  have n1_r_0 : w1.cell? ⟨w.heap.size, 0, none⟩ = some (.int .i64 0) := by rw [hw1]; go_simp
  have n1_r_1 : w1.cell? ⟨w.heap.size, 1, none⟩ = some (.int .i64 0) := by rw [hw1]; go_simp
  have n1_r_2 : w1.cell? ⟨w.heap.size, 2, none⟩ = some (.int .i64 0) := by rw [hw1]; go_simp
  rw [← hw1]
  rw [← hw1] at hq
  have hz1 := bb1.size
  (try simp at hz1)
  clear hw1
  have be1 : Below w.heap.size w w1 := bb1
  have c1_r_0 : w1.cell? ⟨w.heap.size, 0, none⟩ = some (.int .i64 0) := n1_r_0
  have c1_r_1 : w1.cell? ⟨w.heap.size, 1, none⟩ = some (.int .i64 0) := n1_r_1
  have c1_r_2 : w1.cell? ⟨w.heap.size, 2, none⟩ = some (.int .i64 0) := n1_r_2
  have l1_r : w.heap.size < w1.heap.size := World.block_lt_of_cell? w1 _ c1_r_0
  have m1_r : w.heap.size < w1.heap.size + 1 := by omega
  have HT1 := Lib.hid (HT0.out.below bb1)
  have HL1 := Lib.hid (HL0.out.below bb1)
  have BE1 := Lib.hid be1
  clear be1 bb1 HT0 HL0
  have HFR1 := Lib.hid hq
  clear hq
  skip
  refine (rqvalid_any p cap us _ (HT1.out.below (by repeat (first | exact Below.refl _ _ | assumption | refine below_drewN ?_ _ | refine Below.setCell ?_ (by first | (simp; done) | (simp; omega)) _ | refine Below.alloc ?_ (by first | (simp; done) | (simp; omega) | omega) _ | refine Below.drew ?_ | refine Below.trans ?_ (Below.mono (by assumption) (by first | (simp; done) | (simp; omega) | omega)))))).mono ?_
  rintro e w2 ⟨rfl, hb2⟩
  rw [HVA.out]
  simp only [RIB]
  have hz2 := hb2.size
  (try simp at hz2)
  have bb2 : Below w1.heap.size w1 w2 := (by repeat (first | exact Below.refl _ _ | assumption | refine below_drewN ?_ _ | refine Below.setCell ?_ (by first | (simp; done) | (simp; omega)) _ | refine Below.alloc ?_ (by first | (simp; done) | (simp; omega) | omega) _ | refine Below.drew ?_ | refine Below.trans ?_ (Below.mono (by assumption) (by first | (simp; done) | (simp; omega) | omega))))
  have be2 : Below w.heap.size w w2 := BE1.out.trans (bb2.mono BE1.out.size)
  have c2_r_0 : w2.cell? ⟨w.heap.size, 0, none⟩ = some (.int .i64 0) := cell_keep bb2 c1_r_0
  have c2_r_1 : w2.cell? ⟨w.heap.size, 1, none⟩ = some (.int .i64 0) := cell_keep bb2 c1_r_1
  have c2_r_2 : w2.cell? ⟨w.heap.size, 2, none⟩ = some (.int .i64 0) := cell_keep bb2 c1_r_2
  have l2_r : w.heap.size < w2.heap.size := by omega
  have m2_r : w.heap.size < w2.heap.size + 1 := by omega
  have HT2 := Lib.hid (HT1.out.below bb2)
  have HL2 := Lib.hid (HL1.out.below bb2)
  have HFR2 := Lib.hid (HFR1.out.below bb2)
  have BE2 := Lib.hid be2
  clear be2 bb2 hb2 BE1 c1_r_0 c1_r_1 c1_r_2 l1_r m1_r HT1 HL1 HFR1
  have hk20 : (0 : Int) ≤ (k2 : Int) := by omega
  have hk21 : (k2 : Int) < (us.length : Int) := by have := (List.getElem?_eq_some_iff.1 HU2.out).1; omega
  have hk22 : decide ((k2 : Int) < 0) = false := decide_eq_false (by omega)
  have hk23 : decide (us.length ≤ k2) = false := decide_eq_false (by omega)
  go_wp2_with fail
  go_loopw [10, 11] (fun sb si wr => ∃ (k : Nat) (ob : Bool), sb = .bool ob ∧ si = .int .i64 k ∧ k ≤ l.length ∧ (∀ x ∈ l.take k, Qn.May us x) ∧ ob = (l.take k).any (othB us k2) ∧ Below w2.heap.size w2 wr) (fun _ si _ => l.length - (intOf si).toNat)
  case atStart => exact ⟨0, false, rfl, rfl, Nat.zero_le _, fun x hx => by simp at hx, by simp, Below.refl _ _⟩
  case round =>
    obtain ⟨k, ob, rfl, rfl, hk, hmay, hob, hbw⟩ := hrel
    have HMAY := Lib.hid hmay
    have HOB := Lib.hid hob
    have HBW := Lib.hid hbw
    have r0 := cell_keep hbw c2_r_0
    have r1 := cell_keep hbw c2_r_1
    have r2 := cell_keep hbw c2_r_2
    have hfr := HFR2.out.below hbw
    have HFR := Lib.hid hfr
    have hlr : w.heap.size < wr.heap.size := hfr.1
    have HBE := Lib.hid (BE2.out.trans (hbw.mono BE2.out.size))
    clear hmay hob hbw hfr c2_r_0 c2_r_1 c2_r_2
    by_cases hlt : k < l.length
    · have hu : l[k]? = some l[k] := List.getElem?_eq_getElem hlt
      generalize l[k] = a at hu
      have hi0 : (0 : Int) ≤ (k : Int) := by omega
      have hi1 : (k : Int) < (l.length : Int) := by omega
      have HU := Lib.hid hu
      clear hu
      by_cases hm : Qn.May us a
      · have HM := Lib.hid (decide_eq_true hm)
        have HMY := Lib.hid hm
        obtain ⟨k1, hk1⟩ : ∃ k1 : Nat, a.1 = k1 := ⟨a.1.toNat, by have := hm.1.1; omega⟩
        have HU1 := Lib.hid (show us[k1]? = some (Qn.un us a.1) by have := Qn.un_get hm.1; rw [hk1] at this ⊢; simpa using this)
        have hj1 : (k1 : Int) < (us.length : Int) := by have := hm.1.2; omega
        have hj0 : (0 : Int) ≤ (k1 : Int) := by omega
        clear hm
        obtain ⟨bl, ol, hqe, ⟨a0, a1, a2⟩, _, hbl⟩ := (HL2.out.below HBW.out).at HU.out
        subst hqe
        rw [hk1] at a0
        have HAT := Lib.hid (HT2.out.below HBW.out)
        go_wp2_with fail
        have hAV : (Value.agg #[.int .i64 (k1 : Int), .int .i64 a.2.1, .int .i64 a.2.2]) = .agg #[.int .i64 a.1, .int .i64 a.2.1, .int .i64 a.2.2] := by rw [hk1]
        try rw [hAV]
        refine (rmay_any p cap us a _).mono ?_
        rintro e w9 ⟨rfl, hb9⟩
        rw [HM.out]
        have z0 := cell_keep hb9 a0
        have z1 := cell_keep hb9 a1
        have z2 := cell_keep hb9 a2
        have hbl9 : bl < w9.heap.size := Nat.lt_of_lt_of_le hbl hb9.size
        obtain ⟨ub, uo, hpe, ⟨_, _, e2, e3, e4⟩, _, hub⟩ := (HAT.out.below hb9).at HU1.out
        subst hpe
        obtain ⟨_, _, hpe, ⟨_, _, g2, g3, g4⟩, _, _⟩ := (HAT.out.below hb9).at HU2.out
        cases hpe
        have HB9 := Lib.hid (HBW.out.trans (hb9.mono HBW.out.size))
        have hun2 : Qn.un us (k2 : Int) = u2 := HUN2.out
        have HO := Lib.hid (show othB us k2 a = ((Qn.un us a.1).base != u2.base) by unfold othB; rw [hun2])
        clear hb9 a0 a1 a2 r0 r1 r2 hun2 hAV
        cases ob
        · go_wp2_with fail
          go_quiet (fail)
          go_wp2_with fail
          go_roundw
          case rel => exact ⟨k + 1, _, rfl, rfl, hlt, take_may HMAY.out HU.out HMY.out, by have q := take_any (f := othB us k2) HOB.out HU.out; rw [HO.out, Bool.false_or] at q; try rw [hk1] at q; first | exact q | simpa using q, below_drewN HB9.out _⟩
          case measure => simp only [intOf]; exact meas_lt hlt
        · go_wp2_with fail
          go_quiet (fail)
          go_wp2_with fail
          go_roundw
          case rel => exact ⟨k + 1, _, rfl, rfl, hlt, take_may HMAY.out HU.out HMY.out, by have q := take_any (f := othB us k2) HOB.out HU.out; simpa using q, below_drewN HB9.out _⟩
          case measure => simp only [intOf]; exact meas_lt hlt
      · have HS := Lib.hid (HS1.out a (List.mem_of_getElem? HU.out) hm)
        have HM := Lib.hid (decide_eq_false hm)
        clear hm
        obtain ⟨bl, ol, rfl, ⟨a0, a1, a2⟩, _, hbl⟩ := (HL2.out.below HBW.out).at HU.out
        go_wp2_with fail
        refine (rmay_any p cap us a _).mono ?_
        rintro e w9 ⟨rfl, hb9⟩
        rw [HM.out]
        have x0 := cell_keep hb9 r0
        have x1 := cell_keep hb9 r1
        have x2 := cell_keep hb9 r2
        obtain ⟨fr0, fr1, fr2, fr3⟩ := HFR.out.below hb9
        have HB9 := Lib.hid (HBE.out.trans (hb9.mono HBE.out.size))
        clear hb9 r0 r1 r2
        go_wp2_with fail
        refine bodyPost_ret (v := RA (0, (0, 0), 1)) (by simp [results, Try.results13, go_sem, RA, x0, x1, x2]) rfl ⟨by rw [HS.out], (by repeat (first | exact Below.refl _ _ | exact HB9.out | assumption | refine below_drewN ?_ _ | refine Below.setCell ?_ (by first | (simp; done) | (simp; omega)) _ | refine Below.alloc ?_ (by first | (simp; done) | (simp; omega) | omega) _ | refine Below.drew ?_ | refine Below.trans ?_ (Below.mono (by assumption) (by first | (simp; done) | (simp; omega) | omega))))⟩
    · obtain rfl : k = l.length := by omega
      have hE := HS2.out (fun x hx => HMAY.out x (by rw [List.take_length]; exact hx))
      have ho : ob = true := by rw [HOB.out, List.take_length]; exact hE.1
      subst ho
      have HS := Lib.hid hE.2
      clear hE
      obtain ⟨fr0, fr1, fr2, fr3⟩ := HFR.out
      go_wp2_with fail
      refine bodyPost_ret (v := RA (0, (0, 0), 11)) (by simp [results, Try.results13, go_sem, RA, r0, r1, r2]) rfl ⟨by rw [HS.out], (by repeat (first | exact Below.refl _ _ | exact HBE.out | assumption | refine below_drewN ?_ _ | refine Below.setCell ?_ (by first | (simp; done) | (simp; omega)) _ | refine Below.alloc ?_ (by first | (simp; done) | (simp; omega) | omega) _ | refine Below.drew ?_ | refine Below.trans ?_ (Below.mono (by assumption) (by first | (simp; done) | (simp; omega) | omega))))⟩
end Go.Proofs.Ytpdknjbhnelidaa

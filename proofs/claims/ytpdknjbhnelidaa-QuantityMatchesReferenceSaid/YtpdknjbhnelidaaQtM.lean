/- The walks of Sum, Basket, Convert. -/
import Derived.Test.YtpdknjbhnelidaaQtL
namespace Go.Proofs.Ytpdknjbhnelidaa
open Go.RowKit

/-- a block of three cells that may be written -/
def Fr3 (w : World) (b : Nat) : Prop := b < w.heap.size ∧ w.frozen? ⟨b, 0, none⟩ = false ∧ w.frozen? ⟨b, 1, none⟩ = false ∧ w.frozen? ⟨b, 2, none⟩ = false
theorem Fr3.below {w w' : World} {b : Nat} (h : Fr3 w b) (hb : Below w.heap.size w w') : Fr3 w' b :=
  ⟨Nat.lt_of_lt_of_le h.1 hb.size, (hb.frozen (p := ⟨b, 0, none⟩) h.1).trans h.2.1, (hb.frozen (p := ⟨b, 1, none⟩) h.1).trans h.2.2.1, (hb.frozen (p := ⟨b, 2, none⟩) h.1).trans h.2.2.2⟩
set_option maxRecDepth 100000 in
set_option maxHeartbeats 1600000 in
theorem sum_arg1 (p q : Option Addr) (cap capl : Nat) (us : List Qn.Un) (l : List Qn.Am) (tt : Int) (w : World) (ht : Tab w p us) (hcap : us.length ≤ cap) (hl : Amts w q l) (hll : l.length ≤ 1000) (ha : accB us l = false) :
    Calls Try.prog 12 #[.slice p us.length cap, .slice q l.length capl, .int .i64 tt] w fun e w' => e = .returned (RA (0, (0, 0), 1)) ∧ Below w.heap.size w w' := by
  have HT0 := Lib.hid ht
  have HL0 := Lib.hid hl
  clear ht hl
  have HA := Lib.hid ha
  clear ha
  go_enter Try.func12, Try.ntmps12
  go_wp2_with fail
  have hq : Fr3 (((w.alloc (.cells #[.int .i64 tt] 3)).alloc (.cells #[.int .i64 0, .int .i64 0, .int .i64 0] 33)).alloc (.cells #[.slice p us.length cap] 45)) (w.heap.size + 1) := ⟨by simp, by go_simp, by go_simp, by go_simp⟩
  obtain ⟨w1, hw1⟩ : ∃ W, W = (((w.alloc (.cells #[.int .i64 tt] 3)).alloc (.cells #[.int .i64 0, .int .i64 0, .int .i64 0] 33)).alloc (.cells #[.slice p us.length cap] 45)) := ⟨_, rfl⟩
  have bb1 : Below w.heap.size w w1 := by rw [hw1]; exact (by repeat (first | exact Below.refl _ _ | assumption | refine below_drewN ?_ _ | refine Below.setCell ?_ (by first | (simp; done) | (simp; omega)) _ | refine Below.alloc ?_ (by first | (simp; done) | (simp; omega) | omega) _ | refine Below.drew ?_ | refine Below.trans ?_ (Below.mono (by assumption) (by first | (simp; done) | (simp; omega) | omega))))
  have n1_j_0 : w1.cell? ⟨w.heap.size, 0, none⟩ = some (.int .i64 tt) := by rw [hw1]; go_simp
  have n1_r_0 : w1.cell? ⟨w.heap.size + 1, 0, none⟩ = some (.int .i64 0) := by rw [hw1]; go_simp
  have n1_r_1 : w1.cell? ⟨w.heap.size + 1, 1, none⟩ = some (.int .i64 0) := by rw [hw1]; go_simp
  have n1_r_2 : w1.cell? ⟨w.heap.size + 1, 2, none⟩ = some (.int .i64 0) := by rw [hw1]; go_simp
  have n1_t_0 : w1.cell? ⟨w.heap.size + 2, 0, none⟩ = some (.slice p us.length cap) := by rw [hw1]; go_simp
  rw [← hw1]
  rw [← hw1] at hq
  have hz1 := bb1.size
  (try simp at hz1)
  clear hw1
  have be1 : Below w.heap.size w w1 := bb1
  have c1_j_0 : w1.cell? ⟨w.heap.size, 0, none⟩ = some (.int .i64 tt) := n1_j_0
  have l1_j : w.heap.size < w1.heap.size := World.block_lt_of_cell? w1 _ c1_j_0
  have m1_j : w.heap.size < w1.heap.size + 1 := by omega
  have c1_r_0 : w1.cell? ⟨w.heap.size + 1, 0, none⟩ = some (.int .i64 0) := n1_r_0
  have c1_r_1 : w1.cell? ⟨w.heap.size + 1, 1, none⟩ = some (.int .i64 0) := n1_r_1
  have c1_r_2 : w1.cell? ⟨w.heap.size + 1, 2, none⟩ = some (.int .i64 0) := n1_r_2
  have l1_r : w.heap.size + 1 < w1.heap.size := World.block_lt_of_cell? w1 _ c1_r_0
  have m1_r : w.heap.size + 1 < w1.heap.size + 1 := by omega
  have c1_t_0 : w1.cell? ⟨w.heap.size + 2, 0, none⟩ = some (.slice p us.length cap) := n1_t_0
  have l1_t : w.heap.size + 2 < w1.heap.size := World.block_lt_of_cell? w1 _ c1_t_0
  have m1_t : w.heap.size + 2 < w1.heap.size + 1 := by omega
  have HT1 := Lib.hid (HT0.out.below bb1)
  have HL1 := Lib.hid (HL0.out.below bb1)
  have BE1 := Lib.hid be1
  clear be1 bb1 HT0 HL0
  have HFR1 := Lib.hid hq
  clear hq
  skip
  refine (accepts_any p q cap capl us l _ (HT1.out.below (by repeat (first | exact Below.refl _ _ | assumption | refine below_drewN ?_ _ | refine Below.setCell ?_ (by first | (simp; done) | (simp; omega)) _ | refine Below.alloc ?_ (by first | (simp; done) | (simp; omega) | omega) _ | refine Below.drew ?_ | refine Below.trans ?_ (Below.mono (by assumption) (by first | (simp; done) | (simp; omega) | omega))))) hcap (HL1.out.below (by repeat (first | exact Below.refl _ _ | assumption | refine below_drewN ?_ _ | refine Below.setCell ?_ (by first | (simp; done) | (simp; omega)) _ | refine Below.alloc ?_ (by first | (simp; done) | (simp; omega) | omega) _ | refine Below.drew ?_ | refine Below.trans ?_ (Below.mono (by assumption) (by first | (simp; done) | (simp; omega) | omega))))) hll).mono ?_
  rintro e w2 ⟨rfl, hb2⟩
  rw [HA.out]
  have hz2 := hb2.size
  (try simp at hz2)
  have bb2 : Below w1.heap.size w1 w2 := (by repeat (first | exact Below.refl _ _ | assumption | refine below_drewN ?_ _ | refine Below.setCell ?_ (by first | (simp; done) | (simp; omega)) _ | refine Below.alloc ?_ (by first | (simp; done) | (simp; omega) | omega) _ | refine Below.drew ?_ | refine Below.trans ?_ (Below.mono (by assumption) (by first | (simp; done) | (simp; omega) | omega))))
  have be2 : Below w.heap.size w w2 := BE1.out.trans (bb2.mono BE1.out.size)
  have c2_j_0 : w2.cell? ⟨w.heap.size, 0, none⟩ = some (.int .i64 tt) := cell_keep bb2 c1_j_0
  have l2_j : w.heap.size < w2.heap.size := by omega
  have m2_j : w.heap.size < w2.heap.size + 1 := by omega
  have c2_r_0 : w2.cell? ⟨w.heap.size + 1, 0, none⟩ = some (.int .i64 0) := cell_keep bb2 c1_r_0
  have c2_r_1 : w2.cell? ⟨w.heap.size + 1, 1, none⟩ = some (.int .i64 0) := cell_keep bb2 c1_r_1
  have c2_r_2 : w2.cell? ⟨w.heap.size + 1, 2, none⟩ = some (.int .i64 0) := cell_keep bb2 c1_r_2
  have l2_r : w.heap.size + 1 < w2.heap.size := by omega
  have m2_r : w.heap.size + 1 < w2.heap.size + 1 := by omega
  have c2_t_0 : w2.cell? ⟨w.heap.size + 2, 0, none⟩ = some (.slice p us.length cap) := cell_keep bb2 c1_t_0
  have l2_t : w.heap.size + 2 < w2.heap.size := by omega
  have m2_t : w.heap.size + 2 < w2.heap.size + 1 := by omega
  have HT2 := Lib.hid (HT1.out.below bb2)
  have HL2 := Lib.hid (HL1.out.below bb2)
  have HFR2 := Lib.hid (HFR1.out.below bb2)
  have BE2 := Lib.hid be2
  clear be2 bb2 hb2 BE1 c1_j_0 l1_j m1_j c1_r_0 c1_r_1 c1_r_2 l1_r m1_r c1_t_0 l1_t m1_t HT1 HL1 HFR1
  obtain ⟨fr0, fr1, fr2, fr3⟩ := HFR2.out
  go_wp2_with fail
  refine bodyPost_ret (v := RA (0, (0, 0), 1)) (by simp [results, Try.results12, go_sem, RA, c2_r_0, c2_r_1, c2_r_2]) rfl ⟨rfl, (by have q := BE2.out; repeat (first | exact q | refine Below.setCell ?_ (by first | (simp; done) | omega | (simp; omega)) _ | refine Below.alloc ?_ (by first | (simp; done) | omega | (simp; omega)) _ | refine below_drewN ?_ _ | refine Below.drew ?_))⟩
set_option maxRecDepth 100000 in
set_option maxHeartbeats 1600000 in
theorem sum_arg2 (p q : Option Addr) (cap capl : Nat) (us : List Qn.Un) (l : List Qn.Am) (tt : Int) (w : World) (ht : Tab w p us) (hcap : us.length ≤ cap) (hl : Amts w q l) (hll : l.length ≤ 1000) (ha : accB us l = true) (hx : decide (0 ≤ tt ∧ tt < (us.length : Int)) = false) :
    Calls Try.prog 12 #[.slice p us.length cap, .slice q l.length capl, .int .i64 tt] w fun e w' => e = .returned (RA (0, (0, 0), 1)) ∧ Below w.heap.size w w' := by
  have HT0 := Lib.hid ht
  have HL0 := Lib.hid hl
  clear ht hl
  have HA := Lib.hid ha
  clear ha
  have HX := Lib.hid hx
  clear hx
  go_enter Try.func12, Try.ntmps12
  go_wp2_with fail
  have hq : Fr3 (((w.alloc (.cells #[.int .i64 tt] 3)).alloc (.cells #[.int .i64 0, .int .i64 0, .int .i64 0] 33)).alloc (.cells #[.slice p us.length cap] 45)) (w.heap.size + 1) := ⟨by simp, by go_simp, by go_simp, by go_simp⟩
  obtain ⟨w1, hw1⟩ : ∃ W, W = (((w.alloc (.cells #[.int .i64 tt] 3)).alloc (.cells #[.int .i64 0, .int .i64 0, .int .i64 0] 33)).alloc (.cells #[.slice p us.length cap] 45)) := ⟨_, rfl⟩
  have bb1 : Below w.heap.size w w1 := by rw [hw1]; exact (by repeat (first | exact Below.refl _ _ | assumption | refine below_drewN ?_ _ | refine Below.setCell ?_ (by first | (simp; done) | (simp; omega)) _ | refine Below.alloc ?_ (by first | (simp; done) | (simp; omega) | omega) _ | refine Below.drew ?_ | refine Below.trans ?_ (Below.mono (by assumption) (by first | (simp; done) | (simp; omega) | omega))))
  have n1_j_0 : w1.cell? ⟨w.heap.size, 0, none⟩ = some (.int .i64 tt) := by rw [hw1]; go_simp
  have n1_r_0 : w1.cell? ⟨w.heap.size + 1, 0, none⟩ = some (.int .i64 0) := by rw [hw1]; go_simp
  have n1_r_1 : w1.cell? ⟨w.heap.size + 1, 1, none⟩ = some (.int .i64 0) := by rw [hw1]; go_simp
  have n1_r_2 : w1.cell? ⟨w.heap.size + 1, 2, none⟩ = some (.int .i64 0) := by rw [hw1]; go_simp
  have n1_t_0 : w1.cell? ⟨w.heap.size + 2, 0, none⟩ = some (.slice p us.length cap) := by rw [hw1]; go_simp
  rw [← hw1]
  rw [← hw1] at hq
  have hz1 := bb1.size
  (try simp at hz1)
  clear hw1
  have be1 : Below w.heap.size w w1 := bb1
  have c1_j_0 : w1.cell? ⟨w.heap.size, 0, none⟩ = some (.int .i64 tt) := n1_j_0
  have l1_j : w.heap.size < w1.heap.size := World.block_lt_of_cell? w1 _ c1_j_0
  have m1_j : w.heap.size < w1.heap.size + 1 := by omega
  have c1_r_0 : w1.cell? ⟨w.heap.size + 1, 0, none⟩ = some (.int .i64 0) := n1_r_0
  have c1_r_1 : w1.cell? ⟨w.heap.size + 1, 1, none⟩ = some (.int .i64 0) := n1_r_1
  have c1_r_2 : w1.cell? ⟨w.heap.size + 1, 2, none⟩ = some (.int .i64 0) := n1_r_2
  have l1_r : w.heap.size + 1 < w1.heap.size := World.block_lt_of_cell? w1 _ c1_r_0
  have m1_r : w.heap.size + 1 < w1.heap.size + 1 := by omega
  have c1_t_0 : w1.cell? ⟨w.heap.size + 2, 0, none⟩ = some (.slice p us.length cap) := n1_t_0
  have l1_t : w.heap.size + 2 < w1.heap.size := World.block_lt_of_cell? w1 _ c1_t_0
  have m1_t : w.heap.size + 2 < w1.heap.size + 1 := by omega
  have HT1 := Lib.hid (HT0.out.below bb1)
  have HL1 := Lib.hid (HL0.out.below bb1)
  have BE1 := Lib.hid be1
  clear be1 bb1 HT0 HL0
  have HFR1 := Lib.hid hq
  clear hq
  skip
  refine (accepts_any p q cap capl us l _ (HT1.out.below (by repeat (first | exact Below.refl _ _ | assumption | refine below_drewN ?_ _ | refine Below.setCell ?_ (by first | (simp; done) | (simp; omega)) _ | refine Below.alloc ?_ (by first | (simp; done) | (simp; omega) | omega) _ | refine Below.drew ?_ | refine Below.trans ?_ (Below.mono (by assumption) (by first | (simp; done) | (simp; omega) | omega))))) hcap (HL1.out.below (by repeat (first | exact Below.refl _ _ | assumption | refine below_drewN ?_ _ | refine Below.setCell ?_ (by first | (simp; done) | (simp; omega)) _ | refine Below.alloc ?_ (by first | (simp; done) | (simp; omega) | omega) _ | refine Below.drew ?_ | refine Below.trans ?_ (Below.mono (by assumption) (by first | (simp; done) | (simp; omega) | omega))))) hll).mono ?_
  rintro e w2 ⟨rfl, hb2⟩
  rw [HA.out]
  have hz2 := hb2.size
  (try simp at hz2)
  have bb2 : Below w1.heap.size w1 w2 := (by repeat (first | exact Below.refl _ _ | assumption | refine below_drewN ?_ _ | refine Below.setCell ?_ (by first | (simp; done) | (simp; omega)) _ | refine Below.alloc ?_ (by first | (simp; done) | (simp; omega) | omega) _ | refine Below.drew ?_ | refine Below.trans ?_ (Below.mono (by assumption) (by first | (simp; done) | (simp; omega) | omega))))
  have be2 : Below w.heap.size w w2 := BE1.out.trans (bb2.mono BE1.out.size)
  have c2_j_0 : w2.cell? ⟨w.heap.size, 0, none⟩ = some (.int .i64 tt) := cell_keep bb2 c1_j_0
  have l2_j : w.heap.size < w2.heap.size := by omega
  have m2_j : w.heap.size < w2.heap.size + 1 := by omega
  have c2_r_0 : w2.cell? ⟨w.heap.size + 1, 0, none⟩ = some (.int .i64 0) := cell_keep bb2 c1_r_0
  have c2_r_1 : w2.cell? ⟨w.heap.size + 1, 1, none⟩ = some (.int .i64 0) := cell_keep bb2 c1_r_1
  have c2_r_2 : w2.cell? ⟨w.heap.size + 1, 2, none⟩ = some (.int .i64 0) := cell_keep bb2 c1_r_2
  have l2_r : w.heap.size + 1 < w2.heap.size := by omega
  have m2_r : w.heap.size + 1 < w2.heap.size + 1 := by omega
  have c2_t_0 : w2.cell? ⟨w.heap.size + 2, 0, none⟩ = some (.slice p us.length cap) := cell_keep bb2 c1_t_0
  have l2_t : w.heap.size + 2 < w2.heap.size := by omega
  have m2_t : w.heap.size + 2 < w2.heap.size + 1 := by omega
  have HT2 := Lib.hid (HT1.out.below bb2)
  have HL2 := Lib.hid (HL1.out.below bb2)
  have HFR2 := Lib.hid (HFR1.out.below bb2)
  have BE2 := Lib.hid be2
  clear be2 bb2 hb2 BE1 c1_j_0 l1_j m1_j c1_r_0 c1_r_1 c1_r_2 l1_r m1_r c1_t_0 l1_t m1_t HT1 HL1 HFR1
  go_wp2_with fail
  refine (has_any _ _ _ _ _).mono ?_
  rintro e w' ⟨rfl, rfl⟩
  rw [HX.out]
  obtain ⟨fr0, fr1, fr2, fr3⟩ := HFR2.out
  go_wp2_with fail
  refine bodyPost_ret (v := RA (0, (0, 0), 1)) (by simp [results, Try.results12, go_sem, RA, c2_r_0, c2_r_1, c2_r_2]) rfl ⟨rfl, (by have q := BE2.out; repeat (first | exact q | refine Below.setCell ?_ (by first | (simp; done) | omega | (simp; omega)) _ | refine Below.alloc ?_ (by first | (simp; done) | omega | (simp; omega)) _ | refine below_drewN ?_ _ | refine Below.drew ?_))⟩
set_option maxRecDepth 100000 in
set_option maxHeartbeats 1600000 in
theorem sum_unit (p q : Option Addr) (cap capl : Nat) (us : List Qn.Un) (l : List Qn.Am) (tt : Int) (w : World) (ht : Tab w p us) (hcap : us.length ≤ cap) (hl : Amts w q l) (hll : l.length ≤ 1000) (ha : accB us l = true) (hx : decide (0 ≤ tt ∧ tt < (us.length : Int)) = true) (hm : ∀ a ∈ l, Qn.May us a) (hin : Qn.In us tt) (ho : l.any (othB us tt) = true) :
    Calls Try.prog 12 #[.slice p us.length cap, .slice q l.length capl, .int .i64 tt] w fun e w' => e = .returned (RA (0, (0, 0), 11)) ∧ Below w.heap.size w w' := by
  have HT0 := Lib.hid ht
  have HL0 := Lib.hid hl
  clear ht hl
  have HA := Lib.hid ha
  clear ha
  have HX := Lib.hid hx
  clear hx
  have HM := Lib.hid hm
  clear hm
  have HIN := Lib.hid hin
  clear hin
  have HO := Lib.hid ho
  clear ho
  go_enter Try.func12, Try.ntmps12
  go_wp2_with fail
  have hq : Fr3 (((w.alloc (.cells #[.int .i64 tt] 3)).alloc (.cells #[.int .i64 0, .int .i64 0, .int .i64 0] 33)).alloc (.cells #[.slice p us.length cap] 45)) (w.heap.size + 1) := ⟨by simp, by go_simp, by go_simp, by go_simp⟩
  obtain ⟨w1, hw1⟩ : ∃ W, W = (((w.alloc (.cells #[.int .i64 tt] 3)).alloc (.cells #[.int .i64 0, .int .i64 0, .int .i64 0] 33)).alloc (.cells #[.slice p us.length cap] 45)) := ⟨_, rfl⟩
  have bb1 : Below w.heap.size w w1 := by rw [hw1]; exact (by repeat (first | exact Below.refl _ _ | assumption | refine below_drewN ?_ _ | refine Below.setCell ?_ (by first | (simp; done) | (simp; omega)) _ | refine Below.alloc ?_ (by first | (simp; done) | (simp; omega) | omega) _ | refine Below.drew ?_ | refine Below.trans ?_ (Below.mono (by assumption) (by first | (simp; done) | (simp; omega) | omega))))
  have n1_j_0 : w1.cell? ⟨w.heap.size, 0, none⟩ = some (.int .i64 tt) := by rw [hw1]; go_simp
  have n1_r_0 : w1.cell? ⟨w.heap.size + 1, 0, none⟩ = some (.int .i64 0) := by rw [hw1]; go_simp
  have n1_r_1 : w1.cell? ⟨w.heap.size + 1, 1, none⟩ = some (.int .i64 0) := by rw [hw1]; go_simp
  have n1_r_2 : w1.cell? ⟨w.heap.size + 1, 2, none⟩ = some (.int .i64 0) := by rw [hw1]; go_simp
  have n1_t_0 : w1.cell? ⟨w.heap.size + 2, 0, none⟩ = some (.slice p us.length cap) := by rw [hw1]; go_simp
  rw [← hw1]
  rw [← hw1] at hq
  have hz1 := bb1.size
  (try simp at hz1)
  clear hw1
  have be1 : Below w.heap.size w w1 := bb1
  have c1_j_0 : w1.cell? ⟨w.heap.size, 0, none⟩ = some (.int .i64 tt) := n1_j_0
  have l1_j : w.heap.size < w1.heap.size := World.block_lt_of_cell? w1 _ c1_j_0
  have m1_j : w.heap.size < w1.heap.size + 1 := by omega
  have c1_r_0 : w1.cell? ⟨w.heap.size + 1, 0, none⟩ = some (.int .i64 0) := n1_r_0
  have c1_r_1 : w1.cell? ⟨w.heap.size + 1, 1, none⟩ = some (.int .i64 0) := n1_r_1
  have c1_r_2 : w1.cell? ⟨w.heap.size + 1, 2, none⟩ = some (.int .i64 0) := n1_r_2
  have l1_r : w.heap.size + 1 < w1.heap.size := World.block_lt_of_cell? w1 _ c1_r_0
  have m1_r : w.heap.size + 1 < w1.heap.size + 1 := by omega
  have c1_t_0 : w1.cell? ⟨w.heap.size + 2, 0, none⟩ = some (.slice p us.length cap) := n1_t_0
  have l1_t : w.heap.size + 2 < w1.heap.size := World.block_lt_of_cell? w1 _ c1_t_0
  have m1_t : w.heap.size + 2 < w1.heap.size + 1 := by omega
  have HT1 := Lib.hid (HT0.out.below bb1)
  have HL1 := Lib.hid (HL0.out.below bb1)
  have BE1 := Lib.hid be1
  clear be1 bb1 HT0 HL0
  have HFR1 := Lib.hid hq
  clear hq
  skip
  refine (accepts_any p q cap capl us l _ (HT1.out.below (by repeat (first | exact Below.refl _ _ | assumption | refine below_drewN ?_ _ | refine Below.setCell ?_ (by first | (simp; done) | (simp; omega)) _ | refine Below.alloc ?_ (by first | (simp; done) | (simp; omega) | omega) _ | refine Below.drew ?_ | refine Below.trans ?_ (Below.mono (by assumption) (by first | (simp; done) | (simp; omega) | omega))))) hcap (HL1.out.below (by repeat (first | exact Below.refl _ _ | assumption | refine below_drewN ?_ _ | refine Below.setCell ?_ (by first | (simp; done) | (simp; omega)) _ | refine Below.alloc ?_ (by first | (simp; done) | (simp; omega) | omega) _ | refine Below.drew ?_ | refine Below.trans ?_ (Below.mono (by assumption) (by first | (simp; done) | (simp; omega) | omega))))) hll).mono ?_
  rintro e w2 ⟨rfl, hb2⟩
  rw [HA.out]
  have hz2 := hb2.size
  (try simp at hz2)
  have bb2 : Below w1.heap.size w1 w2 := (by repeat (first | exact Below.refl _ _ | assumption | refine below_drewN ?_ _ | refine Below.setCell ?_ (by first | (simp; done) | (simp; omega)) _ | refine Below.alloc ?_ (by first | (simp; done) | (simp; omega) | omega) _ | refine Below.drew ?_ | refine Below.trans ?_ (Below.mono (by assumption) (by first | (simp; done) | (simp; omega) | omega))))
  have be2 : Below w.heap.size w w2 := BE1.out.trans (bb2.mono BE1.out.size)
  have c2_j_0 : w2.cell? ⟨w.heap.size, 0, none⟩ = some (.int .i64 tt) := cell_keep bb2 c1_j_0
  have l2_j : w.heap.size < w2.heap.size := by omega
  have m2_j : w.heap.size < w2.heap.size + 1 := by omega
  have c2_r_0 : w2.cell? ⟨w.heap.size + 1, 0, none⟩ = some (.int .i64 0) := cell_keep bb2 c1_r_0
  have c2_r_1 : w2.cell? ⟨w.heap.size + 1, 1, none⟩ = some (.int .i64 0) := cell_keep bb2 c1_r_1
  have c2_r_2 : w2.cell? ⟨w.heap.size + 1, 2, none⟩ = some (.int .i64 0) := cell_keep bb2 c1_r_2
  have l2_r : w.heap.size + 1 < w2.heap.size := by omega
  have m2_r : w.heap.size + 1 < w2.heap.size + 1 := by omega
  have c2_t_0 : w2.cell? ⟨w.heap.size + 2, 0, none⟩ = some (.slice p us.length cap) := cell_keep bb2 c1_t_0
  have l2_t : w.heap.size + 2 < w2.heap.size := by omega
  have m2_t : w.heap.size + 2 < w2.heap.size + 1 := by omega
  have HT2 := Lib.hid (HT1.out.below bb2)
  have HL2 := Lib.hid (HL1.out.below bb2)
  have HFR2 := Lib.hid (HFR1.out.below bb2)
  have BE2 := Lib.hid be2
  clear be2 bb2 hb2 BE1 c1_j_0 l1_j m1_j c1_r_0 c1_r_1 c1_r_2 l1_r m1_r c1_t_0 l1_t m1_t HT1 HL1 HFR1
  go_wp2_with fail
  refine (has_any _ _ _ _ _).mono ?_
  rintro e w' ⟨rfl, rfl⟩
  rw [HX.out]
  go_wp2_with fail
  refine (other_any (w.heap.size + 2) w.heap.size q capl l (othB us tt) _ hll (HL2.out.below (by repeat (first | exact Below.refl _ _ | assumption | refine below_drewN ?_ _ | refine Below.setCell ?_ (by first | (simp; done) | (simp; omega)) _ | refine Below.alloc ?_ (by first | (simp; done) | (simp; omega) | omega) _ | refine Below.drew ?_ | refine Below.trans ?_ (Below.mono (by assumption) (by first | (simp; done) | (simp; omega) | omega))))) (fun k v w' hv hb => other_am p cap (w.heap.size + 2) w.heap.size v tt us w' (HM.out v (List.mem_of_getElem? hv)).1 HIN.out (HT2.out.below hb) (Nat.lt_of_lt_of_le l2_t hb.size) (cell_keep hb c2_t_0) (Nat.lt_of_lt_of_le l2_j hb.size) (cell_keep hb c2_j_0))).mono ?_
  rintro e w3 ⟨rfl, hb3⟩
  rw [HO.out]
  have hz3 := hb3.size
  (try simp at hz3)
  have bb3 : Below w2.heap.size w2 w3 := (by repeat (first | exact Below.refl _ _ | assumption | refine below_drewN ?_ _ | refine Below.setCell ?_ (by first | (simp; done) | (simp; omega)) _ | refine Below.alloc ?_ (by first | (simp; done) | (simp; omega) | omega) _ | refine Below.drew ?_ | refine Below.trans ?_ (Below.mono (by assumption) (by first | (simp; done) | (simp; omega) | omega))))
  have be3 : Below w.heap.size w w3 := BE2.out.trans (bb3.mono BE2.out.size)
  have c3_j_0 : w3.cell? ⟨w.heap.size, 0, none⟩ = some (.int .i64 tt) := cell_keep bb3 c2_j_0
  have l3_j : w.heap.size < w3.heap.size := by omega
  have m3_j : w.heap.size < w3.heap.size + 1 := by omega
  have c3_r_0 : w3.cell? ⟨w.heap.size + 1, 0, none⟩ = some (.int .i64 0) := cell_keep bb3 c2_r_0
  have c3_r_1 : w3.cell? ⟨w.heap.size + 1, 1, none⟩ = some (.int .i64 0) := cell_keep bb3 c2_r_1
  have c3_r_2 : w3.cell? ⟨w.heap.size + 1, 2, none⟩ = some (.int .i64 0) := cell_keep bb3 c2_r_2
  have l3_r : w.heap.size + 1 < w3.heap.size := by omega
  have m3_r : w.heap.size + 1 < w3.heap.size + 1 := by omega
  have c3_t_0 : w3.cell? ⟨w.heap.size + 2, 0, none⟩ = some (.slice p us.length cap) := cell_keep bb3 c2_t_0
  have l3_t : w.heap.size + 2 < w3.heap.size := by omega
  have m3_t : w.heap.size + 2 < w3.heap.size + 1 := by omega
  have HT3 := Lib.hid (HT2.out.below bb3)
  have HL3 := Lib.hid (HL2.out.below bb3)
  have HFR3 := Lib.hid (HFR2.out.below bb3)
  have BE3 := Lib.hid be3
  clear be3 bb3 hb3 BE2 c2_j_0 l2_j m2_j c2_r_0 c2_r_1 c2_r_2 l2_r m2_r c2_t_0 l2_t m2_t HT2 HL2 HFR2
  obtain ⟨fr0, fr1, fr2, fr3⟩ := HFR3.out
  go_wp2_with fail
  refine bodyPost_ret (v := RA (0, (0, 0), 11)) (by simp [results, Try.results12, go_sem, RA, c3_r_0, c3_r_1, c3_r_2]) rfl ⟨rfl, (by have q := BE3.out; repeat (first | exact q | refine Below.setCell ?_ (by first | (simp; done) | omega | (simp; omega)) _ | refine Below.alloc ?_ (by first | (simp; done) | omega | (simp; omega)) _ | refine below_drewN ?_ _ | refine Below.drew ?_))⟩
set_option maxRecDepth 100000 in
set_option maxHeartbeats 1600000 in
theorem sum_far (p q : Option Addr) (cap capl : Nat) (us : List Qn.Un) (l : List Qn.Am) (jj : Nat) (w : World) (ht : Tab w p us) (hcap : us.length ≤ cap) (hl : Amts w q l) (hll : l.length ≤ 1000) (ha : accB us l = true) (hx : decide (0 ≤ (jj : Int) ∧ (jj : Int) < (us.length : Int)) = true) (hm : ∀ a ∈ l, Qn.May us a) (hin : Qn.In us (jj : Int)) (ho : l.any (othB us (jj : Int)) = false) (hag : Qn.AllGood us) (hjl : jj < us.length) (hres : accS (fun a => Qn.conv a.2 (Qn.un us a.1).fac (Qn.un us (jj : Int)).fac) (fun _ => jj) (Qn.zeros us.length) l = none) :
    Calls Try.prog 12 #[.slice p us.length cap, .slice q l.length capl, .int .i64 (jj : Int)] w fun e w' => e = .returned (RA (0, (0, 0), 2)) ∧ Below w.heap.size w w' := by
  have HT0 := Lib.hid ht
  have HL0 := Lib.hid hl
  clear ht hl
  have hlen := good_len hag
  have HA := Lib.hid ha
  clear ha
  have HX := Lib.hid hx
  clear hx
  have HM := Lib.hid hm
  clear hm
  have HIN := Lib.hid hin
  clear hin
  have HO := Lib.hid ho
  clear ho
  have HAG := Lib.hid hag
  clear hag
  have HRES := Lib.hid hres
  clear hres
  go_enter Try.func12, Try.ntmps12
  go_wp2_with fail
  have hq : Fr3 (((w.alloc (.cells #[.int .i64 (jj : Int)] 3)).alloc (.cells #[.int .i64 0, .int .i64 0, .int .i64 0] 33)).alloc (.cells #[.slice p us.length cap] 45)) (w.heap.size + 1) := ⟨by simp, by go_simp, by go_simp, by go_simp⟩
  obtain ⟨w1, hw1⟩ : ∃ W, W = (((w.alloc (.cells #[.int .i64 (jj : Int)] 3)).alloc (.cells #[.int .i64 0, .int .i64 0, .int .i64 0] 33)).alloc (.cells #[.slice p us.length cap] 45)) := ⟨_, rfl⟩
  have bb1 : Below w.heap.size w w1 := by rw [hw1]; exact (by repeat (first | exact Below.refl _ _ | assumption | refine below_drewN ?_ _ | refine Below.setCell ?_ (by first | (simp; done) | (simp; omega)) _ | refine Below.alloc ?_ (by first | (simp; done) | (simp; omega) | omega) _ | refine Below.drew ?_ | refine Below.trans ?_ (Below.mono (by assumption) (by first | (simp; done) | (simp; omega) | omega))))
  have n1_j_0 : w1.cell? ⟨w.heap.size, 0, none⟩ = some (.int .i64 (jj : Int)) := by rw [hw1]; go_simp
  have n1_r_0 : w1.cell? ⟨w.heap.size + 1, 0, none⟩ = some (.int .i64 0) := by rw [hw1]; go_simp
  have n1_r_1 : w1.cell? ⟨w.heap.size + 1, 1, none⟩ = some (.int .i64 0) := by rw [hw1]; go_simp
  have n1_r_2 : w1.cell? ⟨w.heap.size + 1, 2, none⟩ = some (.int .i64 0) := by rw [hw1]; go_simp
  have n1_t_0 : w1.cell? ⟨w.heap.size + 2, 0, none⟩ = some (.slice p us.length cap) := by rw [hw1]; go_simp
  rw [← hw1]
  rw [← hw1] at hq
  have hz1 := bb1.size
  (try simp at hz1)
  clear hw1
  have be1 : Below w.heap.size w w1 := bb1
  have c1_j_0 : w1.cell? ⟨w.heap.size, 0, none⟩ = some (.int .i64 (jj : Int)) := n1_j_0
  have l1_j : w.heap.size < w1.heap.size := World.block_lt_of_cell? w1 _ c1_j_0
  have m1_j : w.heap.size < w1.heap.size + 1 := by omega
  have c1_r_0 : w1.cell? ⟨w.heap.size + 1, 0, none⟩ = some (.int .i64 0) := n1_r_0
  have c1_r_1 : w1.cell? ⟨w.heap.size + 1, 1, none⟩ = some (.int .i64 0) := n1_r_1
  have c1_r_2 : w1.cell? ⟨w.heap.size + 1, 2, none⟩ = some (.int .i64 0) := n1_r_2
  have l1_r : w.heap.size + 1 < w1.heap.size := World.block_lt_of_cell? w1 _ c1_r_0
  have m1_r : w.heap.size + 1 < w1.heap.size + 1 := by omega
  have c1_t_0 : w1.cell? ⟨w.heap.size + 2, 0, none⟩ = some (.slice p us.length cap) := n1_t_0
  have l1_t : w.heap.size + 2 < w1.heap.size := World.block_lt_of_cell? w1 _ c1_t_0
  have m1_t : w.heap.size + 2 < w1.heap.size + 1 := by omega
  have HT1 := Lib.hid (HT0.out.below bb1)
  have HL1 := Lib.hid (HL0.out.below bb1)
  have BE1 := Lib.hid be1
  clear be1 bb1 HT0 HL0
  have HFR1 := Lib.hid hq
  clear hq
  skip
  refine (accepts_any p q cap capl us l _ (HT1.out.below (by repeat (first | exact Below.refl _ _ | assumption | refine below_drewN ?_ _ | refine Below.setCell ?_ (by first | (simp; done) | (simp; omega)) _ | refine Below.alloc ?_ (by first | (simp; done) | (simp; omega) | omega) _ | refine Below.drew ?_ | refine Below.trans ?_ (Below.mono (by assumption) (by first | (simp; done) | (simp; omega) | omega))))) hcap (HL1.out.below (by repeat (first | exact Below.refl _ _ | assumption | refine below_drewN ?_ _ | refine Below.setCell ?_ (by first | (simp; done) | (simp; omega)) _ | refine Below.alloc ?_ (by first | (simp; done) | (simp; omega) | omega) _ | refine Below.drew ?_ | refine Below.trans ?_ (Below.mono (by assumption) (by first | (simp; done) | (simp; omega) | omega))))) hll).mono ?_
  rintro e w2 ⟨rfl, hb2⟩
  rw [HA.out]
  have hz2 := hb2.size
  (try simp at hz2)
  have bb2 : Below w1.heap.size w1 w2 := (by repeat (first | exact Below.refl _ _ | assumption | refine below_drewN ?_ _ | refine Below.setCell ?_ (by first | (simp; done) | (simp; omega)) _ | refine Below.alloc ?_ (by first | (simp; done) | (simp; omega) | omega) _ | refine Below.drew ?_ | refine Below.trans ?_ (Below.mono (by assumption) (by first | (simp; done) | (simp; omega) | omega))))
  have be2 : Below w.heap.size w w2 := BE1.out.trans (bb2.mono BE1.out.size)
  have c2_j_0 : w2.cell? ⟨w.heap.size, 0, none⟩ = some (.int .i64 (jj : Int)) := cell_keep bb2 c1_j_0
  have l2_j : w.heap.size < w2.heap.size := by omega
  have m2_j : w.heap.size < w2.heap.size + 1 := by omega
  have c2_r_0 : w2.cell? ⟨w.heap.size + 1, 0, none⟩ = some (.int .i64 0) := cell_keep bb2 c1_r_0
  have c2_r_1 : w2.cell? ⟨w.heap.size + 1, 1, none⟩ = some (.int .i64 0) := cell_keep bb2 c1_r_1
  have c2_r_2 : w2.cell? ⟨w.heap.size + 1, 2, none⟩ = some (.int .i64 0) := cell_keep bb2 c1_r_2
  have l2_r : w.heap.size + 1 < w2.heap.size := by omega
  have m2_r : w.heap.size + 1 < w2.heap.size + 1 := by omega
  have c2_t_0 : w2.cell? ⟨w.heap.size + 2, 0, none⟩ = some (.slice p us.length cap) := cell_keep bb2 c1_t_0
  have l2_t : w.heap.size + 2 < w2.heap.size := by omega
  have m2_t : w.heap.size + 2 < w2.heap.size + 1 := by omega
  have HT2 := Lib.hid (HT1.out.below bb2)
  have HL2 := Lib.hid (HL1.out.below bb2)
  have HFR2 := Lib.hid (HFR1.out.below bb2)
  have BE2 := Lib.hid be2
  clear be2 bb2 hb2 BE1 c1_j_0 l1_j m1_j c1_r_0 c1_r_1 c1_r_2 l1_r m1_r c1_t_0 l1_t m1_t HT1 HL1 HFR1
  go_wp2_with fail
  refine (has_any _ _ _ _ _).mono ?_
  rintro e w' ⟨rfl, rfl⟩
  rw [HX.out]
  go_wp2_with fail
  refine (other_any (w.heap.size + 2) w.heap.size q capl l (othB us (jj : Int)) _ hll (HL2.out.below (by repeat (first | exact Below.refl _ _ | assumption | refine below_drewN ?_ _ | refine Below.setCell ?_ (by first | (simp; done) | (simp; omega)) _ | refine Below.alloc ?_ (by first | (simp; done) | (simp; omega) | omega) _ | refine Below.drew ?_ | refine Below.trans ?_ (Below.mono (by assumption) (by first | (simp; done) | (simp; omega) | omega))))) (fun k v w' hv hb => other_am p cap (w.heap.size + 2) w.heap.size v (jj : Int) us w' (HM.out v (List.mem_of_getElem? hv)).1 HIN.out (HT2.out.below hb) (Nat.lt_of_lt_of_le l2_t hb.size) (cell_keep hb c2_t_0) (Nat.lt_of_lt_of_le l2_j hb.size) (cell_keep hb c2_j_0))).mono ?_
  rintro e w3 ⟨rfl, hb3⟩
  rw [HO.out]
  have hz3 := hb3.size
  (try simp at hz3)
  have bb3 : Below w2.heap.size w2 w3 := (by repeat (first | exact Below.refl _ _ | assumption | refine below_drewN ?_ _ | refine Below.setCell ?_ (by first | (simp; done) | (simp; omega)) _ | refine Below.alloc ?_ (by first | (simp; done) | (simp; omega) | omega) _ | refine Below.drew ?_ | refine Below.trans ?_ (Below.mono (by assumption) (by first | (simp; done) | (simp; omega) | omega))))
  have be3 : Below w.heap.size w w3 := BE2.out.trans (bb3.mono BE2.out.size)
  have c3_j_0 : w3.cell? ⟨w.heap.size, 0, none⟩ = some (.int .i64 (jj : Int)) := cell_keep bb3 c2_j_0
  have l3_j : w.heap.size < w3.heap.size := by omega
  have m3_j : w.heap.size < w3.heap.size + 1 := by omega
  have c3_r_0 : w3.cell? ⟨w.heap.size + 1, 0, none⟩ = some (.int .i64 0) := cell_keep bb3 c2_r_0
  have c3_r_1 : w3.cell? ⟨w.heap.size + 1, 1, none⟩ = some (.int .i64 0) := cell_keep bb3 c2_r_1
  have c3_r_2 : w3.cell? ⟨w.heap.size + 1, 2, none⟩ = some (.int .i64 0) := cell_keep bb3 c2_r_2
  have l3_r : w.heap.size + 1 < w3.heap.size := by omega
  have m3_r : w.heap.size + 1 < w3.heap.size + 1 := by omega
  have c3_t_0 : w3.cell? ⟨w.heap.size + 2, 0, none⟩ = some (.slice p us.length cap) := cell_keep bb3 c2_t_0
  have l3_t : w.heap.size + 2 < w3.heap.size := by omega
  have m3_t : w.heap.size + 2 < w3.heap.size + 1 := by omega
  have HT3 := Lib.hid (HT2.out.below bb3)
  have HL3 := Lib.hid (HL2.out.below bb3)
  have HFR3 := Lib.hid (HFR2.out.below bb3)
  have BE3 := Lib.hid be3
  clear be3 bb3 hb3 BE2 c2_j_0 l2_j m2_j c2_r_0 c2_r_1 c2_r_2 l2_r m2_r c2_t_0 l2_t m2_t HT2 HL2 HFR2
  go_wp2_with fail
  refine (add_sum p q (some ⟨w.heap.size, 0, none⟩) cap capl us.length us.length l (fun a => Qn.conv a.2 (Qn.un us a.1).fac (Qn.un us (jj : Int)).fac) (fun _ => jj) _ _ hlen hll (HL3.out.below (by repeat (first | exact Below.refl _ _ | assumption | refine below_drewN ?_ _ | refine Below.setCell ?_ (by first | (simp; done) | (simp; omega)) _ | refine Below.alloc ?_ (by first | (simp; done) | (simp; omega) | omega) _ | refine Below.drew ?_ | refine Below.trans ?_ (Below.mono (by assumption) (by first | (simp; done) | (simp; omega) | omega))))) (fun k a w' hk hb => to_calls w.heap.size a (jj : Int) w' (Nat.lt_of_lt_of_le l3_j hb.size) (cell_keep hb c3_j_0)) (fun k a w' hk hb => conv_am p cap a (jj : Int) us w' HAG.out (HM.out a (List.mem_of_getElem? hk)) HIN.out (HT3.out.below hb)) (fun _ _ => hjl) (fun a ha => conv_two (HM.out a ha).2 (Qn.fac_un HAG.out (HM.out a ha).1) (Qn.fac_un HAG.out HIN.out)) HRES.out).mono ?_
  rintro e w4 ⟨hb4, hpost⟩
  have hz4 := hb4.size
  (try simp at hz4)
  have bb4 : Below w3.heap.size w3 w4 := (by repeat (first | exact Below.refl _ _ | assumption | refine below_drewN ?_ _ | refine Below.setCell ?_ (by first | (simp; done) | (simp; omega)) _ | refine Below.alloc ?_ (by first | (simp; done) | (simp; omega) | omega) _ | refine Below.drew ?_ | refine Below.trans ?_ (Below.mono (by assumption) (by first | (simp; done) | (simp; omega) | omega))))
  have be4 : Below w.heap.size w w4 := BE3.out.trans (bb4.mono BE3.out.size)
  have c4_j_0 : w4.cell? ⟨w.heap.size, 0, none⟩ = some (.int .i64 (jj : Int)) := cell_keep bb4 c3_j_0
  have l4_j : w.heap.size < w4.heap.size := by omega
  have m4_j : w.heap.size < w4.heap.size + 1 := by omega
  have c4_r_0 : w4.cell? ⟨w.heap.size + 1, 0, none⟩ = some (.int .i64 0) := cell_keep bb4 c3_r_0
  have c4_r_1 : w4.cell? ⟨w.heap.size + 1, 1, none⟩ = some (.int .i64 0) := cell_keep bb4 c3_r_1
  have c4_r_2 : w4.cell? ⟨w.heap.size + 1, 2, none⟩ = some (.int .i64 0) := cell_keep bb4 c3_r_2
  have l4_r : w.heap.size + 1 < w4.heap.size := by omega
  have m4_r : w.heap.size + 1 < w4.heap.size + 1 := by omega
  have c4_t_0 : w4.cell? ⟨w.heap.size + 2, 0, none⟩ = some (.slice p us.length cap) := cell_keep bb4 c3_t_0
  have l4_t : w.heap.size + 2 < w4.heap.size := by omega
  have m4_t : w.heap.size + 2 < w4.heap.size + 1 := by omega
  have HT4 := Lib.hid (HT3.out.below bb4)
  have HL4 := Lib.hid (HL3.out.below bb4)
  have HFR4 := Lib.hid (HFR3.out.below bb4)
  obtain ⟨_, rfl⟩ := hpost.resolve_left (fun h => by obtain ⟨_, _, h, _⟩ := h; cases h)
  have BE4 := Lib.hid be4
  clear be4 bb4 hb4 BE3 c3_j_0 l3_j m3_j c3_r_0 c3_r_1 c3_r_2 l3_r m3_r c3_t_0 l3_t m3_t HT3 HL3 HFR3
  obtain ⟨fr0, fr1, fr2, fr3⟩ := HFR4.out
  go_wp2_with fail
  refine bodyPost_ret (v := RA (0, (0, 0), 2)) (by simp [results, Try.results12, go_sem, RA, c4_r_0, c4_r_1, c4_r_2]) rfl ⟨rfl, (by have q := BE4.out; repeat (first | exact q | refine Below.setCell ?_ (by first | (simp; done) | omega | (simp; omega)) _ | refine Below.alloc ?_ (by first | (simp; done) | omega | (simp; omega)) _ | refine below_drewN ?_ _ | refine Below.drew ?_))⟩
set_option maxRecDepth 100000 in
set_option maxHeartbeats 1600000 in
theorem sum_yes (p q : Option Addr) (cap capl : Nat) (us : List Qn.Un) (l : List Qn.Am) (jj : Nat) (o : List Qn.R) (x y : Int) (w : World) (ht : Tab w p us) (hcap : us.length ≤ cap) (hl : Amts w q l) (hll : l.length ≤ 1000) (ha : accB us l = true) (hx : decide (0 ≤ (jj : Int) ∧ (jj : Int) < (us.length : Int)) = true) (hm : ∀ a ∈ l, Qn.May us a) (hin : Qn.In us (jj : Int)) (ho : l.any (othB us (jj : Int)) = false) (hag : Qn.AllGood us) (hjl : jj < us.length) (hres : accS (fun a => Qn.conv a.2 (Qn.un us a.1).fac (Qn.un us (jj : Int)).fac) (fun _ => jj) (Qn.zeros us.length) l = some o) (hoj : o[jj]? = some (x, y)) :
    Calls Try.prog 12 #[.slice p us.length cap, .slice q l.length capl, .int .i64 (jj : Int)] w fun e w' => e = .returned (RA ((jj : Int), (x, y), 0)) ∧ Below w.heap.size w w' := by
  have HT0 := Lib.hid ht
  have HL0 := Lib.hid hl
  clear ht hl
  have HOJ := Lib.hid hoj
  clear hoj
  have hlen := good_len hag
  have HA := Lib.hid ha
  clear ha
  have HX := Lib.hid hx
  clear hx
  have HM := Lib.hid hm
  clear hm
  have HIN := Lib.hid hin
  clear hin
  have HO := Lib.hid ho
  clear ho
  have HAG := Lib.hid hag
  clear hag
  have HRES := Lib.hid hres
  clear hres
  go_enter Try.func12, Try.ntmps12
  go_wp2_with fail
  have hq : Fr3 (((w.alloc (.cells #[.int .i64 (jj : Int)] 3)).alloc (.cells #[.int .i64 0, .int .i64 0, .int .i64 0] 33)).alloc (.cells #[.slice p us.length cap] 45)) (w.heap.size + 1) := ⟨by simp, by go_simp, by go_simp, by go_simp⟩
  obtain ⟨w1, hw1⟩ : ∃ W, W = (((w.alloc (.cells #[.int .i64 (jj : Int)] 3)).alloc (.cells #[.int .i64 0, .int .i64 0, .int .i64 0] 33)).alloc (.cells #[.slice p us.length cap] 45)) := ⟨_, rfl⟩
  have bb1 : Below w.heap.size w w1 := by rw [hw1]; exact (by repeat (first | exact Below.refl _ _ | assumption | refine below_drewN ?_ _ | refine Below.setCell ?_ (by first | (simp; done) | (simp; omega)) _ | refine Below.alloc ?_ (by first | (simp; done) | (simp; omega) | omega) _ | refine Below.drew ?_ | refine Below.trans ?_ (Below.mono (by assumption) (by first | (simp; done) | (simp; omega) | omega))))
  have n1_j_0 : w1.cell? ⟨w.heap.size, 0, none⟩ = some (.int .i64 (jj : Int)) := by rw [hw1]; go_simp
  have n1_r_0 : w1.cell? ⟨w.heap.size + 1, 0, none⟩ = some (.int .i64 0) := by rw [hw1]; go_simp
  have n1_r_1 : w1.cell? ⟨w.heap.size + 1, 1, none⟩ = some (.int .i64 0) := by rw [hw1]; go_simp
  have n1_r_2 : w1.cell? ⟨w.heap.size + 1, 2, none⟩ = some (.int .i64 0) := by rw [hw1]; go_simp
  have n1_t_0 : w1.cell? ⟨w.heap.size + 2, 0, none⟩ = some (.slice p us.length cap) := by rw [hw1]; go_simp
  rw [← hw1]
  rw [← hw1] at hq
  have hz1 := bb1.size
  (try simp at hz1)
  clear hw1
  have be1 : Below w.heap.size w w1 := bb1
  have c1_j_0 : w1.cell? ⟨w.heap.size, 0, none⟩ = some (.int .i64 (jj : Int)) := n1_j_0
  have l1_j : w.heap.size < w1.heap.size := World.block_lt_of_cell? w1 _ c1_j_0
  have m1_j : w.heap.size < w1.heap.size + 1 := by omega
  have c1_r_0 : w1.cell? ⟨w.heap.size + 1, 0, none⟩ = some (.int .i64 0) := n1_r_0
  have c1_r_1 : w1.cell? ⟨w.heap.size + 1, 1, none⟩ = some (.int .i64 0) := n1_r_1
  have c1_r_2 : w1.cell? ⟨w.heap.size + 1, 2, none⟩ = some (.int .i64 0) := n1_r_2
  have l1_r : w.heap.size + 1 < w1.heap.size := World.block_lt_of_cell? w1 _ c1_r_0
  have m1_r : w.heap.size + 1 < w1.heap.size + 1 := by omega
  have c1_t_0 : w1.cell? ⟨w.heap.size + 2, 0, none⟩ = some (.slice p us.length cap) := n1_t_0
  have l1_t : w.heap.size + 2 < w1.heap.size := World.block_lt_of_cell? w1 _ c1_t_0
  have m1_t : w.heap.size + 2 < w1.heap.size + 1 := by omega
  have HT1 := Lib.hid (HT0.out.below bb1)
  have HL1 := Lib.hid (HL0.out.below bb1)
  have BE1 := Lib.hid be1
  clear be1 bb1 HT0 HL0
  have HFR1 := Lib.hid hq
  clear hq
  skip
  refine (accepts_any p q cap capl us l _ (HT1.out.below (by repeat (first | exact Below.refl _ _ | assumption | refine below_drewN ?_ _ | refine Below.setCell ?_ (by first | (simp; done) | (simp; omega)) _ | refine Below.alloc ?_ (by first | (simp; done) | (simp; omega) | omega) _ | refine Below.drew ?_ | refine Below.trans ?_ (Below.mono (by assumption) (by first | (simp; done) | (simp; omega) | omega))))) hcap (HL1.out.below (by repeat (first | exact Below.refl _ _ | assumption | refine below_drewN ?_ _ | refine Below.setCell ?_ (by first | (simp; done) | (simp; omega)) _ | refine Below.alloc ?_ (by first | (simp; done) | (simp; omega) | omega) _ | refine Below.drew ?_ | refine Below.trans ?_ (Below.mono (by assumption) (by first | (simp; done) | (simp; omega) | omega))))) hll).mono ?_
  rintro e w2 ⟨rfl, hb2⟩
  rw [HA.out]
  have hz2 := hb2.size
  (try simp at hz2)
  have bb2 : Below w1.heap.size w1 w2 := (by repeat (first | exact Below.refl _ _ | assumption | refine below_drewN ?_ _ | refine Below.setCell ?_ (by first | (simp; done) | (simp; omega)) _ | refine Below.alloc ?_ (by first | (simp; done) | (simp; omega) | omega) _ | refine Below.drew ?_ | refine Below.trans ?_ (Below.mono (by assumption) (by first | (simp; done) | (simp; omega) | omega))))
  have be2 : Below w.heap.size w w2 := BE1.out.trans (bb2.mono BE1.out.size)
  have c2_j_0 : w2.cell? ⟨w.heap.size, 0, none⟩ = some (.int .i64 (jj : Int)) := cell_keep bb2 c1_j_0
  have l2_j : w.heap.size < w2.heap.size := by omega
  have m2_j : w.heap.size < w2.heap.size + 1 := by omega
  have c2_r_0 : w2.cell? ⟨w.heap.size + 1, 0, none⟩ = some (.int .i64 0) := cell_keep bb2 c1_r_0
  have c2_r_1 : w2.cell? ⟨w.heap.size + 1, 1, none⟩ = some (.int .i64 0) := cell_keep bb2 c1_r_1
  have c2_r_2 : w2.cell? ⟨w.heap.size + 1, 2, none⟩ = some (.int .i64 0) := cell_keep bb2 c1_r_2
  have l2_r : w.heap.size + 1 < w2.heap.size := by omega
  have m2_r : w.heap.size + 1 < w2.heap.size + 1 := by omega
  have c2_t_0 : w2.cell? ⟨w.heap.size + 2, 0, none⟩ = some (.slice p us.length cap) := cell_keep bb2 c1_t_0
  have l2_t : w.heap.size + 2 < w2.heap.size := by omega
  have m2_t : w.heap.size + 2 < w2.heap.size + 1 := by omega
  have HT2 := Lib.hid (HT1.out.below bb2)
  have HL2 := Lib.hid (HL1.out.below bb2)
  have HFR2 := Lib.hid (HFR1.out.below bb2)
  have BE2 := Lib.hid be2
  clear be2 bb2 hb2 BE1 c1_j_0 l1_j m1_j c1_r_0 c1_r_1 c1_r_2 l1_r m1_r c1_t_0 l1_t m1_t HT1 HL1 HFR1
  go_wp2_with fail
  refine (has_any _ _ _ _ _).mono ?_
  rintro e w' ⟨rfl, rfl⟩
  rw [HX.out]
  go_wp2_with fail
  refine (other_any (w.heap.size + 2) w.heap.size q capl l (othB us (jj : Int)) _ hll (HL2.out.below (by repeat (first | exact Below.refl _ _ | assumption | refine below_drewN ?_ _ | refine Below.setCell ?_ (by first | (simp; done) | (simp; omega)) _ | refine Below.alloc ?_ (by first | (simp; done) | (simp; omega) | omega) _ | refine Below.drew ?_ | refine Below.trans ?_ (Below.mono (by assumption) (by first | (simp; done) | (simp; omega) | omega))))) (fun k v w' hv hb => other_am p cap (w.heap.size + 2) w.heap.size v (jj : Int) us w' (HM.out v (List.mem_of_getElem? hv)).1 HIN.out (HT2.out.below hb) (Nat.lt_of_lt_of_le l2_t hb.size) (cell_keep hb c2_t_0) (Nat.lt_of_lt_of_le l2_j hb.size) (cell_keep hb c2_j_0))).mono ?_
  rintro e w3 ⟨rfl, hb3⟩
  rw [HO.out]
  have hz3 := hb3.size
  (try simp at hz3)
  have bb3 : Below w2.heap.size w2 w3 := (by repeat (first | exact Below.refl _ _ | assumption | refine below_drewN ?_ _ | refine Below.setCell ?_ (by first | (simp; done) | (simp; omega)) _ | refine Below.alloc ?_ (by first | (simp; done) | (simp; omega) | omega) _ | refine Below.drew ?_ | refine Below.trans ?_ (Below.mono (by assumption) (by first | (simp; done) | (simp; omega) | omega))))
  have be3 : Below w.heap.size w w3 := BE2.out.trans (bb3.mono BE2.out.size)
  have c3_j_0 : w3.cell? ⟨w.heap.size, 0, none⟩ = some (.int .i64 (jj : Int)) := cell_keep bb3 c2_j_0
  have l3_j : w.heap.size < w3.heap.size := by omega
  have m3_j : w.heap.size < w3.heap.size + 1 := by omega
  have c3_r_0 : w3.cell? ⟨w.heap.size + 1, 0, none⟩ = some (.int .i64 0) := cell_keep bb3 c2_r_0
  have c3_r_1 : w3.cell? ⟨w.heap.size + 1, 1, none⟩ = some (.int .i64 0) := cell_keep bb3 c2_r_1
  have c3_r_2 : w3.cell? ⟨w.heap.size + 1, 2, none⟩ = some (.int .i64 0) := cell_keep bb3 c2_r_2
  have l3_r : w.heap.size + 1 < w3.heap.size := by omega
  have m3_r : w.heap.size + 1 < w3.heap.size + 1 := by omega
  have c3_t_0 : w3.cell? ⟨w.heap.size + 2, 0, none⟩ = some (.slice p us.length cap) := cell_keep bb3 c2_t_0
  have l3_t : w.heap.size + 2 < w3.heap.size := by omega
  have m3_t : w.heap.size + 2 < w3.heap.size + 1 := by omega
  have HT3 := Lib.hid (HT2.out.below bb3)
  have HL3 := Lib.hid (HL2.out.below bb3)
  have HFR3 := Lib.hid (HFR2.out.below bb3)
  have BE3 := Lib.hid be3
  clear be3 bb3 hb3 BE2 c2_j_0 l2_j m2_j c2_r_0 c2_r_1 c2_r_2 l2_r m2_r c2_t_0 l2_t m2_t HT2 HL2 HFR2
  go_wp2_with fail
  refine (add_sum p q (some ⟨w.heap.size, 0, none⟩) cap capl us.length us.length l (fun a => Qn.conv a.2 (Qn.un us a.1).fac (Qn.un us (jj : Int)).fac) (fun _ => jj) _ _ hlen hll (HL3.out.below (by repeat (first | exact Below.refl _ _ | assumption | refine below_drewN ?_ _ | refine Below.setCell ?_ (by first | (simp; done) | (simp; omega)) _ | refine Below.alloc ?_ (by first | (simp; done) | (simp; omega) | omega) _ | refine Below.drew ?_ | refine Below.trans ?_ (Below.mono (by assumption) (by first | (simp; done) | (simp; omega) | omega))))) (fun k a w' hk hb => to_calls w.heap.size a (jj : Int) w' (Nat.lt_of_lt_of_le l3_j hb.size) (cell_keep hb c3_j_0)) (fun k a w' hk hb => conv_am p cap a (jj : Int) us w' HAG.out (HM.out a (List.mem_of_getElem? hk)) HIN.out (HT3.out.below hb)) (fun _ _ => hjl) (fun a ha => conv_two (HM.out a ha).2 (Qn.fac_un HAG.out (HM.out a ha).1) (Qn.fac_un HAG.out HIN.out)) HRES.out).mono ?_
  rintro e w4 ⟨hb4, hpost⟩
  have hz4 := hb4.size
  (try simp at hz4)
  have bb4 : Below w3.heap.size w3 w4 := (by repeat (first | exact Below.refl _ _ | assumption | refine below_drewN ?_ _ | refine Below.setCell ?_ (by first | (simp; done) | (simp; omega)) _ | refine Below.alloc ?_ (by first | (simp; done) | (simp; omega) | omega) _ | refine Below.drew ?_ | refine Below.trans ?_ (Below.mono (by assumption) (by first | (simp; done) | (simp; omega) | omega))))
  have be4 : Below w.heap.size w w4 := BE3.out.trans (bb4.mono BE3.out.size)
  have c4_j_0 : w4.cell? ⟨w.heap.size, 0, none⟩ = some (.int .i64 (jj : Int)) := cell_keep bb4 c3_j_0
  have l4_j : w.heap.size < w4.heap.size := by omega
  have m4_j : w.heap.size < w4.heap.size + 1 := by omega
  have c4_r_0 : w4.cell? ⟨w.heap.size + 1, 0, none⟩ = some (.int .i64 0) := cell_keep bb4 c3_r_0
  have c4_r_1 : w4.cell? ⟨w.heap.size + 1, 1, none⟩ = some (.int .i64 0) := cell_keep bb4 c3_r_1
  have c4_r_2 : w4.cell? ⟨w.heap.size + 1, 2, none⟩ = some (.int .i64 0) := cell_keep bb4 c3_r_2
  have l4_r : w.heap.size + 1 < w4.heap.size := by omega
  have m4_r : w.heap.size + 1 < w4.heap.size + 1 := by omega
  have c4_t_0 : w4.cell? ⟨w.heap.size + 2, 0, none⟩ = some (.slice p us.length cap) := cell_keep bb4 c3_t_0
  have l4_t : w.heap.size + 2 < w4.heap.size := by omega
  have m4_t : w.heap.size + 2 < w4.heap.size + 1 := by omega
  have HT4 := Lib.hid (HT3.out.below bb4)
  have HL4 := Lib.hid (HL3.out.below bb4)
  have HFR4 := Lib.hid (HFR3.out.below bb4)
  obtain ⟨o', g, ho', rfl, hg, hrow⟩ := hpost.resolve_right (fun h => by cases h.1)
  cases ho'
  obtain ⟨x0, x1, _, _⟩ := hrow.get HOJ.out
  have hgl := hrow.lt
  clear hpost hrow
  have BE4 := Lib.hid be4
  clear be4 bb4 hb4 BE3 c3_j_0 l3_j m3_j c3_r_0 c3_r_1 c3_r_2 l3_r m3_r c3_t_0 l3_t m3_t HT3 HL3 HFR3
  obtain ⟨fr0, fr1, fr2, fr3⟩ := HFR4.out
  have hi0 : (0 : Int) ≤ (jj : Int) := by omega
  have hi1 : (jj : Int) < (us.length : Int) := by omega
  go_upto_region 9 with fail
  go_region
  all_goals
    go_wp2_with fail
    refine bodyPost_ret (v := RA ((jj : Int), (x, y), 0)) (by simp [results, Try.results12, go_sem, RA, c4_r_0, c4_r_1, c4_r_2]) rfl ⟨rfl, (by have q := BE4.out; repeat (first | exact q | refine Below.setCell ?_ (by first | (simp; done) | omega | (simp; omega)) _ | refine Below.alloc ?_ (by first | (simp; done) | omega | (simp; omega)) _ | refine below_drewN ?_ _ | refine Below.drew ?_))⟩
end Go.Proofs.Ytpdknjbhnelidaa

/- QuantityWay: the walk of the law. -/
import Derived.Test.YtfddfjokpaepfaaQtR
namespace Go.Proofs.Ytfddfjokpaepfaa
open Go.RowKit

set_option maxRecDepth 100000 in
set_option maxHeartbeats 1600000 in
theorem way_big (p : Option Addr) (cap : Nat) (us : List Qn.Un) (a : Qn.Am) (vv tt : Int) (w : World) (ht : Tab w p us) (hs : smallB us 0 = false) :
    Calls Try.prog 6 #[.slice p us.length cap, .agg #[.int .i64 a.1, .int .i64 a.2.1, .int .i64 a.2.2], .int .i64 vv, .int .i64 tt] w fun e w' => e = .returned (.bool true) ∧ Below w.heap.size w w' := by
  have HT0 := Lib.hid ht
  clear ht
  have HS := Lib.hid hs
  clear hs
  go_enter Try.func6, Try.ntmps6
  go_wp2_with fail
  refine (head_any _).mono ?_
  rintro e w1 ⟨rfl, hb1⟩
  have hz1 := hb1.size
  (try simp at hz1)
  have bb1 : Below w.heap.size w w1 := (by repeat (first | exact Below.refl _ _ | assumption | refine below_drewN ?_ _ | refine Below.setCell ?_ (by first | (simp; done) | (simp; omega)) _ | refine Below.alloc ?_ (by first | (simp; done) | (simp; omega) | omega) _ | refine Below.drew ?_ | refine Below.trans ?_ (Below.mono (by assumption) (by first | (simp; done) | (simp; omega) | omega))))
  have be1 : Below w.heap.size w w1 := bb1
  have c1_a_0 : w1.cell? ⟨w.heap.size, 0, none⟩ = some (.int .i64 a.1) := cell_keep hb1 (by go_simp)
  have c1_a_1 : w1.cell? ⟨w.heap.size, 1, none⟩ = some (.int .i64 a.2.1) := cell_keep hb1 (by go_simp)
  have c1_a_2 : w1.cell? ⟨w.heap.size, 2, none⟩ = some (.int .i64 a.2.2) := cell_keep hb1 (by go_simp)
  have l1_a : w.heap.size < w1.heap.size := by omega
  have m1_a : w.heap.size < w1.heap.size + 1 := by omega
  have HT1 := Lib.hid (HT0.out.below bb1)
  have BE1 := Lib.hid be1
  clear be1 bb1 hb1 HT0
  go_wp2_with fail
  refine (small_any p none cap 0 0 us false _ (HT1.out.below (by repeat (first | exact Below.refl _ _ | assumption | refine below_drewN ?_ _ | refine Below.setCell ?_ (by first | (simp; done) | (simp; omega)) _ | refine Below.alloc ?_ (by first | (simp; done) | (simp; omega) | omega) _ | refine Below.drew ?_ | refine Below.trans ?_ (Below.mono (by assumption) (by first | (simp; done) | (simp; omega) | omega))))) HS.out).mono ?_
  rintro e w2 ⟨rfl, hb2⟩
  have hz2 := hb2.size
  (try simp at hz2)
  have bb2 : Below w1.heap.size w1 w2 := (by repeat (first | exact Below.refl _ _ | assumption | refine below_drewN ?_ _ | refine Below.setCell ?_ (by first | (simp; done) | (simp; omega)) _ | refine Below.alloc ?_ (by first | (simp; done) | (simp; omega) | omega) _ | refine Below.drew ?_ | refine Below.trans ?_ (Below.mono (by assumption) (by first | (simp; done) | (simp; omega) | omega))))
  have be2 : Below w.heap.size w w2 := BE1.out.trans (bb2.mono BE1.out.size)
  have c2_a_0 : w2.cell? ⟨w.heap.size, 0, none⟩ = some (.int .i64 a.1) := cell_keep bb2 c1_a_0
  have c2_a_1 : w2.cell? ⟨w.heap.size, 1, none⟩ = some (.int .i64 a.2.1) := cell_keep bb2 c1_a_1
  have c2_a_2 : w2.cell? ⟨w.heap.size, 2, none⟩ = some (.int .i64 a.2.2) := cell_keep bb2 c1_a_2
  have l2_a : w.heap.size < w2.heap.size := by omega
  have m2_a : w.heap.size < w2.heap.size + 1 := by omega
  have HT2 := Lib.hid (HT1.out.below bb2)
  have BE2 := Lib.hid be2
  clear be2 bb2 hb2 BE1 c1_a_0 c1_a_1 c1_a_2 l1_a m1_a HT1
  go_wp2_with fail
  go_ret
  exact ⟨rfl, (by have q := BE2.out; repeat (first | exact q | refine Below.setCell ?_ (by first | (simp; done) | omega | (simp; omega)) _ | refine Below.alloc ?_ (by first | (simp; done) | omega | (simp; omega)) _ | refine below_drewN ?_ _ | refine Below.drew ?_))⟩
set_option maxRecDepth 100000 in
set_option maxHeartbeats 1600000 in
theorem way_e (p : Option Addr) (cap : Nat) (us : List Qn.Un) (a : Qn.Am) (vv tt : Int) (b : Int) (r : Qn.R) (c : Int) (s : Qn.R) (d : Int) (t : Qn.R) (e f g : Int) (w : World) (ht : Tab w p us) (hcap : us.length ≤ cap) (h64 : B64 a.2.1) (hr64 : B64 r.1) (hs : smallB us 0 = true) (hc : Qn.convertS us a vv = (b, r, e)) (hd : Qn.convertS us (b, r) tt = (c, s, f)) (he : Qn.convertS us a tt = (d, t, g)) (h0 : (e != 0) = true) :
    Calls Try.prog 6 #[.slice p us.length cap, .agg #[.int .i64 a.1, .int .i64 a.2.1, .int .i64 a.2.2], .int .i64 vv, .int .i64 tt] w fun e w' => e = .returned (.bool true) ∧ Below w.heap.size w w' := by
  have HT0 := Lib.hid ht
  clear ht
  have HS := Lib.hid hs
  clear hs
  have HC := Lib.hid hc
  clear hc
  have HD := Lib.hid hd
  clear hd
  have HE := Lib.hid he
  clear he
  go_enter Try.func6, Try.ntmps6
  go_wp2_with fail
  refine (head_any _).mono ?_
  rintro e w1 ⟨rfl, hb1⟩
  have hz1 := hb1.size
  (try simp at hz1)
  have bb1 : Below w.heap.size w w1 := (by repeat (first | exact Below.refl _ _ | assumption | refine below_drewN ?_ _ | refine Below.setCell ?_ (by first | (simp; done) | (simp; omega)) _ | refine Below.alloc ?_ (by first | (simp; done) | (simp; omega) | omega) _ | refine Below.drew ?_ | refine Below.trans ?_ (Below.mono (by assumption) (by first | (simp; done) | (simp; omega) | omega))))
  have be1 : Below w.heap.size w w1 := bb1
  have c1_a_0 : w1.cell? ⟨w.heap.size, 0, none⟩ = some (.int .i64 a.1) := cell_keep hb1 (by go_simp)
  have c1_a_1 : w1.cell? ⟨w.heap.size, 1, none⟩ = some (.int .i64 a.2.1) := cell_keep hb1 (by go_simp)
  have c1_a_2 : w1.cell? ⟨w.heap.size, 2, none⟩ = some (.int .i64 a.2.2) := cell_keep hb1 (by go_simp)
  have l1_a : w.heap.size < w1.heap.size := by omega
  have m1_a : w.heap.size < w1.heap.size + 1 := by omega
  have HT1 := Lib.hid (HT0.out.below bb1)
  have BE1 := Lib.hid be1
  clear be1 bb1 hb1 HT0
  go_wp2_with fail
  refine (small_any p none cap 0 0 us true _ (HT1.out.below (by repeat (first | exact Below.refl _ _ | assumption | refine below_drewN ?_ _ | refine Below.setCell ?_ (by first | (simp; done) | (simp; omega)) _ | refine Below.alloc ?_ (by first | (simp; done) | (simp; omega) | omega) _ | refine Below.drew ?_ | refine Below.trans ?_ (Below.mono (by assumption) (by first | (simp; done) | (simp; omega) | omega))))) HS.out).mono ?_
  rintro e w2 ⟨rfl, hb2⟩
  have hz2 := hb2.size
  (try simp at hz2)
  have bb2 : Below w1.heap.size w1 w2 := (by repeat (first | exact Below.refl _ _ | assumption | refine below_drewN ?_ _ | refine Below.setCell ?_ (by first | (simp; done) | (simp; omega)) _ | refine Below.alloc ?_ (by first | (simp; done) | (simp; omega) | omega) _ | refine Below.drew ?_ | refine Below.trans ?_ (Below.mono (by assumption) (by first | (simp; done) | (simp; omega) | omega))))
  have be2 : Below w.heap.size w w2 := BE1.out.trans (bb2.mono BE1.out.size)
  have c2_a_0 : w2.cell? ⟨w.heap.size, 0, none⟩ = some (.int .i64 a.1) := cell_keep bb2 c1_a_0
  have c2_a_1 : w2.cell? ⟨w.heap.size, 1, none⟩ = some (.int .i64 a.2.1) := cell_keep bb2 c1_a_1
  have c2_a_2 : w2.cell? ⟨w.heap.size, 2, none⟩ = some (.int .i64 a.2.2) := cell_keep bb2 c1_a_2
  have l2_a : w.heap.size < w2.heap.size := by omega
  have m2_a : w.heap.size < w2.heap.size + 1 := by omega
  have HT2 := Lib.hid (HT1.out.below bb2)
  have BE2 := Lib.hid be2
  clear be2 bb2 hb2 BE1 c1_a_0 c1_a_1 c1_a_2 l1_a m1_a HT1
  go_wp2_with fail
  refine (conv_any p cap us a vv _ (HT2.out.below (by repeat (first | exact Below.refl _ _ | assumption | refine below_drewN ?_ _ | refine Below.setCell ?_ (by first | (simp; done) | (simp; omega)) _ | refine Below.alloc ?_ (by first | (simp; done) | (simp; omega) | omega) _ | refine Below.drew ?_ | refine Below.trans ?_ (Below.mono (by assumption) (by first | (simp; done) | (simp; omega) | omega))))) hcap h64).mono ?_
  rintro e w3 ⟨rfl, hb3⟩
  rw [HC.out]
  simp only [RA]
  have hz3 := hb3.size
  (try simp at hz3)
  have bb3 : Below w2.heap.size w2 w3 := (by repeat (first | exact Below.refl _ _ | assumption | refine below_drewN ?_ _ | refine Below.setCell ?_ (by first | (simp; done) | (simp; omega)) _ | refine Below.alloc ?_ (by first | (simp; done) | (simp; omega) | omega) _ | refine Below.drew ?_ | refine Below.trans ?_ (Below.mono (by assumption) (by first | (simp; done) | (simp; omega) | omega))))
  have be3 : Below w.heap.size w w3 := BE2.out.trans (bb3.mono BE2.out.size)
  have c3_a_0 : w3.cell? ⟨w.heap.size, 0, none⟩ = some (.int .i64 a.1) := cell_keep bb3 c2_a_0
  have c3_a_1 : w3.cell? ⟨w.heap.size, 1, none⟩ = some (.int .i64 a.2.1) := cell_keep bb3 c2_a_1
  have c3_a_2 : w3.cell? ⟨w.heap.size, 2, none⟩ = some (.int .i64 a.2.2) := cell_keep bb3 c2_a_2
  have l3_a : w.heap.size < w3.heap.size := by omega
  have m3_a : w.heap.size < w3.heap.size + 1 := by omega
  have HT3 := Lib.hid (HT2.out.below bb3)
  have BE3 := Lib.hid be3
  clear be3 bb3 hb3 BE2 c2_a_0 c2_a_1 c2_a_2 l2_a m2_a HT2
  go_wp2_with fail
  refine (conv_any p cap us (b, r) tt _ (HT3.out.below (by repeat (first | exact Below.refl _ _ | assumption | refine below_drewN ?_ _ | refine Below.setCell ?_ (by first | (simp; done) | (simp; omega)) _ | refine Below.alloc ?_ (by first | (simp; done) | (simp; omega) | omega) _ | refine Below.drew ?_ | refine Below.trans ?_ (Below.mono (by assumption) (by first | (simp; done) | (simp; omega) | omega))))) hcap hr64).mono ?_
  rintro e w4 ⟨rfl, hb4⟩
  rw [HD.out]
  simp only [RA]
  have hz4 := hb4.size
  (try simp at hz4)
  have bb4 : Below w3.heap.size w3 w4 := (by repeat (first | exact Below.refl _ _ | assumption | refine below_drewN ?_ _ | refine Below.setCell ?_ (by first | (simp; done) | (simp; omega)) _ | refine Below.alloc ?_ (by first | (simp; done) | (simp; omega) | omega) _ | refine Below.drew ?_ | refine Below.trans ?_ (Below.mono (by assumption) (by first | (simp; done) | (simp; omega) | omega))))
  have be4 : Below w.heap.size w w4 := BE3.out.trans (bb4.mono BE3.out.size)
  have c4_a_0 : w4.cell? ⟨w.heap.size, 0, none⟩ = some (.int .i64 a.1) := cell_keep bb4 c3_a_0
  have c4_a_1 : w4.cell? ⟨w.heap.size, 1, none⟩ = some (.int .i64 a.2.1) := cell_keep bb4 c3_a_1
  have c4_a_2 : w4.cell? ⟨w.heap.size, 2, none⟩ = some (.int .i64 a.2.2) := cell_keep bb4 c3_a_2
  have l4_a : w.heap.size < w4.heap.size := by omega
  have m4_a : w.heap.size < w4.heap.size + 1 := by omega
  have c4_b_0 : w4.cell? ⟨w3.heap.size, 0, none⟩ = some (.int .i64 b) := cell_keep hb4 (by go_simp)
  have c4_b_1 : w4.cell? ⟨w3.heap.size, 1, none⟩ = some (.int .i64 r.1) := cell_keep hb4 (by go_simp)
  have c4_b_2 : w4.cell? ⟨w3.heap.size, 2, none⟩ = some (.int .i64 r.2) := cell_keep hb4 (by go_simp)
  have l4_b : w3.heap.size < w4.heap.size := by omega
  have m4_b : w3.heap.size < w4.heap.size + 1 := by omega
  have HT4 := Lib.hid (HT3.out.below bb4)
  have BE4 := Lib.hid be4
  clear be4 bb4 hb4 BE3 c3_a_0 c3_a_1 c3_a_2 l3_a m3_a HT3
  go_wp2_with fail
  refine (conv_any p cap us a tt _ (HT4.out.below (by repeat (first | exact Below.refl _ _ | assumption | refine below_drewN ?_ _ | refine Below.setCell ?_ (by first | (simp; done) | (simp; omega)) _ | refine Below.alloc ?_ (by first | (simp; done) | (simp; omega) | omega) _ | refine Below.drew ?_ | refine Below.trans ?_ (Below.mono (by assumption) (by first | (simp; done) | (simp; omega) | omega))))) hcap h64).mono ?_
  rintro e w5 ⟨rfl, hb5⟩
  rw [HE.out]
  simp only [RA]
  have hz5 := hb5.size
  (try simp at hz5)
  have bb5 : Below w4.heap.size w4 w5 := (by repeat (first | exact Below.refl _ _ | assumption | refine below_drewN ?_ _ | refine Below.setCell ?_ (by first | (simp; done) | (simp; omega)) _ | refine Below.alloc ?_ (by first | (simp; done) | (simp; omega) | omega) _ | refine Below.drew ?_ | refine Below.trans ?_ (Below.mono (by assumption) (by first | (simp; done) | (simp; omega) | omega))))
  have be5 : Below w.heap.size w w5 := BE4.out.trans (bb5.mono BE4.out.size)
  have c5_a_0 : w5.cell? ⟨w.heap.size, 0, none⟩ = some (.int .i64 a.1) := cell_keep bb5 c4_a_0
  have c5_a_1 : w5.cell? ⟨w.heap.size, 1, none⟩ = some (.int .i64 a.2.1) := cell_keep bb5 c4_a_1
  have c5_a_2 : w5.cell? ⟨w.heap.size, 2, none⟩ = some (.int .i64 a.2.2) := cell_keep bb5 c4_a_2
  have l5_a : w.heap.size < w5.heap.size := by omega
  have m5_a : w.heap.size < w5.heap.size + 1 := by omega
  have c5_b_0 : w5.cell? ⟨w3.heap.size, 0, none⟩ = some (.int .i64 b) := cell_keep bb5 c4_b_0
  have c5_b_1 : w5.cell? ⟨w3.heap.size, 1, none⟩ = some (.int .i64 r.1) := cell_keep bb5 c4_b_1
  have c5_b_2 : w5.cell? ⟨w3.heap.size, 2, none⟩ = some (.int .i64 r.2) := cell_keep bb5 c4_b_2
  have l5_b : w3.heap.size < w5.heap.size := by omega
  have m5_b : w3.heap.size < w5.heap.size + 1 := by omega
  have c5_c_0 : w5.cell? ⟨w4.heap.size, 0, none⟩ = some (.int .i64 c) := cell_keep hb5 (by go_simp)
  have c5_c_1 : w5.cell? ⟨w4.heap.size, 1, none⟩ = some (.int .i64 s.1) := cell_keep hb5 (by go_simp)
  have c5_c_2 : w5.cell? ⟨w4.heap.size, 2, none⟩ = some (.int .i64 s.2) := cell_keep hb5 (by go_simp)
  have l5_c : w4.heap.size < w5.heap.size := by omega
  have m5_c : w4.heap.size < w5.heap.size + 1 := by omega
  have HT5 := Lib.hid (HT4.out.below bb5)
  have BE5 := Lib.hid be5
  clear be5 bb5 hb5 BE4 c4_a_0 c4_a_1 c4_a_2 l4_a m4_a c4_b_0 c4_b_1 c4_b_2 l4_b m4_b HT4
  go_wp2_with fail
  go_ret
  exact ⟨rfl, (by have q := BE5.out; repeat (first | exact q | refine Below.setCell ?_ (by first | (simp; done) | omega | (simp; omega)) _ | refine Below.alloc ?_ (by first | (simp; done) | omega | (simp; omega)) _ | refine below_drewN ?_ _ | refine Below.drew ?_))⟩
set_option maxRecDepth 100000 in
set_option maxHeartbeats 1600000 in
theorem way_f (p : Option Addr) (cap : Nat) (us : List Qn.Un) (a : Qn.Am) (vv tt : Int) (b : Int) (r : Qn.R) (c : Int) (s : Qn.R) (d : Int) (t : Qn.R) (f g : Int) (w : World) (ht : Tab w p us) (hcap : us.length ≤ cap) (h64 : B64 a.2.1) (hr64 : B64 r.1) (hs : smallB us 0 = true) (hc : Qn.convertS us a vv = (b, r, 0)) (hd : Qn.convertS us (b, r) tt = (c, s, f)) (he : Qn.convertS us a tt = (d, t, g)) (h0 : (f != 0) = true) :
    Calls Try.prog 6 #[.slice p us.length cap, .agg #[.int .i64 a.1, .int .i64 a.2.1, .int .i64 a.2.2], .int .i64 vv, .int .i64 tt] w fun e w' => e = .returned (.bool true) ∧ Below w.heap.size w w' := by
  have HT0 := Lib.hid ht
  clear ht
  have HS := Lib.hid hs
  clear hs
  have HC := Lib.hid hc
  clear hc
  have HD := Lib.hid hd
  clear hd
  have HE := Lib.hid he
  clear he
  go_enter Try.func6, Try.ntmps6
  go_wp2_with fail
  refine (head_any _).mono ?_
  rintro e w1 ⟨rfl, hb1⟩
  have hz1 := hb1.size
  (try simp at hz1)
  have bb1 : Below w.heap.size w w1 := (by repeat (first | exact Below.refl _ _ | assumption | refine below_drewN ?_ _ | refine Below.setCell ?_ (by first | (simp; done) | (simp; omega)) _ | refine Below.alloc ?_ (by first | (simp; done) | (simp; omega) | omega) _ | refine Below.drew ?_ | refine Below.trans ?_ (Below.mono (by assumption) (by first | (simp; done) | (simp; omega) | omega))))
  have be1 : Below w.heap.size w w1 := bb1
  have c1_a_0 : w1.cell? ⟨w.heap.size, 0, none⟩ = some (.int .i64 a.1) := cell_keep hb1 (by go_simp)
  have c1_a_1 : w1.cell? ⟨w.heap.size, 1, none⟩ = some (.int .i64 a.2.1) := cell_keep hb1 (by go_simp)
  have c1_a_2 : w1.cell? ⟨w.heap.size, 2, none⟩ = some (.int .i64 a.2.2) := cell_keep hb1 (by go_simp)
  have l1_a : w.heap.size < w1.heap.size := by omega
  have m1_a : w.heap.size < w1.heap.size + 1 := by omega
  have HT1 := Lib.hid (HT0.out.below bb1)
  have BE1 := Lib.hid be1
  clear be1 bb1 hb1 HT0
  go_wp2_with fail
  refine (small_any p none cap 0 0 us true _ (HT1.out.below (by repeat (first | exact Below.refl _ _ | assumption | refine below_drewN ?_ _ | refine Below.setCell ?_ (by first | (simp; done) | (simp; omega)) _ | refine Below.alloc ?_ (by first | (simp; done) | (simp; omega) | omega) _ | refine Below.drew ?_ | refine Below.trans ?_ (Below.mono (by assumption) (by first | (simp; done) | (simp; omega) | omega))))) HS.out).mono ?_
  rintro e w2 ⟨rfl, hb2⟩
  have hz2 := hb2.size
  (try simp at hz2)
  have bb2 : Below w1.heap.size w1 w2 := (by repeat (first | exact Below.refl _ _ | assumption | refine below_drewN ?_ _ | refine Below.setCell ?_ (by first | (simp; done) | (simp; omega)) _ | refine Below.alloc ?_ (by first | (simp; done) | (simp; omega) | omega) _ | refine Below.drew ?_ | refine Below.trans ?_ (Below.mono (by assumption) (by first | (simp; done) | (simp; omega) | omega))))
  have be2 : Below w.heap.size w w2 := BE1.out.trans (bb2.mono BE1.out.size)
  have c2_a_0 : w2.cell? ⟨w.heap.size, 0, none⟩ = some (.int .i64 a.1) := cell_keep bb2 c1_a_0
  have c2_a_1 : w2.cell? ⟨w.heap.size, 1, none⟩ = some (.int .i64 a.2.1) := cell_keep bb2 c1_a_1
  have c2_a_2 : w2.cell? ⟨w.heap.size, 2, none⟩ = some (.int .i64 a.2.2) := cell_keep bb2 c1_a_2
  have l2_a : w.heap.size < w2.heap.size := by omega
  have m2_a : w.heap.size < w2.heap.size + 1 := by omega
  have HT2 := Lib.hid (HT1.out.below bb2)
  have BE2 := Lib.hid be2
  clear be2 bb2 hb2 BE1 c1_a_0 c1_a_1 c1_a_2 l1_a m1_a HT1
  go_wp2_with fail
  refine (conv_any p cap us a vv _ (HT2.out.below (by repeat (first | exact Below.refl _ _ | assumption | refine below_drewN ?_ _ | refine Below.setCell ?_ (by first | (simp; done) | (simp; omega)) _ | refine Below.alloc ?_ (by first | (simp; done) | (simp; omega) | omega) _ | refine Below.drew ?_ | refine Below.trans ?_ (Below.mono (by assumption) (by first | (simp; done) | (simp; omega) | omega))))) hcap h64).mono ?_
  rintro e w3 ⟨rfl, hb3⟩
  rw [HC.out]
  simp only [RA]
  have hz3 := hb3.size
  (try simp at hz3)
  have bb3 : Below w2.heap.size w2 w3 := (by repeat (first | exact Below.refl _ _ | assumption | refine below_drewN ?_ _ | refine Below.setCell ?_ (by first | (simp; done) | (simp; omega)) _ | refine Below.alloc ?_ (by first | (simp; done) | (simp; omega) | omega) _ | refine Below.drew ?_ | refine Below.trans ?_ (Below.mono (by assumption) (by first | (simp; done) | (simp; omega) | omega))))
  have be3 : Below w.heap.size w w3 := BE2.out.trans (bb3.mono BE2.out.size)
  have c3_a_0 : w3.cell? ⟨w.heap.size, 0, none⟩ = some (.int .i64 a.1) := cell_keep bb3 c2_a_0
  have c3_a_1 : w3.cell? ⟨w.heap.size, 1, none⟩ = some (.int .i64 a.2.1) := cell_keep bb3 c2_a_1
  have c3_a_2 : w3.cell? ⟨w.heap.size, 2, none⟩ = some (.int .i64 a.2.2) := cell_keep bb3 c2_a_2
  have l3_a : w.heap.size < w3.heap.size := by omega
  have m3_a : w.heap.size < w3.heap.size + 1 := by omega
  have HT3 := Lib.hid (HT2.out.below bb3)
  have BE3 := Lib.hid be3
  clear be3 bb3 hb3 BE2 c2_a_0 c2_a_1 c2_a_2 l2_a m2_a HT2
  go_wp2_with fail
  refine (conv_any p cap us (b, r) tt _ (HT3.out.below (by repeat (first | exact Below.refl _ _ | assumption | refine below_drewN ?_ _ | refine Below.setCell ?_ (by first | (simp; done) | (simp; omega)) _ | refine Below.alloc ?_ (by first | (simp; done) | (simp; omega) | omega) _ | refine Below.drew ?_ | refine Below.trans ?_ (Below.mono (by assumption) (by first | (simp; done) | (simp; omega) | omega))))) hcap hr64).mono ?_
  rintro e w4 ⟨rfl, hb4⟩
  rw [HD.out]
  simp only [RA]
  have hz4 := hb4.size
  (try simp at hz4)
  have bb4 : Below w3.heap.size w3 w4 := (by repeat (first | exact Below.refl _ _ | assumption | refine below_drewN ?_ _ | refine Below.setCell ?_ (by first | (simp; done) | (simp; omega)) _ | refine Below.alloc ?_ (by first | (simp; done) | (simp; omega) | omega) _ | refine Below.drew ?_ | refine Below.trans ?_ (Below.mono (by assumption) (by first | (simp; done) | (simp; omega) | omega))))
  have be4 : Below w.heap.size w w4 := BE3.out.trans (bb4.mono BE3.out.size)
  have c4_a_0 : w4.cell? ⟨w.heap.size, 0, none⟩ = some (.int .i64 a.1) := cell_keep bb4 c3_a_0
  have c4_a_1 : w4.cell? ⟨w.heap.size, 1, none⟩ = some (.int .i64 a.2.1) := cell_keep bb4 c3_a_1
  have c4_a_2 : w4.cell? ⟨w.heap.size, 2, none⟩ = some (.int .i64 a.2.2) := cell_keep bb4 c3_a_2
  have l4_a : w.heap.size < w4.heap.size := by omega
  have m4_a : w.heap.size < w4.heap.size + 1 := by omega
  have c4_b_0 : w4.cell? ⟨w3.heap.size, 0, none⟩ = some (.int .i64 b) := cell_keep hb4 (by go_simp)
  have c4_b_1 : w4.cell? ⟨w3.heap.size, 1, none⟩ = some (.int .i64 r.1) := cell_keep hb4 (by go_simp)
  have c4_b_2 : w4.cell? ⟨w3.heap.size, 2, none⟩ = some (.int .i64 r.2) := cell_keep hb4 (by go_simp)
  have l4_b : w3.heap.size < w4.heap.size := by omega
  have m4_b : w3.heap.size < w4.heap.size + 1 := by omega
  have HT4 := Lib.hid (HT3.out.below bb4)
  have BE4 := Lib.hid be4
  clear be4 bb4 hb4 BE3 c3_a_0 c3_a_1 c3_a_2 l3_a m3_a HT3
  go_wp2_with fail
  refine (conv_any p cap us a tt _ (HT4.out.below (by repeat (first | exact Below.refl _ _ | assumption | refine below_drewN ?_ _ | refine Below.setCell ?_ (by first | (simp; done) | (simp; omega)) _ | refine Below.alloc ?_ (by first | (simp; done) | (simp; omega) | omega) _ | refine Below.drew ?_ | refine Below.trans ?_ (Below.mono (by assumption) (by first | (simp; done) | (simp; omega) | omega))))) hcap h64).mono ?_
  rintro e w5 ⟨rfl, hb5⟩
  rw [HE.out]
  simp only [RA]
  have hz5 := hb5.size
  (try simp at hz5)
  have bb5 : Below w4.heap.size w4 w5 := (by repeat (first | exact Below.refl _ _ | assumption | refine below_drewN ?_ _ | refine Below.setCell ?_ (by first | (simp; done) | (simp; omega)) _ | refine Below.alloc ?_ (by first | (simp; done) | (simp; omega) | omega) _ | refine Below.drew ?_ | refine Below.trans ?_ (Below.mono (by assumption) (by first | (simp; done) | (simp; omega) | omega))))
  have be5 : Below w.heap.size w w5 := BE4.out.trans (bb5.mono BE4.out.size)
  have c5_a_0 : w5.cell? ⟨w.heap.size, 0, none⟩ = some (.int .i64 a.1) := cell_keep bb5 c4_a_0
  have c5_a_1 : w5.cell? ⟨w.heap.size, 1, none⟩ = some (.int .i64 a.2.1) := cell_keep bb5 c4_a_1
  have c5_a_2 : w5.cell? ⟨w.heap.size, 2, none⟩ = some (.int .i64 a.2.2) := cell_keep bb5 c4_a_2
  have l5_a : w.heap.size < w5.heap.size := by omega
  have m5_a : w.heap.size < w5.heap.size + 1 := by omega
  have c5_b_0 : w5.cell? ⟨w3.heap.size, 0, none⟩ = some (.int .i64 b) := cell_keep bb5 c4_b_0
  have c5_b_1 : w5.cell? ⟨w3.heap.size, 1, none⟩ = some (.int .i64 r.1) := cell_keep bb5 c4_b_1
  have c5_b_2 : w5.cell? ⟨w3.heap.size, 2, none⟩ = some (.int .i64 r.2) := cell_keep bb5 c4_b_2
  have l5_b : w3.heap.size < w5.heap.size := by omega
  have m5_b : w3.heap.size < w5.heap.size + 1 := by omega
  have c5_c_0 : w5.cell? ⟨w4.heap.size, 0, none⟩ = some (.int .i64 c) := cell_keep hb5 (by go_simp)
  have c5_c_1 : w5.cell? ⟨w4.heap.size, 1, none⟩ = some (.int .i64 s.1) := cell_keep hb5 (by go_simp)
  have c5_c_2 : w5.cell? ⟨w4.heap.size, 2, none⟩ = some (.int .i64 s.2) := cell_keep hb5 (by go_simp)
  have l5_c : w4.heap.size < w5.heap.size := by omega
  have m5_c : w4.heap.size < w5.heap.size + 1 := by omega
  have HT5 := Lib.hid (HT4.out.below bb5)
  have BE5 := Lib.hid be5
  clear be5 bb5 hb5 BE4 c4_a_0 c4_a_1 c4_a_2 l4_a m4_a c4_b_0 c4_b_1 c4_b_2 l4_b m4_b HT4
  go_wp2_with fail
  go_ret
  exact ⟨rfl, (by have q := BE5.out; repeat (first | exact q | refine Below.setCell ?_ (by first | (simp; done) | omega | (simp; omega)) _ | refine Below.alloc ?_ (by first | (simp; done) | omega | (simp; omega)) _ | refine below_drewN ?_ _ | refine Below.drew ?_))⟩
set_option maxRecDepth 100000 in
set_option maxHeartbeats 1600000 in
theorem way_ok (p : Option Addr) (cap : Nat) (us : List Qn.Un) (a : Qn.Am) (vv tt : Int) (b : Int) (r : Qn.R) (c : Int) (s : Qn.R) (w : World) (ht : Tab w p us) (hcap : us.length ≤ cap) (h64 : B64 a.2.1) (hr64 : B64 r.1) (hs : smallB us 0 = true) (hc : Qn.convertS us a vv = (b, r, 0)) (hd : Qn.convertS us (b, r) tt = (c, s, 0)) (he : Qn.convertS us a tt = (c, s, 0)) :
    Calls Try.prog 6 #[.slice p us.length cap, .agg #[.int .i64 a.1, .int .i64 a.2.1, .int .i64 a.2.2], .int .i64 vv, .int .i64 tt] w fun e w' => e = .returned (.bool true) ∧ Below w.heap.size w w' := by
  have HT0 := Lib.hid ht
  clear ht
  have HS := Lib.hid hs
  clear hs
  have HC := Lib.hid hc
  clear hc
  have HD := Lib.hid hd
  clear hd
  have HE := Lib.hid he
  clear he
  go_enter Try.func6, Try.ntmps6
  go_wp2_with fail
  refine (head_any _).mono ?_
  rintro e w1 ⟨rfl, hb1⟩
  have hz1 := hb1.size
  (try simp at hz1)
  have bb1 : Below w.heap.size w w1 := (by repeat (first | exact Below.refl _ _ | assumption | refine below_drewN ?_ _ | refine Below.setCell ?_ (by first | (simp; done) | (simp; omega)) _ | refine Below.alloc ?_ (by first | (simp; done) | (simp; omega) | omega) _ | refine Below.drew ?_ | refine Below.trans ?_ (Below.mono (by assumption) (by first | (simp; done) | (simp; omega) | omega))))
  have be1 : Below w.heap.size w w1 := bb1
  have c1_a_0 : w1.cell? ⟨w.heap.size, 0, none⟩ = some (.int .i64 a.1) := cell_keep hb1 (by go_simp)
  have c1_a_1 : w1.cell? ⟨w.heap.size, 1, none⟩ = some (.int .i64 a.2.1) := cell_keep hb1 (by go_simp)
  have c1_a_2 : w1.cell? ⟨w.heap.size, 2, none⟩ = some (.int .i64 a.2.2) := cell_keep hb1 (by go_simp)
  have l1_a : w.heap.size < w1.heap.size := by omega
  have m1_a : w.heap.size < w1.heap.size + 1 := by omega
  have HT1 := Lib.hid (HT0.out.below bb1)
  have BE1 := Lib.hid be1
  clear be1 bb1 hb1 HT0
  go_wp2_with fail
  refine (small_any p none cap 0 0 us true _ (HT1.out.below (by repeat (first | exact Below.refl _ _ | assumption | refine below_drewN ?_ _ | refine Below.setCell ?_ (by first | (simp; done) | (simp; omega)) _ | refine Below.alloc ?_ (by first | (simp; done) | (simp; omega) | omega) _ | refine Below.drew ?_ | refine Below.trans ?_ (Below.mono (by assumption) (by first | (simp; done) | (simp; omega) | omega))))) HS.out).mono ?_
  rintro e w2 ⟨rfl, hb2⟩
  have hz2 := hb2.size
  (try simp at hz2)
  have bb2 : Below w1.heap.size w1 w2 := (by repeat (first | exact Below.refl _ _ | assumption | refine below_drewN ?_ _ | refine Below.setCell ?_ (by first | (simp; done) | (simp; omega)) _ | refine Below.alloc ?_ (by first | (simp; done) | (simp; omega) | omega) _ | refine Below.drew ?_ | refine Below.trans ?_ (Below.mono (by assumption) (by first | (simp; done) | (simp; omega) | omega))))
  have be2 : Below w.heap.size w w2 := BE1.out.trans (bb2.mono BE1.out.size)
  have c2_a_0 : w2.cell? ⟨w.heap.size, 0, none⟩ = some (.int .i64 a.1) := cell_keep bb2 c1_a_0
  have c2_a_1 : w2.cell? ⟨w.heap.size, 1, none⟩ = some (.int .i64 a.2.1) := cell_keep bb2 c1_a_1
  have c2_a_2 : w2.cell? ⟨w.heap.size, 2, none⟩ = some (.int .i64 a.2.2) := cell_keep bb2 c1_a_2
  have l2_a : w.heap.size < w2.heap.size := by omega
  have m2_a : w.heap.size < w2.heap.size + 1 := by omega
  have HT2 := Lib.hid (HT1.out.below bb2)
  have BE2 := Lib.hid be2
  clear be2 bb2 hb2 BE1 c1_a_0 c1_a_1 c1_a_2 l1_a m1_a HT1
  go_wp2_with fail
  refine (conv_any p cap us a vv _ (HT2.out.below (by repeat (first | exact Below.refl _ _ | assumption | refine below_drewN ?_ _ | refine Below.setCell ?_ (by first | (simp; done) | (simp; omega)) _ | refine Below.alloc ?_ (by first | (simp; done) | (simp; omega) | omega) _ | refine Below.drew ?_ | refine Below.trans ?_ (Below.mono (by assumption) (by first | (simp; done) | (simp; omega) | omega))))) hcap h64).mono ?_
  rintro e w3 ⟨rfl, hb3⟩
  rw [HC.out]
  simp only [RA]
  have hz3 := hb3.size
  (try simp at hz3)
  have bb3 : Below w2.heap.size w2 w3 := (by repeat (first | exact Below.refl _ _ | assumption | refine below_drewN ?_ _ | refine Below.setCell ?_ (by first | (simp; done) | (simp; omega)) _ | refine Below.alloc ?_ (by first | (simp; done) | (simp; omega) | omega) _ | refine Below.drew ?_ | refine Below.trans ?_ (Below.mono (by assumption) (by first | (simp; done) | (simp; omega) | omega))))
  have be3 : Below w.heap.size w w3 := BE2.out.trans (bb3.mono BE2.out.size)
  have c3_a_0 : w3.cell? ⟨w.heap.size, 0, none⟩ = some (.int .i64 a.1) := cell_keep bb3 c2_a_0
  have c3_a_1 : w3.cell? ⟨w.heap.size, 1, none⟩ = some (.int .i64 a.2.1) := cell_keep bb3 c2_a_1
  have c3_a_2 : w3.cell? ⟨w.heap.size, 2, none⟩ = some (.int .i64 a.2.2) := cell_keep bb3 c2_a_2
  have l3_a : w.heap.size < w3.heap.size := by omega
  have m3_a : w.heap.size < w3.heap.size + 1 := by omega
  have HT3 := Lib.hid (HT2.out.below bb3)
  have BE3 := Lib.hid be3
  clear be3 bb3 hb3 BE2 c2_a_0 c2_a_1 c2_a_2 l2_a m2_a HT2
  go_wp2_with fail
  refine (conv_any p cap us (b, r) tt _ (HT3.out.below (by repeat (first | exact Below.refl _ _ | assumption | refine below_drewN ?_ _ | refine Below.setCell ?_ (by first | (simp; done) | (simp; omega)) _ | refine Below.alloc ?_ (by first | (simp; done) | (simp; omega) | omega) _ | refine Below.drew ?_ | refine Below.trans ?_ (Below.mono (by assumption) (by first | (simp; done) | (simp; omega) | omega))))) hcap hr64).mono ?_
  rintro e w4 ⟨rfl, hb4⟩
  rw [HD.out]
  simp only [RA]
  have hz4 := hb4.size
  (try simp at hz4)
  have bb4 : Below w3.heap.size w3 w4 := (by repeat (first | exact Below.refl _ _ | assumption | refine below_drewN ?_ _ | refine Below.setCell ?_ (by first | (simp; done) | (simp; omega)) _ | refine Below.alloc ?_ (by first | (simp; done) | (simp; omega) | omega) _ | refine Below.drew ?_ | refine Below.trans ?_ (Below.mono (by assumption) (by first | (simp; done) | (simp; omega) | omega))))
  have be4 : Below w.heap.size w w4 := BE3.out.trans (bb4.mono BE3.out.size)
  have c4_a_0 : w4.cell? ⟨w.heap.size, 0, none⟩ = some (.int .i64 a.1) := cell_keep bb4 c3_a_0
  have c4_a_1 : w4.cell? ⟨w.heap.size, 1, none⟩ = some (.int .i64 a.2.1) := cell_keep bb4 c3_a_1
  have c4_a_2 : w4.cell? ⟨w.heap.size, 2, none⟩ = some (.int .i64 a.2.2) := cell_keep bb4 c3_a_2
  have l4_a : w.heap.size < w4.heap.size := by omega
  have m4_a : w.heap.size < w4.heap.size + 1 := by omega
  have c4_b_0 : w4.cell? ⟨w3.heap.size, 0, none⟩ = some (.int .i64 b) := cell_keep hb4 (by go_simp)
  have c4_b_1 : w4.cell? ⟨w3.heap.size, 1, none⟩ = some (.int .i64 r.1) := cell_keep hb4 (by go_simp)
  have c4_b_2 : w4.cell? ⟨w3.heap.size, 2, none⟩ = some (.int .i64 r.2) := cell_keep hb4 (by go_simp)
  have l4_b : w3.heap.size < w4.heap.size := by omega
  have m4_b : w3.heap.size < w4.heap.size + 1 := by omega
  have HT4 := Lib.hid (HT3.out.below bb4)
  have BE4 := Lib.hid be4
  clear be4 bb4 hb4 BE3 c3_a_0 c3_a_1 c3_a_2 l3_a m3_a HT3
  go_wp2_with fail
  refine (conv_any p cap us a tt _ (HT4.out.below (by repeat (first | exact Below.refl _ _ | assumption | refine below_drewN ?_ _ | refine Below.setCell ?_ (by first | (simp; done) | (simp; omega)) _ | refine Below.alloc ?_ (by first | (simp; done) | (simp; omega) | omega) _ | refine Below.drew ?_ | refine Below.trans ?_ (Below.mono (by assumption) (by first | (simp; done) | (simp; omega) | omega))))) hcap h64).mono ?_
  rintro e w5 ⟨rfl, hb5⟩
  rw [HE.out]
  simp only [RA]
  have hz5 := hb5.size
  (try simp at hz5)
  have bb5 : Below w4.heap.size w4 w5 := (by repeat (first | exact Below.refl _ _ | assumption | refine below_drewN ?_ _ | refine Below.setCell ?_ (by first | (simp; done) | (simp; omega)) _ | refine Below.alloc ?_ (by first | (simp; done) | (simp; omega) | omega) _ | refine Below.drew ?_ | refine Below.trans ?_ (Below.mono (by assumption) (by first | (simp; done) | (simp; omega) | omega))))
  have be5 : Below w.heap.size w w5 := BE4.out.trans (bb5.mono BE4.out.size)
  have c5_a_0 : w5.cell? ⟨w.heap.size, 0, none⟩ = some (.int .i64 a.1) := cell_keep bb5 c4_a_0
  have c5_a_1 : w5.cell? ⟨w.heap.size, 1, none⟩ = some (.int .i64 a.2.1) := cell_keep bb5 c4_a_1
  have c5_a_2 : w5.cell? ⟨w.heap.size, 2, none⟩ = some (.int .i64 a.2.2) := cell_keep bb5 c4_a_2
  have l5_a : w.heap.size < w5.heap.size := by omega
  have m5_a : w.heap.size < w5.heap.size + 1 := by omega
  have c5_b_0 : w5.cell? ⟨w3.heap.size, 0, none⟩ = some (.int .i64 b) := cell_keep bb5 c4_b_0
  have c5_b_1 : w5.cell? ⟨w3.heap.size, 1, none⟩ = some (.int .i64 r.1) := cell_keep bb5 c4_b_1
  have c5_b_2 : w5.cell? ⟨w3.heap.size, 2, none⟩ = some (.int .i64 r.2) := cell_keep bb5 c4_b_2
  have l5_b : w3.heap.size < w5.heap.size := by omega
  have m5_b : w3.heap.size < w5.heap.size + 1 := by omega
  have c5_c_0 : w5.cell? ⟨w4.heap.size, 0, none⟩ = some (.int .i64 c) := cell_keep hb5 (by go_simp)
  have c5_c_1 : w5.cell? ⟨w4.heap.size, 1, none⟩ = some (.int .i64 s.1) := cell_keep hb5 (by go_simp)
  have c5_c_2 : w5.cell? ⟨w4.heap.size, 2, none⟩ = some (.int .i64 s.2) := cell_keep hb5 (by go_simp)
  have l5_c : w4.heap.size < w5.heap.size := by omega
  have m5_c : w4.heap.size < w5.heap.size + 1 := by omega
  have HT5 := Lib.hid (HT4.out.below bb5)
  have BE5 := Lib.hid be5
  clear be5 bb5 hb5 BE4 c4_a_0 c4_a_1 c4_a_2 l4_a m4_a c4_b_0 c4_b_1 c4_b_2 l4_b m4_b HT4
  go_wp2_with fail
  go_ret
  exact ⟨rfl, (by have q := BE5.out; repeat (first | exact q | refine Below.setCell ?_ (by first | (simp; done) | omega | (simp; omega)) _ | refine Below.alloc ?_ (by first | (simp; done) | omega | (simp; omega)) _ | refine below_drewN ?_ _ | refine Below.drew ?_))⟩
theorem conv_64 {us : List Qn.Un} {a : Qn.Am} {tt b e : Int} {r : Qn.R} (h : Qn.convertS us a tt = (b, r, e)) : B64 r.1 := by
  by_cases he : e = 0
  · subst he
    exact ok64 (Qn.convert_val h)
  · obtain ⟨_, rfl⟩ := Qn.convert_zero h he
    exact ⟨by decide, by decide⟩
theorem way_law (p : Option Addr) (cap : Nat) (us : List Qn.Un) (a : Qn.Am) (vv tt : Int) (w : World) (ht : Tab w p us) (hcap : us.length ≤ cap) (h64 : B64 a.2.1) :
    Calls Try.prog 6 #[.slice p us.length cap, .agg #[.int .i64 a.1, .int .i64 a.2.1, .int .i64 a.2.2], .int .i64 vv, .int .i64 tt] w fun e w' => e = .returned (.bool true) ∧ Below w.heap.size w w' := by
  cases hs : smallB us 0
  · exact way_big p cap us a vv tt w ht hs
  obtain ⟨b, r, e, hc⟩ : ∃ b r e, Qn.convertS us a vv = (b, r, e) := ⟨_, _, _, rfl⟩
  obtain ⟨c, s, f, hd⟩ : ∃ c s f, Qn.convertS us (b, r) tt = (c, s, f) := ⟨_, _, _, rfl⟩
  obtain ⟨d, t, g, he⟩ : ∃ d t g, Qn.convertS us a tt = (d, t, g) := ⟨_, _, _, rfl⟩
  by_cases h1 : e = 0
  · subst h1
    by_cases h2 : f = 0
    · subst h2
      exact way_ok p cap us a vv tt b r c s w ht hcap h64 (conv_64 hc) hs hc hd (Qn.convert_way hc hd)
    · exact way_f p cap us a vv tt b r c s d t f g w ht hcap h64 (conv_64 hc) hs hc hd he (bne_iff_ne.2 h2)
  · exact way_e p cap us a vv tt b r c s d t e f g w ht hcap h64 (conv_64 hc) hs hc hd he (bne_iff_ne.2 h1)
end Go.Proofs.Ytfddfjokpaepfaa

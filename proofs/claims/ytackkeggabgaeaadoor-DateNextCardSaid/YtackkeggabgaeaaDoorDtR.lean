/- DateCount: the walk of the law. -/
import Derived.Test.YtackkeggabgaeaaDoorDtQ
namespace Go.Proofs.YtackkeggabgaeaaDoor
open Go.RowKit

set_option maxRecDepth 100000 in
set_option maxHeartbeats 3200000 in
theorem cnt_a (b0 b1 b2 b3 b4 b5 b6 : Bool) (p : Option Addr) (n cap : Nat) (hs : List Int) (FC FA : Int → Int → Int × Int) (FN : Int → Int × Int) (FB : Int → Bool) (day o q mid en : Int) (w : World) (hE : Env w) (hh : Hols w p hs) (hS : CalS b0 b1 b2 b3 b4 b5 b6 p n cap hs FC FA FN FB) (hm : wrap64 (day + o % 500) = mid) (hn : wrap64 (mid + q % 500) = en) (hg : FC day en = (0, 1)) (o0 : 0 ≤ o) (o1 : o ≤ 65535) (q0 : 0 ≤ q) (q1 : q ≤ 65535) (hf : n ≤ 500) :
    Calls Tryd.prog 8 #[.agg #[.bool b0, .bool b1, .bool b2, .bool b3, .bool b4, .bool b5, .bool b6, .slice p n cap], .int .i64 day, .int .u16 o, .int .u16 q] w fun e w' => e = .returned (.bool true) ∧ Below w.heap.size w w' := by
  have HE := Lib.hid hE
  have HH := Lib.hid hh
  have HS := Lib.hid hS
  have HM := Lib.hid hm
  have HN := Lib.hid hn
  have HG := Lib.hid hg
  clear hE hh hS hm hn hg
  go_enter Tryd.func8, Tryd.ntmps8
  go_wp2_with fail
  refine (head_any _ (HE.out.below (by repeat (first | exact Below.refl _ _ | assumption | refine below_drewN ?_ _ | refine Below.setCell ?_ (by first | (simp; done) | (simp; omega)) _ | refine Below.alloc ?_ (by first | (simp; done) | (simp; omega) | omega) _ | refine Below.drew ?_ | refine Below.trans ?_ (Below.mono (by assumption) (by first | (simp; done) | (simp; omega) | omega)))))).mono ?_
  rintro e w1 ⟨rfl, hb1⟩
  have hz1 := hb1.size
  (try simp at hz1)
  have be1 : Below w.heap.size w w1 := (by repeat (first | exact Below.refl _ _ | assumption | refine below_drewN ?_ _ | refine Below.setCell ?_ (by first | (simp; done) | (simp; omega)) _ | refine Below.alloc ?_ (by first | (simp; done) | (simp; omega) | omega) _ | refine Below.drew ?_ | refine Below.trans ?_ (Below.mono (by assumption) (by first | (simp; done) | (simp; omega) | omega))))
  have c1_k_0 : w1.cell? ⟨w.heap.size, 0, none⟩ = some (.bool b0) := cell_keep hb1 (by go_simp)
  have c1_k_1 : w1.cell? ⟨w.heap.size, 1, none⟩ = some (.bool b1) := cell_keep hb1 (by go_simp)
  have c1_k_2 : w1.cell? ⟨w.heap.size, 2, none⟩ = some (.bool b2) := cell_keep hb1 (by go_simp)
  have c1_k_3 : w1.cell? ⟨w.heap.size, 3, none⟩ = some (.bool b3) := cell_keep hb1 (by go_simp)
  have c1_k_4 : w1.cell? ⟨w.heap.size, 4, none⟩ = some (.bool b4) := cell_keep hb1 (by go_simp)
  have c1_k_5 : w1.cell? ⟨w.heap.size, 5, none⟩ = some (.bool b5) := cell_keep hb1 (by go_simp)
  have c1_k_6 : w1.cell? ⟨w.heap.size, 6, none⟩ = some (.bool b6) := cell_keep hb1 (by go_simp)
  have c1_k_7 : w1.cell? ⟨w.heap.size, 7, none⟩ = some (.slice p n cap) := cell_keep hb1 (by go_simp)
  have l1_k : w.heap.size < w1.heap.size := by omega
  clear hb1
  go_wp2_with fail
  simp only [HM.out, HN.out]
  go_wp2_with fail
  refine ((HS.out _ (HH.out.below (by repeat (first | exact Below.refl _ _ | assumption | refine below_drewN ?_ _ | refine Below.setCell ?_ (by first | (simp; done) | (simp; omega)) _ | refine Below.alloc ?_ (by first | (simp; done) | (simp; omega) | omega) _ | refine Below.drew ?_ | refine Below.trans ?_ (Below.mono (by assumption) (by first | (simp; done) | (simp; omega) | omega)))))).1 _ _).mono ?_
  rintro e w2 ⟨rfl, hb2⟩
  have hz2 := hb2.size
  (try simp at hz2)
  have bb2 : Below w1.heap.size w1 w2 := (by repeat (first | exact Below.refl _ _ | assumption | refine below_drewN ?_ _ | refine Below.setCell ?_ (by first | (simp; done) | (simp; omega)) _ | refine Below.alloc ?_ (by first | (simp; done) | (simp; omega) | omega) _ | refine Below.drew ?_ | refine Below.trans ?_ (Below.mono (by assumption) (by first | (simp; done) | (simp; omega) | omega))))
  have be2 : Below w.heap.size w w2 := be1.trans (bb2.mono (by omega))
  have c2_k_0 : w2.cell? ⟨w.heap.size, 0, none⟩ = some (.bool b0) := cell_keep bb2 c1_k_0
  have c2_k_1 : w2.cell? ⟨w.heap.size, 1, none⟩ = some (.bool b1) := cell_keep bb2 c1_k_1
  have c2_k_2 : w2.cell? ⟨w.heap.size, 2, none⟩ = some (.bool b2) := cell_keep bb2 c1_k_2
  have c2_k_3 : w2.cell? ⟨w.heap.size, 3, none⟩ = some (.bool b3) := cell_keep bb2 c1_k_3
  have c2_k_4 : w2.cell? ⟨w.heap.size, 4, none⟩ = some (.bool b4) := cell_keep bb2 c1_k_4
  have c2_k_5 : w2.cell? ⟨w.heap.size, 5, none⟩ = some (.bool b5) := cell_keep bb2 c1_k_5
  have c2_k_6 : w2.cell? ⟨w.heap.size, 6, none⟩ = some (.bool b6) := cell_keep bb2 c1_k_6
  have c2_k_7 : w2.cell? ⟨w.heap.size, 7, none⟩ = some (.slice p n cap) := cell_keep bb2 c1_k_7
  have l2_k : w.heap.size < w2.heap.size := by omega
  clear hb2 be1 bb2 c1_k_0 c1_k_1 c1_k_2 c1_k_3 c1_k_4 c1_k_5 c1_k_6 c1_k_7 l1_k
  simp only [IV]
  go_wp2_with fail
  refine ((HS.out _ (HH.out.below (by repeat (first | exact Below.refl _ _ | assumption | refine below_drewN ?_ _ | refine Below.setCell ?_ (by first | (simp; done) | (simp; omega)) _ | refine Below.alloc ?_ (by first | (simp; done) | (simp; omega) | omega) _ | refine Below.drew ?_ | refine Below.trans ?_ (Below.mono (by assumption) (by first | (simp; done) | (simp; omega) | omega)))))).1 _ _).mono ?_
  rintro e w3 ⟨rfl, hb3⟩
  have hz3 := hb3.size
  (try simp at hz3)
  have bb3 : Below w2.heap.size w2 w3 := (by repeat (first | exact Below.refl _ _ | assumption | refine below_drewN ?_ _ | refine Below.setCell ?_ (by first | (simp; done) | (simp; omega)) _ | refine Below.alloc ?_ (by first | (simp; done) | (simp; omega) | omega) _ | refine Below.drew ?_ | refine Below.trans ?_ (Below.mono (by assumption) (by first | (simp; done) | (simp; omega) | omega))))
  have be3 : Below w.heap.size w w3 := be2.trans (bb3.mono (by omega))
  have c3_k_0 : w3.cell? ⟨w.heap.size, 0, none⟩ = some (.bool b0) := cell_keep bb3 c2_k_0
  have c3_k_1 : w3.cell? ⟨w.heap.size, 1, none⟩ = some (.bool b1) := cell_keep bb3 c2_k_1
  have c3_k_2 : w3.cell? ⟨w.heap.size, 2, none⟩ = some (.bool b2) := cell_keep bb3 c2_k_2
  have c3_k_3 : w3.cell? ⟨w.heap.size, 3, none⟩ = some (.bool b3) := cell_keep bb3 c2_k_3
  have c3_k_4 : w3.cell? ⟨w.heap.size, 4, none⟩ = some (.bool b4) := cell_keep bb3 c2_k_4
  have c3_k_5 : w3.cell? ⟨w.heap.size, 5, none⟩ = some (.bool b5) := cell_keep bb3 c2_k_5
  have c3_k_6 : w3.cell? ⟨w.heap.size, 6, none⟩ = some (.bool b6) := cell_keep bb3 c2_k_6
  have c3_k_7 : w3.cell? ⟨w.heap.size, 7, none⟩ = some (.slice p n cap) := cell_keep bb3 c2_k_7
  have l3_k : w.heap.size < w3.heap.size := by omega
  clear hb3 be2 bb3 c2_k_0 c2_k_1 c2_k_2 c2_k_3 c2_k_4 c2_k_5 c2_k_6 c2_k_7 l2_k
  simp only [IV]
  go_wp2_with fail
  refine ((HS.out _ (HH.out.below (by repeat (first | exact Below.refl _ _ | assumption | refine below_drewN ?_ _ | refine Below.setCell ?_ (by first | (simp; done) | (simp; omega)) _ | refine Below.alloc ?_ (by first | (simp; done) | (simp; omega) | omega) _ | refine Below.drew ?_ | refine Below.trans ?_ (Below.mono (by assumption) (by first | (simp; done) | (simp; omega) | omega)))))).1 _ _).mono ?_
  rintro e w4 ⟨rfl, hb4⟩
  rw [HG.out]
  have hz4 := hb4.size
  (try simp at hz4)
  have bb4 : Below w3.heap.size w3 w4 := (by repeat (first | exact Below.refl _ _ | assumption | refine below_drewN ?_ _ | refine Below.setCell ?_ (by first | (simp; done) | (simp; omega)) _ | refine Below.alloc ?_ (by first | (simp; done) | (simp; omega) | omega) _ | refine Below.drew ?_ | refine Below.trans ?_ (Below.mono (by assumption) (by first | (simp; done) | (simp; omega) | omega))))
  have be4 : Below w.heap.size w w4 := be3.trans (bb4.mono (by omega))
  have c4_k_0 : w4.cell? ⟨w.heap.size, 0, none⟩ = some (.bool b0) := cell_keep bb4 c3_k_0
  have c4_k_1 : w4.cell? ⟨w.heap.size, 1, none⟩ = some (.bool b1) := cell_keep bb4 c3_k_1
  have c4_k_2 : w4.cell? ⟨w.heap.size, 2, none⟩ = some (.bool b2) := cell_keep bb4 c3_k_2
  have c4_k_3 : w4.cell? ⟨w.heap.size, 3, none⟩ = some (.bool b3) := cell_keep bb4 c3_k_3
  have c4_k_4 : w4.cell? ⟨w.heap.size, 4, none⟩ = some (.bool b4) := cell_keep bb4 c3_k_4
  have c4_k_5 : w4.cell? ⟨w.heap.size, 5, none⟩ = some (.bool b5) := cell_keep bb4 c3_k_5
  have c4_k_6 : w4.cell? ⟨w.heap.size, 6, none⟩ = some (.bool b6) := cell_keep bb4 c3_k_6
  have c4_k_7 : w4.cell? ⟨w.heap.size, 7, none⟩ = some (.slice p n cap) := cell_keep bb4 c3_k_7
  have l4_k : w.heap.size < w4.heap.size := by omega
  clear hb4 be3 bb4 c3_k_0 c3_k_1 c3_k_2 c3_k_3 c3_k_4 c3_k_5 c3_k_6 c3_k_7 l3_k
  simp only [IV]
  go_wp2_with fail
  refine (few_any b0 b1 b2 b3 b4 b5 b6 p n cap _).mono ?_
  rintro e w5 ⟨rfl, hb5⟩
  rw [decide_eq_true hf]
  have hz5 := hb5.size
  (try simp at hz5)
  have bb5 : Below w4.heap.size w4 w5 := (by repeat (first | exact Below.refl _ _ | assumption | refine below_drewN ?_ _ | refine Below.setCell ?_ (by first | (simp; done) | (simp; omega)) _ | refine Below.alloc ?_ (by first | (simp; done) | (simp; omega) | omega) _ | refine Below.drew ?_ | refine Below.trans ?_ (Below.mono (by assumption) (by first | (simp; done) | (simp; omega) | omega))))
  have be5 : Below w.heap.size w w5 := be4.trans (bb5.mono (by omega))
  have c5_k_0 : w5.cell? ⟨w.heap.size, 0, none⟩ = some (.bool b0) := cell_keep bb5 c4_k_0
  have c5_k_1 : w5.cell? ⟨w.heap.size, 1, none⟩ = some (.bool b1) := cell_keep bb5 c4_k_1
  have c5_k_2 : w5.cell? ⟨w.heap.size, 2, none⟩ = some (.bool b2) := cell_keep bb5 c4_k_2
  have c5_k_3 : w5.cell? ⟨w.heap.size, 3, none⟩ = some (.bool b3) := cell_keep bb5 c4_k_3
  have c5_k_4 : w5.cell? ⟨w.heap.size, 4, none⟩ = some (.bool b4) := cell_keep bb5 c4_k_4
  have c5_k_5 : w5.cell? ⟨w.heap.size, 5, none⟩ = some (.bool b5) := cell_keep bb5 c4_k_5
  have c5_k_6 : w5.cell? ⟨w.heap.size, 6, none⟩ = some (.bool b6) := cell_keep bb5 c4_k_6
  have c5_k_7 : w5.cell? ⟨w.heap.size, 7, none⟩ = some (.slice p n cap) := cell_keep bb5 c4_k_7
  have l5_k : w.heap.size < w5.heap.size := by omega
  clear hb5 be4 bb5 c4_k_0 c4_k_1 c4_k_2 c4_k_3 c4_k_4 c4_k_5 c4_k_6 c4_k_7 l4_k
  go_wp2_with fail
  refine (few_any b0 b1 b2 b3 b4 b5 b6 p n cap _).mono ?_
  rintro e w6 ⟨rfl, hb6⟩
  rw [decide_eq_true hf]
  have hz6 := hb6.size
  (try simp at hz6)
  have bb6 : Below w5.heap.size w5 w6 := (by repeat (first | exact Below.refl _ _ | assumption | refine below_drewN ?_ _ | refine Below.setCell ?_ (by first | (simp; done) | (simp; omega)) _ | refine Below.alloc ?_ (by first | (simp; done) | (simp; omega) | omega) _ | refine Below.drew ?_ | refine Below.trans ?_ (Below.mono (by assumption) (by first | (simp; done) | (simp; omega) | omega))))
  have be6 : Below w.heap.size w w6 := be5.trans (bb6.mono (by omega))
  have c6_k_0 : w6.cell? ⟨w.heap.size, 0, none⟩ = some (.bool b0) := cell_keep bb6 c5_k_0
  have c6_k_1 : w6.cell? ⟨w.heap.size, 1, none⟩ = some (.bool b1) := cell_keep bb6 c5_k_1
  have c6_k_2 : w6.cell? ⟨w.heap.size, 2, none⟩ = some (.bool b2) := cell_keep bb6 c5_k_2
  have c6_k_3 : w6.cell? ⟨w.heap.size, 3, none⟩ = some (.bool b3) := cell_keep bb6 c5_k_3
  have c6_k_4 : w6.cell? ⟨w.heap.size, 4, none⟩ = some (.bool b4) := cell_keep bb6 c5_k_4
  have c6_k_5 : w6.cell? ⟨w.heap.size, 5, none⟩ = some (.bool b5) := cell_keep bb6 c5_k_5
  have c6_k_6 : w6.cell? ⟨w.heap.size, 6, none⟩ = some (.bool b6) := cell_keep bb6 c5_k_6
  have c6_k_7 : w6.cell? ⟨w.heap.size, 7, none⟩ = some (.slice p n cap) := cell_keep bb6 c5_k_7
  have l6_k : w.heap.size < w6.heap.size := by omega
  clear hb6 be5 bb6 c5_k_0 c5_k_1 c5_k_2 c5_k_3 c5_k_4 c5_k_5 c5_k_6 c5_k_7 l5_k
  go_wp2
  go_ret
  exact ⟨rfl, (by repeat (first | exact Below.refl _ _ | assumption | refine below_drewN ?_ _ | refine Below.setCell ?_ (by first | (simp; done) | (simp; omega)) _ | refine Below.alloc ?_ (by first | (simp; done) | (simp; omega) | omega) _ | refine Below.drew ?_ | refine Below.trans ?_ (Below.mono (by assumption) (by first | (simp; done) | (simp; omega) | omega))))⟩
set_option maxRecDepth 100000 in
set_option maxHeartbeats 3200000 in
theorem cnt_b (b0 b1 b2 b3 b4 b5 b6 : Bool) (p : Option Addr) (n cap : Nat) (hs : List Int) (FC FA : Int → Int → Int × Int) (FN : Int → Int × Int) (FB : Int → Bool) (day o q mid en : Int) (w : World) (hE : Env w) (hh : Hols w p hs) (hS : CalS b0 b1 b2 b3 b4 b5 b6 p n cap hs FC FA FN FB) (hm : wrap64 (day + o % 500) = mid) (hn : wrap64 (mid + q % 500) = en) (hg : FC day en = (0, 1)) (o0 : 0 ≤ o) (o1 : o ≤ 65535) (q0 : 0 ≤ q) (q1 : q ≤ 65535) (hf : 500 < n) :
    Calls Tryd.prog 8 #[.agg #[.bool b0, .bool b1, .bool b2, .bool b3, .bool b4, .bool b5, .bool b6, .slice p n cap], .int .i64 day, .int .u16 o, .int .u16 q] w fun e w' => e = .returned (.bool true) ∧ Below w.heap.size w w' := by
  have HE := Lib.hid hE
  have HH := Lib.hid hh
  have HS := Lib.hid hS
  have HM := Lib.hid hm
  have HN := Lib.hid hn
  have HG := Lib.hid hg
  clear hE hh hS hm hn hg
  go_enter Tryd.func8, Tryd.ntmps8
  go_wp2_with fail
  refine (head_any _ (HE.out.below (by repeat (first | exact Below.refl _ _ | assumption | refine below_drewN ?_ _ | refine Below.setCell ?_ (by first | (simp; done) | (simp; omega)) _ | refine Below.alloc ?_ (by first | (simp; done) | (simp; omega) | omega) _ | refine Below.drew ?_ | refine Below.trans ?_ (Below.mono (by assumption) (by first | (simp; done) | (simp; omega) | omega)))))).mono ?_
  rintro e w1 ⟨rfl, hb1⟩
  have hz1 := hb1.size
  (try simp at hz1)
  have be1 : Below w.heap.size w w1 := (by repeat (first | exact Below.refl _ _ | assumption | refine below_drewN ?_ _ | refine Below.setCell ?_ (by first | (simp; done) | (simp; omega)) _ | refine Below.alloc ?_ (by first | (simp; done) | (simp; omega) | omega) _ | refine Below.drew ?_ | refine Below.trans ?_ (Below.mono (by assumption) (by first | (simp; done) | (simp; omega) | omega))))
  have c1_k_0 : w1.cell? ⟨w.heap.size, 0, none⟩ = some (.bool b0) := cell_keep hb1 (by go_simp)
  have c1_k_1 : w1.cell? ⟨w.heap.size, 1, none⟩ = some (.bool b1) := cell_keep hb1 (by go_simp)
  have c1_k_2 : w1.cell? ⟨w.heap.size, 2, none⟩ = some (.bool b2) := cell_keep hb1 (by go_simp)
  have c1_k_3 : w1.cell? ⟨w.heap.size, 3, none⟩ = some (.bool b3) := cell_keep hb1 (by go_simp)
  have c1_k_4 : w1.cell? ⟨w.heap.size, 4, none⟩ = some (.bool b4) := cell_keep hb1 (by go_simp)
  have c1_k_5 : w1.cell? ⟨w.heap.size, 5, none⟩ = some (.bool b5) := cell_keep hb1 (by go_simp)
  have c1_k_6 : w1.cell? ⟨w.heap.size, 6, none⟩ = some (.bool b6) := cell_keep hb1 (by go_simp)
  have c1_k_7 : w1.cell? ⟨w.heap.size, 7, none⟩ = some (.slice p n cap) := cell_keep hb1 (by go_simp)
  have l1_k : w.heap.size < w1.heap.size := by omega
  clear hb1
  go_wp2_with fail
  simp only [HM.out, HN.out]
  go_wp2_with fail
  refine ((HS.out _ (HH.out.below (by repeat (first | exact Below.refl _ _ | assumption | refine below_drewN ?_ _ | refine Below.setCell ?_ (by first | (simp; done) | (simp; omega)) _ | refine Below.alloc ?_ (by first | (simp; done) | (simp; omega) | omega) _ | refine Below.drew ?_ | refine Below.trans ?_ (Below.mono (by assumption) (by first | (simp; done) | (simp; omega) | omega)))))).1 _ _).mono ?_
  rintro e w2 ⟨rfl, hb2⟩
  have hz2 := hb2.size
  (try simp at hz2)
  have bb2 : Below w1.heap.size w1 w2 := (by repeat (first | exact Below.refl _ _ | assumption | refine below_drewN ?_ _ | refine Below.setCell ?_ (by first | (simp; done) | (simp; omega)) _ | refine Below.alloc ?_ (by first | (simp; done) | (simp; omega) | omega) _ | refine Below.drew ?_ | refine Below.trans ?_ (Below.mono (by assumption) (by first | (simp; done) | (simp; omega) | omega))))
  have be2 : Below w.heap.size w w2 := be1.trans (bb2.mono (by omega))
  have c2_k_0 : w2.cell? ⟨w.heap.size, 0, none⟩ = some (.bool b0) := cell_keep bb2 c1_k_0
  have c2_k_1 : w2.cell? ⟨w.heap.size, 1, none⟩ = some (.bool b1) := cell_keep bb2 c1_k_1
  have c2_k_2 : w2.cell? ⟨w.heap.size, 2, none⟩ = some (.bool b2) := cell_keep bb2 c1_k_2
  have c2_k_3 : w2.cell? ⟨w.heap.size, 3, none⟩ = some (.bool b3) := cell_keep bb2 c1_k_3
  have c2_k_4 : w2.cell? ⟨w.heap.size, 4, none⟩ = some (.bool b4) := cell_keep bb2 c1_k_4
  have c2_k_5 : w2.cell? ⟨w.heap.size, 5, none⟩ = some (.bool b5) := cell_keep bb2 c1_k_5
  have c2_k_6 : w2.cell? ⟨w.heap.size, 6, none⟩ = some (.bool b6) := cell_keep bb2 c1_k_6
  have c2_k_7 : w2.cell? ⟨w.heap.size, 7, none⟩ = some (.slice p n cap) := cell_keep bb2 c1_k_7
  have l2_k : w.heap.size < w2.heap.size := by omega
  clear hb2 be1 bb2 c1_k_0 c1_k_1 c1_k_2 c1_k_3 c1_k_4 c1_k_5 c1_k_6 c1_k_7 l1_k
  simp only [IV]
  go_wp2_with fail
  refine ((HS.out _ (HH.out.below (by repeat (first | exact Below.refl _ _ | assumption | refine below_drewN ?_ _ | refine Below.setCell ?_ (by first | (simp; done) | (simp; omega)) _ | refine Below.alloc ?_ (by first | (simp; done) | (simp; omega) | omega) _ | refine Below.drew ?_ | refine Below.trans ?_ (Below.mono (by assumption) (by first | (simp; done) | (simp; omega) | omega)))))).1 _ _).mono ?_
  rintro e w3 ⟨rfl, hb3⟩
  have hz3 := hb3.size
  (try simp at hz3)
  have bb3 : Below w2.heap.size w2 w3 := (by repeat (first | exact Below.refl _ _ | assumption | refine below_drewN ?_ _ | refine Below.setCell ?_ (by first | (simp; done) | (simp; omega)) _ | refine Below.alloc ?_ (by first | (simp; done) | (simp; omega) | omega) _ | refine Below.drew ?_ | refine Below.trans ?_ (Below.mono (by assumption) (by first | (simp; done) | (simp; omega) | omega))))
  have be3 : Below w.heap.size w w3 := be2.trans (bb3.mono (by omega))
  have c3_k_0 : w3.cell? ⟨w.heap.size, 0, none⟩ = some (.bool b0) := cell_keep bb3 c2_k_0
  have c3_k_1 : w3.cell? ⟨w.heap.size, 1, none⟩ = some (.bool b1) := cell_keep bb3 c2_k_1
  have c3_k_2 : w3.cell? ⟨w.heap.size, 2, none⟩ = some (.bool b2) := cell_keep bb3 c2_k_2
  have c3_k_3 : w3.cell? ⟨w.heap.size, 3, none⟩ = some (.bool b3) := cell_keep bb3 c2_k_3
  have c3_k_4 : w3.cell? ⟨w.heap.size, 4, none⟩ = some (.bool b4) := cell_keep bb3 c2_k_4
  have c3_k_5 : w3.cell? ⟨w.heap.size, 5, none⟩ = some (.bool b5) := cell_keep bb3 c2_k_5
  have c3_k_6 : w3.cell? ⟨w.heap.size, 6, none⟩ = some (.bool b6) := cell_keep bb3 c2_k_6
  have c3_k_7 : w3.cell? ⟨w.heap.size, 7, none⟩ = some (.slice p n cap) := cell_keep bb3 c2_k_7
  have l3_k : w.heap.size < w3.heap.size := by omega
  clear hb3 be2 bb3 c2_k_0 c2_k_1 c2_k_2 c2_k_3 c2_k_4 c2_k_5 c2_k_6 c2_k_7 l2_k
  simp only [IV]
  go_wp2_with fail
  refine ((HS.out _ (HH.out.below (by repeat (first | exact Below.refl _ _ | assumption | refine below_drewN ?_ _ | refine Below.setCell ?_ (by first | (simp; done) | (simp; omega)) _ | refine Below.alloc ?_ (by first | (simp; done) | (simp; omega) | omega) _ | refine Below.drew ?_ | refine Below.trans ?_ (Below.mono (by assumption) (by first | (simp; done) | (simp; omega) | omega)))))).1 _ _).mono ?_
  rintro e w4 ⟨rfl, hb4⟩
  rw [HG.out]
  have hz4 := hb4.size
  (try simp at hz4)
  have bb4 : Below w3.heap.size w3 w4 := (by repeat (first | exact Below.refl _ _ | assumption | refine below_drewN ?_ _ | refine Below.setCell ?_ (by first | (simp; done) | (simp; omega)) _ | refine Below.alloc ?_ (by first | (simp; done) | (simp; omega) | omega) _ | refine Below.drew ?_ | refine Below.trans ?_ (Below.mono (by assumption) (by first | (simp; done) | (simp; omega) | omega))))
  have be4 : Below w.heap.size w w4 := be3.trans (bb4.mono (by omega))
  have c4_k_0 : w4.cell? ⟨w.heap.size, 0, none⟩ = some (.bool b0) := cell_keep bb4 c3_k_0
  have c4_k_1 : w4.cell? ⟨w.heap.size, 1, none⟩ = some (.bool b1) := cell_keep bb4 c3_k_1
  have c4_k_2 : w4.cell? ⟨w.heap.size, 2, none⟩ = some (.bool b2) := cell_keep bb4 c3_k_2
  have c4_k_3 : w4.cell? ⟨w.heap.size, 3, none⟩ = some (.bool b3) := cell_keep bb4 c3_k_3
  have c4_k_4 : w4.cell? ⟨w.heap.size, 4, none⟩ = some (.bool b4) := cell_keep bb4 c3_k_4
  have c4_k_5 : w4.cell? ⟨w.heap.size, 5, none⟩ = some (.bool b5) := cell_keep bb4 c3_k_5
  have c4_k_6 : w4.cell? ⟨w.heap.size, 6, none⟩ = some (.bool b6) := cell_keep bb4 c3_k_6
  have c4_k_7 : w4.cell? ⟨w.heap.size, 7, none⟩ = some (.slice p n cap) := cell_keep bb4 c3_k_7
  have l4_k : w.heap.size < w4.heap.size := by omega
  clear hb4 be3 bb4 c3_k_0 c3_k_1 c3_k_2 c3_k_3 c3_k_4 c3_k_5 c3_k_6 c3_k_7 l3_k
  simp only [IV]
  go_wp2_with fail
  refine (few_any b0 b1 b2 b3 b4 b5 b6 p n cap _).mono ?_
  rintro e w5 ⟨rfl, hb5⟩
  rw [decide_eq_false (show ¬ n ≤ 500 by omega)]
  have hz5 := hb5.size
  (try simp at hz5)
  have bb5 : Below w4.heap.size w4 w5 := (by repeat (first | exact Below.refl _ _ | assumption | refine below_drewN ?_ _ | refine Below.setCell ?_ (by first | (simp; done) | (simp; omega)) _ | refine Below.alloc ?_ (by first | (simp; done) | (simp; omega) | omega) _ | refine Below.drew ?_ | refine Below.trans ?_ (Below.mono (by assumption) (by first | (simp; done) | (simp; omega) | omega))))
  have be5 : Below w.heap.size w w5 := be4.trans (bb5.mono (by omega))
  have c5_k_0 : w5.cell? ⟨w.heap.size, 0, none⟩ = some (.bool b0) := cell_keep bb5 c4_k_0
  have c5_k_1 : w5.cell? ⟨w.heap.size, 1, none⟩ = some (.bool b1) := cell_keep bb5 c4_k_1
  have c5_k_2 : w5.cell? ⟨w.heap.size, 2, none⟩ = some (.bool b2) := cell_keep bb5 c4_k_2
  have c5_k_3 : w5.cell? ⟨w.heap.size, 3, none⟩ = some (.bool b3) := cell_keep bb5 c4_k_3
  have c5_k_4 : w5.cell? ⟨w.heap.size, 4, none⟩ = some (.bool b4) := cell_keep bb5 c4_k_4
  have c5_k_5 : w5.cell? ⟨w.heap.size, 5, none⟩ = some (.bool b5) := cell_keep bb5 c4_k_5
  have c5_k_6 : w5.cell? ⟨w.heap.size, 6, none⟩ = some (.bool b6) := cell_keep bb5 c4_k_6
  have c5_k_7 : w5.cell? ⟨w.heap.size, 7, none⟩ = some (.slice p n cap) := cell_keep bb5 c4_k_7
  have l5_k : w.heap.size < w5.heap.size := by omega
  clear hb5 be4 bb5 c4_k_0 c4_k_1 c4_k_2 c4_k_3 c4_k_4 c4_k_5 c4_k_6 c4_k_7 l4_k
  go_wp2_with fail
  refine (few_any b0 b1 b2 b3 b4 b5 b6 p n cap _).mono ?_
  rintro e w6 ⟨rfl, hb6⟩
  rw [decide_eq_false (show ¬ n ≤ 500 by omega)]
  have hz6 := hb6.size
  (try simp at hz6)
  have bb6 : Below w5.heap.size w5 w6 := (by repeat (first | exact Below.refl _ _ | assumption | refine below_drewN ?_ _ | refine Below.setCell ?_ (by first | (simp; done) | (simp; omega)) _ | refine Below.alloc ?_ (by first | (simp; done) | (simp; omega) | omega) _ | refine Below.drew ?_ | refine Below.trans ?_ (Below.mono (by assumption) (by first | (simp; done) | (simp; omega) | omega))))
  have be6 : Below w.heap.size w w6 := be5.trans (bb6.mono (by omega))
  have c6_k_0 : w6.cell? ⟨w.heap.size, 0, none⟩ = some (.bool b0) := cell_keep bb6 c5_k_0
  have c6_k_1 : w6.cell? ⟨w.heap.size, 1, none⟩ = some (.bool b1) := cell_keep bb6 c5_k_1
  have c6_k_2 : w6.cell? ⟨w.heap.size, 2, none⟩ = some (.bool b2) := cell_keep bb6 c5_k_2
  have c6_k_3 : w6.cell? ⟨w.heap.size, 3, none⟩ = some (.bool b3) := cell_keep bb6 c5_k_3
  have c6_k_4 : w6.cell? ⟨w.heap.size, 4, none⟩ = some (.bool b4) := cell_keep bb6 c5_k_4
  have c6_k_5 : w6.cell? ⟨w.heap.size, 5, none⟩ = some (.bool b5) := cell_keep bb6 c5_k_5
  have c6_k_6 : w6.cell? ⟨w.heap.size, 6, none⟩ = some (.bool b6) := cell_keep bb6 c5_k_6
  have c6_k_7 : w6.cell? ⟨w.heap.size, 7, none⟩ = some (.slice p n cap) := cell_keep bb6 c5_k_7
  have l6_k : w.heap.size < w6.heap.size := by omega
  clear hb6 be5 bb6 c5_k_0 c5_k_1 c5_k_2 c5_k_3 c5_k_4 c5_k_5 c5_k_6 c5_k_7 l5_k
  go_wp2
  go_ret
  exact ⟨rfl, (by repeat (first | exact Below.refl _ _ | assumption | refine below_drewN ?_ _ | refine Below.setCell ?_ (by first | (simp; done) | (simp; omega)) _ | refine Below.alloc ?_ (by first | (simp; done) | (simp; omega) | omega) _ | refine Below.drew ?_ | refine Below.trans ?_ (Below.mono (by assumption) (by first | (simp; done) | (simp; omega) | omega))))⟩
set_option maxRecDepth 100000 in
set_option maxHeartbeats 3200000 in
theorem cnt_c1 (b0 b1 b2 b3 b4 b5 b6 : Bool) (p : Option Addr) (n cap : Nat) (hs : List Int) (FC FA : Int → Int → Int × Int) (FN : Int → Int × Int) (FB : Int → Bool) (d : Nat) (o q M E A B : Int) (w : World) (hE : Env w) (hh : Hols w p hs) (hS : CalS b0 b1 b2 b3 b4 b5 b6 p n cap hs FC FA FN FB) (hf : n ≤ 500) (hm : (d : Int) + o % 500 = M) (hn : M + q % 500 = E) (ha : FC d M = (A, 0)) (hb : FC M E = (B, 0)) (hg : FC d E = (A + B, 0)) (a0 : 0 ≤ A) (b0' : 0 ≤ B) (ab : A + B ≤ E - d) (dE : E ≤ 73048) (dd : (d : Int) ≤ E) (o0 : 0 ≤ o) (o1 : o ≤ 65535) (q0 : 0 ≤ q) (q1 : q ≤ 65535) (r : Int) (hx : FN d = (r, 0)) (hz : FC d r = (0, 0)) (de : 73048 ≤ (d : Int)) :
    Calls Tryd.prog 8 #[.agg #[.bool b0, .bool b1, .bool b2, .bool b3, .bool b4, .bool b5, .bool b6, .slice p n cap], .int .i64 (d : Int), .int .u16 o, .int .u16 q] w fun e w' => e = .returned (.bool true) ∧ Below w.heap.size w w' := by
  have HE := Lib.hid hE
  have HH := Lib.hid hh
  have HS := Lib.hid hS
  have HM := Lib.hid hm
  have HN := Lib.hid hn
  have HA := Lib.hid ha
  have HB := Lib.hid hb
  have HG := Lib.hid hg
  have HX := Lib.hid hx
  have HZ := Lib.hid hz
  clear hE hh hS hm hn ha hb hg hx hz
  go_enter Tryd.func8, Tryd.ntmps8
  go_wp2_with fail
  refine (head_any _ (HE.out.below (by repeat (first | exact Below.refl _ _ | assumption | refine below_drewN ?_ _ | refine Below.setCell ?_ (by first | (simp; done) | (simp; omega)) _ | refine Below.alloc ?_ (by first | (simp; done) | (simp; omega) | omega) _ | refine Below.drew ?_ | refine Below.trans ?_ (Below.mono (by assumption) (by first | (simp; done) | (simp; omega) | omega)))))).mono ?_
  rintro e w1 ⟨rfl, hb1⟩
  have hz1 := hb1.size
  (try simp at hz1)
  have be1 : Below w.heap.size w w1 := (by repeat (first | exact Below.refl _ _ | assumption | refine below_drewN ?_ _ | refine Below.setCell ?_ (by first | (simp; done) | (simp; omega)) _ | refine Below.alloc ?_ (by first | (simp; done) | (simp; omega) | omega) _ | refine Below.drew ?_ | refine Below.trans ?_ (Below.mono (by assumption) (by first | (simp; done) | (simp; omega) | omega))))
  have c1_k_0 : w1.cell? ⟨w.heap.size, 0, none⟩ = some (.bool b0) := cell_keep hb1 (by go_simp)
  have c1_k_1 : w1.cell? ⟨w.heap.size, 1, none⟩ = some (.bool b1) := cell_keep hb1 (by go_simp)
  have c1_k_2 : w1.cell? ⟨w.heap.size, 2, none⟩ = some (.bool b2) := cell_keep hb1 (by go_simp)
  have c1_k_3 : w1.cell? ⟨w.heap.size, 3, none⟩ = some (.bool b3) := cell_keep hb1 (by go_simp)
  have c1_k_4 : w1.cell? ⟨w.heap.size, 4, none⟩ = some (.bool b4) := cell_keep hb1 (by go_simp)
  have c1_k_5 : w1.cell? ⟨w.heap.size, 5, none⟩ = some (.bool b5) := cell_keep hb1 (by go_simp)
  have c1_k_6 : w1.cell? ⟨w.heap.size, 6, none⟩ = some (.bool b6) := cell_keep hb1 (by go_simp)
  have c1_k_7 : w1.cell? ⟨w.heap.size, 7, none⟩ = some (.slice p n cap) := cell_keep hb1 (by go_simp)
  have l1_k : w.heap.size < w1.heap.size := by omega
  clear hb1
  go_wp2_with fail
  simp only [HM.out, HN.out]
  go_wp2_with fail
  refine ((HS.out _ (HH.out.below (by repeat (first | exact Below.refl _ _ | assumption | refine below_drewN ?_ _ | refine Below.setCell ?_ (by first | (simp; done) | (simp; omega)) _ | refine Below.alloc ?_ (by first | (simp; done) | (simp; omega) | omega) _ | refine Below.drew ?_ | refine Below.trans ?_ (Below.mono (by assumption) (by first | (simp; done) | (simp; omega) | omega)))))).1 _ _).mono ?_
  rintro e w2 ⟨rfl, hb2⟩
  rw [HA.out]
  have hz2 := hb2.size
  (try simp at hz2)
  have bb2 : Below w1.heap.size w1 w2 := (by repeat (first | exact Below.refl _ _ | assumption | refine below_drewN ?_ _ | refine Below.setCell ?_ (by first | (simp; done) | (simp; omega)) _ | refine Below.alloc ?_ (by first | (simp; done) | (simp; omega) | omega) _ | refine Below.drew ?_ | refine Below.trans ?_ (Below.mono (by assumption) (by first | (simp; done) | (simp; omega) | omega))))
  have be2 : Below w.heap.size w w2 := be1.trans (bb2.mono (by omega))
  have c2_k_0 : w2.cell? ⟨w.heap.size, 0, none⟩ = some (.bool b0) := cell_keep bb2 c1_k_0
  have c2_k_1 : w2.cell? ⟨w.heap.size, 1, none⟩ = some (.bool b1) := cell_keep bb2 c1_k_1
  have c2_k_2 : w2.cell? ⟨w.heap.size, 2, none⟩ = some (.bool b2) := cell_keep bb2 c1_k_2
  have c2_k_3 : w2.cell? ⟨w.heap.size, 3, none⟩ = some (.bool b3) := cell_keep bb2 c1_k_3
  have c2_k_4 : w2.cell? ⟨w.heap.size, 4, none⟩ = some (.bool b4) := cell_keep bb2 c1_k_4
  have c2_k_5 : w2.cell? ⟨w.heap.size, 5, none⟩ = some (.bool b5) := cell_keep bb2 c1_k_5
  have c2_k_6 : w2.cell? ⟨w.heap.size, 6, none⟩ = some (.bool b6) := cell_keep bb2 c1_k_6
  have c2_k_7 : w2.cell? ⟨w.heap.size, 7, none⟩ = some (.slice p n cap) := cell_keep bb2 c1_k_7
  have l2_k : w.heap.size < w2.heap.size := by omega
  clear hb2 be1 bb2 c1_k_0 c1_k_1 c1_k_2 c1_k_3 c1_k_4 c1_k_5 c1_k_6 c1_k_7 l1_k
  simp only [IV]
  go_wp2_with fail
  refine ((HS.out _ (HH.out.below (by repeat (first | exact Below.refl _ _ | assumption | refine below_drewN ?_ _ | refine Below.setCell ?_ (by first | (simp; done) | (simp; omega)) _ | refine Below.alloc ?_ (by first | (simp; done) | (simp; omega) | omega) _ | refine Below.drew ?_ | refine Below.trans ?_ (Below.mono (by assumption) (by first | (simp; done) | (simp; omega) | omega)))))).1 _ _).mono ?_
  rintro e w3 ⟨rfl, hb3⟩
  rw [HB.out]
  have hz3 := hb3.size
  (try simp at hz3)
  have bb3 : Below w2.heap.size w2 w3 := (by repeat (first | exact Below.refl _ _ | assumption | refine below_drewN ?_ _ | refine Below.setCell ?_ (by first | (simp; done) | (simp; omega)) _ | refine Below.alloc ?_ (by first | (simp; done) | (simp; omega) | omega) _ | refine Below.drew ?_ | refine Below.trans ?_ (Below.mono (by assumption) (by first | (simp; done) | (simp; omega) | omega))))
  have be3 : Below w.heap.size w w3 := be2.trans (bb3.mono (by omega))
  have c3_k_0 : w3.cell? ⟨w.heap.size, 0, none⟩ = some (.bool b0) := cell_keep bb3 c2_k_0
  have c3_k_1 : w3.cell? ⟨w.heap.size, 1, none⟩ = some (.bool b1) := cell_keep bb3 c2_k_1
  have c3_k_2 : w3.cell? ⟨w.heap.size, 2, none⟩ = some (.bool b2) := cell_keep bb3 c2_k_2
  have c3_k_3 : w3.cell? ⟨w.heap.size, 3, none⟩ = some (.bool b3) := cell_keep bb3 c2_k_3
  have c3_k_4 : w3.cell? ⟨w.heap.size, 4, none⟩ = some (.bool b4) := cell_keep bb3 c2_k_4
  have c3_k_5 : w3.cell? ⟨w.heap.size, 5, none⟩ = some (.bool b5) := cell_keep bb3 c2_k_5
  have c3_k_6 : w3.cell? ⟨w.heap.size, 6, none⟩ = some (.bool b6) := cell_keep bb3 c2_k_6
  have c3_k_7 : w3.cell? ⟨w.heap.size, 7, none⟩ = some (.slice p n cap) := cell_keep bb3 c2_k_7
  have l3_k : w.heap.size < w3.heap.size := by omega
  clear hb3 be2 bb3 c2_k_0 c2_k_1 c2_k_2 c2_k_3 c2_k_4 c2_k_5 c2_k_6 c2_k_7 l2_k
  simp only [IV]
  go_wp2_with fail
  refine ((HS.out _ (HH.out.below (by repeat (first | exact Below.refl _ _ | assumption | refine below_drewN ?_ _ | refine Below.setCell ?_ (by first | (simp; done) | (simp; omega)) _ | refine Below.alloc ?_ (by first | (simp; done) | (simp; omega) | omega) _ | refine Below.drew ?_ | refine Below.trans ?_ (Below.mono (by assumption) (by first | (simp; done) | (simp; omega) | omega)))))).1 _ _).mono ?_
  rintro e w4 ⟨rfl, hb4⟩
  rw [HG.out]
  have hz4 := hb4.size
  (try simp at hz4)
  have bb4 : Below w3.heap.size w3 w4 := (by repeat (first | exact Below.refl _ _ | assumption | refine below_drewN ?_ _ | refine Below.setCell ?_ (by first | (simp; done) | (simp; omega)) _ | refine Below.alloc ?_ (by first | (simp; done) | (simp; omega) | omega) _ | refine Below.drew ?_ | refine Below.trans ?_ (Below.mono (by assumption) (by first | (simp; done) | (simp; omega) | omega))))
  have be4 : Below w.heap.size w w4 := be3.trans (bb4.mono (by omega))
  have c4_k_0 : w4.cell? ⟨w.heap.size, 0, none⟩ = some (.bool b0) := cell_keep bb4 c3_k_0
  have c4_k_1 : w4.cell? ⟨w.heap.size, 1, none⟩ = some (.bool b1) := cell_keep bb4 c3_k_1
  have c4_k_2 : w4.cell? ⟨w.heap.size, 2, none⟩ = some (.bool b2) := cell_keep bb4 c3_k_2
  have c4_k_3 : w4.cell? ⟨w.heap.size, 3, none⟩ = some (.bool b3) := cell_keep bb4 c3_k_3
  have c4_k_4 : w4.cell? ⟨w.heap.size, 4, none⟩ = some (.bool b4) := cell_keep bb4 c3_k_4
  have c4_k_5 : w4.cell? ⟨w.heap.size, 5, none⟩ = some (.bool b5) := cell_keep bb4 c3_k_5
  have c4_k_6 : w4.cell? ⟨w.heap.size, 6, none⟩ = some (.bool b6) := cell_keep bb4 c3_k_6
  have c4_k_7 : w4.cell? ⟨w.heap.size, 7, none⟩ = some (.slice p n cap) := cell_keep bb4 c3_k_7
  have l4_k : w.heap.size < w4.heap.size := by omega
  clear hb4 be3 bb4 c3_k_0 c3_k_1 c3_k_2 c3_k_3 c3_k_4 c3_k_5 c3_k_6 c3_k_7 l3_k
  simp only [IV]
  go_wp2_with fail
  refine (few_any b0 b1 b2 b3 b4 b5 b6 p n cap _).mono ?_
  rintro e w5 ⟨rfl, hb5⟩
  rw [decide_eq_true hf]
  have hz5 := hb5.size
  (try simp at hz5)
  have bb5 : Below w4.heap.size w4 w5 := (by repeat (first | exact Below.refl _ _ | assumption | refine below_drewN ?_ _ | refine Below.setCell ?_ (by first | (simp; done) | (simp; omega)) _ | refine Below.alloc ?_ (by first | (simp; done) | (simp; omega) | omega) _ | refine Below.drew ?_ | refine Below.trans ?_ (Below.mono (by assumption) (by first | (simp; done) | (simp; omega) | omega))))
  have be5 : Below w.heap.size w w5 := be4.trans (bb5.mono (by omega))
  have c5_k_0 : w5.cell? ⟨w.heap.size, 0, none⟩ = some (.bool b0) := cell_keep bb5 c4_k_0
  have c5_k_1 : w5.cell? ⟨w.heap.size, 1, none⟩ = some (.bool b1) := cell_keep bb5 c4_k_1
  have c5_k_2 : w5.cell? ⟨w.heap.size, 2, none⟩ = some (.bool b2) := cell_keep bb5 c4_k_2
  have c5_k_3 : w5.cell? ⟨w.heap.size, 3, none⟩ = some (.bool b3) := cell_keep bb5 c4_k_3
  have c5_k_4 : w5.cell? ⟨w.heap.size, 4, none⟩ = some (.bool b4) := cell_keep bb5 c4_k_4
  have c5_k_5 : w5.cell? ⟨w.heap.size, 5, none⟩ = some (.bool b5) := cell_keep bb5 c4_k_5
  have c5_k_6 : w5.cell? ⟨w.heap.size, 6, none⟩ = some (.bool b6) := cell_keep bb5 c4_k_6
  have c5_k_7 : w5.cell? ⟨w.heap.size, 7, none⟩ = some (.slice p n cap) := cell_keep bb5 c4_k_7
  have l5_k : w.heap.size < w5.heap.size := by omega
  clear hb5 be4 bb5 c4_k_0 c4_k_1 c4_k_2 c4_k_3 c4_k_4 c4_k_5 c4_k_6 c4_k_7 l4_k
  go_wp2_with fail
  refine ((HS.out _ (HH.out.below (by repeat (first | exact Below.refl _ _ | assumption | refine below_drewN ?_ _ | refine Below.setCell ?_ (by first | (simp; done) | (simp; omega)) _ | refine Below.alloc ?_ (by first | (simp; done) | (simp; omega) | omega) _ | refine Below.drew ?_ | refine Below.trans ?_ (Below.mono (by assumption) (by first | (simp; done) | (simp; omega) | omega)))))).2.2.1 _).mono ?_
  rintro e w6 ⟨rfl, hb6⟩
  rw [HX.out]
  have hz6 := hb6.size
  (try simp at hz6)
  have bb6 : Below w5.heap.size w5 w6 := (by repeat (first | exact Below.refl _ _ | assumption | refine below_drewN ?_ _ | refine Below.setCell ?_ (by first | (simp; done) | (simp; omega)) _ | refine Below.alloc ?_ (by first | (simp; done) | (simp; omega) | omega) _ | refine Below.drew ?_ | refine Below.trans ?_ (Below.mono (by assumption) (by first | (simp; done) | (simp; omega) | omega))))
  have be6 : Below w.heap.size w w6 := be5.trans (bb6.mono (by omega))
  have c6_k_0 : w6.cell? ⟨w.heap.size, 0, none⟩ = some (.bool b0) := cell_keep bb6 c5_k_0
  have c6_k_1 : w6.cell? ⟨w.heap.size, 1, none⟩ = some (.bool b1) := cell_keep bb6 c5_k_1
  have c6_k_2 : w6.cell? ⟨w.heap.size, 2, none⟩ = some (.bool b2) := cell_keep bb6 c5_k_2
  have c6_k_3 : w6.cell? ⟨w.heap.size, 3, none⟩ = some (.bool b3) := cell_keep bb6 c5_k_3
  have c6_k_4 : w6.cell? ⟨w.heap.size, 4, none⟩ = some (.bool b4) := cell_keep bb6 c5_k_4
  have c6_k_5 : w6.cell? ⟨w.heap.size, 5, none⟩ = some (.bool b5) := cell_keep bb6 c5_k_5
  have c6_k_6 : w6.cell? ⟨w.heap.size, 6, none⟩ = some (.bool b6) := cell_keep bb6 c5_k_6
  have c6_k_7 : w6.cell? ⟨w.heap.size, 7, none⟩ = some (.slice p n cap) := cell_keep bb6 c5_k_7
  have l6_k : w.heap.size < w6.heap.size := by omega
  clear hb6 be5 bb6 c5_k_0 c5_k_1 c5_k_2 c5_k_3 c5_k_4 c5_k_5 c5_k_6 c5_k_7 l5_k
  simp only [IV]
  go_wp2_with fail
  refine ((HS.out _ (HH.out.below (by repeat (first | exact Below.refl _ _ | assumption | refine below_drewN ?_ _ | refine Below.setCell ?_ (by first | (simp; done) | (simp; omega)) _ | refine Below.alloc ?_ (by first | (simp; done) | (simp; omega) | omega) _ | refine Below.drew ?_ | refine Below.trans ?_ (Below.mono (by assumption) (by first | (simp; done) | (simp; omega) | omega)))))).1 _ _).mono ?_
  rintro e w7 ⟨rfl, hb7⟩
  rw [HZ.out]
  have hz7 := hb7.size
  (try simp at hz7)
  have bb7 : Below w6.heap.size w6 w7 := (by repeat (first | exact Below.refl _ _ | assumption | refine below_drewN ?_ _ | refine Below.setCell ?_ (by first | (simp; done) | (simp; omega)) _ | refine Below.alloc ?_ (by first | (simp; done) | (simp; omega) | omega) _ | refine Below.drew ?_ | refine Below.trans ?_ (Below.mono (by assumption) (by first | (simp; done) | (simp; omega) | omega))))
  have be7 : Below w.heap.size w w7 := be6.trans (bb7.mono (by omega))
  have c7_k_0 : w7.cell? ⟨w.heap.size, 0, none⟩ = some (.bool b0) := cell_keep bb7 c6_k_0
  have c7_k_1 : w7.cell? ⟨w.heap.size, 1, none⟩ = some (.bool b1) := cell_keep bb7 c6_k_1
  have c7_k_2 : w7.cell? ⟨w.heap.size, 2, none⟩ = some (.bool b2) := cell_keep bb7 c6_k_2
  have c7_k_3 : w7.cell? ⟨w.heap.size, 3, none⟩ = some (.bool b3) := cell_keep bb7 c6_k_3
  have c7_k_4 : w7.cell? ⟨w.heap.size, 4, none⟩ = some (.bool b4) := cell_keep bb7 c6_k_4
  have c7_k_5 : w7.cell? ⟨w.heap.size, 5, none⟩ = some (.bool b5) := cell_keep bb7 c6_k_5
  have c7_k_6 : w7.cell? ⟨w.heap.size, 6, none⟩ = some (.bool b6) := cell_keep bb7 c6_k_6
  have c7_k_7 : w7.cell? ⟨w.heap.size, 7, none⟩ = some (.slice p n cap) := cell_keep bb7 c6_k_7
  have l7_k : w.heap.size < w7.heap.size := by omega
  clear hb7 be6 bb7 c6_k_0 c6_k_1 c6_k_2 c6_k_3 c6_k_4 c6_k_5 c6_k_6 c6_k_7 l6_k
  simp only [IV]
  go_wp2
  go_ret
  exact ⟨rfl, (by repeat (first | exact Below.refl _ _ | assumption | refine below_drewN ?_ _ | refine Below.setCell ?_ (by first | (simp; done) | (simp; omega)) _ | refine Below.alloc ?_ (by first | (simp; done) | (simp; omega) | omega) _ | refine Below.drew ?_ | refine Below.trans ?_ (Below.mono (by assumption) (by first | (simp; done) | (simp; omega) | omega))))⟩
set_option maxRecDepth 100000 in
set_option maxHeartbeats 3200000 in
theorem cnt_d1 (b0 b1 b2 b3 b4 b5 b6 : Bool) (p : Option Addr) (n cap : Nat) (hs : List Int) (FC FA : Int → Int → Int × Int) (FN : Int → Int × Int) (FB : Int → Bool) (d : Nat) (o q M E A B : Int) (w : World) (hE : Env w) (hh : Hols w p hs) (hS : CalS b0 b1 b2 b3 b4 b5 b6 p n cap hs FC FA FN FB) (hf : n ≤ 500) (hm : (d : Int) + o % 500 = M) (hn : M + q % 500 = E) (ha : FC d M = (A, 0)) (hb : FC M E = (B, 0)) (hg : FC d E = (A + B, 0)) (a0 : 0 ≤ A) (b0' : 0 ≤ B) (ab : A + B ≤ E - d) (dE : E ≤ 73048) (dd : (d : Int) ≤ E) (o0 : 0 ≤ o) (o1 : o ≤ 65535) (q0 : 0 ≤ q) (q1 : q ≤ 65535) (r : Int) (hx : FN d = (r, 0)) (hz : FC d r = (0, 0)) (hde : ((d : Int) == 73048) = false) (hs1 : FC d (d + 1) = (1, 0)) (hbu : FB d = true) :
    Calls Tryd.prog 8 #[.agg #[.bool b0, .bool b1, .bool b2, .bool b3, .bool b4, .bool b5, .bool b6, .slice p n cap], .int .i64 (d : Int), .int .u16 o, .int .u16 q] w fun e w' => e = .returned (.bool true) ∧ Below w.heap.size w w' := by
  have HE := Lib.hid hE
  have HH := Lib.hid hh
  have HS := Lib.hid hS
  have HM := Lib.hid hm
  have HN := Lib.hid hn
  have HA := Lib.hid ha
  have HB := Lib.hid hb
  have HG := Lib.hid hg
  have HX := Lib.hid hx
  have HZ := Lib.hid hz
  have HS1 := Lib.hid hs1
  have HBU := Lib.hid hbu
  have HDE := Lib.hid hde
  clear hE hh hS hm hn ha hb hg hx hz hs1 hbu hde
  go_enter Tryd.func8, Tryd.ntmps8
  go_wp2_with fail
  refine (head_any _ (HE.out.below (by repeat (first | exact Below.refl _ _ | assumption | refine below_drewN ?_ _ | refine Below.setCell ?_ (by first | (simp; done) | (simp; omega)) _ | refine Below.alloc ?_ (by first | (simp; done) | (simp; omega) | omega) _ | refine Below.drew ?_ | refine Below.trans ?_ (Below.mono (by assumption) (by first | (simp; done) | (simp; omega) | omega)))))).mono ?_
  rintro e w1 ⟨rfl, hb1⟩
  have hz1 := hb1.size
  (try simp at hz1)
  have be1 : Below w.heap.size w w1 := (by repeat (first | exact Below.refl _ _ | assumption | refine below_drewN ?_ _ | refine Below.setCell ?_ (by first | (simp; done) | (simp; omega)) _ | refine Below.alloc ?_ (by first | (simp; done) | (simp; omega) | omega) _ | refine Below.drew ?_ | refine Below.trans ?_ (Below.mono (by assumption) (by first | (simp; done) | (simp; omega) | omega))))
  have c1_k_0 : w1.cell? ⟨w.heap.size, 0, none⟩ = some (.bool b0) := cell_keep hb1 (by go_simp)
  have c1_k_1 : w1.cell? ⟨w.heap.size, 1, none⟩ = some (.bool b1) := cell_keep hb1 (by go_simp)
  have c1_k_2 : w1.cell? ⟨w.heap.size, 2, none⟩ = some (.bool b2) := cell_keep hb1 (by go_simp)
  have c1_k_3 : w1.cell? ⟨w.heap.size, 3, none⟩ = some (.bool b3) := cell_keep hb1 (by go_simp)
  have c1_k_4 : w1.cell? ⟨w.heap.size, 4, none⟩ = some (.bool b4) := cell_keep hb1 (by go_simp)
  have c1_k_5 : w1.cell? ⟨w.heap.size, 5, none⟩ = some (.bool b5) := cell_keep hb1 (by go_simp)
  have c1_k_6 : w1.cell? ⟨w.heap.size, 6, none⟩ = some (.bool b6) := cell_keep hb1 (by go_simp)
  have c1_k_7 : w1.cell? ⟨w.heap.size, 7, none⟩ = some (.slice p n cap) := cell_keep hb1 (by go_simp)
  have l1_k : w.heap.size < w1.heap.size := by omega
  clear hb1
  go_wp2_with fail
  simp only [HM.out, HN.out]
  go_wp2_with fail
  refine ((HS.out _ (HH.out.below (by repeat (first | exact Below.refl _ _ | assumption | refine below_drewN ?_ _ | refine Below.setCell ?_ (by first | (simp; done) | (simp; omega)) _ | refine Below.alloc ?_ (by first | (simp; done) | (simp; omega) | omega) _ | refine Below.drew ?_ | refine Below.trans ?_ (Below.mono (by assumption) (by first | (simp; done) | (simp; omega) | omega)))))).1 _ _).mono ?_
  rintro e w2 ⟨rfl, hb2⟩
  rw [HA.out]
  have hz2 := hb2.size
  (try simp at hz2)
  have bb2 : Below w1.heap.size w1 w2 := (by repeat (first | exact Below.refl _ _ | assumption | refine below_drewN ?_ _ | refine Below.setCell ?_ (by first | (simp; done) | (simp; omega)) _ | refine Below.alloc ?_ (by first | (simp; done) | (simp; omega) | omega) _ | refine Below.drew ?_ | refine Below.trans ?_ (Below.mono (by assumption) (by first | (simp; done) | (simp; omega) | omega))))
  have be2 : Below w.heap.size w w2 := be1.trans (bb2.mono (by omega))
  have c2_k_0 : w2.cell? ⟨w.heap.size, 0, none⟩ = some (.bool b0) := cell_keep bb2 c1_k_0
  have c2_k_1 : w2.cell? ⟨w.heap.size, 1, none⟩ = some (.bool b1) := cell_keep bb2 c1_k_1
  have c2_k_2 : w2.cell? ⟨w.heap.size, 2, none⟩ = some (.bool b2) := cell_keep bb2 c1_k_2
  have c2_k_3 : w2.cell? ⟨w.heap.size, 3, none⟩ = some (.bool b3) := cell_keep bb2 c1_k_3
  have c2_k_4 : w2.cell? ⟨w.heap.size, 4, none⟩ = some (.bool b4) := cell_keep bb2 c1_k_4
  have c2_k_5 : w2.cell? ⟨w.heap.size, 5, none⟩ = some (.bool b5) := cell_keep bb2 c1_k_5
  have c2_k_6 : w2.cell? ⟨w.heap.size, 6, none⟩ = some (.bool b6) := cell_keep bb2 c1_k_6
  have c2_k_7 : w2.cell? ⟨w.heap.size, 7, none⟩ = some (.slice p n cap) := cell_keep bb2 c1_k_7
  have l2_k : w.heap.size < w2.heap.size := by omega
  clear hb2 be1 bb2 c1_k_0 c1_k_1 c1_k_2 c1_k_3 c1_k_4 c1_k_5 c1_k_6 c1_k_7 l1_k
  simp only [IV]
  go_wp2_with fail
  refine ((HS.out _ (HH.out.below (by repeat (first | exact Below.refl _ _ | assumption | refine below_drewN ?_ _ | refine Below.setCell ?_ (by first | (simp; done) | (simp; omega)) _ | refine Below.alloc ?_ (by first | (simp; done) | (simp; omega) | omega) _ | refine Below.drew ?_ | refine Below.trans ?_ (Below.mono (by assumption) (by first | (simp; done) | (simp; omega) | omega)))))).1 _ _).mono ?_
  rintro e w3 ⟨rfl, hb3⟩
  rw [HB.out]
  have hz3 := hb3.size
  (try simp at hz3)
  have bb3 : Below w2.heap.size w2 w3 := (by repeat (first | exact Below.refl _ _ | assumption | refine below_drewN ?_ _ | refine Below.setCell ?_ (by first | (simp; done) | (simp; omega)) _ | refine Below.alloc ?_ (by first | (simp; done) | (simp; omega) | omega) _ | refine Below.drew ?_ | refine Below.trans ?_ (Below.mono (by assumption) (by first | (simp; done) | (simp; omega) | omega))))
  have be3 : Below w.heap.size w w3 := be2.trans (bb3.mono (by omega))
  have c3_k_0 : w3.cell? ⟨w.heap.size, 0, none⟩ = some (.bool b0) := cell_keep bb3 c2_k_0
  have c3_k_1 : w3.cell? ⟨w.heap.size, 1, none⟩ = some (.bool b1) := cell_keep bb3 c2_k_1
  have c3_k_2 : w3.cell? ⟨w.heap.size, 2, none⟩ = some (.bool b2) := cell_keep bb3 c2_k_2
  have c3_k_3 : w3.cell? ⟨w.heap.size, 3, none⟩ = some (.bool b3) := cell_keep bb3 c2_k_3
  have c3_k_4 : w3.cell? ⟨w.heap.size, 4, none⟩ = some (.bool b4) := cell_keep bb3 c2_k_4
  have c3_k_5 : w3.cell? ⟨w.heap.size, 5, none⟩ = some (.bool b5) := cell_keep bb3 c2_k_5
  have c3_k_6 : w3.cell? ⟨w.heap.size, 6, none⟩ = some (.bool b6) := cell_keep bb3 c2_k_6
  have c3_k_7 : w3.cell? ⟨w.heap.size, 7, none⟩ = some (.slice p n cap) := cell_keep bb3 c2_k_7
  have l3_k : w.heap.size < w3.heap.size := by omega
  clear hb3 be2 bb3 c2_k_0 c2_k_1 c2_k_2 c2_k_3 c2_k_4 c2_k_5 c2_k_6 c2_k_7 l2_k
  simp only [IV]
  go_wp2_with fail
  refine ((HS.out _ (HH.out.below (by repeat (first | exact Below.refl _ _ | assumption | refine below_drewN ?_ _ | refine Below.setCell ?_ (by first | (simp; done) | (simp; omega)) _ | refine Below.alloc ?_ (by first | (simp; done) | (simp; omega) | omega) _ | refine Below.drew ?_ | refine Below.trans ?_ (Below.mono (by assumption) (by first | (simp; done) | (simp; omega) | omega)))))).1 _ _).mono ?_
  rintro e w4 ⟨rfl, hb4⟩
  rw [HG.out]
  have hz4 := hb4.size
  (try simp at hz4)
  have bb4 : Below w3.heap.size w3 w4 := (by repeat (first | exact Below.refl _ _ | assumption | refine below_drewN ?_ _ | refine Below.setCell ?_ (by first | (simp; done) | (simp; omega)) _ | refine Below.alloc ?_ (by first | (simp; done) | (simp; omega) | omega) _ | refine Below.drew ?_ | refine Below.trans ?_ (Below.mono (by assumption) (by first | (simp; done) | (simp; omega) | omega))))
  have be4 : Below w.heap.size w w4 := be3.trans (bb4.mono (by omega))
  have c4_k_0 : w4.cell? ⟨w.heap.size, 0, none⟩ = some (.bool b0) := cell_keep bb4 c3_k_0
  have c4_k_1 : w4.cell? ⟨w.heap.size, 1, none⟩ = some (.bool b1) := cell_keep bb4 c3_k_1
  have c4_k_2 : w4.cell? ⟨w.heap.size, 2, none⟩ = some (.bool b2) := cell_keep bb4 c3_k_2
  have c4_k_3 : w4.cell? ⟨w.heap.size, 3, none⟩ = some (.bool b3) := cell_keep bb4 c3_k_3
  have c4_k_4 : w4.cell? ⟨w.heap.size, 4, none⟩ = some (.bool b4) := cell_keep bb4 c3_k_4
  have c4_k_5 : w4.cell? ⟨w.heap.size, 5, none⟩ = some (.bool b5) := cell_keep bb4 c3_k_5
  have c4_k_6 : w4.cell? ⟨w.heap.size, 6, none⟩ = some (.bool b6) := cell_keep bb4 c3_k_6
  have c4_k_7 : w4.cell? ⟨w.heap.size, 7, none⟩ = some (.slice p n cap) := cell_keep bb4 c3_k_7
  have l4_k : w.heap.size < w4.heap.size := by omega
  clear hb4 be3 bb4 c3_k_0 c3_k_1 c3_k_2 c3_k_3 c3_k_4 c3_k_5 c3_k_6 c3_k_7 l3_k
  simp only [IV]
  go_wp2_with fail
  refine (few_any b0 b1 b2 b3 b4 b5 b6 p n cap _).mono ?_
  rintro e w5 ⟨rfl, hb5⟩
  rw [decide_eq_true hf]
  have hz5 := hb5.size
  (try simp at hz5)
  have bb5 : Below w4.heap.size w4 w5 := (by repeat (first | exact Below.refl _ _ | assumption | refine below_drewN ?_ _ | refine Below.setCell ?_ (by first | (simp; done) | (simp; omega)) _ | refine Below.alloc ?_ (by first | (simp; done) | (simp; omega) | omega) _ | refine Below.drew ?_ | refine Below.trans ?_ (Below.mono (by assumption) (by first | (simp; done) | (simp; omega) | omega))))
  have be5 : Below w.heap.size w w5 := be4.trans (bb5.mono (by omega))
  have c5_k_0 : w5.cell? ⟨w.heap.size, 0, none⟩ = some (.bool b0) := cell_keep bb5 c4_k_0
  have c5_k_1 : w5.cell? ⟨w.heap.size, 1, none⟩ = some (.bool b1) := cell_keep bb5 c4_k_1
  have c5_k_2 : w5.cell? ⟨w.heap.size, 2, none⟩ = some (.bool b2) := cell_keep bb5 c4_k_2
  have c5_k_3 : w5.cell? ⟨w.heap.size, 3, none⟩ = some (.bool b3) := cell_keep bb5 c4_k_3
  have c5_k_4 : w5.cell? ⟨w.heap.size, 4, none⟩ = some (.bool b4) := cell_keep bb5 c4_k_4
  have c5_k_5 : w5.cell? ⟨w.heap.size, 5, none⟩ = some (.bool b5) := cell_keep bb5 c4_k_5
  have c5_k_6 : w5.cell? ⟨w.heap.size, 6, none⟩ = some (.bool b6) := cell_keep bb5 c4_k_6
  have c5_k_7 : w5.cell? ⟨w.heap.size, 7, none⟩ = some (.slice p n cap) := cell_keep bb5 c4_k_7
  have l5_k : w.heap.size < w5.heap.size := by omega
  clear hb5 be4 bb5 c4_k_0 c4_k_1 c4_k_2 c4_k_3 c4_k_4 c4_k_5 c4_k_6 c4_k_7 l4_k
  go_wp2_with fail
  refine ((HS.out _ (HH.out.below (by repeat (first | exact Below.refl _ _ | assumption | refine below_drewN ?_ _ | refine Below.setCell ?_ (by first | (simp; done) | (simp; omega)) _ | refine Below.alloc ?_ (by first | (simp; done) | (simp; omega) | omega) _ | refine Below.drew ?_ | refine Below.trans ?_ (Below.mono (by assumption) (by first | (simp; done) | (simp; omega) | omega)))))).2.2.1 _).mono ?_
  rintro e w6 ⟨rfl, hb6⟩
  rw [HX.out]
  have hz6 := hb6.size
  (try simp at hz6)
  have bb6 : Below w5.heap.size w5 w6 := (by repeat (first | exact Below.refl _ _ | assumption | refine below_drewN ?_ _ | refine Below.setCell ?_ (by first | (simp; done) | (simp; omega)) _ | refine Below.alloc ?_ (by first | (simp; done) | (simp; omega) | omega) _ | refine Below.drew ?_ | refine Below.trans ?_ (Below.mono (by assumption) (by first | (simp; done) | (simp; omega) | omega))))
  have be6 : Below w.heap.size w w6 := be5.trans (bb6.mono (by omega))
  have c6_k_0 : w6.cell? ⟨w.heap.size, 0, none⟩ = some (.bool b0) := cell_keep bb6 c5_k_0
  have c6_k_1 : w6.cell? ⟨w.heap.size, 1, none⟩ = some (.bool b1) := cell_keep bb6 c5_k_1
  have c6_k_2 : w6.cell? ⟨w.heap.size, 2, none⟩ = some (.bool b2) := cell_keep bb6 c5_k_2
  have c6_k_3 : w6.cell? ⟨w.heap.size, 3, none⟩ = some (.bool b3) := cell_keep bb6 c5_k_3
  have c6_k_4 : w6.cell? ⟨w.heap.size, 4, none⟩ = some (.bool b4) := cell_keep bb6 c5_k_4
  have c6_k_5 : w6.cell? ⟨w.heap.size, 5, none⟩ = some (.bool b5) := cell_keep bb6 c5_k_5
  have c6_k_6 : w6.cell? ⟨w.heap.size, 6, none⟩ = some (.bool b6) := cell_keep bb6 c5_k_6
  have c6_k_7 : w6.cell? ⟨w.heap.size, 7, none⟩ = some (.slice p n cap) := cell_keep bb6 c5_k_7
  have l6_k : w.heap.size < w6.heap.size := by omega
  clear hb6 be5 bb6 c5_k_0 c5_k_1 c5_k_2 c5_k_3 c5_k_4 c5_k_5 c5_k_6 c5_k_7 l5_k
  simp only [IV]
  go_wp2_with fail
  refine ((HS.out _ (HH.out.below (by repeat (first | exact Below.refl _ _ | assumption | refine below_drewN ?_ _ | refine Below.setCell ?_ (by first | (simp; done) | (simp; omega)) _ | refine Below.alloc ?_ (by first | (simp; done) | (simp; omega) | omega) _ | refine Below.drew ?_ | refine Below.trans ?_ (Below.mono (by assumption) (by first | (simp; done) | (simp; omega) | omega)))))).1 _ _).mono ?_
  rintro e w7 ⟨rfl, hb7⟩
  rw [HZ.out]
  have hz7 := hb7.size
  (try simp at hz7)
  have bb7 : Below w6.heap.size w6 w7 := (by repeat (first | exact Below.refl _ _ | assumption | refine below_drewN ?_ _ | refine Below.setCell ?_ (by first | (simp; done) | (simp; omega)) _ | refine Below.alloc ?_ (by first | (simp; done) | (simp; omega) | omega) _ | refine Below.drew ?_ | refine Below.trans ?_ (Below.mono (by assumption) (by first | (simp; done) | (simp; omega) | omega))))
  have be7 : Below w.heap.size w w7 := be6.trans (bb7.mono (by omega))
  have c7_k_0 : w7.cell? ⟨w.heap.size, 0, none⟩ = some (.bool b0) := cell_keep bb7 c6_k_0
  have c7_k_1 : w7.cell? ⟨w.heap.size, 1, none⟩ = some (.bool b1) := cell_keep bb7 c6_k_1
  have c7_k_2 : w7.cell? ⟨w.heap.size, 2, none⟩ = some (.bool b2) := cell_keep bb7 c6_k_2
  have c7_k_3 : w7.cell? ⟨w.heap.size, 3, none⟩ = some (.bool b3) := cell_keep bb7 c6_k_3
  have c7_k_4 : w7.cell? ⟨w.heap.size, 4, none⟩ = some (.bool b4) := cell_keep bb7 c6_k_4
  have c7_k_5 : w7.cell? ⟨w.heap.size, 5, none⟩ = some (.bool b5) := cell_keep bb7 c6_k_5
  have c7_k_6 : w7.cell? ⟨w.heap.size, 6, none⟩ = some (.bool b6) := cell_keep bb7 c6_k_6
  have c7_k_7 : w7.cell? ⟨w.heap.size, 7, none⟩ = some (.slice p n cap) := cell_keep bb7 c6_k_7
  have l7_k : w.heap.size < w7.heap.size := by omega
  clear hb7 be6 bb7 c6_k_0 c6_k_1 c6_k_2 c6_k_3 c6_k_4 c6_k_5 c6_k_6 c6_k_7 l6_k
  simp only [IV]
  have hq := HDE.out
  go_wp2_with fail
  refine ((HS.out _ (HH.out.below (by repeat (first | exact Below.refl _ _ | assumption | refine below_drewN ?_ _ | refine Below.setCell ?_ (by first | (simp; done) | (simp; omega)) _ | refine Below.alloc ?_ (by first | (simp; done) | (simp; omega) | omega) _ | refine Below.drew ?_ | refine Below.trans ?_ (Below.mono (by assumption) (by first | (simp; done) | (simp; omega) | omega)))))).1 _ _).mono ?_
  rintro e w8 ⟨rfl, hb8⟩
  rw [HS1.out]
  have hz8 := hb8.size
  (try simp at hz8)
  have bb8 : Below w7.heap.size w7 w8 := (by repeat (first | exact Below.refl _ _ | assumption | refine below_drewN ?_ _ | refine Below.setCell ?_ (by first | (simp; done) | (simp; omega)) _ | refine Below.alloc ?_ (by first | (simp; done) | (simp; omega) | omega) _ | refine Below.drew ?_ | refine Below.trans ?_ (Below.mono (by assumption) (by first | (simp; done) | (simp; omega) | omega))))
  have be8 : Below w.heap.size w w8 := be7.trans (bb8.mono (by omega))
  have c8_k_0 : w8.cell? ⟨w.heap.size, 0, none⟩ = some (.bool b0) := cell_keep bb8 c7_k_0
  have c8_k_1 : w8.cell? ⟨w.heap.size, 1, none⟩ = some (.bool b1) := cell_keep bb8 c7_k_1
  have c8_k_2 : w8.cell? ⟨w.heap.size, 2, none⟩ = some (.bool b2) := cell_keep bb8 c7_k_2
  have c8_k_3 : w8.cell? ⟨w.heap.size, 3, none⟩ = some (.bool b3) := cell_keep bb8 c7_k_3
  have c8_k_4 : w8.cell? ⟨w.heap.size, 4, none⟩ = some (.bool b4) := cell_keep bb8 c7_k_4
  have c8_k_5 : w8.cell? ⟨w.heap.size, 5, none⟩ = some (.bool b5) := cell_keep bb8 c7_k_5
  have c8_k_6 : w8.cell? ⟨w.heap.size, 6, none⟩ = some (.bool b6) := cell_keep bb8 c7_k_6
  have c8_k_7 : w8.cell? ⟨w.heap.size, 7, none⟩ = some (.slice p n cap) := cell_keep bb8 c7_k_7
  have l8_k : w.heap.size < w8.heap.size := by omega
  clear hb8 be7 bb8 c7_k_0 c7_k_1 c7_k_2 c7_k_3 c7_k_4 c7_k_5 c7_k_6 c7_k_7 l7_k
  simp only [IV]
  go_wp2_with fail
  refine ((HS.out _ (HH.out.below (by repeat (first | exact Below.refl _ _ | assumption | refine below_drewN ?_ _ | refine Below.setCell ?_ (by first | (simp; done) | (simp; omega)) _ | refine Below.alloc ?_ (by first | (simp; done) | (simp; omega) | omega) _ | refine Below.drew ?_ | refine Below.trans ?_ (Below.mono (by assumption) (by first | (simp; done) | (simp; omega) | omega)))))).2.2.2 _).mono ?_
  rintro e w9 ⟨rfl, hb9⟩
  rw [HBU.out]
  have hz9 := hb9.size
  (try simp at hz9)
  have bb9 : Below w8.heap.size w8 w9 := (by repeat (first | exact Below.refl _ _ | assumption | refine below_drewN ?_ _ | refine Below.setCell ?_ (by first | (simp; done) | (simp; omega)) _ | refine Below.alloc ?_ (by first | (simp; done) | (simp; omega) | omega) _ | refine Below.drew ?_ | refine Below.trans ?_ (Below.mono (by assumption) (by first | (simp; done) | (simp; omega) | omega))))
  have be9 : Below w.heap.size w w9 := be8.trans (bb9.mono (by omega))
  have c9_k_0 : w9.cell? ⟨w.heap.size, 0, none⟩ = some (.bool b0) := cell_keep bb9 c8_k_0
  have c9_k_1 : w9.cell? ⟨w.heap.size, 1, none⟩ = some (.bool b1) := cell_keep bb9 c8_k_1
  have c9_k_2 : w9.cell? ⟨w.heap.size, 2, none⟩ = some (.bool b2) := cell_keep bb9 c8_k_2
  have c9_k_3 : w9.cell? ⟨w.heap.size, 3, none⟩ = some (.bool b3) := cell_keep bb9 c8_k_3
  have c9_k_4 : w9.cell? ⟨w.heap.size, 4, none⟩ = some (.bool b4) := cell_keep bb9 c8_k_4
  have c9_k_5 : w9.cell? ⟨w.heap.size, 5, none⟩ = some (.bool b5) := cell_keep bb9 c8_k_5
  have c9_k_6 : w9.cell? ⟨w.heap.size, 6, none⟩ = some (.bool b6) := cell_keep bb9 c8_k_6
  have c9_k_7 : w9.cell? ⟨w.heap.size, 7, none⟩ = some (.slice p n cap) := cell_keep bb9 c8_k_7
  have l9_k : w.heap.size < w9.heap.size := by omega
  clear hb9 be8 bb9 c8_k_0 c8_k_1 c8_k_2 c8_k_3 c8_k_4 c8_k_5 c8_k_6 c8_k_7 l8_k
  go_wp2
  go_ret
  exact ⟨rfl, (by repeat (first | exact Below.refl _ _ | assumption | refine below_drewN ?_ _ | refine Below.setCell ?_ (by first | (simp; done) | (simp; omega)) _ | refine Below.alloc ?_ (by first | (simp; done) | (simp; omega) | omega) _ | refine Below.drew ?_ | refine Below.trans ?_ (Below.mono (by assumption) (by first | (simp; done) | (simp; omega) | omega))))⟩
set_option maxRecDepth 100000 in
set_option maxHeartbeats 3200000 in
theorem cnt_e1 (b0 b1 b2 b3 b4 b5 b6 : Bool) (p : Option Addr) (n cap : Nat) (hs : List Int) (FC FA : Int → Int → Int × Int) (FN : Int → Int × Int) (FB : Int → Bool) (d : Nat) (o q M E A B : Int) (w : World) (hE : Env w) (hh : Hols w p hs) (hS : CalS b0 b1 b2 b3 b4 b5 b6 p n cap hs FC FA FN FB) (hf : n ≤ 500) (hm : (d : Int) + o % 500 = M) (hn : M + q % 500 = E) (ha : FC d M = (A, 0)) (hb : FC M E = (B, 0)) (hg : FC d E = (A + B, 0)) (a0 : 0 ≤ A) (b0' : 0 ≤ B) (ab : A + B ≤ E - d) (dE : E ≤ 73048) (dd : (d : Int) ≤ E) (o0 : 0 ≤ o) (o1 : o ≤ 65535) (q0 : 0 ≤ q) (q1 : q ≤ 65535) (r : Int) (hx : FN d = (r, 0)) (hz : FC d r = (0, 0)) (hde : ((d : Int) == 73048) = false) (hs1 : FC d (d + 1) = (0, 0)) (hbu : FB d = false) :
    Calls Tryd.prog 8 #[.agg #[.bool b0, .bool b1, .bool b2, .bool b3, .bool b4, .bool b5, .bool b6, .slice p n cap], .int .i64 (d : Int), .int .u16 o, .int .u16 q] w fun e w' => e = .returned (.bool true) ∧ Below w.heap.size w w' := by
  have HE := Lib.hid hE
  have HH := Lib.hid hh
  have HS := Lib.hid hS
  have HM := Lib.hid hm
  have HN := Lib.hid hn
  have HA := Lib.hid ha
  have HB := Lib.hid hb
  have HG := Lib.hid hg
  have HX := Lib.hid hx
  have HZ := Lib.hid hz
  have HS1 := Lib.hid hs1
  have HBU := Lib.hid hbu
  have HDE := Lib.hid hde
  clear hE hh hS hm hn ha hb hg hx hz hs1 hbu hde
  go_enter Tryd.func8, Tryd.ntmps8
  go_wp2_with fail
  refine (head_any _ (HE.out.below (by repeat (first | exact Below.refl _ _ | assumption | refine below_drewN ?_ _ | refine Below.setCell ?_ (by first | (simp; done) | (simp; omega)) _ | refine Below.alloc ?_ (by first | (simp; done) | (simp; omega) | omega) _ | refine Below.drew ?_ | refine Below.trans ?_ (Below.mono (by assumption) (by first | (simp; done) | (simp; omega) | omega)))))).mono ?_
  rintro e w1 ⟨rfl, hb1⟩
  have hz1 := hb1.size
  (try simp at hz1)
  have be1 : Below w.heap.size w w1 := (by repeat (first | exact Below.refl _ _ | assumption | refine below_drewN ?_ _ | refine Below.setCell ?_ (by first | (simp; done) | (simp; omega)) _ | refine Below.alloc ?_ (by first | (simp; done) | (simp; omega) | omega) _ | refine Below.drew ?_ | refine Below.trans ?_ (Below.mono (by assumption) (by first | (simp; done) | (simp; omega) | omega))))
  have c1_k_0 : w1.cell? ⟨w.heap.size, 0, none⟩ = some (.bool b0) := cell_keep hb1 (by go_simp)
  have c1_k_1 : w1.cell? ⟨w.heap.size, 1, none⟩ = some (.bool b1) := cell_keep hb1 (by go_simp)
  have c1_k_2 : w1.cell? ⟨w.heap.size, 2, none⟩ = some (.bool b2) := cell_keep hb1 (by go_simp)
  have c1_k_3 : w1.cell? ⟨w.heap.size, 3, none⟩ = some (.bool b3) := cell_keep hb1 (by go_simp)
  have c1_k_4 : w1.cell? ⟨w.heap.size, 4, none⟩ = some (.bool b4) := cell_keep hb1 (by go_simp)
  have c1_k_5 : w1.cell? ⟨w.heap.size, 5, none⟩ = some (.bool b5) := cell_keep hb1 (by go_simp)
  have c1_k_6 : w1.cell? ⟨w.heap.size, 6, none⟩ = some (.bool b6) := cell_keep hb1 (by go_simp)
  have c1_k_7 : w1.cell? ⟨w.heap.size, 7, none⟩ = some (.slice p n cap) := cell_keep hb1 (by go_simp)
  have l1_k : w.heap.size < w1.heap.size := by omega
  clear hb1
  go_wp2_with fail
  simp only [HM.out, HN.out]
  go_wp2_with fail
  refine ((HS.out _ (HH.out.below (by repeat (first | exact Below.refl _ _ | assumption | refine below_drewN ?_ _ | refine Below.setCell ?_ (by first | (simp; done) | (simp; omega)) _ | refine Below.alloc ?_ (by first | (simp; done) | (simp; omega) | omega) _ | refine Below.drew ?_ | refine Below.trans ?_ (Below.mono (by assumption) (by first | (simp; done) | (simp; omega) | omega)))))).1 _ _).mono ?_
  rintro e w2 ⟨rfl, hb2⟩
  rw [HA.out]
  have hz2 := hb2.size
  (try simp at hz2)
  have bb2 : Below w1.heap.size w1 w2 := (by repeat (first | exact Below.refl _ _ | assumption | refine below_drewN ?_ _ | refine Below.setCell ?_ (by first | (simp; done) | (simp; omega)) _ | refine Below.alloc ?_ (by first | (simp; done) | (simp; omega) | omega) _ | refine Below.drew ?_ | refine Below.trans ?_ (Below.mono (by assumption) (by first | (simp; done) | (simp; omega) | omega))))
  have be2 : Below w.heap.size w w2 := be1.trans (bb2.mono (by omega))
  have c2_k_0 : w2.cell? ⟨w.heap.size, 0, none⟩ = some (.bool b0) := cell_keep bb2 c1_k_0
  have c2_k_1 : w2.cell? ⟨w.heap.size, 1, none⟩ = some (.bool b1) := cell_keep bb2 c1_k_1
  have c2_k_2 : w2.cell? ⟨w.heap.size, 2, none⟩ = some (.bool b2) := cell_keep bb2 c1_k_2
  have c2_k_3 : w2.cell? ⟨w.heap.size, 3, none⟩ = some (.bool b3) := cell_keep bb2 c1_k_3
  have c2_k_4 : w2.cell? ⟨w.heap.size, 4, none⟩ = some (.bool b4) := cell_keep bb2 c1_k_4
  have c2_k_5 : w2.cell? ⟨w.heap.size, 5, none⟩ = some (.bool b5) := cell_keep bb2 c1_k_5
  have c2_k_6 : w2.cell? ⟨w.heap.size, 6, none⟩ = some (.bool b6) := cell_keep bb2 c1_k_6
  have c2_k_7 : w2.cell? ⟨w.heap.size, 7, none⟩ = some (.slice p n cap) := cell_keep bb2 c1_k_7
  have l2_k : w.heap.size < w2.heap.size := by omega
  clear hb2 be1 bb2 c1_k_0 c1_k_1 c1_k_2 c1_k_3 c1_k_4 c1_k_5 c1_k_6 c1_k_7 l1_k
  simp only [IV]
  go_wp2_with fail
  refine ((HS.out _ (HH.out.below (by repeat (first | exact Below.refl _ _ | assumption | refine below_drewN ?_ _ | refine Below.setCell ?_ (by first | (simp; done) | (simp; omega)) _ | refine Below.alloc ?_ (by first | (simp; done) | (simp; omega) | omega) _ | refine Below.drew ?_ | refine Below.trans ?_ (Below.mono (by assumption) (by first | (simp; done) | (simp; omega) | omega)))))).1 _ _).mono ?_
  rintro e w3 ⟨rfl, hb3⟩
  rw [HB.out]
  have hz3 := hb3.size
  (try simp at hz3)
  have bb3 : Below w2.heap.size w2 w3 := (by repeat (first | exact Below.refl _ _ | assumption | refine below_drewN ?_ _ | refine Below.setCell ?_ (by first | (simp; done) | (simp; omega)) _ | refine Below.alloc ?_ (by first | (simp; done) | (simp; omega) | omega) _ | refine Below.drew ?_ | refine Below.trans ?_ (Below.mono (by assumption) (by first | (simp; done) | (simp; omega) | omega))))
  have be3 : Below w.heap.size w w3 := be2.trans (bb3.mono (by omega))
  have c3_k_0 : w3.cell? ⟨w.heap.size, 0, none⟩ = some (.bool b0) := cell_keep bb3 c2_k_0
  have c3_k_1 : w3.cell? ⟨w.heap.size, 1, none⟩ = some (.bool b1) := cell_keep bb3 c2_k_1
  have c3_k_2 : w3.cell? ⟨w.heap.size, 2, none⟩ = some (.bool b2) := cell_keep bb3 c2_k_2
  have c3_k_3 : w3.cell? ⟨w.heap.size, 3, none⟩ = some (.bool b3) := cell_keep bb3 c2_k_3
  have c3_k_4 : w3.cell? ⟨w.heap.size, 4, none⟩ = some (.bool b4) := cell_keep bb3 c2_k_4
  have c3_k_5 : w3.cell? ⟨w.heap.size, 5, none⟩ = some (.bool b5) := cell_keep bb3 c2_k_5
  have c3_k_6 : w3.cell? ⟨w.heap.size, 6, none⟩ = some (.bool b6) := cell_keep bb3 c2_k_6
  have c3_k_7 : w3.cell? ⟨w.heap.size, 7, none⟩ = some (.slice p n cap) := cell_keep bb3 c2_k_7
  have l3_k : w.heap.size < w3.heap.size := by omega
  clear hb3 be2 bb3 c2_k_0 c2_k_1 c2_k_2 c2_k_3 c2_k_4 c2_k_5 c2_k_6 c2_k_7 l2_k
  simp only [IV]
  go_wp2_with fail
  refine ((HS.out _ (HH.out.below (by repeat (first | exact Below.refl _ _ | assumption | refine below_drewN ?_ _ | refine Below.setCell ?_ (by first | (simp; done) | (simp; omega)) _ | refine Below.alloc ?_ (by first | (simp; done) | (simp; omega) | omega) _ | refine Below.drew ?_ | refine Below.trans ?_ (Below.mono (by assumption) (by first | (simp; done) | (simp; omega) | omega)))))).1 _ _).mono ?_
  rintro e w4 ⟨rfl, hb4⟩
  rw [HG.out]
  have hz4 := hb4.size
  (try simp at hz4)
  have bb4 : Below w3.heap.size w3 w4 := (by repeat (first | exact Below.refl _ _ | assumption | refine below_drewN ?_ _ | refine Below.setCell ?_ (by first | (simp; done) | (simp; omega)) _ | refine Below.alloc ?_ (by first | (simp; done) | (simp; omega) | omega) _ | refine Below.drew ?_ | refine Below.trans ?_ (Below.mono (by assumption) (by first | (simp; done) | (simp; omega) | omega))))
  have be4 : Below w.heap.size w w4 := be3.trans (bb4.mono (by omega))
  have c4_k_0 : w4.cell? ⟨w.heap.size, 0, none⟩ = some (.bool b0) := cell_keep bb4 c3_k_0
  have c4_k_1 : w4.cell? ⟨w.heap.size, 1, none⟩ = some (.bool b1) := cell_keep bb4 c3_k_1
  have c4_k_2 : w4.cell? ⟨w.heap.size, 2, none⟩ = some (.bool b2) := cell_keep bb4 c3_k_2
  have c4_k_3 : w4.cell? ⟨w.heap.size, 3, none⟩ = some (.bool b3) := cell_keep bb4 c3_k_3
  have c4_k_4 : w4.cell? ⟨w.heap.size, 4, none⟩ = some (.bool b4) := cell_keep bb4 c3_k_4
  have c4_k_5 : w4.cell? ⟨w.heap.size, 5, none⟩ = some (.bool b5) := cell_keep bb4 c3_k_5
  have c4_k_6 : w4.cell? ⟨w.heap.size, 6, none⟩ = some (.bool b6) := cell_keep bb4 c3_k_6
  have c4_k_7 : w4.cell? ⟨w.heap.size, 7, none⟩ = some (.slice p n cap) := cell_keep bb4 c3_k_7
  have l4_k : w.heap.size < w4.heap.size := by omega
  clear hb4 be3 bb4 c3_k_0 c3_k_1 c3_k_2 c3_k_3 c3_k_4 c3_k_5 c3_k_6 c3_k_7 l3_k
  simp only [IV]
  go_wp2_with fail
  refine (few_any b0 b1 b2 b3 b4 b5 b6 p n cap _).mono ?_
  rintro e w5 ⟨rfl, hb5⟩
  rw [decide_eq_true hf]
  have hz5 := hb5.size
  (try simp at hz5)
  have bb5 : Below w4.heap.size w4 w5 := (by repeat (first | exact Below.refl _ _ | assumption | refine below_drewN ?_ _ | refine Below.setCell ?_ (by first | (simp; done) | (simp; omega)) _ | refine Below.alloc ?_ (by first | (simp; done) | (simp; omega) | omega) _ | refine Below.drew ?_ | refine Below.trans ?_ (Below.mono (by assumption) (by first | (simp; done) | (simp; omega) | omega))))
  have be5 : Below w.heap.size w w5 := be4.trans (bb5.mono (by omega))
  have c5_k_0 : w5.cell? ⟨w.heap.size, 0, none⟩ = some (.bool b0) := cell_keep bb5 c4_k_0
  have c5_k_1 : w5.cell? ⟨w.heap.size, 1, none⟩ = some (.bool b1) := cell_keep bb5 c4_k_1
  have c5_k_2 : w5.cell? ⟨w.heap.size, 2, none⟩ = some (.bool b2) := cell_keep bb5 c4_k_2
  have c5_k_3 : w5.cell? ⟨w.heap.size, 3, none⟩ = some (.bool b3) := cell_keep bb5 c4_k_3
  have c5_k_4 : w5.cell? ⟨w.heap.size, 4, none⟩ = some (.bool b4) := cell_keep bb5 c4_k_4
  have c5_k_5 : w5.cell? ⟨w.heap.size, 5, none⟩ = some (.bool b5) := cell_keep bb5 c4_k_5
  have c5_k_6 : w5.cell? ⟨w.heap.size, 6, none⟩ = some (.bool b6) := cell_keep bb5 c4_k_6
  have c5_k_7 : w5.cell? ⟨w.heap.size, 7, none⟩ = some (.slice p n cap) := cell_keep bb5 c4_k_7
  have l5_k : w.heap.size < w5.heap.size := by omega
  clear hb5 be4 bb5 c4_k_0 c4_k_1 c4_k_2 c4_k_3 c4_k_4 c4_k_5 c4_k_6 c4_k_7 l4_k
  go_wp2_with fail
  refine ((HS.out _ (HH.out.below (by repeat (first | exact Below.refl _ _ | assumption | refine below_drewN ?_ _ | refine Below.setCell ?_ (by first | (simp; done) | (simp; omega)) _ | refine Below.alloc ?_ (by first | (simp; done) | (simp; omega) | omega) _ | refine Below.drew ?_ | refine Below.trans ?_ (Below.mono (by assumption) (by first | (simp; done) | (simp; omega) | omega)))))).2.2.1 _).mono ?_
  rintro e w6 ⟨rfl, hb6⟩
  rw [HX.out]
  have hz6 := hb6.size
  (try simp at hz6)
  have bb6 : Below w5.heap.size w5 w6 := (by repeat (first | exact Below.refl _ _ | assumption | refine below_drewN ?_ _ | refine Below.setCell ?_ (by first | (simp; done) | (simp; omega)) _ | refine Below.alloc ?_ (by first | (simp; done) | (simp; omega) | omega) _ | refine Below.drew ?_ | refine Below.trans ?_ (Below.mono (by assumption) (by first | (simp; done) | (simp; omega) | omega))))
  have be6 : Below w.heap.size w w6 := be5.trans (bb6.mono (by omega))
  have c6_k_0 : w6.cell? ⟨w.heap.size, 0, none⟩ = some (.bool b0) := cell_keep bb6 c5_k_0
  have c6_k_1 : w6.cell? ⟨w.heap.size, 1, none⟩ = some (.bool b1) := cell_keep bb6 c5_k_1
  have c6_k_2 : w6.cell? ⟨w.heap.size, 2, none⟩ = some (.bool b2) := cell_keep bb6 c5_k_2
  have c6_k_3 : w6.cell? ⟨w.heap.size, 3, none⟩ = some (.bool b3) := cell_keep bb6 c5_k_3
  have c6_k_4 : w6.cell? ⟨w.heap.size, 4, none⟩ = some (.bool b4) := cell_keep bb6 c5_k_4
  have c6_k_5 : w6.cell? ⟨w.heap.size, 5, none⟩ = some (.bool b5) := cell_keep bb6 c5_k_5
  have c6_k_6 : w6.cell? ⟨w.heap.size, 6, none⟩ = some (.bool b6) := cell_keep bb6 c5_k_6
  have c6_k_7 : w6.cell? ⟨w.heap.size, 7, none⟩ = some (.slice p n cap) := cell_keep bb6 c5_k_7
  have l6_k : w.heap.size < w6.heap.size := by omega
  clear hb6 be5 bb6 c5_k_0 c5_k_1 c5_k_2 c5_k_3 c5_k_4 c5_k_5 c5_k_6 c5_k_7 l5_k
  simp only [IV]
  go_wp2_with fail
  refine ((HS.out _ (HH.out.below (by repeat (first | exact Below.refl _ _ | assumption | refine below_drewN ?_ _ | refine Below.setCell ?_ (by first | (simp; done) | (simp; omega)) _ | refine Below.alloc ?_ (by first | (simp; done) | (simp; omega) | omega) _ | refine Below.drew ?_ | refine Below.trans ?_ (Below.mono (by assumption) (by first | (simp; done) | (simp; omega) | omega)))))).1 _ _).mono ?_
  rintro e w7 ⟨rfl, hb7⟩
  rw [HZ.out]
  have hz7 := hb7.size
  (try simp at hz7)
  have bb7 : Below w6.heap.size w6 w7 := (by repeat (first | exact Below.refl _ _ | assumption | refine below_drewN ?_ _ | refine Below.setCell ?_ (by first | (simp; done) | (simp; omega)) _ | refine Below.alloc ?_ (by first | (simp; done) | (simp; omega) | omega) _ | refine Below.drew ?_ | refine Below.trans ?_ (Below.mono (by assumption) (by first | (simp; done) | (simp; omega) | omega))))
  have be7 : Below w.heap.size w w7 := be6.trans (bb7.mono (by omega))
  have c7_k_0 : w7.cell? ⟨w.heap.size, 0, none⟩ = some (.bool b0) := cell_keep bb7 c6_k_0
  have c7_k_1 : w7.cell? ⟨w.heap.size, 1, none⟩ = some (.bool b1) := cell_keep bb7 c6_k_1
  have c7_k_2 : w7.cell? ⟨w.heap.size, 2, none⟩ = some (.bool b2) := cell_keep bb7 c6_k_2
  have c7_k_3 : w7.cell? ⟨w.heap.size, 3, none⟩ = some (.bool b3) := cell_keep bb7 c6_k_3
  have c7_k_4 : w7.cell? ⟨w.heap.size, 4, none⟩ = some (.bool b4) := cell_keep bb7 c6_k_4
  have c7_k_5 : w7.cell? ⟨w.heap.size, 5, none⟩ = some (.bool b5) := cell_keep bb7 c6_k_5
  have c7_k_6 : w7.cell? ⟨w.heap.size, 6, none⟩ = some (.bool b6) := cell_keep bb7 c6_k_6
  have c7_k_7 : w7.cell? ⟨w.heap.size, 7, none⟩ = some (.slice p n cap) := cell_keep bb7 c6_k_7
  have l7_k : w.heap.size < w7.heap.size := by omega
  clear hb7 be6 bb7 c6_k_0 c6_k_1 c6_k_2 c6_k_3 c6_k_4 c6_k_5 c6_k_6 c6_k_7 l6_k
  simp only [IV]
  have hq := HDE.out
  go_wp2_with fail
  refine ((HS.out _ (HH.out.below (by repeat (first | exact Below.refl _ _ | assumption | refine below_drewN ?_ _ | refine Below.setCell ?_ (by first | (simp; done) | (simp; omega)) _ | refine Below.alloc ?_ (by first | (simp; done) | (simp; omega) | omega) _ | refine Below.drew ?_ | refine Below.trans ?_ (Below.mono (by assumption) (by first | (simp; done) | (simp; omega) | omega)))))).1 _ _).mono ?_
  rintro e w8 ⟨rfl, hb8⟩
  rw [HS1.out]
  have hz8 := hb8.size
  (try simp at hz8)
  have bb8 : Below w7.heap.size w7 w8 := (by repeat (first | exact Below.refl _ _ | assumption | refine below_drewN ?_ _ | refine Below.setCell ?_ (by first | (simp; done) | (simp; omega)) _ | refine Below.alloc ?_ (by first | (simp; done) | (simp; omega) | omega) _ | refine Below.drew ?_ | refine Below.trans ?_ (Below.mono (by assumption) (by first | (simp; done) | (simp; omega) | omega))))
  have be8 : Below w.heap.size w w8 := be7.trans (bb8.mono (by omega))
  have c8_k_0 : w8.cell? ⟨w.heap.size, 0, none⟩ = some (.bool b0) := cell_keep bb8 c7_k_0
  have c8_k_1 : w8.cell? ⟨w.heap.size, 1, none⟩ = some (.bool b1) := cell_keep bb8 c7_k_1
  have c8_k_2 : w8.cell? ⟨w.heap.size, 2, none⟩ = some (.bool b2) := cell_keep bb8 c7_k_2
  have c8_k_3 : w8.cell? ⟨w.heap.size, 3, none⟩ = some (.bool b3) := cell_keep bb8 c7_k_3
  have c8_k_4 : w8.cell? ⟨w.heap.size, 4, none⟩ = some (.bool b4) := cell_keep bb8 c7_k_4
  have c8_k_5 : w8.cell? ⟨w.heap.size, 5, none⟩ = some (.bool b5) := cell_keep bb8 c7_k_5
  have c8_k_6 : w8.cell? ⟨w.heap.size, 6, none⟩ = some (.bool b6) := cell_keep bb8 c7_k_6
  have c8_k_7 : w8.cell? ⟨w.heap.size, 7, none⟩ = some (.slice p n cap) := cell_keep bb8 c7_k_7
  have l8_k : w.heap.size < w8.heap.size := by omega
  clear hb8 be7 bb8 c7_k_0 c7_k_1 c7_k_2 c7_k_3 c7_k_4 c7_k_5 c7_k_6 c7_k_7 l7_k
  simp only [IV]
  go_wp2_with fail
  refine ((HS.out _ (HH.out.below (by repeat (first | exact Below.refl _ _ | assumption | refine below_drewN ?_ _ | refine Below.setCell ?_ (by first | (simp; done) | (simp; omega)) _ | refine Below.alloc ?_ (by first | (simp; done) | (simp; omega) | omega) _ | refine Below.drew ?_ | refine Below.trans ?_ (Below.mono (by assumption) (by first | (simp; done) | (simp; omega) | omega)))))).2.2.2 _).mono ?_
  rintro e w9 ⟨rfl, hb9⟩
  rw [HBU.out]
  have hz9 := hb9.size
  (try simp at hz9)
  have bb9 : Below w8.heap.size w8 w9 := (by repeat (first | exact Below.refl _ _ | assumption | refine below_drewN ?_ _ | refine Below.setCell ?_ (by first | (simp; done) | (simp; omega)) _ | refine Below.alloc ?_ (by first | (simp; done) | (simp; omega) | omega) _ | refine Below.drew ?_ | refine Below.trans ?_ (Below.mono (by assumption) (by first | (simp; done) | (simp; omega) | omega))))
  have be9 : Below w.heap.size w w9 := be8.trans (bb9.mono (by omega))
  have c9_k_0 : w9.cell? ⟨w.heap.size, 0, none⟩ = some (.bool b0) := cell_keep bb9 c8_k_0
  have c9_k_1 : w9.cell? ⟨w.heap.size, 1, none⟩ = some (.bool b1) := cell_keep bb9 c8_k_1
  have c9_k_2 : w9.cell? ⟨w.heap.size, 2, none⟩ = some (.bool b2) := cell_keep bb9 c8_k_2
  have c9_k_3 : w9.cell? ⟨w.heap.size, 3, none⟩ = some (.bool b3) := cell_keep bb9 c8_k_3
  have c9_k_4 : w9.cell? ⟨w.heap.size, 4, none⟩ = some (.bool b4) := cell_keep bb9 c8_k_4
  have c9_k_5 : w9.cell? ⟨w.heap.size, 5, none⟩ = some (.bool b5) := cell_keep bb9 c8_k_5
  have c9_k_6 : w9.cell? ⟨w.heap.size, 6, none⟩ = some (.bool b6) := cell_keep bb9 c8_k_6
  have c9_k_7 : w9.cell? ⟨w.heap.size, 7, none⟩ = some (.slice p n cap) := cell_keep bb9 c8_k_7
  have l9_k : w.heap.size < w9.heap.size := by omega
  clear hb9 be8 bb9 c8_k_0 c8_k_1 c8_k_2 c8_k_3 c8_k_4 c8_k_5 c8_k_6 c8_k_7 l8_k
  go_wp2
  go_ret
  exact ⟨rfl, (by repeat (first | exact Below.refl _ _ | assumption | refine below_drewN ?_ _ | refine Below.setCell ?_ (by first | (simp; done) | (simp; omega)) _ | refine Below.alloc ?_ (by first | (simp; done) | (simp; omega) | omega) _ | refine Below.drew ?_ | refine Below.trans ?_ (Below.mono (by assumption) (by first | (simp; done) | (simp; omega) | omega))))⟩
set_option maxRecDepth 100000 in
set_option maxHeartbeats 3200000 in
theorem cnt_c0 (b0 b1 b2 b3 b4 b5 b6 : Bool) (p : Option Addr) (n cap : Nat) (hs : List Int) (FC FA : Int → Int → Int × Int) (FN : Int → Int × Int) (FB : Int → Bool) (d : Nat) (o q M E A B : Int) (w : World) (hE : Env w) (hh : Hols w p hs) (hS : CalS b0 b1 b2 b3 b4 b5 b6 p n cap hs FC FA FN FB) (hf : n ≤ 500) (hm : (d : Int) + o % 500 = M) (hn : M + q % 500 = E) (ha : FC d M = (A, 0)) (hb : FC M E = (B, 0)) (hg : FC d E = (A + B, 0)) (a0 : 0 ≤ A) (b0' : 0 ≤ B) (ab : A + B ≤ E - d) (dE : E ≤ 73048) (dd : (d : Int) ≤ E) (o0 : 0 ≤ o) (o1 : o ≤ 65535) (q0 : 0 ≤ q) (q1 : q ≤ 65535) (hx : FN d = (0, 2)) (de : 73048 ≤ (d : Int)) :
    Calls Tryd.prog 8 #[.agg #[.bool b0, .bool b1, .bool b2, .bool b3, .bool b4, .bool b5, .bool b6, .slice p n cap], .int .i64 (d : Int), .int .u16 o, .int .u16 q] w fun e w' => e = .returned (.bool true) ∧ Below w.heap.size w w' := by
  have HE := Lib.hid hE
  have HH := Lib.hid hh
  have HS := Lib.hid hS
  have HM := Lib.hid hm
  have HN := Lib.hid hn
  have HA := Lib.hid ha
  have HB := Lib.hid hb
  have HG := Lib.hid hg
  have HX := Lib.hid hx
  clear hE hh hS hm hn ha hb hg hx
  go_enter Tryd.func8, Tryd.ntmps8
  go_wp2_with fail
  refine (head_any _ (HE.out.below (by repeat (first | exact Below.refl _ _ | assumption | refine below_drewN ?_ _ | refine Below.setCell ?_ (by first | (simp; done) | (simp; omega)) _ | refine Below.alloc ?_ (by first | (simp; done) | (simp; omega) | omega) _ | refine Below.drew ?_ | refine Below.trans ?_ (Below.mono (by assumption) (by first | (simp; done) | (simp; omega) | omega)))))).mono ?_
  rintro e w1 ⟨rfl, hb1⟩
  have hz1 := hb1.size
  (try simp at hz1)
  have be1 : Below w.heap.size w w1 := (by repeat (first | exact Below.refl _ _ | assumption | refine below_drewN ?_ _ | refine Below.setCell ?_ (by first | (simp; done) | (simp; omega)) _ | refine Below.alloc ?_ (by first | (simp; done) | (simp; omega) | omega) _ | refine Below.drew ?_ | refine Below.trans ?_ (Below.mono (by assumption) (by first | (simp; done) | (simp; omega) | omega))))
  have c1_k_0 : w1.cell? ⟨w.heap.size, 0, none⟩ = some (.bool b0) := cell_keep hb1 (by go_simp)
  have c1_k_1 : w1.cell? ⟨w.heap.size, 1, none⟩ = some (.bool b1) := cell_keep hb1 (by go_simp)
  have c1_k_2 : w1.cell? ⟨w.heap.size, 2, none⟩ = some (.bool b2) := cell_keep hb1 (by go_simp)
  have c1_k_3 : w1.cell? ⟨w.heap.size, 3, none⟩ = some (.bool b3) := cell_keep hb1 (by go_simp)
  have c1_k_4 : w1.cell? ⟨w.heap.size, 4, none⟩ = some (.bool b4) := cell_keep hb1 (by go_simp)
  have c1_k_5 : w1.cell? ⟨w.heap.size, 5, none⟩ = some (.bool b5) := cell_keep hb1 (by go_simp)
  have c1_k_6 : w1.cell? ⟨w.heap.size, 6, none⟩ = some (.bool b6) := cell_keep hb1 (by go_simp)
  have c1_k_7 : w1.cell? ⟨w.heap.size, 7, none⟩ = some (.slice p n cap) := cell_keep hb1 (by go_simp)
  have l1_k : w.heap.size < w1.heap.size := by omega
  clear hb1
  go_wp2_with fail
  simp only [HM.out, HN.out]
  go_wp2_with fail
  refine ((HS.out _ (HH.out.below (by repeat (first | exact Below.refl _ _ | assumption | refine below_drewN ?_ _ | refine Below.setCell ?_ (by first | (simp; done) | (simp; omega)) _ | refine Below.alloc ?_ (by first | (simp; done) | (simp; omega) | omega) _ | refine Below.drew ?_ | refine Below.trans ?_ (Below.mono (by assumption) (by first | (simp; done) | (simp; omega) | omega)))))).1 _ _).mono ?_
  rintro e w2 ⟨rfl, hb2⟩
  rw [HA.out]
  have hz2 := hb2.size
  (try simp at hz2)
  have bb2 : Below w1.heap.size w1 w2 := (by repeat (first | exact Below.refl _ _ | assumption | refine below_drewN ?_ _ | refine Below.setCell ?_ (by first | (simp; done) | (simp; omega)) _ | refine Below.alloc ?_ (by first | (simp; done) | (simp; omega) | omega) _ | refine Below.drew ?_ | refine Below.trans ?_ (Below.mono (by assumption) (by first | (simp; done) | (simp; omega) | omega))))
  have be2 : Below w.heap.size w w2 := be1.trans (bb2.mono (by omega))
  have c2_k_0 : w2.cell? ⟨w.heap.size, 0, none⟩ = some (.bool b0) := cell_keep bb2 c1_k_0
  have c2_k_1 : w2.cell? ⟨w.heap.size, 1, none⟩ = some (.bool b1) := cell_keep bb2 c1_k_1
  have c2_k_2 : w2.cell? ⟨w.heap.size, 2, none⟩ = some (.bool b2) := cell_keep bb2 c1_k_2
  have c2_k_3 : w2.cell? ⟨w.heap.size, 3, none⟩ = some (.bool b3) := cell_keep bb2 c1_k_3
  have c2_k_4 : w2.cell? ⟨w.heap.size, 4, none⟩ = some (.bool b4) := cell_keep bb2 c1_k_4
  have c2_k_5 : w2.cell? ⟨w.heap.size, 5, none⟩ = some (.bool b5) := cell_keep bb2 c1_k_5
  have c2_k_6 : w2.cell? ⟨w.heap.size, 6, none⟩ = some (.bool b6) := cell_keep bb2 c1_k_6
  have c2_k_7 : w2.cell? ⟨w.heap.size, 7, none⟩ = some (.slice p n cap) := cell_keep bb2 c1_k_7
  have l2_k : w.heap.size < w2.heap.size := by omega
  clear hb2 be1 bb2 c1_k_0 c1_k_1 c1_k_2 c1_k_3 c1_k_4 c1_k_5 c1_k_6 c1_k_7 l1_k
  simp only [IV]
  go_wp2_with fail
  refine ((HS.out _ (HH.out.below (by repeat (first | exact Below.refl _ _ | assumption | refine below_drewN ?_ _ | refine Below.setCell ?_ (by first | (simp; done) | (simp; omega)) _ | refine Below.alloc ?_ (by first | (simp; done) | (simp; omega) | omega) _ | refine Below.drew ?_ | refine Below.trans ?_ (Below.mono (by assumption) (by first | (simp; done) | (simp; omega) | omega)))))).1 _ _).mono ?_
  rintro e w3 ⟨rfl, hb3⟩
  rw [HB.out]
  have hz3 := hb3.size
  (try simp at hz3)
  have bb3 : Below w2.heap.size w2 w3 := (by repeat (first | exact Below.refl _ _ | assumption | refine below_drewN ?_ _ | refine Below.setCell ?_ (by first | (simp; done) | (simp; omega)) _ | refine Below.alloc ?_ (by first | (simp; done) | (simp; omega) | omega) _ | refine Below.drew ?_ | refine Below.trans ?_ (Below.mono (by assumption) (by first | (simp; done) | (simp; omega) | omega))))
  have be3 : Below w.heap.size w w3 := be2.trans (bb3.mono (by omega))
  have c3_k_0 : w3.cell? ⟨w.heap.size, 0, none⟩ = some (.bool b0) := cell_keep bb3 c2_k_0
  have c3_k_1 : w3.cell? ⟨w.heap.size, 1, none⟩ = some (.bool b1) := cell_keep bb3 c2_k_1
  have c3_k_2 : w3.cell? ⟨w.heap.size, 2, none⟩ = some (.bool b2) := cell_keep bb3 c2_k_2
  have c3_k_3 : w3.cell? ⟨w.heap.size, 3, none⟩ = some (.bool b3) := cell_keep bb3 c2_k_3
  have c3_k_4 : w3.cell? ⟨w.heap.size, 4, none⟩ = some (.bool b4) := cell_keep bb3 c2_k_4
  have c3_k_5 : w3.cell? ⟨w.heap.size, 5, none⟩ = some (.bool b5) := cell_keep bb3 c2_k_5
  have c3_k_6 : w3.cell? ⟨w.heap.size, 6, none⟩ = some (.bool b6) := cell_keep bb3 c2_k_6
  have c3_k_7 : w3.cell? ⟨w.heap.size, 7, none⟩ = some (.slice p n cap) := cell_keep bb3 c2_k_7
  have l3_k : w.heap.size < w3.heap.size := by omega
  clear hb3 be2 bb3 c2_k_0 c2_k_1 c2_k_2 c2_k_3 c2_k_4 c2_k_5 c2_k_6 c2_k_7 l2_k
  simp only [IV]
  go_wp2_with fail
  refine ((HS.out _ (HH.out.below (by repeat (first | exact Below.refl _ _ | assumption | refine below_drewN ?_ _ | refine Below.setCell ?_ (by first | (simp; done) | (simp; omega)) _ | refine Below.alloc ?_ (by first | (simp; done) | (simp; omega) | omega) _ | refine Below.drew ?_ | refine Below.trans ?_ (Below.mono (by assumption) (by first | (simp; done) | (simp; omega) | omega)))))).1 _ _).mono ?_
  rintro e w4 ⟨rfl, hb4⟩
  rw [HG.out]
  have hz4 := hb4.size
  (try simp at hz4)
  have bb4 : Below w3.heap.size w3 w4 := (by repeat (first | exact Below.refl _ _ | assumption | refine below_drewN ?_ _ | refine Below.setCell ?_ (by first | (simp; done) | (simp; omega)) _ | refine Below.alloc ?_ (by first | (simp; done) | (simp; omega) | omega) _ | refine Below.drew ?_ | refine Below.trans ?_ (Below.mono (by assumption) (by first | (simp; done) | (simp; omega) | omega))))
  have be4 : Below w.heap.size w w4 := be3.trans (bb4.mono (by omega))
  have c4_k_0 : w4.cell? ⟨w.heap.size, 0, none⟩ = some (.bool b0) := cell_keep bb4 c3_k_0
  have c4_k_1 : w4.cell? ⟨w.heap.size, 1, none⟩ = some (.bool b1) := cell_keep bb4 c3_k_1
  have c4_k_2 : w4.cell? ⟨w.heap.size, 2, none⟩ = some (.bool b2) := cell_keep bb4 c3_k_2
  have c4_k_3 : w4.cell? ⟨w.heap.size, 3, none⟩ = some (.bool b3) := cell_keep bb4 c3_k_3
  have c4_k_4 : w4.cell? ⟨w.heap.size, 4, none⟩ = some (.bool b4) := cell_keep bb4 c3_k_4
  have c4_k_5 : w4.cell? ⟨w.heap.size, 5, none⟩ = some (.bool b5) := cell_keep bb4 c3_k_5
  have c4_k_6 : w4.cell? ⟨w.heap.size, 6, none⟩ = some (.bool b6) := cell_keep bb4 c3_k_6
  have c4_k_7 : w4.cell? ⟨w.heap.size, 7, none⟩ = some (.slice p n cap) := cell_keep bb4 c3_k_7
  have l4_k : w.heap.size < w4.heap.size := by omega
  clear hb4 be3 bb4 c3_k_0 c3_k_1 c3_k_2 c3_k_3 c3_k_4 c3_k_5 c3_k_6 c3_k_7 l3_k
  simp only [IV]
  go_wp2_with fail
  refine (few_any b0 b1 b2 b3 b4 b5 b6 p n cap _).mono ?_
  rintro e w5 ⟨rfl, hb5⟩
  rw [decide_eq_true hf]
  have hz5 := hb5.size
  (try simp at hz5)
  have bb5 : Below w4.heap.size w4 w5 := (by repeat (first | exact Below.refl _ _ | assumption | refine below_drewN ?_ _ | refine Below.setCell ?_ (by first | (simp; done) | (simp; omega)) _ | refine Below.alloc ?_ (by first | (simp; done) | (simp; omega) | omega) _ | refine Below.drew ?_ | refine Below.trans ?_ (Below.mono (by assumption) (by first | (simp; done) | (simp; omega) | omega))))
  have be5 : Below w.heap.size w w5 := be4.trans (bb5.mono (by omega))
  have c5_k_0 : w5.cell? ⟨w.heap.size, 0, none⟩ = some (.bool b0) := cell_keep bb5 c4_k_0
  have c5_k_1 : w5.cell? ⟨w.heap.size, 1, none⟩ = some (.bool b1) := cell_keep bb5 c4_k_1
  have c5_k_2 : w5.cell? ⟨w.heap.size, 2, none⟩ = some (.bool b2) := cell_keep bb5 c4_k_2
  have c5_k_3 : w5.cell? ⟨w.heap.size, 3, none⟩ = some (.bool b3) := cell_keep bb5 c4_k_3
  have c5_k_4 : w5.cell? ⟨w.heap.size, 4, none⟩ = some (.bool b4) := cell_keep bb5 c4_k_4
  have c5_k_5 : w5.cell? ⟨w.heap.size, 5, none⟩ = some (.bool b5) := cell_keep bb5 c4_k_5
  have c5_k_6 : w5.cell? ⟨w.heap.size, 6, none⟩ = some (.bool b6) := cell_keep bb5 c4_k_6
  have c5_k_7 : w5.cell? ⟨w.heap.size, 7, none⟩ = some (.slice p n cap) := cell_keep bb5 c4_k_7
  have l5_k : w.heap.size < w5.heap.size := by omega
  clear hb5 be4 bb5 c4_k_0 c4_k_1 c4_k_2 c4_k_3 c4_k_4 c4_k_5 c4_k_6 c4_k_7 l4_k
  go_wp2_with fail
  refine ((HS.out _ (HH.out.below (by repeat (first | exact Below.refl _ _ | assumption | refine below_drewN ?_ _ | refine Below.setCell ?_ (by first | (simp; done) | (simp; omega)) _ | refine Below.alloc ?_ (by first | (simp; done) | (simp; omega) | omega) _ | refine Below.drew ?_ | refine Below.trans ?_ (Below.mono (by assumption) (by first | (simp; done) | (simp; omega) | omega)))))).2.2.1 _).mono ?_
  rintro e w6 ⟨rfl, hb6⟩
  rw [HX.out]
  have hz6 := hb6.size
  (try simp at hz6)
  have bb6 : Below w5.heap.size w5 w6 := (by repeat (first | exact Below.refl _ _ | assumption | refine below_drewN ?_ _ | refine Below.setCell ?_ (by first | (simp; done) | (simp; omega)) _ | refine Below.alloc ?_ (by first | (simp; done) | (simp; omega) | omega) _ | refine Below.drew ?_ | refine Below.trans ?_ (Below.mono (by assumption) (by first | (simp; done) | (simp; omega) | omega))))
  have be6 : Below w.heap.size w w6 := be5.trans (bb6.mono (by omega))
  have c6_k_0 : w6.cell? ⟨w.heap.size, 0, none⟩ = some (.bool b0) := cell_keep bb6 c5_k_0
  have c6_k_1 : w6.cell? ⟨w.heap.size, 1, none⟩ = some (.bool b1) := cell_keep bb6 c5_k_1
  have c6_k_2 : w6.cell? ⟨w.heap.size, 2, none⟩ = some (.bool b2) := cell_keep bb6 c5_k_2
  have c6_k_3 : w6.cell? ⟨w.heap.size, 3, none⟩ = some (.bool b3) := cell_keep bb6 c5_k_3
  have c6_k_4 : w6.cell? ⟨w.heap.size, 4, none⟩ = some (.bool b4) := cell_keep bb6 c5_k_4
  have c6_k_5 : w6.cell? ⟨w.heap.size, 5, none⟩ = some (.bool b5) := cell_keep bb6 c5_k_5
  have c6_k_6 : w6.cell? ⟨w.heap.size, 6, none⟩ = some (.bool b6) := cell_keep bb6 c5_k_6
  have c6_k_7 : w6.cell? ⟨w.heap.size, 7, none⟩ = some (.slice p n cap) := cell_keep bb6 c5_k_7
  have l6_k : w.heap.size < w6.heap.size := by omega
  clear hb6 be5 bb6 c5_k_0 c5_k_1 c5_k_2 c5_k_3 c5_k_4 c5_k_5 c5_k_6 c5_k_7 l5_k
  simp only [IV]
  go_wp2
  go_ret
  exact ⟨rfl, (by repeat (first | exact Below.refl _ _ | assumption | refine below_drewN ?_ _ | refine Below.setCell ?_ (by first | (simp; done) | (simp; omega)) _ | refine Below.alloc ?_ (by first | (simp; done) | (simp; omega) | omega) _ | refine Below.drew ?_ | refine Below.trans ?_ (Below.mono (by assumption) (by first | (simp; done) | (simp; omega) | omega))))⟩
set_option maxRecDepth 100000 in
set_option maxHeartbeats 3200000 in
theorem cnt_d0 (b0 b1 b2 b3 b4 b5 b6 : Bool) (p : Option Addr) (n cap : Nat) (hs : List Int) (FC FA : Int → Int → Int × Int) (FN : Int → Int × Int) (FB : Int → Bool) (d : Nat) (o q M E A B : Int) (w : World) (hE : Env w) (hh : Hols w p hs) (hS : CalS b0 b1 b2 b3 b4 b5 b6 p n cap hs FC FA FN FB) (hf : n ≤ 500) (hm : (d : Int) + o % 500 = M) (hn : M + q % 500 = E) (ha : FC d M = (A, 0)) (hb : FC M E = (B, 0)) (hg : FC d E = (A + B, 0)) (a0 : 0 ≤ A) (b0' : 0 ≤ B) (ab : A + B ≤ E - d) (dE : E ≤ 73048) (dd : (d : Int) ≤ E) (o0 : 0 ≤ o) (o1 : o ≤ 65535) (q0 : 0 ≤ q) (q1 : q ≤ 65535) (hx : FN d = (0, 2)) (hde : ((d : Int) == 73048) = false) (hs1 : FC d (d + 1) = (1, 0)) (hbu : FB d = true) :
    Calls Tryd.prog 8 #[.agg #[.bool b0, .bool b1, .bool b2, .bool b3, .bool b4, .bool b5, .bool b6, .slice p n cap], .int .i64 (d : Int), .int .u16 o, .int .u16 q] w fun e w' => e = .returned (.bool true) ∧ Below w.heap.size w w' := by
  have HE := Lib.hid hE
  have HH := Lib.hid hh
  have HS := Lib.hid hS
  have HM := Lib.hid hm
  have HN := Lib.hid hn
  have HA := Lib.hid ha
  have HB := Lib.hid hb
  have HG := Lib.hid hg
  have HX := Lib.hid hx
  have HS1 := Lib.hid hs1
  have HBU := Lib.hid hbu
  have HDE := Lib.hid hde
  clear hE hh hS hm hn ha hb hg hx hs1 hbu hde
  go_enter Tryd.func8, Tryd.ntmps8
  go_wp2_with fail
  refine (head_any _ (HE.out.below (by repeat (first | exact Below.refl _ _ | assumption | refine below_drewN ?_ _ | refine Below.setCell ?_ (by first | (simp; done) | (simp; omega)) _ | refine Below.alloc ?_ (by first | (simp; done) | (simp; omega) | omega) _ | refine Below.drew ?_ | refine Below.trans ?_ (Below.mono (by assumption) (by first | (simp; done) | (simp; omega) | omega)))))).mono ?_
  rintro e w1 ⟨rfl, hb1⟩
  have hz1 := hb1.size
  (try simp at hz1)
  have be1 : Below w.heap.size w w1 := (by repeat (first | exact Below.refl _ _ | assumption | refine below_drewN ?_ _ | refine Below.setCell ?_ (by first | (simp; done) | (simp; omega)) _ | refine Below.alloc ?_ (by first | (simp; done) | (simp; omega) | omega) _ | refine Below.drew ?_ | refine Below.trans ?_ (Below.mono (by assumption) (by first | (simp; done) | (simp; omega) | omega))))
  have c1_k_0 : w1.cell? ⟨w.heap.size, 0, none⟩ = some (.bool b0) := cell_keep hb1 (by go_simp)
  have c1_k_1 : w1.cell? ⟨w.heap.size, 1, none⟩ = some (.bool b1) := cell_keep hb1 (by go_simp)
  have c1_k_2 : w1.cell? ⟨w.heap.size, 2, none⟩ = some (.bool b2) := cell_keep hb1 (by go_simp)
  have c1_k_3 : w1.cell? ⟨w.heap.size, 3, none⟩ = some (.bool b3) := cell_keep hb1 (by go_simp)
  have c1_k_4 : w1.cell? ⟨w.heap.size, 4, none⟩ = some (.bool b4) := cell_keep hb1 (by go_simp)
  have c1_k_5 : w1.cell? ⟨w.heap.size, 5, none⟩ = some (.bool b5) := cell_keep hb1 (by go_simp)
  have c1_k_6 : w1.cell? ⟨w.heap.size, 6, none⟩ = some (.bool b6) := cell_keep hb1 (by go_simp)
  have c1_k_7 : w1.cell? ⟨w.heap.size, 7, none⟩ = some (.slice p n cap) := cell_keep hb1 (by go_simp)
  have l1_k : w.heap.size < w1.heap.size := by omega
  clear hb1
  go_wp2_with fail
  simp only [HM.out, HN.out]
  go_wp2_with fail
  refine ((HS.out _ (HH.out.below (by repeat (first | exact Below.refl _ _ | assumption | refine below_drewN ?_ _ | refine Below.setCell ?_ (by first | (simp; done) | (simp; omega)) _ | refine Below.alloc ?_ (by first | (simp; done) | (simp; omega) | omega) _ | refine Below.drew ?_ | refine Below.trans ?_ (Below.mono (by assumption) (by first | (simp; done) | (simp; omega) | omega)))))).1 _ _).mono ?_
  rintro e w2 ⟨rfl, hb2⟩
  rw [HA.out]
  have hz2 := hb2.size
  (try simp at hz2)
  have bb2 : Below w1.heap.size w1 w2 := (by repeat (first | exact Below.refl _ _ | assumption | refine below_drewN ?_ _ | refine Below.setCell ?_ (by first | (simp; done) | (simp; omega)) _ | refine Below.alloc ?_ (by first | (simp; done) | (simp; omega) | omega) _ | refine Below.drew ?_ | refine Below.trans ?_ (Below.mono (by assumption) (by first | (simp; done) | (simp; omega) | omega))))
  have be2 : Below w.heap.size w w2 := be1.trans (bb2.mono (by omega))
  have c2_k_0 : w2.cell? ⟨w.heap.size, 0, none⟩ = some (.bool b0) := cell_keep bb2 c1_k_0
  have c2_k_1 : w2.cell? ⟨w.heap.size, 1, none⟩ = some (.bool b1) := cell_keep bb2 c1_k_1
  have c2_k_2 : w2.cell? ⟨w.heap.size, 2, none⟩ = some (.bool b2) := cell_keep bb2 c1_k_2
  have c2_k_3 : w2.cell? ⟨w.heap.size, 3, none⟩ = some (.bool b3) := cell_keep bb2 c1_k_3
  have c2_k_4 : w2.cell? ⟨w.heap.size, 4, none⟩ = some (.bool b4) := cell_keep bb2 c1_k_4
  have c2_k_5 : w2.cell? ⟨w.heap.size, 5, none⟩ = some (.bool b5) := cell_keep bb2 c1_k_5
  have c2_k_6 : w2.cell? ⟨w.heap.size, 6, none⟩ = some (.bool b6) := cell_keep bb2 c1_k_6
  have c2_k_7 : w2.cell? ⟨w.heap.size, 7, none⟩ = some (.slice p n cap) := cell_keep bb2 c1_k_7
  have l2_k : w.heap.size < w2.heap.size := by omega
  clear hb2 be1 bb2 c1_k_0 c1_k_1 c1_k_2 c1_k_3 c1_k_4 c1_k_5 c1_k_6 c1_k_7 l1_k
  simp only [IV]
  go_wp2_with fail
  refine ((HS.out _ (HH.out.below (by repeat (first | exact Below.refl _ _ | assumption | refine below_drewN ?_ _ | refine Below.setCell ?_ (by first | (simp; done) | (simp; omega)) _ | refine Below.alloc ?_ (by first | (simp; done) | (simp; omega) | omega) _ | refine Below.drew ?_ | refine Below.trans ?_ (Below.mono (by assumption) (by first | (simp; done) | (simp; omega) | omega)))))).1 _ _).mono ?_
  rintro e w3 ⟨rfl, hb3⟩
  rw [HB.out]
  have hz3 := hb3.size
  (try simp at hz3)
  have bb3 : Below w2.heap.size w2 w3 := (by repeat (first | exact Below.refl _ _ | assumption | refine below_drewN ?_ _ | refine Below.setCell ?_ (by first | (simp; done) | (simp; omega)) _ | refine Below.alloc ?_ (by first | (simp; done) | (simp; omega) | omega) _ | refine Below.drew ?_ | refine Below.trans ?_ (Below.mono (by assumption) (by first | (simp; done) | (simp; omega) | omega))))
  have be3 : Below w.heap.size w w3 := be2.trans (bb3.mono (by omega))
  have c3_k_0 : w3.cell? ⟨w.heap.size, 0, none⟩ = some (.bool b0) := cell_keep bb3 c2_k_0
  have c3_k_1 : w3.cell? ⟨w.heap.size, 1, none⟩ = some (.bool b1) := cell_keep bb3 c2_k_1
  have c3_k_2 : w3.cell? ⟨w.heap.size, 2, none⟩ = some (.bool b2) := cell_keep bb3 c2_k_2
  have c3_k_3 : w3.cell? ⟨w.heap.size, 3, none⟩ = some (.bool b3) := cell_keep bb3 c2_k_3
  have c3_k_4 : w3.cell? ⟨w.heap.size, 4, none⟩ = some (.bool b4) := cell_keep bb3 c2_k_4
  have c3_k_5 : w3.cell? ⟨w.heap.size, 5, none⟩ = some (.bool b5) := cell_keep bb3 c2_k_5
  have c3_k_6 : w3.cell? ⟨w.heap.size, 6, none⟩ = some (.bool b6) := cell_keep bb3 c2_k_6
  have c3_k_7 : w3.cell? ⟨w.heap.size, 7, none⟩ = some (.slice p n cap) := cell_keep bb3 c2_k_7
  have l3_k : w.heap.size < w3.heap.size := by omega
  clear hb3 be2 bb3 c2_k_0 c2_k_1 c2_k_2 c2_k_3 c2_k_4 c2_k_5 c2_k_6 c2_k_7 l2_k
  simp only [IV]
  go_wp2_with fail
  refine ((HS.out _ (HH.out.below (by repeat (first | exact Below.refl _ _ | assumption | refine below_drewN ?_ _ | refine Below.setCell ?_ (by first | (simp; done) | (simp; omega)) _ | refine Below.alloc ?_ (by first | (simp; done) | (simp; omega) | omega) _ | refine Below.drew ?_ | refine Below.trans ?_ (Below.mono (by assumption) (by first | (simp; done) | (simp; omega) | omega)))))).1 _ _).mono ?_
  rintro e w4 ⟨rfl, hb4⟩
  rw [HG.out]
  have hz4 := hb4.size
  (try simp at hz4)
  have bb4 : Below w3.heap.size w3 w4 := (by repeat (first | exact Below.refl _ _ | assumption | refine below_drewN ?_ _ | refine Below.setCell ?_ (by first | (simp; done) | (simp; omega)) _ | refine Below.alloc ?_ (by first | (simp; done) | (simp; omega) | omega) _ | refine Below.drew ?_ | refine Below.trans ?_ (Below.mono (by assumption) (by first | (simp; done) | (simp; omega) | omega))))
  have be4 : Below w.heap.size w w4 := be3.trans (bb4.mono (by omega))
  have c4_k_0 : w4.cell? ⟨w.heap.size, 0, none⟩ = some (.bool b0) := cell_keep bb4 c3_k_0
  have c4_k_1 : w4.cell? ⟨w.heap.size, 1, none⟩ = some (.bool b1) := cell_keep bb4 c3_k_1
  have c4_k_2 : w4.cell? ⟨w.heap.size, 2, none⟩ = some (.bool b2) := cell_keep bb4 c3_k_2
  have c4_k_3 : w4.cell? ⟨w.heap.size, 3, none⟩ = some (.bool b3) := cell_keep bb4 c3_k_3
  have c4_k_4 : w4.cell? ⟨w.heap.size, 4, none⟩ = some (.bool b4) := cell_keep bb4 c3_k_4
  have c4_k_5 : w4.cell? ⟨w.heap.size, 5, none⟩ = some (.bool b5) := cell_keep bb4 c3_k_5
  have c4_k_6 : w4.cell? ⟨w.heap.size, 6, none⟩ = some (.bool b6) := cell_keep bb4 c3_k_6
  have c4_k_7 : w4.cell? ⟨w.heap.size, 7, none⟩ = some (.slice p n cap) := cell_keep bb4 c3_k_7
  have l4_k : w.heap.size < w4.heap.size := by omega
  clear hb4 be3 bb4 c3_k_0 c3_k_1 c3_k_2 c3_k_3 c3_k_4 c3_k_5 c3_k_6 c3_k_7 l3_k
  simp only [IV]
  go_wp2_with fail
  refine (few_any b0 b1 b2 b3 b4 b5 b6 p n cap _).mono ?_
  rintro e w5 ⟨rfl, hb5⟩
  rw [decide_eq_true hf]
  have hz5 := hb5.size
  (try simp at hz5)
  have bb5 : Below w4.heap.size w4 w5 := (by repeat (first | exact Below.refl _ _ | assumption | refine below_drewN ?_ _ | refine Below.setCell ?_ (by first | (simp; done) | (simp; omega)) _ | refine Below.alloc ?_ (by first | (simp; done) | (simp; omega) | omega) _ | refine Below.drew ?_ | refine Below.trans ?_ (Below.mono (by assumption) (by first | (simp; done) | (simp; omega) | omega))))
  have be5 : Below w.heap.size w w5 := be4.trans (bb5.mono (by omega))
  have c5_k_0 : w5.cell? ⟨w.heap.size, 0, none⟩ = some (.bool b0) := cell_keep bb5 c4_k_0
  have c5_k_1 : w5.cell? ⟨w.heap.size, 1, none⟩ = some (.bool b1) := cell_keep bb5 c4_k_1
  have c5_k_2 : w5.cell? ⟨w.heap.size, 2, none⟩ = some (.bool b2) := cell_keep bb5 c4_k_2
  have c5_k_3 : w5.cell? ⟨w.heap.size, 3, none⟩ = some (.bool b3) := cell_keep bb5 c4_k_3
  have c5_k_4 : w5.cell? ⟨w.heap.size, 4, none⟩ = some (.bool b4) := cell_keep bb5 c4_k_4
  have c5_k_5 : w5.cell? ⟨w.heap.size, 5, none⟩ = some (.bool b5) := cell_keep bb5 c4_k_5
  have c5_k_6 : w5.cell? ⟨w.heap.size, 6, none⟩ = some (.bool b6) := cell_keep bb5 c4_k_6
  have c5_k_7 : w5.cell? ⟨w.heap.size, 7, none⟩ = some (.slice p n cap) := cell_keep bb5 c4_k_7
  have l5_k : w.heap.size < w5.heap.size := by omega
  clear hb5 be4 bb5 c4_k_0 c4_k_1 c4_k_2 c4_k_3 c4_k_4 c4_k_5 c4_k_6 c4_k_7 l4_k
  go_wp2_with fail
  refine ((HS.out _ (HH.out.below (by repeat (first | exact Below.refl _ _ | assumption | refine below_drewN ?_ _ | refine Below.setCell ?_ (by first | (simp; done) | (simp; omega)) _ | refine Below.alloc ?_ (by first | (simp; done) | (simp; omega) | omega) _ | refine Below.drew ?_ | refine Below.trans ?_ (Below.mono (by assumption) (by first | (simp; done) | (simp; omega) | omega)))))).2.2.1 _).mono ?_
  rintro e w6 ⟨rfl, hb6⟩
  rw [HX.out]
  have hz6 := hb6.size
  (try simp at hz6)
  have bb6 : Below w5.heap.size w5 w6 := (by repeat (first | exact Below.refl _ _ | assumption | refine below_drewN ?_ _ | refine Below.setCell ?_ (by first | (simp; done) | (simp; omega)) _ | refine Below.alloc ?_ (by first | (simp; done) | (simp; omega) | omega) _ | refine Below.drew ?_ | refine Below.trans ?_ (Below.mono (by assumption) (by first | (simp; done) | (simp; omega) | omega))))
  have be6 : Below w.heap.size w w6 := be5.trans (bb6.mono (by omega))
  have c6_k_0 : w6.cell? ⟨w.heap.size, 0, none⟩ = some (.bool b0) := cell_keep bb6 c5_k_0
  have c6_k_1 : w6.cell? ⟨w.heap.size, 1, none⟩ = some (.bool b1) := cell_keep bb6 c5_k_1
  have c6_k_2 : w6.cell? ⟨w.heap.size, 2, none⟩ = some (.bool b2) := cell_keep bb6 c5_k_2
  have c6_k_3 : w6.cell? ⟨w.heap.size, 3, none⟩ = some (.bool b3) := cell_keep bb6 c5_k_3
  have c6_k_4 : w6.cell? ⟨w.heap.size, 4, none⟩ = some (.bool b4) := cell_keep bb6 c5_k_4
  have c6_k_5 : w6.cell? ⟨w.heap.size, 5, none⟩ = some (.bool b5) := cell_keep bb6 c5_k_5
  have c6_k_6 : w6.cell? ⟨w.heap.size, 6, none⟩ = some (.bool b6) := cell_keep bb6 c5_k_6
  have c6_k_7 : w6.cell? ⟨w.heap.size, 7, none⟩ = some (.slice p n cap) := cell_keep bb6 c5_k_7
  have l6_k : w.heap.size < w6.heap.size := by omega
  clear hb6 be5 bb6 c5_k_0 c5_k_1 c5_k_2 c5_k_3 c5_k_4 c5_k_5 c5_k_6 c5_k_7 l5_k
  simp only [IV]
  have hq := HDE.out
  go_wp2_with fail
  refine ((HS.out _ (HH.out.below (by repeat (first | exact Below.refl _ _ | assumption | refine below_drewN ?_ _ | refine Below.setCell ?_ (by first | (simp; done) | (simp; omega)) _ | refine Below.alloc ?_ (by first | (simp; done) | (simp; omega) | omega) _ | refine Below.drew ?_ | refine Below.trans ?_ (Below.mono (by assumption) (by first | (simp; done) | (simp; omega) | omega)))))).1 _ _).mono ?_
  rintro e w7 ⟨rfl, hb7⟩
  rw [HS1.out]
  have hz7 := hb7.size
  (try simp at hz7)
  have bb7 : Below w6.heap.size w6 w7 := (by repeat (first | exact Below.refl _ _ | assumption | refine below_drewN ?_ _ | refine Below.setCell ?_ (by first | (simp; done) | (simp; omega)) _ | refine Below.alloc ?_ (by first | (simp; done) | (simp; omega) | omega) _ | refine Below.drew ?_ | refine Below.trans ?_ (Below.mono (by assumption) (by first | (simp; done) | (simp; omega) | omega))))
  have be7 : Below w.heap.size w w7 := be6.trans (bb7.mono (by omega))
  have c7_k_0 : w7.cell? ⟨w.heap.size, 0, none⟩ = some (.bool b0) := cell_keep bb7 c6_k_0
  have c7_k_1 : w7.cell? ⟨w.heap.size, 1, none⟩ = some (.bool b1) := cell_keep bb7 c6_k_1
  have c7_k_2 : w7.cell? ⟨w.heap.size, 2, none⟩ = some (.bool b2) := cell_keep bb7 c6_k_2
  have c7_k_3 : w7.cell? ⟨w.heap.size, 3, none⟩ = some (.bool b3) := cell_keep bb7 c6_k_3
  have c7_k_4 : w7.cell? ⟨w.heap.size, 4, none⟩ = some (.bool b4) := cell_keep bb7 c6_k_4
  have c7_k_5 : w7.cell? ⟨w.heap.size, 5, none⟩ = some (.bool b5) := cell_keep bb7 c6_k_5
  have c7_k_6 : w7.cell? ⟨w.heap.size, 6, none⟩ = some (.bool b6) := cell_keep bb7 c6_k_6
  have c7_k_7 : w7.cell? ⟨w.heap.size, 7, none⟩ = some (.slice p n cap) := cell_keep bb7 c6_k_7
  have l7_k : w.heap.size < w7.heap.size := by omega
  clear hb7 be6 bb7 c6_k_0 c6_k_1 c6_k_2 c6_k_3 c6_k_4 c6_k_5 c6_k_6 c6_k_7 l6_k
  simp only [IV]
  go_wp2_with fail
  refine ((HS.out _ (HH.out.below (by repeat (first | exact Below.refl _ _ | assumption | refine below_drewN ?_ _ | refine Below.setCell ?_ (by first | (simp; done) | (simp; omega)) _ | refine Below.alloc ?_ (by first | (simp; done) | (simp; omega) | omega) _ | refine Below.drew ?_ | refine Below.trans ?_ (Below.mono (by assumption) (by first | (simp; done) | (simp; omega) | omega)))))).2.2.2 _).mono ?_
  rintro e w8 ⟨rfl, hb8⟩
  rw [HBU.out]
  have hz8 := hb8.size
  (try simp at hz8)
  have bb8 : Below w7.heap.size w7 w8 := (by repeat (first | exact Below.refl _ _ | assumption | refine below_drewN ?_ _ | refine Below.setCell ?_ (by first | (simp; done) | (simp; omega)) _ | refine Below.alloc ?_ (by first | (simp; done) | (simp; omega) | omega) _ | refine Below.drew ?_ | refine Below.trans ?_ (Below.mono (by assumption) (by first | (simp; done) | (simp; omega) | omega))))
  have be8 : Below w.heap.size w w8 := be7.trans (bb8.mono (by omega))
  have c8_k_0 : w8.cell? ⟨w.heap.size, 0, none⟩ = some (.bool b0) := cell_keep bb8 c7_k_0
  have c8_k_1 : w8.cell? ⟨w.heap.size, 1, none⟩ = some (.bool b1) := cell_keep bb8 c7_k_1
  have c8_k_2 : w8.cell? ⟨w.heap.size, 2, none⟩ = some (.bool b2) := cell_keep bb8 c7_k_2
  have c8_k_3 : w8.cell? ⟨w.heap.size, 3, none⟩ = some (.bool b3) := cell_keep bb8 c7_k_3
  have c8_k_4 : w8.cell? ⟨w.heap.size, 4, none⟩ = some (.bool b4) := cell_keep bb8 c7_k_4
  have c8_k_5 : w8.cell? ⟨w.heap.size, 5, none⟩ = some (.bool b5) := cell_keep bb8 c7_k_5
  have c8_k_6 : w8.cell? ⟨w.heap.size, 6, none⟩ = some (.bool b6) := cell_keep bb8 c7_k_6
  have c8_k_7 : w8.cell? ⟨w.heap.size, 7, none⟩ = some (.slice p n cap) := cell_keep bb8 c7_k_7
  have l8_k : w.heap.size < w8.heap.size := by omega
  clear hb8 be7 bb8 c7_k_0 c7_k_1 c7_k_2 c7_k_3 c7_k_4 c7_k_5 c7_k_6 c7_k_7 l7_k
  go_wp2
  go_ret
  exact ⟨rfl, (by repeat (first | exact Below.refl _ _ | assumption | refine below_drewN ?_ _ | refine Below.setCell ?_ (by first | (simp; done) | (simp; omega)) _ | refine Below.alloc ?_ (by first | (simp; done) | (simp; omega) | omega) _ | refine Below.drew ?_ | refine Below.trans ?_ (Below.mono (by assumption) (by first | (simp; done) | (simp; omega) | omega))))⟩
set_option maxRecDepth 100000 in
set_option maxHeartbeats 3200000 in
theorem cnt_e0 (b0 b1 b2 b3 b4 b5 b6 : Bool) (p : Option Addr) (n cap : Nat) (hs : List Int) (FC FA : Int → Int → Int × Int) (FN : Int → Int × Int) (FB : Int → Bool) (d : Nat) (o q M E A B : Int) (w : World) (hE : Env w) (hh : Hols w p hs) (hS : CalS b0 b1 b2 b3 b4 b5 b6 p n cap hs FC FA FN FB) (hf : n ≤ 500) (hm : (d : Int) + o % 500 = M) (hn : M + q % 500 = E) (ha : FC d M = (A, 0)) (hb : FC M E = (B, 0)) (hg : FC d E = (A + B, 0)) (a0 : 0 ≤ A) (b0' : 0 ≤ B) (ab : A + B ≤ E - d) (dE : E ≤ 73048) (dd : (d : Int) ≤ E) (o0 : 0 ≤ o) (o1 : o ≤ 65535) (q0 : 0 ≤ q) (q1 : q ≤ 65535) (hx : FN d = (0, 2)) (hde : ((d : Int) == 73048) = false) (hs1 : FC d (d + 1) = (0, 0)) (hbu : FB d = false) :
    Calls Tryd.prog 8 #[.agg #[.bool b0, .bool b1, .bool b2, .bool b3, .bool b4, .bool b5, .bool b6, .slice p n cap], .int .i64 (d : Int), .int .u16 o, .int .u16 q] w fun e w' => e = .returned (.bool true) ∧ Below w.heap.size w w' := by
  have HE := Lib.hid hE
  have HH := Lib.hid hh
  have HS := Lib.hid hS
  have HM := Lib.hid hm
  have HN := Lib.hid hn
  have HA := Lib.hid ha
  have HB := Lib.hid hb
  have HG := Lib.hid hg
  have HX := Lib.hid hx
  have HS1 := Lib.hid hs1
  have HBU := Lib.hid hbu
  have HDE := Lib.hid hde
  clear hE hh hS hm hn ha hb hg hx hs1 hbu hde
  go_enter Tryd.func8, Tryd.ntmps8
  go_wp2_with fail
  refine (head_any _ (HE.out.below (by repeat (first | exact Below.refl _ _ | assumption | refine below_drewN ?_ _ | refine Below.setCell ?_ (by first | (simp; done) | (simp; omega)) _ | refine Below.alloc ?_ (by first | (simp; done) | (simp; omega) | omega) _ | refine Below.drew ?_ | refine Below.trans ?_ (Below.mono (by assumption) (by first | (simp; done) | (simp; omega) | omega)))))).mono ?_
  rintro e w1 ⟨rfl, hb1⟩
  have hz1 := hb1.size
  (try simp at hz1)
  have be1 : Below w.heap.size w w1 := (by repeat (first | exact Below.refl _ _ | assumption | refine below_drewN ?_ _ | refine Below.setCell ?_ (by first | (simp; done) | (simp; omega)) _ | refine Below.alloc ?_ (by first | (simp; done) | (simp; omega) | omega) _ | refine Below.drew ?_ | refine Below.trans ?_ (Below.mono (by assumption) (by first | (simp; done) | (simp; omega) | omega))))
  have c1_k_0 : w1.cell? ⟨w.heap.size, 0, none⟩ = some (.bool b0) := cell_keep hb1 (by go_simp)
  have c1_k_1 : w1.cell? ⟨w.heap.size, 1, none⟩ = some (.bool b1) := cell_keep hb1 (by go_simp)
  have c1_k_2 : w1.cell? ⟨w.heap.size, 2, none⟩ = some (.bool b2) := cell_keep hb1 (by go_simp)
  have c1_k_3 : w1.cell? ⟨w.heap.size, 3, none⟩ = some (.bool b3) := cell_keep hb1 (by go_simp)
  have c1_k_4 : w1.cell? ⟨w.heap.size, 4, none⟩ = some (.bool b4) := cell_keep hb1 (by go_simp)
  have c1_k_5 : w1.cell? ⟨w.heap.size, 5, none⟩ = some (.bool b5) := cell_keep hb1 (by go_simp)
  have c1_k_6 : w1.cell? ⟨w.heap.size, 6, none⟩ = some (.bool b6) := cell_keep hb1 (by go_simp)
  have c1_k_7 : w1.cell? ⟨w.heap.size, 7, none⟩ = some (.slice p n cap) := cell_keep hb1 (by go_simp)
  have l1_k : w.heap.size < w1.heap.size := by omega
  clear hb1
  go_wp2_with fail
  simp only [HM.out, HN.out]
  go_wp2_with fail
  refine ((HS.out _ (HH.out.below (by repeat (first | exact Below.refl _ _ | assumption | refine below_drewN ?_ _ | refine Below.setCell ?_ (by first | (simp; done) | (simp; omega)) _ | refine Below.alloc ?_ (by first | (simp; done) | (simp; omega) | omega) _ | refine Below.drew ?_ | refine Below.trans ?_ (Below.mono (by assumption) (by first | (simp; done) | (simp; omega) | omega)))))).1 _ _).mono ?_
  rintro e w2 ⟨rfl, hb2⟩
  rw [HA.out]
  have hz2 := hb2.size
  (try simp at hz2)
  have bb2 : Below w1.heap.size w1 w2 := (by repeat (first | exact Below.refl _ _ | assumption | refine below_drewN ?_ _ | refine Below.setCell ?_ (by first | (simp; done) | (simp; omega)) _ | refine Below.alloc ?_ (by first | (simp; done) | (simp; omega) | omega) _ | refine Below.drew ?_ | refine Below.trans ?_ (Below.mono (by assumption) (by first | (simp; done) | (simp; omega) | omega))))
  have be2 : Below w.heap.size w w2 := be1.trans (bb2.mono (by omega))
  have c2_k_0 : w2.cell? ⟨w.heap.size, 0, none⟩ = some (.bool b0) := cell_keep bb2 c1_k_0
  have c2_k_1 : w2.cell? ⟨w.heap.size, 1, none⟩ = some (.bool b1) := cell_keep bb2 c1_k_1
  have c2_k_2 : w2.cell? ⟨w.heap.size, 2, none⟩ = some (.bool b2) := cell_keep bb2 c1_k_2
  have c2_k_3 : w2.cell? ⟨w.heap.size, 3, none⟩ = some (.bool b3) := cell_keep bb2 c1_k_3
  have c2_k_4 : w2.cell? ⟨w.heap.size, 4, none⟩ = some (.bool b4) := cell_keep bb2 c1_k_4
  have c2_k_5 : w2.cell? ⟨w.heap.size, 5, none⟩ = some (.bool b5) := cell_keep bb2 c1_k_5
  have c2_k_6 : w2.cell? ⟨w.heap.size, 6, none⟩ = some (.bool b6) := cell_keep bb2 c1_k_6
  have c2_k_7 : w2.cell? ⟨w.heap.size, 7, none⟩ = some (.slice p n cap) := cell_keep bb2 c1_k_7
  have l2_k : w.heap.size < w2.heap.size := by omega
  clear hb2 be1 bb2 c1_k_0 c1_k_1 c1_k_2 c1_k_3 c1_k_4 c1_k_5 c1_k_6 c1_k_7 l1_k
  simp only [IV]
  go_wp2_with fail
  refine ((HS.out _ (HH.out.below (by repeat (first | exact Below.refl _ _ | assumption | refine below_drewN ?_ _ | refine Below.setCell ?_ (by first | (simp; done) | (simp; omega)) _ | refine Below.alloc ?_ (by first | (simp; done) | (simp; omega) | omega) _ | refine Below.drew ?_ | refine Below.trans ?_ (Below.mono (by assumption) (by first | (simp; done) | (simp; omega) | omega)))))).1 _ _).mono ?_
  rintro e w3 ⟨rfl, hb3⟩
  rw [HB.out]
  have hz3 := hb3.size
  (try simp at hz3)
  have bb3 : Below w2.heap.size w2 w3 := (by repeat (first | exact Below.refl _ _ | assumption | refine below_drewN ?_ _ | refine Below.setCell ?_ (by first | (simp; done) | (simp; omega)) _ | refine Below.alloc ?_ (by first | (simp; done) | (simp; omega) | omega) _ | refine Below.drew ?_ | refine Below.trans ?_ (Below.mono (by assumption) (by first | (simp; done) | (simp; omega) | omega))))
  have be3 : Below w.heap.size w w3 := be2.trans (bb3.mono (by omega))
  have c3_k_0 : w3.cell? ⟨w.heap.size, 0, none⟩ = some (.bool b0) := cell_keep bb3 c2_k_0
  have c3_k_1 : w3.cell? ⟨w.heap.size, 1, none⟩ = some (.bool b1) := cell_keep bb3 c2_k_1
  have c3_k_2 : w3.cell? ⟨w.heap.size, 2, none⟩ = some (.bool b2) := cell_keep bb3 c2_k_2
  have c3_k_3 : w3.cell? ⟨w.heap.size, 3, none⟩ = some (.bool b3) := cell_keep bb3 c2_k_3
  have c3_k_4 : w3.cell? ⟨w.heap.size, 4, none⟩ = some (.bool b4) := cell_keep bb3 c2_k_4
  have c3_k_5 : w3.cell? ⟨w.heap.size, 5, none⟩ = some (.bool b5) := cell_keep bb3 c2_k_5
  have c3_k_6 : w3.cell? ⟨w.heap.size, 6, none⟩ = some (.bool b6) := cell_keep bb3 c2_k_6
  have c3_k_7 : w3.cell? ⟨w.heap.size, 7, none⟩ = some (.slice p n cap) := cell_keep bb3 c2_k_7
  have l3_k : w.heap.size < w3.heap.size := by omega
  clear hb3 be2 bb3 c2_k_0 c2_k_1 c2_k_2 c2_k_3 c2_k_4 c2_k_5 c2_k_6 c2_k_7 l2_k
  simp only [IV]
  go_wp2_with fail
  refine ((HS.out _ (HH.out.below (by repeat (first | exact Below.refl _ _ | assumption | refine below_drewN ?_ _ | refine Below.setCell ?_ (by first | (simp; done) | (simp; omega)) _ | refine Below.alloc ?_ (by first | (simp; done) | (simp; omega) | omega) _ | refine Below.drew ?_ | refine Below.trans ?_ (Below.mono (by assumption) (by first | (simp; done) | (simp; omega) | omega)))))).1 _ _).mono ?_
  rintro e w4 ⟨rfl, hb4⟩
  rw [HG.out]
  have hz4 := hb4.size
  (try simp at hz4)
  have bb4 : Below w3.heap.size w3 w4 := (by repeat (first | exact Below.refl _ _ | assumption | refine below_drewN ?_ _ | refine Below.setCell ?_ (by first | (simp; done) | (simp; omega)) _ | refine Below.alloc ?_ (by first | (simp; done) | (simp; omega) | omega) _ | refine Below.drew ?_ | refine Below.trans ?_ (Below.mono (by assumption) (by first | (simp; done) | (simp; omega) | omega))))
  have be4 : Below w.heap.size w w4 := be3.trans (bb4.mono (by omega))
  have c4_k_0 : w4.cell? ⟨w.heap.size, 0, none⟩ = some (.bool b0) := cell_keep bb4 c3_k_0
  have c4_k_1 : w4.cell? ⟨w.heap.size, 1, none⟩ = some (.bool b1) := cell_keep bb4 c3_k_1
  have c4_k_2 : w4.cell? ⟨w.heap.size, 2, none⟩ = some (.bool b2) := cell_keep bb4 c3_k_2
  have c4_k_3 : w4.cell? ⟨w.heap.size, 3, none⟩ = some (.bool b3) := cell_keep bb4 c3_k_3
  have c4_k_4 : w4.cell? ⟨w.heap.size, 4, none⟩ = some (.bool b4) := cell_keep bb4 c3_k_4
  have c4_k_5 : w4.cell? ⟨w.heap.size, 5, none⟩ = some (.bool b5) := cell_keep bb4 c3_k_5
  have c4_k_6 : w4.cell? ⟨w.heap.size, 6, none⟩ = some (.bool b6) := cell_keep bb4 c3_k_6
  have c4_k_7 : w4.cell? ⟨w.heap.size, 7, none⟩ = some (.slice p n cap) := cell_keep bb4 c3_k_7
  have l4_k : w.heap.size < w4.heap.size := by omega
  clear hb4 be3 bb4 c3_k_0 c3_k_1 c3_k_2 c3_k_3 c3_k_4 c3_k_5 c3_k_6 c3_k_7 l3_k
  simp only [IV]
  go_wp2_with fail
  refine (few_any b0 b1 b2 b3 b4 b5 b6 p n cap _).mono ?_
  rintro e w5 ⟨rfl, hb5⟩
  rw [decide_eq_true hf]
  have hz5 := hb5.size
  (try simp at hz5)
  have bb5 : Below w4.heap.size w4 w5 := (by repeat (first | exact Below.refl _ _ | assumption | refine below_drewN ?_ _ | refine Below.setCell ?_ (by first | (simp; done) | (simp; omega)) _ | refine Below.alloc ?_ (by first | (simp; done) | (simp; omega) | omega) _ | refine Below.drew ?_ | refine Below.trans ?_ (Below.mono (by assumption) (by first | (simp; done) | (simp; omega) | omega))))
  have be5 : Below w.heap.size w w5 := be4.trans (bb5.mono (by omega))
  have c5_k_0 : w5.cell? ⟨w.heap.size, 0, none⟩ = some (.bool b0) := cell_keep bb5 c4_k_0
  have c5_k_1 : w5.cell? ⟨w.heap.size, 1, none⟩ = some (.bool b1) := cell_keep bb5 c4_k_1
  have c5_k_2 : w5.cell? ⟨w.heap.size, 2, none⟩ = some (.bool b2) := cell_keep bb5 c4_k_2
  have c5_k_3 : w5.cell? ⟨w.heap.size, 3, none⟩ = some (.bool b3) := cell_keep bb5 c4_k_3
  have c5_k_4 : w5.cell? ⟨w.heap.size, 4, none⟩ = some (.bool b4) := cell_keep bb5 c4_k_4
  have c5_k_5 : w5.cell? ⟨w.heap.size, 5, none⟩ = some (.bool b5) := cell_keep bb5 c4_k_5
  have c5_k_6 : w5.cell? ⟨w.heap.size, 6, none⟩ = some (.bool b6) := cell_keep bb5 c4_k_6
  have c5_k_7 : w5.cell? ⟨w.heap.size, 7, none⟩ = some (.slice p n cap) := cell_keep bb5 c4_k_7
  have l5_k : w.heap.size < w5.heap.size := by omega
  clear hb5 be4 bb5 c4_k_0 c4_k_1 c4_k_2 c4_k_3 c4_k_4 c4_k_5 c4_k_6 c4_k_7 l4_k
  go_wp2_with fail
  refine ((HS.out _ (HH.out.below (by repeat (first | exact Below.refl _ _ | assumption | refine below_drewN ?_ _ | refine Below.setCell ?_ (by first | (simp; done) | (simp; omega)) _ | refine Below.alloc ?_ (by first | (simp; done) | (simp; omega) | omega) _ | refine Below.drew ?_ | refine Below.trans ?_ (Below.mono (by assumption) (by first | (simp; done) | (simp; omega) | omega)))))).2.2.1 _).mono ?_
  rintro e w6 ⟨rfl, hb6⟩
  rw [HX.out]
  have hz6 := hb6.size
  (try simp at hz6)
  have bb6 : Below w5.heap.size w5 w6 := (by repeat (first | exact Below.refl _ _ | assumption | refine below_drewN ?_ _ | refine Below.setCell ?_ (by first | (simp; done) | (simp; omega)) _ | refine Below.alloc ?_ (by first | (simp; done) | (simp; omega) | omega) _ | refine Below.drew ?_ | refine Below.trans ?_ (Below.mono (by assumption) (by first | (simp; done) | (simp; omega) | omega))))
  have be6 : Below w.heap.size w w6 := be5.trans (bb6.mono (by omega))
  have c6_k_0 : w6.cell? ⟨w.heap.size, 0, none⟩ = some (.bool b0) := cell_keep bb6 c5_k_0
  have c6_k_1 : w6.cell? ⟨w.heap.size, 1, none⟩ = some (.bool b1) := cell_keep bb6 c5_k_1
  have c6_k_2 : w6.cell? ⟨w.heap.size, 2, none⟩ = some (.bool b2) := cell_keep bb6 c5_k_2
  have c6_k_3 : w6.cell? ⟨w.heap.size, 3, none⟩ = some (.bool b3) := cell_keep bb6 c5_k_3
  have c6_k_4 : w6.cell? ⟨w.heap.size, 4, none⟩ = some (.bool b4) := cell_keep bb6 c5_k_4
  have c6_k_5 : w6.cell? ⟨w.heap.size, 5, none⟩ = some (.bool b5) := cell_keep bb6 c5_k_5
  have c6_k_6 : w6.cell? ⟨w.heap.size, 6, none⟩ = some (.bool b6) := cell_keep bb6 c5_k_6
  have c6_k_7 : w6.cell? ⟨w.heap.size, 7, none⟩ = some (.slice p n cap) := cell_keep bb6 c5_k_7
  have l6_k : w.heap.size < w6.heap.size := by omega
  clear hb6 be5 bb6 c5_k_0 c5_k_1 c5_k_2 c5_k_3 c5_k_4 c5_k_5 c5_k_6 c5_k_7 l5_k
  simp only [IV]
  have hq := HDE.out
  go_wp2_with fail
  refine ((HS.out _ (HH.out.below (by repeat (first | exact Below.refl _ _ | assumption | refine below_drewN ?_ _ | refine Below.setCell ?_ (by first | (simp; done) | (simp; omega)) _ | refine Below.alloc ?_ (by first | (simp; done) | (simp; omega) | omega) _ | refine Below.drew ?_ | refine Below.trans ?_ (Below.mono (by assumption) (by first | (simp; done) | (simp; omega) | omega)))))).1 _ _).mono ?_
  rintro e w7 ⟨rfl, hb7⟩
  rw [HS1.out]
  have hz7 := hb7.size
  (try simp at hz7)
  have bb7 : Below w6.heap.size w6 w7 := (by repeat (first | exact Below.refl _ _ | assumption | refine below_drewN ?_ _ | refine Below.setCell ?_ (by first | (simp; done) | (simp; omega)) _ | refine Below.alloc ?_ (by first | (simp; done) | (simp; omega) | omega) _ | refine Below.drew ?_ | refine Below.trans ?_ (Below.mono (by assumption) (by first | (simp; done) | (simp; omega) | omega))))
  have be7 : Below w.heap.size w w7 := be6.trans (bb7.mono (by omega))
  have c7_k_0 : w7.cell? ⟨w.heap.size, 0, none⟩ = some (.bool b0) := cell_keep bb7 c6_k_0
  have c7_k_1 : w7.cell? ⟨w.heap.size, 1, none⟩ = some (.bool b1) := cell_keep bb7 c6_k_1
  have c7_k_2 : w7.cell? ⟨w.heap.size, 2, none⟩ = some (.bool b2) := cell_keep bb7 c6_k_2
  have c7_k_3 : w7.cell? ⟨w.heap.size, 3, none⟩ = some (.bool b3) := cell_keep bb7 c6_k_3
  have c7_k_4 : w7.cell? ⟨w.heap.size, 4, none⟩ = some (.bool b4) := cell_keep bb7 c6_k_4
  have c7_k_5 : w7.cell? ⟨w.heap.size, 5, none⟩ = some (.bool b5) := cell_keep bb7 c6_k_5
  have c7_k_6 : w7.cell? ⟨w.heap.size, 6, none⟩ = some (.bool b6) := cell_keep bb7 c6_k_6
  have c7_k_7 : w7.cell? ⟨w.heap.size, 7, none⟩ = some (.slice p n cap) := cell_keep bb7 c6_k_7
  have l7_k : w.heap.size < w7.heap.size := by omega
  clear hb7 be6 bb7 c6_k_0 c6_k_1 c6_k_2 c6_k_3 c6_k_4 c6_k_5 c6_k_6 c6_k_7 l6_k
  simp only [IV]
  go_wp2_with fail
  refine ((HS.out _ (HH.out.below (by repeat (first | exact Below.refl _ _ | assumption | refine below_drewN ?_ _ | refine Below.setCell ?_ (by first | (simp; done) | (simp; omega)) _ | refine Below.alloc ?_ (by first | (simp; done) | (simp; omega) | omega) _ | refine Below.drew ?_ | refine Below.trans ?_ (Below.mono (by assumption) (by first | (simp; done) | (simp; omega) | omega)))))).2.2.2 _).mono ?_
  rintro e w8 ⟨rfl, hb8⟩
  rw [HBU.out]
  have hz8 := hb8.size
  (try simp at hz8)
  have bb8 : Below w7.heap.size w7 w8 := (by repeat (first | exact Below.refl _ _ | assumption | refine below_drewN ?_ _ | refine Below.setCell ?_ (by first | (simp; done) | (simp; omega)) _ | refine Below.alloc ?_ (by first | (simp; done) | (simp; omega) | omega) _ | refine Below.drew ?_ | refine Below.trans ?_ (Below.mono (by assumption) (by first | (simp; done) | (simp; omega) | omega))))
  have be8 : Below w.heap.size w w8 := be7.trans (bb8.mono (by omega))
  have c8_k_0 : w8.cell? ⟨w.heap.size, 0, none⟩ = some (.bool b0) := cell_keep bb8 c7_k_0
  have c8_k_1 : w8.cell? ⟨w.heap.size, 1, none⟩ = some (.bool b1) := cell_keep bb8 c7_k_1
  have c8_k_2 : w8.cell? ⟨w.heap.size, 2, none⟩ = some (.bool b2) := cell_keep bb8 c7_k_2
  have c8_k_3 : w8.cell? ⟨w.heap.size, 3, none⟩ = some (.bool b3) := cell_keep bb8 c7_k_3
  have c8_k_4 : w8.cell? ⟨w.heap.size, 4, none⟩ = some (.bool b4) := cell_keep bb8 c7_k_4
  have c8_k_5 : w8.cell? ⟨w.heap.size, 5, none⟩ = some (.bool b5) := cell_keep bb8 c7_k_5
  have c8_k_6 : w8.cell? ⟨w.heap.size, 6, none⟩ = some (.bool b6) := cell_keep bb8 c7_k_6
  have c8_k_7 : w8.cell? ⟨w.heap.size, 7, none⟩ = some (.slice p n cap) := cell_keep bb8 c7_k_7
  have l8_k : w.heap.size < w8.heap.size := by omega
  clear hb8 be7 bb8 c7_k_0 c7_k_1 c7_k_2 c7_k_3 c7_k_4 c7_k_5 c7_k_6 c7_k_7 l7_k
  go_wp2
  go_ret
  exact ⟨rfl, (by repeat (first | exact Below.refl _ _ | assumption | refine below_drewN ?_ _ | refine Below.setCell ?_ (by first | (simp; done) | (simp; omega)) _ | refine Below.alloc ?_ (by first | (simp; done) | (simp; omega) | omega) _ | refine Below.drew ?_ | refine Below.trans ?_ (Below.mono (by assumption) (by first | (simp; done) | (simp; omega) | omega))))⟩
end Go.Proofs.YtackkeggabgaeaaDoor

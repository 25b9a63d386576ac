/- DateNext: the walk of the law. -/
import Derived.Test.YtackkeggabgaeaaDoorDtS
namespace Go.Proofs.YtackkeggabgaeaaDoor
open Go.RowKit

set_option maxRecDepth 100000 in
set_option maxHeartbeats 3200000 in
theorem nx_a (b0 b1 b2 b3 b4 b5 b6 : Bool) (p : Option Addr) (n cap : Nat) (hs : List Int) (FC FA : Int → Int → Int × Int) (FN : Int → Int × Int) (FB : Int → Bool) (day o : Int) (w : World) (hE : Env w) (hh : Hols w p hs) (hS : CalS b0 b1 b2 b3 b4 b5 b6 p n cap hs FC FA FN FB) (hf : 500 < n) :
    Calls Tryd.prog 6 #[.agg #[.bool b0, .bool b1, .bool b2, .bool b3, .bool b4, .bool b5, .bool b6, .slice p n cap], .int .i64 day, .int .u16 o] w fun e w' => e = .returned (.bool true) ∧ Below w.heap.size w w' := by
  have HE := Lib.hid hE
  have HH := Lib.hid hh
  have HS := Lib.hid hS
  clear hE hh hS 
  go_enter Tryd.func6, Tryd.ntmps6
  go_wp2_with fail
  refine (head_any _ (HE.out.below (by repeat (first | exact Below.refl _ _ | assumption | refine below_drewN ?_ _ | refine Below.setCell ?_ (by first | (simp; done) | (simp; omega)) _ | refine Below.alloc ?_ (by first | (simp; done) | (simp; omega) | omega) _ | refine Below.drew ?_ | refine Below.trans ?_ (Below.mono (by assumption) (by first | (simp; done) | (simp; omega) | omega)))))).mono ?_
  rintro e w1 ⟨rfl, hb1⟩
  have hz1 := hb1.size
  (try simp at hz1)
  have be1 : Below w.heap.size w w1 := (by repeat (first | exact Below.refl _ _ | assumption | refine below_drewN ?_ _ | refine Below.setCell ?_ (by first | (simp; done) | (simp; omega)) _ | refine Below.alloc ?_ (by first | (simp; done) | (simp; omega) | omega) _ | refine Below.drew ?_ | refine Below.trans ?_ (Below.mono (by assumption) (by first | (simp; done) | (simp; omega) | omega))))
  have c1_k_0 : w1.cell? ⟨w.heap.size, 0, none⟩ = some (.bool b0) := cell_keep hb1 (by go_simp)
  have c1_k_1 : w1.cell? ⟨w.heap.size, 1, none⟩ = some (.bool b1) := cell_keep hb1 (by go_simp)
  have c1_k_2 : w1.cell? ⟨w.heap.size, 2, none⟩ = some (.bool b2) := cell_keep hb1 (by go_simp)
  have c1_k_3 : w1.cell? ⟨w.heap.size, 3, none⟩ = some (.bool b3) := cell_keep hb1 (by go_simp)
  have c1_k_4 : w1.cell? ⟨w.heap.size, 4, none⟩ = some (.bool b4) := cell_keep hb1 (by go_simp)
  have c1_k_5 : w1.cell? ⟨w.heap.size, 5, none⟩ = some (.bool b5) := cell_keep hb1 (by go_simp)
  have c1_k_6 : w1.cell? ⟨w.heap.size, 6, none⟩ = some (.bool b6) := cell_keep hb1 (by go_simp)
  have c1_k_7 : w1.cell? ⟨w.heap.size, 7, none⟩ = some (.slice p n cap) := cell_keep hb1 (by go_simp)
  have l1_k : w.heap.size < w1.heap.size := by omega
  clear hb1
  go_wp2_with fail
  refine ((HS.out _ (HH.out.below (by repeat (first | exact Below.refl _ _ | assumption | refine below_drewN ?_ _ | refine Below.setCell ?_ (by first | (simp; done) | (simp; omega)) _ | refine Below.alloc ?_ (by first | (simp; done) | (simp; omega) | omega) _ | refine Below.drew ?_ | refine Below.trans ?_ (Below.mono (by assumption) (by first | (simp; done) | (simp; omega) | omega)))))).2.2.1 _).mono ?_
  rintro e w2 ⟨rfl, hb2⟩
  have hz2 := hb2.size
  (try simp at hz2)
  have bb2 : Below w1.heap.size w1 w2 := (by repeat (first | exact Below.refl _ _ | assumption | refine below_drewN ?_ _ | refine Below.setCell ?_ (by first | (simp; done) | (simp; omega)) _ | refine Below.alloc ?_ (by first | (simp; done) | (simp; omega) | omega) _ | refine Below.drew ?_ | refine Below.trans ?_ (Below.mono (by assumption) (by first | (simp; done) | (simp; omega) | omega))))
  have be2 : Below w.heap.size w w2 := be1.trans (bb2.mono (by omega))
  have c2_k_0 : w2.cell? ⟨w.heap.size, 0, none⟩ = some (.bool b0) := cell_keep bb2 c1_k_0
  have c2_k_1 : w2.cell? ⟨w.heap.size, 1, none⟩ = some (.bool b1) := cell_keep bb2 c1_k_1
  have c2_k_2 : w2.cell? ⟨w.heap.size, 2, none⟩ = some (.bool b2) := cell_keep bb2 c1_k_2
  have c2_k_3 : w2.cell? ⟨w.heap.size, 3, none⟩ = some (.bool b3) := cell_keep bb2 c1_k_3
  have c2_k_4 : w2.cell? ⟨w.heap.size, 4, none⟩ = some (.bool b4) := cell_keep bb2 c1_k_4
  have c2_k_5 : w2.cell? ⟨w.heap.size, 5, none⟩ = some (.bool b5) := cell_keep bb2 c1_k_5
  have c2_k_6 : w2.cell? ⟨w.heap.size, 6, none⟩ = some (.bool b6) := cell_keep bb2 c1_k_6
  have c2_k_7 : w2.cell? ⟨w.heap.size, 7, none⟩ = some (.slice p n cap) := cell_keep bb2 c1_k_7
  have l2_k : w.heap.size < w2.heap.size := by omega
  clear hb2 be1 bb2 c1_k_0 c1_k_1 c1_k_2 c1_k_3 c1_k_4 c1_k_5 c1_k_6 c1_k_7 l1_k
  simp only [IV]
  go_wp2_with fail
  refine (few_any b0 b1 b2 b3 b4 b5 b6 p n cap _).mono ?_
  rintro e w3 ⟨rfl, hb3⟩
  rw [decide_eq_false (show ¬ n ≤ 500 by omega)]
  have hz3 := hb3.size
  (try simp at hz3)
  have bb3 : Below w2.heap.size w2 w3 := (by repeat (first | exact Below.refl _ _ | assumption | refine below_drewN ?_ _ | refine Below.setCell ?_ (by first | (simp; done) | (simp; omega)) _ | refine Below.alloc ?_ (by first | (simp; done) | (simp; omega) | omega) _ | refine Below.drew ?_ | refine Below.trans ?_ (Below.mono (by assumption) (by first | (simp; done) | (simp; omega) | omega))))
  have be3 : Below w.heap.size w w3 := be2.trans (bb3.mono (by omega))
  have c3_k_0 : w3.cell? ⟨w.heap.size, 0, none⟩ = some (.bool b0) := cell_keep bb3 c2_k_0
  have c3_k_1 : w3.cell? ⟨w.heap.size, 1, none⟩ = some (.bool b1) := cell_keep bb3 c2_k_1
  have c3_k_2 : w3.cell? ⟨w.heap.size, 2, none⟩ = some (.bool b2) := cell_keep bb3 c2_k_2
  have c3_k_3 : w3.cell? ⟨w.heap.size, 3, none⟩ = some (.bool b3) := cell_keep bb3 c2_k_3
  have c3_k_4 : w3.cell? ⟨w.heap.size, 4, none⟩ = some (.bool b4) := cell_keep bb3 c2_k_4
  have c3_k_5 : w3.cell? ⟨w.heap.size, 5, none⟩ = some (.bool b5) := cell_keep bb3 c2_k_5
  have c3_k_6 : w3.cell? ⟨w.heap.size, 6, none⟩ = some (.bool b6) := cell_keep bb3 c2_k_6
  have c3_k_7 : w3.cell? ⟨w.heap.size, 7, none⟩ = some (.slice p n cap) := cell_keep bb3 c2_k_7
  have l3_k : w.heap.size < w3.heap.size := by omega
  clear hb3 be2 bb3 c2_k_0 c2_k_1 c2_k_2 c2_k_3 c2_k_4 c2_k_5 c2_k_6 c2_k_7 l2_k
  go_wp2
  go_ret
  exact ⟨rfl, (by repeat (first | exact Below.refl _ _ | assumption | refine below_drewN ?_ _ | refine Below.setCell ?_ (by first | (simp; done) | (simp; omega)) _ | refine Below.alloc ?_ (by first | (simp; done) | (simp; omega) | omega) _ | refine Below.drew ?_ | refine Below.trans ?_ (Below.mono (by assumption) (by first | (simp; done) | (simp; omega) | omega))))⟩
set_option maxRecDepth 100000 in
set_option maxHeartbeats 3200000 in
theorem nx_b (b0 b1 b2 b3 b4 b5 b6 : Bool) (p : Option Addr) (n cap : Nat) (hs : List Int) (FC FA : Int → Int → Int × Int) (FN : Int → Int × Int) (FB : Int → Bool) (day o : Int) (w : World) (hE : Env w) (hh : Hols w p hs) (hS : CalS b0 b1 b2 b3 b4 b5 b6 p n cap hs FC FA FN FB) (hf : n ≤ 500) (hg : FN day = (0, 1)) :
    Calls Tryd.prog 6 #[.agg #[.bool b0, .bool b1, .bool b2, .bool b3, .bool b4, .bool b5, .bool b6, .slice p n cap], .int .i64 day, .int .u16 o] w fun e w' => e = .returned (.bool true) ∧ Below w.heap.size w w' := by
  have HE := Lib.hid hE
  have HH := Lib.hid hh
  have HS := Lib.hid hS
  have HG := Lib.hid hg
  clear hE hh hS hg
  go_enter Tryd.func6, Tryd.ntmps6
  go_wp2_with fail
  refine (head_any _ (HE.out.below (by repeat (first | exact Below.refl _ _ | assumption | refine below_drewN ?_ _ | refine Below.setCell ?_ (by first | (simp; done) | (simp; omega)) _ | refine Below.alloc ?_ (by first | (simp; done) | (simp; omega) | omega) _ | refine Below.drew ?_ | refine Below.trans ?_ (Below.mono (by assumption) (by first | (simp; done) | (simp; omega) | omega)))))).mono ?_
  rintro e w1 ⟨rfl, hb1⟩
  have hz1 := hb1.size
  (try simp at hz1)
  have be1 : Below w.heap.size w w1 := (by repeat (first | exact Below.refl _ _ | assumption | refine below_drewN ?_ _ | refine Below.setCell ?_ (by first | (simp; done) | (simp; omega)) _ | refine Below.alloc ?_ (by first | (simp; done) | (simp; omega) | omega) _ | refine Below.drew ?_ | refine Below.trans ?_ (Below.mono (by assumption) (by first | (simp; done) | (simp; omega) | omega))))
  have c1_k_0 : w1.cell? ⟨w.heap.size, 0, none⟩ = some (.bool b0) := cell_keep hb1 (by go_simp)
  have c1_k_1 : w1.cell? ⟨w.heap.size, 1, none⟩ = some (.bool b1) := cell_keep hb1 (by go_simp)
  have c1_k_2 : w1.cell? ⟨w.heap.size, 2, none⟩ = some (.bool b2) := cell_keep hb1 (by go_simp)
  have c1_k_3 : w1.cell? ⟨w.heap.size, 3, none⟩ = some (.bool b3) := cell_keep hb1 (by go_simp)
  have c1_k_4 : w1.cell? ⟨w.heap.size, 4, none⟩ = some (.bool b4) := cell_keep hb1 (by go_simp)
  have c1_k_5 : w1.cell? ⟨w.heap.size, 5, none⟩ = some (.bool b5) := cell_keep hb1 (by go_simp)
  have c1_k_6 : w1.cell? ⟨w.heap.size, 6, none⟩ = some (.bool b6) := cell_keep hb1 (by go_simp)
  have c1_k_7 : w1.cell? ⟨w.heap.size, 7, none⟩ = some (.slice p n cap) := cell_keep hb1 (by go_simp)
  have l1_k : w.heap.size < w1.heap.size := by omega
  clear hb1
  go_wp2_with fail
  refine ((HS.out _ (HH.out.below (by repeat (first | exact Below.refl _ _ | assumption | refine below_drewN ?_ _ | refine Below.setCell ?_ (by first | (simp; done) | (simp; omega)) _ | refine Below.alloc ?_ (by first | (simp; done) | (simp; omega) | omega) _ | refine Below.drew ?_ | refine Below.trans ?_ (Below.mono (by assumption) (by first | (simp; done) | (simp; omega) | omega)))))).2.2.1 _).mono ?_
  rintro e w2 ⟨rfl, hb2⟩
  rw [HG.out]
  have hz2 := hb2.size
  (try simp at hz2)
  have bb2 : Below w1.heap.size w1 w2 := (by repeat (first | exact Below.refl _ _ | assumption | refine below_drewN ?_ _ | refine Below.setCell ?_ (by first | (simp; done) | (simp; omega)) _ | refine Below.alloc ?_ (by first | (simp; done) | (simp; omega) | omega) _ | refine Below.drew ?_ | refine Below.trans ?_ (Below.mono (by assumption) (by first | (simp; done) | (simp; omega) | omega))))
  have be2 : Below w.heap.size w w2 := be1.trans (bb2.mono (by omega))
  have c2_k_0 : w2.cell? ⟨w.heap.size, 0, none⟩ = some (.bool b0) := cell_keep bb2 c1_k_0
  have c2_k_1 : w2.cell? ⟨w.heap.size, 1, none⟩ = some (.bool b1) := cell_keep bb2 c1_k_1
  have c2_k_2 : w2.cell? ⟨w.heap.size, 2, none⟩ = some (.bool b2) := cell_keep bb2 c1_k_2
  have c2_k_3 : w2.cell? ⟨w.heap.size, 3, none⟩ = some (.bool b3) := cell_keep bb2 c1_k_3
  have c2_k_4 : w2.cell? ⟨w.heap.size, 4, none⟩ = some (.bool b4) := cell_keep bb2 c1_k_4
  have c2_k_5 : w2.cell? ⟨w.heap.size, 5, none⟩ = some (.bool b5) := cell_keep bb2 c1_k_5
  have c2_k_6 : w2.cell? ⟨w.heap.size, 6, none⟩ = some (.bool b6) := cell_keep bb2 c1_k_6
  have c2_k_7 : w2.cell? ⟨w.heap.size, 7, none⟩ = some (.slice p n cap) := cell_keep bb2 c1_k_7
  have l2_k : w.heap.size < w2.heap.size := by omega
  clear hb2 be1 bb2 c1_k_0 c1_k_1 c1_k_2 c1_k_3 c1_k_4 c1_k_5 c1_k_6 c1_k_7 l1_k
  simp only [IV]
  go_wp2_with fail
  refine (few_any b0 b1 b2 b3 b4 b5 b6 p n cap _).mono ?_
  rintro e w3 ⟨rfl, hb3⟩
  rw [decide_eq_true hf]
  have hz3 := hb3.size
  (try simp at hz3)
  have bb3 : Below w2.heap.size w2 w3 := (by repeat (first | exact Below.refl _ _ | assumption | refine below_drewN ?_ _ | refine Below.setCell ?_ (by first | (simp; done) | (simp; omega)) _ | refine Below.alloc ?_ (by first | (simp; done) | (simp; omega) | omega) _ | refine Below.drew ?_ | refine Below.trans ?_ (Below.mono (by assumption) (by first | (simp; done) | (simp; omega) | omega))))
  have be3 : Below w.heap.size w w3 := be2.trans (bb3.mono (by omega))
  have c3_k_0 : w3.cell? ⟨w.heap.size, 0, none⟩ = some (.bool b0) := cell_keep bb3 c2_k_0
  have c3_k_1 : w3.cell? ⟨w.heap.size, 1, none⟩ = some (.bool b1) := cell_keep bb3 c2_k_1
  have c3_k_2 : w3.cell? ⟨w.heap.size, 2, none⟩ = some (.bool b2) := cell_keep bb3 c2_k_2
  have c3_k_3 : w3.cell? ⟨w.heap.size, 3, none⟩ = some (.bool b3) := cell_keep bb3 c2_k_3
  have c3_k_4 : w3.cell? ⟨w.heap.size, 4, none⟩ = some (.bool b4) := cell_keep bb3 c2_k_4
  have c3_k_5 : w3.cell? ⟨w.heap.size, 5, none⟩ = some (.bool b5) := cell_keep bb3 c2_k_5
  have c3_k_6 : w3.cell? ⟨w.heap.size, 6, none⟩ = some (.bool b6) := cell_keep bb3 c2_k_6
  have c3_k_7 : w3.cell? ⟨w.heap.size, 7, none⟩ = some (.slice p n cap) := cell_keep bb3 c2_k_7
  have l3_k : w.heap.size < w3.heap.size := by omega
  clear hb3 be2 bb3 c2_k_0 c2_k_1 c2_k_2 c2_k_3 c2_k_4 c2_k_5 c2_k_6 c2_k_7 l2_k
  go_wp2
  go_ret
  exact ⟨rfl, (by repeat (first | exact Below.refl _ _ | assumption | refine below_drewN ?_ _ | refine Below.setCell ?_ (by first | (simp; done) | (simp; omega)) _ | refine Below.alloc ?_ (by first | (simp; done) | (simp; omega) | omega) _ | refine Below.drew ?_ | refine Below.trans ?_ (Below.mono (by assumption) (by first | (simp; done) | (simp; omega) | omega))))⟩
set_option maxRecDepth 100000 in
set_option maxHeartbeats 3200000 in
theorem nx_c (b0 b1 b2 b3 b4 b5 b6 : Bool) (p : Option Addr) (n cap : Nat) (hs : List Int) (FC FA : Int → Int → Int × Int) (FN : Int → Int × Int) (FB : Int → Bool) (day o : Int) (w : World) (hE : Env w) (hh : Hols w p hs) (hS : CalS b0 b1 b2 b3 b4 b5 b6 p n cap hs FC FA FN FB) (hf : n ≤ 500) (hg : FN day = (0, 2)) (hb1 : FB 73048 = false) (hb2 : FB day = false) :
    Calls Tryd.prog 6 #[.agg #[.bool b0, .bool b1, .bool b2, .bool b3, .bool b4, .bool b5, .bool b6, .slice p n cap], .int .i64 day, .int .u16 o] w fun e w' => e = .returned (.bool true) ∧ Below w.heap.size w w' := by
  have HE := Lib.hid hE
  have HH := Lib.hid hh
  have HS := Lib.hid hS
  have HG := Lib.hid hg
  have HB1 := Lib.hid hb1
  have HB2 := Lib.hid hb2
  clear hE hh hS hg hb1 hb2
  go_enter Tryd.func6, Tryd.ntmps6
  go_wp2_with fail
  refine (head_any _ (HE.out.below (by repeat (first | exact Below.refl _ _ | assumption | refine below_drewN ?_ _ | refine Below.setCell ?_ (by first | (simp; done) | (simp; omega)) _ | refine Below.alloc ?_ (by first | (simp; done) | (simp; omega) | omega) _ | refine Below.drew ?_ | refine Below.trans ?_ (Below.mono (by assumption) (by first | (simp; done) | (simp; omega) | omega)))))).mono ?_
  rintro e w1 ⟨rfl, hb1⟩
  have hz1 := hb1.size
  (try simp at hz1)
  have be1 : Below w.heap.size w w1 := (by repeat (first | exact Below.refl _ _ | assumption | refine below_drewN ?_ _ | refine Below.setCell ?_ (by first | (simp; done) | (simp; omega)) _ | refine Below.alloc ?_ (by first | (simp; done) | (simp; omega) | omega) _ | refine Below.drew ?_ | refine Below.trans ?_ (Below.mono (by assumption) (by first | (simp; done) | (simp; omega) | omega))))
  have c1_k_0 : w1.cell? ⟨w.heap.size, 0, none⟩ = some (.bool b0) := cell_keep hb1 (by go_simp)
  have c1_k_1 : w1.cell? ⟨w.heap.size, 1, none⟩ = some (.bool b1) := cell_keep hb1 (by go_simp)
  have c1_k_2 : w1.cell? ⟨w.heap.size, 2, none⟩ = some (.bool b2) := cell_keep hb1 (by go_simp)
  have c1_k_3 : w1.cell? ⟨w.heap.size, 3, none⟩ = some (.bool b3) := cell_keep hb1 (by go_simp)
  have c1_k_4 : w1.cell? ⟨w.heap.size, 4, none⟩ = some (.bool b4) := cell_keep hb1 (by go_simp)
  have c1_k_5 : w1.cell? ⟨w.heap.size, 5, none⟩ = some (.bool b5) := cell_keep hb1 (by go_simp)
  have c1_k_6 : w1.cell? ⟨w.heap.size, 6, none⟩ = some (.bool b6) := cell_keep hb1 (by go_simp)
  have c1_k_7 : w1.cell? ⟨w.heap.size, 7, none⟩ = some (.slice p n cap) := cell_keep hb1 (by go_simp)
  have l1_k : w.heap.size < w1.heap.size := by omega
  clear hb1
  go_wp2_with fail
  refine ((HS.out _ (HH.out.below (by repeat (first | exact Below.refl _ _ | assumption | refine below_drewN ?_ _ | refine Below.setCell ?_ (by first | (simp; done) | (simp; omega)) _ | refine Below.alloc ?_ (by first | (simp; done) | (simp; omega) | omega) _ | refine Below.drew ?_ | refine Below.trans ?_ (Below.mono (by assumption) (by first | (simp; done) | (simp; omega) | omega)))))).2.2.1 _).mono ?_
  rintro e w2 ⟨rfl, hb2⟩
  rw [HG.out]
  have hz2 := hb2.size
  (try simp at hz2)
  have bb2 : Below w1.heap.size w1 w2 := (by repeat (first | exact Below.refl _ _ | assumption | refine below_drewN ?_ _ | refine Below.setCell ?_ (by first | (simp; done) | (simp; omega)) _ | refine Below.alloc ?_ (by first | (simp; done) | (simp; omega) | omega) _ | refine Below.drew ?_ | refine Below.trans ?_ (Below.mono (by assumption) (by first | (simp; done) | (simp; omega) | omega))))
  have be2 : Below w.heap.size w w2 := be1.trans (bb2.mono (by omega))
  have c2_k_0 : w2.cell? ⟨w.heap.size, 0, none⟩ = some (.bool b0) := cell_keep bb2 c1_k_0
  have c2_k_1 : w2.cell? ⟨w.heap.size, 1, none⟩ = some (.bool b1) := cell_keep bb2 c1_k_1
  have c2_k_2 : w2.cell? ⟨w.heap.size, 2, none⟩ = some (.bool b2) := cell_keep bb2 c1_k_2
  have c2_k_3 : w2.cell? ⟨w.heap.size, 3, none⟩ = some (.bool b3) := cell_keep bb2 c1_k_3
  have c2_k_4 : w2.cell? ⟨w.heap.size, 4, none⟩ = some (.bool b4) := cell_keep bb2 c1_k_4
  have c2_k_5 : w2.cell? ⟨w.heap.size, 5, none⟩ = some (.bool b5) := cell_keep bb2 c1_k_5
  have c2_k_6 : w2.cell? ⟨w.heap.size, 6, none⟩ = some (.bool b6) := cell_keep bb2 c1_k_6
  have c2_k_7 : w2.cell? ⟨w.heap.size, 7, none⟩ = some (.slice p n cap) := cell_keep bb2 c1_k_7
  have l2_k : w.heap.size < w2.heap.size := by omega
  clear hb2 be1 bb2 c1_k_0 c1_k_1 c1_k_2 c1_k_3 c1_k_4 c1_k_5 c1_k_6 c1_k_7 l1_k
  simp only [IV]
  go_wp2_with fail
  refine (few_any b0 b1 b2 b3 b4 b5 b6 p n cap _).mono ?_
  rintro e w3 ⟨rfl, hb3⟩
  rw [decide_eq_true hf]
  have hz3 := hb3.size
  (try simp at hz3)
  have bb3 : Below w2.heap.size w2 w3 := (by repeat (first | exact Below.refl _ _ | assumption | refine below_drewN ?_ _ | refine Below.setCell ?_ (by first | (simp; done) | (simp; omega)) _ | refine Below.alloc ?_ (by first | (simp; done) | (simp; omega) | omega) _ | refine Below.drew ?_ | refine Below.trans ?_ (Below.mono (by assumption) (by first | (simp; done) | (simp; omega) | omega))))
  have be3 : Below w.heap.size w w3 := be2.trans (bb3.mono (by omega))
  have c3_k_0 : w3.cell? ⟨w.heap.size, 0, none⟩ = some (.bool b0) := cell_keep bb3 c2_k_0
  have c3_k_1 : w3.cell? ⟨w.heap.size, 1, none⟩ = some (.bool b1) := cell_keep bb3 c2_k_1
  have c3_k_2 : w3.cell? ⟨w.heap.size, 2, none⟩ = some (.bool b2) := cell_keep bb3 c2_k_2
  have c3_k_3 : w3.cell? ⟨w.heap.size, 3, none⟩ = some (.bool b3) := cell_keep bb3 c2_k_3
  have c3_k_4 : w3.cell? ⟨w.heap.size, 4, none⟩ = some (.bool b4) := cell_keep bb3 c2_k_4
  have c3_k_5 : w3.cell? ⟨w.heap.size, 5, none⟩ = some (.bool b5) := cell_keep bb3 c2_k_5
  have c3_k_6 : w3.cell? ⟨w.heap.size, 6, none⟩ = some (.bool b6) := cell_keep bb3 c2_k_6
  have c3_k_7 : w3.cell? ⟨w.heap.size, 7, none⟩ = some (.slice p n cap) := cell_keep bb3 c2_k_7
  have l3_k : w.heap.size < w3.heap.size := by omega
  clear hb3 be2 bb3 c2_k_0 c2_k_1 c2_k_2 c2_k_3 c2_k_4 c2_k_5 c2_k_6 c2_k_7 l2_k
  go_wp2_with fail
  refine ((HS.out _ (HH.out.below (by repeat (first | exact Below.refl _ _ | assumption | refine below_drewN ?_ _ | refine Below.setCell ?_ (by first | (simp; done) | (simp; omega)) _ | refine Below.alloc ?_ (by first | (simp; done) | (simp; omega) | omega) _ | refine Below.drew ?_ | refine Below.trans ?_ (Below.mono (by assumption) (by first | (simp; done) | (simp; omega) | omega)))))).2.2.2 _).mono ?_
  rintro e w4 ⟨rfl, hb4⟩
  rw [HB1.out]
  have hz4 := hb4.size
  (try simp at hz4)
  have bb4 : Below w3.heap.size w3 w4 := (by repeat (first | exact Below.refl _ _ | assumption | refine below_drewN ?_ _ | refine Below.setCell ?_ (by first | (simp; done) | (simp; omega)) _ | refine Below.alloc ?_ (by first | (simp; done) | (simp; omega) | omega) _ | refine Below.drew ?_ | refine Below.trans ?_ (Below.mono (by assumption) (by first | (simp; done) | (simp; omega) | omega))))
  have be4 : Below w.heap.size w w4 := be3.trans (bb4.mono (by omega))
  have c4_k_0 : w4.cell? ⟨w.heap.size, 0, none⟩ = some (.bool b0) := cell_keep bb4 c3_k_0
  have c4_k_1 : w4.cell? ⟨w.heap.size, 1, none⟩ = some (.bool b1) := cell_keep bb4 c3_k_1
  have c4_k_2 : w4.cell? ⟨w.heap.size, 2, none⟩ = some (.bool b2) := cell_keep bb4 c3_k_2
  have c4_k_3 : w4.cell? ⟨w.heap.size, 3, none⟩ = some (.bool b3) := cell_keep bb4 c3_k_3
  have c4_k_4 : w4.cell? ⟨w.heap.size, 4, none⟩ = some (.bool b4) := cell_keep bb4 c3_k_4
  have c4_k_5 : w4.cell? ⟨w.heap.size, 5, none⟩ = some (.bool b5) := cell_keep bb4 c3_k_5
  have c4_k_6 : w4.cell? ⟨w.heap.size, 6, none⟩ = some (.bool b6) := cell_keep bb4 c3_k_6
  have c4_k_7 : w4.cell? ⟨w.heap.size, 7, none⟩ = some (.slice p n cap) := cell_keep bb4 c3_k_7
  have l4_k : w.heap.size < w4.heap.size := by omega
  clear hb4 be3 bb4 c3_k_0 c3_k_1 c3_k_2 c3_k_3 c3_k_4 c3_k_5 c3_k_6 c3_k_7 l3_k
  go_wp2_with fail
  refine ((HS.out _ (HH.out.below (by repeat (first | exact Below.refl _ _ | assumption | refine below_drewN ?_ _ | refine Below.setCell ?_ (by first | (simp; done) | (simp; omega)) _ | refine Below.alloc ?_ (by first | (simp; done) | (simp; omega) | omega) _ | refine Below.drew ?_ | refine Below.trans ?_ (Below.mono (by assumption) (by first | (simp; done) | (simp; omega) | omega)))))).2.2.2 _).mono ?_
  rintro e w5 ⟨rfl, hb5⟩
  rw [HB2.out]
  have hz5 := hb5.size
  (try simp at hz5)
  have bb5 : Below w4.heap.size w4 w5 := (by repeat (first | exact Below.refl _ _ | assumption | refine below_drewN ?_ _ | refine Below.setCell ?_ (by first | (simp; done) | (simp; omega)) _ | refine Below.alloc ?_ (by first | (simp; done) | (simp; omega) | omega) _ | refine Below.drew ?_ | refine Below.trans ?_ (Below.mono (by assumption) (by first | (simp; done) | (simp; omega) | omega))))
  have be5 : Below w.heap.size w w5 := be4.trans (bb5.mono (by omega))
  have c5_k_0 : w5.cell? ⟨w.heap.size, 0, none⟩ = some (.bool b0) := cell_keep bb5 c4_k_0
  have c5_k_1 : w5.cell? ⟨w.heap.size, 1, none⟩ = some (.bool b1) := cell_keep bb5 c4_k_1
  have c5_k_2 : w5.cell? ⟨w.heap.size, 2, none⟩ = some (.bool b2) := cell_keep bb5 c4_k_2
  have c5_k_3 : w5.cell? ⟨w.heap.size, 3, none⟩ = some (.bool b3) := cell_keep bb5 c4_k_3
  have c5_k_4 : w5.cell? ⟨w.heap.size, 4, none⟩ = some (.bool b4) := cell_keep bb5 c4_k_4
  have c5_k_5 : w5.cell? ⟨w.heap.size, 5, none⟩ = some (.bool b5) := cell_keep bb5 c4_k_5
  have c5_k_6 : w5.cell? ⟨w.heap.size, 6, none⟩ = some (.bool b6) := cell_keep bb5 c4_k_6
  have c5_k_7 : w5.cell? ⟨w.heap.size, 7, none⟩ = some (.slice p n cap) := cell_keep bb5 c4_k_7
  have l5_k : w.heap.size < w5.heap.size := by omega
  clear hb5 be4 bb5 c4_k_0 c4_k_1 c4_k_2 c4_k_3 c4_k_4 c4_k_5 c4_k_6 c4_k_7 l4_k
  go_wp2
  go_ret
  exact ⟨rfl, (by repeat (first | exact Below.refl _ _ | assumption | refine below_drewN ?_ _ | refine Below.setCell ?_ (by first | (simp; done) | (simp; omega)) _ | refine Below.alloc ?_ (by first | (simp; done) | (simp; omega) | omega) _ | refine Below.drew ?_ | refine Below.trans ?_ (Below.mono (by assumption) (by first | (simp; done) | (simp; omega) | omega))))⟩
set_option maxRecDepth 100000 in
set_option maxHeartbeats 3200000 in
theorem nx_d (b0 b1 b2 b3 b4 b5 b6 : Bool) (p : Option Addr) (n cap : Nat) (hs : List Int) (FC FA : Int → Int → Int × Int) (FN : Int → Int × Int) (FB : Int → Bool) (d r : Nat) (o l : Int) (w : World) (hE : Env w) (hh : Hols w p hs) (hS : CalS b0 b1 b2 b3 b4 b5 b6 p n cap hs FC FA FN FB) (hf : n ≤ 500) (hg : FN (d : Int) = ((r : Int), 0)) (hr : FB (r : Int) = true) (hnb : ∀ x : Nat, d ≤ x → x < r → FB (x : Int) = false) (hsm : FN (r : Int) = ((r : Int), 0)) (h1 : d ≤ r) (h2 : r ≤ 73048) (o0 : 0 ≤ o) (o1 : o ≤ 65535) (ya yb : Int) (hl : (d : Int) + o % 401 = l) (ht : FN l = (ya, yb)) (hf' : (yb == 0) = false) :
    Calls Tryd.prog 6 #[.agg #[.bool b0, .bool b1, .bool b2, .bool b3, .bool b4, .bool b5, .bool b6, .slice p n cap], .int .i64 (d : Int), .int .u16 o] w fun e w' => e = .returned (.bool true) ∧ Below w.heap.size w w' := by
  have HE := Lib.hid hE
  have HH := Lib.hid hh
  have HS := Lib.hid hS
  have HG := Lib.hid hg
  have HR := Lib.hid hr
  have HNB := Lib.hid hnb
  have HSM := Lib.hid hsm
  have HL := Lib.hid hl
  have HT := Lib.hid ht
  have HF := Lib.hid hf'
  clear hf' hE hh hS hg hr hnb hsm hl ht
  go_enter Tryd.func6, Tryd.ntmps6
  go_wp2_with fail
  refine (head_any _ (HE.out.below (by repeat (first | exact Below.refl _ _ | assumption | refine below_drewN ?_ _ | refine Below.setCell ?_ (by first | (simp; done) | (simp; omega)) _ | refine Below.alloc ?_ (by first | (simp; done) | (simp; omega) | omega) _ | refine Below.drew ?_ | refine Below.trans ?_ (Below.mono (by assumption) (by first | (simp; done) | (simp; omega) | omega)))))).mono ?_
  rintro e w1 ⟨rfl, hb1⟩
  have hz1 := hb1.size
  (try simp at hz1)
  have be1 : Below w.heap.size w w1 := (by repeat (first | exact Below.refl _ _ | assumption | refine below_drewN ?_ _ | refine Below.setCell ?_ (by first | (simp; done) | (simp; omega)) _ | refine Below.alloc ?_ (by first | (simp; done) | (simp; omega) | omega) _ | refine Below.drew ?_ | refine Below.trans ?_ (Below.mono (by assumption) (by first | (simp; done) | (simp; omega) | omega))))
  have c1_k_0 : w1.cell? ⟨w.heap.size, 0, none⟩ = some (.bool b0) := cell_keep hb1 (by go_simp)
  have c1_k_1 : w1.cell? ⟨w.heap.size, 1, none⟩ = some (.bool b1) := cell_keep hb1 (by go_simp)
  have c1_k_2 : w1.cell? ⟨w.heap.size, 2, none⟩ = some (.bool b2) := cell_keep hb1 (by go_simp)
  have c1_k_3 : w1.cell? ⟨w.heap.size, 3, none⟩ = some (.bool b3) := cell_keep hb1 (by go_simp)
  have c1_k_4 : w1.cell? ⟨w.heap.size, 4, none⟩ = some (.bool b4) := cell_keep hb1 (by go_simp)
  have c1_k_5 : w1.cell? ⟨w.heap.size, 5, none⟩ = some (.bool b5) := cell_keep hb1 (by go_simp)
  have c1_k_6 : w1.cell? ⟨w.heap.size, 6, none⟩ = some (.bool b6) := cell_keep hb1 (by go_simp)
  have c1_k_7 : w1.cell? ⟨w.heap.size, 7, none⟩ = some (.slice p n cap) := cell_keep hb1 (by go_simp)
  have l1_k : w.heap.size < w1.heap.size := by omega
  clear hb1
  go_wp2_with fail
  refine ((HS.out _ (HH.out.below (by repeat (first | exact Below.refl _ _ | assumption | refine below_drewN ?_ _ | refine Below.setCell ?_ (by first | (simp; done) | (simp; omega)) _ | refine Below.alloc ?_ (by first | (simp; done) | (simp; omega) | omega) _ | refine Below.drew ?_ | refine Below.trans ?_ (Below.mono (by assumption) (by first | (simp; done) | (simp; omega) | omega)))))).2.2.1 _).mono ?_
  rintro e w2 ⟨rfl, hb2⟩
  rw [HG.out]
  have hz2 := hb2.size
  (try simp at hz2)
  have bb2 : Below w1.heap.size w1 w2 := (by repeat (first | exact Below.refl _ _ | assumption | refine below_drewN ?_ _ | refine Below.setCell ?_ (by first | (simp; done) | (simp; omega)) _ | refine Below.alloc ?_ (by first | (simp; done) | (simp; omega) | omega) _ | refine Below.drew ?_ | refine Below.trans ?_ (Below.mono (by assumption) (by first | (simp; done) | (simp; omega) | omega))))
  have be2 : Below w.heap.size w w2 := be1.trans (bb2.mono (by omega))
  have c2_k_0 : w2.cell? ⟨w.heap.size, 0, none⟩ = some (.bool b0) := cell_keep bb2 c1_k_0
  have c2_k_1 : w2.cell? ⟨w.heap.size, 1, none⟩ = some (.bool b1) := cell_keep bb2 c1_k_1
  have c2_k_2 : w2.cell? ⟨w.heap.size, 2, none⟩ = some (.bool b2) := cell_keep bb2 c1_k_2
  have c2_k_3 : w2.cell? ⟨w.heap.size, 3, none⟩ = some (.bool b3) := cell_keep bb2 c1_k_3
  have c2_k_4 : w2.cell? ⟨w.heap.size, 4, none⟩ = some (.bool b4) := cell_keep bb2 c1_k_4
  have c2_k_5 : w2.cell? ⟨w.heap.size, 5, none⟩ = some (.bool b5) := cell_keep bb2 c1_k_5
  have c2_k_6 : w2.cell? ⟨w.heap.size, 6, none⟩ = some (.bool b6) := cell_keep bb2 c1_k_6
  have c2_k_7 : w2.cell? ⟨w.heap.size, 7, none⟩ = some (.slice p n cap) := cell_keep bb2 c1_k_7
  have l2_k : w.heap.size < w2.heap.size := by omega
  clear hb2 be1 bb2 c1_k_0 c1_k_1 c1_k_2 c1_k_3 c1_k_4 c1_k_5 c1_k_6 c1_k_7 l1_k
  simp only [IV]
  go_wp2_with fail
  refine (few_any b0 b1 b2 b3 b4 b5 b6 p n cap _).mono ?_
  rintro e w3 ⟨rfl, hb3⟩
  rw [decide_eq_true hf]
  have hz3 := hb3.size
  (try simp at hz3)
  have bb3 : Below w2.heap.size w2 w3 := (by repeat (first | exact Below.refl _ _ | assumption | refine below_drewN ?_ _ | refine Below.setCell ?_ (by first | (simp; done) | (simp; omega)) _ | refine Below.alloc ?_ (by first | (simp; done) | (simp; omega) | omega) _ | refine Below.drew ?_ | refine Below.trans ?_ (Below.mono (by assumption) (by first | (simp; done) | (simp; omega) | omega))))
  have be3 : Below w.heap.size w w3 := be2.trans (bb3.mono (by omega))
  have c3_k_0 : w3.cell? ⟨w.heap.size, 0, none⟩ = some (.bool b0) := cell_keep bb3 c2_k_0
  have c3_k_1 : w3.cell? ⟨w.heap.size, 1, none⟩ = some (.bool b1) := cell_keep bb3 c2_k_1
  have c3_k_2 : w3.cell? ⟨w.heap.size, 2, none⟩ = some (.bool b2) := cell_keep bb3 c2_k_2
  have c3_k_3 : w3.cell? ⟨w.heap.size, 3, none⟩ = some (.bool b3) := cell_keep bb3 c2_k_3
  have c3_k_4 : w3.cell? ⟨w.heap.size, 4, none⟩ = some (.bool b4) := cell_keep bb3 c2_k_4
  have c3_k_5 : w3.cell? ⟨w.heap.size, 5, none⟩ = some (.bool b5) := cell_keep bb3 c2_k_5
  have c3_k_6 : w3.cell? ⟨w.heap.size, 6, none⟩ = some (.bool b6) := cell_keep bb3 c2_k_6
  have c3_k_7 : w3.cell? ⟨w.heap.size, 7, none⟩ = some (.slice p n cap) := cell_keep bb3 c2_k_7
  have l3_k : w.heap.size < w3.heap.size := by omega
  clear hb3 be2 bb3 c2_k_0 c2_k_1 c2_k_2 c2_k_3 c2_k_4 c2_k_5 c2_k_6 c2_k_7 l2_k
  go_wp2_with fail
  refine ((HS.out _ (HH.out.below (by repeat (first | exact Below.refl _ _ | assumption | refine below_drewN ?_ _ | refine Below.setCell ?_ (by first | (simp; done) | (simp; omega)) _ | refine Below.alloc ?_ (by first | (simp; done) | (simp; omega) | omega) _ | refine Below.drew ?_ | refine Below.trans ?_ (Below.mono (by assumption) (by first | (simp; done) | (simp; omega) | omega)))))).2.2.2 _).mono ?_
  rintro e w4 ⟨rfl, hb4⟩
  rw [HR.out]
  have hz4 := hb4.size
  (try simp at hz4)
  have bb4 : Below w3.heap.size w3 w4 := (by repeat (first | exact Below.refl _ _ | assumption | refine below_drewN ?_ _ | refine Below.setCell ?_ (by first | (simp; done) | (simp; omega)) _ | refine Below.alloc ?_ (by first | (simp; done) | (simp; omega) | omega) _ | refine Below.drew ?_ | refine Below.trans ?_ (Below.mono (by assumption) (by first | (simp; done) | (simp; omega) | omega))))
  have be4 : Below w.heap.size w w4 := be3.trans (bb4.mono (by omega))
  have c4_k_0 : w4.cell? ⟨w.heap.size, 0, none⟩ = some (.bool b0) := cell_keep bb4 c3_k_0
  have c4_k_1 : w4.cell? ⟨w.heap.size, 1, none⟩ = some (.bool b1) := cell_keep bb4 c3_k_1
  have c4_k_2 : w4.cell? ⟨w.heap.size, 2, none⟩ = some (.bool b2) := cell_keep bb4 c3_k_2
  have c4_k_3 : w4.cell? ⟨w.heap.size, 3, none⟩ = some (.bool b3) := cell_keep bb4 c3_k_3
  have c4_k_4 : w4.cell? ⟨w.heap.size, 4, none⟩ = some (.bool b4) := cell_keep bb4 c3_k_4
  have c4_k_5 : w4.cell? ⟨w.heap.size, 5, none⟩ = some (.bool b5) := cell_keep bb4 c3_k_5
  have c4_k_6 : w4.cell? ⟨w.heap.size, 6, none⟩ = some (.bool b6) := cell_keep bb4 c3_k_6
  have c4_k_7 : w4.cell? ⟨w.heap.size, 7, none⟩ = some (.slice p n cap) := cell_keep bb4 c3_k_7
  have l4_k : w.heap.size < w4.heap.size := by omega
  clear hb4 be3 bb4 c3_k_0 c3_k_1 c3_k_2 c3_k_3 c3_k_4 c3_k_5 c3_k_6 c3_k_7 l3_k
  go_wp2
  rw [decide_eq_false (show ¬ r < d by omega)]
  go_loopw [10] (fun i wr => ∃ x : Nat, i = .int .i64 (x : Int) ∧ d ≤ x ∧ x ≤ r ∧ Below w4.heap.size w4 wr) (fun i _ => r - (intOf i).toNat)
  case atStart => exact ⟨d, rfl, Nat.le_refl _, h1, Below.refl _ _⟩
  case round =>
    obtain ⟨x, rfl, hx1, hx2, hbw⟩ := hrel
    have q0 : wr.cell? ⟨w.heap.size, 0, none⟩ = some (.bool b0) := cell_keep hbw c4_k_0
    have q1 : wr.cell? ⟨w.heap.size, 1, none⟩ = some (.bool b1) := cell_keep hbw c4_k_1
    have q2 : wr.cell? ⟨w.heap.size, 2, none⟩ = some (.bool b2) := cell_keep hbw c4_k_2
    have q3 : wr.cell? ⟨w.heap.size, 3, none⟩ = some (.bool b3) := cell_keep hbw c4_k_3
    have q4 : wr.cell? ⟨w.heap.size, 4, none⟩ = some (.bool b4) := cell_keep hbw c4_k_4
    have q5 : wr.cell? ⟨w.heap.size, 5, none⟩ = some (.bool b5) := cell_keep hbw c4_k_5
    have q6 : wr.cell? ⟨w.heap.size, 6, none⟩ = some (.bool b6) := cell_keep hbw c4_k_6
    have q7 : wr.cell? ⟨w.heap.size, 7, none⟩ = some (.slice p n cap) := cell_keep hbw c4_k_7
    have hzr := hbw.size
    have ber : Below w.heap.size w wr := be4.trans (hbw.mono (by omega))
    have HBW := Lib.hid hbw
    clear hbw
    clear c4_k_0 c4_k_1 c4_k_2 c4_k_3 c4_k_4 c4_k_5 c4_k_6 c4_k_7
    by_cases hin : x < r ∧ x < d + 500
    · obtain ⟨i1, i2⟩ := hin
      have HNB := Lib.hid (HNB.out x hx1 i1)
      go_wp2_with fail
      refine ((HS.out _ (HH.out.below ber)).2.2.2 _).mono ?_
      rintro e wn ⟨rfl, hbn⟩
      rw [HNB.out]
      have HBN := Lib.hid hbn
      clear hbn
      go_wp2
      go_roundw
      case rel => exact ⟨x + 1, by go_num, by omega, by omega, HBW.out.trans (HBN.out.mono (by omega))⟩
      case measure => simp [intOf]; omega
    · have hout : r ≤ x ∨ (x < r ∧ d + 500 ≤ x) := by omega
      clear hin
      rcases hout with hout | ⟨hlt, hout⟩
      · go_wp2_with fail
        refine ((HS.out _ (HH.out.below ber)).2.2.1 _).mono ?_
        rintro e wm ⟨rfl, hbm⟩
        rw [HSM.out]
        simp only [IV]
        have hzm := hbm.size
        have bem : Below w.heap.size w wm := ber.trans (hbm.mono (by omega))
        have r0 : wm.cell? ⟨w.heap.size, 0, none⟩ = some (.bool b0) := cell_keep hbm q0
        have r1 : wm.cell? ⟨w.heap.size, 1, none⟩ = some (.bool b1) := cell_keep hbm q1
        have r2 : wm.cell? ⟨w.heap.size, 2, none⟩ = some (.bool b2) := cell_keep hbm q2
        have r3 : wm.cell? ⟨w.heap.size, 3, none⟩ = some (.bool b3) := cell_keep hbm q3
        have r4 : wm.cell? ⟨w.heap.size, 4, none⟩ = some (.bool b4) := cell_keep hbm q4
        have r5 : wm.cell? ⟨w.heap.size, 5, none⟩ = some (.bool b5) := cell_keep hbm q5
        have r6 : wm.cell? ⟨w.heap.size, 6, none⟩ = some (.bool b6) := cell_keep hbm q6
        have r7 : wm.cell? ⟨w.heap.size, 7, none⟩ = some (.slice p n cap) := cell_keep hbm q7
        clear hbm ber q0 q1 q2 q3 q4 q5 q6 q7
        go_wp2_with fail
        refine ((HS.out _ (HH.out.below bem)).2.2.1 _).mono ?_
        rintro e wz ⟨rfl, hbz⟩
        simp only [HL.out]
        rw [HT.out]
        simp only [IV]
        have hzz := hbz.size
        have bez : Below w.heap.size w wz := bem.trans (hbz.mono (by omega))
        clear hbz bem
        have g1 := HF.out
        have g3 : ¬ yb = 0 := beq_eq_false_iff_ne.1 HF.out
        have g2 : (yb != 0) = true := by simp [g3]
        go_wp2
        go_ret
        exact ⟨rfl, bez⟩
      · go_wp2_with fail
        refine ((HS.out _ (HH.out.below ber)).2.2.1 _).mono ?_
        rintro e wm ⟨rfl, hbm⟩
        rw [HSM.out]
        simp only [IV]
        have hzm := hbm.size
        have bem : Below w.heap.size w wm := ber.trans (hbm.mono (by omega))
        have r0 : wm.cell? ⟨w.heap.size, 0, none⟩ = some (.bool b0) := cell_keep hbm q0
        have r1 : wm.cell? ⟨w.heap.size, 1, none⟩ = some (.bool b1) := cell_keep hbm q1
        have r2 : wm.cell? ⟨w.heap.size, 2, none⟩ = some (.bool b2) := cell_keep hbm q2
        have r3 : wm.cell? ⟨w.heap.size, 3, none⟩ = some (.bool b3) := cell_keep hbm q3
        have r4 : wm.cell? ⟨w.heap.size, 4, none⟩ = some (.bool b4) := cell_keep hbm q4
        have r5 : wm.cell? ⟨w.heap.size, 5, none⟩ = some (.bool b5) := cell_keep hbm q5
        have r6 : wm.cell? ⟨w.heap.size, 6, none⟩ = some (.bool b6) := cell_keep hbm q6
        have r7 : wm.cell? ⟨w.heap.size, 7, none⟩ = some (.slice p n cap) := cell_keep hbm q7
        clear hbm ber q0 q1 q2 q3 q4 q5 q6 q7
        go_wp2_with fail
        refine ((HS.out _ (HH.out.below bem)).2.2.1 _).mono ?_
        rintro e wz ⟨rfl, hbz⟩
        simp only [HL.out]
        rw [HT.out]
        simp only [IV]
        have hzz := hbz.size
        have bez : Below w.heap.size w wz := bem.trans (hbz.mono (by omega))
        clear hbz bem
        have g1 := HF.out
        have g3 : ¬ yb = 0 := beq_eq_false_iff_ne.1 HF.out
        have g2 : (yb != 0) = true := by simp [g3]
        go_wp2
        go_ret
        exact ⟨rfl, bez⟩
set_option maxRecDepth 100000 in
set_option maxHeartbeats 3200000 in
theorem nx_e (b0 b1 b2 b3 b4 b5 b6 : Bool) (p : Option Addr) (n cap : Nat) (hs : List Int) (FC FA : Int → Int → Int × Int) (FN : Int → Int × Int) (FB : Int → Bool) (d r : Nat) (o l : Int) (w : World) (hE : Env w) (hh : Hols w p hs) (hS : CalS b0 b1 b2 b3 b4 b5 b6 p n cap hs FC FA FN FB) (hf : n ≤ 500) (hg : FN (d : Int) = ((r : Int), 0)) (hr : FB (r : Int) = true) (hnb : ∀ x : Nat, d ≤ x → x < r → FB (x : Int) = false) (hsm : FN (r : Int) = ((r : Int), 0)) (h1 : d ≤ r) (h2 : r ≤ 73048) (o0 : 0 ≤ o) (o1 : o ≤ 65535) (ya : Int) (hl : (d : Int) + o % 401 = l) (ht : FN l = (ya, 0)) (hge : (r : Int) ≤ ya) :
    Calls Tryd.prog 6 #[.agg #[.bool b0, .bool b1, .bool b2, .bool b3, .bool b4, .bool b5, .bool b6, .slice p n cap], .int .i64 (d : Int), .int .u16 o] w fun e w' => e = .returned (.bool true) ∧ Below w.heap.size w w' := by
  have HE := Lib.hid hE
  have HH := Lib.hid hh
  have HS := Lib.hid hS
  have HG := Lib.hid hg
  have HR := Lib.hid hr
  have HNB := Lib.hid hnb
  have HSM := Lib.hid hsm
  have HL := Lib.hid hl
  have HT := Lib.hid ht
  have HGE := Lib.hid hge
  clear hge hE hh hS hg hr hnb hsm hl ht
  go_enter Tryd.func6, Tryd.ntmps6
  go_wp2_with fail
  refine (head_any _ (HE.out.below (by repeat (first | exact Below.refl _ _ | assumption | refine below_drewN ?_ _ | refine Below.setCell ?_ (by first | (simp; done) | (simp; omega)) _ | refine Below.alloc ?_ (by first | (simp; done) | (simp; omega) | omega) _ | refine Below.drew ?_ | refine Below.trans ?_ (Below.mono (by assumption) (by first | (simp; done) | (simp; omega) | omega)))))).mono ?_
  rintro e w1 ⟨rfl, hb1⟩
  have hz1 := hb1.size
  (try simp at hz1)
  have be1 : Below w.heap.size w w1 := (by repeat (first | exact Below.refl _ _ | assumption | refine below_drewN ?_ _ | refine Below.setCell ?_ (by first | (simp; done) | (simp; omega)) _ | refine Below.alloc ?_ (by first | (simp; done) | (simp; omega) | omega) _ | refine Below.drew ?_ | refine Below.trans ?_ (Below.mono (by assumption) (by first | (simp; done) | (simp; omega) | omega))))
  have c1_k_0 : w1.cell? ⟨w.heap.size, 0, none⟩ = some (.bool b0) := cell_keep hb1 (by go_simp)
  have c1_k_1 : w1.cell? ⟨w.heap.size, 1, none⟩ = some (.bool b1) := cell_keep hb1 (by go_simp)
  have c1_k_2 : w1.cell? ⟨w.heap.size, 2, none⟩ = some (.bool b2) := cell_keep hb1 (by go_simp)
  have c1_k_3 : w1.cell? ⟨w.heap.size, 3, none⟩ = some (.bool b3) := cell_keep hb1 (by go_simp)
  have c1_k_4 : w1.cell? ⟨w.heap.size, 4, none⟩ = some (.bool b4) := cell_keep hb1 (by go_simp)
  have c1_k_5 : w1.cell? ⟨w.heap.size, 5, none⟩ = some (.bool b5) := cell_keep hb1 (by go_simp)
  have c1_k_6 : w1.cell? ⟨w.heap.size, 6, none⟩ = some (.bool b6) := cell_keep hb1 (by go_simp)
  have c1_k_7 : w1.cell? ⟨w.heap.size, 7, none⟩ = some (.slice p n cap) := cell_keep hb1 (by go_simp)
  have l1_k : w.heap.size < w1.heap.size := by omega
  clear hb1
  go_wp2_with fail
  refine ((HS.out _ (HH.out.below (by repeat (first | exact Below.refl _ _ | assumption | refine below_drewN ?_ _ | refine Below.setCell ?_ (by first | (simp; done) | (simp; omega)) _ | refine Below.alloc ?_ (by first | (simp; done) | (simp; omega) | omega) _ | refine Below.drew ?_ | refine Below.trans ?_ (Below.mono (by assumption) (by first | (simp; done) | (simp; omega) | omega)))))).2.2.1 _).mono ?_
  rintro e w2 ⟨rfl, hb2⟩
  rw [HG.out]
  have hz2 := hb2.size
  (try simp at hz2)
  have bb2 : Below w1.heap.size w1 w2 := (by repeat (first | exact Below.refl _ _ | assumption | refine below_drewN ?_ _ | refine Below.setCell ?_ (by first | (simp; done) | (simp; omega)) _ | refine Below.alloc ?_ (by first | (simp; done) | (simp; omega) | omega) _ | refine Below.drew ?_ | refine Below.trans ?_ (Below.mono (by assumption) (by first | (simp; done) | (simp; omega) | omega))))
  have be2 : Below w.heap.size w w2 := be1.trans (bb2.mono (by omega))
  have c2_k_0 : w2.cell? ⟨w.heap.size, 0, none⟩ = some (.bool b0) := cell_keep bb2 c1_k_0
  have c2_k_1 : w2.cell? ⟨w.heap.size, 1, none⟩ = some (.bool b1) := cell_keep bb2 c1_k_1
  have c2_k_2 : w2.cell? ⟨w.heap.size, 2, none⟩ = some (.bool b2) := cell_keep bb2 c1_k_2
  have c2_k_3 : w2.cell? ⟨w.heap.size, 3, none⟩ = some (.bool b3) := cell_keep bb2 c1_k_3
  have c2_k_4 : w2.cell? ⟨w.heap.size, 4, none⟩ = some (.bool b4) := cell_keep bb2 c1_k_4
  have c2_k_5 : w2.cell? ⟨w.heap.size, 5, none⟩ = some (.bool b5) := cell_keep bb2 c1_k_5
  have c2_k_6 : w2.cell? ⟨w.heap.size, 6, none⟩ = some (.bool b6) := cell_keep bb2 c1_k_6
  have c2_k_7 : w2.cell? ⟨w.heap.size, 7, none⟩ = some (.slice p n cap) := cell_keep bb2 c1_k_7
  have l2_k : w.heap.size < w2.heap.size := by omega
  clear hb2 be1 bb2 c1_k_0 c1_k_1 c1_k_2 c1_k_3 c1_k_4 c1_k_5 c1_k_6 c1_k_7 l1_k
  simp only [IV]
  go_wp2_with fail
  refine (few_any b0 b1 b2 b3 b4 b5 b6 p n cap _).mono ?_
  rintro e w3 ⟨rfl, hb3⟩
  rw [decide_eq_true hf]
  have hz3 := hb3.size
  (try simp at hz3)
  have bb3 : Below w2.heap.size w2 w3 := (by repeat (first | exact Below.refl _ _ | assumption | refine below_drewN ?_ _ | refine Below.setCell ?_ (by first | (simp; done) | (simp; omega)) _ | refine Below.alloc ?_ (by first | (simp; done) | (simp; omega) | omega) _ | refine Below.drew ?_ | refine Below.trans ?_ (Below.mono (by assumption) (by first | (simp; done) | (simp; omega) | omega))))
  have be3 : Below w.heap.size w w3 := be2.trans (bb3.mono (by omega))
  have c3_k_0 : w3.cell? ⟨w.heap.size, 0, none⟩ = some (.bool b0) := cell_keep bb3 c2_k_0
  have c3_k_1 : w3.cell? ⟨w.heap.size, 1, none⟩ = some (.bool b1) := cell_keep bb3 c2_k_1
  have c3_k_2 : w3.cell? ⟨w.heap.size, 2, none⟩ = some (.bool b2) := cell_keep bb3 c2_k_2
  have c3_k_3 : w3.cell? ⟨w.heap.size, 3, none⟩ = some (.bool b3) := cell_keep bb3 c2_k_3
  have c3_k_4 : w3.cell? ⟨w.heap.size, 4, none⟩ = some (.bool b4) := cell_keep bb3 c2_k_4
  have c3_k_5 : w3.cell? ⟨w.heap.size, 5, none⟩ = some (.bool b5) := cell_keep bb3 c2_k_5
  have c3_k_6 : w3.cell? ⟨w.heap.size, 6, none⟩ = some (.bool b6) := cell_keep bb3 c2_k_6
  have c3_k_7 : w3.cell? ⟨w.heap.size, 7, none⟩ = some (.slice p n cap) := cell_keep bb3 c2_k_7
  have l3_k : w.heap.size < w3.heap.size := by omega
  clear hb3 be2 bb3 c2_k_0 c2_k_1 c2_k_2 c2_k_3 c2_k_4 c2_k_5 c2_k_6 c2_k_7 l2_k
  go_wp2_with fail
  refine ((HS.out _ (HH.out.below (by repeat (first | exact Below.refl _ _ | assumption | refine below_drewN ?_ _ | refine Below.setCell ?_ (by first | (simp; done) | (simp; omega)) _ | refine Below.alloc ?_ (by first | (simp; done) | (simp; omega) | omega) _ | refine Below.drew ?_ | refine Below.trans ?_ (Below.mono (by assumption) (by first | (simp; done) | (simp; omega) | omega)))))).2.2.2 _).mono ?_
  rintro e w4 ⟨rfl, hb4⟩
  rw [HR.out]
  have hz4 := hb4.size
  (try simp at hz4)
  have bb4 : Below w3.heap.size w3 w4 := (by repeat (first | exact Below.refl _ _ | assumption | refine below_drewN ?_ _ | refine Below.setCell ?_ (by first | (simp; done) | (simp; omega)) _ | refine Below.alloc ?_ (by first | (simp; done) | (simp; omega) | omega) _ | refine Below.drew ?_ | refine Below.trans ?_ (Below.mono (by assumption) (by first | (simp; done) | (simp; omega) | omega))))
  have be4 : Below w.heap.size w w4 := be3.trans (bb4.mono (by omega))
  have c4_k_0 : w4.cell? ⟨w.heap.size, 0, none⟩ = some (.bool b0) := cell_keep bb4 c3_k_0
  have c4_k_1 : w4.cell? ⟨w.heap.size, 1, none⟩ = some (.bool b1) := cell_keep bb4 c3_k_1
  have c4_k_2 : w4.cell? ⟨w.heap.size, 2, none⟩ = some (.bool b2) := cell_keep bb4 c3_k_2
  have c4_k_3 : w4.cell? ⟨w.heap.size, 3, none⟩ = some (.bool b3) := cell_keep bb4 c3_k_3
  have c4_k_4 : w4.cell? ⟨w.heap.size, 4, none⟩ = some (.bool b4) := cell_keep bb4 c3_k_4
  have c4_k_5 : w4.cell? ⟨w.heap.size, 5, none⟩ = some (.bool b5) := cell_keep bb4 c3_k_5
  have c4_k_6 : w4.cell? ⟨w.heap.size, 6, none⟩ = some (.bool b6) := cell_keep bb4 c3_k_6
  have c4_k_7 : w4.cell? ⟨w.heap.size, 7, none⟩ = some (.slice p n cap) := cell_keep bb4 c3_k_7
  have l4_k : w.heap.size < w4.heap.size := by omega
  clear hb4 be3 bb4 c3_k_0 c3_k_1 c3_k_2 c3_k_3 c3_k_4 c3_k_5 c3_k_6 c3_k_7 l3_k
  go_wp2
  rw [decide_eq_false (show ¬ r < d by omega)]
  go_loopw [10] (fun i wr => ∃ x : Nat, i = .int .i64 (x : Int) ∧ d ≤ x ∧ x ≤ r ∧ Below w4.heap.size w4 wr) (fun i _ => r - (intOf i).toNat)
  case atStart => exact ⟨d, rfl, Nat.le_refl _, h1, Below.refl _ _⟩
  case round =>
    obtain ⟨x, rfl, hx1, hx2, hbw⟩ := hrel
    have q0 : wr.cell? ⟨w.heap.size, 0, none⟩ = some (.bool b0) := cell_keep hbw c4_k_0
    have q1 : wr.cell? ⟨w.heap.size, 1, none⟩ = some (.bool b1) := cell_keep hbw c4_k_1
    have q2 : wr.cell? ⟨w.heap.size, 2, none⟩ = some (.bool b2) := cell_keep hbw c4_k_2
    have q3 : wr.cell? ⟨w.heap.size, 3, none⟩ = some (.bool b3) := cell_keep hbw c4_k_3
    have q4 : wr.cell? ⟨w.heap.size, 4, none⟩ = some (.bool b4) := cell_keep hbw c4_k_4
    have q5 : wr.cell? ⟨w.heap.size, 5, none⟩ = some (.bool b5) := cell_keep hbw c4_k_5
    have q6 : wr.cell? ⟨w.heap.size, 6, none⟩ = some (.bool b6) := cell_keep hbw c4_k_6
    have q7 : wr.cell? ⟨w.heap.size, 7, none⟩ = some (.slice p n cap) := cell_keep hbw c4_k_7
    have hzr := hbw.size
    have ber : Below w.heap.size w wr := be4.trans (hbw.mono (by omega))
    have HBW := Lib.hid hbw
    clear hbw
    clear c4_k_0 c4_k_1 c4_k_2 c4_k_3 c4_k_4 c4_k_5 c4_k_6 c4_k_7
    by_cases hin : x < r ∧ x < d + 500
    · obtain ⟨i1, i2⟩ := hin
      have HNB := Lib.hid (HNB.out x hx1 i1)
      go_wp2_with fail
      refine ((HS.out _ (HH.out.below ber)).2.2.2 _).mono ?_
      rintro e wn ⟨rfl, hbn⟩
      rw [HNB.out]
      have HBN := Lib.hid hbn
      clear hbn
      go_wp2
      go_roundw
      case rel => exact ⟨x + 1, by go_num, by omega, by omega, HBW.out.trans (HBN.out.mono (by omega))⟩
      case measure => simp [intOf]; omega
    · have hout : r ≤ x ∨ (x < r ∧ d + 500 ≤ x) := by omega
      clear hin
      rcases hout with hout | ⟨hlt, hout⟩
      · go_wp2_with fail
        refine ((HS.out _ (HH.out.below ber)).2.2.1 _).mono ?_
        rintro e wm ⟨rfl, hbm⟩
        rw [HSM.out]
        simp only [IV]
        have hzm := hbm.size
        have bem : Below w.heap.size w wm := ber.trans (hbm.mono (by omega))
        have r0 : wm.cell? ⟨w.heap.size, 0, none⟩ = some (.bool b0) := cell_keep hbm q0
        have r1 : wm.cell? ⟨w.heap.size, 1, none⟩ = some (.bool b1) := cell_keep hbm q1
        have r2 : wm.cell? ⟨w.heap.size, 2, none⟩ = some (.bool b2) := cell_keep hbm q2
        have r3 : wm.cell? ⟨w.heap.size, 3, none⟩ = some (.bool b3) := cell_keep hbm q3
        have r4 : wm.cell? ⟨w.heap.size, 4, none⟩ = some (.bool b4) := cell_keep hbm q4
        have r5 : wm.cell? ⟨w.heap.size, 5, none⟩ = some (.bool b5) := cell_keep hbm q5
        have r6 : wm.cell? ⟨w.heap.size, 6, none⟩ = some (.bool b6) := cell_keep hbm q6
        have r7 : wm.cell? ⟨w.heap.size, 7, none⟩ = some (.slice p n cap) := cell_keep hbm q7
        clear hbm ber q0 q1 q2 q3 q4 q5 q6 q7
        go_wp2_with fail
        refine ((HS.out _ (HH.out.below bem)).2.2.1 _).mono ?_
        rintro e wz ⟨rfl, hbz⟩
        simp only [HL.out]
        rw [HT.out]
        simp only [IV]
        have hzz := hbz.size
        have bez : Below w.heap.size w wz := bem.trans (hbz.mono (by omega))
        clear hbz bem
        have g1 := HGE.out
        go_wp2
        go_ret
        exact ⟨rfl, bez⟩
      · go_wp2_with fail
        refine ((HS.out _ (HH.out.below ber)).2.2.1 _).mono ?_
        rintro e wm ⟨rfl, hbm⟩
        rw [HSM.out]
        simp only [IV]
        have hzm := hbm.size
        have bem : Below w.heap.size w wm := ber.trans (hbm.mono (by omega))
        have r0 : wm.cell? ⟨w.heap.size, 0, none⟩ = some (.bool b0) := cell_keep hbm q0
        have r1 : wm.cell? ⟨w.heap.size, 1, none⟩ = some (.bool b1) := cell_keep hbm q1
        have r2 : wm.cell? ⟨w.heap.size, 2, none⟩ = some (.bool b2) := cell_keep hbm q2
        have r3 : wm.cell? ⟨w.heap.size, 3, none⟩ = some (.bool b3) := cell_keep hbm q3
        have r4 : wm.cell? ⟨w.heap.size, 4, none⟩ = some (.bool b4) := cell_keep hbm q4
        have r5 : wm.cell? ⟨w.heap.size, 5, none⟩ = some (.bool b5) := cell_keep hbm q5
        have r6 : wm.cell? ⟨w.heap.size, 6, none⟩ = some (.bool b6) := cell_keep hbm q6
        have r7 : wm.cell? ⟨w.heap.size, 7, none⟩ = some (.slice p n cap) := cell_keep hbm q7
        clear hbm ber q0 q1 q2 q3 q4 q5 q6 q7
        go_wp2_with fail
        refine ((HS.out _ (HH.out.below bem)).2.2.1 _).mono ?_
        rintro e wz ⟨rfl, hbz⟩
        simp only [HL.out]
        rw [HT.out]
        simp only [IV]
        have hzz := hbz.size
        have bez : Below w.heap.size w wz := bem.trans (hbz.mono (by omega))
        clear hbz bem
        have g1 := HGE.out
        go_wp2
        go_ret
        exact ⟨rfl, bez⟩
end Go.Proofs.YtackkeggabgaeaaDoor

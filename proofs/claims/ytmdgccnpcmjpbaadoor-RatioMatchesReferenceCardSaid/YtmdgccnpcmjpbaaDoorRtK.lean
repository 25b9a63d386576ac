/- The walk of the laws' fixed examples. -/
import Derived.Test.YtmdgccnpcmjpbaaDoorRtE
import Derived.Test.YtmdgccnpcmjpbaaDoorRtH
import Derived.Test.YtmdgccnpcmjpbaaDoorRtJ
import Derived.Deep.RegionHeld3
namespace Go.Proofs.YtmdgccnpcmjpbaaDoor
open Go.RowKit

theorem of_w (n d : Int) (w : World) :
    Calls Tryd.prog 27 #[.int .i64 n, .int .i64 d] w fun e w' => e = .returned (.agg #[.int .i64 n, .int .i64 d]) ∧ w.alloc (.cells #[.int .i64 n, .int .i64 d] 23) = w' := by
  go_enter Tryd.func27, Tryd.ntmps27
  go_wp2
  exact bodyPost_ret (v := .agg #[.int .i64 n, .int .i64 d]) (by simp [results, Tryd.results27, go_sem]) rfl ⟨rfl, rfl⟩
theorem v1 : Rt.mk 6 (-4) = (-3, 2, 0) := by decide
theorem v2 : Rt.mk 0 (-7) = (0, 1, 0) := by decide
theorem v3 : Rt.mk 1 0 = (0, 0, 1) := by decide
theorem v4 : Rt.mk 1 1000001 = (0, 0, 2) := by decide
theorem v5 : Rt.addS 1 6 1 3 = (1, 2, 0) := by decide
theorem v6 : Rt.mulS 2 3 9 4 = (3, 2, 0) := by decide
theorem v7 : Rt.divS 1 2 0 1 = (0, 0, 1) := by decide
theorem v8 : Rt.roundS 3 8 4 = (1, 2, 0) := by decide
theorem v9 : Rt.parseS [52, 47, 50] = (0, 0, 5) := by
  have e1 : Lib.cut [52, 47, 50] [47] = ([52], [50], true) := by decide
  have e2 : Lib.atoiAll [52] = .ok 4 := by decide
  have e3 : Lib.atoiAll [50] = .ok 2 := by decide
  unfold Rt.parseS Rt.lowP
  rw [e1]
  show Rt.ratP _ (Lib.atoiAll [52]) (Lib.atoiAll [50]) = _
  rw [e2, e3, Rt.ratP_oo, if_neg (fun h => absurd h.1 (by decide))]
theorem v10 : Rt.textS (-3) 2 = [45, 51, 47, 50] := by
  have e1 : Lib.itoa (-3) = [45, 51] := by unfold Lib.itoa; rw [if_pos (by omega)]; show 45 :: Lib.decDigits 3 = _; rw [Lib.decDigits_one (by omega)]; rfl
  have e2 : Lib.itoa 2 = [50] := by unfold Lib.itoa; rw [if_neg (by omega)]; show Lib.decDigits 2 = _; rw [Lib.decDigits_one (by omega)]; rfl
  rw [Rt.textS_ok (by decide), if_neg (by omega), e1, e2]; rfl
theorem holdS {W w' : World} (h : Below W.heap.size W w') : Below W.heap.size W w' ∧ ∀ b o, b < W.heap.size → w'.cell? ⟨b, o, none⟩ = W.cell? ⟨b, o, none⟩ := ⟨h, (bcell h).1⟩
set_option maxRecDepth 100000 in
set_option maxHeartbeats 4000000 in
theorem head_any (w : World) (hE : Env w) :
    Calls Tryd.prog 4 #[] w fun e w' => e = .returned (.bool true) ∧ Below w.heap.size w w' := by
  have HE := Lib.hid hE
  clear hE
  go_enter Tryd.func4, Tryd.ntmps4
  go_wp2_with (go_at_call 27; refine (of_w _ _ _).mono ?_; rintro e w' ⟨rfl, rfl⟩)
  refine (make_any 6 (-4) _ (by omega) (by omega) (by omega) (by omega)).mono ?_
  rintro e w1 ⟨rfl, hb1⟩
  rw [v1]
  have hz1 := hb1.size
  (try simp at hz1)
  have be1 : Below w.heap.size w w1 := (by repeat (first | exact Below.refl _ _ | assumption | refine below_drewN ?_ _ | refine Below.setCell ?_ (by first | (simp; done) | (simp; omega)) _ | refine Below.alloc ?_ (by first | (simp; done) | (simp; omega) | omega) _ | refine Below.drew ?_ | refine Below.trans ?_ (Below.mono (by assumption) (by first | (simp; done) | (simp; omega) | omega))))
  clear hb1
  simp only [RV]
  go_wp2_with (go_at_call 27; refine (of_w _ _ _).mono ?_; rintro e w' ⟨rfl, rfl⟩)
  refine (make_any 0 (-7) _ (by omega) (by omega) (by omega) (by omega)).mono ?_
  rintro e w2 ⟨rfl, hb2⟩
  rw [v2]
  have hz2 := hb2.size
  (try simp at hz2)
  have bb2 : Below w1.heap.size w1 w2 := (by repeat (first | exact Below.refl _ _ | assumption | refine below_drewN ?_ _ | refine Below.setCell ?_ (by first | (simp; done) | (simp; omega)) _ | refine Below.alloc ?_ (by first | (simp; done) | (simp; omega) | omega) _ | refine Below.drew ?_ | refine Below.trans ?_ (Below.mono (by assumption) (by first | (simp; done) | (simp; omega) | omega))))
  have l2_1 : w1.heap.size < w2.heap.size := by omega
  have a2_1 : w2.cell? ⟨w1.heap.size, 0, none⟩ = some (.int .i64 (-3)) := cell_keep hb2 (by go_simp)
  have c2_1 : w2.cell? ⟨w1.heap.size, 1, none⟩ = some (.int .i64 (2)) := cell_keep hb2 (by go_simp)
  have be2 : Below w.heap.size w w2 := (by repeat (first | exact Below.refl _ _ | assumption | refine below_drewN ?_ _ | refine Below.setCell ?_ (by first | (simp; done) | (simp; omega)) _ | refine Below.alloc ?_ (by first | (simp; done) | (simp; omega) | omega) _ | refine Below.drew ?_ | refine Below.trans ?_ (Below.mono (by assumption) (by first | (simp; done) | (simp; omega) | omega))))
  clear hb2 bb2 be1 
  simp only [RV]
  go_wp2_with (go_at_call 27; refine (of_w _ _ _).mono ?_; rintro e w' ⟨rfl, rfl⟩)
  refine (make_any 1 0 _ (by omega) (by omega) (by omega) (by omega)).mono ?_
  rintro e w3 ⟨rfl, hb3⟩
  rw [v3]
  have hz3 := hb3.size
  (try simp at hz3)
  have bb3 : Below w2.heap.size w2 w3 := (by repeat (first | exact Below.refl _ _ | assumption | refine below_drewN ?_ _ | refine Below.setCell ?_ (by first | (simp; done) | (simp; omega)) _ | refine Below.alloc ?_ (by first | (simp; done) | (simp; omega) | omega) _ | refine Below.drew ?_ | refine Below.trans ?_ (Below.mono (by assumption) (by first | (simp; done) | (simp; omega) | omega))))
  have l3_1 : w1.heap.size < w3.heap.size := by omega
  have a3_1 : w3.cell? ⟨w1.heap.size, 0, none⟩ = some (.int .i64 (-3)) := cell_keep bb3 a2_1
  have c3_1 : w3.cell? ⟨w1.heap.size, 1, none⟩ = some (.int .i64 (2)) := cell_keep bb3 c2_1
  have l3_2 : w2.heap.size < w3.heap.size := by omega
  have a3_2 : w3.cell? ⟨w2.heap.size, 0, none⟩ = some (.int .i64 (0)) := cell_keep hb3 (by go_simp)
  have c3_2 : w3.cell? ⟨w2.heap.size, 1, none⟩ = some (.int .i64 (1)) := cell_keep hb3 (by go_simp)
  have be3 : Below w.heap.size w w3 := (by repeat (first | exact Below.refl _ _ | assumption | refine below_drewN ?_ _ | refine Below.setCell ?_ (by first | (simp; done) | (simp; omega)) _ | refine Below.alloc ?_ (by first | (simp; done) | (simp; omega) | omega) _ | refine Below.drew ?_ | refine Below.trans ?_ (Below.mono (by assumption) (by first | (simp; done) | (simp; omega) | omega))))
  clear hb3 bb3 be2 l2_1 a2_1 c2_1
  simp only [RV]
  go_wp2_with (go_at_call 27; refine (of_w _ _ _).mono ?_; rintro e w' ⟨rfl, rfl⟩)
  refine (make_any 1 1000001 _ (by omega) (by omega) (by omega) (by omega)).mono ?_
  rintro e w4 ⟨rfl, hb4⟩
  rw [v4]
  have hz4 := hb4.size
  (try simp at hz4)
  have bb4 : Below w3.heap.size w3 w4 := (by repeat (first | exact Below.refl _ _ | assumption | refine below_drewN ?_ _ | refine Below.setCell ?_ (by first | (simp; done) | (simp; omega)) _ | refine Below.alloc ?_ (by first | (simp; done) | (simp; omega) | omega) _ | refine Below.drew ?_ | refine Below.trans ?_ (Below.mono (by assumption) (by first | (simp; done) | (simp; omega) | omega))))
  have l4_1 : w1.heap.size < w4.heap.size := by omega
  have a4_1 : w4.cell? ⟨w1.heap.size, 0, none⟩ = some (.int .i64 (-3)) := cell_keep bb4 a3_1
  have c4_1 : w4.cell? ⟨w1.heap.size, 1, none⟩ = some (.int .i64 (2)) := cell_keep bb4 c3_1
  have l4_2 : w2.heap.size < w4.heap.size := by omega
  have a4_2 : w4.cell? ⟨w2.heap.size, 0, none⟩ = some (.int .i64 (0)) := cell_keep bb4 a3_2
  have c4_2 : w4.cell? ⟨w2.heap.size, 1, none⟩ = some (.int .i64 (1)) := cell_keep bb4 c3_2
  have be4 : Below w.heap.size w w4 := (by repeat (first | exact Below.refl _ _ | assumption | refine below_drewN ?_ _ | refine Below.setCell ?_ (by first | (simp; done) | (simp; omega)) _ | refine Below.alloc ?_ (by first | (simp; done) | (simp; omega) | omega) _ | refine Below.drew ?_ | refine Below.trans ?_ (Below.mono (by assumption) (by first | (simp; done) | (simp; omega) | omega))))
  clear hb4 bb4 be3 l3_1 a3_1 c3_1 l3_2 a3_2 c3_2
  simp only [RV]
  go_wp2_with (go_at_call 27; refine (of_w _ _ _).mono ?_; rintro e w' ⟨rfl, rfl⟩)
  refine (add_any 1 6 1 3 _ (by omega) (by omega) (by omega) (by omega)).mono ?_
  rintro e w5 ⟨rfl, hb5⟩
  rw [v5]
  have hz5 := hb5.size
  (try simp at hz5)
  have bb5 : Below w4.heap.size w4 w5 := (by repeat (first | exact Below.refl _ _ | assumption | refine below_drewN ?_ _ | refine Below.setCell ?_ (by first | (simp; done) | (simp; omega)) _ | refine Below.alloc ?_ (by first | (simp; done) | (simp; omega) | omega) _ | refine Below.drew ?_ | refine Below.trans ?_ (Below.mono (by assumption) (by first | (simp; done) | (simp; omega) | omega))))
  have l5_1 : w1.heap.size < w5.heap.size := by omega
  have a5_1 : w5.cell? ⟨w1.heap.size, 0, none⟩ = some (.int .i64 (-3)) := cell_keep bb5 a4_1
  have c5_1 : w5.cell? ⟨w1.heap.size, 1, none⟩ = some (.int .i64 (2)) := cell_keep bb5 c4_1
  have l5_2 : w2.heap.size < w5.heap.size := by omega
  have a5_2 : w5.cell? ⟨w2.heap.size, 0, none⟩ = some (.int .i64 (0)) := cell_keep bb5 a4_2
  have c5_2 : w5.cell? ⟨w2.heap.size, 1, none⟩ = some (.int .i64 (1)) := cell_keep bb5 c4_2
  have be5 : Below w.heap.size w w5 := (by repeat (first | exact Below.refl _ _ | assumption | refine below_drewN ?_ _ | refine Below.setCell ?_ (by first | (simp; done) | (simp; omega)) _ | refine Below.alloc ?_ (by first | (simp; done) | (simp; omega) | omega) _ | refine Below.drew ?_ | refine Below.trans ?_ (Below.mono (by assumption) (by first | (simp; done) | (simp; omega) | omega))))
  clear hb5 bb5 be4 l4_1 a4_1 c4_1 l4_2 a4_2 c4_2
  simp only [RV]
  go_wp2_with (go_at_call 27; refine (of_w _ _ _).mono ?_; rintro e w' ⟨rfl, rfl⟩)
  refine (mul_any 2 3 9 4 _ (by omega) (by omega) (by omega) (by omega)).mono ?_
  rintro e w6 ⟨rfl, hb6⟩
  rw [v6]
  have hz6 := hb6.size
  (try simp at hz6)
  have bb6 : Below w5.heap.size w5 w6 := (by repeat (first | exact Below.refl _ _ | assumption | refine below_drewN ?_ _ | refine Below.setCell ?_ (by first | (simp; done) | (simp; omega)) _ | refine Below.alloc ?_ (by first | (simp; done) | (simp; omega) | omega) _ | refine Below.drew ?_ | refine Below.trans ?_ (Below.mono (by assumption) (by first | (simp; done) | (simp; omega) | omega))))
  have l6_1 : w1.heap.size < w6.heap.size := by omega
  have a6_1 : w6.cell? ⟨w1.heap.size, 0, none⟩ = some (.int .i64 (-3)) := cell_keep bb6 a5_1
  have c6_1 : w6.cell? ⟨w1.heap.size, 1, none⟩ = some (.int .i64 (2)) := cell_keep bb6 c5_1
  have l6_2 : w2.heap.size < w6.heap.size := by omega
  have a6_2 : w6.cell? ⟨w2.heap.size, 0, none⟩ = some (.int .i64 (0)) := cell_keep bb6 a5_2
  have c6_2 : w6.cell? ⟨w2.heap.size, 1, none⟩ = some (.int .i64 (1)) := cell_keep bb6 c5_2
  have l6_5 : w5.heap.size < w6.heap.size := by omega
  have a6_5 : w6.cell? ⟨w5.heap.size, 0, none⟩ = some (.int .i64 (1)) := cell_keep hb6 (by go_simp)
  have c6_5 : w6.cell? ⟨w5.heap.size, 1, none⟩ = some (.int .i64 (2)) := cell_keep hb6 (by go_simp)
  have be6 : Below w.heap.size w w6 := (by repeat (first | exact Below.refl _ _ | assumption | refine below_drewN ?_ _ | refine Below.setCell ?_ (by first | (simp; done) | (simp; omega)) _ | refine Below.alloc ?_ (by first | (simp; done) | (simp; omega) | omega) _ | refine Below.drew ?_ | refine Below.trans ?_ (Below.mono (by assumption) (by first | (simp; done) | (simp; omega) | omega))))
  clear hb6 bb6 be5 l5_1 a5_1 c5_1 l5_2 a5_2 c5_2
  simp only [RV]
  go_wp2_with (go_at_call 27; refine (of_w _ _ _).mono ?_; rintro e w' ⟨rfl, rfl⟩)
  refine (div_any 1 2 0 1 _ (by omega) (by omega) (by omega) (by omega)).mono ?_
  rintro e w7 ⟨rfl, hb7⟩
  rw [v7]
  have hz7 := hb7.size
  (try simp at hz7)
  have bb7 : Below w6.heap.size w6 w7 := (by repeat (first | exact Below.refl _ _ | assumption | refine below_drewN ?_ _ | refine Below.setCell ?_ (by first | (simp; done) | (simp; omega)) _ | refine Below.alloc ?_ (by first | (simp; done) | (simp; omega) | omega) _ | refine Below.drew ?_ | refine Below.trans ?_ (Below.mono (by assumption) (by first | (simp; done) | (simp; omega) | omega))))
  have l7_1 : w1.heap.size < w7.heap.size := by omega
  have a7_1 : w7.cell? ⟨w1.heap.size, 0, none⟩ = some (.int .i64 (-3)) := cell_keep bb7 a6_1
  have c7_1 : w7.cell? ⟨w1.heap.size, 1, none⟩ = some (.int .i64 (2)) := cell_keep bb7 c6_1
  have l7_2 : w2.heap.size < w7.heap.size := by omega
  have a7_2 : w7.cell? ⟨w2.heap.size, 0, none⟩ = some (.int .i64 (0)) := cell_keep bb7 a6_2
  have c7_2 : w7.cell? ⟨w2.heap.size, 1, none⟩ = some (.int .i64 (1)) := cell_keep bb7 c6_2
  have l7_5 : w5.heap.size < w7.heap.size := by omega
  have a7_5 : w7.cell? ⟨w5.heap.size, 0, none⟩ = some (.int .i64 (1)) := cell_keep bb7 a6_5
  have c7_5 : w7.cell? ⟨w5.heap.size, 1, none⟩ = some (.int .i64 (2)) := cell_keep bb7 c6_5
  have l7_6 : w6.heap.size < w7.heap.size := by omega
  have a7_6 : w7.cell? ⟨w6.heap.size, 0, none⟩ = some (.int .i64 (3)) := cell_keep hb7 (by go_simp)
  have c7_6 : w7.cell? ⟨w6.heap.size, 1, none⟩ = some (.int .i64 (2)) := cell_keep hb7 (by go_simp)
  have be7 : Below w.heap.size w w7 := (by repeat (first | exact Below.refl _ _ | assumption | refine below_drewN ?_ _ | refine Below.setCell ?_ (by first | (simp; done) | (simp; omega)) _ | refine Below.alloc ?_ (by first | (simp; done) | (simp; omega) | omega) _ | refine Below.drew ?_ | refine Below.trans ?_ (Below.mono (by assumption) (by first | (simp; done) | (simp; omega) | omega))))
  clear hb7 bb7 be6 l6_1 a6_1 c6_1 l6_2 a6_2 c6_2 l6_5 a6_5 c6_5
  simp only [RV]
  go_wp2_with (go_at_call 27; refine (of_w _ _ _).mono ?_; rintro e w' ⟨rfl, rfl⟩)
  refine (round_any 3 8 4 _ (by omega) (by omega)).mono ?_
  rintro e w8 ⟨rfl, hb8⟩
  rw [v8]
  have hz8 := hb8.size
  (try simp at hz8)
  have bb8 : Below w7.heap.size w7 w8 := (by repeat (first | exact Below.refl _ _ | assumption | refine below_drewN ?_ _ | refine Below.setCell ?_ (by first | (simp; done) | (simp; omega)) _ | refine Below.alloc ?_ (by first | (simp; done) | (simp; omega) | omega) _ | refine Below.drew ?_ | refine Below.trans ?_ (Below.mono (by assumption) (by first | (simp; done) | (simp; omega) | omega))))
  have l8_1 : w1.heap.size < w8.heap.size := by omega
  have a8_1 : w8.cell? ⟨w1.heap.size, 0, none⟩ = some (.int .i64 (-3)) := cell_keep bb8 a7_1
  have c8_1 : w8.cell? ⟨w1.heap.size, 1, none⟩ = some (.int .i64 (2)) := cell_keep bb8 c7_1
  have l8_2 : w2.heap.size < w8.heap.size := by omega
  have a8_2 : w8.cell? ⟨w2.heap.size, 0, none⟩ = some (.int .i64 (0)) := cell_keep bb8 a7_2
  have c8_2 : w8.cell? ⟨w2.heap.size, 1, none⟩ = some (.int .i64 (1)) := cell_keep bb8 c7_2
  have l8_5 : w5.heap.size < w8.heap.size := by omega
  have a8_5 : w8.cell? ⟨w5.heap.size, 0, none⟩ = some (.int .i64 (1)) := cell_keep bb8 a7_5
  have c8_5 : w8.cell? ⟨w5.heap.size, 1, none⟩ = some (.int .i64 (2)) := cell_keep bb8 c7_5
  have l8_6 : w6.heap.size < w8.heap.size := by omega
  have a8_6 : w8.cell? ⟨w6.heap.size, 0, none⟩ = some (.int .i64 (3)) := cell_keep bb8 a7_6
  have c8_6 : w8.cell? ⟨w6.heap.size, 1, none⟩ = some (.int .i64 (2)) := cell_keep bb8 c7_6
  have be8 : Below w.heap.size w w8 := (by repeat (first | exact Below.refl _ _ | assumption | refine below_drewN ?_ _ | refine Below.setCell ?_ (by first | (simp; done) | (simp; omega)) _ | refine Below.alloc ?_ (by first | (simp; done) | (simp; omega) | omega) _ | refine Below.drew ?_ | refine Below.trans ?_ (Below.mono (by assumption) (by first | (simp; done) | (simp; omega) | omega))))
  clear hb8 bb8 be7 l7_1 a7_1 c7_1 l7_2 a7_2 c7_2 l7_5 a7_5 c7_5 l7_6 a7_6 c7_6
  simp only [RV]
  go_wp2_with (go_at_call 27; refine (of_w _ _ _).mono ?_; rintro e w' ⟨rfl, rfl⟩)
  refine (parse_any [52, 47, 50] _ (by simp) (HE.out.below (by repeat (first | exact Below.refl _ _ | assumption | refine below_drewN ?_ _ | refine Below.setCell ?_ (by first | (simp; done) | (simp; omega)) _ | refine Below.alloc ?_ (by first | (simp; done) | (simp; omega) | omega) _ | refine Below.drew ?_ | refine Below.trans ?_ (Below.mono (by assumption) (by first | (simp; done) | (simp; omega) | omega)))))).mono ?_
  rintro e w9 ⟨rfl, hb9⟩
  rw [v9]
  have hz9 := hb9.size
  (try simp at hz9)
  have bb9 : Below w8.heap.size w8 w9 := (by repeat (first | exact Below.refl _ _ | assumption | refine below_drewN ?_ _ | refine Below.setCell ?_ (by first | (simp; done) | (simp; omega)) _ | refine Below.alloc ?_ (by first | (simp; done) | (simp; omega) | omega) _ | refine Below.drew ?_ | refine Below.trans ?_ (Below.mono (by assumption) (by first | (simp; done) | (simp; omega) | omega))))
  have l9_1 : w1.heap.size < w9.heap.size := by omega
  have a9_1 : w9.cell? ⟨w1.heap.size, 0, none⟩ = some (.int .i64 (-3)) := cell_keep bb9 a8_1
  have c9_1 : w9.cell? ⟨w1.heap.size, 1, none⟩ = some (.int .i64 (2)) := cell_keep bb9 c8_1
  have l9_2 : w2.heap.size < w9.heap.size := by omega
  have a9_2 : w9.cell? ⟨w2.heap.size, 0, none⟩ = some (.int .i64 (0)) := cell_keep bb9 a8_2
  have c9_2 : w9.cell? ⟨w2.heap.size, 1, none⟩ = some (.int .i64 (1)) := cell_keep bb9 c8_2
  have l9_5 : w5.heap.size < w9.heap.size := by omega
  have a9_5 : w9.cell? ⟨w5.heap.size, 0, none⟩ = some (.int .i64 (1)) := cell_keep bb9 a8_5
  have c9_5 : w9.cell? ⟨w5.heap.size, 1, none⟩ = some (.int .i64 (2)) := cell_keep bb9 c8_5
  have l9_6 : w6.heap.size < w9.heap.size := by omega
  have a9_6 : w9.cell? ⟨w6.heap.size, 0, none⟩ = some (.int .i64 (3)) := cell_keep bb9 a8_6
  have c9_6 : w9.cell? ⟨w6.heap.size, 1, none⟩ = some (.int .i64 (2)) := cell_keep bb9 c8_6
  have l9_8 : w8.heap.size < w9.heap.size := by omega
  have a9_8 : w9.cell? ⟨w8.heap.size, 0, none⟩ = some (.int .i64 (1)) := cell_keep hb9 (by go_simp)
  have c9_8 : w9.cell? ⟨w8.heap.size, 1, none⟩ = some (.int .i64 (2)) := cell_keep hb9 (by go_simp)
  have be9 : Below w.heap.size w w9 := (by repeat (first | exact Below.refl _ _ | assumption | refine below_drewN ?_ _ | refine Below.setCell ?_ (by first | (simp; done) | (simp; omega)) _ | refine Below.alloc ?_ (by first | (simp; done) | (simp; omega) | omega) _ | refine Below.drew ?_ | refine Below.trans ?_ (Below.mono (by assumption) (by first | (simp; done) | (simp; omega) | omega))))
  clear hb9 bb9 be8 l8_1 a8_1 c8_1 l8_2 a8_2 c8_2 l8_5 a8_5 c8_5 l8_6 a8_6 c8_6
  simp only [RV]
  go_wp2_with fail
  go_region_held3 (fun w' => Below w9.heap.size w9 w' ∧ ∀ b o, b < w9.heap.size → w'.cell? ⟨b, o, none⟩ = w9.cell? ⟨b, o, none⟩) (exact holdS (by repeat (first | exact Below.refl _ _ | assumption | refine below_drewN ?_ _ | refine Below.setCell ?_ (by first | (simp; done) | (simp; omega)) _ | refine Below.alloc ?_ (by first | (simp; done) | (simp; omega) | omega) _ | refine Below.drew ?_ | refine Below.trans ?_ (Below.mono (by assumption) (by first | (simp; done) | (simp; omega) | omega)))))
    (first | (go_at_call 27; refine (of_w _ _ _).mono ?_; rintro e w' ⟨rfl, rfl⟩))
  go_wp2_with fail
  go_region_held3 (fun w' => Below w9.heap.size w9 w' ∧ ∀ b o, b < w9.heap.size → w'.cell? ⟨b, o, none⟩ = w9.cell? ⟨b, o, none⟩) (first | assumption | exact holdS (by repeat (first | exact Below.refl _ _ | assumption | refine below_drewN ?_ _ | refine Below.setCell ?_ (by first | (simp; done) | (simp; omega)) _ | refine Below.alloc ?_ (by first | (simp; done) | (simp; omega) | omega) _ | refine Below.drew ?_ | refine Below.trans ?_ (Below.mono (by assumption) (by first | (simp; done) | (simp; omega) | omega)))))
    (first | (go_at_call 27; refine (of_w _ _ _).mono ?_; rintro e w' ⟨rfl, rfl⟩))
  clear a9_1 c9_1 l9_1 a9_2 c9_2 l9_2 a9_5 c9_5 l9_5 a9_6 c9_6 l9_6 a9_8 c9_8 l9_8
  go_wp2_with (go_at_call 27; refine (of_w _ _ _).mono ?_; rintro e w' ⟨rfl, rfl⟩)
  refine (floor_any (-1) 2 _ (by omega) (by omega)).mono ?_
  rintro e w10 ⟨rfl, hb10⟩
  rw [show Rt.floorS (-1) 2 = -1 from by decide]
  have hz10 := hb10.size
  (try simp at hz10)
  have bf10 : Below w.heap.size w w10 := (by repeat (first | exact Below.refl _ _ | assumption | refine below_drewN ?_ _ | refine Below.setCell ?_ (by first | (simp; done) | (simp; omega)) _ | refine Below.alloc ?_ (by first | (simp; done) | (simp; omega) | omega) _ | refine Below.drew ?_ | refine Below.trans ?_ (Below.mono (by assumption) (by first | (simp; done) | (simp; omega) | omega))))
  clear hb10
  go_wp2_with (go_at_call 27; refine (of_w _ _ _).mono ?_; rintro e w' ⟨rfl, rfl⟩)
  refine (text_any (-3) 2 _ (by omega) (by omega) (HE.out.below (by repeat (first | exact Below.refl _ _ | assumption | refine below_drewN ?_ _ | refine Below.setCell ?_ (by first | (simp; done) | (simp; omega)) _ | refine Below.alloc ?_ (by first | (simp; done) | (simp; omega) | omega) _ | refine Below.drew ?_ | refine Below.trans ?_ (Below.mono (by assumption) (by first | (simp; done) | (simp; omega) | omega)))))).mono ?_
  rintro e w11 ⟨rfl, hb11⟩
  rw [v10]
  have hz11 := hb11.size
  (try simp at hz11)
  have bf11 : Below w.heap.size w w11 := (by repeat (first | exact Below.refl _ _ | assumption | refine below_drewN ?_ _ | refine Below.setCell ?_ (by first | (simp; done) | (simp; omega)) _ | refine Below.alloc ?_ (by first | (simp; done) | (simp; omega) | omega) _ | refine Below.drew ?_ | refine Below.trans ?_ (Below.mono (by assumption) (by first | (simp; done) | (simp; omega) | omega))))
  clear hb11 bf10
  go_wp2_with (go_at_call 27; refine (of_w _ _ _).mono ?_; rintro e w' ⟨rfl, rfl⟩)
  refine (valid_true (-3) 2 _ (by decide)).mono ?_
  rintro e w12 ⟨rfl, hb12⟩
  have hz12 := hb12.size
  (try simp at hz12)
  have bf12 : Below w.heap.size w w12 := (by repeat (first | exact Below.refl _ _ | assumption | refine below_drewN ?_ _ | refine Below.setCell ?_ (by first | (simp; done) | (simp; omega)) _ | refine Below.alloc ?_ (by first | (simp; done) | (simp; omega) | omega) _ | refine Below.drew ?_ | refine Below.trans ?_ (Below.mono (by assumption) (by first | (simp; done) | (simp; omega) | omega))))
  clear hb12 bf11
  go_wp2_with (go_at_call 27; refine (of_w _ _ _).mono ?_; rintro e w' ⟨rfl, rfl⟩)
  refine (valid_false 2 4 _ (by omega) (by omega) (by decide)).mono ?_
  rintro e w13 ⟨rfl, hb13⟩
  have hz13 := hb13.size
  (try simp at hz13)
  have bf13 : Below w.heap.size w w13 := (by repeat (first | exact Below.refl _ _ | assumption | refine below_drewN ?_ _ | refine Below.setCell ?_ (by first | (simp; done) | (simp; omega)) _ | refine Below.alloc ?_ (by first | (simp; done) | (simp; omega) | omega) _ | refine Below.drew ?_ | refine Below.trans ?_ (Below.mono (by assumption) (by first | (simp; done) | (simp; omega) | omega))))
  clear hb13 bf12
  go_wp2_with (go_at_call 27; refine (of_w _ _ _).mono ?_; rintro e w' ⟨rfl, rfl⟩)
  refine (cmp_any 1 3 1 2 _ (by omega) (by omega) (by omega) (by omega)).mono ?_
  rintro e w14 ⟨rfl, hb14⟩
  rw [show Rt.cmpS 1 3 1 2 = -1 from by decide]
  have hz14 := hb14.size
  (try simp at hz14)
  have bf14 : Below w.heap.size w w14 := (by repeat (first | exact Below.refl _ _ | assumption | refine below_drewN ?_ _ | refine Below.setCell ?_ (by first | (simp; done) | (simp; omega)) _ | refine Below.alloc ?_ (by first | (simp; done) | (simp; omega) | omega) _ | refine Below.drew ?_ | refine Below.trans ?_ (Below.mono (by assumption) (by first | (simp; done) | (simp; omega) | omega))))
  clear hb14 bf13
  go_wp2
  go_ret
  exact ⟨rfl, (by repeat (first | exact Below.refl _ _ | assumption | refine below_drewN ?_ _ | refine Below.setCell ?_ (by first | (simp; done) | (simp; omega)) _ | refine Below.alloc ?_ (by first | (simp; done) | (simp; omega) | omega) _ | refine Below.drew ?_ | refine Below.trans ?_ (Below.mono (by assumption) (by first | (simp; done) | (simp; omega) | omega))))⟩
end Go.Proofs.YtmdgccnpcmjpbaaDoor

/- The walk of the laws' fixed examples. -/
import Derived.Test.YtackkeggabgaeaaDoorDtK
import Derived.Test.YtackkeggabgaeaaDoorDtD
namespace Go.Proofs.YtackkeggabgaeaaDoor
open Go.RowKit

theorem add_eq {W : Nat → Bool} {hs : List Int} (h : Dt.Asc hs) {day r : Nat} {m : Int} (hr : r ≤ 73048) (hb : Dt.busy W hs r = true) (he : Dt.earl W hs day m = Dt.cnt W hs r) (hm : m ≤ 73048 - day) : Dt.add W hs day m = ((r : Int), 0) := by
  unfold Dt.add
  rw [if_neg (by omega), he, Dt.fst_unique h hr hb, if_pos hr]
theorem x0 : Dt.Asc [4] := ⟨⟨by omega, by omega⟩, (fun b hb => by cases hb), trivial⟩
theorem x1 : Dt.add (Dt.wk false false false false false true true) [4] (4 : Nat) 0 = (7, 0) := add_eq (r := 7) x0 (by omega) (by decide) (by decide) (by omega)
theorem x2 : Dt.add (Dt.wk false false false false false true true) [4] (3 : Nat) 1 = (7, 0) := add_eq (r := 7) x0 (by omega) (by decide) (by decide) (by omega)
theorem x3 : Dt.cnt (Dt.wk false false false false false true true) [4] (8 : Nat) - Dt.cnt (Dt.wk false false false false false true true) [4] (0 : Nat) = 5 := by decide
theorem x4 : Dt.add (Dt.wk false false false false false true true) [4] (3 : Nat) 100000 = (0, 2) := by unfold Dt.add; rw [if_pos (by omega)]
theorem x5 : VP false false false false false true true [4] := ⟨by decide, rfl, x0⟩
theorem x6 : ¬ VP false false false false false true true [4, 4] := fun h => by have := h.2.2.2.1 4 (by simp); omega
theorem x7 : VP false false false false false true true [] := ⟨by decide, rfl, trivial⟩
theorem x8 : Dt.busy (Dt.wk false false false false false true true) [4] 3 = true := by decide
theorem x9 : Dt.busy (Dt.wk false false false false false true true) [4] 4 = false := by decide
theorem x10 : Dt.busy (Dt.wk false false false false false true true) [] 5 = false := by decide
theorem x11 : Dt.num 2000 2 29 = (3711, 0) := by decide
theorem x12 : Dt.num 2189 12 31 = (73048, 0) := by decide
theorem x13 : Dt.IsCiv 59 1990 3 1 := by unfold Dt.IsCiv; decide
theorem x14 : Dt.IsCiv 30 1990 1 31 := by unfold Dt.IsCiv; decide
theorem x15 : Dt.mon 1990 1 31 1 = (58, 0) := by decide
theorem x16 : Dt.mon 1990 1 1 (-1) = (0, 2) := by decide
theorem hols_of {w : World} {b : Nat} {x : Int} (h : w.cell? ⟨b, 0, none⟩ = some (.int .i64 x)) : Hols w (some ⟨b, 0, none⟩) [x] := .inr ⟨b, 0, rfl, fun j hj => by
  have : j = 0 := by simp at hj; exact hj
  subst this
  exact h⟩
theorem hols_of2 {w : World} {b : Nat} {x y : Int} (h : w.cell? ⟨b, 0, none⟩ = some (.int .i64 x)) (h1 : w.cell? ⟨b, 1, none⟩ = some (.int .i64 y)) : Hols w (some ⟨b, 0, none⟩) [x, y] := .inr ⟨b, 0, rfl, fun j hj => by
  match j, hj with
  | 0, _ => exact h
  | 1, _ => exact h1
  | n + 2, h => exact absurd h (by simp)⟩
set_option maxHeartbeats 800000 in
theorem week_w (p : Option Addr) (n cap : Nat) (w : World) :
    Calls Tryd.prog 19 #[.slice p n cap] w fun e w' => e = .returned (.agg #[.bool false, .bool false, .bool false, .bool false, .bool false, .bool true, .bool true, .slice p n cap]) ∧ w.alloc (.cells #[.bool false, .bool false, .bool false, .bool false, .bool false, .bool true, .bool true, .slice p n cap] 39) = w' := by
  go_enter Tryd.func19, Tryd.ntmps19
  go_wp2
  exact bodyPost_ret (v := .agg #[.bool false, .bool false, .bool false, .bool false, .bool false, .bool true, .bool true, .slice p n cap]) (by simp [results, Tryd.results19, go_sem]) rfl ⟨rfl, rfl⟩
set_option maxRecDepth 100000 in
set_option maxHeartbeats 4000000 in
theorem head_any (w : World) (hE : Env w) :
    Calls Tryd.prog 9 #[] w fun e w' => e = .returned (.bool true) ∧ Below w.heap.size w w' := by
  have HE := Lib.hid hE
  clear hE
  go_enter Tryd.func9, Tryd.ntmps9
  go_wp2_with fail
  refine (number_any 2000 2 29 _ HE.out).mono ?_
  rintro e w1 ⟨rfl, hb1⟩
  rw [x11]
  have hz1 := hb1.size
  (try simp at hz1)
  have be1 : Below w.heap.size w w1 := (by repeat (first | exact Below.refl _ _ | assumption | refine below_drewN ?_ _ | refine Below.setCell ?_ (by first | (simp; done) | (simp; omega)) _ | refine Below.alloc ?_ (by first | (simp; done) | (simp; omega) | omega) _ | refine Below.drew ?_ | refine Below.trans ?_ (Below.mono (by assumption) (by first | (simp; done) | (simp; omega) | omega))))
  clear hb1
  simp only [IV]
  go_wp2_with fail
  refine (number_any 2189 12 31 _ (HE.out.below (by repeat (first | exact Below.refl _ _ | assumption | refine below_drewN ?_ _ | refine Below.setCell ?_ (by first | (simp; done) | (simp; omega)) _ | refine Below.alloc ?_ (by first | (simp; done) | (simp; omega) | omega) _ | refine Below.drew ?_ | refine Below.trans ?_ (Below.mono (by assumption) (by first | (simp; done) | (simp; omega) | omega)))))).mono ?_
  rintro e w2 ⟨rfl, hb2⟩
  rw [x12]
  have hz2 := hb2.size
  (try simp at hz2)
  have be2 : Below w.heap.size w w2 := (by repeat (first | exact Below.refl _ _ | assumption | refine below_drewN ?_ _ | refine Below.setCell ?_ (by first | (simp; done) | (simp; omega)) _ | refine Below.alloc ?_ (by first | (simp; done) | (simp; omega) | omega) _ | refine Below.drew ?_ | refine Below.trans ?_ (Below.mono (by assumption) (by first | (simp; done) | (simp; omega) | omega))))
  clear hb2 be1
  simp only [IV]
  go_wp2_with fail
  refine (civil_in 59 1990 3 1 _ x13 (HE.out.below (by repeat (first | exact Below.refl _ _ | assumption | refine below_drewN ?_ _ | refine Below.setCell ?_ (by first | (simp; done) | (simp; omega)) _ | refine Below.alloc ?_ (by first | (simp; done) | (simp; omega) | omega) _ | refine Below.drew ?_ | refine Below.trans ?_ (Below.mono (by assumption) (by first | (simp; done) | (simp; omega) | omega)))))).mono ?_
  rintro e w3 ⟨rfl, hb3⟩
  have hz3 := hb3.size
  (try simp at hz3)
  have be3 : Below w.heap.size w w3 := (by repeat (first | exact Below.refl _ _ | assumption | refine below_drewN ?_ _ | refine Below.setCell ?_ (by first | (simp; done) | (simp; omega)) _ | refine Below.alloc ?_ (by first | (simp; done) | (simp; omega) | omega) _ | refine Below.drew ?_ | refine Below.trans ?_ (Below.mono (by assumption) (by first | (simp; done) | (simp; omega) | omega))))
  clear hb3 be2
  simp only [CV]
  go_wp2_with fail
  refine (weekday_in 3711 _ (by omega) (by omega)).mono ?_
  rintro e w' ⟨rfl, rfl⟩
  simp only [IV]
  go_wp2_with fail
  refine (months_in 30 1990 1 31 1 _ x14 (by omega) (by omega) (HE.out.below (by repeat (first | exact Below.refl _ _ | assumption | refine below_drewN ?_ _ | refine Below.setCell ?_ (by first | (simp; done) | (simp; omega)) _ | refine Below.alloc ?_ (by first | (simp; done) | (simp; omega) | omega) _ | refine Below.drew ?_ | refine Below.trans ?_ (Below.mono (by assumption) (by first | (simp; done) | (simp; omega) | omega)))))).mono ?_
  rintro e w4 ⟨rfl, hb4⟩
  rw [x15]
  have hz4 := hb4.size
  (try simp at hz4)
  have be4 : Below w.heap.size w w4 := (by repeat (first | exact Below.refl _ _ | assumption | refine below_drewN ?_ _ | refine Below.setCell ?_ (by first | (simp; done) | (simp; omega)) _ | refine Below.alloc ?_ (by first | (simp; done) | (simp; omega) | omega) _ | refine Below.drew ?_ | refine Below.trans ?_ (Below.mono (by assumption) (by first | (simp; done) | (simp; omega) | omega))))
  have v4_0 : w4.cell? ⟨w3.heap.size, 0, none⟩ = some (.int .i64 1990) := cell_keep hb4 (by go_simp)
  have v4_1 : w4.cell? ⟨w3.heap.size, 1, none⟩ = some (.int .i64 3) := cell_keep hb4 (by go_simp)
  have v4_2 : w4.cell? ⟨w3.heap.size, 2, none⟩ = some (.int .i64 1) := cell_keep hb4 (by go_simp)
  have vl4 : w3.heap.size < w4.heap.size := by omega
  clear hb4 be3
  simp only [IV]
  go_wp2_with fail
  refine (months_in 0 1990 1 1 (-1) _ Dt.civ_zero (by omega) (by omega) (HE.out.below (by repeat (first | exact Below.refl _ _ | assumption | refine below_drewN ?_ _ | refine Below.setCell ?_ (by first | (simp; done) | (simp; omega)) _ | refine Below.alloc ?_ (by first | (simp; done) | (simp; omega) | omega) _ | refine Below.drew ?_ | refine Below.trans ?_ (Below.mono (by assumption) (by first | (simp; done) | (simp; omega) | omega)))))).mono ?_
  rintro e w5 ⟨rfl, hb5⟩
  rw [x16]
  have hz5 := hb5.size
  (try simp at hz5)
  have be5 : Below w.heap.size w w5 := (by repeat (first | exact Below.refl _ _ | assumption | refine below_drewN ?_ _ | refine Below.setCell ?_ (by first | (simp; done) | (simp; omega)) _ | refine Below.alloc ?_ (by first | (simp; done) | (simp; omega) | omega) _ | refine Below.drew ?_ | refine Below.trans ?_ (Below.mono (by assumption) (by first | (simp; done) | (simp; omega) | omega))))
  have v5_0 : w5.cell? ⟨w3.heap.size, 0, none⟩ = some (.int .i64 1990) := cell_keep hb5 v4_0
  have v5_1 : w5.cell? ⟨w3.heap.size, 1, none⟩ = some (.int .i64 3) := cell_keep hb5 v4_1
  have v5_2 : w5.cell? ⟨w3.heap.size, 2, none⟩ = some (.int .i64 1) := cell_keep hb5 v4_2
  have vl5 : w3.heap.size < w5.heap.size := by omega
  clear v4_0 v4_1 v4_2 vl4
  clear hb5 be4
  simp only [IV]
  go_wp2_with (go_at_call 19; refine (week_w _ _ _ _).mono ?_; rintro e w' ⟨rfl, rfl⟩)
  refine (next_valid false false false false false true true _ 1 1 [4] 4 _ rfl (hols_of (by go_simp)) x5 (by omega)).mono ?_
  rintro e w6 ⟨rfl, hb6⟩
  rw [x1]
  have hz6 := hb6.size
  (try simp at hz6)
  have be6 : Below w.heap.size w w6 := (by repeat (first | exact Below.refl _ _ | assumption | refine below_drewN ?_ _ | refine Below.setCell ?_ (by first | (simp; done) | (simp; omega)) _ | refine Below.alloc ?_ (by first | (simp; done) | (simp; omega) | omega) _ | refine Below.drew ?_ | refine Below.trans ?_ (Below.mono (by assumption) (by first | (simp; done) | (simp; omega) | omega))))
  clear hb6 be5
  simp only [IV]
  clear v5_0 v5_1 v5_2 vl5
  go_wp2_with (go_at_call 19; refine (week_w _ _ _ _).mono ?_; rintro e w' ⟨rfl, rfl⟩)
  refine (add_valid false false false false false true true _ 1 1 [4] 3 1 _ rfl (hols_of (by go_simp)) x5 (by omega) (by omega)).mono ?_
  rintro e w7 ⟨rfl, hb7⟩
  rw [x2]
  have hz7 := hb7.size
  (try simp at hz7)
  have be7 : Below w.heap.size w w7 := (by repeat (first | exact Below.refl _ _ | assumption | refine below_drewN ?_ _ | refine Below.setCell ?_ (by first | (simp; done) | (simp; omega)) _ | refine Below.alloc ?_ (by first | (simp; done) | (simp; omega) | omega) _ | refine Below.drew ?_ | refine Below.trans ?_ (Below.mono (by assumption) (by first | (simp; done) | (simp; omega) | omega))))
  clear hb7 be6
  simp only [IV]
  go_wp2_with (go_at_call 19; refine (week_w _ _ _ _).mono ?_; rintro e w' ⟨rfl, rfl⟩)
  refine (count_in false false false false false true true _ 1 1 [4] 0 8 _ rfl (hols_of (by go_simp)) x5 (by omega) (by omega)).mono ?_
  rintro e w8 ⟨rfl, hb8⟩
  rw [x3]
  have hz8 := hb8.size
  (try simp at hz8)
  have be8 : Below w.heap.size w w8 := (by repeat (first | exact Below.refl _ _ | assumption | refine below_drewN ?_ _ | refine Below.setCell ?_ (by first | (simp; done) | (simp; omega)) _ | refine Below.alloc ?_ (by first | (simp; done) | (simp; omega) | omega) _ | refine Below.drew ?_ | refine Below.trans ?_ (Below.mono (by assumption) (by first | (simp; done) | (simp; omega) | omega))))
  clear hb8 be7
  simp only [IV]
  go_wp2_with (go_at_call 19; refine (week_w _ _ _ _).mono ?_; rintro e w' ⟨rfl, rfl⟩)
  refine (add_valid false false false false false true true _ 1 1 [4] 3 100000 _ rfl (hols_of (by go_simp)) x5 (by omega) (by omega)).mono ?_
  rintro e w9 ⟨rfl, hb9⟩
  rw [x4]
  have hz9 := hb9.size
  (try simp at hz9)
  have be9 : Below w.heap.size w w9 := (by repeat (first | exact Below.refl _ _ | assumption | refine below_drewN ?_ _ | refine Below.setCell ?_ (by first | (simp; done) | (simp; omega)) _ | refine Below.alloc ?_ (by first | (simp; done) | (simp; omega) | omega) _ | refine Below.drew ?_ | refine Below.trans ?_ (Below.mono (by assumption) (by first | (simp; done) | (simp; omega) | omega))))
  clear hb9 be8
  simp only [IV]
  go_wp2_with (go_at_call 19; refine (week_w _ _ _ _).mono ?_; rintro e w' ⟨rfl, rfl⟩)
  refine (valid_true false false false false false true true _ 1 1 [4] _ rfl x5 (hols_of (by go_simp))).mono ?_
  rintro e w10 ⟨rfl, hb10⟩
  have hz10 := hb10.size
  (try simp at hz10)
  have be10 : Below w.heap.size w w10 := (by repeat (first | exact Below.refl _ _ | assumption | refine below_drewN ?_ _ | refine Below.setCell ?_ (by first | (simp; done) | (simp; omega)) _ | refine Below.alloc ?_ (by first | (simp; done) | (simp; omega) | omega) _ | refine Below.drew ?_ | refine Below.trans ?_ (Below.mono (by assumption) (by first | (simp; done) | (simp; omega) | omega))))
  clear hb10 be9
  go_wp2_with (go_at_call 19; refine (week_w _ _ _ _).mono ?_; rintro e w' ⟨rfl, rfl⟩)
  refine (valid_false false false false false false true true _ 2 2 [4, 4] _ rfl x6 (hols_of2 (by go_simp) (by go_simp))).mono ?_
  rintro e w11 ⟨rfl, hb11⟩
  have hz11 := hb11.size
  (try simp at hz11)
  have be11 : Below w.heap.size w w11 := (by repeat (first | exact Below.refl _ _ | assumption | refine below_drewN ?_ _ | refine Below.setCell ?_ (by first | (simp; done) | (simp; omega)) _ | refine Below.alloc ?_ (by first | (simp; done) | (simp; omega) | omega) _ | refine Below.drew ?_ | refine Below.trans ?_ (Below.mono (by assumption) (by first | (simp; done) | (simp; omega) | omega))))
  clear hb11 be10
  go_wp2_with (go_at_call 19; refine (week_w _ _ _ _).mono ?_; rintro e w' ⟨rfl, rfl⟩)
  refine (business_in false false false false false true true _ 1 1 [4] 3 _ rfl x5 (hols_of (by go_simp)) (by omega)).mono ?_
  rintro e w12 ⟨rfl, hb12⟩
  rw [x8]
  have hz12 := hb12.size
  (try simp at hz12)
  have be12 : Below w.heap.size w w12 := (by repeat (first | exact Below.refl _ _ | assumption | refine below_drewN ?_ _ | refine Below.setCell ?_ (by first | (simp; done) | (simp; omega)) _ | refine Below.alloc ?_ (by first | (simp; done) | (simp; omega) | omega) _ | refine Below.drew ?_ | refine Below.trans ?_ (Below.mono (by assumption) (by first | (simp; done) | (simp; omega) | omega))))
  clear hb12 be11
  go_wp2_with (go_at_call 19; refine (week_w _ _ _ _).mono ?_; rintro e w' ⟨rfl, rfl⟩)
  refine (business_in false false false false false true true _ 1 1 [4] 4 _ rfl x5 (hols_of (by go_simp)) (by omega)).mono ?_
  rintro e w13 ⟨rfl, hb13⟩
  rw [x9]
  have hz13 := hb13.size
  (try simp at hz13)
  have be13 : Below w.heap.size w w13 := (by repeat (first | exact Below.refl _ _ | assumption | refine below_drewN ?_ _ | refine Below.setCell ?_ (by first | (simp; done) | (simp; omega)) _ | refine Below.alloc ?_ (by first | (simp; done) | (simp; omega) | omega) _ | refine Below.drew ?_ | refine Below.trans ?_ (Below.mono (by assumption) (by first | (simp; done) | (simp; omega) | omega))))
  clear hb13 be12
  go_wp2_with (go_at_call 19; refine (week_w _ _ _ _).mono ?_; rintro e w' ⟨rfl, rfl⟩)
  refine (business_in false false false false false true true none 0 0 [] 5 _ rfl x7 (.inl rfl) (by omega)).mono ?_
  rintro e w14 ⟨rfl, hb14⟩
  rw [x10]
  have hz14 := hb14.size
  (try simp at hz14)
  have be14 : Below w.heap.size w w14 := (by repeat (first | exact Below.refl _ _ | assumption | refine below_drewN ?_ _ | refine Below.setCell ?_ (by first | (simp; done) | (simp; omega)) _ | refine Below.alloc ?_ (by first | (simp; done) | (simp; omega) | omega) _ | refine Below.drew ?_ | refine Below.trans ?_ (Below.mono (by assumption) (by first | (simp; done) | (simp; omega) | omega))))
  clear hb14 be13
  go_wp2
  go_ret
  exact ⟨rfl, (by repeat (first | exact Below.refl _ _ | assumption | refine below_drewN ?_ _ | refine Below.setCell ?_ (by first | (simp; done) | (simp; omega)) _ | refine Below.alloc ?_ (by first | (simp; done) | (simp; omega) | omega) _ | refine Below.drew ?_ | refine Below.trans ?_ (Below.mono (by assumption) (by first | (simp; done) | (simp; omega) | omega))))⟩
end Go.Proofs.YtackkeggabgaeaaDoor

/- DateMonths: the walk of the law. -/
import Derived.Test.YtackkeggabgaeaaDoorDtL
namespace Go.Proofs.YtackkeggabgaeaaDoor
open Go.RowKit

/-- what Months answers, in whatever world -/
def MonS (day k : Int) (t : Int × Int) : Prop := ∀ w, Env w → Calls Tryd.prog 13 #[.int .i64 day, .int .i64 k] w fun e w' => e = .returned (IV t) ∧ Below w.heap.size w w'
theorem mons_ex (day k : Int) : (MonS day k (0, 1) ∧ (day < 0 ∨ 73048 < day ∨ k < -2400 ∨ 2400 < k)) ∨ (∃ y m d, Dt.IsCiv day y m d ∧ -2400 ≤ k ∧ k ≤ 2400 ∧ MonS day k (Dt.mon y m d k)) := by
  by_cases h : 0 ≤ day ∧ day ≤ 73048
  · by_cases h1 : -2400 ≤ k
    · by_cases h2 : k ≤ 2400
      · obtain ⟨y, m, d, hc⟩ := Dt.civ_exists h.1 h.2
        exact .inr ⟨y, m, d, hc, h1, h2, fun w hE => months_in day y m d k w hc h1 h2 hE⟩
      · exact .inl ⟨fun w _ => months_high day k w h h1 (by omega), by omega⟩
    · exact .inl ⟨fun w _ => months_low day k w h (by omega), by omega⟩
  · exact .inl ⟨fun w _ => months_bad day k w h, by omega⟩
set_option maxRecDepth 100000 in
set_option maxHeartbeats 3200000 in
theorem mo_a (day later k : Int) (t2 : Int × Int) (w : World) (hE : Env w) (hs2 : MonS later k t2) (hs1 : MonS day k (0, 1)) (h1 : day < 0) :
    Calls Tryd.prog 5 #[.int .i64 day, .int .i64 later, .int .i64 k] w fun e w' => e = .returned (.bool true) ∧ Below w.heap.size w w' := by
  have HE := Lib.hid hE
  have HS2 := Lib.hid hs2
  have HS1 := Lib.hid hs1
  clear hE hs2 hs1
  go_enter Tryd.func5, Tryd.ntmps5
  go_wp2_with fail
  refine (head_any _ HE.out).mono ?_
  rintro e w1 ⟨rfl, hb1⟩
  have hz1 := hb1.size
  (try simp at hz1)
  have be1 : Below w.heap.size w w1 := (by repeat (first | exact Below.refl _ _ | assumption | refine below_drewN ?_ _ | refine Below.setCell ?_ (by first | (simp; done) | (simp; omega)) _ | refine Below.alloc ?_ (by first | (simp; done) | (simp; omega) | omega) _ | refine Below.drew ?_ | refine Below.trans ?_ (Below.mono (by assumption) (by first | (simp; done) | (simp; omega) | omega))))
  clear hb1
  go_wp2_with fail
  refine (HS1.out _ (HE.out.below (by repeat (first | exact Below.refl _ _ | assumption | refine below_drewN ?_ _ | refine Below.setCell ?_ (by first | (simp; done) | (simp; omega)) _ | refine Below.alloc ?_ (by first | (simp; done) | (simp; omega) | omega) _ | refine Below.drew ?_ | refine Below.trans ?_ (Below.mono (by assumption) (by first | (simp; done) | (simp; omega) | omega)))))).mono ?_
  rintro e w2 ⟨rfl, hb2⟩
  have hz2 := hb2.size
  (try simp at hz2)
  have bb2 : Below w1.heap.size w1 w2 := (by repeat (first | exact Below.refl _ _ | assumption | refine below_drewN ?_ _ | refine Below.setCell ?_ (by first | (simp; done) | (simp; omega)) _ | refine Below.alloc ?_ (by first | (simp; done) | (simp; omega) | omega) _ | refine Below.drew ?_ | refine Below.trans ?_ (Below.mono (by assumption) (by first | (simp; done) | (simp; omega) | omega))))
  have be2 : Below w.heap.size w w2 := be1.trans (bb2.mono (by omega))
  clear hb2 be1 bb2
  simp only [IV]
  go_wp2_with fail
  refine (HS2.out _ (HE.out.below (by repeat (first | exact Below.refl _ _ | assumption | refine below_drewN ?_ _ | refine Below.setCell ?_ (by first | (simp; done) | (simp; omega)) _ | refine Below.alloc ?_ (by first | (simp; done) | (simp; omega) | omega) _ | refine Below.drew ?_ | refine Below.trans ?_ (Below.mono (by assumption) (by first | (simp; done) | (simp; omega) | omega)))))).mono ?_
  rintro e w3 ⟨rfl, hb3⟩
  have hz3 := hb3.size
  (try simp at hz3)
  have bb3 : Below w2.heap.size w2 w3 := (by repeat (first | exact Below.refl _ _ | assumption | refine below_drewN ?_ _ | refine Below.setCell ?_ (by first | (simp; done) | (simp; omega)) _ | refine Below.alloc ?_ (by first | (simp; done) | (simp; omega) | omega) _ | refine Below.drew ?_ | refine Below.trans ?_ (Below.mono (by assumption) (by first | (simp; done) | (simp; omega) | omega))))
  have be3 : Below w.heap.size w w3 := be2.trans (bb3.mono (by omega))
  clear hb3 be2 bb3
  simp only [IV]
  go_wp2
  go_ret
  exact ⟨rfl, (by repeat (first | exact Below.refl _ _ | assumption | refine below_drewN ?_ _ | refine Below.setCell ?_ (by first | (simp; done) | (simp; omega)) _ | refine Below.alloc ?_ (by first | (simp; done) | (simp; omega) | omega) _ | refine Below.drew ?_ | refine Below.trans ?_ (Below.mono (by assumption) (by first | (simp; done) | (simp; omega) | omega))))⟩
set_option maxRecDepth 100000 in
set_option maxHeartbeats 3200000 in
theorem mo_b (day later k : Int) (t2 : Int × Int) (w : World) (hE : Env w) (hs2 : MonS later k t2) (hs1 : MonS day k (0, 1)) (h0 : 0 ≤ day) (h1 : 73048 < day) :
    Calls Tryd.prog 5 #[.int .i64 day, .int .i64 later, .int .i64 k] w fun e w' => e = .returned (.bool true) ∧ Below w.heap.size w w' := by
  have HE := Lib.hid hE
  have HS2 := Lib.hid hs2
  have HS1 := Lib.hid hs1
  clear hE hs2 hs1
  go_enter Tryd.func5, Tryd.ntmps5
  go_wp2_with fail
  refine (head_any _ HE.out).mono ?_
  rintro e w1 ⟨rfl, hb1⟩
  have hz1 := hb1.size
  (try simp at hz1)
  have be1 : Below w.heap.size w w1 := (by repeat (first | exact Below.refl _ _ | assumption | refine below_drewN ?_ _ | refine Below.setCell ?_ (by first | (simp; done) | (simp; omega)) _ | refine Below.alloc ?_ (by first | (simp; done) | (simp; omega) | omega) _ | refine Below.drew ?_ | refine Below.trans ?_ (Below.mono (by assumption) (by first | (simp; done) | (simp; omega) | omega))))
  clear hb1
  go_wp2_with fail
  refine (HS1.out _ (HE.out.below (by repeat (first | exact Below.refl _ _ | assumption | refine below_drewN ?_ _ | refine Below.setCell ?_ (by first | (simp; done) | (simp; omega)) _ | refine Below.alloc ?_ (by first | (simp; done) | (simp; omega) | omega) _ | refine Below.drew ?_ | refine Below.trans ?_ (Below.mono (by assumption) (by first | (simp; done) | (simp; omega) | omega)))))).mono ?_
  rintro e w2 ⟨rfl, hb2⟩
  have hz2 := hb2.size
  (try simp at hz2)
  have bb2 : Below w1.heap.size w1 w2 := (by repeat (first | exact Below.refl _ _ | assumption | refine below_drewN ?_ _ | refine Below.setCell ?_ (by first | (simp; done) | (simp; omega)) _ | refine Below.alloc ?_ (by first | (simp; done) | (simp; omega) | omega) _ | refine Below.drew ?_ | refine Below.trans ?_ (Below.mono (by assumption) (by first | (simp; done) | (simp; omega) | omega))))
  have be2 : Below w.heap.size w w2 := be1.trans (bb2.mono (by omega))
  clear hb2 be1 bb2
  simp only [IV]
  go_wp2_with fail
  refine (HS2.out _ (HE.out.below (by repeat (first | exact Below.refl _ _ | assumption | refine below_drewN ?_ _ | refine Below.setCell ?_ (by first | (simp; done) | (simp; omega)) _ | refine Below.alloc ?_ (by first | (simp; done) | (simp; omega) | omega) _ | refine Below.drew ?_ | refine Below.trans ?_ (Below.mono (by assumption) (by first | (simp; done) | (simp; omega) | omega)))))).mono ?_
  rintro e w3 ⟨rfl, hb3⟩
  have hz3 := hb3.size
  (try simp at hz3)
  have bb3 : Below w2.heap.size w2 w3 := (by repeat (first | exact Below.refl _ _ | assumption | refine below_drewN ?_ _ | refine Below.setCell ?_ (by first | (simp; done) | (simp; omega)) _ | refine Below.alloc ?_ (by first | (simp; done) | (simp; omega) | omega) _ | refine Below.drew ?_ | refine Below.trans ?_ (Below.mono (by assumption) (by first | (simp; done) | (simp; omega) | omega))))
  have be3 : Below w.heap.size w w3 := be2.trans (bb3.mono (by omega))
  clear hb3 be2 bb3
  simp only [IV]
  go_wp2
  go_ret
  exact ⟨rfl, (by repeat (first | exact Below.refl _ _ | assumption | refine below_drewN ?_ _ | refine Below.setCell ?_ (by first | (simp; done) | (simp; omega)) _ | refine Below.alloc ?_ (by first | (simp; done) | (simp; omega) | omega) _ | refine Below.drew ?_ | refine Below.trans ?_ (Below.mono (by assumption) (by first | (simp; done) | (simp; omega) | omega))))⟩
set_option maxRecDepth 100000 in
set_option maxHeartbeats 3200000 in
theorem mo_c (day later k : Int) (t2 : Int × Int) (w : World) (hE : Env w) (hs2 : MonS later k t2) (hs1 : MonS day k (0, 1)) (h0 : 0 ≤ day) (h1 : day ≤ 73048) (h2 : k < -2400) :
    Calls Tryd.prog 5 #[.int .i64 day, .int .i64 later, .int .i64 k] w fun e w' => e = .returned (.bool true) ∧ Below w.heap.size w w' := by
  have HE := Lib.hid hE
  have HS2 := Lib.hid hs2
  have HS1 := Lib.hid hs1
  clear hE hs2 hs1
  go_enter Tryd.func5, Tryd.ntmps5
  go_wp2_with fail
  refine (head_any _ HE.out).mono ?_
  rintro e w1 ⟨rfl, hb1⟩
  have hz1 := hb1.size
  (try simp at hz1)
  have be1 : Below w.heap.size w w1 := (by repeat (first | exact Below.refl _ _ | assumption | refine below_drewN ?_ _ | refine Below.setCell ?_ (by first | (simp; done) | (simp; omega)) _ | refine Below.alloc ?_ (by first | (simp; done) | (simp; omega) | omega) _ | refine Below.drew ?_ | refine Below.trans ?_ (Below.mono (by assumption) (by first | (simp; done) | (simp; omega) | omega))))
  clear hb1
  go_wp2_with fail
  refine (HS1.out _ (HE.out.below (by repeat (first | exact Below.refl _ _ | assumption | refine below_drewN ?_ _ | refine Below.setCell ?_ (by first | (simp; done) | (simp; omega)) _ | refine Below.alloc ?_ (by first | (simp; done) | (simp; omega) | omega) _ | refine Below.drew ?_ | refine Below.trans ?_ (Below.mono (by assumption) (by first | (simp; done) | (simp; omega) | omega)))))).mono ?_
  rintro e w2 ⟨rfl, hb2⟩
  have hz2 := hb2.size
  (try simp at hz2)
  have bb2 : Below w1.heap.size w1 w2 := (by repeat (first | exact Below.refl _ _ | assumption | refine below_drewN ?_ _ | refine Below.setCell ?_ (by first | (simp; done) | (simp; omega)) _ | refine Below.alloc ?_ (by first | (simp; done) | (simp; omega) | omega) _ | refine Below.drew ?_ | refine Below.trans ?_ (Below.mono (by assumption) (by first | (simp; done) | (simp; omega) | omega))))
  have be2 : Below w.heap.size w w2 := be1.trans (bb2.mono (by omega))
  clear hb2 be1 bb2
  simp only [IV]
  go_wp2_with fail
  refine (HS2.out _ (HE.out.below (by repeat (first | exact Below.refl _ _ | assumption | refine below_drewN ?_ _ | refine Below.setCell ?_ (by first | (simp; done) | (simp; omega)) _ | refine Below.alloc ?_ (by first | (simp; done) | (simp; omega) | omega) _ | refine Below.drew ?_ | refine Below.trans ?_ (Below.mono (by assumption) (by first | (simp; done) | (simp; omega) | omega)))))).mono ?_
  rintro e w3 ⟨rfl, hb3⟩
  have hz3 := hb3.size
  (try simp at hz3)
  have bb3 : Below w2.heap.size w2 w3 := (by repeat (first | exact Below.refl _ _ | assumption | refine below_drewN ?_ _ | refine Below.setCell ?_ (by first | (simp; done) | (simp; omega)) _ | refine Below.alloc ?_ (by first | (simp; done) | (simp; omega) | omega) _ | refine Below.drew ?_ | refine Below.trans ?_ (Below.mono (by assumption) (by first | (simp; done) | (simp; omega) | omega))))
  have be3 : Below w.heap.size w w3 := be2.trans (bb3.mono (by omega))
  clear hb3 be2 bb3
  simp only [IV]
  go_wp2
  go_ret
  exact ⟨rfl, (by repeat (first | exact Below.refl _ _ | assumption | refine below_drewN ?_ _ | refine Below.setCell ?_ (by first | (simp; done) | (simp; omega)) _ | refine Below.alloc ?_ (by first | (simp; done) | (simp; omega) | omega) _ | refine Below.drew ?_ | refine Below.trans ?_ (Below.mono (by assumption) (by first | (simp; done) | (simp; omega) | omega))))⟩
set_option maxRecDepth 100000 in
set_option maxHeartbeats 3200000 in
theorem mo_d (day later k : Int) (t2 : Int × Int) (w : World) (hE : Env w) (hs2 : MonS later k t2) (hs1 : MonS day k (0, 1)) (h0 : 0 ≤ day) (h1 : day ≤ 73048) (h2 : -2400 ≤ k) (h3 : 2400 < k) :
    Calls Tryd.prog 5 #[.int .i64 day, .int .i64 later, .int .i64 k] w fun e w' => e = .returned (.bool true) ∧ Below w.heap.size w w' := by
  have HE := Lib.hid hE
  have HS2 := Lib.hid hs2
  have HS1 := Lib.hid hs1
  clear hE hs2 hs1
  go_enter Tryd.func5, Tryd.ntmps5
  go_wp2_with fail
  refine (head_any _ HE.out).mono ?_
  rintro e w1 ⟨rfl, hb1⟩
  have hz1 := hb1.size
  (try simp at hz1)
  have be1 : Below w.heap.size w w1 := (by repeat (first | exact Below.refl _ _ | assumption | refine below_drewN ?_ _ | refine Below.setCell ?_ (by first | (simp; done) | (simp; omega)) _ | refine Below.alloc ?_ (by first | (simp; done) | (simp; omega) | omega) _ | refine Below.drew ?_ | refine Below.trans ?_ (Below.mono (by assumption) (by first | (simp; done) | (simp; omega) | omega))))
  clear hb1
  go_wp2_with fail
  refine (HS1.out _ (HE.out.below (by repeat (first | exact Below.refl _ _ | assumption | refine below_drewN ?_ _ | refine Below.setCell ?_ (by first | (simp; done) | (simp; omega)) _ | refine Below.alloc ?_ (by first | (simp; done) | (simp; omega) | omega) _ | refine Below.drew ?_ | refine Below.trans ?_ (Below.mono (by assumption) (by first | (simp; done) | (simp; omega) | omega)))))).mono ?_
  rintro e w2 ⟨rfl, hb2⟩
  have hz2 := hb2.size
  (try simp at hz2)
  have bb2 : Below w1.heap.size w1 w2 := (by repeat (first | exact Below.refl _ _ | assumption | refine below_drewN ?_ _ | refine Below.setCell ?_ (by first | (simp; done) | (simp; omega)) _ | refine Below.alloc ?_ (by first | (simp; done) | (simp; omega) | omega) _ | refine Below.drew ?_ | refine Below.trans ?_ (Below.mono (by assumption) (by first | (simp; done) | (simp; omega) | omega))))
  have be2 : Below w.heap.size w w2 := be1.trans (bb2.mono (by omega))
  clear hb2 be1 bb2
  simp only [IV]
  go_wp2_with fail
  refine (HS2.out _ (HE.out.below (by repeat (first | exact Below.refl _ _ | assumption | refine below_drewN ?_ _ | refine Below.setCell ?_ (by first | (simp; done) | (simp; omega)) _ | refine Below.alloc ?_ (by first | (simp; done) | (simp; omega) | omega) _ | refine Below.drew ?_ | refine Below.trans ?_ (Below.mono (by assumption) (by first | (simp; done) | (simp; omega) | omega)))))).mono ?_
  rintro e w3 ⟨rfl, hb3⟩
  have hz3 := hb3.size
  (try simp at hz3)
  have bb3 : Below w2.heap.size w2 w3 := (by repeat (first | exact Below.refl _ _ | assumption | refine below_drewN ?_ _ | refine Below.setCell ?_ (by first | (simp; done) | (simp; omega)) _ | refine Below.alloc ?_ (by first | (simp; done) | (simp; omega) | omega) _ | refine Below.drew ?_ | refine Below.trans ?_ (Below.mono (by assumption) (by first | (simp; done) | (simp; omega) | omega))))
  have be3 : Below w.heap.size w w3 := be2.trans (bb3.mono (by omega))
  clear hb3 be2 bb3
  simp only [IV]
  go_wp2
  go_ret
  exact ⟨rfl, (by repeat (first | exact Below.refl _ _ | assumption | refine below_drewN ?_ _ | refine Below.setCell ?_ (by first | (simp; done) | (simp; omega)) _ | refine Below.alloc ?_ (by first | (simp; done) | (simp; omega) | omega) _ | refine Below.drew ?_ | refine Below.trans ?_ (Below.mono (by assumption) (by first | (simp; done) | (simp; omega) | omega))))⟩
set_option maxRecDepth 100000 in
set_option maxHeartbeats 3200000 in
theorem mo_e (day later k : Int) (t2 : Int × Int) (w : World) (hE : Env w) (hs2 : MonS later k t2) (y m d : Int) (hc : Dt.IsCiv day y m d) (q1 : 1990 ≤ y) (q2 : y ≤ 2189) (q3 : 1 ≤ m) (q4 : m ≤ 12) (q5 : 1 ≤ d) (hs1 : MonS day k (0, 2)) (k1 : -2400 ≤ k) (k2 : k ≤ 2400) (hr : y * 12 + m - 1 + k < 23880) :
    Calls Tryd.prog 5 #[.int .i64 day, .int .i64 later, .int .i64 k] w fun e w' => e = .returned (.bool true) ∧ Below w.heap.size w w' := by
  have HE := Lib.hid hE
  have HS2 := Lib.hid hs2
  have HS1 := Lib.hid hs1
  have HC := Lib.hid hc
  clear hE hs2 hs1 hc
  go_enter Tryd.func5, Tryd.ntmps5
  go_wp2_with fail
  refine (head_any _ HE.out).mono ?_
  rintro e w1 ⟨rfl, hb1⟩
  have hz1 := hb1.size
  (try simp at hz1)
  have be1 : Below w.heap.size w w1 := (by repeat (first | exact Below.refl _ _ | assumption | refine below_drewN ?_ _ | refine Below.setCell ?_ (by first | (simp; done) | (simp; omega)) _ | refine Below.alloc ?_ (by first | (simp; done) | (simp; omega) | omega) _ | refine Below.drew ?_ | refine Below.trans ?_ (Below.mono (by assumption) (by first | (simp; done) | (simp; omega) | omega))))
  clear hb1
  go_wp2_with fail
  refine (HS1.out _ (HE.out.below (by repeat (first | exact Below.refl _ _ | assumption | refine below_drewN ?_ _ | refine Below.setCell ?_ (by first | (simp; done) | (simp; omega)) _ | refine Below.alloc ?_ (by first | (simp; done) | (simp; omega) | omega) _ | refine Below.drew ?_ | refine Below.trans ?_ (Below.mono (by assumption) (by first | (simp; done) | (simp; omega) | omega)))))).mono ?_
  rintro e w2 ⟨rfl, hb2⟩
  have hz2 := hb2.size
  (try simp at hz2)
  have bb2 : Below w1.heap.size w1 w2 := (by repeat (first | exact Below.refl _ _ | assumption | refine below_drewN ?_ _ | refine Below.setCell ?_ (by first | (simp; done) | (simp; omega)) _ | refine Below.alloc ?_ (by first | (simp; done) | (simp; omega) | omega) _ | refine Below.drew ?_ | refine Below.trans ?_ (Below.mono (by assumption) (by first | (simp; done) | (simp; omega) | omega))))
  have be2 : Below w.heap.size w w2 := be1.trans (bb2.mono (by omega))
  clear hb2 be1 bb2
  simp only [IV]
  go_wp2_with fail
  refine (HS2.out _ (HE.out.below (by repeat (first | exact Below.refl _ _ | assumption | refine below_drewN ?_ _ | refine Below.setCell ?_ (by first | (simp; done) | (simp; omega)) _ | refine Below.alloc ?_ (by first | (simp; done) | (simp; omega) | omega) _ | refine Below.drew ?_ | refine Below.trans ?_ (Below.mono (by assumption) (by first | (simp; done) | (simp; omega) | omega)))))).mono ?_
  rintro e w3 ⟨rfl, hb3⟩
  have hz3 := hb3.size
  (try simp at hz3)
  have bb3 : Below w2.heap.size w2 w3 := (by repeat (first | exact Below.refl _ _ | assumption | refine below_drewN ?_ _ | refine Below.setCell ?_ (by first | (simp; done) | (simp; omega)) _ | refine Below.alloc ?_ (by first | (simp; done) | (simp; omega) | omega) _ | refine Below.drew ?_ | refine Below.trans ?_ (Below.mono (by assumption) (by first | (simp; done) | (simp; omega) | omega))))
  have be3 : Below w.heap.size w w3 := be2.trans (bb3.mono (by omega))
  clear hb3 be2 bb3
  simp only [IV]
  go_wp2_with fail
  refine (civil_in day y m d _ HC.out (HE.out.below (by repeat (first | exact Below.refl _ _ | assumption | refine below_drewN ?_ _ | refine Below.setCell ?_ (by first | (simp; done) | (simp; omega)) _ | refine Below.alloc ?_ (by first | (simp; done) | (simp; omega) | omega) _ | refine Below.drew ?_ | refine Below.trans ?_ (Below.mono (by assumption) (by first | (simp; done) | (simp; omega) | omega)))))).mono ?_
  rintro e w4 ⟨rfl, hb4⟩
  have hz4 := hb4.size
  (try simp at hz4)
  have bb4 : Below w3.heap.size w3 w4 := (by repeat (first | exact Below.refl _ _ | assumption | refine below_drewN ?_ _ | refine Below.setCell ?_ (by first | (simp; done) | (simp; omega)) _ | refine Below.alloc ?_ (by first | (simp; done) | (simp; omega) | omega) _ | refine Below.drew ?_ | refine Below.trans ?_ (Below.mono (by assumption) (by first | (simp; done) | (simp; omega) | omega))))
  have be4 : Below w.heap.size w w4 := be3.trans (bb4.mono (by omega))
  clear hb4 be3 bb4
  simp only [CV]
  go_wp2
  go_ret
  exact ⟨rfl, (by repeat (first | exact Below.refl _ _ | assumption | refine below_drewN ?_ _ | refine Below.setCell ?_ (by first | (simp; done) | (simp; omega)) _ | refine Below.alloc ?_ (by first | (simp; done) | (simp; omega) | omega) _ | refine Below.drew ?_ | refine Below.trans ?_ (Below.mono (by assumption) (by first | (simp; done) | (simp; omega) | omega))))⟩
set_option maxRecDepth 100000 in
set_option maxHeartbeats 3200000 in
theorem mo_f (day later k : Int) (t2 : Int × Int) (w : World) (hE : Env w) (hs2 : MonS later k t2) (y m d : Int) (hc : Dt.IsCiv day y m d) (q1 : 1990 ≤ y) (q2 : y ≤ 2189) (q3 : 1 ≤ m) (q4 : m ≤ 12) (q5 : 1 ≤ d) (hs1 : MonS day k (0, 2)) (k1 : -2400 ≤ k) (k2 : k ≤ 2400) (hr0 : 23880 ≤ y * 12 + m - 1 + k) (hr : 26280 ≤ y * 12 + m - 1 + k) :
    Calls Tryd.prog 5 #[.int .i64 day, .int .i64 later, .int .i64 k] w fun e w' => e = .returned (.bool true) ∧ Below w.heap.size w w' := by
  have HE := Lib.hid hE
  have HS2 := Lib.hid hs2
  have HS1 := Lib.hid hs1
  have HC := Lib.hid hc
  clear hE hs2 hs1 hc
  go_enter Tryd.func5, Tryd.ntmps5
  go_wp2_with fail
  refine (head_any _ HE.out).mono ?_
  rintro e w1 ⟨rfl, hb1⟩
  have hz1 := hb1.size
  (try simp at hz1)
  have be1 : Below w.heap.size w w1 := (by repeat (first | exact Below.refl _ _ | assumption | refine below_drewN ?_ _ | refine Below.setCell ?_ (by first | (simp; done) | (simp; omega)) _ | refine Below.alloc ?_ (by first | (simp; done) | (simp; omega) | omega) _ | refine Below.drew ?_ | refine Below.trans ?_ (Below.mono (by assumption) (by first | (simp; done) | (simp; omega) | omega))))
  clear hb1
  go_wp2_with fail
  refine (HS1.out _ (HE.out.below (by repeat (first | exact Below.refl _ _ | assumption | refine below_drewN ?_ _ | refine Below.setCell ?_ (by first | (simp; done) | (simp; omega)) _ | refine Below.alloc ?_ (by first | (simp; done) | (simp; omega) | omega) _ | refine Below.drew ?_ | refine Below.trans ?_ (Below.mono (by assumption) (by first | (simp; done) | (simp; omega) | omega)))))).mono ?_
  rintro e w2 ⟨rfl, hb2⟩
  have hz2 := hb2.size
  (try simp at hz2)
  have bb2 : Below w1.heap.size w1 w2 := (by repeat (first | exact Below.refl _ _ | assumption | refine below_drewN ?_ _ | refine Below.setCell ?_ (by first | (simp; done) | (simp; omega)) _ | refine Below.alloc ?_ (by first | (simp; done) | (simp; omega) | omega) _ | refine Below.drew ?_ | refine Below.trans ?_ (Below.mono (by assumption) (by first | (simp; done) | (simp; omega) | omega))))
  have be2 : Below w.heap.size w w2 := be1.trans (bb2.mono (by omega))
  clear hb2 be1 bb2
  simp only [IV]
  go_wp2_with fail
  refine (HS2.out _ (HE.out.below (by repeat (first | exact Below.refl _ _ | assumption | refine below_drewN ?_ _ | refine Below.setCell ?_ (by first | (simp; done) | (simp; omega)) _ | refine Below.alloc ?_ (by first | (simp; done) | (simp; omega) | omega) _ | refine Below.drew ?_ | refine Below.trans ?_ (Below.mono (by assumption) (by first | (simp; done) | (simp; omega) | omega)))))).mono ?_
  rintro e w3 ⟨rfl, hb3⟩
  have hz3 := hb3.size
  (try simp at hz3)
  have bb3 : Below w2.heap.size w2 w3 := (by repeat (first | exact Below.refl _ _ | assumption | refine below_drewN ?_ _ | refine Below.setCell ?_ (by first | (simp; done) | (simp; omega)) _ | refine Below.alloc ?_ (by first | (simp; done) | (simp; omega) | omega) _ | refine Below.drew ?_ | refine Below.trans ?_ (Below.mono (by assumption) (by first | (simp; done) | (simp; omega) | omega))))
  have be3 : Below w.heap.size w w3 := be2.trans (bb3.mono (by omega))
  clear hb3 be2 bb3
  simp only [IV]
  go_wp2_with fail
  refine (civil_in day y m d _ HC.out (HE.out.below (by repeat (first | exact Below.refl _ _ | assumption | refine below_drewN ?_ _ | refine Below.setCell ?_ (by first | (simp; done) | (simp; omega)) _ | refine Below.alloc ?_ (by first | (simp; done) | (simp; omega) | omega) _ | refine Below.drew ?_ | refine Below.trans ?_ (Below.mono (by assumption) (by first | (simp; done) | (simp; omega) | omega)))))).mono ?_
  rintro e w4 ⟨rfl, hb4⟩
  have hz4 := hb4.size
  (try simp at hz4)
  have bb4 : Below w3.heap.size w3 w4 := (by repeat (first | exact Below.refl _ _ | assumption | refine below_drewN ?_ _ | refine Below.setCell ?_ (by first | (simp; done) | (simp; omega)) _ | refine Below.alloc ?_ (by first | (simp; done) | (simp; omega) | omega) _ | refine Below.drew ?_ | refine Below.trans ?_ (Below.mono (by assumption) (by first | (simp; done) | (simp; omega) | omega))))
  have be4 : Below w.heap.size w w4 := be3.trans (bb4.mono (by omega))
  clear hb4 be3 bb4
  simp only [CV]
  go_wp2
  go_ret
  exact ⟨rfl, (by repeat (first | exact Below.refl _ _ | assumption | refine below_drewN ?_ _ | refine Below.setCell ?_ (by first | (simp; done) | (simp; omega)) _ | refine Below.alloc ?_ (by first | (simp; done) | (simp; omega) | omega) _ | refine Below.drew ?_ | refine Below.trans ?_ (Below.mono (by assumption) (by first | (simp; done) | (simp; omega) | omega))))⟩
set_option maxRecDepth 100000 in
set_option maxHeartbeats 3200000 in
theorem mo_g (day later k : Int) (t2 : Int × Int) (w : World) (hE : Env w) (hs2 : MonS later k t2) (y m d a y' m' d' : Int) (hc : Dt.IsCiv day y m d) (q1 : 1990 ≤ y) (q2 : y ≤ 2189) (_q3 : 1 ≤ m) (_q4 : m ≤ 12) (_q5 : 1 ≤ d) (hs1 : MonS day k (a, 0)) (k1 : -2400 ≤ k) (k2 : k ≤ 2400) (hr0 : 23880 ≤ y * 12 + m - 1 + k) (hr : y * 12 + m - 1 + k < 26280) (hc2 : Dt.IsCiv a y' m' d') (p1 : 1990 ≤ y') (p2 : y' ≤ 2189) (_p3 : 1 ≤ m') (_p4 : m' ≤ 12) (_p5 : 1 ≤ d') (hat : y' * 12 + m' - 1 = y * 12 + m - 1 + k) (hf : t2.2 ≠ 0 ∨ (t2.2 = 0 ∧ later < day) ∨ (t2.2 = 0 ∧ day ≤ later ∧ a ≤ t2.1)) (y3 m3 : Int) (hc3 : Dt.IsCiv (a + 1) y3 m3 1) (a0 : 0 ≤ a) (a1 : a < 73048) (hlt : d' < d) (h28 : 28 < d) :
    Calls Tryd.prog 5 #[.int .i64 day, .int .i64 later, .int .i64 k] w fun e w' => e = .returned (.bool true) ∧ Below w.heap.size w w' := by
  have HE := Lib.hid hE
  have HS2 := Lib.hid hs2
  have HS1 := Lib.hid hs1
  have HC := Lib.hid hc
  have HC2 := Lib.hid hc2
  have HC3 := Lib.hid hc3
  have HAT := Lib.hid hat
  have HF := Lib.hid hf
  clear hE hs2 hs1 hc hc2 hc3 hat hf
  go_enter Tryd.func5, Tryd.ntmps5
  go_wp2_with fail
  refine (head_any _ HE.out).mono ?_
  rintro e w1 ⟨rfl, hb1⟩
  have hz1 := hb1.size
  (try simp at hz1)
  have be1 : Below w.heap.size w w1 := (by repeat (first | exact Below.refl _ _ | assumption | refine below_drewN ?_ _ | refine Below.setCell ?_ (by first | (simp; done) | (simp; omega)) _ | refine Below.alloc ?_ (by first | (simp; done) | (simp; omega) | omega) _ | refine Below.drew ?_ | refine Below.trans ?_ (Below.mono (by assumption) (by first | (simp; done) | (simp; omega) | omega))))
  clear hb1
  go_wp2_with fail
  refine (HS1.out _ (HE.out.below (by repeat (first | exact Below.refl _ _ | assumption | refine below_drewN ?_ _ | refine Below.setCell ?_ (by first | (simp; done) | (simp; omega)) _ | refine Below.alloc ?_ (by first | (simp; done) | (simp; omega) | omega) _ | refine Below.drew ?_ | refine Below.trans ?_ (Below.mono (by assumption) (by first | (simp; done) | (simp; omega) | omega)))))).mono ?_
  rintro e w2 ⟨rfl, hb2⟩
  have hz2 := hb2.size
  (try simp at hz2)
  have bb2 : Below w1.heap.size w1 w2 := (by repeat (first | exact Below.refl _ _ | assumption | refine below_drewN ?_ _ | refine Below.setCell ?_ (by first | (simp; done) | (simp; omega)) _ | refine Below.alloc ?_ (by first | (simp; done) | (simp; omega) | omega) _ | refine Below.drew ?_ | refine Below.trans ?_ (Below.mono (by assumption) (by first | (simp; done) | (simp; omega) | omega))))
  have be2 : Below w.heap.size w w2 := be1.trans (bb2.mono (by omega))
  clear hb2 be1 bb2
  simp only [IV]
  go_wp2_with fail
  refine (HS2.out _ (HE.out.below (by repeat (first | exact Below.refl _ _ | assumption | refine below_drewN ?_ _ | refine Below.setCell ?_ (by first | (simp; done) | (simp; omega)) _ | refine Below.alloc ?_ (by first | (simp; done) | (simp; omega) | omega) _ | refine Below.drew ?_ | refine Below.trans ?_ (Below.mono (by assumption) (by first | (simp; done) | (simp; omega) | omega)))))).mono ?_
  rintro e w3 ⟨rfl, hb3⟩
  have hz3 := hb3.size
  (try simp at hz3)
  have bb3 : Below w2.heap.size w2 w3 := (by repeat (first | exact Below.refl _ _ | assumption | refine below_drewN ?_ _ | refine Below.setCell ?_ (by first | (simp; done) | (simp; omega)) _ | refine Below.alloc ?_ (by first | (simp; done) | (simp; omega) | omega) _ | refine Below.drew ?_ | refine Below.trans ?_ (Below.mono (by assumption) (by first | (simp; done) | (simp; omega) | omega))))
  have be3 : Below w.heap.size w w3 := be2.trans (bb3.mono (by omega))
  clear hb3 be2 bb3
  simp only [IV]
  go_wp2_with fail
  refine (civil_in day y m d _ HC.out (HE.out.below (by repeat (first | exact Below.refl _ _ | assumption | refine below_drewN ?_ _ | refine Below.setCell ?_ (by first | (simp; done) | (simp; omega)) _ | refine Below.alloc ?_ (by first | (simp; done) | (simp; omega) | omega) _ | refine Below.drew ?_ | refine Below.trans ?_ (Below.mono (by assumption) (by first | (simp; done) | (simp; omega) | omega)))))).mono ?_
  rintro e w4 ⟨rfl, hb4⟩
  have hz4 := hb4.size
  (try simp at hz4)
  have bb4 : Below w3.heap.size w3 w4 := (by repeat (first | exact Below.refl _ _ | assumption | refine below_drewN ?_ _ | refine Below.setCell ?_ (by first | (simp; done) | (simp; omega)) _ | refine Below.alloc ?_ (by first | (simp; done) | (simp; omega) | omega) _ | refine Below.drew ?_ | refine Below.trans ?_ (Below.mono (by assumption) (by first | (simp; done) | (simp; omega) | omega))))
  have be4 : Below w.heap.size w w4 := be3.trans (bb4.mono (by omega))
  clear hb4 be3 bb4
  simp only [CV]
  go_wp2_with fail
  refine (civil_in a y' m' d' _ HC2.out (HE.out.below (by repeat (first | exact Below.refl _ _ | assumption | refine below_drewN ?_ _ | refine Below.setCell ?_ (by first | (simp; done) | (simp; omega)) _ | refine Below.alloc ?_ (by first | (simp; done) | (simp; omega) | omega) _ | refine Below.drew ?_ | refine Below.trans ?_ (Below.mono (by assumption) (by first | (simp; done) | (simp; omega) | omega)))))).mono ?_
  rintro e w5 ⟨rfl, hb5⟩
  have hz5 := hb5.size
  (try simp at hz5)
  have bb5 : Below w4.heap.size w4 w5 := (by repeat (first | exact Below.refl _ _ | assumption | refine below_drewN ?_ _ | refine Below.setCell ?_ (by first | (simp; done) | (simp; omega)) _ | refine Below.alloc ?_ (by first | (simp; done) | (simp; omega) | omega) _ | refine Below.drew ?_ | refine Below.trans ?_ (Below.mono (by assumption) (by first | (simp; done) | (simp; omega) | omega))))
  have be5 : Below w.heap.size w w5 := be4.trans (bb5.mono (by omega))
  have c5_c_0 : w5.cell? ⟨w4.heap.size, 0, none⟩ = some (.int .i64 y) := cell_keep hb5 (by go_simp)
  have c5_c_1 : w5.cell? ⟨w4.heap.size, 1, none⟩ = some (.int .i64 m) := cell_keep hb5 (by go_simp)
  have c5_c_2 : w5.cell? ⟨w4.heap.size, 2, none⟩ = some (.int .i64 d) := cell_keep hb5 (by go_simp)
  have l5_c : w4.heap.size < w5.heap.size := by omega
  clear hb5 be4 bb5
  simp only [CV]
  have hat := HAT.out
  have hb1 : (y * 12 + m - 1 + k == y * 12 + m - 1 + k) = true := beq_self_eq_true _
  go_wp2_with fail
  refine (civil_in (a + 1) y3 m3 1 _ HC3.out (HE.out.below (by repeat (first | exact Below.refl _ _ | assumption | refine below_drewN ?_ _ | refine Below.setCell ?_ (by first | (simp; done) | (simp; omega)) _ | refine Below.alloc ?_ (by first | (simp; done) | (simp; omega) | omega) _ | refine Below.drew ?_ | refine Below.trans ?_ (Below.mono (by assumption) (by first | (simp; done) | (simp; omega) | omega)))))).mono ?_
  rintro e w6 ⟨rfl, hb6⟩
  have hz6 := hb6.size
  (try simp at hz6)
  have bb6 : Below w5.heap.size w5 w6 := (by repeat (first | exact Below.refl _ _ | assumption | refine below_drewN ?_ _ | refine Below.setCell ?_ (by first | (simp; done) | (simp; omega)) _ | refine Below.alloc ?_ (by first | (simp; done) | (simp; omega) | omega) _ | refine Below.drew ?_ | refine Below.trans ?_ (Below.mono (by assumption) (by first | (simp; done) | (simp; omega) | omega))))
  have be6 : Below w.heap.size w w6 := be5.trans (bb6.mono (by omega))
  have c6_c_0 : w6.cell? ⟨w4.heap.size, 0, none⟩ = some (.int .i64 y) := cell_keep bb6 c5_c_0
  have c6_c_1 : w6.cell? ⟨w4.heap.size, 1, none⟩ = some (.int .i64 m) := cell_keep bb6 c5_c_1
  have c6_c_2 : w6.cell? ⟨w4.heap.size, 2, none⟩ = some (.int .i64 d) := cell_keep bb6 c5_c_2
  have l6_c : w4.heap.size < w6.heap.size := by omega
  have c6_b_0 : w6.cell? ⟨w5.heap.size, 0, none⟩ = some (.int .i64 (y')) := cell_keep hb6 (by go_simp)
  have c6_b_1 : w6.cell? ⟨w5.heap.size, 1, none⟩ = some (.int .i64 (m')) := cell_keep hb6 (by go_simp)
  have c6_b_2 : w6.cell? ⟨w5.heap.size, 2, none⟩ = some (.int .i64 (d')) := cell_keep hb6 (by go_simp)
  have l6_b : w5.heap.size < w6.heap.size := by omega
  clear hb6 be5 bb6 c5_c_0 c5_c_1 c5_c_2 l5_c
  simp only [CV]
  clear hat hb1
  rcases HF.out with hf | ⟨hf, hf2⟩ | ⟨hf, hf2, hf3⟩
  · have hf4 : (t2.2 == 0) = false := by simp [hf]
    have hf5 : (t2.2 != 0) = true := by simp [hf]
    go_wp2
    go_ret
    exact ⟨by first | rfl | exact ret_bool (by simp; omega), (by repeat (first | exact Below.refl _ _ | assumption | refine below_drewN ?_ _ | refine Below.setCell ?_ (by first | (simp; done) | (simp; omega)) _ | refine Below.alloc ?_ (by first | (simp; done) | (simp; omega) | omega) _ | refine Below.drew ?_ | refine Below.trans ?_ (Below.mono (by assumption) (by first | (simp; done) | (simp; omega) | omega))))⟩
  · have hf4 : (t2.2 == 0) = true := by simp [hf]
    have hf5 : t2.2 = 0 := hf
    clear hf
    go_wp2
    go_ret
    exact ⟨by first | rfl | exact ret_bool (by simp; omega), (by repeat (first | exact Below.refl _ _ | assumption | refine below_drewN ?_ _ | refine Below.setCell ?_ (by first | (simp; done) | (simp; omega)) _ | refine Below.alloc ?_ (by first | (simp; done) | (simp; omega) | omega) _ | refine Below.drew ?_ | refine Below.trans ?_ (Below.mono (by assumption) (by first | (simp; done) | (simp; omega) | omega))))⟩
  · have hf4 : (t2.2 == 0) = true := by simp [hf]
    have hf5 : t2.2 = 0 := hf
    clear hf
    go_wp2
    go_ret
    exact ⟨by first | rfl | exact ret_bool (by simp; omega), (by repeat (first | exact Below.refl _ _ | assumption | refine below_drewN ?_ _ | refine Below.setCell ?_ (by first | (simp; done) | (simp; omega)) _ | refine Below.alloc ?_ (by first | (simp; done) | (simp; omega) | omega) _ | refine Below.drew ?_ | refine Below.trans ?_ (Below.mono (by assumption) (by first | (simp; done) | (simp; omega) | omega))))⟩
set_option maxRecDepth 100000 in
set_option maxHeartbeats 3200000 in
theorem mo_h (day later k : Int) (t2 : Int × Int) (w : World) (hE : Env w) (hs2 : MonS later k t2) (y m d a y' m' d' : Int) (hc : Dt.IsCiv day y m d) (q1 : 1990 ≤ y) (q2 : y ≤ 2189) (_q3 : 1 ≤ m) (_q4 : m ≤ 12) (_q5 : 1 ≤ d) (hs1 : MonS day k (a, 0)) (k1 : -2400 ≤ k) (k2 : k ≤ 2400) (hr0 : 23880 ≤ y * 12 + m - 1 + k) (hr : y * 12 + m - 1 + k < 26280) (hc2 : Dt.IsCiv a y' m' d') (p1 : 1990 ≤ y') (p2 : y' ≤ 2189) (_p3 : 1 ≤ m') (_p4 : m' ≤ 12) (_p5 : 1 ≤ d') (hat : y' * 12 + m' - 1 = y * 12 + m - 1 + k) (hf : t2.2 ≠ 0 ∨ (t2.2 = 0 ∧ later < day) ∨ (t2.2 = 0 ∧ day ≤ later ∧ a ≤ t2.1)) (ho : ¬ (0 ≤ a + 1 ∧ a + 1 ≤ 73048)) (_a0 : 0 ≤ a) (a1 : 73048 ≤ a) (a2 : a ≤ 73048) (hlt : d' < d) (h28 : 28 < d) :
    Calls Tryd.prog 5 #[.int .i64 day, .int .i64 later, .int .i64 k] w fun e w' => e = .returned (.bool true) ∧ Below w.heap.size w w' := by
  have HE := Lib.hid hE
  have HS2 := Lib.hid hs2
  have HS1 := Lib.hid hs1
  have HC := Lib.hid hc
  have HC2 := Lib.hid hc2
  have HO := Lib.hid ho
  have HAT := Lib.hid hat
  have HF := Lib.hid hf
  clear hE hs2 hs1 hc hc2 ho hat hf
  go_enter Tryd.func5, Tryd.ntmps5
  go_wp2_with fail
  refine (head_any _ HE.out).mono ?_
  rintro e w1 ⟨rfl, hb1⟩
  have hz1 := hb1.size
  (try simp at hz1)
  have be1 : Below w.heap.size w w1 := (by repeat (first | exact Below.refl _ _ | assumption | refine below_drewN ?_ _ | refine Below.setCell ?_ (by first | (simp; done) | (simp; omega)) _ | refine Below.alloc ?_ (by first | (simp; done) | (simp; omega) | omega) _ | refine Below.drew ?_ | refine Below.trans ?_ (Below.mono (by assumption) (by first | (simp; done) | (simp; omega) | omega))))
  clear hb1
  go_wp2_with fail
  refine (HS1.out _ (HE.out.below (by repeat (first | exact Below.refl _ _ | assumption | refine below_drewN ?_ _ | refine Below.setCell ?_ (by first | (simp; done) | (simp; omega)) _ | refine Below.alloc ?_ (by first | (simp; done) | (simp; omega) | omega) _ | refine Below.drew ?_ | refine Below.trans ?_ (Below.mono (by assumption) (by first | (simp; done) | (simp; omega) | omega)))))).mono ?_
  rintro e w2 ⟨rfl, hb2⟩
  have hz2 := hb2.size
  (try simp at hz2)
  have bb2 : Below w1.heap.size w1 w2 := (by repeat (first | exact Below.refl _ _ | assumption | refine below_drewN ?_ _ | refine Below.setCell ?_ (by first | (simp; done) | (simp; omega)) _ | refine Below.alloc ?_ (by first | (simp; done) | (simp; omega) | omega) _ | refine Below.drew ?_ | refine Below.trans ?_ (Below.mono (by assumption) (by first | (simp; done) | (simp; omega) | omega))))
  have be2 : Below w.heap.size w w2 := be1.trans (bb2.mono (by omega))
  clear hb2 be1 bb2
  simp only [IV]
  go_wp2_with fail
  refine (HS2.out _ (HE.out.below (by repeat (first | exact Below.refl _ _ | assumption | refine below_drewN ?_ _ | refine Below.setCell ?_ (by first | (simp; done) | (simp; omega)) _ | refine Below.alloc ?_ (by first | (simp; done) | (simp; omega) | omega) _ | refine Below.drew ?_ | refine Below.trans ?_ (Below.mono (by assumption) (by first | (simp; done) | (simp; omega) | omega)))))).mono ?_
  rintro e w3 ⟨rfl, hb3⟩
  have hz3 := hb3.size
  (try simp at hz3)
  have bb3 : Below w2.heap.size w2 w3 := (by repeat (first | exact Below.refl _ _ | assumption | refine below_drewN ?_ _ | refine Below.setCell ?_ (by first | (simp; done) | (simp; omega)) _ | refine Below.alloc ?_ (by first | (simp; done) | (simp; omega) | omega) _ | refine Below.drew ?_ | refine Below.trans ?_ (Below.mono (by assumption) (by first | (simp; done) | (simp; omega) | omega))))
  have be3 : Below w.heap.size w w3 := be2.trans (bb3.mono (by omega))
  clear hb3 be2 bb3
  simp only [IV]
  go_wp2_with fail
  refine (civil_in day y m d _ HC.out (HE.out.below (by repeat (first | exact Below.refl _ _ | assumption | refine below_drewN ?_ _ | refine Below.setCell ?_ (by first | (simp; done) | (simp; omega)) _ | refine Below.alloc ?_ (by first | (simp; done) | (simp; omega) | omega) _ | refine Below.drew ?_ | refine Below.trans ?_ (Below.mono (by assumption) (by first | (simp; done) | (simp; omega) | omega)))))).mono ?_
  rintro e w4 ⟨rfl, hb4⟩
  have hz4 := hb4.size
  (try simp at hz4)
  have bb4 : Below w3.heap.size w3 w4 := (by repeat (first | exact Below.refl _ _ | assumption | refine below_drewN ?_ _ | refine Below.setCell ?_ (by first | (simp; done) | (simp; omega)) _ | refine Below.alloc ?_ (by first | (simp; done) | (simp; omega) | omega) _ | refine Below.drew ?_ | refine Below.trans ?_ (Below.mono (by assumption) (by first | (simp; done) | (simp; omega) | omega))))
  have be4 : Below w.heap.size w w4 := be3.trans (bb4.mono (by omega))
  clear hb4 be3 bb4
  simp only [CV]
  go_wp2_with fail
  refine (civil_in a y' m' d' _ HC2.out (HE.out.below (by repeat (first | exact Below.refl _ _ | assumption | refine below_drewN ?_ _ | refine Below.setCell ?_ (by first | (simp; done) | (simp; omega)) _ | refine Below.alloc ?_ (by first | (simp; done) | (simp; omega) | omega) _ | refine Below.drew ?_ | refine Below.trans ?_ (Below.mono (by assumption) (by first | (simp; done) | (simp; omega) | omega)))))).mono ?_
  rintro e w5 ⟨rfl, hb5⟩
  have hz5 := hb5.size
  (try simp at hz5)
  have bb5 : Below w4.heap.size w4 w5 := (by repeat (first | exact Below.refl _ _ | assumption | refine below_drewN ?_ _ | refine Below.setCell ?_ (by first | (simp; done) | (simp; omega)) _ | refine Below.alloc ?_ (by first | (simp; done) | (simp; omega) | omega) _ | refine Below.drew ?_ | refine Below.trans ?_ (Below.mono (by assumption) (by first | (simp; done) | (simp; omega) | omega))))
  have be5 : Below w.heap.size w w5 := be4.trans (bb5.mono (by omega))
  have c5_c_0 : w5.cell? ⟨w4.heap.size, 0, none⟩ = some (.int .i64 y) := cell_keep hb5 (by go_simp)
  have c5_c_1 : w5.cell? ⟨w4.heap.size, 1, none⟩ = some (.int .i64 m) := cell_keep hb5 (by go_simp)
  have c5_c_2 : w5.cell? ⟨w4.heap.size, 2, none⟩ = some (.int .i64 d) := cell_keep hb5 (by go_simp)
  have l5_c : w4.heap.size < w5.heap.size := by omega
  clear hb5 be4 bb5
  simp only [CV]
  have hat := HAT.out
  have hb1 : (y * 12 + m - 1 + k == y * 12 + m - 1 + k) = true := beq_self_eq_true _
  go_wp2_with fail
  refine (civil_out (a + 1) _ HO.out).mono ?_
  rintro e w6 ⟨rfl, hb6⟩
  have hz6 := hb6.size
  (try simp at hz6)
  have bb6 : Below w5.heap.size w5 w6 := (by repeat (first | exact Below.refl _ _ | assumption | refine below_drewN ?_ _ | refine Below.setCell ?_ (by first | (simp; done) | (simp; omega)) _ | refine Below.alloc ?_ (by first | (simp; done) | (simp; omega) | omega) _ | refine Below.drew ?_ | refine Below.trans ?_ (Below.mono (by assumption) (by first | (simp; done) | (simp; omega) | omega))))
  have be6 : Below w.heap.size w w6 := be5.trans (bb6.mono (by omega))
  have c6_c_0 : w6.cell? ⟨w4.heap.size, 0, none⟩ = some (.int .i64 y) := cell_keep bb6 c5_c_0
  have c6_c_1 : w6.cell? ⟨w4.heap.size, 1, none⟩ = some (.int .i64 m) := cell_keep bb6 c5_c_1
  have c6_c_2 : w6.cell? ⟨w4.heap.size, 2, none⟩ = some (.int .i64 d) := cell_keep bb6 c5_c_2
  have l6_c : w4.heap.size < w6.heap.size := by omega
  have c6_b_0 : w6.cell? ⟨w5.heap.size, 0, none⟩ = some (.int .i64 (y')) := cell_keep hb6 (by go_simp)
  have c6_b_1 : w6.cell? ⟨w5.heap.size, 1, none⟩ = some (.int .i64 (m')) := cell_keep hb6 (by go_simp)
  have c6_b_2 : w6.cell? ⟨w5.heap.size, 2, none⟩ = some (.int .i64 (d')) := cell_keep hb6 (by go_simp)
  have l6_b : w5.heap.size < w6.heap.size := by omega
  clear hb6 be5 bb6 c5_c_0 c5_c_1 c5_c_2 l5_c
  simp only [CV]
  clear hat hb1
  rcases HF.out with hf | ⟨hf, hf2⟩ | ⟨hf, hf2, hf3⟩
  · have hf4 : (t2.2 == 0) = false := by simp [hf]
    have hf5 : (t2.2 != 0) = true := by simp [hf]
    go_wp2
    go_ret
    exact ⟨by first | rfl | exact ret_bool (by simp; omega), (by repeat (first | exact Below.refl _ _ | assumption | refine below_drewN ?_ _ | refine Below.setCell ?_ (by first | (simp; done) | (simp; omega)) _ | refine Below.alloc ?_ (by first | (simp; done) | (simp; omega) | omega) _ | refine Below.drew ?_ | refine Below.trans ?_ (Below.mono (by assumption) (by first | (simp; done) | (simp; omega) | omega))))⟩
  · have hf4 : (t2.2 == 0) = true := by simp [hf]
    have hf5 : t2.2 = 0 := hf
    clear hf
    go_wp2
    go_ret
    exact ⟨by first | rfl | exact ret_bool (by simp; omega), (by repeat (first | exact Below.refl _ _ | assumption | refine below_drewN ?_ _ | refine Below.setCell ?_ (by first | (simp; done) | (simp; omega)) _ | refine Below.alloc ?_ (by first | (simp; done) | (simp; omega) | omega) _ | refine Below.drew ?_ | refine Below.trans ?_ (Below.mono (by assumption) (by first | (simp; done) | (simp; omega) | omega))))⟩
  · have hf4 : (t2.2 == 0) = true := by simp [hf]
    have hf5 : t2.2 = 0 := hf
    clear hf
    go_wp2
    go_ret
    exact ⟨by first | rfl | exact ret_bool (by simp; omega), (by repeat (first | exact Below.refl _ _ | assumption | refine below_drewN ?_ _ | refine Below.setCell ?_ (by first | (simp; done) | (simp; omega)) _ | refine Below.alloc ?_ (by first | (simp; done) | (simp; omega) | omega) _ | refine Below.drew ?_ | refine Below.trans ?_ (Below.mono (by assumption) (by first | (simp; done) | (simp; omega) | omega))))⟩
set_option maxRecDepth 100000 in
set_option maxHeartbeats 3200000 in
theorem mo_i (day later k : Int) (t2 : Int × Int) (w : World) (hE : Env w) (hs2 : MonS later k t2) (y m d a y' m' d' : Int) (hc : Dt.IsCiv day y m d) (q1 : 1990 ≤ y) (q2 : y ≤ 2189) (_q3 : 1 ≤ m) (_q4 : m ≤ 12) (_q5 : 1 ≤ d) (hs1 : MonS day k (a, 0)) (k1 : -2400 ≤ k) (k2 : k ≤ 2400) (hr0 : 23880 ≤ y * 12 + m - 1 + k) (hr : y * 12 + m - 1 + k < 26280) (hc2 : Dt.IsCiv a y' m' d') (p1 : 1990 ≤ y') (p2 : y' ≤ 2189) (p3 : 1 ≤ m') (p4 : m' ≤ 12) (_p5 : 1 ≤ d') (hat : y' * 12 + m' - 1 = y * 12 + m - 1 + k) (hf : t2.2 ≠ 0 ∨ (t2.2 = 0 ∧ later < day) ∨ (t2.2 = 0 ∧ day ≤ later ∧ a ≤ t2.1)) (hge : d ≤ d') (hle : d' ≤ d) (h28 : 28 < d) :
    Calls Tryd.prog 5 #[.int .i64 day, .int .i64 later, .int .i64 k] w fun e w' => e = .returned (.bool true) ∧ Below w.heap.size w w' := by
  have HE := Lib.hid hE
  have HS2 := Lib.hid hs2
  have HS1 := Lib.hid hs1
  have HC := Lib.hid hc
  have HC2 := Lib.hid hc2
  have HAT := Lib.hid hat
  have HF := Lib.hid hf
  clear hE hs2 hs1 hc hc2 hat hf
  go_enter Tryd.func5, Tryd.ntmps5
  go_wp2_with fail
  refine (head_any _ HE.out).mono ?_
  rintro e w1 ⟨rfl, hb1⟩
  have hz1 := hb1.size
  (try simp at hz1)
  have be1 : Below w.heap.size w w1 := (by repeat (first | exact Below.refl _ _ | assumption | refine below_drewN ?_ _ | refine Below.setCell ?_ (by first | (simp; done) | (simp; omega)) _ | refine Below.alloc ?_ (by first | (simp; done) | (simp; omega) | omega) _ | refine Below.drew ?_ | refine Below.trans ?_ (Below.mono (by assumption) (by first | (simp; done) | (simp; omega) | omega))))
  clear hb1
  go_wp2_with fail
  refine (HS1.out _ (HE.out.below (by repeat (first | exact Below.refl _ _ | assumption | refine below_drewN ?_ _ | refine Below.setCell ?_ (by first | (simp; done) | (simp; omega)) _ | refine Below.alloc ?_ (by first | (simp; done) | (simp; omega) | omega) _ | refine Below.drew ?_ | refine Below.trans ?_ (Below.mono (by assumption) (by first | (simp; done) | (simp; omega) | omega)))))).mono ?_
  rintro e w2 ⟨rfl, hb2⟩
  have hz2 := hb2.size
  (try simp at hz2)
  have bb2 : Below w1.heap.size w1 w2 := (by repeat (first | exact Below.refl _ _ | assumption | refine below_drewN ?_ _ | refine Below.setCell ?_ (by first | (simp; done) | (simp; omega)) _ | refine Below.alloc ?_ (by first | (simp; done) | (simp; omega) | omega) _ | refine Below.drew ?_ | refine Below.trans ?_ (Below.mono (by assumption) (by first | (simp; done) | (simp; omega) | omega))))
  have be2 : Below w.heap.size w w2 := be1.trans (bb2.mono (by omega))
  clear hb2 be1 bb2
  simp only [IV]
  go_wp2_with fail
  refine (HS2.out _ (HE.out.below (by repeat (first | exact Below.refl _ _ | assumption | refine below_drewN ?_ _ | refine Below.setCell ?_ (by first | (simp; done) | (simp; omega)) _ | refine Below.alloc ?_ (by first | (simp; done) | (simp; omega) | omega) _ | refine Below.drew ?_ | refine Below.trans ?_ (Below.mono (by assumption) (by first | (simp; done) | (simp; omega) | omega)))))).mono ?_
  rintro e w3 ⟨rfl, hb3⟩
  have hz3 := hb3.size
  (try simp at hz3)
  have bb3 : Below w2.heap.size w2 w3 := (by repeat (first | exact Below.refl _ _ | assumption | refine below_drewN ?_ _ | refine Below.setCell ?_ (by first | (simp; done) | (simp; omega)) _ | refine Below.alloc ?_ (by first | (simp; done) | (simp; omega) | omega) _ | refine Below.drew ?_ | refine Below.trans ?_ (Below.mono (by assumption) (by first | (simp; done) | (simp; omega) | omega))))
  have be3 : Below w.heap.size w w3 := be2.trans (bb3.mono (by omega))
  clear hb3 be2 bb3
  simp only [IV]
  go_wp2_with fail
  refine (civil_in day y m d _ HC.out (HE.out.below (by repeat (first | exact Below.refl _ _ | assumption | refine below_drewN ?_ _ | refine Below.setCell ?_ (by first | (simp; done) | (simp; omega)) _ | refine Below.alloc ?_ (by first | (simp; done) | (simp; omega) | omega) _ | refine Below.drew ?_ | refine Below.trans ?_ (Below.mono (by assumption) (by first | (simp; done) | (simp; omega) | omega)))))).mono ?_
  rintro e w4 ⟨rfl, hb4⟩
  have hz4 := hb4.size
  (try simp at hz4)
  have bb4 : Below w3.heap.size w3 w4 := (by repeat (first | exact Below.refl _ _ | assumption | refine below_drewN ?_ _ | refine Below.setCell ?_ (by first | (simp; done) | (simp; omega)) _ | refine Below.alloc ?_ (by first | (simp; done) | (simp; omega) | omega) _ | refine Below.drew ?_ | refine Below.trans ?_ (Below.mono (by assumption) (by first | (simp; done) | (simp; omega) | omega))))
  have be4 : Below w.heap.size w w4 := be3.trans (bb4.mono (by omega))
  clear hb4 be3 bb4
  simp only [CV]
  go_wp2_with fail
  refine (civil_in a y' m' d' _ HC2.out (HE.out.below (by repeat (first | exact Below.refl _ _ | assumption | refine below_drewN ?_ _ | refine Below.setCell ?_ (by first | (simp; done) | (simp; omega)) _ | refine Below.alloc ?_ (by first | (simp; done) | (simp; omega) | omega) _ | refine Below.drew ?_ | refine Below.trans ?_ (Below.mono (by assumption) (by first | (simp; done) | (simp; omega) | omega)))))).mono ?_
  rintro e w5 ⟨rfl, hb5⟩
  have hz5 := hb5.size
  (try simp at hz5)
  have bb5 : Below w4.heap.size w4 w5 := (by repeat (first | exact Below.refl _ _ | assumption | refine below_drewN ?_ _ | refine Below.setCell ?_ (by first | (simp; done) | (simp; omega)) _ | refine Below.alloc ?_ (by first | (simp; done) | (simp; omega) | omega) _ | refine Below.drew ?_ | refine Below.trans ?_ (Below.mono (by assumption) (by first | (simp; done) | (simp; omega) | omega))))
  have be5 : Below w.heap.size w w5 := be4.trans (bb5.mono (by omega))
  have c5_c_0 : w5.cell? ⟨w4.heap.size, 0, none⟩ = some (.int .i64 y) := cell_keep hb5 (by go_simp)
  have c5_c_1 : w5.cell? ⟨w4.heap.size, 1, none⟩ = some (.int .i64 m) := cell_keep hb5 (by go_simp)
  have c5_c_2 : w5.cell? ⟨w4.heap.size, 2, none⟩ = some (.int .i64 d) := cell_keep hb5 (by go_simp)
  have l5_c : w4.heap.size < w5.heap.size := by omega
  clear hb5 be4 bb5
  simp only [CV]
  have hat := HAT.out
  have hb1 : (y * 12 + m - 1 + k == y * 12 + m - 1 + k) = true := beq_self_eq_true _
  clear hat hb1
  rcases HF.out with hf | ⟨hf, hf2⟩ | ⟨hf, hf2, hf3⟩
  · have hf4 : (t2.2 == 0) = false := by simp [hf]
    have hf5 : (t2.2 != 0) = true := by simp [hf]
    go_wp2
    go_ret
    exact ⟨by first | rfl | exact ret_bool (by simp; omega), (by repeat (first | exact Below.refl _ _ | assumption | refine below_drewN ?_ _ | refine Below.setCell ?_ (by first | (simp; done) | (simp; omega)) _ | refine Below.alloc ?_ (by first | (simp; done) | (simp; omega) | omega) _ | refine Below.drew ?_ | refine Below.trans ?_ (Below.mono (by assumption) (by first | (simp; done) | (simp; omega) | omega))))⟩
  · have hf4 : (t2.2 == 0) = true := by simp [hf]
    have hf5 : t2.2 = 0 := hf
    clear hf
    go_wp2
    go_ret
    exact ⟨by first | rfl | exact ret_bool (by simp; omega), (by repeat (first | exact Below.refl _ _ | assumption | refine below_drewN ?_ _ | refine Below.setCell ?_ (by first | (simp; done) | (simp; omega)) _ | refine Below.alloc ?_ (by first | (simp; done) | (simp; omega) | omega) _ | refine Below.drew ?_ | refine Below.trans ?_ (Below.mono (by assumption) (by first | (simp; done) | (simp; omega) | omega))))⟩
  · have hf4 : (t2.2 == 0) = true := by simp [hf]
    have hf5 : t2.2 = 0 := hf
    clear hf
    go_wp2
    go_ret
    exact ⟨by first | rfl | exact ret_bool (by simp; omega), (by repeat (first | exact Below.refl _ _ | assumption | refine below_drewN ?_ _ | refine Below.setCell ?_ (by first | (simp; done) | (simp; omega)) _ | refine Below.alloc ?_ (by first | (simp; done) | (simp; omega) | omega) _ | refine Below.drew ?_ | refine Below.trans ?_ (Below.mono (by assumption) (by first | (simp; done) | (simp; omega) | omega))))⟩
set_option maxRecDepth 100000 in
set_option maxHeartbeats 3200000 in
theorem mo_j (day later k : Int) (t2 : Int × Int) (w : World) (hE : Env w) (hs2 : MonS later k t2) (y m d a y' m' d' : Int) (hc : Dt.IsCiv day y m d) (q1 : 1990 ≤ y) (q2 : y ≤ 2189) (_q3 : 1 ≤ m) (_q4 : m ≤ 12) (_q5 : 1 ≤ d) (hs1 : MonS day k (a, 0)) (k1 : -2400 ≤ k) (k2 : k ≤ 2400) (hr0 : 23880 ≤ y * 12 + m - 1 + k) (hr : y * 12 + m - 1 + k < 26280) (hc2 : Dt.IsCiv a y' m' d') (p1 : 1990 ≤ y') (p2 : y' ≤ 2189) (_p3 : 1 ≤ m') (_p4 : m' ≤ 12) (p5 : 1 ≤ d') (hat : y' * 12 + m' - 1 = y * 12 + m - 1 + k) (hf : t2.2 ≠ 0 ∨ (t2.2 = 0 ∧ later < day) ∨ (t2.2 = 0 ∧ day ≤ later ∧ a ≤ t2.1)) (hge : d ≤ d') (hle : d' ≤ d) (h28 : d ≤ 28) (hs3 : MonS a (-k) (day, 0)) :
    Calls Tryd.prog 5 #[.int .i64 day, .int .i64 later, .int .i64 k] w fun e w' => e = .returned (.bool true) ∧ Below w.heap.size w w' := by
  have HE := Lib.hid hE
  have HS2 := Lib.hid hs2
  have HS1 := Lib.hid hs1
  have HS3 := Lib.hid hs3
  have HC := Lib.hid hc
  have HC2 := Lib.hid hc2
  have HAT := Lib.hid hat
  have HF := Lib.hid hf
  clear hE hs2 hs1 hs3 hc hc2 hat hf
  go_enter Tryd.func5, Tryd.ntmps5
  go_wp2_with fail
  refine (head_any _ HE.out).mono ?_
  rintro e w1 ⟨rfl, hb1⟩
  have hz1 := hb1.size
  (try simp at hz1)
  have be1 : Below w.heap.size w w1 := (by repeat (first | exact Below.refl _ _ | assumption | refine below_drewN ?_ _ | refine Below.setCell ?_ (by first | (simp; done) | (simp; omega)) _ | refine Below.alloc ?_ (by first | (simp; done) | (simp; omega) | omega) _ | refine Below.drew ?_ | refine Below.trans ?_ (Below.mono (by assumption) (by first | (simp; done) | (simp; omega) | omega))))
  clear hb1
  go_wp2_with fail
  refine (HS1.out _ (HE.out.below (by repeat (first | exact Below.refl _ _ | assumption | refine below_drewN ?_ _ | refine Below.setCell ?_ (by first | (simp; done) | (simp; omega)) _ | refine Below.alloc ?_ (by first | (simp; done) | (simp; omega) | omega) _ | refine Below.drew ?_ | refine Below.trans ?_ (Below.mono (by assumption) (by first | (simp; done) | (simp; omega) | omega)))))).mono ?_
  rintro e w2 ⟨rfl, hb2⟩
  have hz2 := hb2.size
  (try simp at hz2)
  have bb2 : Below w1.heap.size w1 w2 := (by repeat (first | exact Below.refl _ _ | assumption | refine below_drewN ?_ _ | refine Below.setCell ?_ (by first | (simp; done) | (simp; omega)) _ | refine Below.alloc ?_ (by first | (simp; done) | (simp; omega) | omega) _ | refine Below.drew ?_ | refine Below.trans ?_ (Below.mono (by assumption) (by first | (simp; done) | (simp; omega) | omega))))
  have be2 : Below w.heap.size w w2 := be1.trans (bb2.mono (by omega))
  clear hb2 be1 bb2
  simp only [IV]
  go_wp2_with fail
  refine (HS2.out _ (HE.out.below (by repeat (first | exact Below.refl _ _ | assumption | refine below_drewN ?_ _ | refine Below.setCell ?_ (by first | (simp; done) | (simp; omega)) _ | refine Below.alloc ?_ (by first | (simp; done) | (simp; omega) | omega) _ | refine Below.drew ?_ | refine Below.trans ?_ (Below.mono (by assumption) (by first | (simp; done) | (simp; omega) | omega)))))).mono ?_
  rintro e w3 ⟨rfl, hb3⟩
  have hz3 := hb3.size
  (try simp at hz3)
  have bb3 : Below w2.heap.size w2 w3 := (by repeat (first | exact Below.refl _ _ | assumption | refine below_drewN ?_ _ | refine Below.setCell ?_ (by first | (simp; done) | (simp; omega)) _ | refine Below.alloc ?_ (by first | (simp; done) | (simp; omega) | omega) _ | refine Below.drew ?_ | refine Below.trans ?_ (Below.mono (by assumption) (by first | (simp; done) | (simp; omega) | omega))))
  have be3 : Below w.heap.size w w3 := be2.trans (bb3.mono (by omega))
  clear hb3 be2 bb3
  simp only [IV]
  go_wp2_with fail
  refine (civil_in day y m d _ HC.out (HE.out.below (by repeat (first | exact Below.refl _ _ | assumption | refine below_drewN ?_ _ | refine Below.setCell ?_ (by first | (simp; done) | (simp; omega)) _ | refine Below.alloc ?_ (by first | (simp; done) | (simp; omega) | omega) _ | refine Below.drew ?_ | refine Below.trans ?_ (Below.mono (by assumption) (by first | (simp; done) | (simp; omega) | omega)))))).mono ?_
  rintro e w4 ⟨rfl, hb4⟩
  have hz4 := hb4.size
  (try simp at hz4)
  have bb4 : Below w3.heap.size w3 w4 := (by repeat (first | exact Below.refl _ _ | assumption | refine below_drewN ?_ _ | refine Below.setCell ?_ (by first | (simp; done) | (simp; omega)) _ | refine Below.alloc ?_ (by first | (simp; done) | (simp; omega) | omega) _ | refine Below.drew ?_ | refine Below.trans ?_ (Below.mono (by assumption) (by first | (simp; done) | (simp; omega) | omega))))
  have be4 : Below w.heap.size w w4 := be3.trans (bb4.mono (by omega))
  clear hb4 be3 bb4
  simp only [CV]
  go_wp2_with fail
  refine (civil_in a y' m' d' _ HC2.out (HE.out.below (by repeat (first | exact Below.refl _ _ | assumption | refine below_drewN ?_ _ | refine Below.setCell ?_ (by first | (simp; done) | (simp; omega)) _ | refine Below.alloc ?_ (by first | (simp; done) | (simp; omega) | omega) _ | refine Below.drew ?_ | refine Below.trans ?_ (Below.mono (by assumption) (by first | (simp; done) | (simp; omega) | omega)))))).mono ?_
  rintro e w5 ⟨rfl, hb5⟩
  have hz5 := hb5.size
  (try simp at hz5)
  have bb5 : Below w4.heap.size w4 w5 := (by repeat (first | exact Below.refl _ _ | assumption | refine below_drewN ?_ _ | refine Below.setCell ?_ (by first | (simp; done) | (simp; omega)) _ | refine Below.alloc ?_ (by first | (simp; done) | (simp; omega) | omega) _ | refine Below.drew ?_ | refine Below.trans ?_ (Below.mono (by assumption) (by first | (simp; done) | (simp; omega) | omega))))
  have be5 : Below w.heap.size w w5 := be4.trans (bb5.mono (by omega))
  have c5_c_0 : w5.cell? ⟨w4.heap.size, 0, none⟩ = some (.int .i64 y) := cell_keep hb5 (by go_simp)
  have c5_c_1 : w5.cell? ⟨w4.heap.size, 1, none⟩ = some (.int .i64 m) := cell_keep hb5 (by go_simp)
  have c5_c_2 : w5.cell? ⟨w4.heap.size, 2, none⟩ = some (.int .i64 d) := cell_keep hb5 (by go_simp)
  have l5_c : w4.heap.size < w5.heap.size := by omega
  clear hb5 be4 bb5
  simp only [CV]
  have hat := HAT.out
  have hb1 : (y * 12 + m - 1 + k == y * 12 + m - 1 + k) = true := beq_self_eq_true _
  go_wp2_with fail
  refine (HS3.out _ (HE.out.below (by repeat (first | exact Below.refl _ _ | assumption | refine below_drewN ?_ _ | refine Below.setCell ?_ (by first | (simp; done) | (simp; omega)) _ | refine Below.alloc ?_ (by first | (simp; done) | (simp; omega) | omega) _ | refine Below.drew ?_ | refine Below.trans ?_ (Below.mono (by assumption) (by first | (simp; done) | (simp; omega) | omega)))))).mono ?_
  rintro e w6 ⟨rfl, hb6⟩
  have hz6 := hb6.size
  (try simp at hz6)
  have bb6 : Below w5.heap.size w5 w6 := (by repeat (first | exact Below.refl _ _ | assumption | refine below_drewN ?_ _ | refine Below.setCell ?_ (by first | (simp; done) | (simp; omega)) _ | refine Below.alloc ?_ (by first | (simp; done) | (simp; omega) | omega) _ | refine Below.drew ?_ | refine Below.trans ?_ (Below.mono (by assumption) (by first | (simp; done) | (simp; omega) | omega))))
  have be6 : Below w.heap.size w w6 := be5.trans (bb6.mono (by omega))
  have c6_c_0 : w6.cell? ⟨w4.heap.size, 0, none⟩ = some (.int .i64 y) := cell_keep bb6 c5_c_0
  have c6_c_1 : w6.cell? ⟨w4.heap.size, 1, none⟩ = some (.int .i64 m) := cell_keep bb6 c5_c_1
  have c6_c_2 : w6.cell? ⟨w4.heap.size, 2, none⟩ = some (.int .i64 d) := cell_keep bb6 c5_c_2
  have l6_c : w4.heap.size < w6.heap.size := by omega
  have c6_b_0 : w6.cell? ⟨w5.heap.size, 0, none⟩ = some (.int .i64 (y')) := cell_keep hb6 (by go_simp)
  have c6_b_1 : w6.cell? ⟨w5.heap.size, 1, none⟩ = some (.int .i64 (m')) := cell_keep hb6 (by go_simp)
  have c6_b_2 : w6.cell? ⟨w5.heap.size, 2, none⟩ = some (.int .i64 (d')) := cell_keep hb6 (by go_simp)
  have l6_b : w5.heap.size < w6.heap.size := by omega
  clear hb6 be5 bb6 c5_c_0 c5_c_1 c5_c_2 l5_c
  simp only [IV]
  clear hat hb1
  rcases HF.out with hf | ⟨hf, hf2⟩ | ⟨hf, hf2, hf3⟩
  · have hf4 : (t2.2 == 0) = false := by simp [hf]
    have hf5 : (t2.2 != 0) = true := by simp [hf]
    go_wp2
    go_ret
    exact ⟨by first | rfl | exact ret_bool (by simp; omega), (by repeat (first | exact Below.refl _ _ | assumption | refine below_drewN ?_ _ | refine Below.setCell ?_ (by first | (simp; done) | (simp; omega)) _ | refine Below.alloc ?_ (by first | (simp; done) | (simp; omega) | omega) _ | refine Below.drew ?_ | refine Below.trans ?_ (Below.mono (by assumption) (by first | (simp; done) | (simp; omega) | omega))))⟩
  · have hf4 : (t2.2 == 0) = true := by simp [hf]
    have hf5 : t2.2 = 0 := hf
    clear hf
    go_wp2
    go_ret
    exact ⟨by first | rfl | exact ret_bool (by simp; omega), (by repeat (first | exact Below.refl _ _ | assumption | refine below_drewN ?_ _ | refine Below.setCell ?_ (by first | (simp; done) | (simp; omega)) _ | refine Below.alloc ?_ (by first | (simp; done) | (simp; omega) | omega) _ | refine Below.drew ?_ | refine Below.trans ?_ (Below.mono (by assumption) (by first | (simp; done) | (simp; omega) | omega))))⟩
  · have hf4 : (t2.2 == 0) = true := by simp [hf]
    have hf5 : t2.2 = 0 := hf
    clear hf
    go_wp2
    go_ret
    exact ⟨by first | rfl | exact ret_bool (by simp; omega), (by repeat (first | exact Below.refl _ _ | assumption | refine below_drewN ?_ _ | refine Below.setCell ?_ (by first | (simp; done) | (simp; omega)) _ | refine Below.alloc ?_ (by first | (simp; done) | (simp; omega) | omega) _ | refine Below.drew ?_ | refine Below.trans ?_ (Below.mono (by assumption) (by first | (simp; done) | (simp; omega) | omega))))⟩
theorem months_law (day later k : Int) (w : World) (hE : Env w) :
    Calls Tryd.prog 5 #[.int .i64 day, .int .i64 later, .int .i64 k] w fun e w' => e = .returned (.bool true) ∧ Below w.heap.size w w' := by
  have h1 := mons_ex day k
  have h2 := mons_ex later k
  rcases h1 with ⟨s1, hx⟩ | ⟨y, m, d, hc, k1, k2, s1⟩
  · obtain ⟨t2, s2⟩ : ∃ t2, MonS later k t2 := by
      rcases h2 with ⟨s2, _⟩ | ⟨_, _, _, _, _, _, s2⟩
      · exact ⟨_, s2⟩
      · exact ⟨_, s2⟩
    by_cases a1 : day < 0
    · exact mo_a day later k t2 w hE s2 s1 a1
    · by_cases a2 : 73048 < day
      · exact mo_b day later k t2 w hE s2 s1 (by omega) a2
      · by_cases a3 : k < -2400
        · exact mo_c day later k t2 w hE s2 s1 (by omega) (by omega) a3
        · exact mo_d day later k t2 w hE s2 s1 (by omega) (by omega) (by omega) (by omega)
  · obtain ⟨q1, q2, q3, q4, q5, q6, q7⟩ := id hc
    by_cases r1 : 12 * (y - 1990) + m - 1 + k < 0
    · have e : Dt.mon y m d k = (0, 2) := by unfold Dt.mon; rw [if_pos (.inl r1)]
      rw [e] at s1
      obtain ⟨t2, s2⟩ : ∃ t2, MonS later k t2 := by
        rcases h2 with ⟨s2, _⟩ | ⟨_, _, _, _, _, _, s2⟩
        · exact ⟨_, s2⟩
        · exact ⟨_, s2⟩
      exact mo_e day later k t2 w hE s2 y m d hc q1 q2 q3 q4 q5 s1 k1 k2 (by omega)
    · by_cases r2 : 2400 ≤ 12 * (y - 1990) + m - 1 + k
      · have e : Dt.mon y m d k = (0, 2) := by unfold Dt.mon; rw [if_pos (.inr r2)]
        rw [e] at s1
        obtain ⟨t2, s2⟩ : ∃ t2, MonS later k t2 := by
          rcases h2 with ⟨s2, _⟩ | ⟨_, _, _, _, _, _, s2⟩
          · exact ⟨_, s2⟩
          · exact ⟨_, s2⟩
        exact mo_f day later k t2 w hE s2 y m d hc q1 q2 q3 q4 q5 s1 k1 k2 (by omega) (by omega)
      · obtain ⟨a, y', m', d', hc2, e, e2, l1, l2, l3, l4⟩ := Dt.mon_civ (k := k) hc (by omega) (by omega)
        rw [e] at s1
        have ra := Dt.civ_range hc2
        obtain ⟨p1, p2, p3, p4, p5, p6, p7⟩ := id hc2
        -- the later day's answer
        obtain ⟨t2, s2, hf⟩ : ∃ t2, MonS later k t2 ∧ (t2.2 ≠ 0 ∨ (t2.2 = 0 ∧ later < day) ∨ (t2.2 = 0 ∧ day ≤ later ∧ a ≤ t2.1)) := by
          rcases h2 with ⟨s2, _⟩ | ⟨Y, M, D, hC, _, _, s2⟩
          · exact ⟨_, s2, .inl (by show (1 : Int) ≠ 0; omega)⟩
          · by_cases R : 12 * (Y - 1990) + M - 1 + k < 0 ∨ 2400 ≤ 12 * (Y - 1990) + M - 1 + k
            · have E : Dt.mon Y M D k = (0, 2) := by unfold Dt.mon; rw [if_pos R]
              rw [E] at s2
              exact ⟨_, s2, .inl (by show (2 : Int) ≠ 0; omega)⟩
            · obtain ⟨A, Y', M', D', hC2, E, E2, L1, L2, L3, L4⟩ := Dt.mon_civ (k := k) hC (by omega) (by omega)
              rw [E] at s2
              refine ⟨_, s2, .inr ?_⟩
              by_cases hl : later < day
              · exact .inl ⟨rfl, hl⟩
              · refine .inr ⟨rfl, by omega, ?_⟩
                show a ≤ A
                have o := Dt.civ_lt_or hc hC (by omega)
                refine Dt.civ_le_of hc2 hC2 ?_
                rcases o with o | ⟨o, o2⟩
                · exact .inl (by omega)
                · refine .inr ⟨by omega, ?_⟩
                  obtain ⟨P1, P2, P3, P4, _⟩ := id hC2
                  have ey : y' = Y' := by omega
                  have em : m' = M' := by omega
                  rw [l4, L4, ey, em]
                  omega
        have hat : y' * 12 + m' - 1 = y * 12 + m - 1 + k := by omega
        by_cases hlt : d' < d
        · have h28 : 28 < d := by
            rcases Int.lt_or_le 28 d with h | h
            · exact h
            · have := l3 h; omega
          by_cases am : a < 73048
          · have hx := Dt.civ_next hc2 am
            have el := l2 hlt
            rcases hx with ⟨hx, _⟩ | ⟨_, _, hx⟩ | ⟨_, _, _, hx⟩
            · omega
            · exact mo_g day later k t2 w hE s2 y m d a y' m' d' hc q1 q2 q3 q4 q5 s1 k1 k2 (by omega) (by omega) hc2 p1 p2 p3 p4 p5 hat hf _ _ hx ra.1 am hlt h28
            · exact mo_g day later k t2 w hE s2 y m d a y' m' d' hc q1 q2 q3 q4 q5 s1 k1 k2 (by omega) (by omega) hc2 p1 p2 p3 p4 p5 hat hf _ _ hx ra.1 am hlt h28
          · exact mo_h day later k t2 w hE s2 y m d a y' m' d' hc q1 q2 q3 q4 q5 s1 k1 k2 (by omega) (by omega) hc2 p1 p2 p3 p4 p5 hat hf (by omega) ra.1 (by omega) ra.2 hlt h28
        · have ed : d' = d := by omega
          by_cases h28 : d ≤ 28
          · have s3 : MonS a (-k) (day, 0) := by
              obtain ⟨A, Y', M', D', hC2, E, E2, L1, L2, L3, L4⟩ := Dt.mon_civ (k := -k) hc2 (by omega) (by omega)
              have e1 : D' = d := by have := L3 (by omega); omega
              have e2 : A = day := by
                have o1 := Dt.civ_le_of hC2 hc (.inr ⟨by omega, by omega⟩)
                have o2 := Dt.civ_le_of hc hC2 (.inr ⟨by omega, by omega⟩)
                omega
              intro w hE
              have := months_in a y' m' d' (-k) w hc2 (by omega) (by omega) hE
              rwa [E, e2] at this
            exact mo_j day later k t2 w hE s2 y m d a y' m' d' hc q1 q2 q3 q4 q5 s1 k1 k2 (by omega) (by omega) hc2 p1 p2 p3 p4 p5 hat hf (by omega) (by omega) h28 s3
          · exact mo_i day later k t2 w hE s2 y m d a y' m' d' hc q1 q2 q3 q4 q5 s1 k1 k2 (by omega) (by omega) hc2 p1 p2 p3 p4 p5 hat hf (by omega) (by omega) (by omega)
end Go.Proofs.YtackkeggabgaeaaDoor

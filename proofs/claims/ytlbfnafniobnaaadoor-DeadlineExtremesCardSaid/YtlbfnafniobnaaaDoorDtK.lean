/- The walks of date.Add and Next. -/
import Derived.Test.YtlbfnafniobnaaaDoorDtJ
namespace Go.Proofs.YtlbfnafniobnaaaDoor
open Go.RowKit

set_option maxRecDepth 100000 in
set_option maxHeartbeats 1600000 in
theorem add_more_ok (b0 b1 b2 b3 b4 b5 b6 : Bool) (p : Option Addr) (n cap : Nat) (hs : List Int) (a : Nat) (m : Int) (w : World) (hn : hs.length = n) (hh : Hols w p hs) (hv : VP b0 b1 b2 b3 b4 b5 b6 hs) (ha : a ≤ 73048) (r : Nat) (hm : 0 < m) (hf : m ≤ 73048 - (a : Int)) (hr : Dt.fst (Dt.wk b0 b1 b2 b3 b4 b5 b6) hs (Dt.cnt (Dt.wk b0 b1 b2 b3 b4 b5 b6) hs (a + 1) + m - 1) = r) (hle : r ≤ 73048) :
    Calls Tryd.prog 44 #[.agg #[.bool b0, .bool b1, .bool b2, .bool b3, .bool b4, .bool b5, .bool b6, .slice p n cap], .int .i64 (a : Int), .int .i64 m] w fun e w' => e = .returned (IV ((r : Int), 0)) ∧ Below w.heap.size w w' := by
  have h4 : hs.length ≤ 400 := hv.1
  have ha1 := Dt.cnt_bd hv.2.2 (W := (Dt.wk b0 b1 b2 b3 b4 b5 b6)) a
  have ha2 := Dt.cnt_bd hv.2.2 (W := (Dt.wk b0 b1 b2 b3 b4 b5 b6)) (a + 1)
  have H4 := Lib.hid h4
  have HR := Lib.hid hr
  have hD : 0 ≤ (a : Int) ∧ (a : Int) ≤ 73048 := by omega
  have HD := Lib.hid hD
  have H7 := Lib.hid (box_hol b0 b1 b2 b3 b4 b5 b6 (.slice p n cap) 28 w)
  have HW := Lib.hid (fun (j : Nat) (h : j < 7) => box_wk b0 b1 b2 b3 b4 b5 b6 (.slice p n cap) 28 w j h)
  have HV := Lib.hid hv
  have HH := Lib.hid hh
  have HN := Lib.hid hn
  clear hv hh hn
  clear h4 hr hD
  go_enter Tryd.func44, Tryd.ntmps44
  go_wp2_with fail
  refine (valid_true b0 b1 b2 b3 b4 b5 b6 p n cap hs _ HN.out HV.out (HH.out.below (by repeat (first | exact Below.refl _ _ | assumption | refine below_drewN ?_ _ | refine Below.setCell ?_ (by first | (simp; done) | (simp; omega)) _ | refine Below.alloc ?_ (by first | (simp; done) | (simp; omega) | omega) _ | refine Below.drew ?_ | refine Below.trans ?_ (Below.mono (by assumption) (by first | (simp; done) | (simp; omega) | omega)))))).mono ?_
  rintro e w1 ⟨rfl, hb1⟩
  have hz1 := hb1.size
  simp at hz1
  have be1 : Below w.heap.size w w1 := (by repeat (first | exact Below.refl _ _ | assumption | refine below_drewN ?_ _ | refine Below.setCell ?_ (by first | (simp; done) | (simp; omega)) _ | refine Below.alloc ?_ (by first | (simp; done) | (simp; omega) | omega) _ | refine Below.drew ?_ | refine Below.trans ?_ (Below.mono (by assumption) (by first | (simp; done) | (simp; omega) | omega))))
  have c0 : w1.cell? ⟨w.heap.size, 0, none⟩ = some (.bool b0) := cell_keep hb1 (HW.out 0 (by omega))
  have c1 : w1.cell? ⟨w.heap.size, 1, none⟩ = some (.bool b1) := cell_keep hb1 (HW.out 1 (by omega))
  have c2 : w1.cell? ⟨w.heap.size, 2, none⟩ = some (.bool b2) := cell_keep hb1 (HW.out 2 (by omega))
  have c3 : w1.cell? ⟨w.heap.size, 3, none⟩ = some (.bool b3) := cell_keep hb1 (HW.out 3 (by omega))
  have c4 : w1.cell? ⟨w.heap.size, 4, none⟩ = some (.bool b4) := cell_keep hb1 (HW.out 4 (by omega))
  have c5 : w1.cell? ⟨w.heap.size, 5, none⟩ = some (.bool b5) := cell_keep hb1 (HW.out 5 (by omega))
  have c6 : w1.cell? ⟨w.heap.size, 6, none⟩ = some (.bool b6) := cell_keep hb1 (HW.out 6 (by omega))
  have c7 := cell_keep hb1 H7.out
  go_wp2_with fail
  refine (isDay_any _ _).mono ?_
  rintro e w' ⟨rfl, rfl⟩
  rw [decide_eq_true HD.out]
  go_wp2_with fail
  refine (counter_any b0 b1 b2 b3 b4 b5 b6 p n cap hs _ HN.out (by have := HV.out.1; have := HN.out; omega) HV.out.2.2 (HH.out.below be1)).mono ?_
  rintro e w2 ⟨Bt, Bb, tb, rfl, hC, hb2⟩
  have HC := Lib.hid hC
  clear hC
  have hz2 := hb2.size
  have be2 : Below w.heap.size w w2 := be1.trans (hb2.mono (by omega))
  clear c0 c1 c2 c3 c4 c5 c6 c7
  have hl2 : w.heap.size < w2.heap.size := by omega
  go_wp2_with fail
  refine (count_draws Bt Bb tb n (Dt.wk b0 b1 b2 b3 b4 b5 b6) hs a _ H4.out HV.out.2.2 (by omega) (HC.out.below (by repeat (first | exact Below.refl _ _ | assumption | refine below_drewN ?_ _ | refine Below.setCell ?_ (by first | (simp; done) | (simp; omega)) _ | refine Below.alloc ?_ (by first | (simp; done) | (simp; omega) | omega) _ | refine Below.drew ?_ | refine Below.trans ?_ (Below.mono (by assumption) (by first | (simp; done) | (simp; omega) | omega)))))).mono ?_
  rintro e w' ⟨rfl, q1, rfl⟩
  have e5 : (((a + 1 : Nat)) : Int) = (a : Int) + 1 := by omega
  go_wp2_with fail
  rw [← e5]
  refine (count_draws Bt Bb tb n (Dt.wk b0 b1 b2 b3 b4 b5 b6) hs (a + 1) _ H4.out HV.out.2.2 (by omega) (HC.out.below (by repeat (first | exact Below.refl _ _ | assumption | refine below_drewN ?_ _ | refine Below.setCell ?_ (by first | (simp; done) | (simp; omega)) _ | refine Below.alloc ?_ (by first | (simp; done) | (simp; omega) | omega) _ | refine Below.drew ?_ | refine Below.trans ?_ (Below.mono (by assumption) (by first | (simp; done) | (simp; omega) | omega)))))).mono ?_
  rintro e w' ⟨rfl, q2, rfl⟩
  clear e5
  go_wp2_with fail
  obtain ⟨w4, hw4⟩ : ∃ W4 : World, W4 = (((((w2.alloc (.cells #[.func (.func 79) #[] #[.pointer (some ⟨Bt, 0, none⟩), .pointer (some ⟨Bb, 0, none⟩)]] 101)).drewN q1).alloc (.cells #[.int .i64 (Dt.cnt (Dt.wk b0 b1 b2 b3 b4 b5 b6) hs a)] 3)).drewN q2).setCell ⟨w2.heap.size + 1, 0, none⟩ (.int .i64 (Dt.cnt (Dt.wk b0 b1 b2 b3 b4 b5 b6) hs (a + 1) + m - 1))) := ⟨_, rfl⟩
  have hb4 : Below w2.heap.size w2 w4 := by rw [hw4]; exact (by repeat (first | exact Below.refl _ _ | assumption | refine below_drewN ?_ _ | refine Below.setCell ?_ (by first | (simp; done) | (simp; omega)) _ | refine Below.alloc ?_ (by first | (simp; done) | (simp; omega) | omega) _ | refine Below.drew ?_ | refine Below.trans ?_ (Below.mono (by assumption) (by first | (simp; done) | (simp; omega) | omega))))
  have h8 : w4.cell? ⟨w2.heap.size, 0, none⟩ = some (.func (.func 79) #[] #[.pointer (some ⟨Bt, 0, none⟩), .pointer (some ⟨Bb, 0, none⟩)]) := by rw [hw4]; go_simp
  have h9 : w4.cell? ⟨w2.heap.size + 1, 0, none⟩ = some (.int .i64 (Dt.cnt (Dt.wk b0 b1 b2 b3 b4 b5 b6) hs (a + 1) + m - 1)) := by rw [hw4]; go_simp
  rw [← hw4]
  have be4 : Below w.heap.size w w4 := be2.trans (hb4.mono (by omega))
  clear hw4
  refine (search_fst (w2.heap.size) (w2.heap.size + 1) Bt Bb tb n (Dt.wk b0 b1 b2 b3 b4 b5 b6) hs (Dt.cnt (Dt.wk b0 b1 b2 b3 b4 b5 b6) hs (a + 1) + m - 1) r _ H4.out HV.out.2.2 (HC.out.below hb4) h8 h9 HR.out).mono ?_
  rintro e w' ⟨rfl, q3, rfl⟩
  clear h8 h9
  go_wp2_with fail
  refine (isDay_any _ _).mono ?_
  rintro e w' ⟨rfl, rfl⟩
  rw [decide_eq_true (show 0 ≤ (r : Int) ∧ (r : Int) ≤ 73048 by omega)]
  go_wp2
  go_ret2
  exact ⟨rfl, (by repeat (first | exact Below.refl _ _ | assumption | refine below_drewN ?_ _ | refine Below.setCell ?_ (by first | (simp; done) | (simp; omega)) _ | refine Below.alloc ?_ (by first | (simp; done) | (simp; omega) | omega) _ | refine Below.drew ?_ | refine Below.trans ?_ (Below.mono (by assumption) (by first | (simp; done) | (simp; omega) | omega))))⟩
set_option maxRecDepth 100000 in
set_option maxHeartbeats 1600000 in
theorem add_more_no (b0 b1 b2 b3 b4 b5 b6 : Bool) (p : Option Addr) (n cap : Nat) (hs : List Int) (a : Nat) (m : Int) (w : World) (hn : hs.length = n) (hh : Hols w p hs) (hv : VP b0 b1 b2 b3 b4 b5 b6 hs) (ha : a ≤ 73048) (r : Nat) (hm : 0 < m) (hf : m ≤ 73048 - (a : Int)) (hr : Dt.fst (Dt.wk b0 b1 b2 b3 b4 b5 b6) hs (Dt.cnt (Dt.wk b0 b1 b2 b3 b4 b5 b6) hs (a + 1) + m - 1) = r) (hle : 73048 < r) :
    Calls Tryd.prog 44 #[.agg #[.bool b0, .bool b1, .bool b2, .bool b3, .bool b4, .bool b5, .bool b6, .slice p n cap], .int .i64 (a : Int), .int .i64 m] w fun e w' => e = .returned (IV (0, 2)) ∧ Below w.heap.size w w' := by
  have h4 : hs.length ≤ 400 := hv.1
  have ha1 := Dt.cnt_bd hv.2.2 (W := (Dt.wk b0 b1 b2 b3 b4 b5 b6)) a
  have ha2 := Dt.cnt_bd hv.2.2 (W := (Dt.wk b0 b1 b2 b3 b4 b5 b6)) (a + 1)
  have H4 := Lib.hid h4
  have HR := Lib.hid hr
  have hD : 0 ≤ (a : Int) ∧ (a : Int) ≤ 73048 := by omega
  have HD := Lib.hid hD
  have H7 := Lib.hid (box_hol b0 b1 b2 b3 b4 b5 b6 (.slice p n cap) 28 w)
  have HW := Lib.hid (fun (j : Nat) (h : j < 7) => box_wk b0 b1 b2 b3 b4 b5 b6 (.slice p n cap) 28 w j h)
  have HV := Lib.hid hv
  have HH := Lib.hid hh
  have HN := Lib.hid hn
  clear hv hh hn
  clear h4 hr hD
  go_enter Tryd.func44, Tryd.ntmps44
  go_wp2_with fail
  refine (valid_true b0 b1 b2 b3 b4 b5 b6 p n cap hs _ HN.out HV.out (HH.out.below (by repeat (first | exact Below.refl _ _ | assumption | refine below_drewN ?_ _ | refine Below.setCell ?_ (by first | (simp; done) | (simp; omega)) _ | refine Below.alloc ?_ (by first | (simp; done) | (simp; omega) | omega) _ | refine Below.drew ?_ | refine Below.trans ?_ (Below.mono (by assumption) (by first | (simp; done) | (simp; omega) | omega)))))).mono ?_
  rintro e w1 ⟨rfl, hb1⟩
  have hz1 := hb1.size
  simp at hz1
  have be1 : Below w.heap.size w w1 := (by repeat (first | exact Below.refl _ _ | assumption | refine below_drewN ?_ _ | refine Below.setCell ?_ (by first | (simp; done) | (simp; omega)) _ | refine Below.alloc ?_ (by first | (simp; done) | (simp; omega) | omega) _ | refine Below.drew ?_ | refine Below.trans ?_ (Below.mono (by assumption) (by first | (simp; done) | (simp; omega) | omega))))
  have c0 : w1.cell? ⟨w.heap.size, 0, none⟩ = some (.bool b0) := cell_keep hb1 (HW.out 0 (by omega))
  have c1 : w1.cell? ⟨w.heap.size, 1, none⟩ = some (.bool b1) := cell_keep hb1 (HW.out 1 (by omega))
  have c2 : w1.cell? ⟨w.heap.size, 2, none⟩ = some (.bool b2) := cell_keep hb1 (HW.out 2 (by omega))
  have c3 : w1.cell? ⟨w.heap.size, 3, none⟩ = some (.bool b3) := cell_keep hb1 (HW.out 3 (by omega))
  have c4 : w1.cell? ⟨w.heap.size, 4, none⟩ = some (.bool b4) := cell_keep hb1 (HW.out 4 (by omega))
  have c5 : w1.cell? ⟨w.heap.size, 5, none⟩ = some (.bool b5) := cell_keep hb1 (HW.out 5 (by omega))
  have c6 : w1.cell? ⟨w.heap.size, 6, none⟩ = some (.bool b6) := cell_keep hb1 (HW.out 6 (by omega))
  have c7 := cell_keep hb1 H7.out
  go_wp2_with fail
  refine (isDay_any _ _).mono ?_
  rintro e w' ⟨rfl, rfl⟩
  rw [decide_eq_true HD.out]
  go_wp2_with fail
  refine (counter_any b0 b1 b2 b3 b4 b5 b6 p n cap hs _ HN.out (by have := HV.out.1; have := HN.out; omega) HV.out.2.2 (HH.out.below be1)).mono ?_
  rintro e w2 ⟨Bt, Bb, tb, rfl, hC, hb2⟩
  have HC := Lib.hid hC
  clear hC
  have hz2 := hb2.size
  have be2 : Below w.heap.size w w2 := be1.trans (hb2.mono (by omega))
  clear c0 c1 c2 c3 c4 c5 c6 c7
  have hl2 : w.heap.size < w2.heap.size := by omega
  go_wp2_with fail
  refine (count_draws Bt Bb tb n (Dt.wk b0 b1 b2 b3 b4 b5 b6) hs a _ H4.out HV.out.2.2 (by omega) (HC.out.below (by repeat (first | exact Below.refl _ _ | assumption | refine below_drewN ?_ _ | refine Below.setCell ?_ (by first | (simp; done) | (simp; omega)) _ | refine Below.alloc ?_ (by first | (simp; done) | (simp; omega) | omega) _ | refine Below.drew ?_ | refine Below.trans ?_ (Below.mono (by assumption) (by first | (simp; done) | (simp; omega) | omega)))))).mono ?_
  rintro e w' ⟨rfl, q1, rfl⟩
  have e5 : (((a + 1 : Nat)) : Int) = (a : Int) + 1 := by omega
  go_wp2_with fail
  rw [← e5]
  refine (count_draws Bt Bb tb n (Dt.wk b0 b1 b2 b3 b4 b5 b6) hs (a + 1) _ H4.out HV.out.2.2 (by omega) (HC.out.below (by repeat (first | exact Below.refl _ _ | assumption | refine below_drewN ?_ _ | refine Below.setCell ?_ (by first | (simp; done) | (simp; omega)) _ | refine Below.alloc ?_ (by first | (simp; done) | (simp; omega) | omega) _ | refine Below.drew ?_ | refine Below.trans ?_ (Below.mono (by assumption) (by first | (simp; done) | (simp; omega) | omega)))))).mono ?_
  rintro e w' ⟨rfl, q2, rfl⟩
  clear e5
  go_wp2_with fail
  obtain ⟨w4, hw4⟩ : ∃ W4 : World, W4 = (((((w2.alloc (.cells #[.func (.func 79) #[] #[.pointer (some ⟨Bt, 0, none⟩), .pointer (some ⟨Bb, 0, none⟩)]] 101)).drewN q1).alloc (.cells #[.int .i64 (Dt.cnt (Dt.wk b0 b1 b2 b3 b4 b5 b6) hs a)] 3)).drewN q2).setCell ⟨w2.heap.size + 1, 0, none⟩ (.int .i64 (Dt.cnt (Dt.wk b0 b1 b2 b3 b4 b5 b6) hs (a + 1) + m - 1))) := ⟨_, rfl⟩
  have hb4 : Below w2.heap.size w2 w4 := by rw [hw4]; exact (by repeat (first | exact Below.refl _ _ | assumption | refine below_drewN ?_ _ | refine Below.setCell ?_ (by first | (simp; done) | (simp; omega)) _ | refine Below.alloc ?_ (by first | (simp; done) | (simp; omega) | omega) _ | refine Below.drew ?_ | refine Below.trans ?_ (Below.mono (by assumption) (by first | (simp; done) | (simp; omega) | omega))))
  have h8 : w4.cell? ⟨w2.heap.size, 0, none⟩ = some (.func (.func 79) #[] #[.pointer (some ⟨Bt, 0, none⟩), .pointer (some ⟨Bb, 0, none⟩)]) := by rw [hw4]; go_simp
  have h9 : w4.cell? ⟨w2.heap.size + 1, 0, none⟩ = some (.int .i64 (Dt.cnt (Dt.wk b0 b1 b2 b3 b4 b5 b6) hs (a + 1) + m - 1)) := by rw [hw4]; go_simp
  rw [← hw4]
  have be4 : Below w.heap.size w w4 := be2.trans (hb4.mono (by omega))
  clear hw4
  refine (search_fst (w2.heap.size) (w2.heap.size + 1) Bt Bb tb n (Dt.wk b0 b1 b2 b3 b4 b5 b6) hs (Dt.cnt (Dt.wk b0 b1 b2 b3 b4 b5 b6) hs (a + 1) + m - 1) r _ H4.out HV.out.2.2 (HC.out.below hb4) h8 h9 HR.out).mono ?_
  rintro e w' ⟨rfl, q3, rfl⟩
  clear h8 h9
  go_wp2_with fail
  refine (isDay_any _ _).mono ?_
  rintro e w' ⟨rfl, rfl⟩
  rw [decide_eq_false (show ¬ (0 ≤ (r : Int) ∧ (r : Int) ≤ 73048) by omega)]
  go_wp2
  go_ret2
  exact ⟨rfl, (by repeat (first | exact Below.refl _ _ | assumption | refine below_drewN ?_ _ | refine Below.setCell ?_ (by first | (simp; done) | (simp; omega)) _ | refine Below.alloc ?_ (by first | (simp; done) | (simp; omega) | omega) _ | refine Below.drew ?_ | refine Below.trans ?_ (Below.mono (by assumption) (by first | (simp; done) | (simp; omega) | omega))))⟩

theorem add_valid (b0 b1 b2 b3 b4 b5 b6 : Bool) (p : Option Addr) (n cap : Nat) (hs : List Int) (a : Nat) (m : Int) (w : World) (hn : hs.length = n) (hh : Hols w p hs) (hv : VP b0 b1 b2 b3 b4 b5 b6 hs) (ha : a ≤ 73048) (hm : 0 ≤ m) :
    Calls Tryd.prog 44 #[.agg #[.bool b0, .bool b1, .bool b2, .bool b3, .bool b4, .bool b5, .bool b6, .slice p n cap], .int .i64 (a : Int), .int .i64 m] w fun e w' => e = .returned (IV (Dt.add (Dt.wk b0 b1 b2 b3 b4 b5 b6) hs a m)) ∧ Below w.heap.size w w' := by
  unfold Dt.add
  by_cases hf : m > 73048 - (a : Int)
  · rw [if_pos hf]
    exact add_far b0 b1 b2 b3 b4 b5 b6 p n cap hs a m w hn hh hv (by omega) hm hf
  · rw [if_neg hf]
    unfold Dt.earl
    by_cases h0 : m = 0
    · subst h0
      rw [if_pos rfl]
      by_cases hle : Dt.fst (Dt.wk b0 b1 b2 b3 b4 b5 b6) hs (Dt.cnt (Dt.wk b0 b1 b2 b3 b4 b5 b6) hs a) ≤ 73048
      · rw [if_pos hle]
        exact add_zero_ok b0 b1 b2 b3 b4 b5 b6 p n cap hs a w hn hh hv ha _ rfl hle
      · rw [if_neg hle]
        exact add_zero_no b0 b1 b2 b3 b4 b5 b6 p n cap hs a w hn hh hv ha _ rfl (by omega)
    · rw [if_neg h0]
      by_cases hle : Dt.fst (Dt.wk b0 b1 b2 b3 b4 b5 b6) hs (Dt.cnt (Dt.wk b0 b1 b2 b3 b4 b5 b6) hs (a + 1) + m - 1) ≤ 73048
      · rw [if_pos hle]
        exact add_more_ok b0 b1 b2 b3 b4 b5 b6 p n cap hs a m w hn hh hv ha _ (by omega) (by omega) rfl hle
      · rw [if_neg hle]
        exact add_more_no b0 b1 b2 b3 b4 b5 b6 p n cap hs a m w hn hh hv ha _ (by omega) (by omega) rfl (by omega)
/-- Add's errors of the arguments -/
theorem add_arg (b0 b1 b2 b3 b4 b5 b6 : Bool) (p : Option Addr) (n cap : Nat) (hs : List Int) (a m : Int) (w : World) (hn : hs.length = n) (hh : Hols w p hs) (hx : ¬ (VP b0 b1 b2 b3 b4 b5 b6 hs ∧ 0 ≤ a ∧ a ≤ 73048 ∧ 0 ≤ m)) :
    Calls Tryd.prog 44 #[.agg #[.bool b0, .bool b1, .bool b2, .bool b3, .bool b4, .bool b5, .bool b6, .slice p n cap], .int .i64 a, .int .i64 m] w fun e w' => e = .returned (IV (0, 1)) ∧ Below w.heap.size w w' := by
  by_cases hv : VP b0 b1 b2 b3 b4 b5 b6 hs
  · by_cases hd : 0 ≤ a ∧ a ≤ 73048
    · by_cases hm : 0 ≤ m
      · exact absurd ⟨hv, hd.1, hd.2, hm⟩ hx
      · exact add_neg b0 b1 b2 b3 b4 b5 b6 p n cap hs a m w hn hh hv hd (by omega)
    · exact add_out b0 b1 b2 b3 b4 b5 b6 p n cap hs a m w hn hh hv hd
  · exact add_bad b0 b1 b2 b3 b4 b5 b6 p n cap hs a m w hn hh hv
set_option maxHeartbeats 800000 in
theorem next_of (b0 b1 b2 b3 b4 b5 b6 : Bool) (p : Option Addr) (n cap : Nat) (a : Int) (t : Int × Int) (w : World)
    (h : ∀ w1, Below w.heap.size w w1 → Calls Tryd.prog 44 #[.agg #[.bool b0, .bool b1, .bool b2, .bool b3, .bool b4, .bool b5, .bool b6, .slice p n cap], .int .i64 a, .int .i64 0] w1 fun e w' => e = .returned (IV t) ∧ Below w1.heap.size w1 w') :
    Calls Tryd.prog 48 #[.agg #[.bool b0, .bool b1, .bool b2, .bool b3, .bool b4, .bool b5, .bool b6, .slice p n cap], .int .i64 a] w fun e w' => e = .returned (IV t) ∧ Below w.heap.size w w' := by
  have H := Lib.hid h
  clear h
  go_enter Tryd.func48, Tryd.ntmps48
  go_wp2_with fail
  refine (H.out _ (by repeat (first | exact Below.refl _ _ | assumption | refine below_drewN ?_ _ | refine Below.setCell ?_ (by first | (simp; done) | (simp; omega)) _ | refine Below.alloc ?_ (by first | (simp; done) | (simp; omega) | omega) _ | refine Below.drew ?_ | refine Below.trans ?_ (Below.mono (by assumption) (by first | (simp; done) | (simp; omega) | omega))))).mono ?_
  rintro e w1 ⟨rfl, hb1⟩
  simp only [IV]
  go_wp2
  go_ret2
  exact ⟨rfl, (by repeat (first | exact Below.refl _ _ | assumption | refine below_drewN ?_ _ | refine Below.setCell ?_ (by first | (simp; done) | (simp; omega)) _ | refine Below.alloc ?_ (by first | (simp; done) | (simp; omega) | omega) _ | refine Below.drew ?_ | refine Below.trans ?_ (Below.mono (by assumption) (by first | (simp; done) | (simp; omega) | omega))))⟩
theorem next_valid (b0 b1 b2 b3 b4 b5 b6 : Bool) (p : Option Addr) (n cap : Nat) (hs : List Int) (a : Nat) (w : World) (hn : hs.length = n) (hh : Hols w p hs) (hv : VP b0 b1 b2 b3 b4 b5 b6 hs) (ha : a ≤ 73048) :
    Calls Tryd.prog 48 #[.agg #[.bool b0, .bool b1, .bool b2, .bool b3, .bool b4, .bool b5, .bool b6, .slice p n cap], .int .i64 (a : Int)] w fun e w' => e = .returned (IV (Dt.add (Dt.wk b0 b1 b2 b3 b4 b5 b6) hs a 0)) ∧ Below w.heap.size w w' :=
  next_of b0 b1 b2 b3 b4 b5 b6 p n cap a _ w fun w1 hb => add_valid b0 b1 b2 b3 b4 b5 b6 p n cap hs a 0 w1 hn (hh.below hb) hv ha (by omega)
theorem next_arg (b0 b1 b2 b3 b4 b5 b6 : Bool) (p : Option Addr) (n cap : Nat) (hs : List Int) (a : Int) (w : World) (hn : hs.length = n) (hh : Hols w p hs) (hx : ¬ (VP b0 b1 b2 b3 b4 b5 b6 hs ∧ 0 ≤ a ∧ a ≤ 73048)) :
    Calls Tryd.prog 48 #[.agg #[.bool b0, .bool b1, .bool b2, .bool b3, .bool b4, .bool b5, .bool b6, .slice p n cap], .int .i64 a] w fun e w' => e = .returned (IV (0, 1)) ∧ Below w.heap.size w w' :=
  next_of b0 b1 b2 b3 b4 b5 b6 p n cap a _ w fun w1 hb => add_arg b0 b1 b2 b3 b4 b5 b6 p n cap hs a 0 w1 hn (hh.below hb) (fun h => hx ⟨h.1, h.2.1, h.2.2.1⟩)
end Go.Proofs.YtlbfnafniobnaaaDoor

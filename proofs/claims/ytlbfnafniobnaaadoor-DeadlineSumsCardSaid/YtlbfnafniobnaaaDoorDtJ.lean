/- The walks of date.Add and Next. -/
import Derived.Test.YtlbfnafniobnaaaDoorDtH
import Derived.Laws.EntriesVeiled
namespace Go.Proofs.YtlbfnafniobnaaaDoor
open Go.RowKit

/-- the search of Add -/
theorem search_fst (B8 B9 Bt Bb tb c : Nat) (W : Nat → Bool) (hs : List Int) (ea : Int) (r : Nat) (w : World) (h4 : hs.length ≤ 400) (hv : Dt.Asc hs) (hC : CntAt w Bt Bb tb c W hs)
    (h8 : w.cell? ⟨B8, 0, none⟩ = some (.func (.func 79) #[] #[.pointer (some ⟨Bt, 0, none⟩), .pointer (some ⟨Bb, 0, none⟩)])) (h9 : w.cell? ⟨B9, 0, none⟩ = some (.int .i64 ea)) (hr : Dt.fst W hs ea = r) :
    Calls Tryd.prog 63 #[.int .i64 73049, .func (.func 64) #[] #[.pointer (some ⟨B8, 0, none⟩), .pointer (some ⟨B9, 0, none⟩)]] w fun e w' => e = .returned (.int .i64 (r : Int)) ∧ ∃ q, w' = w.drewN q := by
  subst hr
  unfold Dt.fst
  exact search_any B8 B9 73049 (fun i => decide (Dt.cnt W hs (i + 1) > ea)) w (Nat.le_refl _) (fun m i hi => more_draws B8 B9 Bt Bb tb c W hs ea i (w.drewN m) h4 hv (by omega) hC h8 h9) (fun a b hab ha => by
    have := (Dt.cnt_le hv (W := W) (show a + 1 ≤ b + 1 by omega)).1
    simp at ha ⊢; omega)
set_option maxRecDepth 100000 in
set_option maxHeartbeats 1600000 in
theorem add_bad (b0 b1 b2 b3 b4 b5 b6 : Bool) (p : Option Addr) (n cap : Nat) (hs : List Int) (a m : Int) (w : World) (hn : hs.length = n) (hh : Hols w p hs) (hv : ¬ VP b0 b1 b2 b3 b4 b5 b6 hs) :
    Calls Tryd.prog 44 #[.agg #[.bool b0, .bool b1, .bool b2, .bool b3, .bool b4, .bool b5, .bool b6, .slice p n cap], .int .i64 a, .int .i64 m] w fun e w' => e = .returned (IV (0, 1)) ∧ Below w.heap.size w w' := by
  have HV := Lib.hid hv
  have HH := Lib.hid hh
  have HN := Lib.hid hn
  clear hv hh hn
  go_enter Tryd.func44, Tryd.ntmps44
  go_wp2_with fail
  refine (valid_false b0 b1 b2 b3 b4 b5 b6 p n cap hs _ HN.out HV.out (HH.out.below (by repeat (first | exact Below.refl _ _ | assumption | refine below_drewN ?_ _ | refine Below.setCell ?_ (by first | (simp; done) | (simp; omega)) _ | refine Below.alloc ?_ (by first | (simp; done) | (simp; omega) | omega) _ | refine Below.drew ?_ | refine Below.trans ?_ (Below.mono (by assumption) (by first | (simp; done) | (simp; omega) | omega)))))).mono ?_
  rintro e w1 ⟨rfl, hb1⟩
  go_wp2
  go_ret2
  exact ⟨rfl, (by repeat (first | exact Below.refl _ _ | assumption | refine below_drewN ?_ _ | refine Below.setCell ?_ (by first | (simp; done) | (simp; omega)) _ | refine Below.alloc ?_ (by first | (simp; done) | (simp; omega) | omega) _ | refine Below.drew ?_ | refine Below.trans ?_ (Below.mono (by assumption) (by first | (simp; done) | (simp; omega) | omega))))⟩
set_option maxRecDepth 100000 in
set_option maxHeartbeats 1600000 in
theorem add_out (b0 b1 b2 b3 b4 b5 b6 : Bool) (p : Option Addr) (n cap : Nat) (hs : List Int) (a m : Int) (w : World) (hn : hs.length = n) (hh : Hols w p hs) (hv : VP b0 b1 b2 b3 b4 b5 b6 hs) (hd : ¬ (0 ≤ a ∧ a ≤ 73048)) :
    Calls Tryd.prog 44 #[.agg #[.bool b0, .bool b1, .bool b2, .bool b3, .bool b4, .bool b5, .bool b6, .slice p n cap], .int .i64 a, .int .i64 m] w fun e w' => e = .returned (IV (0, 1)) ∧ Below w.heap.size w w' := by
  have HV := Lib.hid hv
  have HH := Lib.hid hh
  have HN := Lib.hid hn
  have HD := Lib.hid hd
  clear hv hh hn hd
  go_enter Tryd.func44, Tryd.ntmps44
  go_wp2_with fail
  refine (valid_true b0 b1 b2 b3 b4 b5 b6 p n cap hs _ HN.out HV.out (HH.out.below (by repeat (first | exact Below.refl _ _ | assumption | refine below_drewN ?_ _ | refine Below.setCell ?_ (by first | (simp; done) | (simp; omega)) _ | refine Below.alloc ?_ (by first | (simp; done) | (simp; omega) | omega) _ | refine Below.drew ?_ | refine Below.trans ?_ (Below.mono (by assumption) (by first | (simp; done) | (simp; omega) | omega)))))).mono ?_
  rintro e w1 ⟨rfl, hb1⟩
  have hz1 := hb1.size
  simp at hz1
  have be1 : Below w.heap.size w w1 := (by repeat (first | exact Below.refl _ _ | assumption | refine below_drewN ?_ _ | refine Below.setCell ?_ (by first | (simp; done) | (simp; omega)) _ | refine Below.alloc ?_ (by first | (simp; done) | (simp; omega) | omega) _ | refine Below.drew ?_ | refine Below.trans ?_ (Below.mono (by assumption) (by first | (simp; done) | (simp; omega) | omega))))
  go_wp2_with (go_at_call 32; refine (isDay_any _ _).mono ?_; rintro e w' ⟨rfl, rfl⟩; rw [decide_eq_false HD.out])
  go_ret2
  exact ⟨rfl, (by repeat (first | exact Below.refl _ _ | assumption | refine below_drewN ?_ _ | refine Below.setCell ?_ (by first | (simp; done) | (simp; omega)) _ | refine Below.alloc ?_ (by first | (simp; done) | (simp; omega) | omega) _ | refine Below.drew ?_ | refine Below.trans ?_ (Below.mono (by assumption) (by first | (simp; done) | (simp; omega) | omega))))⟩
set_option maxRecDepth 100000 in
set_option maxHeartbeats 1600000 in
theorem add_neg (b0 b1 b2 b3 b4 b5 b6 : Bool) (p : Option Addr) (n cap : Nat) (hs : List Int) (a m : Int) (w : World) (hn : hs.length = n) (hh : Hols w p hs) (hv : VP b0 b1 b2 b3 b4 b5 b6 hs) (hd : 0 ≤ a ∧ a ≤ 73048) (hm : m < 0) :
    Calls Tryd.prog 44 #[.agg #[.bool b0, .bool b1, .bool b2, .bool b3, .bool b4, .bool b5, .bool b6, .slice p n cap], .int .i64 a, .int .i64 m] w fun e w' => e = .returned (IV (0, 1)) ∧ Below w.heap.size w w' := by
  have HV := Lib.hid hv
  have HH := Lib.hid hh
  have HN := Lib.hid hn
  have HD := Lib.hid hd
  clear hv hh hn hd
  go_enter Tryd.func44, Tryd.ntmps44
  go_wp2_with fail
  refine (valid_true b0 b1 b2 b3 b4 b5 b6 p n cap hs _ HN.out HV.out (HH.out.below (by repeat (first | exact Below.refl _ _ | assumption | refine below_drewN ?_ _ | refine Below.setCell ?_ (by first | (simp; done) | (simp; omega)) _ | refine Below.alloc ?_ (by first | (simp; done) | (simp; omega) | omega) _ | refine Below.drew ?_ | refine Below.trans ?_ (Below.mono (by assumption) (by first | (simp; done) | (simp; omega) | omega)))))).mono ?_
  rintro e w1 ⟨rfl, hb1⟩
  have hz1 := hb1.size
  simp at hz1
  have be1 : Below w.heap.size w w1 := (by repeat (first | exact Below.refl _ _ | assumption | refine below_drewN ?_ _ | refine Below.setCell ?_ (by first | (simp; done) | (simp; omega)) _ | refine Below.alloc ?_ (by first | (simp; done) | (simp; omega) | omega) _ | refine Below.drew ?_ | refine Below.trans ?_ (Below.mono (by assumption) (by first | (simp; done) | (simp; omega) | omega))))
  go_wp2_with (go_at_call 32; refine (isDay_any _ _).mono ?_; rintro e w' ⟨rfl, rfl⟩; rw [decide_eq_true HD.out])
  go_ret2
  exact ⟨rfl, (by repeat (first | exact Below.refl _ _ | assumption | refine below_drewN ?_ _ | refine Below.setCell ?_ (by first | (simp; done) | (simp; omega)) _ | refine Below.alloc ?_ (by first | (simp; done) | (simp; omega) | omega) _ | refine Below.drew ?_ | refine Below.trans ?_ (Below.mono (by assumption) (by first | (simp; done) | (simp; omega) | omega))))⟩
set_option maxRecDepth 100000 in
set_option maxHeartbeats 1600000 in
theorem add_far (b0 b1 b2 b3 b4 b5 b6 : Bool) (p : Option Addr) (n cap : Nat) (hs : List Int) (a m : Int) (w : World) (hn : hs.length = n) (hh : Hols w p hs) (hv : VP b0 b1 b2 b3 b4 b5 b6 hs) (hd : 0 ≤ a ∧ a ≤ 73048) (hm : 0 ≤ m) (hf : 73048 - a < m) :
    Calls Tryd.prog 44 #[.agg #[.bool b0, .bool b1, .bool b2, .bool b3, .bool b4, .bool b5, .bool b6, .slice p n cap], .int .i64 a, .int .i64 m] w fun e w' => e = .returned (IV (0, 2)) ∧ Below w.heap.size w w' := by
  have HV := Lib.hid hv
  have HH := Lib.hid hh
  have HN := Lib.hid hn
  clear hv hh hn
  have HD := Lib.hid hd
  go_enter Tryd.func44, Tryd.ntmps44
  go_wp2_with fail
  refine (valid_true b0 b1 b2 b3 b4 b5 b6 p n cap hs _ HN.out HV.out (HH.out.below (by repeat (first | exact Below.refl _ _ | assumption | refine below_drewN ?_ _ | refine Below.setCell ?_ (by first | (simp; done) | (simp; omega)) _ | refine Below.alloc ?_ (by first | (simp; done) | (simp; omega) | omega) _ | refine Below.drew ?_ | refine Below.trans ?_ (Below.mono (by assumption) (by first | (simp; done) | (simp; omega) | omega)))))).mono ?_
  rintro e w1 ⟨rfl, hb1⟩
  have hz1 := hb1.size
  simp at hz1
  have be1 : Below w.heap.size w w1 := (by repeat (first | exact Below.refl _ _ | assumption | refine below_drewN ?_ _ | refine Below.setCell ?_ (by first | (simp; done) | (simp; omega)) _ | refine Below.alloc ?_ (by first | (simp; done) | (simp; omega) | omega) _ | refine Below.drew ?_ | refine Below.trans ?_ (Below.mono (by assumption) (by first | (simp; done) | (simp; omega) | omega))))
  go_wp2_with (go_at_call 32; refine (isDay_any _ _).mono ?_; rintro e w' ⟨rfl, rfl⟩; rw [decide_eq_true HD.out])
  go_ret2
  exact ⟨rfl, (by repeat (first | exact Below.refl _ _ | assumption | refine below_drewN ?_ _ | refine Below.setCell ?_ (by first | (simp; done) | (simp; omega)) _ | refine Below.alloc ?_ (by first | (simp; done) | (simp; omega) | omega) _ | refine Below.drew ?_ | refine Below.trans ?_ (Below.mono (by assumption) (by first | (simp; done) | (simp; omega) | omega))))⟩
set_option maxRecDepth 100000 in
set_option maxHeartbeats 1600000 in
theorem add_zero_ok (b0 b1 b2 b3 b4 b5 b6 : Bool) (p : Option Addr) (n cap : Nat) (hs : List Int) (a : Nat) (w : World) (hn : hs.length = n) (hh : Hols w p hs) (hv : VP b0 b1 b2 b3 b4 b5 b6 hs) (ha : a ≤ 73048) (r : Nat) (hr : Dt.fst (Dt.wk b0 b1 b2 b3 b4 b5 b6) hs (Dt.cnt (Dt.wk b0 b1 b2 b3 b4 b5 b6) hs a) = r) (hle : r ≤ 73048) :
    Calls Tryd.prog 44 #[.agg #[.bool b0, .bool b1, .bool b2, .bool b3, .bool b4, .bool b5, .bool b6, .slice p n cap], .int .i64 (a : Int), .int .i64 0] w fun e w' => e = .returned (IV ((r : Int), 0)) ∧ Below w.heap.size w w' := by
  have h4 : hs.length ≤ 400 := hv.1
  have ha1 := Dt.cnt_bd hv.2.2 (W := (Dt.wk b0 b1 b2 b3 b4 b5 b6)) a
  have ha2 := Dt.cnt_bd hv.2.2 (W := (Dt.wk b0 b1 b2 b3 b4 b5 b6)) (a + 1)
  have H4 := Lib.hid h4
  have HR := Lib.hid hr
  have hD : 0 ≤ (a : Int) ∧ (a : Int) ≤ 73048 := by omega
  have HD := Lib.hid hD
  have H7 := Lib.hid (box_hol b0 b1 b2 b3 b4 b5 b6 (.slice p n cap) 28 w)
  have HW := Lib.hid (fun (j : Nat) (h : j < 7) => box_wk b0 b1 b2 b3 b4 b5 b6 (.slice p n cap) 28 w j h)
  have HV := Lib.hid hv
  have HH := Lib.hid hh
  have HN := Lib.hid hn
  clear hv hh hn
  clear h4 hr hD
  go_enter Tryd.func44, Tryd.ntmps44
  go_wp2_with fail
  refine (valid_true b0 b1 b2 b3 b4 b5 b6 p n cap hs _ HN.out HV.out (HH.out.below (by repeat (first | exact Below.refl _ _ | assumption | refine below_drewN ?_ _ | refine Below.setCell ?_ (by first | (simp; done) | (simp; omega)) _ | refine Below.alloc ?_ (by first | (simp; done) | (simp; omega) | omega) _ | refine Below.drew ?_ | refine Below.trans ?_ (Below.mono (by assumption) (by first | (simp; done) | (simp; omega) | omega)))))).mono ?_
  rintro e w1 ⟨rfl, hb1⟩
  have hz1 := hb1.size
  simp at hz1
  have be1 : Below w.heap.size w w1 := (by repeat (first | exact Below.refl _ _ | assumption | refine below_drewN ?_ _ | refine Below.setCell ?_ (by first | (simp; done) | (simp; omega)) _ | refine Below.alloc ?_ (by first | (simp; done) | (simp; omega) | omega) _ | refine Below.drew ?_ | refine Below.trans ?_ (Below.mono (by assumption) (by first | (simp; done) | (simp; omega) | omega))))
  have c0 : w1.cell? ⟨w.heap.size, 0, none⟩ = some (.bool b0) := cell_keep hb1 (HW.out 0 (by omega))
  have c1 : w1.cell? ⟨w.heap.size, 1, none⟩ = some (.bool b1) := cell_keep hb1 (HW.out 1 (by omega))
  have c2 : w1.cell? ⟨w.heap.size, 2, none⟩ = some (.bool b2) := cell_keep hb1 (HW.out 2 (by omega))
  have c3 : w1.cell? ⟨w.heap.size, 3, none⟩ = some (.bool b3) := cell_keep hb1 (HW.out 3 (by omega))
  have c4 : w1.cell? ⟨w.heap.size, 4, none⟩ = some (.bool b4) := cell_keep hb1 (HW.out 4 (by omega))
  have c5 : w1.cell? ⟨w.heap.size, 5, none⟩ = some (.bool b5) := cell_keep hb1 (HW.out 5 (by omega))
  have c6 : w1.cell? ⟨w.heap.size, 6, none⟩ = some (.bool b6) := cell_keep hb1 (HW.out 6 (by omega))
  have c7 := cell_keep hb1 H7.out
  go_wp2_with fail
  refine (isDay_any _ _).mono ?_
  rintro e w' ⟨rfl, rfl⟩
  rw [decide_eq_true HD.out]
  go_wp2_with fail
  refine (counter_any b0 b1 b2 b3 b4 b5 b6 p n cap hs _ HN.out (by have := HV.out.1; have := HN.out; omega) HV.out.2.2 (HH.out.below be1)).mono ?_
  rintro e w2 ⟨Bt, Bb, tb, rfl, hC, hb2⟩
  have HC := Lib.hid hC
  clear hC
  have hz2 := hb2.size
  have be2 : Below w.heap.size w w2 := be1.trans (hb2.mono (by omega))
  clear c0 c1 c2 c3 c4 c5 c6 c7
  have hl2 : w.heap.size < w2.heap.size := by omega
  go_wp2_with fail
  refine (count_draws Bt Bb tb n (Dt.wk b0 b1 b2 b3 b4 b5 b6) hs a _ H4.out HV.out.2.2 (by omega) (HC.out.below (by repeat (first | exact Below.refl _ _ | assumption | refine below_drewN ?_ _ | refine Below.setCell ?_ (by first | (simp; done) | (simp; omega)) _ | refine Below.alloc ?_ (by first | (simp; done) | (simp; omega) | omega) _ | refine Below.drew ?_ | refine Below.trans ?_ (Below.mono (by assumption) (by first | (simp; done) | (simp; omega) | omega)))))).mono ?_
  rintro e w' ⟨rfl, q1, rfl⟩
  go_wp2_with fail
  obtain ⟨w4, hw4⟩ : ∃ W4 : World, W4 = (((w2.alloc (.cells #[.func (.func 79) #[] #[.pointer (some ⟨Bt, 0, none⟩), .pointer (some ⟨Bb, 0, none⟩)]] 101)).drewN q1).alloc (.cells #[.int .i64 (Dt.cnt (Dt.wk b0 b1 b2 b3 b4 b5 b6) hs a)] 3)) := ⟨_, rfl⟩
  have hb4 : Below w2.heap.size w2 w4 := by rw [hw4]; exact (by repeat (first | exact Below.refl _ _ | assumption | refine below_drewN ?_ _ | refine Below.setCell ?_ (by first | (simp; done) | (simp; omega)) _ | refine Below.alloc ?_ (by first | (simp; done) | (simp; omega) | omega) _ | refine Below.drew ?_ | refine Below.trans ?_ (Below.mono (by assumption) (by first | (simp; done) | (simp; omega) | omega))))
  have h8 : w4.cell? ⟨w2.heap.size, 0, none⟩ = some (.func (.func 79) #[] #[.pointer (some ⟨Bt, 0, none⟩), .pointer (some ⟨Bb, 0, none⟩)]) := by rw [hw4]; go_simp
  have h9 : w4.cell? ⟨w2.heap.size + 1, 0, none⟩ = some (.int .i64 (Dt.cnt (Dt.wk b0 b1 b2 b3 b4 b5 b6) hs a)) := by rw [hw4]; go_simp
  rw [← hw4]
  have be4 : Below w.heap.size w w4 := be2.trans (hb4.mono (by omega))
  clear hw4
  refine (search_fst (w2.heap.size) (w2.heap.size + 1) Bt Bb tb n (Dt.wk b0 b1 b2 b3 b4 b5 b6) hs (Dt.cnt (Dt.wk b0 b1 b2 b3 b4 b5 b6) hs a) r _ H4.out HV.out.2.2 (HC.out.below hb4) h8 h9 HR.out).mono ?_
  rintro e w' ⟨rfl, q3, rfl⟩
  clear h8 h9
  go_wp2_with fail
  refine (isDay_any _ _).mono ?_
  rintro e w' ⟨rfl, rfl⟩
  rw [decide_eq_true (show 0 ≤ (r : Int) ∧ (r : Int) ≤ 73048 by omega)]
  go_wp2
  go_ret2
  exact ⟨rfl, (by repeat (first | exact Below.refl _ _ | assumption | refine below_drewN ?_ _ | refine Below.setCell ?_ (by first | (simp; done) | (simp; omega)) _ | refine Below.alloc ?_ (by first | (simp; done) | (simp; omega) | omega) _ | refine Below.drew ?_ | refine Below.trans ?_ (Below.mono (by assumption) (by first | (simp; done) | (simp; omega) | omega))))⟩
set_option maxRecDepth 100000 in
set_option maxHeartbeats 1600000 in
theorem add_zero_no (b0 b1 b2 b3 b4 b5 b6 : Bool) (p : Option Addr) (n cap : Nat) (hs : List Int) (a : Nat) (w : World) (hn : hs.length = n) (hh : Hols w p hs) (hv : VP b0 b1 b2 b3 b4 b5 b6 hs) (ha : a ≤ 73048) (r : Nat) (hr : Dt.fst (Dt.wk b0 b1 b2 b3 b4 b5 b6) hs (Dt.cnt (Dt.wk b0 b1 b2 b3 b4 b5 b6) hs a) = r) (hle : 73048 < r) :
    Calls Tryd.prog 44 #[.agg #[.bool b0, .bool b1, .bool b2, .bool b3, .bool b4, .bool b5, .bool b6, .slice p n cap], .int .i64 (a : Int), .int .i64 0] w fun e w' => e = .returned (IV (0, 2)) ∧ Below w.heap.size w w' := by
  have h4 : hs.length ≤ 400 := hv.1
  have ha1 := Dt.cnt_bd hv.2.2 (W := (Dt.wk b0 b1 b2 b3 b4 b5 b6)) a
  have ha2 := Dt.cnt_bd hv.2.2 (W := (Dt.wk b0 b1 b2 b3 b4 b5 b6)) (a + 1)
  have H4 := Lib.hid h4
  have HR := Lib.hid hr
  have hD : 0 ≤ (a : Int) ∧ (a : Int) ≤ 73048 := by omega
  have HD := Lib.hid hD
  have H7 := Lib.hid (box_hol b0 b1 b2 b3 b4 b5 b6 (.slice p n cap) 28 w)
  have HW := Lib.hid (fun (j : Nat) (h : j < 7) => box_wk b0 b1 b2 b3 b4 b5 b6 (.slice p n cap) 28 w j h)
  have HV := Lib.hid hv
  have HH := Lib.hid hh
  have HN := Lib.hid hn
  clear hv hh hn
  clear h4 hr hD
  go_enter Tryd.func44, Tryd.ntmps44
  go_wp2_with fail
  refine (valid_true b0 b1 b2 b3 b4 b5 b6 p n cap hs _ HN.out HV.out (HH.out.below (by repeat (first | exact Below.refl _ _ | assumption | refine below_drewN ?_ _ | refine Below.setCell ?_ (by first | (simp; done) | (simp; omega)) _ | refine Below.alloc ?_ (by first | (simp; done) | (simp; omega) | omega) _ | refine Below.drew ?_ | refine Below.trans ?_ (Below.mono (by assumption) (by first | (simp; done) | (simp; omega) | omega)))))).mono ?_
  rintro e w1 ⟨rfl, hb1⟩
  have hz1 := hb1.size
  simp at hz1
  have be1 : Below w.heap.size w w1 := (by repeat (first | exact Below.refl _ _ | assumption | refine below_drewN ?_ _ | refine Below.setCell ?_ (by first | (simp; done) | (simp; omega)) _ | refine Below.alloc ?_ (by first | (simp; done) | (simp; omega) | omega) _ | refine Below.drew ?_ | refine Below.trans ?_ (Below.mono (by assumption) (by first | (simp; done) | (simp; omega) | omega))))
  have c0 : w1.cell? ⟨w.heap.size, 0, none⟩ = some (.bool b0) := cell_keep hb1 (HW.out 0 (by omega))
  have c1 : w1.cell? ⟨w.heap.size, 1, none⟩ = some (.bool b1) := cell_keep hb1 (HW.out 1 (by omega))
  have c2 : w1.cell? ⟨w.heap.size, 2, none⟩ = some (.bool b2) := cell_keep hb1 (HW.out 2 (by omega))
  have c3 : w1.cell? ⟨w.heap.size, 3, none⟩ = some (.bool b3) := cell_keep hb1 (HW.out 3 (by omega))
  have c4 : w1.cell? ⟨w.heap.size, 4, none⟩ = some (.bool b4) := cell_keep hb1 (HW.out 4 (by omega))
  have c5 : w1.cell? ⟨w.heap.size, 5, none⟩ = some (.bool b5) := cell_keep hb1 (HW.out 5 (by omega))
  have c6 : w1.cell? ⟨w.heap.size, 6, none⟩ = some (.bool b6) := cell_keep hb1 (HW.out 6 (by omega))
  have c7 := cell_keep hb1 H7.out
  go_wp2_with fail
  refine (isDay_any _ _).mono ?_
  rintro e w' ⟨rfl, rfl⟩
  rw [decide_eq_true HD.out]
  go_wp2_with fail
  refine (counter_any b0 b1 b2 b3 b4 b5 b6 p n cap hs _ HN.out (by have := HV.out.1; have := HN.out; omega) HV.out.2.2 (HH.out.below be1)).mono ?_
  rintro e w2 ⟨Bt, Bb, tb, rfl, hC, hb2⟩
  have HC := Lib.hid hC
  clear hC
  have hz2 := hb2.size
  have be2 : Below w.heap.size w w2 := be1.trans (hb2.mono (by omega))
  clear c0 c1 c2 c3 c4 c5 c6 c7
  have hl2 : w.heap.size < w2.heap.size := by omega
  go_wp2_with fail
  refine (count_draws Bt Bb tb n (Dt.wk b0 b1 b2 b3 b4 b5 b6) hs a _ H4.out HV.out.2.2 (by omega) (HC.out.below (by repeat (first | exact Below.refl _ _ | assumption | refine below_drewN ?_ _ | refine Below.setCell ?_ (by first | (simp; done) | (simp; omega)) _ | refine Below.alloc ?_ (by first | (simp; done) | (simp; omega) | omega) _ | refine Below.drew ?_ | refine Below.trans ?_ (Below.mono (by assumption) (by first | (simp; done) | (simp; omega) | omega)))))).mono ?_
  rintro e w' ⟨rfl, q1, rfl⟩
  go_wp2_with fail
  obtain ⟨w4, hw4⟩ : ∃ W4 : World, W4 = (((w2.alloc (.cells #[.func (.func 79) #[] #[.pointer (some ⟨Bt, 0, none⟩), .pointer (some ⟨Bb, 0, none⟩)]] 101)).drewN q1).alloc (.cells #[.int .i64 (Dt.cnt (Dt.wk b0 b1 b2 b3 b4 b5 b6) hs a)] 3)) := ⟨_, rfl⟩
  have hb4 : Below w2.heap.size w2 w4 := by rw [hw4]; exact (by repeat (first | exact Below.refl _ _ | assumption | refine below_drewN ?_ _ | refine Below.setCell ?_ (by first | (simp; done) | (simp; omega)) _ | refine Below.alloc ?_ (by first | (simp; done) | (simp; omega) | omega) _ | refine Below.drew ?_ | refine Below.trans ?_ (Below.mono (by assumption) (by first | (simp; done) | (simp; omega) | omega))))
  have h8 : w4.cell? ⟨w2.heap.size, 0, none⟩ = some (.func (.func 79) #[] #[.pointer (some ⟨Bt, 0, none⟩), .pointer (some ⟨Bb, 0, none⟩)]) := by rw [hw4]; go_simp
  have h9 : w4.cell? ⟨w2.heap.size + 1, 0, none⟩ = some (.int .i64 (Dt.cnt (Dt.wk b0 b1 b2 b3 b4 b5 b6) hs a)) := by rw [hw4]; go_simp
  rw [← hw4]
  have be4 : Below w.heap.size w w4 := be2.trans (hb4.mono (by omega))
  clear hw4
  refine (search_fst (w2.heap.size) (w2.heap.size + 1) Bt Bb tb n (Dt.wk b0 b1 b2 b3 b4 b5 b6) hs (Dt.cnt (Dt.wk b0 b1 b2 b3 b4 b5 b6) hs a) r _ H4.out HV.out.2.2 (HC.out.below hb4) h8 h9 HR.out).mono ?_
  rintro e w' ⟨rfl, q3, rfl⟩
  clear h8 h9
  go_wp2_with fail
  refine (isDay_any _ _).mono ?_
  rintro e w' ⟨rfl, rfl⟩
  rw [decide_eq_false (show ¬ (0 ≤ (r : Int) ∧ (r : Int) ≤ 73048) by omega)]
  go_wp2
  go_ret2
  exact ⟨rfl, (by repeat (first | exact Below.refl _ _ | assumption | refine below_drewN ?_ _ | refine Below.setCell ?_ (by first | (simp; done) | (simp; omega)) _ | refine Below.alloc ?_ (by first | (simp; done) | (simp; omega) | omega) _ | refine Below.drew ?_ | refine Below.trans ?_ (Below.mono (by assumption) (by first | (simp; done) | (simp; omega) | omega))))⟩
end Go.Proofs.YtlbfnafniobnaaaDoor

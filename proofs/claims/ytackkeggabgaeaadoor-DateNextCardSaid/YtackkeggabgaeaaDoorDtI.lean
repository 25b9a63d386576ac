/- The walks of date.Count, Add and Next. -/
import Derived.Test.YtackkeggabgaeaaDoorDtH
namespace Go.Proofs.YtackkeggabgaeaaDoor
open Go.RowKit

set_option maxRecDepth 100000 in
set_option maxHeartbeats 1600000 in
theorem count_bad (b0 b1 b2 b3 b4 b5 b6 : Bool) (p : Option Addr) (n cap : Nat) (hs : List Int) (a b : Int) (w : World) (hn : hs.length = n) (hh : Hols w p hs) (hv : ¬ VP b0 b1 b2 b3 b4 b5 b6 hs) :
    Calls Tryd.prog 18 #[.agg #[.bool b0, .bool b1, .bool b2, .bool b3, .bool b4, .bool b5, .bool b6, .slice p n cap], .int .i64 a, .int .i64 b] w fun e w' => e = .returned (IV (0, 1)) ∧ Below w.heap.size w w' := by
  have HV := Lib.hid hv
  have HH := Lib.hid hh
  have HN := Lib.hid hn
  clear hv hh hn
  go_enter Tryd.func18, Tryd.ntmps18
  go_wp2_with fail
  refine (valid_false b0 b1 b2 b3 b4 b5 b6 p n cap hs _ HN.out HV.out (HH.out.below (by repeat (first | exact Below.refl _ _ | assumption | refine below_drewN ?_ _ | refine Below.setCell ?_ (by first | (simp; done) | (simp; omega)) _ | refine Below.alloc ?_ (by first | (simp; done) | (simp; omega) | omega) _ | refine Below.drew ?_ | refine Below.trans ?_ (Below.mono (by assumption) (by first | (simp; done) | (simp; omega) | omega)))))).mono ?_
  rintro e w1 ⟨rfl, hb1⟩
  go_wp2
  go_ret2
  exact ⟨rfl, (by repeat (first | exact Below.refl _ _ | assumption | refine below_drewN ?_ _ | refine Below.setCell ?_ (by first | (simp; done) | (simp; omega)) _ | refine Below.alloc ?_ (by first | (simp; done) | (simp; omega) | omega) _ | refine Below.drew ?_ | refine Below.trans ?_ (Below.mono (by assumption) (by first | (simp; done) | (simp; omega) | omega))))⟩
set_option maxRecDepth 100000 in
set_option maxHeartbeats 1600000 in
theorem count_out1 (b0 b1 b2 b3 b4 b5 b6 : Bool) (p : Option Addr) (n cap : Nat) (hs : List Int) (a b : Int) (w : World) (hn : hs.length = n) (hh : Hols w p hs) (hv : VP b0 b1 b2 b3 b4 b5 b6 hs) (hd : ¬ (0 ≤ a ∧ a ≤ 73048)) :
    Calls Tryd.prog 18 #[.agg #[.bool b0, .bool b1, .bool b2, .bool b3, .bool b4, .bool b5, .bool b6, .slice p n cap], .int .i64 a, .int .i64 b] w fun e w' => e = .returned (IV (0, 1)) ∧ Below w.heap.size w w' := by
  have HV := Lib.hid hv
  have HH := Lib.hid hh
  have HN := Lib.hid hn
  have HD := Lib.hid hd
  clear hv hh hn hd
  go_enter Tryd.func18, Tryd.ntmps18
  go_wp2_with fail
  refine (valid_true b0 b1 b2 b3 b4 b5 b6 p n cap hs _ HN.out HV.out (HH.out.below (by repeat (first | exact Below.refl _ _ | assumption | refine below_drewN ?_ _ | refine Below.setCell ?_ (by first | (simp; done) | (simp; omega)) _ | refine Below.alloc ?_ (by first | (simp; done) | (simp; omega) | omega) _ | refine Below.drew ?_ | refine Below.trans ?_ (Below.mono (by assumption) (by first | (simp; done) | (simp; omega) | omega)))))).mono ?_
  rintro e w1 ⟨rfl, hb1⟩
  have hz1 := hb1.size
  simp at hz1
  have be1 : Below w.heap.size w w1 := (by repeat (first | exact Below.refl _ _ | assumption | refine below_drewN ?_ _ | refine Below.setCell ?_ (by first | (simp; done) | (simp; omega)) _ | refine Below.alloc ?_ (by first | (simp; done) | (simp; omega) | omega) _ | refine Below.drew ?_ | refine Below.trans ?_ (Below.mono (by assumption) (by first | (simp; done) | (simp; omega) | omega))))
  go_wp2_with (go_at_call 23; refine (isDay_any _ _).mono ?_; rintro e w' ⟨rfl, rfl⟩; rw [decide_eq_false HD.out])
  go_ret2
  exact ⟨rfl, (by repeat (first | exact Below.refl _ _ | assumption | refine below_drewN ?_ _ | refine Below.setCell ?_ (by first | (simp; done) | (simp; omega)) _ | refine Below.alloc ?_ (by first | (simp; done) | (simp; omega) | omega) _ | refine Below.drew ?_ | refine Below.trans ?_ (Below.mono (by assumption) (by first | (simp; done) | (simp; omega) | omega))))⟩
set_option maxRecDepth 100000 in
set_option maxHeartbeats 1600000 in
theorem count_out2 (b0 b1 b2 b3 b4 b5 b6 : Bool) (p : Option Addr) (n cap : Nat) (hs : List Int) (a b : Int) (w : World) (hn : hs.length = n) (hh : Hols w p hs) (hv : VP b0 b1 b2 b3 b4 b5 b6 hs) (hd : 0 ≤ a ∧ a ≤ 73048) (hb : ¬ (0 ≤ b ∧ b ≤ 73048)) :
    Calls Tryd.prog 18 #[.agg #[.bool b0, .bool b1, .bool b2, .bool b3, .bool b4, .bool b5, .bool b6, .slice p n cap], .int .i64 a, .int .i64 b] w fun e w' => e = .returned (IV (0, 1)) ∧ Below w.heap.size w w' := by
  have HV := Lib.hid hv
  have HH := Lib.hid hh
  have HN := Lib.hid hn
  have HD := Lib.hid hd
  have HB := Lib.hid hb
  clear hv hh hn hd hb
  go_enter Tryd.func18, Tryd.ntmps18
  go_wp2_with fail
  refine (valid_true b0 b1 b2 b3 b4 b5 b6 p n cap hs _ HN.out HV.out (HH.out.below (by repeat (first | exact Below.refl _ _ | assumption | refine below_drewN ?_ _ | refine Below.setCell ?_ (by first | (simp; done) | (simp; omega)) _ | refine Below.alloc ?_ (by first | (simp; done) | (simp; omega) | omega) _ | refine Below.drew ?_ | refine Below.trans ?_ (Below.mono (by assumption) (by first | (simp; done) | (simp; omega) | omega)))))).mono ?_
  rintro e w1 ⟨rfl, hb1⟩
  have hz1 := hb1.size
  simp at hz1
  have be1 : Below w.heap.size w w1 := (by repeat (first | exact Below.refl _ _ | assumption | refine below_drewN ?_ _ | refine Below.setCell ?_ (by first | (simp; done) | (simp; omega)) _ | refine Below.alloc ?_ (by first | (simp; done) | (simp; omega) | omega) _ | refine Below.drew ?_ | refine Below.trans ?_ (Below.mono (by assumption) (by first | (simp; done) | (simp; omega) | omega))))
  go_wp2_with fail
  refine (isDay_any _ _).mono ?_
  rintro e w' ⟨rfl, rfl⟩
  rw [decide_eq_true HD.out]
  go_wp2_with fail
  refine (isDay_any _ _).mono ?_
  rintro e w' ⟨rfl, rfl⟩
  rw [decide_eq_false HB.out]
  go_wp2
  go_ret2
  exact ⟨rfl, (by repeat (first | exact Below.refl _ _ | assumption | refine below_drewN ?_ _ | refine Below.setCell ?_ (by first | (simp; done) | (simp; omega)) _ | refine Below.alloc ?_ (by first | (simp; done) | (simp; omega) | omega) _ | refine Below.drew ?_ | refine Below.trans ?_ (Below.mono (by assumption) (by first | (simp; done) | (simp; omega) | omega))))⟩
set_option maxRecDepth 100000 in
set_option maxHeartbeats 1600000 in
theorem count_rev (b0 b1 b2 b3 b4 b5 b6 : Bool) (p : Option Addr) (n cap : Nat) (hs : List Int) (a b : Int) (w : World) (hn : hs.length = n) (hh : Hols w p hs) (hv : VP b0 b1 b2 b3 b4 b5 b6 hs) (hd : 0 ≤ a ∧ a ≤ 73048) (hb : 0 ≤ b ∧ b ≤ 73048) (hlt : b < a) :
    Calls Tryd.prog 18 #[.agg #[.bool b0, .bool b1, .bool b2, .bool b3, .bool b4, .bool b5, .bool b6, .slice p n cap], .int .i64 a, .int .i64 b] w fun e w' => e = .returned (IV (0, 1)) ∧ Below w.heap.size w w' := by
  have HV := Lib.hid hv
  have HH := Lib.hid hh
  have HN := Lib.hid hn
  have HD := Lib.hid hd
  have HB := Lib.hid hb
  clear hv hh hn hd hb
  go_enter Tryd.func18, Tryd.ntmps18
  go_wp2_with fail
  refine (valid_true b0 b1 b2 b3 b4 b5 b6 p n cap hs _ HN.out HV.out (HH.out.below (by repeat (first | exact Below.refl _ _ | assumption | refine below_drewN ?_ _ | refine Below.setCell ?_ (by first | (simp; done) | (simp; omega)) _ | refine Below.alloc ?_ (by first | (simp; done) | (simp; omega) | omega) _ | refine Below.drew ?_ | refine Below.trans ?_ (Below.mono (by assumption) (by first | (simp; done) | (simp; omega) | omega)))))).mono ?_
  rintro e w1 ⟨rfl, hb1⟩
  have hz1 := hb1.size
  simp at hz1
  have be1 : Below w.heap.size w w1 := (by repeat (first | exact Below.refl _ _ | assumption | refine below_drewN ?_ _ | refine Below.setCell ?_ (by first | (simp; done) | (simp; omega)) _ | refine Below.alloc ?_ (by first | (simp; done) | (simp; omega) | omega) _ | refine Below.drew ?_ | refine Below.trans ?_ (Below.mono (by assumption) (by first | (simp; done) | (simp; omega) | omega))))
  go_wp2_with fail
  refine (isDay_any _ _).mono ?_
  rintro e w' ⟨rfl, rfl⟩
  rw [decide_eq_true HD.out]
  go_wp2_with fail
  refine (isDay_any _ _).mono ?_
  rintro e w' ⟨rfl, rfl⟩
  rw [decide_eq_true HB.out]
  go_wp2
  go_ret2
  exact ⟨rfl, (by repeat (first | exact Below.refl _ _ | assumption | refine below_drewN ?_ _ | refine Below.setCell ?_ (by first | (simp; done) | (simp; omega)) _ | refine Below.alloc ?_ (by first | (simp; done) | (simp; omega) | omega) _ | refine Below.drew ?_ | refine Below.trans ?_ (Below.mono (by assumption) (by first | (simp; done) | (simp; omega) | omega))))⟩
set_option maxRecDepth 100000 in
set_option maxHeartbeats 1600000 in
theorem count_in (b0 b1 b2 b3 b4 b5 b6 : Bool) (p : Option Addr) (n cap : Nat) (hs : List Int) (a b : Nat) (w : World) (hn : hs.length = n) (hh : Hols w p hs) (hv : VP b0 b1 b2 b3 b4 b5 b6 hs) (hab : a ≤ b) (hb : b ≤ 73048) :
    Calls Tryd.prog 18 #[.agg #[.bool b0, .bool b1, .bool b2, .bool b3, .bool b4, .bool b5, .bool b6, .slice p n cap], .int .i64 (a : Int), .int .i64 (b : Int)] w fun e w' => e = .returned (IV (Dt.cnt (Dt.wk b0 b1 b2 b3 b4 b5 b6) hs b - Dt.cnt (Dt.wk b0 b1 b2 b3 b4 b5 b6) hs a, 0)) ∧ Below w.heap.size w w' := by
  have h4 : hs.length ≤ 400 := hv.1
  have ha1 := Dt.cnt_bd hv.2.2 (W := (Dt.wk b0 b1 b2 b3 b4 b5 b6)) a
  have hb1' := Dt.cnt_bd hv.2.2 (W := (Dt.wk b0 b1 b2 b3 b4 b5 b6)) b
  have H4 := Lib.hid h4
  have HD := Lib.hid (show 0 ≤ (a : Int) ∧ (a : Int) ≤ 73048 by omega)
  have HB := Lib.hid (show 0 ≤ (b : Int) ∧ (b : Int) ≤ 73048 by omega)
  have H7 := Lib.hid (box_hol b0 b1 b2 b3 b4 b5 b6 (.slice p n cap) 39 w)
  have HW := Lib.hid (fun (j : Nat) (h : j < 7) => box_wk b0 b1 b2 b3 b4 b5 b6 (.slice p n cap) 39 w j h)
  have HV := Lib.hid hv
  have HH := Lib.hid hh
  have HN := Lib.hid hn
  clear hv hh hn
  clear h4
  go_enter Tryd.func18, Tryd.ntmps18
  go_wp2_with fail
  refine (valid_true b0 b1 b2 b3 b4 b5 b6 p n cap hs _ HN.out HV.out (HH.out.below (by repeat (first | exact Below.refl _ _ | assumption | refine below_drewN ?_ _ | refine Below.setCell ?_ (by first | (simp; done) | (simp; omega)) _ | refine Below.alloc ?_ (by first | (simp; done) | (simp; omega) | omega) _ | refine Below.drew ?_ | refine Below.trans ?_ (Below.mono (by assumption) (by first | (simp; done) | (simp; omega) | omega)))))).mono ?_
  rintro e w1 ⟨rfl, hb1⟩
  have hz1 := hb1.size
  simp at hz1
  have be1 : Below w.heap.size w w1 := (by repeat (first | exact Below.refl _ _ | assumption | refine below_drewN ?_ _ | refine Below.setCell ?_ (by first | (simp; done) | (simp; omega)) _ | refine Below.alloc ?_ (by first | (simp; done) | (simp; omega) | omega) _ | refine Below.drew ?_ | refine Below.trans ?_ (Below.mono (by assumption) (by first | (simp; done) | (simp; omega) | omega))))
  have c0 : w1.cell? ⟨w.heap.size, 0, none⟩ = some (.bool b0) := cell_keep hb1 (HW.out 0 (by omega))
  have c1 : w1.cell? ⟨w.heap.size, 1, none⟩ = some (.bool b1) := cell_keep hb1 (HW.out 1 (by omega))
  have c2 : w1.cell? ⟨w.heap.size, 2, none⟩ = some (.bool b2) := cell_keep hb1 (HW.out 2 (by omega))
  have c3 : w1.cell? ⟨w.heap.size, 3, none⟩ = some (.bool b3) := cell_keep hb1 (HW.out 3 (by omega))
  have c4 : w1.cell? ⟨w.heap.size, 4, none⟩ = some (.bool b4) := cell_keep hb1 (HW.out 4 (by omega))
  have c5 : w1.cell? ⟨w.heap.size, 5, none⟩ = some (.bool b5) := cell_keep hb1 (HW.out 5 (by omega))
  have c6 : w1.cell? ⟨w.heap.size, 6, none⟩ = some (.bool b6) := cell_keep hb1 (HW.out 6 (by omega))
  have c7 := cell_keep hb1 H7.out
  go_wp2_with fail
  refine (isDay_any _ _).mono ?_
  rintro e w' ⟨rfl, rfl⟩
  rw [decide_eq_true HD.out]
  go_wp2_with fail
  refine (isDay_any _ _).mono ?_
  rintro e w' ⟨rfl, rfl⟩
  rw [decide_eq_true HB.out]
  go_wp2_with fail
  refine (counter_any b0 b1 b2 b3 b4 b5 b6 p n cap hs _ HN.out (by have := HV.out.1; have := HN.out; omega) HV.out.2.2 (HH.out.below be1)).mono ?_
  rintro e w2 ⟨Bt, Bb, tb, rfl, hC, hb2⟩
  have HC := Lib.hid hC
  clear hC
  have hz2 := hb2.size
  have be2 : Below w.heap.size w w2 := be1.trans (hb2.mono (by omega))
  clear c0 c1 c2 c3 c4 c5 c6 c7
  go_wp2_with fail
  refine (count_draws Bt Bb tb n (Dt.wk b0 b1 b2 b3 b4 b5 b6) hs b _ H4.out HV.out.2.2 (by omega) HC.out).mono ?_
  rintro e w' ⟨rfl, q1, rfl⟩
  go_wp2_with fail
  refine (count_draws Bt Bb tb n (Dt.wk b0 b1 b2 b3 b4 b5 b6) hs a (w2.drewN q1) H4.out HV.out.2.2 (by omega) HC.out).mono ?_
  rintro e w' ⟨rfl, q2, rfl⟩
  go_wp2
  go_ret2
  exact ⟨rfl, (by repeat (first | exact Below.refl _ _ | assumption | refine below_drewN ?_ _ | refine Below.setCell ?_ (by first | (simp; done) | (simp; omega)) _ | refine Below.alloc ?_ (by first | (simp; done) | (simp; omega) | omega) _ | refine Below.drew ?_ | refine Below.trans ?_ (Below.mono (by assumption) (by first | (simp; done) | (simp; omega) | omega))))⟩
end Go.Proofs.YtackkeggabgaeaaDoor

/- The walks of date.Business, of the search in the holidays; of the law's few and week. -/
import Derived.Test.YtlbfnafniobnaaaDoorDtE
import Derived.Test.YtlbfnafniobnaaaDoorShelf
namespace Go.Proofs.YtlbfnafniobnaaaDoor
open Go.RowKit

theorem wk_cell (b0 b1 b2 b3 b4 b5 b6 : Bool) (v : Value) : ∀ k, k < 7 → (#[.bool b0, .bool b1, .bool b2, .bool b3, .bool b4, .bool b5, .bool b6, v] : Array Value)[k]? = some (.bool (Dt.wk b0 b1 b2 b3 b4 b5 b6 k))
  | 0, _ | 1, _ | 2, _ | 3, _ | 4, _ | 5, _ | 6, _ => rfl
  | n + 7, h => by omega
theorem box_wk (b0 b1 b2 b3 b4 b5 b6 : Bool) (v : Value) (t : TypeId) (w : World) (k : Nat) (h : k < 7) : (w.alloc (.cells #[.bool b0, .bool b1, .bool b2, .bool b3, .bool b4, .bool b5, .bool b6, v] t)).cell? ⟨w.heap.size, k, none⟩ = some (.bool (Dt.wk b0 b1 b2 b3 b4 b5 b6 k)) := by
  rw [World.cell?_alloc_mark]; exact wk_cell b0 b1 b2 b3 b4 b5 b6 v k h
theorem box_hol (b0 b1 b2 b3 b4 b5 b6 : Bool) (v : Value) (t : TypeId) (w : World) : (w.alloc (.cells #[.bool b0, .bool b1, .bool b2, .bool b3, .bool b4, .bool b5, .bool b6, v] t)).cell? ⟨w.heap.size, 7, none⟩ = some v := by
  rw [World.cell?_alloc_mark]; rfl
theorem asc_le : ∀ (hs : List Int), Dt.Asc hs → hs.Pairwise (· ≤ ·)
  | [], _ => List.Pairwise.nil
  | _ :: l, h => List.Pairwise.cons (fun b hb => Int.le_of_lt (h.2.1 b hb)) (asc_le l h.2.2)
set_option maxHeartbeats 800000 in
theorem search_nil (p : Option Addr) (cap : Nat) (x : Int) (w : World) :
    Calls Tryd.prog 33 #[.slice p 0 cap, .int .i64 x] w fun e w' => e = .returned (.tuple #[.int .i64 0, .bool false]) ∧ Below w.heap.size w w' := by
  go_enter Tryd.func33, Tryd.ntmps33
  go_wp2
  refine wp_loop_rounds 1 ?_
  rw [rounds_succ]
  go_wp2
  go_ret2
  exact ⟨rfl, (by repeat (first | exact Below.refl _ _ | assumption | refine below_drewN ?_ _ | refine Below.setCell ?_ (by first | (simp; done) | (simp; omega)) _ | refine Below.alloc ?_ (by first | (simp; done) | (simp; omega) | omega) _ | refine Below.drew ?_ | refine Below.trans ?_ (Below.mono (by assumption) (by first | (simp; done) | (simp; omega) | omega))))⟩
/-- the search in the holidays -/
theorem search_hol (p : Option Addr) (n cap : Nat) (hs : List Int) (x : Int) (w : World) (hn : hs.length = n) (h4 : n ≤ 400) (hv : Dt.Asc hs) (hh : Hols w p hs) :
    Calls Tryd.prog 33 #[.slice p n cap, .int .i64 x] w fun e w' => e = .returned (.tuple #[.int .i64 (Dt.past hs x : Nat), .bool (decide (x ∈ hs))]) ∧ Below w.heap.size w w' := by
  subst hn
  rcases hh with rfl | ⟨b, off, rfl, hc⟩
  · refine (search_nil p cap x w).mono ?_
    rintro e w' ⟨rfl, hb⟩
    exact ⟨rfl, hb⟩
  · refine (Tryd.slices_BinarySearch_int b off hs.length cap hs x w (Nat.le_refl _) (by omega) hc (by rw [List.take_length]; exact asc_le hs hv)).mono ?_
    rintro e w' ⟨rfl, q, rfl⟩
    refine ⟨?_, below_drewN (Below.refl _ _) q⟩
    rw [List.take_length]
    have e2 : hs.contains x = decide (x ∈ hs) := by
      rw [Bool.eq_iff_iff]; simp
    rw [e2]
    rfl
set_option maxHeartbeats 800000 in
theorem business_bad (b0 b1 b2 b3 b4 b5 b6 : Bool) (p : Option Addr) (n cap : Nat) (hs : List Int) (day : Int) (w : World) (hn : hs.length = n) (hv : ¬ VP b0 b1 b2 b3 b4 b5 b6 hs) (hh : Hols w p hs) :
    Calls Tryd.prog 16 #[.agg #[.bool b0, .bool b1, .bool b2, .bool b3, .bool b4, .bool b5, .bool b6, .slice p n cap], .int .i64 day] w fun e w' => e = .returned (.bool false) ∧ Below w.heap.size w w' := by
  have HV := Lib.hid hv
  have HH := Lib.hid hh
  have HN := Lib.hid hn
  clear hv hh hn
  go_enter Tryd.func16, Tryd.ntmps16
  go_wp2_with fail
  refine (valid_false b0 b1 b2 b3 b4 b5 b6 p n cap hs _ HN.out HV.out (HH.out.below (by repeat (first | exact Below.refl _ _ | assumption | refine below_drewN ?_ _ | refine Below.setCell ?_ (by first | (simp; done) | (simp; omega)) _ | refine Below.alloc ?_ (by first | (simp; done) | (simp; omega) | omega) _ | refine Below.drew ?_ | refine Below.trans ?_ (Below.mono (by assumption) (by first | (simp; done) | (simp; omega) | omega)))))).mono ?_
  rintro e w1 ⟨rfl, hb1⟩
  go_wp2
  go_ret
  exact ⟨rfl, (by repeat (first | exact Below.refl _ _ | assumption | refine below_drewN ?_ _ | refine Below.setCell ?_ (by first | (simp; done) | (simp; omega)) _ | refine Below.alloc ?_ (by first | (simp; done) | (simp; omega) | omega) _ | refine Below.drew ?_ | refine Below.trans ?_ (Below.mono (by assumption) (by first | (simp; done) | (simp; omega) | omega))))⟩
set_option maxHeartbeats 800000 in
theorem business_out (b0 b1 b2 b3 b4 b5 b6 : Bool) (p : Option Addr) (n cap : Nat) (hs : List Int) (day : Int) (w : World) (hn : hs.length = n) (hv : VP b0 b1 b2 b3 b4 b5 b6 hs) (hh : Hols w p hs) (hd : ¬ (0 ≤ day ∧ day ≤ 73048)) :
    Calls Tryd.prog 16 #[.agg #[.bool b0, .bool b1, .bool b2, .bool b3, .bool b4, .bool b5, .bool b6, .slice p n cap], .int .i64 day] w fun e w' => e = .returned (.bool false) ∧ Below w.heap.size w w' := by
  have HV := Lib.hid hv
  have HH := Lib.hid hh
  have HN := Lib.hid hn
  have HD := Lib.hid hd
  clear hv hh hn hd
  go_enter Tryd.func16, Tryd.ntmps16
  go_wp2_with fail
  refine (valid_true b0 b1 b2 b3 b4 b5 b6 p n cap hs _ HN.out HV.out (HH.out.below (by repeat (first | exact Below.refl _ _ | assumption | refine below_drewN ?_ _ | refine Below.setCell ?_ (by first | (simp; done) | (simp; omega)) _ | refine Below.alloc ?_ (by first | (simp; done) | (simp; omega) | omega) _ | refine Below.drew ?_ | refine Below.trans ?_ (Below.mono (by assumption) (by first | (simp; done) | (simp; omega) | omega)))))).mono ?_
  rintro e w1 ⟨rfl, hb1⟩
  go_wp2_with (go_at_call 32; refine (isDay_any _ _).mono ?_; rintro e w' ⟨rfl, rfl⟩; rw [decide_eq_false HD.out])
  go_ret
  exact ⟨rfl, (by repeat (first | exact Below.refl _ _ | assumption | refine below_drewN ?_ _ | refine Below.setCell ?_ (by first | (simp; done) | (simp; omega)) _ | refine Below.alloc ?_ (by first | (simp; done) | (simp; omega) | omega) _ | refine Below.drew ?_ | refine Below.trans ?_ (Below.mono (by assumption) (by first | (simp; done) | (simp; omega) | omega))))⟩
set_option maxHeartbeats 1600000 in
theorem business_in (b0 b1 b2 b3 b4 b5 b6 : Bool) (p : Option Addr) (n cap : Nat) (hs : List Int) (d : Nat) (w : World) (hn : hs.length = n) (hv : VP b0 b1 b2 b3 b4 b5 b6 hs) (hh : Hols w p hs) (hd : d ≤ 73048) :
    Calls Tryd.prog 16 #[.agg #[.bool b0, .bool b1, .bool b2, .bool b3, .bool b4, .bool b5, .bool b6, .slice p n cap], .int .i64 (d : Int)] w fun e w' => e = .returned (.bool (Dt.busy (Dt.wk b0 b1 b2 b3 b4 b5 b6) hs d)) ∧ Below w.heap.size w w' := by
  have hw := box_wk b0 b1 b2 b3 b4 b5 b6 (.slice p n cap) 28 w (d % 7) (by omega)
  have hv7 := box_hol b0 b1 b2 b3 b4 b5 b6 (.slice p n cap) 28 w
  have hr : Dt.busy (Dt.wk b0 b1 b2 b3 b4 b5 b6) hs d = (!Dt.wk b0 b1 b2 b3 b4 b5 b6 (d % 7) && !decide ((d : Int) ∈ hs)) := rfl
  have HR := Lib.hid hr
  clear hr
  generalize Dt.busy (Dt.wk b0 b1 b2 b3 b4 b5 b6) hs d = r at *
  generalize Dt.wk b0 b1 b2 b3 b4 b5 b6 (d % 7) = bw at *
  have HW := Lib.hid hw
  have H7 := Lib.hid hv7
  have HV := Lib.hid hv
  have HH := Lib.hid hh
  have HN := Lib.hid hn
  have HD := Lib.hid (show 0 ≤ (d : Int) ∧ (d : Int) ≤ 73048 by omega)
  clear hv hh hn hw hv7
  go_enter Tryd.func16, Tryd.ntmps16
  go_wp2_with fail
  refine (valid_true b0 b1 b2 b3 b4 b5 b6 p n cap hs _ HN.out HV.out (HH.out.below (by repeat (first | exact Below.refl _ _ | assumption | refine below_drewN ?_ _ | refine Below.setCell ?_ (by first | (simp; done) | (simp; omega)) _ | refine Below.alloc ?_ (by first | (simp; done) | (simp; omega) | omega) _ | refine Below.drew ?_ | refine Below.trans ?_ (Below.mono (by assumption) (by first | (simp; done) | (simp; omega) | omega)))))).mono ?_
  rintro e w1 ⟨rfl, hb1⟩
  have c0 := cell_keep hb1 HW.out
  have c7 := cell_keep hb1 H7.out
  have hz1 := hb1.size
  simp at hz1
  have be1 : Below w.heap.size w w1 := (by repeat (first | exact Below.refl _ _ | assumption | refine below_drewN ?_ _ | refine Below.setCell ?_ (by first | (simp; done) | (simp; omega)) _ | refine Below.alloc ?_ (by first | (simp; done) | (simp; omega) | omega) _ | refine Below.drew ?_ | refine Below.trans ?_ (Below.mono (by assumption) (by first | (simp; done) | (simp; omega) | omega))))
  clear hb1
  cases bw
  · go_wp2_with (go_at_call 32; refine (isDay_any _ _).mono ?_; rintro e w' ⟨rfl, rfl⟩; rw [decide_eq_true HD.out])
    refine (search_hol p n cap hs d _ HN.out (by have := HV.out.1; have := HN.out; omega) HV.out.2.2 (HH.out.below be1)).mono ?_
    rintro e w2 ⟨rfl, hb2⟩
    go_wp2
    go_ret
    exact ⟨ret_bool (by rw [HR.out]; rfl), (by repeat (first | exact Below.refl _ _ | assumption | refine below_drewN ?_ _ | refine Below.setCell ?_ (by first | (simp; done) | (simp; omega)) _ | refine Below.alloc ?_ (by first | (simp; done) | (simp; omega) | omega) _ | refine Below.drew ?_ | refine Below.trans ?_ (Below.mono (by assumption) (by first | (simp; done) | (simp; omega) | omega))))⟩
  · go_wp2_with (go_at_call 32; refine (isDay_any _ _).mono ?_; rintro e w' ⟨rfl, rfl⟩; rw [decide_eq_true HD.out])
    go_ret
    exact ⟨ret_bool (by rw [HR.out]; rfl), (by repeat (first | exact Below.refl _ _ | assumption | refine below_drewN ?_ _ | refine Below.setCell ?_ (by first | (simp; done) | (simp; omega)) _ | refine Below.alloc ?_ (by first | (simp; done) | (simp; omega) | omega) _ | refine Below.drew ?_ | refine Below.trans ?_ (Below.mono (by assumption) (by first | (simp; done) | (simp; omega) | omega))))⟩
end Go.Proofs.YtlbfnafniobnaaaDoor

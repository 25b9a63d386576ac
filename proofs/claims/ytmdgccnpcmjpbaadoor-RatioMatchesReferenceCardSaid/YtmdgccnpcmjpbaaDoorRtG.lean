/- The walks of ratio.Cmp, Floor, Round. -/
import Derived.Test.YtmdgccnpcmjpbaaDoorRtD
import Derived.Test.YtmdgccnpcmjpbaaDoorShelf
namespace Go.Proofs.YtmdgccnpcmjpbaaDoor
open Go.RowKit

def cmpI (x y : Int) : Int := if x < y then -1 else if y < x then 1 else 0
theorem cmpI_eq (x y : Int) : Lib.compareInt x y = cmpI x y := by unfold Lib.compareInt cmpI; grind
theorem compare_any (x y : Int) (w : World) : Calls Tryd.prog 36 #[.int .i64 x, .int .i64 y] w fun e w' => e = .returned (.int .i64 (cmpI x y)) ∧ w = w' :=
  (Tryd.cmp_Compare_int x y w).mono fun _ _ ⟨he, hw⟩ => ⟨by rw [he, cmpI_eq], hw.symm⟩

theorem tdiv_facts {x d : Int} (hd : 0 < d) :
    (x.tmod d < 0 → x.tdiv d - 1 = x / d ∧ x.tmod d + d = x % d) ∧ (¬ x.tmod d < 0 → x.tdiv d = x / d ∧ x.tmod d = x % d) ∧ -d < x.tmod d ∧ x.tmod d < d ∧ (x.tdiv d).natAbs ≤ x.natAbs := by
  have e1 := Int.tdiv_mul_add_tmod x d
  have t1 : x.tmod d < d := Int.tmod_lt_of_pos x hd
  have t2 : -d < x.tmod d := by
    have h : (x.tmod d).natAbs < d.natAbs := by rw [Int.natAbs_tmod]; exact Nat.mod_lt _ (by omega)
    omega
  have t3 : (x.tdiv d).natAbs ≤ x.natAbs := by rw [Int.natAbs_tdiv]; exact Nat.div_le_self _ _
  refine ⟨fun h => ?_, fun h => ?_, t2, t1, t3⟩
  · obtain ⟨u, v⟩ := (Int.ediv_emod_unique (a := x) (b := d) (q := x.tdiv d - 1) (r := x.tmod d + d) hd).2 ⟨by rw [Int.mul_sub]; rw [Int.mul_comm] at e1; omega, by omega, by omega⟩
    exact ⟨u.symm, v.symm⟩
  · obtain ⟨u, v⟩ := (Int.ediv_emod_unique (a := x) (b := d) (q := x.tdiv d) (r := x.tmod d) hd).2 ⟨by rw [Int.mul_comm] at e1; omega, by omega, by omega⟩
    exact ⟨u.symm, v.symm⟩
set_option maxHeartbeats 400000 in
theorem divide_any (x d : Int) (w : World) (h1 : -9000000000000000000 ≤ x) (h2 : x ≤ 9000000000000000000) (d1 : 1 ≤ d) (d2 : d ≤ 1000000) :
    Calls Tryd.prog 35 #[.int .i64 x, .int .i64 d] w fun e w' => e = .returned (.tuple #[.int .i64 (x / d), .int .i64 (x % d)]) ∧ Below w.heap.size w w' := by
  obtain ⟨f1, f2, f3, f4, f5⟩ := tdiv_facts (x := x) (d := d) (by omega)
  have F1 := Lib.hid f1
  have F2 := Lib.hid f2
  clear f1 f2
  have f6 : -9000000000000000000 ≤ x.tdiv d ∧ x.tdiv d ≤ 9000000000000000000 := by omega
  clear f5
  by_cases ht : x.tmod d < 0
  · obtain ⟨q1, q2⟩ := F1.out ht
    have Q1 := Lib.hid q1
    have Q2 := Lib.hid q2
    clear q1 q2 F1 F2
    go_enter Tryd.func35, Tryd.ntmps35
    go_wp2
    go_quiet (fail)
    go_wp2
    go_ret2
    exact ⟨by rw [← Q1.out, ← Q2.out]; rfl, (by repeat (first | exact Below.refl _ _ | assumption | refine below_drewN ?_ _ | refine Below.setCell ?_ (by first | (simp; done) | (simp; omega)) _ | refine Below.alloc ?_ (by first | (simp; done) | (simp; omega) | omega) _ | refine Below.drew ?_ | refine Below.trans ?_ (Below.mono (by assumption) (by first | (simp; done) | (simp; omega) | omega))))⟩
  · obtain ⟨q1, q2⟩ := F2.out ht
    have Q1 := Lib.hid q1
    have Q2 := Lib.hid q2
    clear q1 q2 F1 F2
    go_enter Tryd.func35, Tryd.ntmps35
    go_wp2
    go_quiet (fail)
    go_wp2
    go_ret2
    exact ⟨by rw [← Q1.out, ← Q2.out]; rfl, (by repeat (first | exact Below.refl _ _ | assumption | refine below_drewN ?_ _ | refine Below.setCell ?_ (by first | (simp; done) | (simp; omega)) _ | refine Below.alloc ?_ (by first | (simp; done) | (simp; omega) | omega) _ | refine Below.drew ?_ | refine Below.trans ?_ (Below.mono (by assumption) (by first | (simp; done) | (simp; omega) | omega))))⟩
set_option maxHeartbeats 800000 in
theorem cmp_ok (an ad bn bd : Int) (w : World) (ha : Rt.Ok an ad) (hb : Rt.Ok bn bd) :
    Calls Tryd.prog 21 #[.agg #[.int .i64 an, .int .i64 ad], .agg #[.int .i64 bn, .int .i64 bd]] w fun e w' => e = .returned (.int .i64 (cmpI (an * bd) (bn * ad))) ∧ Below w.heap.size w w' := by
  have HA := Lib.hid ha
  have HB := Lib.hid hb
  obtain ⟨a1, a2, a3, a4, _⟩ := ha
  obtain ⟨d1, d2, d3, d4, _⟩ := hb
  have m1 := mulb a3 a4 d1 d2 (by omega)
  have m2 := mulb d3 d4 a1 a2 (by omega)
  go_enter Tryd.func21, Tryd.ntmps21
  go_wp2_with fail
  refine (valid_true _ _ _ HA.out).mono ?_
  rintro e w1 ⟨rfl, hb1⟩
  obtain ⟨hc1, hf1⟩ := bcell hb1
  have hz1 := hb1.size
  simp at hz1
  go_wp2_with fail
  refine (valid_true _ _ _ HB.out).mono ?_
  rintro e w2 ⟨rfl, hb2⟩
  obtain ⟨hc2, hf2⟩ := bcell hb2
  have hz2 := hb2.size
  have hl1 : w.heap.size < w1.heap.size := by omega
  have hl2 : w.heap.size + 1 < w1.heap.size := by omega
  clear HA HB
  go_wp2_with fail
  refine (compare_any _ _ _).mono ?_
  rintro e w3 ⟨rfl, rfl⟩
  go_wp2
  go_ret
  exact ⟨rfl, (by repeat (first | exact Below.refl _ _ | assumption | refine below_drewN ?_ _ | refine Below.setCell ?_ (by first | (simp; done) | (simp; omega)) _ | refine Below.alloc ?_ (by first | (simp; done) | (simp; omega) | omega) _ | refine Below.drew ?_ | refine Below.trans ?_ (Below.mono (by assumption) (by first | (simp; done) | (simp; omega) | omega))))⟩
set_option maxHeartbeats 800000 in
theorem cmp_no (an ad bn bd : Int) (w : World) (ka1 : -9223372036854775808 ≤ an) (ka2 : an ≤ 9223372036854775807) (kb1 : -9223372036854775808 ≤ bn) (kb2 : bn ≤ 9223372036854775807) (h : ¬ (Rt.Ok an ad ∧ Rt.Ok bn bd)) :
    Calls Tryd.prog 21 #[.agg #[.int .i64 an, .int .i64 ad], .agg #[.int .i64 bn, .int .i64 bd]] w fun e w' => e = .returned (.int .i64 0) ∧ Below w.heap.size w w' := by
  by_cases ha : Rt.Ok an ad
  · have hb : ¬ Rt.Ok bn bd := fun hb => h ⟨ha, hb⟩
    have HA := Lib.hid ha
    have HB := Lib.hid hb
    clear h ha hb
    go_enter Tryd.func21, Tryd.ntmps21
    go_wp2_with fail
    refine (valid_true _ _ _ HA.out).mono ?_
    rintro e w1 ⟨rfl, hb1⟩
    obtain ⟨hc1, hf1⟩ := bcell hb1
    have hz1 := hb1.size
    simp at hz1
    go_wp2_with fail
    refine (valid_false _ _ _ kb1 kb2 HB.out).mono ?_
    rintro e w2 ⟨rfl, hb2⟩
    have hz2 := hb2.size
    go_wp2
    go_ret
    exact ⟨rfl, (by repeat (first | exact Below.refl _ _ | assumption | refine below_drewN ?_ _ | refine Below.setCell ?_ (by first | (simp; done) | (simp; omega)) _ | refine Below.alloc ?_ (by first | (simp; done) | (simp; omega) | omega) _ | refine Below.drew ?_ | refine Below.trans ?_ (Below.mono (by assumption) (by first | (simp; done) | (simp; omega) | omega))))⟩
  · have HA := Lib.hid ha
    clear h ha
    go_enter Tryd.func21, Tryd.ntmps21
    go_wp2_with fail
    refine (valid_false _ _ _ ka1 ka2 HA.out).mono ?_
    rintro e w1 ⟨rfl, hb1⟩
    obtain ⟨hc1, hf1⟩ := bcell hb1
    have hz1 := hb1.size
    simp at hz1
    go_wp2
    go_ret
    exact ⟨rfl, (by repeat (first | exact Below.refl _ _ | assumption | refine below_drewN ?_ _ | refine Below.setCell ?_ (by first | (simp; done) | (simp; omega)) _ | refine Below.alloc ?_ (by first | (simp; done) | (simp; omega) | omega) _ | refine Below.drew ?_ | refine Below.trans ?_ (Below.mono (by assumption) (by first | (simp; done) | (simp; omega) | omega))))⟩
theorem cmp_any (an ad bn bd : Int) (w : World) (ka1 : -9223372036854775808 ≤ an) (ka2 : an ≤ 9223372036854775807) (kb1 : -9223372036854775808 ≤ bn) (kb2 : bn ≤ 9223372036854775807) :
    Calls Tryd.prog 21 #[.agg #[.int .i64 an, .int .i64 ad], .agg #[.int .i64 bn, .int .i64 bd]] w fun e w' => e = .returned (.int .i64 (Rt.cmpS an ad bn bd)) ∧ Below w.heap.size w w' := by
  unfold Rt.cmpS
  by_cases h : Rt.Ok an ad ∧ Rt.Ok bn bd
  · rw [if_pos h]; exact cmp_ok an ad bn bd w h.1 h.2
  · rw [if_neg h]; exact cmp_no an ad bn bd w ka1 ka2 kb1 kb2 h
set_option maxHeartbeats 800000 in
theorem floor_ok (n d : Int) (w : World) (ha : Rt.Ok n d) :
    Calls Tryd.prog 23 #[.agg #[.int .i64 n, .int .i64 d]] w fun e w' => e = .returned (.int .i64 (n / d)) ∧ Below w.heap.size w w' := by
  have HA := Lib.hid ha
  obtain ⟨a1, a2, a3, a4, _⟩ := ha
  go_enter Tryd.func23, Tryd.ntmps23
  go_wp2_with fail
  refine (valid_true _ _ _ HA.out).mono ?_
  rintro e w1 ⟨rfl, hb1⟩
  obtain ⟨hc1, hf1⟩ := bcell hb1
  have hz1 := hb1.size
  simp at hz1
  have hl1 : w.heap.size < w1.heap.size := by omega
  go_wp2_with fail
  refine (divide_any _ _ _ (by omega) (by omega) a1 a2).mono ?_
  rintro e w2 ⟨rfl, hb2⟩
  have hz2 := hb2.size
  go_wp2
  go_ret
  exact ⟨rfl, (by repeat (first | exact Below.refl _ _ | assumption | refine below_drewN ?_ _ | refine Below.setCell ?_ (by first | (simp; done) | (simp; omega)) _ | refine Below.alloc ?_ (by first | (simp; done) | (simp; omega) | omega) _ | refine Below.drew ?_ | refine Below.trans ?_ (Below.mono (by assumption) (by first | (simp; done) | (simp; omega) | omega))))⟩
set_option maxHeartbeats 800000 in
theorem floor_no (n d : Int) (w : World) (k1 : -9223372036854775808 ≤ n) (k2 : n ≤ 9223372036854775807) (h : ¬ Rt.Ok n d) :
    Calls Tryd.prog 23 #[.agg #[.int .i64 n, .int .i64 d]] w fun e w' => e = .returned (.int .i64 0) ∧ Below w.heap.size w w' := by
  have HA := Lib.hid h
  clear h
  go_enter Tryd.func23, Tryd.ntmps23
  go_wp2_with fail
  refine (valid_false _ _ _ k1 k2 HA.out).mono ?_
  rintro e w1 ⟨rfl, hb1⟩
  have hz1 := hb1.size
  simp at hz1
  go_wp2
  go_ret
  exact ⟨rfl, (by repeat (first | exact Below.refl _ _ | assumption | refine below_drewN ?_ _ | refine Below.setCell ?_ (by first | (simp; done) | (simp; omega)) _ | refine Below.alloc ?_ (by first | (simp; done) | (simp; omega) | omega) _ | refine Below.drew ?_ | refine Below.trans ?_ (Below.mono (by assumption) (by first | (simp; done) | (simp; omega) | omega))))⟩
theorem floor_any (n d : Int) (w : World) (k1 : -9223372036854775808 ≤ n) (k2 : n ≤ 9223372036854775807) :
    Calls Tryd.prog 23 #[.agg #[.int .i64 n, .int .i64 d]] w fun e w' => e = .returned (.int .i64 (Rt.floorS n d)) ∧ Below w.heap.size w w' := by
  unfold Rt.floorS
  by_cases h : Rt.Ok n d
  · rw [if_pos h]; exact floor_ok n d w h
  · rw [if_neg h]; exact floor_no n d w k1 k2 h
end Go.Proofs.YtmdgccnpcmjpbaaDoor

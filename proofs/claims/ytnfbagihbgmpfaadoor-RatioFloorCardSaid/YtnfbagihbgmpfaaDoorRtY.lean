/- RatioFloor: the walk of the law. -/
import Derived.Test.YtnfbagihbgmpfaaDoorRtK
import Derived.Test.YtnfbagihbgmpfaaDoorRtMath4
namespace Go.Proofs.YtnfbagihbgmpfaaDoor
open Go.RowKit

set_option maxRecDepth 100000 in
set_option maxHeartbeats 4000000 in
theorem fl_no (an ad raw : Int) (w : World) (hE : Env w) (ka1 : -9223372036854775808 ≤ an) (ka2 : an ≤ 9223372036854775807) (ha : ¬ Rt.Ok an ad) :
    Calls Tryd.prog 7 #[.agg #[.int .i64 an, .int .i64 ad], .int .i64 raw] w fun e w' => e = .returned (.bool true) ∧ Below w.heap.size w w' := by
  have HE := Lib.hid hE
  clear hE
  have hf : Rt.floorS an ad = 0 := by unfold Rt.floorS; rw [if_neg ha]
  have HF := Lib.hid hf
  have HA := Lib.hid ha
  clear ha hf
  go_enter Tryd.func7, Tryd.ntmps7
  go_wp2_with fail
  refine (head_any _ (HE.out.below (by repeat (first | exact Below.refl _ _ | assumption | refine below_drewN ?_ _ | refine Below.setCell ?_ (by first | (simp; done) | (simp; omega)) _ | refine Below.alloc ?_ (by first | (simp; done) | (simp; omega) | omega) _ | refine Below.drew ?_ | refine Below.trans ?_ (Below.mono (by assumption) (by first | (simp; done) | (simp; omega) | omega)))))).mono ?_
  rintro e w1 ⟨rfl, hb1⟩
  have hz1 := hb1.size
  (try simp at hz1)
  have l1_a : w.heap.size < w1.heap.size := by omega
  have a1_a : w1.cell? ⟨w.heap.size, 0, none⟩ = some (.int .i64 (an)) := cell_keep hb1 (by go_simp)
  have c1_a : w1.cell? ⟨w.heap.size, 1, none⟩ = some (.int .i64 (ad)) := cell_keep hb1 (by go_simp)
  have be1 : Below w.heap.size w w1 := (by repeat (first | exact Below.refl _ _ | assumption | refine below_drewN ?_ _ | refine Below.setCell ?_ (by first | (simp; done) | (simp; omega)) _ | refine Below.alloc ?_ (by first | (simp; done) | (simp; omega) | omega) _ | refine Below.drew ?_ | refine Below.trans ?_ (Below.mono (by assumption) (by first | (simp; done) | (simp; omega) | omega))))
  clear hb1
  go_wp2_with fail
  refine (valid_false _ _ _ ka1 ka2 HA.out).mono ?_
  rintro e w2 ⟨rfl, hb2⟩
  have hz2 := hb2.size
  (try simp at hz2)
  have bb2 : Below w1.heap.size w1 w2 := (by repeat (first | exact Below.refl _ _ | assumption | refine below_drewN ?_ _ | refine Below.setCell ?_ (by first | (simp; done) | (simp; omega)) _ | refine Below.alloc ?_ (by first | (simp; done) | (simp; omega) | omega) _ | refine Below.drew ?_ | refine Below.trans ?_ (Below.mono (by assumption) (by first | (simp; done) | (simp; omega) | omega))))
  have l2_a : w.heap.size < w2.heap.size := by omega
  have a2_a : w2.cell? ⟨w.heap.size, 0, none⟩ = some (.int .i64 (an)) := cell_keep bb2 a1_a
  have c2_a : w2.cell? ⟨w.heap.size, 1, none⟩ = some (.int .i64 (ad)) := cell_keep bb2 c1_a
  have be2 : Below w.heap.size w w2 := (by repeat (first | exact Below.refl _ _ | assumption | refine below_drewN ?_ _ | refine Below.setCell ?_ (by first | (simp; done) | (simp; omega)) _ | refine Below.alloc ?_ (by first | (simp; done) | (simp; omega) | omega) _ | refine Below.drew ?_ | refine Below.trans ?_ (Below.mono (by assumption) (by first | (simp; done) | (simp; omega) | omega))))
  clear hb2 bb2 be1 l1_a a1_a c1_a
  go_wp2_with fail
  refine (floor_any an ad _ ka1 ka2).mono ?_
  rintro e w3 ⟨rfl, hb3⟩
  rw [HF.out]
  have hz3 := hb3.size
  (try simp at hz3)
  have bb3 : Below w2.heap.size w2 w3 := (by repeat (first | exact Below.refl _ _ | assumption | refine below_drewN ?_ _ | refine Below.setCell ?_ (by first | (simp; done) | (simp; omega)) _ | refine Below.alloc ?_ (by first | (simp; done) | (simp; omega) | omega) _ | refine Below.drew ?_ | refine Below.trans ?_ (Below.mono (by assumption) (by first | (simp; done) | (simp; omega) | omega))))
  have l3_a : w.heap.size < w3.heap.size := by omega
  have a3_a : w3.cell? ⟨w.heap.size, 0, none⟩ = some (.int .i64 (an)) := cell_keep bb3 a2_a
  have c3_a : w3.cell? ⟨w.heap.size, 1, none⟩ = some (.int .i64 (ad)) := cell_keep bb3 c2_a
  have be3 : Below w.heap.size w w3 := (by repeat (first | exact Below.refl _ _ | assumption | refine below_drewN ?_ _ | refine Below.setCell ?_ (by first | (simp; done) | (simp; omega)) _ | refine Below.alloc ?_ (by first | (simp; done) | (simp; omega) | omega) _ | refine Below.drew ?_ | refine Below.trans ?_ (Below.mono (by assumption) (by first | (simp; done) | (simp; omega) | omega))))
  clear hb3 bb3 be2 l2_a a2_a c2_a
  go_wp2
  go_ret
  exact ⟨rfl, (by repeat (first | exact Below.refl _ _ | assumption | refine below_drewN ?_ _ | refine Below.setCell ?_ (by first | (simp; done) | (simp; omega)) _ | refine Below.alloc ?_ (by first | (simp; done) | (simp; omega) | omega) _ | refine Below.drew ?_ | refine Below.trans ?_ (Below.mono (by assumption) (by first | (simp; done) | (simp; omega) | omega))))⟩
set_option maxRecDepth 100000 in
set_option maxHeartbeats 4000000 in
theorem fl_far (an ad raw : Int) (w : World) (hE : Env w) (ha : Rt.Ok an ad) (n k s1 s2 se : Int) (hn : raw.tmod 1000001 = n) (hk : Rt.floorS an ad = k) (hs : Rt.addS an ad n 1 = (s1, s2, se)) (k1 : k * ad ≤ an) (k2 : an < (k + 1) * ad) (he : ¬ se = 0) :
    Calls Tryd.prog 7 #[.agg #[.int .i64 an, .int .i64 ad], .int .i64 raw] w fun e w' => e = .returned (.bool true) ∧ Below w.heap.size w w' := by
  have HE := Lib.hid hE
  clear hE
  obtain ⟨_, _, g1, g2, _⟩ := tdiv_facts (x := raw) (d := 1000001) (by omega)
  rw [hn] at g1 g2
  have HA := Lib.hid ha
  have HN := Lib.hid hn
  have HK := Lib.hid hk
  have HS := Lib.hid hs
  obtain ⟨a1, a2, a3, a4, _⟩ := ha
  have k3 : -1000000000000 ≤ k ∧ k ≤ 1000000000000 := by
    have e := Rt.ediv_abs an ad a1
    have hk' : an / ad = k := by rw [← hk]; unfold Rt.floorS; rw [if_pos HA.out]
    rw [hk'] at e; omega
  have k4 := mulb k3.1 k3.2 a1 a2 (by omega)
  have k5 := mulb (a := k + 1) (m := 1000000000001) (by omega) (by omega) a1 a2 (by omega)
  have lt2 : ∀ m : Nat, m < m + 1 + 1 := by omega
  have lt3 : ∀ m : Nat, m < m + 1 + 1 + 1 := by omega
  clear hn hk hs
  have he1 : (se == 0) = false := by simpa using he
  have he2 : (se != 0) = true := by simpa using he
  go_enter Tryd.func7, Tryd.ntmps7
  go_wp2_with fail
  refine (head_any _ (HE.out.below (by repeat (first | exact Below.refl _ _ | assumption | refine below_drewN ?_ _ | refine Below.setCell ?_ (by first | (simp; done) | (simp; omega)) _ | refine Below.alloc ?_ (by first | (simp; done) | (simp; omega) | omega) _ | refine Below.drew ?_ | refine Below.trans ?_ (Below.mono (by assumption) (by first | (simp; done) | (simp; omega) | omega)))))).mono ?_
  rintro e w1 ⟨rfl, hb1⟩
  have hz1 := hb1.size
  (try simp at hz1)
  have l1_a : w.heap.size < w1.heap.size := by omega
  have a1_a : w1.cell? ⟨w.heap.size, 0, none⟩ = some (.int .i64 (an)) := cell_keep hb1 (by go_simp)
  have c1_a : w1.cell? ⟨w.heap.size, 1, none⟩ = some (.int .i64 (ad)) := cell_keep hb1 (by go_simp)
  have be1 : Below w.heap.size w w1 := (by repeat (first | exact Below.refl _ _ | assumption | refine below_drewN ?_ _ | refine Below.setCell ?_ (by first | (simp; done) | (simp; omega)) _ | refine Below.alloc ?_ (by first | (simp; done) | (simp; omega) | omega) _ | refine Below.drew ?_ | refine Below.trans ?_ (Below.mono (by assumption) (by first | (simp; done) | (simp; omega) | omega))))
  clear hb1
  go_wp2_with fail
  refine (valid_true _ _ _ HA.out).mono ?_
  rintro e w2 ⟨rfl, hb2⟩
  have hz2 := hb2.size
  (try simp at hz2)
  have bb2 : Below w1.heap.size w1 w2 := (by repeat (first | exact Below.refl _ _ | assumption | refine below_drewN ?_ _ | refine Below.setCell ?_ (by first | (simp; done) | (simp; omega)) _ | refine Below.alloc ?_ (by first | (simp; done) | (simp; omega) | omega) _ | refine Below.drew ?_ | refine Below.trans ?_ (Below.mono (by assumption) (by first | (simp; done) | (simp; omega) | omega))))
  have l2_a : w.heap.size < w2.heap.size := by omega
  have a2_a : w2.cell? ⟨w.heap.size, 0, none⟩ = some (.int .i64 (an)) := cell_keep bb2 a1_a
  have c2_a : w2.cell? ⟨w.heap.size, 1, none⟩ = some (.int .i64 (ad)) := cell_keep bb2 c1_a
  have be2 : Below w.heap.size w w2 := (by repeat (first | exact Below.refl _ _ | assumption | refine below_drewN ?_ _ | refine Below.setCell ?_ (by first | (simp; done) | (simp; omega)) _ | refine Below.alloc ?_ (by first | (simp; done) | (simp; omega) | omega) _ | refine Below.drew ?_ | refine Below.trans ?_ (Below.mono (by assumption) (by first | (simp; done) | (simp; omega) | omega))))
  clear hb2 bb2 be1 l1_a a1_a c1_a
  go_wp2_with fail
  refine (floor_any an ad _ (by omega) (by omega)).mono ?_
  rintro e w3 ⟨rfl, hb3⟩
  rw [HK.out]
  have hz3 := hb3.size
  (try simp at hz3)
  have bb3 : Below w2.heap.size w2 w3 := (by repeat (first | exact Below.refl _ _ | assumption | refine below_drewN ?_ _ | refine Below.setCell ?_ (by first | (simp; done) | (simp; omega)) _ | refine Below.alloc ?_ (by first | (simp; done) | (simp; omega) | omega) _ | refine Below.drew ?_ | refine Below.trans ?_ (Below.mono (by assumption) (by first | (simp; done) | (simp; omega) | omega))))
  have l3_a : w.heap.size < w3.heap.size := by omega
  have a3_a : w3.cell? ⟨w.heap.size, 0, none⟩ = some (.int .i64 (an)) := cell_keep bb3 a2_a
  have c3_a : w3.cell? ⟨w.heap.size, 1, none⟩ = some (.int .i64 (ad)) := cell_keep bb3 c2_a
  have be3 : Below w.heap.size w w3 := (by repeat (first | exact Below.refl _ _ | assumption | refine below_drewN ?_ _ | refine Below.setCell ?_ (by first | (simp; done) | (simp; omega)) _ | refine Below.alloc ?_ (by first | (simp; done) | (simp; omega) | omega) _ | refine Below.drew ?_ | refine Below.trans ?_ (Below.mono (by assumption) (by first | (simp; done) | (simp; omega) | omega))))
  clear hb3 bb3 be2 l2_a a2_a c2_a
  go_wp2_with fail
  rw [HN.out]
  go_region_with (first | (go_at_call 36; refine (of_w _ _ _).mono ?_; rintro e w' ⟨rfl, rfl⟩) | (go_at_call 18; refine (add_any an ad n 1 _ (by omega) (by omega) (by omega) (by omega)).mono ?_; rintro e w4 ⟨rfl, hb4⟩; rw [HS.out]; simp only [RV]; obtain ⟨hc4, hf4⟩ := bcell hb4; have hz4 := hb4.size; (try simp at hz4)))
  all_goals
    go_wp2
    go_ret
    exact ⟨rfl, (by repeat (first | exact Below.refl _ _ | assumption | refine below_drewN ?_ _ | refine Below.setCell ?_ (by first | (simp; done) | (simp; omega)) _ | refine Below.alloc ?_ (by first | (simp; done) | (simp; omega) | omega) _ | refine Below.drew ?_ | refine Below.trans ?_ (Below.mono (by assumption) (by first | (simp; done) | (simp; omega) | omega))))⟩
set_option maxRecDepth 100000 in
set_option maxHeartbeats 4000000 in
theorem fl_in (an ad raw : Int) (w : World) (hE : Env w) (ha : Rt.Ok an ad) (n k s1 s2 : Int) (hn : raw.tmod 1000001 = n) (hk : Rt.floorS an ad = k) (hs : Rt.addS an ad n 1 = (s1, s2, 0)) (k1 : k * ad ≤ an) (k2 : an < (k + 1) * ad) (ho : Rt.Ok s1 s2) (hg : Rt.floorS s1 s2 = k + n) :
    Calls Tryd.prog 7 #[.agg #[.int .i64 an, .int .i64 ad], .int .i64 raw] w fun e w' => e = .returned (.bool true) ∧ Below w.heap.size w w' := by
  have HE := Lib.hid hE
  clear hE
  obtain ⟨_, _, g1, g2, _⟩ := tdiv_facts (x := raw) (d := 1000001) (by omega)
  rw [hn] at g1 g2
  have HA := Lib.hid ha
  have HN := Lib.hid hn
  have HK := Lib.hid hk
  have HS := Lib.hid hs
  obtain ⟨a1, a2, a3, a4, _⟩ := ha
  have k3 : -1000000000000 ≤ k ∧ k ≤ 1000000000000 := by
    have e := Rt.ediv_abs an ad a1
    have hk' : an / ad = k := by rw [← hk]; unfold Rt.floorS; rw [if_pos HA.out]
    rw [hk'] at e; omega
  have k4 := mulb k3.1 k3.2 a1 a2 (by omega)
  have k5 := mulb (a := k + 1) (m := 1000000000001) (by omega) (by omega) a1 a2 (by omega)
  have lt2 : ∀ m : Nat, m < m + 1 + 1 := by omega
  have lt3 : ∀ m : Nat, m < m + 1 + 1 + 1 := by omega
  clear hn hk hs
  have o3 := ho.2.2.1
  have o4 := ho.2.2.2.1
  have HG := Lib.hid hg
  clear hg ho
  have ek : (k + n == k + n) = true := by simp
  go_enter Tryd.func7, Tryd.ntmps7
  go_wp2_with fail
  refine (head_any _ (HE.out.below (by repeat (first | exact Below.refl _ _ | assumption | refine below_drewN ?_ _ | refine Below.setCell ?_ (by first | (simp; done) | (simp; omega)) _ | refine Below.alloc ?_ (by first | (simp; done) | (simp; omega) | omega) _ | refine Below.drew ?_ | refine Below.trans ?_ (Below.mono (by assumption) (by first | (simp; done) | (simp; omega) | omega)))))).mono ?_
  rintro e w1 ⟨rfl, hb1⟩
  have hz1 := hb1.size
  (try simp at hz1)
  have l1_a : w.heap.size < w1.heap.size := by omega
  have a1_a : w1.cell? ⟨w.heap.size, 0, none⟩ = some (.int .i64 (an)) := cell_keep hb1 (by go_simp)
  have c1_a : w1.cell? ⟨w.heap.size, 1, none⟩ = some (.int .i64 (ad)) := cell_keep hb1 (by go_simp)
  have be1 : Below w.heap.size w w1 := (by repeat (first | exact Below.refl _ _ | assumption | refine below_drewN ?_ _ | refine Below.setCell ?_ (by first | (simp; done) | (simp; omega)) _ | refine Below.alloc ?_ (by first | (simp; done) | (simp; omega) | omega) _ | refine Below.drew ?_ | refine Below.trans ?_ (Below.mono (by assumption) (by first | (simp; done) | (simp; omega) | omega))))
  clear hb1
  go_wp2_with fail
  refine (valid_true _ _ _ HA.out).mono ?_
  rintro e w2 ⟨rfl, hb2⟩
  have hz2 := hb2.size
  (try simp at hz2)
  have bb2 : Below w1.heap.size w1 w2 := (by repeat (first | exact Below.refl _ _ | assumption | refine below_drewN ?_ _ | refine Below.setCell ?_ (by first | (simp; done) | (simp; omega)) _ | refine Below.alloc ?_ (by first | (simp; done) | (simp; omega) | omega) _ | refine Below.drew ?_ | refine Below.trans ?_ (Below.mono (by assumption) (by first | (simp; done) | (simp; omega) | omega))))
  have l2_a : w.heap.size < w2.heap.size := by omega
  have a2_a : w2.cell? ⟨w.heap.size, 0, none⟩ = some (.int .i64 (an)) := cell_keep bb2 a1_a
  have c2_a : w2.cell? ⟨w.heap.size, 1, none⟩ = some (.int .i64 (ad)) := cell_keep bb2 c1_a
  have be2 : Below w.heap.size w w2 := (by repeat (first | exact Below.refl _ _ | assumption | refine below_drewN ?_ _ | refine Below.setCell ?_ (by first | (simp; done) | (simp; omega)) _ | refine Below.alloc ?_ (by first | (simp; done) | (simp; omega) | omega) _ | refine Below.drew ?_ | refine Below.trans ?_ (Below.mono (by assumption) (by first | (simp; done) | (simp; omega) | omega))))
  clear hb2 bb2 be1 l1_a a1_a c1_a
  go_wp2_with fail
  refine (floor_any an ad _ (by omega) (by omega)).mono ?_
  rintro e w3 ⟨rfl, hb3⟩
  rw [HK.out]
  have hz3 := hb3.size
  (try simp at hz3)
  have bb3 : Below w2.heap.size w2 w3 := (by repeat (first | exact Below.refl _ _ | assumption | refine below_drewN ?_ _ | refine Below.setCell ?_ (by first | (simp; done) | (simp; omega)) _ | refine Below.alloc ?_ (by first | (simp; done) | (simp; omega) | omega) _ | refine Below.drew ?_ | refine Below.trans ?_ (Below.mono (by assumption) (by first | (simp; done) | (simp; omega) | omega))))
  have l3_a : w.heap.size < w3.heap.size := by omega
  have a3_a : w3.cell? ⟨w.heap.size, 0, none⟩ = some (.int .i64 (an)) := cell_keep bb3 a2_a
  have c3_a : w3.cell? ⟨w.heap.size, 1, none⟩ = some (.int .i64 (ad)) := cell_keep bb3 c2_a
  have be3 : Below w.heap.size w w3 := (by repeat (first | exact Below.refl _ _ | assumption | refine below_drewN ?_ _ | refine Below.setCell ?_ (by first | (simp; done) | (simp; omega)) _ | refine Below.alloc ?_ (by first | (simp; done) | (simp; omega) | omega) _ | refine Below.drew ?_ | refine Below.trans ?_ (Below.mono (by assumption) (by first | (simp; done) | (simp; omega) | omega))))
  clear hb3 bb3 be2 l2_a a2_a c2_a
  go_wp2_with fail
  rw [HN.out]
  go_region_with (first | (go_at_call 36; refine (of_w _ _ _).mono ?_; rintro e w' ⟨rfl, rfl⟩) | (go_at_call 18; refine (add_any an ad n 1 _ (by omega) (by omega) (by omega) (by omega)).mono ?_; rintro e w4 ⟨rfl, hb4⟩; rw [HS.out]; simp only [RV]; obtain ⟨hc4, hf4⟩ := bcell hb4; have hz4 := hb4.size; (try simp at hz4)))
  all_goals
    go_wp2_with fail
    refine (floor_any s1 s2 _ (by omega) (by omega)).mono ?_
    rintro e w5 ⟨rfl, hb5⟩
    rw [HG.out]
    have hz5 := hb5.size
    (try simp at hz5)
    go_wp2
    go_ret
    exact ⟨rfl, (by repeat (first | exact Below.refl _ _ | assumption | refine below_drewN ?_ _ | refine Below.setCell ?_ (by first | (simp; done) | (simp; omega)) _ | refine Below.alloc ?_ (by first | (simp; done) | (simp; omega) | omega) _ | refine Below.drew ?_ | refine Below.trans ?_ (Below.mono (by assumption) (by first | (simp; done) | (simp; omega) | omega))))⟩
theorem ok_int {n : Int} (h1 : -1000000000000 ≤ n) (h2 : n ≤ 1000000000000) : Rt.Ok n 1 := ⟨by omega, by omega, h1, h2, by simp⟩
theorem floor_law (an ad raw : Int) (w : World) (ka1 : -9223372036854775808 ≤ an) (ka2 : an ≤ 9223372036854775807) (_ : -9223372036854775808 ≤ ad) (_ : ad ≤ 9223372036854775807)
    (_ : -9223372036854775808 ≤ raw) (_ : raw ≤ 9223372036854775807) (hE : Env w) :
    Calls Tryd.prog 7 #[.agg #[.int .i64 an, .int .i64 ad], .int .i64 raw] w fun e w' => e = .returned (.bool true) ∧ Below w.heap.size w w' := by
  by_cases ha : Rt.Ok an ad
  · obtain ⟨n, hn⟩ : ∃ n, raw.tmod 1000001 = n := ⟨_, rfl⟩
    obtain ⟨_, _, g1, g2, _⟩ := tdiv_facts (x := raw) (d := 1000001) (by omega)
    rw [hn] at g1 g2
    have hk : Rt.floorS an ad = an / ad := by unfold Rt.floorS; rw [if_pos ha]
    obtain ⟨f1, f2⟩ := Rt.floor_le (n := an) (Rt.ok_pos ha)
    have hi : Rt.Ok n 1 := ok_int (by omega) (by omega)
    have hs : Rt.addS an ad n 1 = Rt.mk (an * 1 + n * ad) (ad * 1) := by unfold Rt.addS; rw [if_pos ⟨ha, hi⟩]
    have d0 : ad * 1 ≠ 0 := by have := ha.1; omega
    rcases Rt.mk_ok (n := an * 1 + n * ad) d0 with ⟨s1, s2, e1, e2, e3, _⟩ | ⟨e1, _⟩
    · refine fl_in an ad raw w hE ha n _ s1 s2 hn hk (hs.trans e1) f1 f2 e2 ?_
      unfold Rt.floorS
      rw [if_pos e2]
      exact Rt.floor_shift (Rt.ok_pos ha) (Rt.ok_pos e2) e3
    · exact fl_far an ad raw w hE ha n _ 0 0 2 hn hk (hs.trans e1) f1 f2 (by omega)
  · exact fl_no an ad raw w hE ka1 ka2 ha
end Go.Proofs.YtnfbagihbgmpfaaDoor

/- The walk of date.Months. -/
import Derived.Test.YtlbfnafniobnaaaDoorDtC
import Derived.Deep.RegionHeld3
namespace Go.Proofs.YtlbfnafniobnaaaDoor
open Go.RowKit

set_option maxHeartbeats 800000 in
theorem months_bad (day k : Int) (w : World) (h : ¬ (0 ≤ day ∧ day ≤ 73048)) :
    Calls Tryd.prog 46 #[.int .i64 day, .int .i64 k] w fun e w' => e = .returned (IV (0, 1)) ∧ Below w.heap.size w w' := by
  go_enter Tryd.func46, Tryd.ntmps46
  go_wp2_with (go_at_call 32; refine (isDay_any _ _).mono ?_; rintro e w' ⟨rfl, rfl⟩; rw [decide_eq_false h])
  go_ret2
  exact ⟨rfl, (by repeat (first | exact Below.refl _ _ | assumption | refine below_drewN ?_ _ | refine Below.setCell ?_ (by first | (simp; done) | (simp; omega)) _ | refine Below.alloc ?_ (by first | (simp; done) | (simp; omega) | omega) _ | refine Below.drew ?_ | refine Below.trans ?_ (Below.mono (by assumption) (by first | (simp; done) | (simp; omega) | omega))))⟩
set_option maxHeartbeats 800000 in
theorem months_low (day k : Int) (w : World) (h : 0 ≤ day ∧ day ≤ 73048) (hk : k < -2400) :
    Calls Tryd.prog 46 #[.int .i64 day, .int .i64 k] w fun e w' => e = .returned (IV (0, 1)) ∧ Below w.heap.size w w' := by
  have R := Lib.hid h
  clear h
  go_enter Tryd.func46, Tryd.ntmps46
  go_wp2_with (go_at_call 32; refine (isDay_any _ _).mono ?_; rintro e w' ⟨rfl, rfl⟩; rw [decide_eq_true R.out])
  go_ret2
  exact ⟨rfl, (by repeat (first | exact Below.refl _ _ | assumption | refine below_drewN ?_ _ | refine Below.setCell ?_ (by first | (simp; done) | (simp; omega)) _ | refine Below.alloc ?_ (by first | (simp; done) | (simp; omega) | omega) _ | refine Below.drew ?_ | refine Below.trans ?_ (Below.mono (by assumption) (by first | (simp; done) | (simp; omega) | omega))))⟩
set_option maxHeartbeats 800000 in
theorem months_high (day k : Int) (w : World) (h : 0 ≤ day ∧ day ≤ 73048) (hk0 : -2400 ≤ k) (hk : 2400 < k) :
    Calls Tryd.prog 46 #[.int .i64 day, .int .i64 k] w fun e w' => e = .returned (IV (0, 1)) ∧ Below w.heap.size w w' := by
  have R := Lib.hid h
  clear h
  go_enter Tryd.func46, Tryd.ntmps46
  go_wp2_with (go_at_call 32; refine (isDay_any _ _).mono ?_; rintro e w' ⟨rfl, rfl⟩; rw [decide_eq_true R.out])
  go_ret2
  exact ⟨rfl, (by repeat (first | exact Below.refl _ _ | assumption | refine below_drewN ?_ _ | refine Below.setCell ?_ (by first | (simp; done) | (simp; omega)) _ | refine Below.alloc ?_ (by first | (simp; done) | (simp; omega) | omega) _ | refine Below.drew ?_ | refine Below.trans ?_ (Below.mono (by assumption) (by first | (simp; done) | (simp; omega) | omega))))⟩
set_option maxRecDepth 100000 in
set_option maxHeartbeats 1600000 in
theorem months_far1 (day y m d k t : Int) (w : World) (h : Dt.IsCiv day y m d) (hk0 : -2400 ≤ k) (hk : k ≤ 2400) (ht : 12 * (y - 1990) + m - 1 + k = t) (hE : Env w) (hr : t < 0) :
    Calls Tryd.prog 46 #[.int .i64 day, .int .i64 k] w fun e w' => e = .returned (IV (0, 2)) ∧ Below w.heap.size w w' := by
  have R := Lib.hid (Dt.civ_range h)
  have H := Lib.hid h
  have HE := Lib.hid hE
  have T := Lib.hid ht
  obtain ⟨h1, h2, h3, h4, h5, h6, h7⟩ := h
  have H6 := Lib.hid h6
  clear hE h7 ht h6
  go_enter Tryd.func46, Tryd.ntmps46
  go_wp2_with (go_at_call 32; refine (isDay_any _ _).mono ?_; rintro e w' ⟨rfl, rfl⟩; rw [decide_eq_true R.out])
  refine (civil_in day y m d _ H.out HE.out).mono ?_
  rintro e w1 ⟨rfl, hb1⟩
  have hz1 := hb1.size
  simp only [CV]
  have et : IntKind.i64.wrap (12 * (y - 1990) + m - 1 + k) = t := by rw [T.out]; exact IntWalk.i64_in _ (by have := T.out; omega)
  have T2 := T.out
  have hr2 : 12 * (y - 1990) + m - 1 + k < 0 := by omega
  clear T2 et
  go_wp2
  go_ret2
  exact ⟨rfl, (by repeat (first | exact Below.refl _ _ | assumption | refine below_drewN ?_ _ | refine Below.setCell ?_ (by first | (simp; done) | (simp; omega)) _ | refine Below.alloc ?_ (by first | (simp; done) | (simp; omega) | omega) _ | refine Below.drew ?_ | refine Below.trans ?_ (Below.mono (by assumption) (by first | (simp; done) | (simp; omega) | omega))))⟩
set_option maxRecDepth 100000 in
set_option maxHeartbeats 1600000 in
theorem months_far2 (day y m d k t : Int) (w : World) (h : Dt.IsCiv day y m d) (hk0 : -2400 ≤ k) (hk : k ≤ 2400) (ht : 12 * (y - 1990) + m - 1 + k = t) (hE : Env w) (hr : 2400 ≤ t) :
    Calls Tryd.prog 46 #[.int .i64 day, .int .i64 k] w fun e w' => e = .returned (IV (0, 2)) ∧ Below w.heap.size w w' := by
  have R := Lib.hid (Dt.civ_range h)
  have H := Lib.hid h
  have HE := Lib.hid hE
  have T := Lib.hid ht
  obtain ⟨h1, h2, h3, h4, h5, h6, h7⟩ := h
  have H6 := Lib.hid h6
  clear hE h7 ht h6
  go_enter Tryd.func46, Tryd.ntmps46
  go_wp2_with (go_at_call 32; refine (isDay_any _ _).mono ?_; rintro e w' ⟨rfl, rfl⟩; rw [decide_eq_true R.out])
  refine (civil_in day y m d _ H.out HE.out).mono ?_
  rintro e w1 ⟨rfl, hb1⟩
  have hz1 := hb1.size
  simp only [CV]
  have T2 := T.out
  have hr1 : 0 ≤ 12 * (y - 1990) + m - 1 + k := by omega
  have hr2 : 2400 ≤ 12 * (y - 1990) + m - 1 + k := by omega
  clear T2
  go_wp2
  go_ret2
  exact ⟨rfl, (by repeat (first | exact Below.refl _ _ | assumption | refine below_drewN ?_ _ | refine Below.setCell ?_ (by first | (simp; done) | (simp; omega)) _ | refine Below.alloc ?_ (by first | (simp; done) | (simp; omega) | omega) _ | refine Below.drew ?_ | refine Below.trans ?_ (Below.mono (by assumption) (by first | (simp; done) | (simp; omega) | omega))))⟩
set_option maxRecDepth 100000 in
set_option maxHeartbeats 1600000 in
theorem months_near (day y m d k t : Int) (w : World) (h : Dt.IsCiv day y m d) (hk0 : -2400 ≤ k) (hk : k ≤ 2400) (ht : 12 * (y - 1990) + m - 1 + k = t) (hE : Env w) (hr0 : 0 ≤ t) (hr : t < 2400) (L Y M v : Int) (hY : 1990 + t / 12 = Y) (hM : 1 + t % 12 = M) (hL : Dt.ml Y M = L) (hv : (if L < d then L else d) = v) :
    Calls Tryd.prog 46 #[.int .i64 day, .int .i64 k] w fun e w' => e = .returned (IV (Dt.num Y M v)) ∧ Below w.heap.size w w' := by
  have R := Lib.hid (Dt.civ_range h)
  have H := Lib.hid h
  have HE := Lib.hid hE
  have T := Lib.hid ht
  obtain ⟨h1, h2, h3, h4, h5, h6, h7⟩ := h
  have H6 := Lib.hid h6
  have HL := Lib.hid hL
  have HY := Lib.hid hY
  have HM := Lib.hid hM
  have HV := Lib.hid hv
  clear hL hY hM hv
  clear hE h7 ht h6
  go_enter Tryd.func46, Tryd.ntmps46
  go_wp2_with (go_at_call 32; refine (isDay_any _ _).mono ?_; rintro e w' ⟨rfl, rfl⟩; rw [decide_eq_true R.out])
  refine (civil_in day y m d _ H.out HE.out).mono ?_
  rintro e w1 ⟨rfl, hb1⟩
  have hz1 := hb1.size
  simp only [CV]
  have T2 := T.out
  have hr1 : 0 ≤ 12 * (y - 1990) + m - 1 + k := by omega
  have hr2 : 12 * (y - 1990) + m - 1 + k < 2400 := by omega
  clear T2
  go_wp2_with fail
  simp only [T.out, HY.out, HM.out]
  have y1 : 1990 ≤ Y := by have := HY.out; omega
  have y2 : Y ≤ 2189 := by have := HY.out; omega
  have m1 : 1 ≤ M := by have := HM.out; omega
  have m2 : M ≤ 12 := by have := HM.out; omega
  clear hr1 hr2
  have hv := HV.out
  go_region_with (first | (go_at_call 66; refine (monthLength_draws _ _ _ (by omega) (by omega) (by omega) (by omega) (HE.out.below (by repeat (first | exact Below.refl _ _ | assumption | refine below_drewN ?_ _ | refine Below.setCell ?_ (by first | (simp; done) | (simp; omega)) _ | refine Below.alloc ?_ (by first | (simp; done) | (simp; omega) | omega) _ | refine Below.drew ?_ | refine Below.trans ?_ (Below.mono (by assumption) (by first | (simp; done) | (simp; omega) | omega)))))).mono ?_; rintro e w' ⟨rfl, n, rfl⟩; rw [HL.out]))
  all_goals clear hv
  all_goals go_wp2_with fail
  all_goals (refine (number_any _ _ _ _ (HE.out.below (by repeat (first | exact Below.refl _ _ | assumption | refine below_drewN ?_ _ | refine Below.setCell ?_ (by first | (simp; done) | (simp; omega)) _ | refine Below.alloc ?_ (by first | (simp; done) | (simp; omega) | omega) _ | refine Below.drew ?_ | refine Below.trans ?_ (Below.mono (by assumption) (by first | (simp; done) | (simp; omega) | omega)))))).mono ?_; rintro e w3 ⟨rfl, hb3⟩; have hz3 := hb3.size; try simp at hz3)
  all_goals simp only [IV]
  all_goals go_wp2
  all_goals go_ret2
  all_goals exact ⟨rfl, (by repeat (first | exact Below.refl _ _ | assumption | refine below_drewN ?_ _ | refine Below.setCell ?_ (by first | (simp; done) | (simp; omega)) _ | refine Below.alloc ?_ (by first | (simp; done) | (simp; omega) | omega) _ | refine Below.drew ?_ | refine Below.trans ?_ (Below.mono (by assumption) (by first | (simp; done) | (simp; omega) | omega))))⟩
theorem months_in (day y m d k : Int) (w : World) (h : Dt.IsCiv day y m d) (hk0 : -2400 ≤ k) (hk : k ≤ 2400) (hE : Env w) :
    Calls Tryd.prog 46 #[.int .i64 day, .int .i64 k] w fun e w' => e = .returned (IV (Dt.mon y m d k)) ∧ Below w.heap.size w w' := by
  unfold Dt.mon
  by_cases h1 : 12 * (y - 1990) + m - 1 + k < 0
  · rw [if_pos (.inl h1)]
    exact months_far1 day y m d k _ w h hk0 hk rfl hE h1
  · by_cases h2 : 2400 ≤ 12 * (y - 1990) + m - 1 + k
    · rw [if_pos (.inr h2)]
      exact months_far2 day y m d k _ w h hk0 hk rfl hE h2
    · rw [if_neg (by omega)]
      exact months_near day y m d k _ w h hk0 hk rfl hE (by omega) (by omega) _ _ _ _ rfl rfl rfl (by split <;> omega)
end Go.Proofs.YtlbfnafniobnaaaDoor

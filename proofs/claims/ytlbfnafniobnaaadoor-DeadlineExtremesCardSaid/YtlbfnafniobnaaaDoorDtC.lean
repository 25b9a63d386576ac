/- The walk of date.Civil. -/
import Derived.Test.YtlbfnafniobnaaaDoorDtB
namespace Go.Proofs.YtlbfnafniobnaaaDoor
open Go.RowKit

set_option maxHeartbeats 800000 in
theorem civil_out (day : Int) (w : World) (h : ¬ (0 ≤ day ∧ day ≤ 73048)) :
    Calls Tryd.prog 65 #[.int .i64 day] w fun e w' => e = .returned (CV 0 0 0 1) ∧ Below w.heap.size w w' := by
  go_enter Tryd.func65, Tryd.ntmps65
  go_wp2_with (go_at_call 32; refine (isDay_any _ _).mono ?_; rintro e w' ⟨rfl, rfl⟩; rw [decide_eq_false h])
  refine bodyPost_ret (v := CV 0 0 0 1) (by simp [results, Tryd.results65, go_sem, CV]) rfl ⟨rfl, ?_⟩
  exact (by repeat (first | exact Below.refl _ _ | assumption | refine below_drewN ?_ _ | refine Below.setCell ?_ (by first | (simp; done) | (simp; omega)) _ | refine Below.alloc ?_ (by first | (simp; done) | (simp; omega) | omega) _ | refine Below.drew ?_ | refine Below.trans ?_ (Below.mono (by assumption) (by first | (simp; done) | (simp; omega) | omega))))
set_option maxRecDepth 100000 in
set_option maxHeartbeats 1600000 in
theorem civil_in (day y m d : Int) (w : World) (h : Dt.IsCiv day y m d) (hE : Env w) :
    Calls Tryd.prog 65 #[.int .i64 day] w fun e w' => e = .returned (CV y m d 0) ∧ Below w.heap.size w w' := by
  have r := Dt.civ_range h
  have g1 := Dt.civ_guess_year h
  have g2 := Dt.civ_guess_month h
  have u := Dt.civ_year h
  have H := Lib.hid h
  have HE := Lib.hid hE
  obtain ⟨h1, h2, h3, h4, h5, h6, h7⟩ := h
  have ybd := Dt.yb_bd h1 (by omega)
  have G1 := Lib.hid g1
  have G2 := Lib.hid g2
  have U := Lib.hid u
  have H7 := Lib.hid h7
  have mbb := Dt.mb_bd (y := y) (m := m) h1 h2 h3 (by omega)
  have B5 := Lib.hid (show d ≤ 31 by have := Dt.ml_bd (y := y) h3 h4; omega)
  have R := Lib.hid r
  clear hE g1 g2 h7 h6 u
  go_enter Tryd.func65, Tryd.ntmps65
  go_wp2_with (go_at_call 32; refine (isDay_any _ _).mono ?_; rintro e w' ⟨rfl, rfl⟩; rw [decide_eq_true R.out])
  go_loopw [4] (fun yv wr => ∃ z : Int, yv = .int .i64 z ∧ 1990 ≤ z ∧ z ≤ y ∧ wr = w.alloc (.cells #[.int .i64 0, .int .i64 0, .int .i64 0] 105)) (fun yv _ => (y - intOf yv).toNat)
  case atStart => exact ⟨1990 + day / 366, rfl, by omega, G1.out, by first | rfl | trivial⟩
  case round =>
    obtain ⟨z, rfl, hz1, hz2, rfl⟩ := hrel
    by_cases hz : z < y
    · have hr := Dt.civ_year_round H.out hz
      go_wp2_with fail
      refine (yearBegin_any _ _ (by omega) (by omega)).mono ?_
      rintro e w' ⟨rfl, rfl⟩
      go_wp2
      go_roundw
      case rel => exact ⟨z + 1, by go_num, by omega, by omega, by first | rfl | trivial⟩
      case measure => simp [intOf]; omega
    · obtain rfl : z = y := by omega
      have hr := U.out.2
      go_wp2_with fail
      refine (yearBegin_any _ _ (by omega) (by omega)).mono ?_
      rintro e w' ⟨rfl, rfl⟩
      go_wp2_with fail
      refine (yearBegin_any _ _ (by omega) (by omega)).mono ?_
      rintro e w' ⟨rfl, rfl⟩
      clear hr
      have u1 := U.out.1
      have u2 := G2.out
      have u3 : 0 ≤ day - Dt.yb z ∧ day - Dt.yb z ≤ 73048 := by omega
      go_wp2
      go_loopw [5] (fun mv wr => ∃ (k : Int) (n : Nat), mv = .int .i64 k ∧ 1 ≤ k ∧ k ≤ m ∧ wr = (w.alloc (.cells #[.int .i64 0, .int .i64 0, .int .i64 0] 105)).drewN n) (fun mv _ => (m - intOf mv).toNat)
      case atStart => exact ⟨1 + (day - Dt.yb z) / 31, 0, by go_num, by omega, by omega, by first | rfl | trivial⟩
      case round =>
        obtain ⟨k, n, rfl, hk1, hk2, rfl⟩ := hrel
        by_cases hk : k < m
        · have hr := Dt.civ_month_round H.out hk1 hk
          have bb := Dt.mb_bd (y := z) (m := k + 1) (by omega) (by omega) (by omega) (by omega)
          go_wp2_with fail
          refine (monthBegin_draws _ _ _ (by omega) (by omega) (by omega) (by omega) (HE.out.below (by repeat (first | exact Below.refl _ _ | assumption | refine below_drewN ?_ _ | refine Below.setCell ?_ (by first | (simp; done) | (simp; omega)) _ | refine Below.alloc ?_ (by first | (simp; done) | (simp; omega) | omega) _ | refine Below.drew ?_ | refine Below.trans ?_ (Below.mono (by assumption) (by first | (simp; done) | (simp; omega) | omega)))))).mono ?_
          rintro e w' ⟨rfl, n2, rfl⟩
          go_wp2
          go_roundw
          case rel => exact ⟨k + 1, n + n2, by go_num, by omega, by omega, by first | rfl | exact World.drewN_drewN _ _ _⟩
          case measure => simp [intOf]; omega
        · obtain rfl : k = m := by omega
          have hr := Dt.civ_month_end H.out
          have bb := Dt.mb_bd (y := z) (m := k + 1) (by omega) (by omega) (by omega) (by omega)
          go_wp2_with fail
          refine (monthBegin_draws _ _ _ (by omega) (by omega) (by omega) (by omega) (HE.out.below (by repeat (first | exact Below.refl _ _ | assumption | refine below_drewN ?_ _ | refine Below.setCell ?_ (by first | (simp; done) | (simp; omega)) _ | refine Below.alloc ?_ (by first | (simp; done) | (simp; omega) | omega) _ | refine Below.drew ?_ | refine Below.trans ?_ (Below.mono (by assumption) (by first | (simp; done) | (simp; omega) | omega)))))).mono ?_
          rintro e w' ⟨rfl, n2, rfl⟩
          go_wp2_with fail
          clear bb hr
          refine (monthBegin_draws _ _ _ (by omega) (by omega) (by omega) (by omega) (HE.out.below (by repeat (first | exact Below.refl _ _ | assumption | refine below_drewN ?_ _ | refine Below.setCell ?_ (by first | (simp; done) | (simp; omega)) _ | refine Below.alloc ?_ (by first | (simp; done) | (simp; omega) | omega) _ | refine Below.drew ?_ | refine Below.trans ?_ (Below.mono (by assumption) (by first | (simp; done) | (simp; omega) | omega)))))).mono ?_
          rintro e w' ⟨rfl, n3, rfl⟩
          have e1 : 1 + day - Dt.mb z k = d := by have := H7.out; omega
          have E1 := Lib.hid e1
          clear e1
          go_wp2
          refine bodyPost_ret (v := CV z k d 0) (by simp [results, Tryd.results65, go_sem, CV]; exact E1.out) rfl ⟨rfl, ?_⟩
          exact (by repeat (first | exact Below.refl _ _ | assumption | refine below_drewN ?_ _ | refine Below.setCell ?_ (by first | (simp; done) | (simp; omega)) _ | refine Below.alloc ?_ (by first | (simp; done) | (simp; omega) | omega) _ | refine Below.drew ?_ | refine Below.trans ?_ (Below.mono (by assumption) (by first | (simp; done) | (simp; omega) | omega))))
end Go.Proofs.YtlbfnafniobnaaaDoor

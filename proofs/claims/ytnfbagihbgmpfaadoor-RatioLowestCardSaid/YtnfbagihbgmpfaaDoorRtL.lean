/- RatioLowest: the walk of the law. -/
import Derived.Test.YtnfbagihbgmpfaaDoorRtK
namespace Go.Proofs.YtnfbagihbgmpfaaDoor
open Go.RowKit

set_option maxHeartbeats 800000 in
theorem gcd_any (x y : Nat) (w : World) (hx : x ≤ 18446744073709551615) (hy : y ≤ 18446744073709551615) :
    Calls Tryd.prog 35 #[.int .u64 x, .int .u64 y] w fun e w' => e = .returned (.int .u64 (Nat.gcd x y : Nat)) ∧ Below w.heap.size w w' := by
  obtain ⟨g, hg⟩ : ∃ g, Nat.gcd x y = g := ⟨_, rfl⟩
  rw [hg]
  go_enter Tryd.func35, Tryd.ntmps35
  go_wp2
  go_loopw [0, 1] (fun t u wr => ∃ p q n : Nat, t = .int .u64 p ∧ u = .int .u64 q ∧ p ≤ 18446744073709551615 ∧ q ≤ 18446744073709551615 ∧ EqGcd p q g ∧ wr = w.drewN n) (fun _ u _ => (intOf u).toNat)
  case atStart => exact ⟨x, y, 0, rfl, rfl, hx, hy, hg, rfl⟩
  case round =>
    obtain ⟨p, q, m, rfl, rfl, hp, hq, hg', rfl⟩ := hrel
    have HG := Lib.hid hg'
    have HX := Lib.hid hg
    clear hg hg'
    by_cases hq0 : q = 0
    · have hb : decide (0 < (q : Int)) = false := by simp [hq0]
      have hb2 : decide (0 < q) = false := by simp [hq0]
      have hg2 : p = g := by have := HG.out; unfold EqGcd at this; rw [hq0] at this; simpa using this
      have HG2 := Lib.hid hg2
      have hq1 : q ≤ 0 := by omega
      clear hg2 hq0
      go_wp2
      go_ret
      exact ⟨ret_int (by rw [HG2.out]), below_drewN (Below.refl _ _) _⟩
    · have hq1 : 0 < q := by omega
      have hlt2 : p % q < q := Nat.mod_lt _ hq1
      clear hq0
      go_wp2
      go_quiet (fail)
      go_wp2
      go_roundw
      case rel => exact ⟨q, p % q, _, rfl, by simp, hq, by omega, by unfold EqGcd; rw [Nat.gcd_comm q, ← Nat.gcd_rec, Nat.gcd_comm]; exact HG.out, World.drewN_drewN _ _ _⟩
      case measure => simp [intOf]; omega
theorem small_any (x : Int) (w : World) :
    Calls Tryd.prog 34 #[.int .i64 x] w fun e w' => e = .returned (.int .i64 (x.tmod 1000000001)) ∧ w = w' := by
  go_enter Tryd.func34, Tryd.ntmps34
  go_wp2
  go_ret
  exact ⟨rfl, rfl⟩
theorem small_bd (x : Int) : -1000000000 ≤ x.tmod 1000000001 ∧ x.tmod 1000000001 ≤ 1000000000 := by
  obtain ⟨_, _, h1, h2, _⟩ := tdiv_facts (x := x) (d := 1000000001) (by omega)
  omega
set_option maxRecDepth 100000 in
set_option maxHeartbeats 1600000 in
theorem low_zero (x y n : Int) (w : World) (hn : x.tmod 1000000001 = n) (hd : y.tmod 1000000001 = 0) (hE : Env w) (hm : Rt.mk n 0 = (0, 0, 1)) :
    Calls Tryd.prog 4 #[.int .i64 x, .int .i64 y] w fun e w' => e = .returned (.bool true) ∧ Below w.heap.size w w' := by
  have HE := Lib.hid hE
  clear hE
  have b1 := small_bd x
  rw [hn] at b1
  have b2 := small_bd y
  rw [hd] at b2
  have HN := Lib.hid hn
  have HD := Lib.hid hd
  have HM := Lib.hid hm
  clear hn hd hm
  go_enter Tryd.func4, Tryd.ntmps4
  go_wp2_with fail
  refine (head_any _ (HE.out.below (Below.refl _ _))).mono ?_
  rintro e w1 ⟨rfl, hb1⟩
  go_wp2_with fail
  refine (small_any _ _).mono ?_
  rintro e w' ⟨rfl, rfl⟩
  rw [HN.out]
  go_wp2_with fail
  refine (small_any _ _).mono ?_
  rintro e w' ⟨rfl, rfl⟩
  rw [HD.out]
  go_wp2_with fail
  refine (make_any _ _ _ (by omega) (by omega) (by omega) (by omega)).mono ?_
  rintro e w2 ⟨rfl, hb2⟩
  rw [HM.out]
  have hz1 := hb1.size
  have hz2 := hb2.size
  simp only [RV]
  go_wp2
  go_ret
  exact ⟨rfl, (by repeat (first | exact Below.refl _ _ | assumption | refine below_drewN ?_ _ | refine Below.setCell ?_ (by first | (simp; done) | (simp; omega)) _ | refine Below.alloc ?_ (by first | (simp; done) | (simp; omega) | omega) _ | refine Below.drew ?_ | refine Below.trans ?_ (Below.mono (by assumption) (by first | (simp; done) | (simp; omega) | omega))))⟩
theorem quo_bd {x g : Nat} (h1 : x ≤ 1000000000) (hg : 1 ≤ g) : 0 ≤ (x : Int) / (g : Int) ∧ (x : Int) / (g : Int) ≤ 1000000000 := by
  have a1 := Int.ediv_nonneg (show 0 ≤ (x : Int) by omega) (show 0 ≤ (g : Int) by omega)
  have a2 := Int.ediv_le_self (g : Int) (show 0 ≤ (x : Int) by omega)
  omega
set_option maxRecDepth 100000 in
set_option maxHeartbeats 1600000 in
theorem low_far (x y n d : Int) (w : World) (hn : x.tmod 1000000001 = n) (hd : y.tmod 1000000001 = d) (hE : Env w) (hm : Rt.mk n d = (0, 0, 2)) (h0 : d ≠ 0) (hg : 1 ≤ Nat.gcd n.natAbs d.natAbs) (hg2 : Nat.gcd n.natAbs d.natAbs ≤ 1000000000) (lf : Int) (hq : (d.natAbs : Int) / (Nat.gcd n.natAbs d.natAbs : Int) = lf) (hl : 1000000 < lf) :
    Calls Tryd.prog 4 #[.int .i64 x, .int .i64 y] w fun e w' => e = .returned (.bool true) ∧ Below w.heap.size w w' := by
  have HE := Lib.hid hE
  clear hE
  have b1 := small_bd x
  rw [hn] at b1
  have b2 := small_bd y
  rw [hd] at b2
  have HN := Lib.hid hn
  have HD := Lib.hid hd
  have HM := Lib.hid hm
  clear hn hd hm
  go_enter Tryd.func4, Tryd.ntmps4
  go_wp2_with fail
  refine (head_any _ (HE.out.below (Below.refl _ _))).mono ?_
  rintro e w1 ⟨rfl, hb1⟩
  go_wp2_with fail
  refine (small_any _ _).mono ?_
  rintro e w' ⟨rfl, rfl⟩
  rw [HN.out]
  go_wp2_with fail
  refine (small_any _ _).mono ?_
  rintro e w' ⟨rfl, rfl⟩
  rw [HD.out]
  go_wp2_with fail
  refine (make_any _ _ _ (by omega) (by omega) (by omega) (by omega)).mono ?_
  rintro e w2 ⟨rfl, hb2⟩
  rw [HM.out]
  have hz1 := hb1.size
  have hz2 := hb2.size
  simp only [RV]
  have HQ := Lib.hid hq
  clear hq
  have hd0 : (d == 0) = false := by simp [h0]
  go_wp2_with fail
  rw [show max n (-n) = (n.natAbs : Int) from by omega, show max d (-d) = (d.natAbs : Int) from by omega]
  refine (gcd_any _ _ _ (by omega) (by omega)).mono ?_
  rintro e w3 ⟨rfl, hb3⟩
  generalize Nat.gcd n.natAbs d.natAbs = g at *
  obtain ⟨hc3, hf3⟩ := bcell hb3
  have hz3 := hb3.size
  simp at hz3
  have hl3 : w2.heap.size < w3.heap.size := by omega
  have ab : d.natAbs ≤ 1000000000 := by omega
  have e1 : 0 ≤ (d.natAbs : Int) / (g : Int) ∧ (d.natAbs : Int) / (g : Int) ≤ 1000000000 := quo_bd (by omega) (by omega)
  have e2 : 1000000 < (d.natAbs : Int) / (g : Int) := by rw [HQ.out]; exact hl
  generalize d.natAbs = m at *
  go_wp2
  go_ret
  exact ⟨rfl, (by repeat (first | exact Below.refl _ _ | assumption | refine below_drewN ?_ _ | refine Below.setCell ?_ (by first | (simp; done) | (simp; omega)) _ | refine Below.alloc ?_ (by first | (simp; done) | (simp; omega) | omega) _ | refine Below.drew ?_ | refine Below.trans ?_ (Below.mono (by assumption) (by first | (simp; done) | (simp; omega) | omega))))⟩
set_option maxRecDepth 100000 in
set_option maxHeartbeats 1600000 in
theorem low_in (x y n d : Int) (w : World) (hn : x.tmod 1000000001 = n) (hd : y.tmod 1000000001 = d) (hE : Env w) (p q : Int) (hm : Rt.mk n d = (p, q, 0)) (h0 : d ≠ 0) (hg : 1 ≤ Nat.gcd n.natAbs d.natAbs) (hg2 : Nat.gcd n.natAbs d.natAbs ≤ 1000000000) (hq : (d.natAbs : Int) / (Nat.gcd n.natAbs d.natAbs : Int) = q) (ho : Rt.Ok p q) (hx : p * d = n * q) :
    Calls Tryd.prog 4 #[.int .i64 x, .int .i64 y] w fun e w' => e = .returned (.bool true) ∧ Below w.heap.size w w' := by
  have HE := Lib.hid hE
  clear hE
  have b1 := small_bd x
  rw [hn] at b1
  have b2 := small_bd y
  rw [hd] at b2
  have HN := Lib.hid hn
  have HD := Lib.hid hd
  have HM := Lib.hid hm
  clear hn hd hm
  go_enter Tryd.func4, Tryd.ntmps4
  go_wp2_with fail
  refine (head_any _ (HE.out.below (Below.refl _ _))).mono ?_
  rintro e w1 ⟨rfl, hb1⟩
  go_wp2_with fail
  refine (small_any _ _).mono ?_
  rintro e w' ⟨rfl, rfl⟩
  rw [HN.out]
  go_wp2_with fail
  refine (small_any _ _).mono ?_
  rintro e w' ⟨rfl, rfl⟩
  rw [HD.out]
  go_wp2_with fail
  refine (make_any _ _ _ (by omega) (by omega) (by omega) (by omega)).mono ?_
  rintro e w2 ⟨rfl, hb2⟩
  rw [HM.out]
  have hz1 := hb1.size
  have hz2 := hb2.size
  simp only [RV]
  have HQ := Lib.hid hq
  have HO := Lib.hid ho
  have HX := Lib.hid hx
  have q1 := ho.1
  have q2 := ho.2.1
  have q3 := ho.2.2.1
  have q4 := ho.2.2.2.1
  clear hq ho hx
  have hd0 : (d == 0) = false := by simp [h0]
  go_wp2_with fail
  rw [show max n (-n) = (n.natAbs : Int) from by omega, show max d (-d) = (d.natAbs : Int) from by omega]
  refine (gcd_any _ _ _ (by omega) (by omega)).mono ?_
  rintro e w3 ⟨rfl, hb3⟩
  generalize Nat.gcd n.natAbs d.natAbs = g at *
  obtain ⟨hc3, hf3⟩ := bcell hb3
  have hz3 := hb3.size
  simp at hz3
  have hl3 : w2.heap.size < w3.heap.size := by omega
  have ab : d.natAbs ≤ 1000000000 := by omega
  have e1 : 0 ≤ (d.natAbs : Int) / (g : Int) ∧ (d.natAbs : Int) / (g : Int) ≤ 1000000000 := quo_bd (by omega) (by omega)
  have e2 : (d.natAbs : Int) / (g : Int) ≤ 1000000 := by rw [HQ.out]; exact q2
  have e3 : (q == (d.natAbs : Int) / (g : Int)) = true := by rw [HQ.out]; simp
  generalize d.natAbs = m at *
  go_wp2_with fail
  refine (valid_true _ _ _ HO.out).mono ?_
  rintro e w4 ⟨rfl, hb4⟩
  obtain ⟨hc4, hf4⟩ := bcell hb4
  have hz4 := hb4.size
  have m1 := mulb (a := n) (m := 1000000000) (by omega) (by omega) q1 q2 (by omega)
  have m2 : -1000000000000000 ≤ p * d ∧ p * d ≤ 1000000000000000 := by rw [HX.out]; omega
  have m3 : (p * d == n * q) = true := by rw [HX.out]; simp
  clear b1 b2 q3 q4
  go_wp2
  go_ret
  exact ⟨rfl, (by repeat (first | exact Below.refl _ _ | assumption | refine below_drewN ?_ _ | refine Below.setCell ?_ (by first | (simp; done) | (simp; omega)) _ | refine Below.alloc ?_ (by first | (simp; done) | (simp; omega) | omega) _ | refine Below.drew ?_ | refine Below.trans ?_ (Below.mono (by assumption) (by first | (simp; done) | (simp; omega) | omega))))⟩
theorem lowest_any (x y : Int) (w : World) (_hx1 : -9223372036854775808 ≤ x) (_hx2 : x ≤ 9223372036854775807) (_hy1 : -9223372036854775808 ≤ y) (_hy2 : y ≤ 9223372036854775807) (hE : Env w) :
    Calls Tryd.prog 4 #[.int .i64 x, .int .i64 y] w fun e w' => e = .returned (.bool true) ∧ Below w.heap.size w w' := by
  obtain ⟨n, hn⟩ : ∃ n, x.tmod 1000000001 = n := ⟨_, rfl⟩
  obtain ⟨d, hd⟩ : ∃ d, y.tmod 1000000001 = d := ⟨_, rfl⟩
  have b1 := small_bd x
  have b2 := small_bd y
  rw [hn] at b1
  rw [hd] at b2
  by_cases h0 : d = 0
  · subst h0
    exact low_zero x y n w hn hd hE (Rt.mk_zero n)
  have hg : 1 ≤ Nat.gcd n.natAbs d.natAbs := Nat.gcd_pos_of_pos_right _ (by omega)
  have hg2 : Nat.gcd n.natAbs d.natAbs ≤ 1000000000 := Nat.le_trans (Nat.gcd_le_right _ (by omega)) (by omega)
  rcases Rt.mk_ok (n := n) h0 with ⟨p, q, e1, e2, e3, e4⟩ | ⟨e1, _, e3⟩
  · refine low_in x y n d w hn hd hE p q e1 h0 hg hg2 ?_ e2 e3
    rw [← e4]; exact Int.mul_ediv_cancel _ (by omega)
  · refine low_far x y n d w hn hd hE e1 h0 hg hg2 _ rfl ?_
    have h3 : 1000000 * Nat.gcd n.natAbs d.natAbs < d.natAbs := by omega
    have h4 := Nat.div_mul_cancel (Nat.gcd_dvd_right n.natAbs d.natAbs)
    rw [← Int.natCast_ediv]
    generalize Nat.gcd n.natAbs d.natAbs = g at *
    generalize d.natAbs / g = b at *
    rw [← h4] at h3
    have h5 := Nat.lt_of_mul_lt_mul_right h3
    omega
end Go.Proofs.YtnfbagihbgmpfaaDoor

/- The reference implementation: the walks of size, Gcd, of, Make. -/
import Derived.Test.YtpdknjbhnelidaaQtR
import Derived.Test.YtpdknjbhnelidaaRfMath
namespace Go.Proofs.Ytpdknjbhnelidaa
open Go.RowKit

theorem u64_sub (n : Int) (h1 : -9223372036854775808 ≤ n) (h2 : n < 0) : IntKind.u64.wrap (0 - IntKind.u64.wrap n) = (n.natAbs : Int) := by
  simp [IntKind.wrap, IntKind.bits, IntKind.signed]; omega
theorem u64_sub2 (n : Int) (h1 : -9223372036854775808 ≤ n) (h2 : n < 0) : IntKind.u64.wrap (-IntKind.u64.wrap n) = (n.natAbs : Int) := u64_neg n h1 h2
set_option maxHeartbeats 400000 in
theorem size_any (n : Int) (w : World) (h1 : -9223372036854775808 ≤ n) (h2 : n ≤ 9223372036854775807) :
    Calls Try.prog 42 #[.int .i64 n] w fun e w' => e = .returned (.int .u64 (n.natAbs : Int)) ∧ w = w' := by
  by_cases hn : n < 0
  · go_enter Try.func42, Try.ntmps42
    go_wp2
    go_ret
    exact ⟨ret_int (by first | exact u64_sub n h1 hn | exact u64_neg n h1 hn), rfl⟩
  · go_enter Try.func42, Try.ntmps42
    go_wp2
    go_ret
    exact ⟨ret_int (by omega), rfl⟩
theorem size_q (n : Int) (w : World) (k : Nat) (h1 : -9223372036854775808 ≤ n) (h2 : n ≤ 9223372036854775807) :
    Calls Try.prog 42 #[.int .i64 n] (w.drewN k) fun e w' => e = .returned (.int .u64 (n.natAbs : Int)) ∧ ∃ m, w' = w.drewN m :=
  (size_any n _ h1 h2).mono fun _ _ ⟨he, hw⟩ => ⟨he, k, hw.symm⟩
set_option maxHeartbeats 800000 in
theorem rgcd_draws (x y : Nat) (w : World) (hx : x ≤ 18446744073709551615) (hy : y ≤ 18446744073709551615) :
    Calls Try.prog 41 #[.int .u64 x, .int .u64 y] w fun e w' => e = .returned (.int .u64 (Nat.gcd x y : Nat)) ∧ ∃ n, w' = w.drewN n := by
  obtain ⟨g, hg⟩ : ∃ g, Nat.gcd x y = g := ⟨_, rfl⟩
  rw [hg]
  go_enter Try.func41, Try.ntmps41
  go_wp2
  go_loopw [0, 1] (fun t u wr => ∃ p q n : Nat, t = .int .u64 p ∧ u = .int .u64 q ∧ p ≤ 18446744073709551615 ∧ q ≤ 18446744073709551615 ∧ EqGcd p q g ∧ wr = w.drewN n) (fun _ u _ => (intOf u).toNat)
  case atStart => exact ⟨x, y, 0, rfl, rfl, hx, hy, hg, rfl⟩
  case round =>
    obtain ⟨p, q, m, rfl, rfl, hp, hq, hg', rfl⟩ := hrel
    have HG := Lib.hid hg'
    have HX := Lib.hid hg
    clear hg hg'
    by_cases hq0 : q = 0
    · have hb : decide (0 < (q : Int)) = false := by simp [hq0]
      have hb2 : decide (0 < q) = false := by simp [hq0]
      have hg2 : p = g := by have := HG.out; unfold EqGcd at this; rw [hq0] at this; simpa using this
      have HG2 := Lib.hid hg2
      have hq1 : q ≤ 0 := by omega
      clear hg2 hq0
      go_wp2
      go_ret
      exact ⟨ret_int (by rw [HG2.out]), _, rfl⟩
    · have hq1 : 0 < q := by omega
      have hlt2 : p % q < q := Nat.mod_lt _ hq1
      clear hq0
      go_wp2
      go_quiet (fail)
      go_wp2
      go_roundw
      case rel => exact ⟨q, p % q, _, rfl, by simp, hq, by omega, by unfold EqGcd; rw [Nat.gcd_comm q, ← Nat.gcd_rec, Nat.gcd_comm]; exact HG.out, World.drewN_drewN _ _ _⟩
      case measure => simp [intOf]; omega
theorem rgcd_q (x y : Nat) (w : World) (k : Nat) (hx : x ≤ 18446744073709551615) (hy : y ≤ 18446744073709551615) :
    Calls Try.prog 41 #[.int .u64 x, .int .u64 y] (w.drewN k) fun e w' => e = .returned (.int .u64 (Nat.gcd x y : Nat)) ∧ ∃ m, w' = w.drewN m :=
  Calls.quiet_of (rgcd_draws x y _ hx hy)
set_option maxRecDepth 100000 in
set_option maxHeartbeats 1600000 in
theorem of_far1 (s : Bool) (x y p q : Nat) (w : World) (hx : x ≤ 18446744073709551615) (hy : y ≤ 18446744073709551615) (h0 : 1 ≤ y) (hp : x / Nat.gcd x y = p) (hq : y / Nat.gcd x y = q) (hr : 1000000000000 < p) :
    Calls Try.prog 55 #[.bool s, .int .u64 x, .int .u64 y] w fun e w' => e = .returned (RV (0, 0, 2)) ∧ Below w.heap.size w w' := by
  have hg : 1 ≤ Nat.gcd x y := Nat.gcd_pos_of_pos_right _ (by omega)
  have y0 : ((y : Int) == 0) = false := by rw [beq_eq_false_iff_ne]; omega
  have e1 : ((x : Int) / (Nat.gcd x y : Nat)) = p := by rw [← hp]; exact (Int.natCast_ediv _ _).symm
  have e2 : ((y : Int) / (Nat.gcd x y : Nat)) = q := by rw [← hq]; exact (Int.natCast_ediv _ _).symm
  have b1 : p ≤ x := by rw [← hp]; exact Nat.div_le_self _ _
  have b2 : q ≤ y := by rw [← hq]; exact Nat.div_le_self _ _
  have E1 := Lib.hid e1
  have E2 := Lib.hid e2
  clear hp hq e1 e2
  go_enter Try.func55, Try.ntmps55
  go_wp2_with fail
  refine (rgcd_draws x y _ hx hy).mono ?_
  rintro e w1 ⟨rfl, m, rfl⟩
  generalize Nat.gcd x y = g at *
  have r1 := E1.out
  have r2 := E2.out
  have r3 : 0 ≤ (x : Int) / (g : Int) ∧ (x : Int) / (g : Int) ≤ 18446744073709551615 := by rw [r1]; omega
  have r4 : 0 ≤ (y : Int) / (g : Int) ∧ (y : Int) / (g : Int) ≤ 18446744073709551615 := by rw [r2]; omega
  go_wp2
  refine bodyPost_ret (v := RV (0, 0, 2)) (by simp [results, Try.results55, go_sem, RV]) rfl ⟨rfl, ?_⟩
  exact (by repeat (first | exact Below.refl _ _ | assumption | refine below_drewN ?_ _ | refine Below.setCell ?_ (by first | (simp; done) | (simp; omega)) _ | refine Below.alloc ?_ (by first | (simp; done) | (simp; omega) | omega) _ | refine Below.drew ?_ | refine Below.trans ?_ (Below.mono (by assumption) (by first | (simp; done) | (simp; omega) | omega))))
set_option maxRecDepth 100000 in
set_option maxHeartbeats 1600000 in
theorem of_far2 (s : Bool) (x y p q : Nat) (w : World) (hx : x ≤ 18446744073709551615) (hy : y ≤ 18446744073709551615) (h0 : 1 ≤ y) (hp : x / Nat.gcd x y = p) (hq : y / Nat.gcd x y = q) (hr0 : p ≤ 1000000000000) (hr : 1000000 < q) :
    Calls Try.prog 55 #[.bool s, .int .u64 x, .int .u64 y] w fun e w' => e = .returned (RV (0, 0, 2)) ∧ Below w.heap.size w w' := by
  have hg : 1 ≤ Nat.gcd x y := Nat.gcd_pos_of_pos_right _ (by omega)
  have y0 : ((y : Int) == 0) = false := by rw [beq_eq_false_iff_ne]; omega
  have e1 : ((x : Int) / (Nat.gcd x y : Nat)) = p := by rw [← hp]; exact (Int.natCast_ediv _ _).symm
  have e2 : ((y : Int) / (Nat.gcd x y : Nat)) = q := by rw [← hq]; exact (Int.natCast_ediv _ _).symm
  have b1 : p ≤ x := by rw [← hp]; exact Nat.div_le_self _ _
  have b2 : q ≤ y := by rw [← hq]; exact Nat.div_le_self _ _
  have E1 := Lib.hid e1
  have E2 := Lib.hid e2
  clear hp hq e1 e2
  go_enter Try.func55, Try.ntmps55
  go_wp2_with fail
  refine (rgcd_draws x y _ hx hy).mono ?_
  rintro e w1 ⟨rfl, m, rfl⟩
  generalize Nat.gcd x y = g at *
  have r1 := E1.out
  have r2 := E2.out
  have r3 : 0 ≤ (x : Int) / (g : Int) ∧ (x : Int) / (g : Int) ≤ 18446744073709551615 := by rw [r1]; omega
  have r4 : 0 ≤ (y : Int) / (g : Int) ∧ (y : Int) / (g : Int) ≤ 18446744073709551615 := by rw [r2]; omega
  go_wp2
  refine bodyPost_ret (v := RV (0, 0, 2)) (by simp [results, Try.results55, go_sem, RV]) rfl ⟨rfl, ?_⟩
  exact (by repeat (first | exact Below.refl _ _ | assumption | refine below_drewN ?_ _ | refine Below.setCell ?_ (by first | (simp; done) | (simp; omega)) _ | refine Below.alloc ?_ (by first | (simp; done) | (simp; omega) | omega) _ | refine Below.drew ?_ | refine Below.trans ?_ (Below.mono (by assumption) (by first | (simp; done) | (simp; omega) | omega))))
set_option maxRecDepth 100000 in
set_option maxHeartbeats 1600000 in
theorem of_pos (x y p q : Nat) (w : World) (hx : x ≤ 18446744073709551615) (hy : y ≤ 18446744073709551615) (h0 : 1 ≤ y) (hp : x / Nat.gcd x y = p) (hq : y / Nat.gcd x y = q) (hr0 : p ≤ 1000000000000) (hr : q ≤ 1000000) :
    Calls Try.prog 55 #[.bool false, .int .u64 x, .int .u64 y] w fun e w' => e = .returned (RV ((p : Int), (q : Int), 0)) ∧ Below w.heap.size w w' := by
  have hg : 1 ≤ Nat.gcd x y := Nat.gcd_pos_of_pos_right _ (by omega)
  have y0 : ((y : Int) == 0) = false := by rw [beq_eq_false_iff_ne]; omega
  have e1 : ((x : Int) / (Nat.gcd x y : Nat)) = p := by rw [← hp]; exact (Int.natCast_ediv _ _).symm
  have e2 : ((y : Int) / (Nat.gcd x y : Nat)) = q := by rw [← hq]; exact (Int.natCast_ediv _ _).symm
  have b1 : p ≤ x := by rw [← hp]; exact Nat.div_le_self _ _
  have b2 : q ≤ y := by rw [← hq]; exact Nat.div_le_self _ _
  have E1 := Lib.hid e1
  have E2 := Lib.hid e2
  clear hp hq e1 e2
  go_enter Try.func55, Try.ntmps55
  go_wp2_with fail
  refine (rgcd_draws x y _ hx hy).mono ?_
  rintro e w1 ⟨rfl, m, rfl⟩
  generalize Nat.gcd x y = g at *
  have r1 := E1.out
  have r2 := E2.out
  have r3 : 0 ≤ (x : Int) / (g : Int) ∧ (x : Int) / (g : Int) ≤ 18446744073709551615 := by rw [r1]; omega
  have r4 : 0 ≤ (y : Int) / (g : Int) ∧ (y : Int) / (g : Int) ≤ 18446744073709551615 := by rw [r2]; omega
  go_wp2
  refine bodyPost_ret (v := RV ((p : Int), (q : Int), 0)) (by simp [results, Try.results55, go_sem, RV]) rfl ⟨rfl, ?_⟩
  exact (by repeat (first | exact Below.refl _ _ | assumption | refine below_drewN ?_ _ | refine Below.setCell ?_ (by first | (simp; done) | (simp; omega)) _ | refine Below.alloc ?_ (by first | (simp; done) | (simp; omega) | omega) _ | refine Below.drew ?_ | refine Below.trans ?_ (Below.mono (by assumption) (by first | (simp; done) | (simp; omega) | omega))))
set_option maxRecDepth 100000 in
set_option maxHeartbeats 1600000 in
theorem of_neg (x y p q : Nat) (w : World) (hx : x ≤ 18446744073709551615) (hy : y ≤ 18446744073709551615) (h0 : 1 ≤ y) (hp : x / Nat.gcd x y = p) (hq : y / Nat.gcd x y = q) (hr0 : p ≤ 1000000000000) (hr : q ≤ 1000000) :
    Calls Try.prog 55 #[.bool true, .int .u64 x, .int .u64 y] w fun e w' => e = .returned (RV (-(p : Int), (q : Int), 0)) ∧ Below w.heap.size w w' := by
  have hg : 1 ≤ Nat.gcd x y := Nat.gcd_pos_of_pos_right _ (by omega)
  have y0 : ((y : Int) == 0) = false := by rw [beq_eq_false_iff_ne]; omega
  have e1 : ((x : Int) / (Nat.gcd x y : Nat)) = p := by rw [← hp]; exact (Int.natCast_ediv _ _).symm
  have e2 : ((y : Int) / (Nat.gcd x y : Nat)) = q := by rw [← hq]; exact (Int.natCast_ediv _ _).symm
  have b1 : p ≤ x := by rw [← hp]; exact Nat.div_le_self _ _
  have b2 : q ≤ y := by rw [← hq]; exact Nat.div_le_self _ _
  have E1 := Lib.hid e1
  have E2 := Lib.hid e2
  clear hp hq e1 e2
  go_enter Try.func55, Try.ntmps55
  go_wp2_with fail
  refine (rgcd_draws x y _ hx hy).mono ?_
  rintro e w1 ⟨rfl, m, rfl⟩
  generalize Nat.gcd x y = g at *
  have r1 := E1.out
  have r2 := E2.out
  have r3 : 0 ≤ (x : Int) / (g : Int) ∧ (x : Int) / (g : Int) ≤ 18446744073709551615 := by rw [r1]; omega
  have r4 : 0 ≤ (y : Int) / (g : Int) ∧ (y : Int) / (g : Int) ≤ 18446744073709551615 := by rw [r2]; omega
  go_wp2
  refine bodyPost_ret (v := RV (-(p : Int), (q : Int), 0)) (by simp [results, Try.results55, go_sem, RV]) rfl ⟨rfl, ?_⟩
  exact (by repeat (first | exact Below.refl _ _ | assumption | refine below_drewN ?_ _ | refine Below.setCell ?_ (by first | (simp; done) | (simp; omega)) _ | refine Below.alloc ?_ (by first | (simp; done) | (simp; omega) | omega) _ | refine Below.drew ?_ | refine Below.trans ?_ (Below.mono (by assumption) (by first | (simp; done) | (simp; omega) | omega))))
theorem of_none (s : Bool) (x : Nat) (w : World) :
    Calls Try.prog 55 #[.bool s, .int .u64 x, .int .u64 0] w fun e w' => e = .returned (RV (0, 0, 1)) ∧ Below w.heap.size w w' := by
  go_enter Try.func55, Try.ntmps55
  go_wp2
  refine bodyPost_ret (v := RV (0, 0, 1)) (by simp [results, Try.results55, go_sem, RV]) rfl ⟨rfl, ?_⟩
  exact (by repeat (first | exact Below.refl _ _ | assumption | refine below_drewN ?_ _ | refine Below.setCell ?_ (by first | (simp; done) | (simp; omega)) _ | refine Below.alloc ?_ (by first | (simp; done) | (simp; omega) | omega) _ | refine Below.drew ?_ | refine Below.trans ?_ (Below.mono (by assumption) (by first | (simp; done) | (simp; omega) | omega))))
theorem of_ref (s : Bool) (x y : Nat) (w : World) (hx : x ≤ 18446744073709551615) (hy : y ≤ 18446744073709551615) :
    Calls Try.prog 55 #[.bool s, .int .u64 x, .int .u64 y] w fun e w' => e = .returned (RV (Rt.ofS s x y)) ∧ Below w.heap.size w w' := by
  unfold Rt.ofS
  by_cases h0 : y = 0
  · subst h0; rw [if_pos rfl]; exact of_none s x w
  rw [if_neg h0]
  by_cases h1 : 1000000000000 < x / Nat.gcd x y
  · rw [if_pos (Or.inl h1)]; exact of_far1 s x y _ _ w hx hy (by omega) rfl rfl h1
  by_cases h2 : 1000000 < y / Nat.gcd x y
  · rw [if_pos (Or.inr h2)]; exact of_far2 s x y _ _ w hx hy (by omega) rfl rfl (by omega) h2
  rw [if_neg (by omega)]
  cases s
  · exact of_pos x y _ _ w hx hy (by omega) rfl rfl (by omega) (by omega)
  · exact of_neg x y _ _ w hx hy (by omega) rfl rfl (by omega) (by omega)
set_option maxHeartbeats 1600000 in
theorem rmake_any (n d : Int) (w : World) (h1 : -9223372036854775808 ≤ n) (h2 : n ≤ 9223372036854775807) (k1 : -9223372036854775808 ≤ d) (k2 : d ≤ 9223372036854775807) :
    Calls Try.prog 45 #[.int .i64 n, .int .i64 d] w fun e w' => e = .returned (RV (Rt.mk n d)) ∧ Below w.heap.size w w' := by
  obtain ⟨t, ht⟩ : ∃ t, Rt.mk n d = t := ⟨_, rfl⟩
  rw [ht]
  rw [Rt.mk_of] at ht
  have ht2 : Rt.ofS (!(decide (n < 0) == decide (d < 0))) n.natAbs d.natAbs = t := ht
  have HT := Lib.hid ht2
  clear ht ht2
  go_enter Try.func45, Try.ntmps45
  go_wp2_with fail
  refine (size_any _ _ h1 h2).mono ?_
  rintro e w' ⟨rfl, rfl⟩
  go_wp2_with fail
  refine (size_any _ _ k1 k2).mono ?_
  rintro e w' ⟨rfl, rfl⟩
  go_wp2_with fail
  refine (of_ref _ n.natAbs d.natAbs _ (by omega) (by omega)).mono ?_
  rintro e w1 ⟨rfl, hb1⟩
  rw [HT.out]
  obtain ⟨hc1, hf1⟩ := bcell hb1
  simp only [RV]
  go_wp2
  refine bodyPost_ret (v := RV t) (by simp [results, Try.results45, go_sem, RV, hc1]) rfl ⟨rfl, ?_⟩
  exact (by repeat (first | exact Below.refl _ _ | assumption | refine below_drewN ?_ _ | refine Below.setCell ?_ (by first | (simp; done) | (simp; omega)) _ | refine Below.alloc ?_ (by first | (simp; done) | (simp; omega) | omega) _ | refine Below.drew ?_ | refine Below.trans ?_ (Below.mono (by assumption) (by first | (simp; done) | (simp; omega) | omega))))
end Go.Proofs.Ytpdknjbhnelidaa

/- The walk of ratio.Make. -/
import Derived.Test.YtpdknjbhnelidaaRtA
import Derived.Test.YtpdknjbhnelidaaRtMath
namespace Go.Proofs.Ytpdknjbhnelidaa
open Go.RowKit

/-- what the operations return: a ratio and an error -/
def RV (t : Int × Int × Int) : Value := .tuple #[.agg #[.int .i64 t.1, .int .i64 t.2.1], .int .i64 t.2.2]
theorem bcell {W w1 : World} (hb : Below W.heap.size W w1) : (∀ b o, b < W.heap.size → w1.cell? ⟨b, o, none⟩ = W.cell? ⟨b, o, none⟩) ∧ (∀ b o, b < W.heap.size → w1.frozen? ⟨b, o, none⟩ = W.frozen? ⟨b, o, none⟩) :=
  ⟨fun b o h => hb.cell (p := ⟨b, o, none⟩) h, fun b o h => hb.frozen (p := ⟨b, o, none⟩) h⟩
theorem below_drewN {B : Nat} {a w : World} (h : Below B a w) (n : Nat) : Below B a (w.drewN n) := ⟨h.os, h.tape, h.output, h.size, h.block⟩

set_option maxHeartbeats 400000 in
theorem make_zero (n : Int) (w : World) :
    Calls Try.prog 52 #[.int .i64 n, .int .i64 0] w fun e w' => e = .returned (RV (0, 0, 1)) ∧ Below w.heap.size w w' := by
  go_enter Try.func52, Try.ntmps52
  go_wp2
  refine bodyPost_ret (v := RV (0, 0, 1)) (by simp [results, Try.results52, go_sem, RV]) rfl ⟨rfl, ?_⟩
  exact (((Below.refl _ _).alloc (Nat.le_refl _) _))

theorem quo_in (x g : Nat) (hx : x ≤ 18446744073709551615) : IntKind.u64.wrap ((x : Int) / (g : Int)) = ((x / g : Nat) : Int) := by
  have h : x / g ≤ x := Nat.div_le_self _ _
  rw [← Int.natCast_ediv]
  generalize x / g = z at *
  exact IntWalk.u64_in _ (by omega)
set_option maxHeartbeats 400000 in
theorem make_range1 (n d : Int) (p q : Nat) (w : World) (h1 : -9223372036854775808 ≤ n) (h2 : n ≤ 9223372036854775807) (k1 : -9223372036854775808 ≤ d) (k2 : d ≤ 9223372036854775807) (hd : d ≠ 0)
    (hp : n.natAbs / Nat.gcd n.natAbs d.natAbs = p) (hq : d.natAbs / Nat.gcd n.natAbs d.natAbs = q) (hr : 1000000000000 < p) :
    Calls Try.prog 52 #[.int .i64 n, .int .i64 d] w fun e w' => e = .returned (RV (0, 0, 2)) ∧ Below w.heap.size w w' := by
  have hb0 : (d == 0) = false := by simp [hd]
  have hg : 1 ≤ Nat.gcd n.natAbs d.natAbs := Nat.gcd_pos_of_pos_right _ (by omega)
  have hx : n.natAbs ≤ 9223372036854775808 := by omega
  have hy : d.natAbs ≤ 9223372036854775808 := by omega
  have e1 := quo_in n.natAbs (Nat.gcd n.natAbs d.natAbs) (by omega)
  have e2 := quo_in d.natAbs (Nat.gcd n.natAbs d.natAbs) (by omega)
  rw [hp] at e1
  rw [hq] at e2
  have E1 := Lib.hid e1
  have E2 := Lib.hid e2
  clear hd e1 e2 hp hq
  go_enter Try.func52, Try.ntmps52
  go_wp2_with fail
  refine (mag_any _ _ h1 h2).mono ?_
  rintro e w' ⟨rfl, rfl⟩
  go_wp2_with fail
  refine (mag_any _ _ k1 k2).mono ?_
  rintro e w' ⟨rfl, rfl⟩
  go_wp2_with fail
  refine (divisor_any _ n.natAbs d.natAbs _ (by omega) (by omega) (by go_simp) (by go_simp)).mono ?_
  rintro e w' ⟨rfl, m, rfl⟩
  generalize Nat.gcd n.natAbs d.natAbs = g at *
  generalize n.natAbs = x at *
  generalize d.natAbs = y at *
  have e1 := E1.out
  have e2 := E2.out
  go_wp2
  go_quiet (fail)
  clear e1 e2
  go_wp2
  refine bodyPost_ret (v := RV (0, 0, 2)) (by simp [results, Try.results52, go_sem, RV]) rfl ⟨rfl, ?_⟩
  exact (below_drewN (((Below.refl _ _).alloc (Nat.le_refl _) _).alloc (by simp) _) _).setCell (by simp) _ |>.setCell (by simp) _
set_option maxHeartbeats 400000 in
theorem make_range2 (n d : Int) (p q : Nat) (w : World) (h1 : -9223372036854775808 ≤ n) (h2 : n ≤ 9223372036854775807) (k1 : -9223372036854775808 ≤ d) (k2 : d ≤ 9223372036854775807) (hd : d ≠ 0)
    (hp : n.natAbs / Nat.gcd n.natAbs d.natAbs = p) (hq : d.natAbs / Nat.gcd n.natAbs d.natAbs = q) (hr0 : p ≤ 1000000000000) (hr : 1000000 < q) :
    Calls Try.prog 52 #[.int .i64 n, .int .i64 d] w fun e w' => e = .returned (RV (0, 0, 2)) ∧ Below w.heap.size w w' := by
  have hb0 : (d == 0) = false := by simp [hd]
  have hg : 1 ≤ Nat.gcd n.natAbs d.natAbs := Nat.gcd_pos_of_pos_right _ (by omega)
  have hx : n.natAbs ≤ 9223372036854775808 := by omega
  have hy : d.natAbs ≤ 9223372036854775808 := by omega
  have e1 := quo_in n.natAbs (Nat.gcd n.natAbs d.natAbs) (by omega)
  have e2 := quo_in d.natAbs (Nat.gcd n.natAbs d.natAbs) (by omega)
  rw [hp] at e1
  rw [hq] at e2
  have E1 := Lib.hid e1
  have E2 := Lib.hid e2
  clear hd e1 e2 hp hq
  go_enter Try.func52, Try.ntmps52
  go_wp2_with fail
  refine (mag_any _ _ h1 h2).mono ?_
  rintro e w' ⟨rfl, rfl⟩
  go_wp2_with fail
  refine (mag_any _ _ k1 k2).mono ?_
  rintro e w' ⟨rfl, rfl⟩
  go_wp2_with fail
  refine (divisor_any _ n.natAbs d.natAbs _ (by omega) (by omega) (by go_simp) (by go_simp)).mono ?_
  rintro e w' ⟨rfl, m, rfl⟩
  generalize Nat.gcd n.natAbs d.natAbs = g at *
  generalize n.natAbs = x at *
  generalize d.natAbs = y at *
  have e1 := E1.out
  have e2 := E2.out
  go_wp2
  go_quiet (fail)
  clear e1 e2
  go_wp2
  refine bodyPost_ret (v := RV (0, 0, 2)) (by simp [results, Try.results52, go_sem, RV]) rfl ⟨rfl, ?_⟩
  exact (below_drewN (((Below.refl _ _).alloc (Nat.le_refl _) _).alloc (by simp) _) _).setCell (by simp) _ |>.setCell (by simp) _
set_option maxHeartbeats 400000 in
theorem make_pp (n d : Int) (p q : Nat) (w : World) (h1 : -9223372036854775808 ≤ n) (h2 : n ≤ 9223372036854775807) (k1 : -9223372036854775808 ≤ d) (k2 : d ≤ 9223372036854775807) (hd : d ≠ 0)
    (hp : n.natAbs / Nat.gcd n.natAbs d.natAbs = p) (hq : d.natAbs / Nat.gcd n.natAbs d.natAbs = q) (hr0 : p ≤ 1000000000000) (hr : q ≤ 1000000) (hn : 0 ≤ n) (hs : 0 ≤ d) :
    Calls Try.prog 52 #[.int .i64 n, .int .i64 d] w fun e w' => e = .returned (RV ((p : Int), (q : Int), 0)) ∧ Below w.heap.size w w' := by
  have hb1 : decide (n < 0) = false := by simp; omega
  have hb2 : decide (d < 0) = false := by simp; omega
  clear hn hs
  have hb0 : (d == 0) = false := by simp [hd]
  have hg : 1 ≤ Nat.gcd n.natAbs d.natAbs := Nat.gcd_pos_of_pos_right _ (by omega)
  have hx : n.natAbs ≤ 9223372036854775808 := by omega
  have hy : d.natAbs ≤ 9223372036854775808 := by omega
  have e1 := quo_in n.natAbs (Nat.gcd n.natAbs d.natAbs) (by omega)
  have e2 := quo_in d.natAbs (Nat.gcd n.natAbs d.natAbs) (by omega)
  rw [hp] at e1
  rw [hq] at e2
  have E1 := Lib.hid e1
  have E2 := Lib.hid e2
  clear hd e1 e2 hp hq
  go_enter Try.func52, Try.ntmps52
  go_wp2_with fail
  refine (mag_any _ _ h1 h2).mono ?_
  rintro e w' ⟨rfl, rfl⟩
  go_wp2_with fail
  refine (mag_any _ _ k1 k2).mono ?_
  rintro e w' ⟨rfl, rfl⟩
  go_wp2_with fail
  refine (divisor_any _ n.natAbs d.natAbs _ (by omega) (by omega) (by go_simp) (by go_simp)).mono ?_
  rintro e w' ⟨rfl, m, rfl⟩
  generalize Nat.gcd n.natAbs d.natAbs = g at *
  generalize n.natAbs = x at *
  generalize d.natAbs = y at *
  have e1 := E1.out
  have e2 := E2.out
  go_wp2
  go_quiet (fail)
  clear e1 e2
  go_wp2
  refine bodyPost_ret (v := RV ((p : Int), (q : Int), 0)) (by simp [results, Try.results52, go_sem, RV]) rfl ⟨rfl, ?_⟩
  exact (by repeat (first | exact Below.refl _ _ | refine below_drewN ?_ _ | refine Below.setCell ?_ (by first | (simp; done) | (simp; omega)) _ | refine Below.alloc ?_ (by first | (simp; done) | (simp; omega)) _))
set_option maxHeartbeats 400000 in
theorem make_pn (n d : Int) (p q : Nat) (w : World) (h1 : -9223372036854775808 ≤ n) (h2 : n ≤ 9223372036854775807) (k1 : -9223372036854775808 ≤ d) (k2 : d ≤ 9223372036854775807) (hd : d ≠ 0)
    (hp : n.natAbs / Nat.gcd n.natAbs d.natAbs = p) (hq : d.natAbs / Nat.gcd n.natAbs d.natAbs = q) (hr0 : p ≤ 1000000000000) (hr : q ≤ 1000000) (hn : 0 ≤ n) (hs : d < 0) :
    Calls Try.prog 52 #[.int .i64 n, .int .i64 d] w fun e w' => e = .returned (RV (-(p : Int), (q : Int), 0)) ∧ Below w.heap.size w w' := by
  have hb1 : decide (n < 0) = false := by simp; omega
  have hb2 : decide (d < 0) = true := by simp; omega
  clear hn hs
  have hb0 : (d == 0) = false := by simp [hd]
  have hg : 1 ≤ Nat.gcd n.natAbs d.natAbs := Nat.gcd_pos_of_pos_right _ (by omega)
  have hx : n.natAbs ≤ 9223372036854775808 := by omega
  have hy : d.natAbs ≤ 9223372036854775808 := by omega
  have e1 := quo_in n.natAbs (Nat.gcd n.natAbs d.natAbs) (by omega)
  have e2 := quo_in d.natAbs (Nat.gcd n.natAbs d.natAbs) (by omega)
  rw [hp] at e1
  rw [hq] at e2
  have E1 := Lib.hid e1
  have E2 := Lib.hid e2
  clear hd e1 e2 hp hq
  go_enter Try.func52, Try.ntmps52
  go_wp2_with fail
  refine (mag_any _ _ h1 h2).mono ?_
  rintro e w' ⟨rfl, rfl⟩
  go_wp2_with fail
  refine (mag_any _ _ k1 k2).mono ?_
  rintro e w' ⟨rfl, rfl⟩
  go_wp2_with fail
  refine (divisor_any _ n.natAbs d.natAbs _ (by omega) (by omega) (by go_simp) (by go_simp)).mono ?_
  rintro e w' ⟨rfl, m, rfl⟩
  generalize Nat.gcd n.natAbs d.natAbs = g at *
  generalize n.natAbs = x at *
  generalize d.natAbs = y at *
  have e1 := E1.out
  have e2 := E2.out
  go_wp2
  go_quiet (fail)
  clear e1 e2
  go_wp2
  refine bodyPost_ret (v := RV (-(p : Int), (q : Int), 0)) (by simp [results, Try.results52, go_sem, RV]) rfl ⟨rfl, ?_⟩
  exact (by repeat (first | exact Below.refl _ _ | refine below_drewN ?_ _ | refine Below.setCell ?_ (by first | (simp; done) | (simp; omega)) _ | refine Below.alloc ?_ (by first | (simp; done) | (simp; omega)) _))
set_option maxHeartbeats 400000 in
theorem make_np (n d : Int) (p q : Nat) (w : World) (h1 : -9223372036854775808 ≤ n) (h2 : n ≤ 9223372036854775807) (k1 : -9223372036854775808 ≤ d) (k2 : d ≤ 9223372036854775807) (hd : d ≠ 0)
    (hp : n.natAbs / Nat.gcd n.natAbs d.natAbs = p) (hq : d.natAbs / Nat.gcd n.natAbs d.natAbs = q) (hr0 : p ≤ 1000000000000) (hr : q ≤ 1000000) (hn : n < 0) (hs : 0 ≤ d) :
    Calls Try.prog 52 #[.int .i64 n, .int .i64 d] w fun e w' => e = .returned (RV (-(p : Int), (q : Int), 0)) ∧ Below w.heap.size w w' := by
  have hb1 : decide (n < 0) = true := by simp; omega
  have hb2 : decide (d < 0) = false := by simp; omega
  clear hn hs
  have hb0 : (d == 0) = false := by simp [hd]
  have hg : 1 ≤ Nat.gcd n.natAbs d.natAbs := Nat.gcd_pos_of_pos_right _ (by omega)
  have hx : n.natAbs ≤ 9223372036854775808 := by omega
  have hy : d.natAbs ≤ 9223372036854775808 := by omega
  have e1 := quo_in n.natAbs (Nat.gcd n.natAbs d.natAbs) (by omega)
  have e2 := quo_in d.natAbs (Nat.gcd n.natAbs d.natAbs) (by omega)
  rw [hp] at e1
  rw [hq] at e2
  have E1 := Lib.hid e1
  have E2 := Lib.hid e2
  clear hd e1 e2 hp hq
  go_enter Try.func52, Try.ntmps52
  go_wp2_with fail
  refine (mag_any _ _ h1 h2).mono ?_
  rintro e w' ⟨rfl, rfl⟩
  go_wp2_with fail
  refine (mag_any _ _ k1 k2).mono ?_
  rintro e w' ⟨rfl, rfl⟩
  go_wp2_with fail
  refine (divisor_any _ n.natAbs d.natAbs _ (by omega) (by omega) (by go_simp) (by go_simp)).mono ?_
  rintro e w' ⟨rfl, m, rfl⟩
  generalize Nat.gcd n.natAbs d.natAbs = g at *
  generalize n.natAbs = x at *
  generalize d.natAbs = y at *
  have e1 := E1.out
  have e2 := E2.out
  go_wp2
  go_quiet (fail)
  clear e1 e2
  go_wp2
  refine bodyPost_ret (v := RV (-(p : Int), (q : Int), 0)) (by simp [results, Try.results52, go_sem, RV]) rfl ⟨rfl, ?_⟩
  exact (by repeat (first | exact Below.refl _ _ | refine below_drewN ?_ _ | refine Below.setCell ?_ (by first | (simp; done) | (simp; omega)) _ | refine Below.alloc ?_ (by first | (simp; done) | (simp; omega)) _))
set_option maxHeartbeats 400000 in
theorem make_nn (n d : Int) (p q : Nat) (w : World) (h1 : -9223372036854775808 ≤ n) (h2 : n ≤ 9223372036854775807) (k1 : -9223372036854775808 ≤ d) (k2 : d ≤ 9223372036854775807) (hd : d ≠ 0)
    (hp : n.natAbs / Nat.gcd n.natAbs d.natAbs = p) (hq : d.natAbs / Nat.gcd n.natAbs d.natAbs = q) (hr0 : p ≤ 1000000000000) (hr : q ≤ 1000000) (hn : n < 0) (hs : d < 0) :
    Calls Try.prog 52 #[.int .i64 n, .int .i64 d] w fun e w' => e = .returned (RV ((p : Int), (q : Int), 0)) ∧ Below w.heap.size w w' := by
  have hb1 : decide (n < 0) = true := by simp; omega
  have hb2 : decide (d < 0) = true := by simp; omega
  clear hn hs
  have hb0 : (d == 0) = false := by simp [hd]
  have hg : 1 ≤ Nat.gcd n.natAbs d.natAbs := Nat.gcd_pos_of_pos_right _ (by omega)
  have hx : n.natAbs ≤ 9223372036854775808 := by omega
  have hy : d.natAbs ≤ 9223372036854775808 := by omega
  have e1 := quo_in n.natAbs (Nat.gcd n.natAbs d.natAbs) (by omega)
  have e2 := quo_in d.natAbs (Nat.gcd n.natAbs d.natAbs) (by omega)
  rw [hp] at e1
  rw [hq] at e2
  have E1 := Lib.hid e1
  have E2 := Lib.hid e2
  clear hd e1 e2 hp hq
  go_enter Try.func52, Try.ntmps52
  go_wp2_with fail
  refine (mag_any _ _ h1 h2).mono ?_
  rintro e w' ⟨rfl, rfl⟩
  go_wp2_with fail
  refine (mag_any _ _ k1 k2).mono ?_
  rintro e w' ⟨rfl, rfl⟩
  go_wp2_with fail
  refine (divisor_any _ n.natAbs d.natAbs _ (by omega) (by omega) (by go_simp) (by go_simp)).mono ?_
  rintro e w' ⟨rfl, m, rfl⟩
  generalize Nat.gcd n.natAbs d.natAbs = g at *
  generalize n.natAbs = x at *
  generalize d.natAbs = y at *
  have e1 := E1.out
  have e2 := E2.out
  go_wp2
  go_quiet (fail)
  clear e1 e2
  go_wp2
  refine bodyPost_ret (v := RV ((p : Int), (q : Int), 0)) (by simp [results, Try.results52, go_sem, RV]) rfl ⟨rfl, ?_⟩
  exact (by repeat (first | exact Below.refl _ _ | refine below_drewN ?_ _ | refine Below.setCell ?_ (by first | (simp; done) | (simp; omega)) _ | refine Below.alloc ?_ (by first | (simp; done) | (simp; omega)) _))
theorem make_any (n d : Int) (w : World) (h1 : -9223372036854775808 ≤ n) (h2 : n ≤ 9223372036854775807) (k1 : -9223372036854775808 ≤ d) (k2 : d ≤ 9223372036854775807) :
    Calls Try.prog 52 #[.int .i64 n, .int .i64 d] w fun e w' => e = .returned (RV (Rt.mk n d)) ∧ Below w.heap.size w w' := by
  by_cases hd : d = 0
  · subst hd; rw [Rt.mk_zero]; exact make_zero n w
  by_cases r1 : 1000000000000 < n.natAbs / Nat.gcd n.natAbs d.natAbs
  · have e : Rt.mk n d = (0, 0, 2) := by unfold Rt.mk; rw [if_neg hd]; dsimp only; rw [if_pos (Or.inl r1)]
    rw [e]; exact make_range1 n d _ _ w h1 h2 k1 k2 hd rfl rfl r1
  by_cases r2 : 1000000 < d.natAbs / Nat.gcd n.natAbs d.natAbs
  · have e : Rt.mk n d = (0, 0, 2) := by unfold Rt.mk; rw [if_neg hd]; dsimp only; rw [if_pos (Or.inr r2)]
    rw [e]; exact make_range2 n d _ _ w h1 h2 k1 k2 hd rfl rfl (by omega) r2
  have e : Rt.mk n d = (if (decide (n < 0)) != (decide (d < 0)) then -((n.natAbs / Nat.gcd n.natAbs d.natAbs : Nat) : Int) else ((n.natAbs / Nat.gcd n.natAbs d.natAbs : Nat) : Int), ((d.natAbs / Nat.gcd n.natAbs d.natAbs : Nat) : Int), 0) := by
    unfold Rt.mk; rw [if_neg hd]; dsimp only; rw [if_neg (by omega)]
  rw [e]
  by_cases hn : n < 0 <;> by_cases hs : d < 0
  · simp only [hn, hs, decide_true, bne_self_eq_false, Bool.false_eq_true, if_false]
    exact make_nn n d _ _ w h1 h2 k1 k2 hd rfl rfl (by omega) (by omega) hn hs
  · simp only [hn, hs, decide_true, decide_false, Bool.bne_false, if_true]
    exact make_np n d _ _ w h1 h2 k1 k2 hd rfl rfl (by omega) (by omega) hn (by omega)
  · simp only [hn, hs, decide_true, decide_false, Bool.bne_true, Bool.not_false, if_true]
    exact make_pn n d _ _ w h1 h2 k1 k2 hd rfl rfl (by omega) (by omega) (by omega) hs
  · simp only [hn, hs, decide_false, bne_self_eq_false, Bool.false_eq_true, if_false]
    exact make_pp n d _ _ w h1 h2 k1 k2 hd rfl rfl (by omega) (by omega) (by omega) (by omega)
end Go.Proofs.Ytpdknjbhnelidaa

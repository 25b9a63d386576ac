/- The greatest common divisor; the product with a limit. -/
import Derived.Test.YtpdknjbhnelidaaQtF
import Derived.Deep.LoopGhost
namespace Go.Proofs.Ytpdknjbhnelidaa
open Go.RowKit

theorem abs_if (x : Int) : (if -x > x then -x else x) = (x.natAbs : Int) := by split <;> omega
@[go_sem high] theorem run_max_abs {P : Program} {w : World} (ts : Array TypeId) (t : TypeId) (k k' : IntKind) (x : Int) : (Builtin.max_ ts t #[.int k x, .int k' (-x)]).run P w = .ok (.int k (x.natAbs : Int)) w := by
  rw [← abs_if]
  simp [Builtin.max_, Builtin.max2]
def GcdIs (p q : Int) (g : Nat) : Prop := Nat.gcd p.natAbs q.natAbs = g
theorem gcdIs_next {p q : Int} {g : Nat} (h : GcdIs p q g) : GcdIs q (p.tmod q) g := by
  unfold GcdIs at h ⊢
  rw [Int.natAbs_tmod, Nat.gcd_comm q.natAbs, ← Nat.gcd_rec, Nat.gcd_comm]
  exact h
theorem tmod_lt {p q : Int} (h : q ≠ 0) : (p.tmod q).natAbs < q.natAbs := by rw [Int.natAbs_tmod]; exact Nat.mod_lt _ (by omega)
set_option maxRecDepth 100000 in
set_option maxHeartbeats 1600000 in
theorem divisor_draws (x y : Int) (g : Nat) (w : World) (hx : x.natAbs ≤ 1000000000000000) (hy : y.natAbs ≤ 1000000000000000) (hg : Nat.gcd x.natAbs y.natAbs = g) :
    Calls Try.prog 50 #[.int .i64 x, .int .i64 y] w fun e w' => e = .returned (.int .i64 (g : Int)) ∧ ∃ n, w' = w.drewN n := by
  have HG0 := Lib.hid (show GcdIs x y g from hg)
  clear hg
  go_enter Try.func50, Try.ntmps50
  go_wp2_with fail
  go_loopw [0, 1] (fun a b wr => ∃ (p q : Int) (m : Nat), a = .int .i64 p ∧ b = .int .i64 q ∧ p.natAbs ≤ 1000000000000000 ∧ q.natAbs ≤ 1000000000000000 ∧ GcdIs p q g ∧ wr = w.drewN m) (fun _ b _ => (intOf b).natAbs)
  case atStart => exact ⟨x, y, 0, rfl, rfl, hx, hy, HG0.out, rfl⟩
  case round =>
    obtain ⟨p, q, m, rfl, rfl, hp, hq, hgg, rfl⟩ := hrel
    have HGG := Lib.hid hgg
    clear hgg
    by_cases h0 : q = 0
    · have hb : (q != 0) = false := by simp [h0]
      have hv : p.natAbs = g := by
        have := HGG.out
        unfold GcdIs at this
        rw [h0] at this
        simpa using this
      have HV := Lib.hid hv
      clear hv h0
      have hp1 : -1000000000000000 ≤ p := by omega
      have hp2 : p ≤ 1000000000000000 := by omega
      go_wp2_with fail
      go_ret
      exact ⟨ret_int (by rw [HV.out]), ⟨m, rfl⟩⟩
    · have hb : (q != 0) = true := by simp [h0]
      have hb2 : (q == 0) = false := by simp [h0]
      have hlt := tmod_lt (p := p) h0
      have HL := Lib.hid hlt
      have HN := Lib.hid (gcdIs_next HGG.out)
      have hw : wrap64 (p.tmod q) = p.tmod q := by unfold wrap64; omega
      have hr1 : -1000000000000000 ≤ p.tmod q := by omega
      have hr2 : p.tmod q ≤ 1000000000000000 := by omega
      clear hlt
      go_wp2_with fail
      go_quiet (fail)
      go_wp2_with fail
      go_roundw
      case rel => exact ⟨q, p.tmod q, _, rfl, by simp, hq, by have := HL.out; omega, HN.out, World.drewN_drewN _ _ _⟩
      case measure => simp only [intOf]; exact HL.out
theorem divisor_q (x y : Int) (g : Nat) (w : World) (k : Nat) (hx : x.natAbs ≤ 1000000000000000) (hy : y.natAbs ≤ 1000000000000000) (hg : Nat.gcd x.natAbs y.natAbs = g) :
    Calls Try.prog 50 #[.int .i64 x, .int .i64 y] (w.drewN k) fun e w' => e = .returned (.int .i64 (g : Int)) ∧ ∃ q, w' = w.drewN q :=
  Calls.quiet_of (divisor_draws x y g _ hx hy hg)
theorem quo_le {m y : Int} (hm : 0 ≤ m) (hy : 1 ≤ y) : m.tdiv y = m / y ∧ 0 ≤ m / y ∧ m / y ≤ m := by
  refine ⟨Int.tdiv_eq_ediv_of_nonneg hm, Int.ediv_nonneg hm (by omega), Int.ediv_le_self _ hm⟩
set_option maxRecDepth 100000 in
set_option maxHeartbeats 1600000 in
theorem prod_one (x y z m : Int) (w : World) (hx : x.natAbs ≤ 1000000000000000) (hy1 : 1 ≤ y) (hy2 : y ≤ 1000000000000000) (hz1 : 1 ≤ z) (hz2 : z ≤ 1000000000000000) (hm1 : 0 ≤ m) (ha : m / y < (x.natAbs : Int)) :
    Calls Try.prog 51 #[.agg #[.int .i64 x, .int .i64 y, .int .i64 z], .int .i64 m] w fun e w' => e = .returned (RIB (0, false)) ∧ Below w.heap.size w w' := by
  have hyb : (y == 0) = false := beq_eq_false_iff_ne.2 (by omega)
  have hzb : (z == 0) = false := beq_eq_false_iff_ne.2 (by omega)
  have qy := quo_le (m := m) hm1 hy1
  have qz := quo_le (m := m) hm1 hz1
  go_enter Try.func51, Try.ntmps51
  go_wp2_with fail
  refine wp_loop_rounds 3 ?_
  rw [rounds_succ]
  go_wp2_with fail
  go_ret2
  exact ⟨rfl, (by repeat (first | exact Below.refl _ _ | assumption | refine below_drewN ?_ _ | refine Below.setCell ?_ (by first | (simp; done) | (simp; omega)) _ | refine Below.alloc ?_ (by first | (simp; done) | (simp; omega) | omega) _ | refine Below.drew ?_ | refine Below.trans ?_ (Below.mono (by assumption) (by first | (simp; done) | (simp; omega) | omega))))⟩
set_option maxRecDepth 100000 in
set_option maxHeartbeats 1600000 in
theorem prod_two (x y z m : Int) (w : World) (hx : x.natAbs ≤ 1000000000000000) (hy1 : 1 ≤ y) (hy2 : y ≤ 1000000000000000) (hz1 : 1 ≤ z) (hz2 : z ≤ 1000000000000000) (hm1 : 0 ≤ m) (hm2 : m ≤ 1000000000000000) (ha : (x.natAbs : Int) ≤ m / y) (hv1 : -1000000000000000 ≤ x * y) (hv2 : x * y ≤ 1000000000000000) (hb : m / z < ((x * y).natAbs : Int)) :
    Calls Try.prog 51 #[.agg #[.int .i64 x, .int .i64 y, .int .i64 z], .int .i64 m] w fun e w' => e = .returned (RIB (0, false)) ∧ Below w.heap.size w w' := by
  have hyb : (y == 0) = false := beq_eq_false_iff_ne.2 (by omega)
  have hzb : (z == 0) = false := beq_eq_false_iff_ne.2 (by omega)
  have qy := quo_le (m := m) hm1 hy1
  have qz := quo_le (m := m) hm1 hz1
  go_enter Try.func51, Try.ntmps51
  go_wp2_with fail
  refine wp_loop_rounds 3 ?_
  rw [rounds_succ]
  go_wp2_with fail
  rw [rounds_succ]
  go_wp2_with fail
  go_ret2
  exact ⟨rfl, (by repeat (first | exact Below.refl _ _ | assumption | refine below_drewN ?_ _ | refine Below.setCell ?_ (by first | (simp; done) | (simp; omega)) _ | refine Below.alloc ?_ (by first | (simp; done) | (simp; omega) | omega) _ | refine Below.drew ?_ | refine Below.trans ?_ (Below.mono (by assumption) (by first | (simp; done) | (simp; omega) | omega))))⟩
set_option maxRecDepth 100000 in
set_option maxHeartbeats 1600000 in
theorem prod_all (x y z m : Int) (w : World) (hx : x.natAbs ≤ 1000000000000000) (hy1 : 1 ≤ y) (hy2 : y ≤ 1000000000000000) (hz1 : 1 ≤ z) (hz2 : z ≤ 1000000000000000) (hm1 : 0 ≤ m) (hm2 : m ≤ 1000000000000000) (ha : (x.natAbs : Int) ≤ m / y) (hv1 : -1000000000000000 ≤ x * y) (hv2 : x * y ≤ 1000000000000000) (hb : ((x * y).natAbs : Int) ≤ m / z) (hv3 : -1000000000000000 ≤ x * y * z) (hv4 : x * y * z ≤ 1000000000000000) :
    Calls Try.prog 51 #[.agg #[.int .i64 x, .int .i64 y, .int .i64 z], .int .i64 m] w fun e w' => e = .returned (RIB (x * y * z, true)) ∧ Below w.heap.size w w' := by
  have hyb : (y == 0) = false := beq_eq_false_iff_ne.2 (by omega)
  have hzb : (z == 0) = false := beq_eq_false_iff_ne.2 (by omega)
  have qy := quo_le (m := m) hm1 hy1
  have qz := quo_le (m := m) hm1 hz1
  go_enter Try.func51, Try.ntmps51
  go_wp2_with fail
  refine wp_loop_rounds 3 ?_
  rw [rounds_succ]
  go_wp2_with fail
  rw [rounds_succ]
  go_wp2_with fail
  rw [rounds_succ]
  go_wp2_with fail
  go_ret2
  exact ⟨rfl, (by repeat (first | exact Below.refl _ _ | assumption | refine below_drewN ?_ _ | refine Below.setCell ?_ (by first | (simp; done) | (simp; omega)) _ | refine Below.alloc ?_ (by first | (simp; done) | (simp; omega) | omega) _ | refine Below.drew ?_ | refine Below.trans ?_ (Below.mono (by assumption) (by first | (simp; done) | (simp; omega) | omega))))⟩
/-- the product of three numbers, if it is at most m -/
def prodS (x y z m : Int) : Int × Bool := if ((x * y * z).natAbs : Int) ≤ m then (x * y * z, true) else (0, false)
theorem prod_any (x y z m : Int) (w : World) (hx : x.natAbs ≤ 1000000000000000) (hy1 : 1 ≤ y) (hy2 : y ≤ 1000000000000000) (hz1 : 1 ≤ z) (hz2 : z ≤ 1000000000000000) (hm1 : 0 ≤ m) (hm2 : m ≤ 1000000000000000) :
    Calls Try.prog 51 #[.agg #[.int .i64 x, .int .i64 y, .int .i64 z], .int .i64 m] w fun e w' => e = .returned (RIB (prodS x y z m)) ∧ Below w.heap.size w w' := by
  have t1 := Qn.times_limit (p := x) (l := y) (lim := m) (by omega) hm1
  have t2 := Qn.times_limit (p := x * y) (l := z) (lim := m) (by omega) hm1
  have g2 := Qn.times_grow (p := x * y) (l := z) (by omega)
  unfold prodS
  by_cases ha : (x.natAbs : Int) ≤ m / y
  · have b1 := t1.1 ha
    by_cases hb : ((x * y).natAbs : Int) ≤ m / z
    · have b2 := t2.1 hb
      rw [if_pos b2]
      exact prod_all x y z m w hx hy1 hy2 hz1 hz2 hm1 hm2 ha (by omega) (by omega) hb (by omega) (by omega)
    · rw [if_neg (fun k => hb (t2.2 k))]
      exact prod_two x y z m w hx hy1 hy2 hz1 hz2 hm1 hm2 ha (by omega) (by omega) (by omega)
  · rw [if_neg (fun k => ha (t1.2 (by omega)))]
    exact prod_one x y z m w hx hy1 hy2 hz1 hz2 hm1 (by omega)
end Go.Proofs.Ytpdknjbhnelidaa

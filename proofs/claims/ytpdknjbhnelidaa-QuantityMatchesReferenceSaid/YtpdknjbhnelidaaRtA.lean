/- The walks of ratio's leaves: the magnitude, the greatest common divisor. -/
import Derived.Test.YtpdknjbhnelidaaRows
import Derived.WalkKit
import Derived.WalkSpells
import Derived.WalkLawsBesides
import Derived.Deep.LoopGhost
import Derived.Deep.QuietTactic
import Derived.BigQuiet
import Derived.Lib.Hide
import Derived.Deep.Draws
namespace Go.Proofs.Ytpdknjbhnelidaa
open Go.RowKit

theorem ret_int {k : IntKind} {a b : Int} (h : a = b) : Ending.returned (.int k a) = .returned (.int k b) := by rw [h]
theorem u64_neg (n : Int) (h1 : -9223372036854775808 ≤ n) (h2 : n < 0) : IntKind.u64.wrap (-IntKind.u64.wrap n) = (n.natAbs : Int) := by
  simp [IntKind.wrap, IntKind.bits, IntKind.signed]; omega
set_option maxHeartbeats 400000 in
theorem mag_any (n : Int) (w : World) (h1 : -9223372036854775808 ≤ n) (h2 : n ≤ 9223372036854775807) :
    Calls Try.prog 38 #[.int .i64 n] w fun e w' => e = .returned (.int .u64 (n.natAbs : Int)) ∧ w = w' := by
  by_cases hn : n < 0
  · go_enter Try.func38, Try.ntmps38
    go_wp2
    go_ret
    exact ⟨ret_int (u64_neg n h1 hn), rfl⟩
  · go_enter Try.func38, Try.ntmps38
    go_wp2
    go_ret
    exact ⟨ret_int (by omega), rfl⟩

def DivRel (x y k c : Nat) : Prop := k ≤ 2 ∧ (k = 0 → c = 0) ∧ (k = 1 → c = x) ∧ (k = 2 → c = Nat.gcd x y)
theorem divRel_end {x y k c : Nat} (h : DivRel x y k c) (hk : ¬ k < 2) : c = Nat.gcd x y := h.2.2.2 (by have := h.1; omega)
def EqGcd (p q g : Nat) : Prop := Nat.gcd p q = g
theorem divRel_next {x y k c : Nat} {b : Nat} {w : World} (h : DivRel x y k c) (hk : k < 2) (hx : x ≤ 18446744073709551615) (hy : y ≤ 18446744073709551615)
    (c0 : w.cell? ⟨b, 0, none⟩ = some (.int .u64 (x : Int))) (c1 : w.cell? ⟨b, 1, none⟩ = some (.int .u64 (y : Int))) :
    ∃ v : Nat, v ≤ 18446744073709551615 ∧ w.cell? ⟨b, k, none⟩ = some (.int .u64 (v : Int)) ∧ DivRel x y (k + 1) (Nat.gcd c v) := by
  rcases (by omega : k = 0 ∨ k = 1) with rfl | rfl
  · exact ⟨x, hx, c0, by omega, by omega, fun _ => by rw [h.2.1 rfl]; simp, by omega⟩
  · exact ⟨y, hy, c1, by omega, by omega, by omega, fun _ => by rw [h.2.2.1 rfl]⟩
set_option maxHeartbeats 800000 in
theorem divisor_any (b : Nat) (x y : Nat) (w : World) (hx : x ≤ 18446744073709551615) (hy : y ≤ 18446744073709551615)
    (c0 : w.cell? ⟨b, 0, none⟩ = some (.int .u64 (x : Int))) (c1 : w.cell? ⟨b, 1, none⟩ = some (.int .u64 (y : Int))) :
    Calls Try.prog 39 #[.slice (some ⟨b, 0, none⟩) 2 2] w fun e w' => e = .returned (.int .u64 (Nat.gcd x y : Nat)) ∧ ∃ n, w' = w.drewN n := by
  have H0 := Lib.hid c0
  have H1 := Lib.hid c1
  clear c0 c1
  go_enter Try.func39, Try.ntmps39
  go_wp2
  go_loopw [3, 8] (fun t i wr => ∃ k c n : Nat, i = .int .i64 k ∧ t = .int .u64 c ∧ DivRel x y k c ∧ c ≤ 18446744073709551615 ∧ wr = w.drewN n) (fun _ i _ => 2 - (intOf i).toNat)
  case atStart => exact ⟨0, 0, 0, rfl, rfl, ⟨by omega, fun _ => rfl, by omega, by omega⟩, by omega, rfl⟩
  case round =>
    obtain ⟨k, c, n, rfl, rfl, hrel, hc, rfl⟩ := hrel
    by_cases hlt : k < 2
    · obtain ⟨v, hv, hcell, hnext⟩ := divRel_next hrel hlt hx hy H0.out H1.out
      have HC := Lib.hid hcell
      have HN := Lib.hid hnext
      clear hnext hrel
      go_wp2
      clear hcell
      go_loopw [3, 5] (fun t u wr => ∃ p q m : Nat, t = .int .u64 p ∧ u = .int .u64 q ∧ p ≤ 18446744073709551615 ∧ q ≤ 18446744073709551615 ∧ EqGcd p q (Nat.gcd c v) ∧ wr = w.drewN m) (fun _ u _ => (intOf u).toNat)
      case atStart => exact ⟨c, v, n, rfl, rfl, hc, hv, rfl, rfl⟩
      case round =>
        obtain ⟨p, q, m, rfl, rfl, hp, hq, hg, rfl⟩ := hrel
        have HG := Lib.hid hg
        clear hg
        by_cases hq0 : q = 0
        · have hb : ((q : Int) != 0) = false := by simp [hq0]
          have hg2 : p = Nat.gcd c v := by have := HG.out; unfold EqGcd at this; rw [hq0] at this; simpa using this
          have HG2 := Lib.hid hg2
          clear hg2 hq0
          go_wp2
          go_roundw
          case rel => exact ⟨k + 1, p, m, by go_num, rfl, by rw [HG2.out]; exact HN.out, hp, rfl⟩
          case measure => simp [intOf]; omega
        · have hb : ((q : Int) != 0) = true := by simp [hq0]
          have hq1 : 1 ≤ q := by omega
          have hlt2 : p % q < q := Nat.mod_lt _ hq1
          clear hq0
          go_wp2
          go_quiet (fail)
          go_wp2
          go_roundw
          case rel => exact ⟨q, p % q, _, rfl, by simp, hq, by omega, by unfold EqGcd; rw [Nat.gcd_comm q, ← Nat.gcd_rec, Nat.gcd_comm]; exact HG.out, World.drewN_drewN _ _ _⟩
          case measure => simp [intOf]; omega
    · have he := divRel_end hrel hlt
      have HE := Lib.hid he
      clear he
      go_wp2
      go_ret
      exact ⟨ret_int (by rw [HE.out]), ⟨n, rfl⟩⟩
end Go.Proofs.Ytpdknjbhnelidaa

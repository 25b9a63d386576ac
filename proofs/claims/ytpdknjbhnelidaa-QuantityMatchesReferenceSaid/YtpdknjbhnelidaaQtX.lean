/- The reference's size and times. -/
import Derived.Test.YtpdknjbhnelidaaQtV
namespace Go.Proofs.Ytpdknjbhnelidaa
open Go.RowKit

theorem size4_any (n : Int) (w : World) (h1 : -9223372036854775807 ≤ n) (h2 : n ≤ 9223372036854775807) :
    Calls Try.prog 43 #[.int .i64 n] w fun e w' => e = .returned (.int .i64 (n.natAbs : Int)) ∧ w = w' := by
  by_cases hn : n < 0
  · go_enter Try.func43, Try.ntmps43
    go_wp2
    go_ret
    exact ⟨ret_int (by first | omega | (simp; omega)), rfl⟩
  · go_enter Try.func43, Try.ntmps43
    go_wp2
    go_ret
    exact ⟨ret_int (by omega), rfl⟩
theorem size4_q (n : Int) (w : World) (k : Nat) (h1 : -9223372036854775807 ≤ n) (h2 : n ≤ 9223372036854775807) :
    Calls Try.prog 43 #[.int .i64 n] (w.drewN k) fun e w' => e = .returned (.int .i64 (n.natAbs : Int)) ∧ ∃ m, w' = w.drewN m :=
  (size4_any n _ h1 h2).mono fun _ _ ⟨he, hw⟩ => ⟨he, k, hw.symm⟩
/-- a product of three with a limit -/
def timesS (a b c lim : Int) : Int × Bool := if ((a * b * c).natAbs : Int) ≤ lim then (a * b * c, true) else (0, false)
set_option maxRecDepth 100000 in
set_option maxHeartbeats 1600000 in
theorem times_walk (a b c lim r1 : Int) (r2 : Bool) (w : World) (ha : a.natAbs ≤ 1000000000000) (hb : 0 < b) (hb2 : b ≤ 1000000000000) (hc : 0 < c) (hc2 : c ≤ 1000000000000) (hl : 0 ≤ lim) (hl2 : lim ≤ 1000000000000) (hr : timesS a b c lim = (r1, r2)) :
    Calls Try.prog 44 #[.agg #[.int .i64 a, .int .i64 b, .int .i64 c], .int .i64 lim] w fun e w' => e = .returned (RIB (r1, r2)) ∧ Below w.heap.size w w' := by
  obtain ⟨ab, hab⟩ : ∃ x, x = a * b := ⟨_, rfl⟩
  obtain ⟨abc, habc⟩ : ∃ x, x = ab * c := ⟨_, rfl⟩
  have HAB := Lib.hid hab
  have HABC := Lib.hid habc
  have HR := Lib.hid hr
  have HL1 := Lib.hid (Qn.times_limit (p := a) (lim := lim) hb hl)
  have HL2 := Lib.hid (Qn.times_limit (p := ab) (lim := lim) hc hl)
  have HG := Lib.hid (Qn.times_grow (p := ab) hc)
  have hnb : ¬ b = 0 := by omega
  have hnc : ¬ c = 0 := by omega
  clear hr hab habc
  go_enter Try.func44, Try.ntmps44
  go_wp2_with fail
  go_loopw [6, 7] (fun vp vi wr => ∃ (i : Nat) (x : Int), vi = .int .i64 i ∧ vp = .int .i64 x ∧ ((i = 1 ∧ x = a) ∨ (i = 2 ∧ x = ab ∧ (ab.natAbs : Int) ≤ lim) ∨ (i = 3 ∧ x = abc ∧ (abc.natAbs : Int) ≤ lim)) ∧ Below w.heap.size w wr ∧ wr.cell? ⟨w.heap.size, 1, none⟩ = some (.int .i64 b) ∧ wr.cell? ⟨w.heap.size, 2, none⟩ = some (.int .i64 c)) (fun _ vi _ => 3 - (intOf vi).toNat)
  case atStart => exact ⟨1, a, rfl, rfl, .inl ⟨rfl, rfl⟩, (Below.refl _ _).alloc (Nat.le_refl _) _, by go_simp, by go_simp⟩
  case round =>
    obtain ⟨i, x, rfl, rfl, hcase, hbw, cb, cc⟩ := hrel
    have HBW := Lib.hid hbw
    have hlt := World.block_lt_of_cell? wr _ cb
    clear hbw
    rcases hcase with ⟨rfl, rfl⟩ | ⟨rfl, rfl, hx⟩ | ⟨rfl, rfl, hx⟩
    · by_cases h : (x.natAbs : Int) ≤ lim / b
      · have hd : decide (lim / b < (x.natAbs : Int)) = false := decide_eq_false (by omega)
        have HX := Lib.hid (HL1.out.1 h)
        have hm : x * b = ab := HAB.out.symm
        have hmb : (ab.natAbs : Int) ≤ lim := by rw [HAB.out]; exact HX.out
        have hm1 : -9223372036854775808 ≤ ab := by omega
        have hm2 : ab ≤ 9223372036854775807 := by omega
        clear h
        go_wp2_with fail
        go_quiet (first | exact size4_q _ _ _ (by omega) (by omega))
        go_wp2_with fail
        go_roundw
        case rel => exact ⟨2, ab, rfl, rfl, .inr (.inl ⟨rfl, rfl, hmb⟩), below_drewN HBW.out _, by go_simp, by go_simp⟩
        case measure => simp [intOf]
      · have hd : decide (lim / b < (x.natAbs : Int)) = true := decide_eq_true (by omega)
        have hno : (0, false) = (r1, r2) := by
          rw [← HR.out]
          unfold timesS
          rw [if_neg]
          intro k
          have k1 := HL1.out
          have k2 := HG.out
          rw [← HAB.out] at k k1
          omega
        obtain ⟨rfl, rfl⟩ := Prod.mk.inj hno
        clear h hno
        go_wp2_with fail
        go_quiet (first | exact size4_q _ _ _ (by omega) (by omega))
        go_wp2_with fail
        go_ret2
        exact ⟨rfl, below_drewN HBW.out _⟩
    · by_cases h : (x.natAbs : Int) ≤ lim / c
      · have hd : decide (lim / c < (x.natAbs : Int)) = false := decide_eq_false (by omega)
        have HX := Lib.hid (HL2.out.1 h)
        have hm : x * c = abc := HABC.out.symm
        have hmb : (abc.natAbs : Int) ≤ lim := by rw [HABC.out]; exact HX.out
        have hm1 : -9223372036854775808 ≤ abc := by omega
        have hm2 : abc ≤ 9223372036854775807 := by omega
        clear h
        go_wp2_with fail
        go_quiet (first | exact size4_q _ _ _ (by omega) (by omega))
        go_wp2_with fail
        go_roundw
        case rel => exact ⟨3, abc, rfl, rfl, .inr (.inr ⟨rfl, rfl, hmb⟩), below_drewN HBW.out _, by go_simp, by go_simp⟩
        case measure => simp [intOf]
      · have hd : decide (lim / c < (x.natAbs : Int)) = true := decide_eq_true (by omega)
        have hno : (0, false) = (r1, r2) := by
          rw [← HR.out]
          unfold timesS
          rw [if_neg]
          intro k
          have k1 := HL2.out
          rw [← HAB.out] at k
          omega
        obtain ⟨rfl, rfl⟩ := Prod.mk.inj hno
        clear h hno
        go_wp2_with fail
        go_quiet (first | exact size4_q _ _ _ (by omega) (by omega))
        go_wp2_with fail
        go_ret2
        exact ⟨rfl, below_drewN HBW.out _⟩
    · have hyes : (x, true) = (r1, r2) := by
        rw [← HR.out]
        unfold timesS
        rw [← HAB.out, ← HABC.out, if_pos hx]
      obtain ⟨rfl, rfl⟩ := Prod.mk.inj hyes
      clear hyes hx
      go_wp2_with fail
      go_ret2
      exact ⟨rfl, HBW.out⟩
theorem times_any (a b c lim : Int) (w : World) (ha : a.natAbs ≤ 1000000000000) (hb : 0 < b) (hb2 : b ≤ 1000000000000) (hc : 0 < c) (hc2 : c ≤ 1000000000000) (hl : 0 ≤ lim) (hl2 : lim ≤ 1000000000000) :
    Calls Try.prog 44 #[.agg #[.int .i64 a, .int .i64 b, .int .i64 c], .int .i64 lim] w fun e w' => e = .returned (RIB (timesS a b c lim)) ∧ Below w.heap.size w w' :=
  times_walk a b c lim _ _ w ha hb hb2 hc hc2 hl hl2 rfl
end Go.Proofs.Ytpdknjbhnelidaa

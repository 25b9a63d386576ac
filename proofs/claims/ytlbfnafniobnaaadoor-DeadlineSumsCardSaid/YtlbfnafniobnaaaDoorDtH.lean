/- The walks of the counting function, of sort.Search, and of what Add searches with. -/
import Derived.Test.YtlbfnafniobnaaaDoorDtG
namespace Go.Proofs.YtlbfnafniobnaaaDoor
open Go.RowKit

theorem prod_bd {a b : Nat} (ha : a ≤ 10436) (hb : b ≤ 7) : a * b ≤ 73052 := Nat.le_trans (Nat.mul_le_mul ha hb) (by omega)
theorem past_le (l : List Int) (x : Int) : Dt.past l x ≤ l.length := List.countP_le_length
set_option maxRecDepth 100000 in
set_option maxHeartbeats 1600000 in
theorem count_draws (Bt Bb tb c : Nat) (W : Nat → Bool) (hs : List Int) (d : Nat) (w : World) (h4 : hs.length ≤ 400) (hv : Dt.Asc hs) (hd : d ≤ 73049) (hC : CntAt w Bt Bb tb c W hs) :
    Calls Tryd.prog 79 #[.int .i64 (d : Int), .pointer (some ⟨Bt, 0, none⟩), .pointer (some ⟨Bb, 0, none⟩)] w fun e w' => e = .returned (.int .i64 (Dt.cnt W hs d)) ∧ ∃ q, w' = w.drewN q := by
  obtain ⟨c1, c2, c3⟩ := hC
  have b7 := c3 7 (by omega)
  have bm := c3 (d % 7) (by omega)
  have l7 := bef_le W 7
  have lm := bef_le W (d % 7)
  have hl : (Dt.taken W hs).length ≤ 400 := Nat.le_trans (List.length_filter_le _ _) h4
  have hp : (Dt.taken W hs).Pairwise (· ≤ ·) := asc_le _ (Dt.asc_filter _ hv)
  have lp := past_le (Dt.taken W hs) (d : Int)
  have r : Dt.cnt W hs d = ((d / 7 * Dt.bef W 7 + Dt.bef W (d % 7) : Nat) : Int) - (Dt.past (Dt.taken W hs) d : Nat) := rfl
  have hs1 := Tryd.slices_BinarySearch_int tb 0 (Dt.taken W hs).length c (Dt.taken W hs) (d : Int) w (Nat.le_refl _) (by omega) c2 (by rw [List.take_length]; exact hp)
  rw [List.take_length] at hs1
  change Calls Tryd.prog 33 _ _ (fun e w' => e = .returned (.tuple #[.int .i64 ((Dt.past (Dt.taken W hs) d : Nat) : Int), _]) ∧ _) at hs1
  have R := Lib.hid r
  have HS := Lib.hid hs1
  clear r hs1 hp c2 c3
  generalize Dt.past (Dt.taken W hs) (d : Int) = ps at *
  generalize (Dt.taken W hs).contains (d : Int) = bo at *
  generalize (Dt.taken W hs).length = ln at *
  generalize Dt.bef W 7 = z7 at *
  generalize Dt.bef W (d % 7) = zm at *
  have pb := prod_bd (show d / 7 ≤ 10436 by omega) l7
  have e0 : (d : Int) / 7 * (z7 : Int) = ((d / 7 * z7 : Nat) : Int) := by push_cast; rfl
  have e1 : IntKind.i64.wrap ((d : Int) / 7 * (z7 : Int)) = ((d / 7 * z7 : Nat) : Int) := by rw [e0]; exact IntWalk.i64_in _ (by omega)
  have E0 := Lib.hid e0
  clear e0
  generalize hpr : d / 7 * z7 = pr at *
  have HPR := Lib.hid hpr
  clear hpr
  have e2 : IntKind.i64.wrap ((pr : Int) + (zm : Int)) = (pr : Int) + (zm : Int) := IntWalk.i64_in _ (by omega)
  have e3 : IntKind.i64.wrap ((pr : Int) + (zm : Int) - (ps : Int)) = (pr : Int) + (zm : Int) - (ps : Int) := IntWalk.i64_in _ (by omega)
  go_enter Tryd.func79, Tryd.ntmps79
  go_wp2_with fail
  refine HS.out.mono ?_
  rintro e w1 ⟨rfl, q1, rfl⟩
  go_wp2
  have i1 : 0 ≤ (d : Int) % 7 := by omega
  have i2 : (d : Int) % 7 < 8 := by omega
  go_quiet (fail)
  go_wp2
  go_ret
  exact ⟨ret_int (by rw [R.out]; push_cast; rfl), _, World.drewN_drewN _ _ _⟩
theorem count_q (Bt Bb tb c : Nat) (W : Nat → Bool) (hs : List Int) (d : Nat) (w : World) (k : Nat) (h4 : hs.length ≤ 400) (hv : Dt.Asc hs) (hd : d ≤ 73049) (hC : CntAt w Bt Bb tb c W hs) :
    Calls Tryd.prog 79 #[.int .i64 (d : Int), .pointer (some ⟨Bt, 0, none⟩), .pointer (some ⟨Bb, 0, none⟩)] (w.drewN k) fun e w' => e = .returned (.int .i64 (Dt.cnt W hs d)) ∧ ∃ q, w' = w.drewN q :=
  Calls.quiet_of (count_draws Bt Bb tb c W hs d _ h4 hv hd hC)
set_option maxRecDepth 100000 in
set_option maxHeartbeats 1600000 in
/-- what Add searches with: are there more than ea business days up to the day i -/
theorem more_draws (B8 B9 Bt Bb tb c : Nat) (W : Nat → Bool) (hs : List Int) (ea : Int) (i : Nat) (w : World) (h4 : hs.length ≤ 400) (hv : Dt.Asc hs) (hi : i ≤ 73048) (hC : CntAt w Bt Bb tb c W hs)
    (h8 : w.cell? ⟨B8, 0, none⟩ = some (.func (.func 79) #[] #[.pointer (some ⟨Bt, 0, none⟩), .pointer (some ⟨Bb, 0, none⟩)])) (h9 : w.cell? ⟨B9, 0, none⟩ = some (.int .i64 ea)) :
    Calls Tryd.prog 64 #[.int .i64 (i : Int), .pointer (some ⟨B8, 0, none⟩), .pointer (some ⟨B9, 0, none⟩)] w fun e w' => e = .returned (.bool (decide (Dt.cnt W hs (i + 1) > ea))) ∧ ∃ q, w' = w.drewN q := by
  have hq : ∀ k, Calls Tryd.prog 79 #[.int .i64 ((i : Int) + 1), .pointer (some ⟨Bt, 0, none⟩), .pointer (some ⟨Bb, 0, none⟩)] (w.drewN k) fun e w' => e = .returned (.int .i64 (Dt.cnt W hs (i + 1))) ∧ ∃ q, w' = w.drewN q := fun k => by
    have := count_q Bt Bb tb c W hs (i + 1) w k h4 hv (by omega) hC
    rwa [show (((i + 1 : Nat) : Int)) = (i : Int) + 1 by omega] at this
  have e1 : IntKind.i64.wrap ((i : Int) + 1) = (i : Int) + 1 := IntWalk.i64_in _ (by omega)
  have HQ := Lib.hid hq
  clear hq hC
  generalize Dt.cnt W hs (i + 1) = z at *
  go_enter Tryd.func64, Tryd.ntmps64
  go_wp2
  go_quiet (first | exact HQ.out _)
  go_wp2
  go_ret
  exact ⟨rfl, _, rfl⟩
set_option maxRecDepth 100000 in
set_option maxHeartbeats 1600000 in
theorem search_any (B8 B9 : Nat) (n : Nat) (p : Nat → Bool) (w : World) (hsz : n ≤ 73049)
    (hf : ∀ (m : Nat) (i : Nat), i < n → Calls Tryd.prog 64 #[.int .i64 i, .pointer (some ⟨B8, 0, none⟩), .pointer (some ⟨B9, 0, none⟩)] (w.drewN m) fun e w' => e = .returned (.bool (p i)) ∧ ∃ q, w' = (w.drewN m).drewN q)
    (hmono : ∀ a b, a ≤ b → p a = true → p b = true) :
    Calls Tryd.prog 63 #[.int .i64 n, .func (.func 64) #[] #[.pointer (some ⟨B8, 0, none⟩), .pointer (some ⟨B9, 0, none⟩)]] w fun e w' => e = .returned (.int .i64 ((List.range n).countP (fun i => !p i) : Nat)) ∧ ∃ q, w' = w.drewN q := by
  have HF := Lib.hid hf
  have M := Lib.hid hmono
  clear hf hmono
  generalize hcnt : (List.range n).countP (fun i => !p i) = cnt
  have CN := Lib.hid hcnt
  clear hcnt
  go_enter Tryd.func63, Tryd.ntmps63
  go_wp2
  go_loopg [5, 6] n (fun kx s5 s6 wr => ∃ (lo hi q : Nat), s5 = .int .i64 lo ∧ s6 = .int .i64 hi ∧ lo ≤ hi ∧ hi ≤ n ∧ hi - lo ≤ kx ∧ wr = w.drewN q ∧
    Hid ((∀ t, t < lo → p t = false) ∧ (∀ t, hi ≤ t → t < n → p t = true)))
  case atStart => exact ⟨0, n, 0, rfl, rfl, Nat.zero_le _, Nat.le_refl _, by omega, rfl, Lib.hid ⟨fun t ht => absurd ht (Nat.not_lt_zero _), fun t h1 h2 => by omega⟩⟩
  case round =>
    obtain ⟨lo, hi, q, rfl, rfl, hlh, hin, hg, rfl, I⟩ := hrel
    by_cases hlt : lo < hi
    · have hc := HF.out q ((lo + hi) / 2) (by omega)
      rw [show (((lo + hi) / 2 : Nat) : Int) = ((lo : Int) + (hi : Int)) / 2 by omega] at hc
      cases hp : p ((lo + hi) / 2) <;> rw [hp] at hc
      · have HP := Lib.hid hp
        have HC := Lib.hid hc
        clear hp hc
        go_wp2_with (go_at_call 64; refine HC.out.mono ?_; rintro e w' ⟨rfl, nq, rfl⟩)
        go_roundg (hi - ((lo + hi) / 2 + 1))
        case measure => omega
        case rel =>
          exact ⟨(lo + hi) / 2 + 1, hi, q + nq, by rw [show ((lo : Int) + (hi : Int)) / 2 + 1 = (((lo + hi) / 2 + 1 : Nat) : Int) by omega], rfl, by omega, hin, Nat.le_refl _, rfl, Lib.hid ⟨fun t ht => (by
            cases h : p t with
            | false => rfl
            | true => have := M.out t ((lo + hi) / 2) (by omega) h; rw [HP.out] at this; cases this), I.out.2⟩⟩
      · have HP := Lib.hid hp
        have HC := Lib.hid hc
        clear hp hc
        go_wp2_with (go_at_call 64; refine HC.out.mono ?_; rintro e w' ⟨rfl, nq, rfl⟩)
        go_roundg ((lo + hi) / 2 - lo)
        case measure => omega
        case rel =>
          exact ⟨lo, (lo + hi) / 2, q + nq, rfl, by rw [show ((lo : Int) + (hi : Int)) / 2 = (((lo + hi) / 2 : Nat) : Int) by omega], by omega, by omega, Nat.le_refl _, rfl, Lib.hid ⟨I.out.1, fun t ht htn => M.out ((lo + hi) / 2) t ht HP.out⟩⟩
    · obtain rfl : hi = lo := by omega
      have ecnt : cnt = hi := by
        obtain ⟨k1, k2, k3⟩ := Dt.countP_first p M.out n
        rw [CN.out] at k1 k2 k3
        rcases Nat.lt_trichotomy cnt hi with hl | hl | hl
        · have a := k3 (by omega)
          rw [I.out.1 cnt hl] at a; cases a
        · exact hl
        · have a := k2 hi hl
          rw [I.out.2 hi (Nat.le_refl _) (by omega)] at a; cases a
      have EC := Lib.hid ecnt
      clear ecnt
      go_wp2
      go_ret
      exact ⟨ret_int (by rw [EC.out]), q, rfl⟩
end Go.Proofs.YtlbfnafniobnaaaDoor

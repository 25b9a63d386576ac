/- The reference's Valid, segment, offset. -/
import Derived.Test.YtcacmigfpahicaaZnH
namespace Go.Proofs.Ytcacmigfpahicaa
open Go.RowKit Go.Shelf

theorem meas_lt {n k : Nat} (h : k < n) : n - ((k : Int) + 1).toNat < n - (k : Int).toNat := by omega
theorem wrap_succ {n k m : Nat} (h : k < n) (hn : n ≤ m) (hm : m ≤ 1000) : wrap64 ((k : Int) + 1) = (k : Int) + 1 := by unfold wrap64; omega
theorem wrap_in {x : Int} (h : -4000000000000000000 ≤ x) (h2 : x ≤ 4000000000000000000) : wrap64 x = x := by unfold wrap64; omega
theorem rvalid_low (o : Int) (p : Option Addr) (cs : List (Int × Int)) (cap : Nat) (w : World) (h : o < -840) : Calls Try.prog 18 #[.agg #[.int .i64 o, .slice p cs.length cap]] w fun e w' => e = .returned (.bool (decide (Zn.Ok o cs))) ∧ Below w.heap.size w w' := by
  rw [decide_eq_false (fun k => by have := k.1; omega)]
  go_enter Try.func18, Try.ntmps18
  go_wp2_with fail
  go_ret
  exact ⟨rfl, (by repeat (first | exact Below.refl _ _ | assumption | refine below_drewN ?_ _ | refine Below.setCell ?_ (by first | (simp; done) | (simp; omega)) _ | refine Below.alloc ?_ (by first | (simp; done) | (simp; omega) | omega) _ | refine Below.drew ?_ | refine Below.trans ?_ (Below.mono (by assumption) (by first | (simp; done) | (simp; omega) | omega))))⟩
theorem rvalid_high (o : Int) (p : Option Addr) (cs : List (Int × Int)) (cap : Nat) (w : World) (h1 : ¬ o < -840) (h : 840 < o) : Calls Try.prog 18 #[.agg #[.int .i64 o, .slice p cs.length cap]] w fun e w' => e = .returned (.bool (decide (Zn.Ok o cs))) ∧ Below w.heap.size w w' := by
  rw [decide_eq_false (fun k => by have := k.2.1; omega)]
  go_enter Try.func18, Try.ntmps18
  go_wp2_with fail
  go_ret
  exact ⟨rfl, (by repeat (first | exact Below.refl _ _ | assumption | refine below_drewN ?_ _ | refine Below.setCell ?_ (by first | (simp; done) | (simp; omega)) _ | refine Below.alloc ?_ (by first | (simp; done) | (simp; omega) | omega) _ | refine Below.drew ?_ | refine Below.trans ?_ (Below.mono (by assumption) (by first | (simp; done) | (simp; omega) | omega))))⟩
theorem rvalid_many (o : Int) (p : Option Addr) (cs : List (Int × Int)) (cap : Nat) (w : World) (h1 : ¬ o < -840) (h2 : ¬ 840 < o) (hn : 40 < cs.length) : Calls Try.prog 18 #[.agg #[.int .i64 o, .slice p cs.length cap]] w fun e w' => e = .returned (.bool (decide (Zn.Ok o cs))) ∧ Below w.heap.size w w' := by
  rw [decide_eq_false (fun k => by have := k.2.2.1; omega)]
  go_enter Try.func18, Try.ntmps18
  go_wp2_with fail
  go_ret
  exact ⟨rfl, (by repeat (first | exact Below.refl _ _ | assumption | refine below_drewN ?_ _ | refine Below.setCell ?_ (by first | (simp; done) | (simp; omega)) _ | refine Below.alloc ?_ (by first | (simp; done) | (simp; omega) | omega) _ | refine Below.drew ?_ | refine Below.trans ?_ (Below.mono (by assumption) (by first | (simp; done) | (simp; omega) | omega))))⟩
set_option maxRecDepth 100000 in
set_option maxHeartbeats 1600000 in
theorem rvalid_loop (o : Int) (p : Option Addr) (cs : List (Int × Int)) (cap : Nat) (w : World) (h1 : ¬ o < -840) (h2 : ¬ 840 < o) (hn : cs.length ≤ 40) (hch : Chg w p cs) (r : Bool) (hr : r = true ↔ Zn.OkC 0 cs) :
    Calls Try.prog 18 #[.agg #[.int .i64 o, .slice p cs.length cap]] w fun e w' => e = .returned (.bool r) ∧ Below w.heap.size w w' := by
  obtain ⟨W1, hW1⟩ : ∃ W1, W1 = w.alloc (.cells #[.int .i64 o, .slice p cs.length cap] 24) := ⟨_, rfl⟩
  have hB : Below w.heap.size w W1 := by rw [hW1]; exact (by repeat (first | exact Below.refl _ _ | assumption | refine below_drewN ?_ _ | refine Below.setCell ?_ (by first | (simp; done) | (simp; omega)) _ | refine Below.alloc ?_ (by first | (simp; done) | (simp; omega) | omega) _ | refine Below.drew ?_ | refine Below.trans ?_ (Below.mono (by assumption) (by first | (simp; done) | (simp; omega) | omega))))
  have hv : W1.cell? ⟨w.heap.size, 1, none⟩ = some (.slice p cs.length cap) := by rw [hW1]; go_simp
  have hzl : w.heap.size < W1.heap.size := by rw [hW1]; simp
  have HB := Lib.hid hB
  have HR := Lib.hid hr
  have HC := Lib.hid (hch.below hB)
  clear hB hr hch
  go_enter Try.func18, Try.ntmps18
  go_wp2_with fail
  rw [← hW1]
  have HW1 := Lib.hid hW1
  clear hW1
  go_wp2_with fail
  go_loopw [3, 4] (fun b i wr => ∃ (k : Nat) (x : Int), i = .int .i64 k ∧ b = .int .i64 x ∧ 0 ≤ x ∧ x ≤ 105190559 ∧ k ≤ cs.length ∧ (r = true ↔ Zn.OkC x (cs.drop k)) ∧ Below W1.heap.size W1 wr) (fun _ i _ => cs.length - (intOf i).toNat)
  case atStart => exact ⟨0, 0, rfl, rfl, by omega, by omega, Nat.zero_le _, HR.out, Below.refl _ _⟩
  case round =>
    obtain ⟨k, b, rfl, rfl, hb0, hb1, hk, hok, hbw⟩ := hrel
    have HOK := Lib.hid hok
    have HBW := Lib.hid hbw
    have hsz := hbw.size
    have hv' := cell_keep hbw hv
    have hzl' : w.heap.size < wr.heap.size := by omega
    have HV := Lib.hid hv
    clear hok hbw hv hzl
    by_cases hlt : k < cs.length
    · obtain ⟨q, off, rfl, hc⟩ : ∃ q off, p = some ⟨q, off, none⟩ ∧ ∀ j, j < cs.length → W1.cell? ⟨q, off + j * 2, none⟩ = some (.int .i64 (cs.getD j (0, 0)).1) ∧ W1.cell? ⟨q, off + j * 2 + 1, none⟩ = some (.int .i64 (cs.getD j (0, 0)).2) := by
        rcases HC.out with h | h
        · rw [h] at hlt; cases hlt
        · exact h
      have e := hc k hlt
      have c0 := cell_keep HBW.out e.1
      have c1 := cell_keep HBW.out e.2
      have hqlt := Same.lt_of_cell c0
      dsimp only at hqlt
      have hst := Zn.okC_step (b := b) hlt
      clear e hc
      obtain ⟨x, hx⟩ : ∃ x, x = (cs.getD k (0, 0)).1 := ⟨_, rfl⟩
      obtain ⟨y, hy⟩ : ∃ y, y = (cs.getD k (0, 0)).2 := ⟨_, rfl⟩
      rw [← hx] at c0
      rw [← hy] at c1
      rw [← hx, ← hy] at hst
      clear hx hy
      have HST := Lib.hid hst
      clear hst
      have bad : ¬ (-840 ≤ y ∧ y ≤ 840 ∧ x ≤ 105190559 ∧ b + 5760 < x) → r = false := fun hn => by
        cases r with
        | false => rfl
        | true => have u := HST.out.1 (HOK.out.1 rfl); exact absurd ⟨u.1, u.2.1, u.2.2.1, u.2.2.2.1⟩ hn
      have BAD := Lib.hid bad
      clear bad
      by_cases y1 : y < -840
      · obtain rfl := BAD.out (by omega)
        go_wp2_with fail
        go_ret
        exact ⟨rfl, HB.out.trans ((HBW.out.alloc HBW.out.size _).mono HB.out.size)⟩
      by_cases y2 : 840 < y
      · obtain rfl := BAD.out (by omega)
        go_wp2_with fail
        go_ret
        exact ⟨rfl, HB.out.trans ((HBW.out.alloc HBW.out.size _).mono HB.out.size)⟩
      by_cases y3 : 105190559 < x
      · obtain rfl := BAD.out (by omega)
        go_wp2_with fail
        go_ret
        exact ⟨rfl, HB.out.trans ((HBW.out.alloc HBW.out.size _).mono HB.out.size)⟩
      by_cases y4 : x ≤ b + 5760
      · obtain rfl := BAD.out (by omega)
        go_wp2_with fail
        go_ret
        exact ⟨rfl, HB.out.trans ((HBW.out.alloc HBW.out.size _).mono HB.out.size)⟩
      have GD := Lib.hid (show (-840 ≤ y ∧ y ≤ 840 ∧ x ≤ 105190559 ∧ b + 5760 < x) ∧ 0 ≤ x by omega)
      have HK := Lib.hid hlt
      go_wp2_with fail
      go_roundw
      case rel =>
        refine ⟨k + 1, x, by simp, rfl, GD.out.2, GD.out.1.2.2.1, HK.out, ?_, ?_⟩
        · rw [HOK.out, HST.out]
          exact ⟨fun h => h.2.2.2.2, fun h => ⟨GD.out.1.1, GD.out.1.2.1, GD.out.1.2.2.1, GD.out.1.2.2.2, h⟩⟩
        · exact HBW.out.alloc HBW.out.size _
      case measure =>
        simp only [intOf]
        exact meas_lt HK.out
    · obtain rfl : r = true := HOK.out.2 (Zn.okC_end (by omega))
      go_wp2_with fail
      go_ret
      exact ⟨rfl, HB.out.trans (HBW.out.mono HB.out.size)⟩
theorem rvalid_calls (o : Int) (p : Option Addr) (cs : List (Int × Int)) (cap : Nat) (w : World) (hch : Chg w p cs) : Calls Try.prog 18 #[.agg #[.int .i64 o, .slice p cs.length cap]] w fun e w' => e = .returned (.bool (decide (Zn.Ok o cs))) ∧ Below w.heap.size w w' := by
  by_cases h1 : o < -840
  · exact rvalid_low o p cs cap w h1
  by_cases h2 : 840 < o
  · exact rvalid_high o p cs cap w h1 h2
  by_cases hn : 40 < cs.length
  · exact rvalid_many o p cs cap w h1 h2 hn
  exact rvalid_loop o p cs cap w h1 h2 (by omega) hch _ ⟨fun hk => (of_decide_eq_true hk).2.2.2, fun hk => decide_eq_true ⟨by omega, by omega, by omega, hk⟩⟩
theorem roffset_zero (o : Int) (p : Option Addr) (cs : List (Int × Int)) (cap : Nat) (w : World) : Calls Try.prog 26 #[.agg #[.int .i64 o, .slice p cs.length cap], .int .i64 0] w fun e w' => e = .returned (.int .i64 o) ∧ Below w.heap.size w w' := by
  go_enter Try.func26, Try.ntmps26
  go_wp2_with fail
  go_ret
  exact ⟨rfl, (by repeat (first | exact Below.refl _ _ | assumption | refine below_drewN ?_ _ | refine Below.setCell ?_ (by first | (simp; done) | (simp; omega)) _ | refine Below.alloc ?_ (by first | (simp; done) | (simp; omega) | omega) _ | refine Below.drew ?_ | refine Below.trans ?_ (Below.mono (by assumption) (by first | (simp; done) | (simp; omega) | omega))))⟩
theorem roffset_succ (o : Int) (p : Option Addr) (cs : List (Int × Int)) (cap : Nat) (k : Nat) (w : World) (hk : k < cs.length) (hn : cs.length ≤ 100) (hch : Chg w p cs) :
    Calls Try.prog 26 #[.agg #[.int .i64 o, .slice p cs.length cap], .int .i64 ((k : Int) + 1)] w fun e w' => e = .returned (.int .i64 (cs.getD k (0, 0)).2) ∧ Below w.heap.size w w' := by
  obtain ⟨q, off, rfl, hc⟩ : ∃ q off, p = some ⟨q, off, none⟩ ∧ ∀ j, j < cs.length → w.cell? ⟨q, off + j * 2, none⟩ = some (.int .i64 (cs.getD j (0, 0)).1) ∧ w.cell? ⟨q, off + j * 2 + 1, none⟩ = some (.int .i64 (cs.getD j (0, 0)).2) := by
    rcases hch with h | h
    · rw [h] at hk; cases hk
    · exact h
  have c1 := (hc k hk).2
  have hqlt := Same.lt_of_cell c1
  dsimp only at hqlt
  obtain ⟨y, hy⟩ : ∃ y, y = (cs.getD k (0, 0)).2 := ⟨_, rfl⟩
  rw [← hy] at c1 ⊢
  have h0 : ((k : Int) + 1 == 0) = false := beq_eq_false_iff_ne.2 (by omega)
  have hw : wrap64 ((k : Int) + 1 - 1) = (k : Int) := by rw [Int.add_sub_cancel]; exact wrap_in (by omega) (by omega)
  clear hc hy hch
  go_enter Try.func26, Try.ntmps26
  go_wp2_with fail
  go_ret
  exact ⟨rfl, (by repeat (first | exact Below.refl _ _ | assumption | refine below_drewN ?_ _ | refine Below.setCell ?_ (by first | (simp; done) | (simp; omega)) _ | refine Below.alloc ?_ (by first | (simp; done) | (simp; omega) | omega) _ | refine Below.drew ?_ | refine Below.trans ?_ (Below.mono (by assumption) (by first | (simp; done) | (simp; omega) | omega))))⟩
theorem roffset_calls (o : Int) (p : Option Addr) (cs : List (Int × Int)) (cap : Nat) (k : Nat) (w : World) (hk : k ≤ cs.length) (hn : cs.length ≤ 100) (hch : Chg w p cs) :
    Calls Try.prog 26 #[.agg #[.int .i64 o, .slice p cs.length cap], .int .i64 k] w fun e w' => e = .returned (.int .i64 (Zn.offs o cs k)) ∧ Below w.heap.size w w' := by
  cases k with
  | zero => exact roffset_zero o p cs cap w
  | succ k => exact roffset_succ o p cs cap k w (by omega) hn hch
set_option maxRecDepth 100000 in
set_option maxHeartbeats 1600000 in
theorem rsegment_calls (o : Int) (p : Option Addr) (cs : List (Int × Int)) (cap : Nat) (t : Int) (w : World) (hn : cs.length ≤ 100) (hch : Chg w p cs) :
    Calls Try.prog 27 #[.agg #[.int .i64 o, .slice p cs.length cap], .int .i64 t] w fun e w' => e = .returned (.int .i64 (Zn.seg cs t)) ∧ Below w.heap.size w w' := by
  obtain ⟨W1, hW1⟩ : ∃ W1, W1 = w.alloc (.cells #[.int .i64 o, .slice p cs.length cap] 24) := ⟨_, rfl⟩
  have hB : Below w.heap.size w W1 := by rw [hW1]; exact (by repeat (first | exact Below.refl _ _ | assumption | refine below_drewN ?_ _ | refine Below.setCell ?_ (by first | (simp; done) | (simp; omega)) _ | refine Below.alloc ?_ (by first | (simp; done) | (simp; omega) | omega) _ | refine Below.drew ?_ | refine Below.trans ?_ (Below.mono (by assumption) (by first | (simp; done) | (simp; omega) | omega))))
  have hv : W1.cell? ⟨w.heap.size, 1, none⟩ = some (.slice p cs.length cap) := by rw [hW1]; go_simp
  obtain ⟨r, hr⟩ : ∃ r, r = Zn.seg cs t := ⟨_, rfl⟩
  rw [← hr]
  have HB := Lib.hid hB
  have HR := Lib.hid hr
  have HC := Lib.hid (hch.below hB)
  clear hB hch hr
  go_enter Try.func27, Try.ntmps27
  go_wp2_with fail
  rw [← hW1]
  clear hW1
  go_loopw [5] (fun i wr => ∃ (k : Nat), i = .int .i64 k ∧ k ≤ cs.length ∧ r = k + Zn.seg (cs.drop k) t ∧ wr = W1) (fun i _ => cs.length - (intOf i).toNat)
  case atStart => exact ⟨0, rfl, Nat.zero_le _, by rw [HR.out]; simp, rfl⟩
  case round =>
    obtain ⟨k, rfl, hk, hrk, rfl⟩ := hrel
    by_cases hlt : k < cs.length
    · obtain ⟨q, off, rfl, hc⟩ : ∃ q off, p = some ⟨q, off, none⟩ ∧ ∀ j, j < cs.length → wr.cell? ⟨q, off + j * 2, none⟩ = some (.int .i64 (cs.getD j (0, 0)).1) ∧ wr.cell? ⟨q, off + j * 2 + 1, none⟩ = some (.int .i64 (cs.getD j (0, 0)).2) := by
        rcases HC.out with h | h
        · rw [h] at hlt; cases hlt
        · exact h
      have c0 := (hc k hlt).1
      have hqlt := Same.lt_of_cell c0
      dsimp only at hqlt
      have hst := Zn.seg_step (t := t) hlt
      obtain ⟨x, hx⟩ : ∃ x, x = (cs.getD k (0, 0)).1 := ⟨_, rfl⟩
      rw [← hx] at c0 hst
      have HRK := Lib.hid hrk
      have HST := Lib.hid hst
      clear hc hx hst hrk
      by_cases hxt : x ≤ t
      · have hw2 := wrap_succ hlt hn (by decide)
        go_wp2_with fail
        go_roundw
        case rel => exact ⟨k + 1, by simp, by omega, by rw [HRK.out, HST.out, if_pos hxt]; omega, by first | trivial | rfl⟩
        case measure => simp [intOf]; omega
      · obtain rfl : r = k := by rw [HRK.out, HST.out, if_neg hxt]; omega
        go_wp2_with fail
        go_ret
        exact ⟨rfl, HB.out⟩
    · obtain rfl : r = k := by rw [hrk, Zn.seg_end (by omega)]; omega
      clear hrk
      go_wp2_with fail
      go_ret
      exact ⟨rfl, HB.out⟩
end Go.Proofs.Ytcacmigfpahicaa

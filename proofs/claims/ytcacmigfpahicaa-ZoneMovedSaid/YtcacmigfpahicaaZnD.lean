/- The leaves of zone; the walk of zone.Valid. -/
import Derived.Test.YtcacmigfpahicaaZnA
import Derived.LoopN
namespace Go.Proofs.Ytcacmigfpahicaa
open Go.RowKit

theorem ret_bool {a b : Bool} (h : a = b) : Ending.returned (.bool a) = .returned (.bool b) := by rw [h]
set_option maxHeartbeats 400000 in
theorem isOffset_any (x : Int) (w : World) :
    Calls Try.prog 31 #[.int .i64 x] w fun e w' => e = .returned (.bool (decide (-840 ≤ x ∧ x ≤ 840))) ∧ w = w' := by
  by_cases h0 : -840 ≤ x
  · by_cases h1 : x ≤ 840
    · rw [decide_eq_true (show -840 ≤ x ∧ x ≤ 840 by omega)]
      go_enter Try.func31, Try.ntmps31
      go_wp2
      go_ret
      exact ⟨by first | rfl | exact ret_bool (decide_eq_true (by omega)) | exact ret_bool (decide_eq_false (by omega)) | (refine ret_bool ?_; simp; omega), rfl⟩
    · rw [decide_eq_false (show ¬ (-840 ≤ x ∧ x ≤ 840) by omega)]
      go_enter Try.func31, Try.ntmps31
      go_wp2
      go_ret
      exact ⟨by first | rfl | exact ret_bool (decide_eq_true (by omega)) | exact ret_bool (decide_eq_false (by omega)) | (refine ret_bool ?_; simp; omega), rfl⟩
  · rw [decide_eq_false (show ¬ (-840 ≤ x ∧ x ≤ 840) by omega)]
    go_enter Try.func31, Try.ntmps31
    go_wp2
    go_ret
    exact ⟨by first | rfl | exact ret_bool (decide_eq_true (by omega)) | exact ret_bool (decide_eq_false (by omega)) | (refine ret_bool ?_; simp; omega), rfl⟩
set_option maxHeartbeats 400000 in
theorem isInstant_any (x : Int) (w : World) :
    Calls Try.prog 23 #[.int .i64 x] w fun e w' => e = .returned (.bool (decide (0 ≤ x ∧ x ≤ 105190559))) ∧ w = w' := by
  by_cases h0 : 0 ≤ x
  · by_cases h1 : x ≤ 105190559
    · rw [decide_eq_true (show 0 ≤ x ∧ x ≤ 105190559 by omega)]
      go_enter Try.func23, Try.ntmps23
      go_wp2
      go_ret
      exact ⟨by first | rfl | exact ret_bool (decide_eq_true (by omega)) | exact ret_bool (decide_eq_false (by omega)) | (refine ret_bool ?_; simp; omega), rfl⟩
    · rw [decide_eq_false (show ¬ (0 ≤ x ∧ x ≤ 105190559) by omega)]
      go_enter Try.func23, Try.ntmps23
      go_wp2
      go_ret
      exact ⟨by first | rfl | exact ret_bool (decide_eq_true (by omega)) | exact ret_bool (decide_eq_false (by omega)) | (refine ret_bool ?_; simp; omega), rfl⟩
  · rw [decide_eq_false (show ¬ (0 ≤ x ∧ x ≤ 105190559) by omega)]
    go_enter Try.func23, Try.ntmps23
    go_wp2
    go_ret
    exact ⟨by first | rfl | exact ret_bool (decide_eq_true (by omega)) | exact ret_bool (decide_eq_false (by omega)) | (refine ret_bool ?_; simp; omega), rfl⟩
set_option maxHeartbeats 400000 in
theorem isLocal_any (d m : Int) (w : World) :
    Calls Try.prog 28 #[.int .i64 d, .int .i64 m] w fun e w' => e = .returned (.bool (decide (0 ≤ d ∧ d ≤ 73048 ∧ 0 ≤ m ∧ m ≤ 1439))) ∧ w = w' := by
  by_cases h0 : 0 ≤ d
  · by_cases h1 : d ≤ 73048
    · by_cases h2 : 0 ≤ m
      · by_cases h3 : m ≤ 1439
        · rw [decide_eq_true (show 0 ≤ d ∧ d ≤ 73048 ∧ 0 ≤ m ∧ m ≤ 1439 by omega)]
          go_enter Try.func28, Try.ntmps28
          go_wp2
          go_ret
          exact ⟨by first | rfl | exact ret_bool (decide_eq_true (by omega)) | exact ret_bool (decide_eq_false (by omega)) | (refine ret_bool ?_; simp; omega), rfl⟩
        · rw [decide_eq_false (show ¬ (0 ≤ d ∧ d ≤ 73048 ∧ 0 ≤ m ∧ m ≤ 1439) by omega)]
          go_enter Try.func28, Try.ntmps28
          go_wp2
          go_ret
          exact ⟨by first | rfl | exact ret_bool (decide_eq_true (by omega)) | exact ret_bool (decide_eq_false (by omega)) | (refine ret_bool ?_; simp; omega), rfl⟩
      · rw [decide_eq_false (show ¬ (0 ≤ d ∧ d ≤ 73048 ∧ 0 ≤ m ∧ m ≤ 1439) by omega)]
        go_enter Try.func28, Try.ntmps28
        go_wp2
        go_ret
        exact ⟨by first | rfl | exact ret_bool (decide_eq_true (by omega)) | exact ret_bool (decide_eq_false (by omega)) | (refine ret_bool ?_; simp; omega), rfl⟩
    · rw [decide_eq_false (show ¬ (0 ≤ d ∧ d ≤ 73048 ∧ 0 ≤ m ∧ m ≤ 1439) by omega)]
      go_enter Try.func28, Try.ntmps28
      go_wp2
      go_ret
      exact ⟨by first | rfl | exact ret_bool (decide_eq_true (by omega)) | exact ret_bool (decide_eq_false (by omega)) | (refine ret_bool ?_; simp; omega), rfl⟩
  · rw [decide_eq_false (show ¬ (0 ≤ d ∧ d ≤ 73048 ∧ 0 ≤ m ∧ m ≤ 1439) by omega)]
    go_enter Try.func28, Try.ntmps28
    go_wp2
    go_ret
    exact ⟨by first | rfl | exact ret_bool (decide_eq_true (by omega)) | exact ret_bool (decide_eq_false (by omega)) | (refine ret_bool ?_; simp; omega), rfl⟩

theorem isOffset_no (x : Int) (w : World) (h : ¬ (-840 ≤ x ∧ x ≤ 840)) : Calls Try.prog 31 #[.int .i64 x] w fun e w' => e = .returned (.bool false) ∧ w = w' := by
  have := isOffset_any x w
  rwa [decide_eq_false h] at this
theorem isOffset_yes (x : Int) (w : World) (h : -840 ≤ x ∧ x ≤ 840) : Calls Try.prog 31 #[.int .i64 x] w fun e w' => e = .returned (.bool true) ∧ w = w' := by
  have := isOffset_any x w
  rwa [decide_eq_true h] at this
theorem isInstant_no (x : Int) (w : World) (h : ¬ (0 ≤ x ∧ x ≤ 105190559)) : Calls Try.prog 23 #[.int .i64 x] w fun e w' => e = .returned (.bool false) ∧ w = w' := by
  have := isInstant_any x w
  rwa [decide_eq_false h] at this
theorem isInstant_yes (x : Int) (w : World) (h : 0 ≤ x ∧ x ≤ 105190559) : Calls Try.prog 23 #[.int .i64 x] w fun e w' => e = .returned (.bool true) ∧ w = w' := by
  have := isInstant_any x w
  rwa [decide_eq_true h] at this
theorem isLocal_no (d m : Int) (w : World) (h : ¬ (0 ≤ d ∧ d ≤ 73048 ∧ 0 ≤ m ∧ m ≤ 1439)) : Calls Try.prog 28 #[.int .i64 d, .int .i64 m] w fun e w' => e = .returned (.bool false) ∧ w = w' := by
  have := isLocal_any d m w
  rwa [decide_eq_false h] at this
theorem isLocal_yes (d m : Int) (w : World) (h : 0 ≤ d ∧ d ≤ 73048 ∧ 0 ≤ m ∧ m ≤ 1439) : Calls Try.prog 28 #[.int .i64 d, .int .i64 m] w fun e w' => e = .returned (.bool true) ∧ w = w' := by
  have := isLocal_any d m w
  rwa [decide_eq_true h] at this

theorem valid_off (o : Int) (p : Option Addr) (cs : List (Int × Int)) (cap : Nat) (w : World) (h : ¬ (-840 ≤ o ∧ o ≤ 840)) :
    Calls Try.prog 17 #[.agg #[.int .i64 o, .slice p cs.length cap]] w fun e w' => e = .returned (.bool (decide (Zn.Ok o cs))) ∧ Below w.heap.size w w' := by
  rw [decide_eq_false (fun k => h ⟨k.1, k.2.1⟩)]
  have H := Lib.hid h
  clear h
  go_enter Try.func17, Try.ntmps17
  go_wp2_with (go_at_call 31; refine (isOffset_no _ _ H.out).mono ?_; rintro e w' ⟨rfl, rfl⟩)
  go_ret
  exact ⟨rfl, (by repeat (first | exact Below.refl _ _ | assumption | refine below_drewN ?_ _ | refine Below.setCell ?_ (by first | (simp; done) | (simp; omega)) _ | refine Below.alloc ?_ (by first | (simp; done) | (simp; omega) | omega) _ | refine Below.drew ?_ | refine Below.trans ?_ (Below.mono (by assumption) (by first | (simp; done) | (simp; omega) | omega))))⟩
theorem valid_many (o : Int) (p : Option Addr) (cs : List (Int × Int)) (cap : Nat) (w : World) (h : -840 ≤ o ∧ o ≤ 840) (hn : 40 < cs.length) :
    Calls Try.prog 17 #[.agg #[.int .i64 o, .slice p cs.length cap]] w fun e w' => e = .returned (.bool (decide (Zn.Ok o cs))) ∧ Below w.heap.size w w' := by
  rw [decide_eq_false (fun k => by have := k.2.2.1; omega)]
  have H := Lib.hid h
  clear h
  go_enter Try.func17, Try.ntmps17
  go_wp2_with (go_at_call 31; refine (isOffset_yes _ _ H.out).mono ?_; rintro e w' ⟨rfl, rfl⟩)
  go_ret
  exact ⟨rfl, (by repeat (first | exact Below.refl _ _ | assumption | refine below_drewN ?_ _ | refine Below.setCell ?_ (by first | (simp; done) | (simp; omega)) _ | refine Below.alloc ?_ (by first | (simp; done) | (simp; omega) | omega) _ | refine Below.drew ?_ | refine Below.trans ?_ (Below.mono (by assumption) (by first | (simp; done) | (simp; omega) | omega))))⟩
set_option maxRecDepth 100000 in
set_option maxHeartbeats 1600000 in
theorem valid_loop (o : Int) (p : Option Addr) (cs : List (Int × Int)) (cap : Nat) (w : World) (h : -840 ≤ o ∧ o ≤ 840) (hn : cs.length ≤ 40) (hch : Chg w p cs) (r : Bool) (hr : r = true ↔ Zn.OkC 0 cs) :
    Calls Try.prog 17 #[.agg #[.int .i64 o, .slice p cs.length cap]] w fun e w' => e = .returned (.bool r) ∧ Below w.heap.size w w' := by
  obtain ⟨W1, hW1⟩ : ∃ W1, W1 = w.alloc (.cells #[.int .i64 o, .slice p cs.length cap] 24) := ⟨_, rfl⟩
  have hB : Below w.heap.size w W1 := by rw [hW1]; exact (by repeat (first | exact Below.refl _ _ | assumption | refine below_drewN ?_ _ | refine Below.setCell ?_ (by first | (simp; done) | (simp; omega)) _ | refine Below.alloc ?_ (by first | (simp; done) | (simp; omega) | omega) _ | refine Below.drew ?_ | refine Below.trans ?_ (Below.mono (by assumption) (by first | (simp; done) | (simp; omega) | omega))))
  have hv : W1.cell? ⟨w.heap.size, 1, none⟩ = some (.slice p cs.length cap) := by rw [hW1]; go_simp
  have H := Lib.hid h
  have HB := Lib.hid hB
  have HR := Lib.hid hr
  have HC := Lib.hid (hch.below hB)
  clear h hB hr hch
  go_enter Try.func17, Try.ntmps17
  go_wp2_with (go_at_call 31; refine (isOffset_yes _ _ H.out).mono ?_; rintro e w' ⟨rfl, rfl⟩)
  rw [← hW1]
  have HW1 := Lib.hid hW1
  clear hW1
  go_wp2
  go_loopw [3, 19] (fun b i wr => ∃ (k : Nat) (x : Int), i = .int .i64 k ∧ b = .int .i64 x ∧ 0 ≤ x ∧ x ≤ 105190559 ∧ k ≤ cs.length ∧ (r = true ↔ Zn.OkC x (cs.drop k)) ∧ Below W1.heap.size W1 wr) (fun _ i _ => cs.length - (intOf i).toNat)
  case atStart => exact ⟨0, 0, rfl, rfl, by omega, by omega, Nat.zero_le _, HR.out, Below.refl _ _⟩
  case round =>
    obtain ⟨k, b, rfl, rfl, hb0, hb1, hk, hok, hbw⟩ := hrel
    have HOK := Lib.hid hok
    have HBW := Lib.hid hbw
    have hsz := hbw.size
    have hz1 := HB.out.size
    clear hok hbw
    by_cases hlt : k < cs.length
    · obtain ⟨q, off, rfl, hc⟩ : ∃ q off, p = some ⟨q, off, none⟩ ∧ ∀ j, j < cs.length → W1.cell? ⟨q, off + j * 2, none⟩ = some (.int .i64 (cs.getD j (0, 0)).1) ∧ W1.cell? ⟨q, off + j * 2 + 1, none⟩ = some (.int .i64 (cs.getD j (0, 0)).2) := by
        rcases HC.out with h | h
        · rw [h] at hlt; cases hlt
        · exact h
      have e := hc k hlt
      have c0 := cell_keep HBW.out e.1
      have c1 := cell_keep HBW.out e.2
      have hqlt := Same.lt_of_cell c0
      dsimp only at hqlt
      have hst := Zn.okC_step (b := b) hlt
      clear e hc
      obtain ⟨x, hx⟩ : ∃ x, x = (cs.getD k (0, 0)).1 := ⟨_, rfl⟩
      obtain ⟨y, hy⟩ : ∃ y, y = (cs.getD k (0, 0)).2 := ⟨_, rfl⟩
      rw [← hx] at c0
      rw [← hy] at c1
      rw [← hx, ← hy] at hst
      clear hx hy
      have HST := Lib.hid hst
      clear hst
      by_cases h1 : -840 ≤ y ∧ y ≤ 840
      · have Y := Lib.hid h1
        clear h1
        by_cases h2 : 0 ≤ x ∧ x ≤ 105190559
        · have X := Lib.hid h2
          clear h2
          have hw : wrap64 (x - b) = x - b := by have := X.out; unfold wrap64; omega
          by_cases h3 : x - b ≤ 5760
          · have hf : r = false := by
              cases r with
              | false => rfl
              | true => have := (HST.out.1 (HOK.out.1 rfl)).2.2.2.1; omega
            subst hf
            go_wp2_with (first | (go_at_call 31; refine (isOffset_yes _ _ Y.out).mono ?_; rintro e w' ⟨rfl, rfl⟩) | (go_at_call 23; refine (isInstant_yes _ _ X.out).mono ?_; rintro e w' ⟨rfl, rfl⟩))
            go_ret
            exact ⟨rfl, HB.out.trans ((HBW.out.alloc HBW.out.size _).mono HB.out.size)⟩
          · have hw2 : wrap64 ((k : Int) + 1) = (k : Int) + 1 := by unfold wrap64; omega
            go_wp2_with (first | (go_at_call 31; refine (isOffset_yes _ _ Y.out).mono ?_; rintro e w' ⟨rfl, rfl⟩) | (go_at_call 23; refine (isInstant_yes _ _ X.out).mono ?_; rintro e w' ⟨rfl, rfl⟩))
            go_roundw
            case rel =>
              refine ⟨k + 1, x, by simp, rfl, X.out.1, X.out.2, by omega, ?_, ?_⟩
              · rw [HOK.out, HST.out]
                exact ⟨fun h => h.2.2.2.2, fun h => ⟨Y.out.1, Y.out.2, X.out.2, by omega, h⟩⟩
              · exact HBW.out.alloc HBW.out.size _
            case measure => simp [intOf]; omega
        · have hf : r = false := by
            cases r with
            | false => rfl
            | true => have u := HST.out.1 (HOK.out.1 rfl); have := u.2.2.1; have := u.2.2.2.1; omega
          have X := Lib.hid h2
          clear h2
          subst hf
          go_wp2_with (first | (go_at_call 31; refine (isOffset_yes _ _ Y.out).mono ?_; rintro e w' ⟨rfl, rfl⟩) | (go_at_call 23; refine (isInstant_no _ _ X.out).mono ?_; rintro e w' ⟨rfl, rfl⟩))
          go_ret
          exact ⟨rfl, HB.out.trans ((HBW.out.alloc HBW.out.size _).mono HB.out.size)⟩
      · have hf : r = false := by
          cases r with
          | false => rfl
          | true => have u := HST.out.1 (HOK.out.1 rfl); exact absurd ⟨u.1, u.2.1⟩ h1
        have Y := Lib.hid h1
        clear h1
        subst hf
        go_wp2_with (go_at_call 31; refine (isOffset_no _ _ Y.out).mono ?_; rintro e w' ⟨rfl, rfl⟩)
        go_ret
        exact ⟨rfl, HB.out.trans ((HBW.out.alloc HBW.out.size _).mono HB.out.size)⟩
    · have ht : r = true := HOK.out.2 (Zn.okC_end (by omega))
      subst ht
      go_wp2
      go_ret
      exact ⟨rfl, HB.out.trans (HBW.out.mono HB.out.size)⟩
theorem valid_calls (o : Int) (p : Option Addr) (cs : List (Int × Int)) (cap : Nat) (w : World) (hch : Chg w p cs) :
    Calls Try.prog 17 #[.agg #[.int .i64 o, .slice p cs.length cap]] w fun e w' => e = .returned (.bool (decide (Zn.Ok o cs))) ∧ Below w.heap.size w w' := by
  by_cases h : -840 ≤ o ∧ o ≤ 840
  · by_cases hn : cs.length ≤ 40
    · exact valid_loop o p cs cap w h hn hch _ ⟨fun hk => (of_decide_eq_true hk).2.2.2, fun hk => decide_eq_true ⟨h.1, h.2, hn, hk⟩⟩
    · exact valid_many o p cs cap w h (by omega)
  · exact valid_off o p cs cap w h
end Go.Proofs.Ytcacmigfpahicaa

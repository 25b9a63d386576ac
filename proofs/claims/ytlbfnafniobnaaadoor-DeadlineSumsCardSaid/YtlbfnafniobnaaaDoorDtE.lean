/- The walk of date.Valid. -/
import Derived.Test.YtlbfnafniobnaaaDoorDtB
import Derived.Test.YtlbfnafniobnaaaDoorDtMath2
import Derived.Test.YtlbfnafniobnaaaDoorDtEq
import Derived.LoopN
namespace Go.Proofs.YtlbfnafniobnaaaDoor
open Go.RowKit

/-- the holidays of a calendar, as they lie in memory -/
def Hols (w : World) (p : Option Addr) (hs : List Int) : Prop := hs = [] ∨ ∃ b off, p = some ⟨b, off, none⟩ ∧ ∀ j, j < hs.length → w.cell? ⟨b, off + j, none⟩ = some (.int .i64 (hs.getD j 0))
theorem Hols.below {w w' : World} {p : Option Addr} {hs : List Int} (h : Hols w p hs) (hb : Below w.heap.size w w') : Hols w' p hs := by
  rcases h with h | ⟨b, off, hp, h⟩
  · exact .inl h
  · exact .inr ⟨b, off, hp, fun j hj => cell_keep hb (h j hj)⟩
/-- a calendar's weekends and holidays are valid -/
def VP (b0 b1 b2 b3 b4 b5 b6 : Bool) (hs : List Int) : Prop := hs.length ≤ 400 ∧ (b0 && b1 && b2 && b3 && b4 && b5 && b6) = false ∧ Dt.Asc hs
def OkTo (hs : List Int) (k : Nat) : Prop := ∀ i, i < k → (0 ≤ hs.getD i 0 ∧ hs.getD i 0 ≤ 73048) ∧ (0 < i → hs.getD (i - 1) 0 < hs.getD i 0)
theorem okTo_succ {hs : List Int} {k : Nat} (h : OkTo hs k) (h1 : 0 ≤ hs.getD k 0 ∧ hs.getD k 0 ≤ 73048) (h2 : 0 < k → hs.getD (k - 1) 0 < hs.getD k 0) : OkTo hs (k + 1) := fun i hi => by
  by_cases he : i = k
  · rw [he]; exact ⟨h1, h2⟩
  · exact h i (by omega)
theorem asc_okTo : ∀ (hs : List Int), Dt.Asc hs ↔ OkTo hs hs.length
  | [] => ⟨fun _ i hi => by simp at hi, fun _ => trivial⟩
  | a :: l => by
    have ih := asc_okTo l
    constructor
    · rintro ⟨h1, h2, h3⟩ i hi
      have hl := ih.1 h3
      cases i with
      | zero => exact ⟨h1, fun h => by omega⟩
      | succ i =>
        have hi' : i < l.length := by simpa using hi
        refine ⟨by simpa using (hl i hi').1, fun _ => ?_⟩
        cases i with
        | zero => simp; exact h2 _ (by rw [show l[0]?.getD 0 = l[0] by simp [hi']]; exact List.getElem_mem _)
        | succ i => simpa using (hl (i + 1) hi').2 (by omega)
    · intro h
      have hl : OkTo l l.length := fun i hi => by
        have := h (i + 1) (by simpa using hi)
        refine ⟨by simpa using this.1, fun hi0 => ?_⟩
        have := this.2 (by omega)
        cases i with
        | zero => omega
        | succ i => simpa using this
      have h0 := (h 0 (by simp)).1
      refine ⟨by simpa using h0, fun b hb => ?_, ih.2 hl⟩
      obtain ⟨i, hi, rfl⟩ := List.getElem_of_mem hb
      have key : ∀ j, j < l.length → a < l.getD j 0 := by
        intro j
        induction j with
        | zero => intro hj; simpa using (h 1 (by simpa using hj)).2 (by omega)
        | succ j ihj => intro hj; have u := ihj (by omega); have v := (hl (j + 1) hj).2 (by omega); simp at u v ⊢; omega
      have := key i hi
      simpa [hi] using this
set_option maxHeartbeats 800000 in
theorem valid_many (b0 b1 b2 b3 b4 b5 b6 : Bool) (p : Option Addr) (n cap : Nat) (w : World) (h : 400 < n) :
    Calls Tryd.prog 20 #[.agg #[.bool b0, .bool b1, .bool b2, .bool b3, .bool b4, .bool b5, .bool b6, .slice p n cap]] w fun e w' => e = .returned (.bool false) ∧ Below w.heap.size w w' := by
  go_enter Tryd.func20, Tryd.ntmps20
  go_wp2
  go_ret
  exact ⟨rfl, (by repeat (first | exact Below.refl _ _ | assumption | refine below_drewN ?_ _ | refine Below.setCell ?_ (by first | (simp; done) | (simp; omega)) _ | refine Below.alloc ?_ (by first | (simp; done) | (simp; omega) | omega) _ | refine Below.drew ?_ | refine Below.trans ?_ (Below.mono (by assumption) (by first | (simp; done) | (simp; omega) | omega))))⟩
set_option maxHeartbeats 800000 in
theorem valid_no (b0 b1 b2 b3 b4 b5 b6 : Bool) (p : Option Addr) (n cap : Nat) (w : World) (h : n ≤ 400) (hb : (b0 && b1 && b2 && b3 && b4 && b5 && b6) = true) :
    Calls Tryd.prog 20 #[.agg #[.bool b0, .bool b1, .bool b2, .bool b3, .bool b4, .bool b5, .bool b6, .slice p n cap]] w fun e w' => e = .returned (.bool false) ∧ Below w.heap.size w w' := by
  have hq : ∀ w, (Op.equalIn 10000 25 (.agg #[.bool b0, .bool b1, .bool b2, .bool b3, .bool b4, .bool b5, .bool b6]) (.agg #[.bool true, .bool true, .bool true, .bool true, .bool true, .bool true, .bool true])).run Tryd.prog w = .ok true w := fun w => by rw [run_week_eq, hb]
  clear hb
  go_enter Tryd.func20, Tryd.ntmps20
  go_wp2
  go_ret
  exact ⟨rfl, (by repeat (first | exact Below.refl _ _ | assumption | refine below_drewN ?_ _ | refine Below.setCell ?_ (by first | (simp; done) | (simp; omega)) _ | refine Below.alloc ?_ (by first | (simp; done) | (simp; omega) | omega) _ | refine Below.drew ?_ | refine Below.trans ?_ (Below.mono (by assumption) (by first | (simp; done) | (simp; omega) | omega))))⟩
set_option maxHeartbeats 800000 in
theorem valid_nil (b0 b1 b2 b3 b4 b5 b6 : Bool) (p : Option Addr) (cap : Nat) (w : World) (hb : (b0 && b1 && b2 && b3 && b4 && b5 && b6) = false) :
    Calls Tryd.prog 20 #[.agg #[.bool b0, .bool b1, .bool b2, .bool b3, .bool b4, .bool b5, .bool b6, .slice p 0 cap]] w fun e w' => e = .returned (.bool true) ∧ Below w.heap.size w w' := by
  have hq : ∀ w, (Op.equalIn 10000 25 (.agg #[.bool b0, .bool b1, .bool b2, .bool b3, .bool b4, .bool b5, .bool b6]) (.agg #[.bool true, .bool true, .bool true, .bool true, .bool true, .bool true, .bool true])).run Tryd.prog w = .ok false w := fun w => by rw [run_week_eq, hb]
  clear hb
  go_enter Tryd.func20, Tryd.ntmps20
  go_wp2
  refine wp_loop_rounds 1 ?_
  rw [rounds_succ]
  go_wp2
  go_ret
  exact ⟨rfl, (by repeat (first | exact Below.refl _ _ | assumption | refine below_drewN ?_ _ | refine Below.setCell ?_ (by first | (simp; done) | (simp; omega)) _ | refine Below.alloc ?_ (by first | (simp; done) | (simp; omega) | omega) _ | refine Below.drew ?_ | refine Below.trans ?_ (Below.mono (by assumption) (by first | (simp; done) | (simp; omega) | omega))))⟩
set_option maxRecDepth 100000 in
set_option maxHeartbeats 1600000 in
theorem valid_some (b0 b1 b2 b3 b4 b5 b6 : Bool) (b off n cap : Nat) (hs : List Int) (r : Bool) (w : World) (hn : hs.length = n) (h : n ≤ 400) (hb : (b0 && b1 && b2 && b3 && b4 && b5 && b6) = false)
    (hr : r = true ↔ OkTo hs n) (hc : ∀ j, j < n → w.cell? ⟨b, off + j, none⟩ = some (.int .i64 (hs.getD j 0))) :
    Calls Tryd.prog 20 #[.agg #[.bool b0, .bool b1, .bool b2, .bool b3, .bool b4, .bool b5, .bool b6, .slice (some ⟨b, off, none⟩) n cap]] w fun e w' => e = .returned (.bool r) ∧ Below w.heap.size w w' := by
  have hq : ∀ w, (Op.equalIn 10000 25 (.agg #[.bool b0, .bool b1, .bool b2, .bool b3, .bool b4, .bool b5, .bool b6]) (.agg #[.bool true, .bool true, .bool true, .bool true, .bool true, .bool true, .bool true])).run Tryd.prog w = .ok false w := fun w => by rw [run_week_eq, hb]
  clear hb
  obtain ⟨W1, hW1⟩ : ∃ W1, W1 = w.alloc (.cells #[.bool b0, .bool b1, .bool b2, .bool b3, .bool b4, .bool b5, .bool b6, .slice (some ⟨b, off, none⟩) n cap] 28) := ⟨_, rfl⟩
  have hB : Below w.heap.size w W1 := by rw [hW1]; exact (by repeat (first | exact Below.refl _ _ | assumption | refine below_drewN ?_ _ | refine Below.setCell ?_ (by first | (simp; done) | (simp; omega)) _ | refine Below.alloc ?_ (by first | (simp; done) | (simp; omega) | omega) _ | refine Below.drew ?_ | refine Below.trans ?_ (Below.mono (by assumption) (by first | (simp; done) | (simp; omega) | omega))))
  have hc1 : ∀ j, j < n → W1.cell? ⟨b, off + j, none⟩ = some (.int .i64 (hs.getD j 0)) := fun j hj => cell_keep hB (hc j hj)
  have hv : W1.cell? ⟨w.heap.size, 7, none⟩ = some (.slice (some ⟨b, off, none⟩) n cap) := by rw [hW1]; go_simp
  have W := Lib.hid hW1
  have HB := Lib.hid hB
  have HR := Lib.hid hr
  have HC := Lib.hid hc1
  have HN := Lib.hid hn
  clear hc hc1 hr hB hn
  go_enter Tryd.func20, Tryd.ntmps20
  go_wp2
  rw [← hW1]
  clear hW1
  go_loopw [18] (fun i wr => ∃ k : Nat, i = .int .i64 k ∧ k ≤ n ∧ OkTo hs k ∧ wr = W1) (fun i _ => n - (intOf i).toNat)
  case atStart => exact ⟨0, rfl, by omega, fun i hi => by omega, by first | rfl | trivial⟩
  case round =>
    obtain ⟨k, rfl, hk, hok, rfl⟩ := hrel
    by_cases hlt : k < n
    · have c1 := HC.out k hlt
      obtain ⟨x, hx⟩ : ∃ x, x = hs.getD k 0 := ⟨_, rfl⟩
      rw [← hx] at c1
      have HX := Lib.hid hx
      have HO := Lib.hid hok
      clear hx hok
      by_cases hd : 0 ≤ x ∧ x ≤ 73048
      · have HD := Lib.hid hd
        clear hd
        cases k with
        | zero =>
          simp only [Nat.add_zero] at c1
          go_wp2_with (go_at_call 32; refine (isDay_any _ _).mono ?_; rintro e w' ⟨rfl, rfl⟩; rw [decide_eq_true HD.out])
          go_roundw
          case rel => exact ⟨1, by go_num, by omega, okTo_succ HO.out (by rw [← HX.out]; exact HD.out) (fun h => by omega), by first | rfl | trivial⟩
          case measure => simp [intOf]; omega
        | succ j =>
          have c2 := HC.out j (by omega)
          obtain ⟨y, hy⟩ : ∃ y, y = hs.getD j 0 := ⟨_, rfl⟩
          rw [← hy] at c2
          have HY := Lib.hid hy
          clear hy
          by_cases hxy : x ≤ y
          · have hf : r = false := by
              cases hr : r with
              | false => rfl
              | true =>
                exfalso
                have := (HR.out.1 hr (j + 1) (by omega)).2 (by omega)
                rw [← HX.out, show j + 1 - 1 = j from rfl, ← HY.out] at this
                omega
            have HF := Lib.hid hf
            clear hf
            go_wp2_with (go_at_call 32; refine (isDay_any _ _).mono ?_; rintro e w' ⟨rfl, rfl⟩; rw [decide_eq_true HD.out])
            go_ret
            exact ⟨ret_bool HF.out.symm, HB.out⟩
          · go_wp2_with (go_at_call 32; refine (isDay_any _ _).mono ?_; rintro e w' ⟨rfl, rfl⟩; rw [decide_eq_true HD.out])
            go_roundw
            case rel => exact ⟨j + 1 + 1, by go_num, by omega, okTo_succ HO.out (by rw [← HX.out]; exact HD.out) (fun _ => by rw [← HX.out, show j + 1 - 1 = j from rfl, ← HY.out]; omega), by first | rfl | trivial⟩
            case measure => simp [intOf]; omega
      · have hf : r = false := by
          cases hr : r with
          | false => rfl
          | true =>
            exfalso
            have := (HR.out.1 hr k (by omega)).1
            rw [← HX.out] at this
            exact hd this
        have HF := Lib.hid hf
        have HD := Lib.hid hd
        clear hf hd
        go_wp2_with (go_at_call 32; refine (isDay_any _ _).mono ?_; rintro e w' ⟨rfl, rfl⟩; rw [decide_eq_false HD.out])
        go_ret
        exact ⟨ret_bool HF.out.symm, HB.out⟩
    · obtain rfl : k = n := by omega
      have hf : r = true := HR.out.2 hok
      have HF := Lib.hid hf
      clear hf hok
      go_wp2
      go_ret
      exact ⟨ret_bool HF.out.symm, HB.out⟩
theorem valid_true (b0 b1 b2 b3 b4 b5 b6 : Bool) (p : Option Addr) (n cap : Nat) (hs : List Int) (w : World) (hn : hs.length = n) (hv : VP b0 b1 b2 b3 b4 b5 b6 hs) (hh : Hols w p hs) :
    Calls Tryd.prog 20 #[.agg #[.bool b0, .bool b1, .bool b2, .bool b3, .bool b4, .bool b5, .bool b6, .slice p n cap]] w fun e w' => e = .returned (.bool true) ∧ Below w.heap.size w w' := by
  obtain ⟨h1, h2, h3⟩ := hv
  rcases hh with rfl | ⟨b, off, rfl, hc⟩
  · subst hn; exact valid_nil b0 b1 b2 b3 b4 b5 b6 p cap w h2
  · subst hn; exact valid_some b0 b1 b2 b3 b4 b5 b6 b off _ cap hs true w rfl h1 h2 ⟨fun _ => (asc_okTo hs).1 h3, fun _ => rfl⟩ hc
theorem valid_false (b0 b1 b2 b3 b4 b5 b6 : Bool) (p : Option Addr) (n cap : Nat) (hs : List Int) (w : World) (hn : hs.length = n) (hv : ¬ VP b0 b1 b2 b3 b4 b5 b6 hs) (hh : Hols w p hs) :
    Calls Tryd.prog 20 #[.agg #[.bool b0, .bool b1, .bool b2, .bool b3, .bool b4, .bool b5, .bool b6, .slice p n cap]] w fun e w' => e = .returned (.bool false) ∧ Below w.heap.size w w' := by
  by_cases h1 : 400 < n
  · exact valid_many b0 b1 b2 b3 b4 b5 b6 p n cap w h1
  · cases h2 : (b0 && b1 && b2 && b3 && b4 && b5 && b6)
    · have h3 : ¬ Dt.Asc hs := fun h3 => hv ⟨by omega, h2, h3⟩
      rcases hh with rfl | ⟨b, off, rfl, hc⟩
      · exact absurd trivial h3
      · subst hn; exact valid_some b0 b1 b2 b3 b4 b5 b6 b off _ cap hs false w rfl (by omega) h2 ⟨fun h => (by cases h), fun h => absurd ((asc_okTo hs).2 h) h3⟩ hc
    · exact valid_no b0 b1 b2 b3 b4 b5 b6 p n cap w (by omega) h2
end Go.Proofs.YtlbfnafniobnaaaDoor

/- The walks of date's dates: the length of a month, Number, Weekday, Civil. -/
import Derived.Test.YtlbfnafniobnaaaDoorDtA
namespace Go.Proofs.YtlbfnafniobnaaaDoor
open Go.RowKit

theorem below_drewN {B : Nat} {a w : World} (h : Below B a w) (n : Nat) : Below B a (w.drewN n) := ⟨h.os, h.tape, h.output, h.size, h.block⟩
theorem cell_keep {w w' : World} (hb : Below w.heap.size w w') {a : Addr} {v : Value} (hc : w.cell? a = some v) : w'.cell? a = some v := (hb.cell (World.block_lt_of_cell? w a hc)).trans hc
theorem Env.below {w w' : World} (h : Env w) (hb : Below w.heap.size w w') : Env w' := fun k hk => cell_keep hb (h k hk)
/-- an integer and an error -/
def IV (t : Int × Int) : Value := .tuple #[.int .i64 t.1, .int .i64 t.2]
/-- a date and an error -/
def CV (y m d e : Int) : Value := .tuple #[.agg #[.int .i64 y, .int .i64 m, .int .i64 d], .int .i64 e]
theorem ret_iv {a b c d : Int} (h : (a, b) = (c, d)) : Ending.returned (.tuple #[.int .i64 a, .int .i64 b]) = .returned (IV (c, d)) := by cases h; rfl
theorem monthBegin_q (y m : Int) (w : World) (k : Nat) (h0 : 1990 ≤ y) (h1 : y ≤ 2189) (h2 : 1 ≤ m) (h3 : m ≤ 13) (hE : Env w) :
    Calls Tryd.prog 81 #[.int .i64 y, .int .i64 m] (w.drewN k) fun e w' => e = .returned (.int .i64 (Dt.mb y m)) ∧ ∃ n, w' = w.drewN n :=
  Calls.quiet_of (monthBegin_draws y m _ h0 h1 h2 h3 hE)
set_option maxHeartbeats 800000 in
theorem monthLength_draws (y m : Int) (w : World) (h0 : 1990 ≤ y) (h1 : y ≤ 2189) (h2 : 1 ≤ m) (h3 : m ≤ 12) (hE : Env w) :
    Calls Tryd.prog 66 #[.int .i64 y, .int .i64 m] w fun e w' => e = .returned (.int .i64 (Dt.ml y m)) ∧ ∃ n, w' = w.drewN n := by
  have b1 := Dt.mb_bd (y := y) (m := m + 1) h0 h1 (by omega) (by omega)
  have b2 := Dt.mb_bd (y := y) (m := m) h0 h1 (by omega) (by omega)
  have HE := Lib.hid hE
  clear hE
  go_enter Tryd.func66, Tryd.ntmps66
  go_wp2_with fail
  refine (monthBegin_draws _ _ _ (by omega) (by omega) (by omega) (by omega) HE.out).mono ?_
  rintro e w' ⟨rfl, n1, rfl⟩
  go_wp2_with fail
  refine (monthBegin_draws _ _ (w.drewN n1) (by omega) (by omega) (by omega) (by omega) HE.out).mono ?_
  rintro e w' ⟨rfl, n2, rfl⟩
  generalize hA : Dt.mb y (m + 1) = A at *
  generalize hB : Dt.mb y m = B at *
  have HA := Lib.hid hA
  have HB := Lib.hid hB
  clear hA hB
  go_wp2
  go_ret
  exact ⟨ret_int (by unfold Dt.ml; rw [HA.out, HB.out]), n1 + n2, rfl⟩
theorem monthLength_q (y m : Int) (w : World) (k : Nat) (h0 : 1990 ≤ y) (h1 : y ≤ 2189) (h2 : 1 ≤ m) (h3 : m ≤ 12) (hE : Env w) :
    Calls Tryd.prog 66 #[.int .i64 y, .int .i64 m] (w.drewN k) fun e w' => e = .returned (.int .i64 (Dt.ml y m)) ∧ ∃ n, w' = w.drewN n :=
  Calls.quiet_of (monthLength_draws y m _ h0 h1 h2 h3 hE)
set_option maxHeartbeats 800000 in
theorem number_a (y m d : Int) (w : World) (h : y < 1990) :
    Calls Tryd.prog 67 #[.agg #[.int .i64 y, .int .i64 m, .int .i64 d]] w fun e w' => e = .returned (IV (0, 1)) ∧ Below w.heap.size w w' := by
  go_enter Tryd.func67, Tryd.ntmps67
  go_wp2
  go_ret2
  exact ⟨rfl, (by repeat (first | exact Below.refl _ _ | assumption | refine below_drewN ?_ _ | refine Below.setCell ?_ (by first | (simp; done) | (simp; omega)) _ | refine Below.alloc ?_ (by first | (simp; done) | (simp; omega) | omega) _ | refine Below.drew ?_ | refine Below.trans ?_ (Below.mono (by assumption) (by first | (simp; done) | (simp; omega) | omega))))⟩
set_option maxHeartbeats 800000 in
theorem number_b (y m d : Int) (w : World) (h0 : 1990 ≤ y) (h : 2190 ≤ y) :
    Calls Tryd.prog 67 #[.agg #[.int .i64 y, .int .i64 m, .int .i64 d]] w fun e w' => e = .returned (IV (0, 1)) ∧ Below w.heap.size w w' := by
  go_enter Tryd.func67, Tryd.ntmps67
  go_wp2
  go_ret2
  exact ⟨rfl, (by repeat (first | exact Below.refl _ _ | assumption | refine below_drewN ?_ _ | refine Below.setCell ?_ (by first | (simp; done) | (simp; omega)) _ | refine Below.alloc ?_ (by first | (simp; done) | (simp; omega) | omega) _ | refine Below.drew ?_ | refine Below.trans ?_ (Below.mono (by assumption) (by first | (simp; done) | (simp; omega) | omega))))⟩
set_option maxHeartbeats 800000 in
theorem number_c (y m d : Int) (w : World) (h0 : 1990 ≤ y) (h1 : y < 2190) (h : m < 1) :
    Calls Tryd.prog 67 #[.agg #[.int .i64 y, .int .i64 m, .int .i64 d]] w fun e w' => e = .returned (IV (0, 1)) ∧ Below w.heap.size w w' := by
  go_enter Tryd.func67, Tryd.ntmps67
  go_wp2
  go_ret2
  exact ⟨rfl, (by repeat (first | exact Below.refl _ _ | assumption | refine below_drewN ?_ _ | refine Below.setCell ?_ (by first | (simp; done) | (simp; omega)) _ | refine Below.alloc ?_ (by first | (simp; done) | (simp; omega) | omega) _ | refine Below.drew ?_ | refine Below.trans ?_ (Below.mono (by assumption) (by first | (simp; done) | (simp; omega) | omega))))⟩
set_option maxHeartbeats 800000 in
theorem number_d (y m d : Int) (w : World) (h0 : 1990 ≤ y) (h1 : y < 2190) (h2 : 1 ≤ m) (h : 12 < m) :
    Calls Tryd.prog 67 #[.agg #[.int .i64 y, .int .i64 m, .int .i64 d]] w fun e w' => e = .returned (IV (0, 1)) ∧ Below w.heap.size w w' := by
  go_enter Tryd.func67, Tryd.ntmps67
  go_wp2
  go_ret2
  exact ⟨rfl, (by repeat (first | exact Below.refl _ _ | assumption | refine below_drewN ?_ _ | refine Below.setCell ?_ (by first | (simp; done) | (simp; omega)) _ | refine Below.alloc ?_ (by first | (simp; done) | (simp; omega) | omega) _ | refine Below.drew ?_ | refine Below.trans ?_ (Below.mono (by assumption) (by first | (simp; done) | (simp; omega) | omega))))⟩
set_option maxHeartbeats 800000 in
theorem number_e (y m d : Int) (w : World) (h0 : 1990 ≤ y) (h1 : y < 2190) (h2 : 1 ≤ m) (h3 : m ≤ 12) (hE : Env w) (h : d < 1) :
    Calls Tryd.prog 67 #[.agg #[.int .i64 y, .int .i64 m, .int .i64 d]] w fun e w' => e = .returned (IV (0, 1)) ∧ Below w.heap.size w w' := by
  have HE := Lib.hid hE
  clear hE
  have hb : decide (d < 1) = true := decide_eq_true h
  go_enter Tryd.func67, Tryd.ntmps67
  go_wp2
  go_quiet (first | (go_at_call 66; exact monthLength_q _ _ _ _ (by omega) (by omega) (by omega) (by omega) (HE.out.below (by repeat (first | exact Below.refl _ _ | assumption | refine below_drewN ?_ _ | refine Below.setCell ?_ (by first | (simp; done) | (simp; omega)) _ | refine Below.alloc ?_ (by first | (simp; done) | (simp; omega) | omega) _ | refine Below.drew ?_ | refine Below.trans ?_ (Below.mono (by assumption) (by first | (simp; done) | (simp; omega) | omega)))))) | (go_at_call 81; exact monthBegin_q _ _ _ _ (by omega) (by omega) (by omega) (by omega) (HE.out.below (by repeat (first | exact Below.refl _ _ | assumption | refine below_drewN ?_ _ | refine Below.setCell ?_ (by first | (simp; done) | (simp; omega)) _ | refine Below.alloc ?_ (by first | (simp; done) | (simp; omega) | omega) _ | refine Below.drew ?_ | refine Below.trans ?_ (Below.mono (by assumption) (by first | (simp; done) | (simp; omega) | omega)))))))
  go_wp2
  go_ret2
  exact ⟨rfl, (by repeat (first | exact Below.refl _ _ | assumption | refine below_drewN ?_ _ | refine Below.setCell ?_ (by first | (simp; done) | (simp; omega)) _ | refine Below.alloc ?_ (by first | (simp; done) | (simp; omega) | omega) _ | refine Below.drew ?_ | refine Below.trans ?_ (Below.mono (by assumption) (by first | (simp; done) | (simp; omega) | omega))))⟩
set_option maxHeartbeats 800000 in
theorem number_f (y m d : Int) (w : World) (h0 : 1990 ≤ y) (h1 : y < 2190) (h2 : 1 ≤ m) (h3 : m ≤ 12) (hE : Env w) (h : 1 ≤ d) (h' : Dt.ml y m < d) :
    Calls Tryd.prog 67 #[.agg #[.int .i64 y, .int .i64 m, .int .i64 d]] w fun e w' => e = .returned (IV (0, 1)) ∧ Below w.heap.size w w' := by
  have HE := Lib.hid hE
  clear hE
  have hb : decide (d < 1) = false := decide_eq_false (by omega)
  go_enter Tryd.func67, Tryd.ntmps67
  go_wp2
  go_quiet (first | (go_at_call 66; exact monthLength_q _ _ _ _ (by omega) (by omega) (by omega) (by omega) (HE.out.below (by repeat (first | exact Below.refl _ _ | assumption | refine below_drewN ?_ _ | refine Below.setCell ?_ (by first | (simp; done) | (simp; omega)) _ | refine Below.alloc ?_ (by first | (simp; done) | (simp; omega) | omega) _ | refine Below.drew ?_ | refine Below.trans ?_ (Below.mono (by assumption) (by first | (simp; done) | (simp; omega) | omega)))))) | (go_at_call 81; exact monthBegin_q _ _ _ _ (by omega) (by omega) (by omega) (by omega) (HE.out.below (by repeat (first | exact Below.refl _ _ | assumption | refine below_drewN ?_ _ | refine Below.setCell ?_ (by first | (simp; done) | (simp; omega)) _ | refine Below.alloc ?_ (by first | (simp; done) | (simp; omega) | omega) _ | refine Below.drew ?_ | refine Below.trans ?_ (Below.mono (by assumption) (by first | (simp; done) | (simp; omega) | omega)))))))
  go_wp2
  go_ret2
  exact ⟨rfl, (by repeat (first | exact Below.refl _ _ | assumption | refine below_drewN ?_ _ | refine Below.setCell ?_ (by first | (simp; done) | (simp; omega)) _ | refine Below.alloc ?_ (by first | (simp; done) | (simp; omega) | omega) _ | refine Below.drew ?_ | refine Below.trans ?_ (Below.mono (by assumption) (by first | (simp; done) | (simp; omega) | omega))))⟩
set_option maxHeartbeats 800000 in
theorem number_g (y m d : Int) (w : World) (h0 : 1990 ≤ y) (h1 : y < 2190) (h2 : 1 ≤ m) (h3 : m ≤ 12) (hE : Env w) (h : 1 ≤ d) (h' : d ≤ Dt.ml y m) :
    Calls Tryd.prog 67 #[.agg #[.int .i64 y, .int .i64 m, .int .i64 d]] w fun e w' => e = .returned (IV (Dt.mb y m + d - 1, 0)) ∧ Below w.heap.size w w' := by
  have HE := Lib.hid hE
  clear hE
  have hb : decide (d < 1) = false := decide_eq_false (by omega)
  have b1 := Dt.mb_bd (y := y) (m := m) h0 (by omega) h2 (by omega)
  have b2 := Dt.ml_bd (y := y) h2 h3
  have e1 : IntKind.i64.wrap (Dt.mb y m + d) = Dt.mb y m + d := IntWalk.i64_in _ (by omega)
  have e2 : IntKind.i64.wrap (Dt.mb y m + d - 1) = Dt.mb y m + d - 1 := IntWalk.i64_in _ (by omega)
  go_enter Tryd.func67, Tryd.ntmps67
  go_wp2
  go_quiet (first | (go_at_call 66; exact monthLength_q _ _ _ _ (by omega) (by omega) (by omega) (by omega) (HE.out.below (by repeat (first | exact Below.refl _ _ | assumption | refine below_drewN ?_ _ | refine Below.setCell ?_ (by first | (simp; done) | (simp; omega)) _ | refine Below.alloc ?_ (by first | (simp; done) | (simp; omega) | omega) _ | refine Below.drew ?_ | refine Below.trans ?_ (Below.mono (by assumption) (by first | (simp; done) | (simp; omega) | omega)))))) | (go_at_call 81; exact monthBegin_q _ _ _ _ (by omega) (by omega) (by omega) (by omega) (HE.out.below (by repeat (first | exact Below.refl _ _ | assumption | refine below_drewN ?_ _ | refine Below.setCell ?_ (by first | (simp; done) | (simp; omega)) _ | refine Below.alloc ?_ (by first | (simp; done) | (simp; omega) | omega) _ | refine Below.drew ?_ | refine Below.trans ?_ (Below.mono (by assumption) (by first | (simp; done) | (simp; omega) | omega)))))))
  have c0 : ((w.alloc (.cells #[.int .i64 y, .int .i64 m, .int .i64 d] 105)).drewN nq).cell? ⟨w.heap.size, 0, none⟩ = some (.int .i64 y) := by go_simp
  have c1 : ((w.alloc (.cells #[.int .i64 y, .int .i64 m, .int .i64 d] 105)).drewN nq).cell? ⟨w.heap.size, 1, none⟩ = some (.int .i64 m) := by go_simp
  have c2 : ((w.alloc (.cells #[.int .i64 y, .int .i64 m, .int .i64 d] 105)).drewN nq).cell? ⟨w.heap.size, 2, none⟩ = some (.int .i64 d) := by go_simp
  have hB : Below w.heap.size w ((w.alloc (.cells #[.int .i64 y, .int .i64 m, .int .i64 d] 105)).drewN nq) := (by repeat (first | exact Below.refl _ _ | assumption | refine below_drewN ?_ _ | refine Below.setCell ?_ (by first | (simp; done) | (simp; omega)) _ | refine Below.alloc ?_ (by first | (simp; done) | (simp; omega) | omega) _ | refine Below.drew ?_ | refine Below.trans ?_ (Below.mono (by assumption) (by first | (simp; done) | (simp; omega) | omega))))
  generalize ((w.alloc (.cells #[.int .i64 y, .int .i64 m, .int .i64 d] 105)).drewN nq) = W1 at *
  have hE1 : Env W1 := HE.out.below hB
  have HE1 := Lib.hid hE1
  clear hE1
  go_wp2
  go_quiet (first | (go_at_call 66; exact monthLength_q _ _ _ _ (by omega) (by omega) (by omega) (by omega) HE1.out) | (go_at_call 81; exact monthBegin_q _ _ _ _ (by omega) (by omega) (by omega) (by omega) HE1.out))
  go_wp2
  go_ret2
  exact ⟨rfl, (by repeat (first | exact Below.refl _ _ | assumption | refine below_drewN ?_ _ | refine Below.setCell ?_ (by first | (simp; done) | (simp; omega)) _ | refine Below.alloc ?_ (by first | (simp; done) | (simp; omega) | omega) _ | refine Below.drew ?_ | refine Below.trans ?_ (Below.mono (by assumption) (by first | (simp; done) | (simp; omega) | omega))))⟩
theorem number_any (y m d : Int) (w : World) (hE : Env w) :
    Calls Tryd.prog 67 #[.agg #[.int .i64 y, .int .i64 m, .int .i64 d]] w fun e w' => e = .returned (IV (Dt.num y m d)) ∧ Below w.heap.size w w' := by
  unfold Dt.num
  by_cases h : 1990 ≤ y ∧ y ≤ 2189 ∧ 1 ≤ m ∧ m ≤ 12 ∧ 1 ≤ d ∧ d ≤ Dt.ml y m
  · rw [if_pos h]
    obtain ⟨h1, h2, h3, h4, h5, h6⟩ := h
    exact number_g y m d w h1 (by omega) h3 h4 hE h5 h6
  · rw [if_neg h]
    by_cases h1 : 1990 ≤ y
    · by_cases h2 : y < 2190
      · by_cases h3 : 1 ≤ m
        · by_cases h4 : m ≤ 12
          · by_cases h5 : 1 ≤ d
            · exact number_f y m d w h1 h2 h3 h4 hE h5 (by omega)
            · exact number_e y m d w h1 h2 h3 h4 hE (by omega)
          · exact number_d y m d w h1 h2 h3 (by omega)
        · exact number_c y m d w h1 h2 (by omega)
      · exact number_b y m d w h1 (by omega)
    · exact number_a y m d w (by omega)
end Go.Proofs.YtlbfnafniobnaaaDoor

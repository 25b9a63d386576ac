/- The reference implementation: Cmp, Floor, Round. -/
import Derived.Test.YtpdknjbhnelidaaQfC
namespace Go.Proofs.Ytpdknjbhnelidaa
open Go.RowKit

set_option maxRecDepth 100000 in
set_option maxHeartbeats 1600000 in
theorem rcmp_lt (an ad bn bd : Int) (w : World) (ha : Rt.Ok an ad) (hb : Rt.Ok bn bd) (h : an * bd < bn * ad) :
    Calls Try.prog 24 #[.agg #[.int .i64 an, .int .i64 ad], .agg #[.int .i64 bn, .int .i64 bd]] w fun e w' => e = .returned (.int .i64 (-1)) ∧ Below w.heap.size w w' := by
  have HA := Lib.hid ha
  have HB := Lib.hid hb
  obtain ⟨a1, a2, a3, a4, _⟩ := ha
  obtain ⟨d1, d2, d3, d4, _⟩ := hb
  have m1 := mulb a3 a4 d1 d2 (by omega)
  have m2 := mulb d3 d4 a1 a2 (by omega)
  have m3 := mulb (a := ad) (m := 1000000) (by omega) a2 d1 d2 (by omega)
  go_enter Try.func24, Try.ntmps24
  go_wp2_with fail
  refine (rvalid_true _ _ _ HA.out).mono ?_
  rintro e w1 ⟨rfl, hb1⟩
  obtain ⟨hc1, hf1⟩ := bcell hb1
  have hz1 := hb1.size
  simp at hz1
  have g1 : w1.cell? ⟨w.heap.size, 0, none⟩ = some (.int .i64 an) := (hc1 _ _ (by simp; omega)).trans (by go_simp)
  have g2 : w1.cell? ⟨w.heap.size, 1, none⟩ = some (.int .i64 ad) := (hc1 _ _ (by simp; omega)).trans (by go_simp)
  have g3 : w1.cell? ⟨w.heap.size + 1, 0, none⟩ = some (.int .i64 bn) := (hc1 _ _ (by simp)).trans (by go_simp)
  have g4 : w1.cell? ⟨w.heap.size + 1, 1, none⟩ = some (.int .i64 bd) := (hc1 _ _ (by simp)).trans (by go_simp)
  have bf1 : Below w.heap.size w w1 := (by repeat (first | exact Below.refl _ _ | assumption | refine below_drewN ?_ _ | refine Below.setCell ?_ (by first | (simp; done) | (simp; omega)) _ | refine Below.alloc ?_ (by first | (simp; done) | (simp; omega) | omega) _ | refine Below.drew ?_ | refine Below.trans ?_ (Below.mono (by assumption) (by first | (simp; done) | (simp; omega) | omega))))
  clear hc1 hf1 hb1
  go_wp2_with fail
  refine (rvalid_true _ _ _ HB.out).mono ?_
  rintro e w2 ⟨rfl, hb2⟩
  have hz2 := hb2.size
  have c1 := cell_keep hb2 g1
  have c2 := cell_keep hb2 g2
  have c3 := cell_keep hb2 g3
  have c4 := cell_keep hb2 g4
  have hl1 : w.heap.size < w2.heap.size := by omega
  have hl2 : w.heap.size + 1 < w2.heap.size := by omega
  clear g1 g2 g3 g4 HA HB
  go_wp2
  go_ret
  exact ⟨rfl, (by repeat (first | exact Below.refl _ _ | assumption | refine below_drewN ?_ _ | refine Below.setCell ?_ (by first | (simp; done) | (simp; omega)) _ | refine Below.alloc ?_ (by first | (simp; done) | (simp; omega) | omega) _ | refine Below.drew ?_ | refine Below.trans ?_ (Below.mono (by assumption) (by first | (simp; done) | (simp; omega) | omega))))⟩
set_option maxRecDepth 100000 in
set_option maxHeartbeats 1600000 in
theorem rcmp_gt (an ad bn bd : Int) (w : World) (ha : Rt.Ok an ad) (hb : Rt.Ok bn bd) (_h0 : ¬ an * bd < bn * ad) (h : bn * ad < an * bd) :
    Calls Try.prog 24 #[.agg #[.int .i64 an, .int .i64 ad], .agg #[.int .i64 bn, .int .i64 bd]] w fun e w' => e = .returned (.int .i64 (1)) ∧ Below w.heap.size w w' := by
  have HA := Lib.hid ha
  have HB := Lib.hid hb
  obtain ⟨a1, a2, a3, a4, _⟩ := ha
  obtain ⟨d1, d2, d3, d4, _⟩ := hb
  have m1 := mulb a3 a4 d1 d2 (by omega)
  have m2 := mulb d3 d4 a1 a2 (by omega)
  have m3 := mulb (a := ad) (m := 1000000) (by omega) a2 d1 d2 (by omega)
  go_enter Try.func24, Try.ntmps24
  go_wp2_with fail
  refine (rvalid_true _ _ _ HA.out).mono ?_
  rintro e w1 ⟨rfl, hb1⟩
  obtain ⟨hc1, hf1⟩ := bcell hb1
  have hz1 := hb1.size
  simp at hz1
  have g1 : w1.cell? ⟨w.heap.size, 0, none⟩ = some (.int .i64 an) := (hc1 _ _ (by simp; omega)).trans (by go_simp)
  have g2 : w1.cell? ⟨w.heap.size, 1, none⟩ = some (.int .i64 ad) := (hc1 _ _ (by simp; omega)).trans (by go_simp)
  have g3 : w1.cell? ⟨w.heap.size + 1, 0, none⟩ = some (.int .i64 bn) := (hc1 _ _ (by simp)).trans (by go_simp)
  have g4 : w1.cell? ⟨w.heap.size + 1, 1, none⟩ = some (.int .i64 bd) := (hc1 _ _ (by simp)).trans (by go_simp)
  have bf1 : Below w.heap.size w w1 := (by repeat (first | exact Below.refl _ _ | assumption | refine below_drewN ?_ _ | refine Below.setCell ?_ (by first | (simp; done) | (simp; omega)) _ | refine Below.alloc ?_ (by first | (simp; done) | (simp; omega) | omega) _ | refine Below.drew ?_ | refine Below.trans ?_ (Below.mono (by assumption) (by first | (simp; done) | (simp; omega) | omega))))
  clear hc1 hf1 hb1
  go_wp2_with fail
  refine (rvalid_true _ _ _ HB.out).mono ?_
  rintro e w2 ⟨rfl, hb2⟩
  have hz2 := hb2.size
  have c1 := cell_keep hb2 g1
  have c2 := cell_keep hb2 g2
  have c3 := cell_keep hb2 g3
  have c4 := cell_keep hb2 g4
  have hl1 : w.heap.size < w2.heap.size := by omega
  have hl2 : w.heap.size + 1 < w2.heap.size := by omega
  clear g1 g2 g3 g4 HA HB
  go_wp2
  go_ret
  exact ⟨rfl, (by repeat (first | exact Below.refl _ _ | assumption | refine below_drewN ?_ _ | refine Below.setCell ?_ (by first | (simp; done) | (simp; omega)) _ | refine Below.alloc ?_ (by first | (simp; done) | (simp; omega) | omega) _ | refine Below.drew ?_ | refine Below.trans ?_ (Below.mono (by assumption) (by first | (simp; done) | (simp; omega) | omega))))⟩
set_option maxRecDepth 100000 in
set_option maxHeartbeats 1600000 in
theorem rcmp_eq (an ad bn bd : Int) (w : World) (ha : Rt.Ok an ad) (hb : Rt.Ok bn bd) (h0 : ¬ an * bd < bn * ad) (h : ¬ bn * ad < an * bd) :
    Calls Try.prog 24 #[.agg #[.int .i64 an, .int .i64 ad], .agg #[.int .i64 bn, .int .i64 bd]] w fun e w' => e = .returned (.int .i64 (0)) ∧ Below w.heap.size w w' := by
  have HA := Lib.hid ha
  have HB := Lib.hid hb
  obtain ⟨a1, a2, a3, a4, _⟩ := ha
  obtain ⟨d1, d2, d3, d4, _⟩ := hb
  have m1 := mulb a3 a4 d1 d2 (by omega)
  have m2 := mulb d3 d4 a1 a2 (by omega)
  have m3 := mulb (a := ad) (m := 1000000) (by omega) a2 d1 d2 (by omega)
  go_enter Try.func24, Try.ntmps24
  go_wp2_with fail
  refine (rvalid_true _ _ _ HA.out).mono ?_
  rintro e w1 ⟨rfl, hb1⟩
  obtain ⟨hc1, hf1⟩ := bcell hb1
  have hz1 := hb1.size
  simp at hz1
  have g1 : w1.cell? ⟨w.heap.size, 0, none⟩ = some (.int .i64 an) := (hc1 _ _ (by simp; omega)).trans (by go_simp)
  have g2 : w1.cell? ⟨w.heap.size, 1, none⟩ = some (.int .i64 ad) := (hc1 _ _ (by simp; omega)).trans (by go_simp)
  have g3 : w1.cell? ⟨w.heap.size + 1, 0, none⟩ = some (.int .i64 bn) := (hc1 _ _ (by simp)).trans (by go_simp)
  have g4 : w1.cell? ⟨w.heap.size + 1, 1, none⟩ = some (.int .i64 bd) := (hc1 _ _ (by simp)).trans (by go_simp)
  have bf1 : Below w.heap.size w w1 := (by repeat (first | exact Below.refl _ _ | assumption | refine below_drewN ?_ _ | refine Below.setCell ?_ (by first | (simp; done) | (simp; omega)) _ | refine Below.alloc ?_ (by first | (simp; done) | (simp; omega) | omega) _ | refine Below.drew ?_ | refine Below.trans ?_ (Below.mono (by assumption) (by first | (simp; done) | (simp; omega) | omega))))
  clear hc1 hf1 hb1
  go_wp2_with fail
  refine (rvalid_true _ _ _ HB.out).mono ?_
  rintro e w2 ⟨rfl, hb2⟩
  have hz2 := hb2.size
  have c1 := cell_keep hb2 g1
  have c2 := cell_keep hb2 g2
  have c3 := cell_keep hb2 g3
  have c4 := cell_keep hb2 g4
  have hl1 : w.heap.size < w2.heap.size := by omega
  have hl2 : w.heap.size + 1 < w2.heap.size := by omega
  clear g1 g2 g3 g4 HA HB
  go_wp2
  go_ret
  exact ⟨rfl, (by repeat (first | exact Below.refl _ _ | assumption | refine below_drewN ?_ _ | refine Below.setCell ?_ (by first | (simp; done) | (simp; omega)) _ | refine Below.alloc ?_ (by first | (simp; done) | (simp; omega) | omega) _ | refine Below.drew ?_ | refine Below.trans ?_ (Below.mono (by assumption) (by first | (simp; done) | (simp; omega) | omega))))⟩
set_option maxRecDepth 100000 in
set_option maxHeartbeats 1600000 in
theorem rcmp_no (an ad bn bd : Int) (w : World) (h : ¬ (Rt.Ok an ad ∧ Rt.Ok bn bd)) :
    Calls Try.prog 24 #[.agg #[.int .i64 an, .int .i64 ad], .agg #[.int .i64 bn, .int .i64 bd]] w fun e w' => e = .returned (.int .i64 0) ∧ Below w.heap.size w w' := by
  by_cases ha : Rt.Ok an ad
  · have hb : ¬ Rt.Ok bn bd := fun hb => h ⟨ha, hb⟩
    have HA := Lib.hid ha
    have HB := Lib.hid hb
    clear h ha hb
    go_enter Try.func24, Try.ntmps24
    go_wp2_with fail
    refine (rvalid_true _ _ _ HA.out).mono ?_
    rintro e w1 ⟨rfl, hb1⟩
    obtain ⟨hc1, hf1⟩ := bcell hb1
    have hz1 := hb1.size
    simp at hz1
    go_wp2_with fail
    refine (rvalid_false _ _ _ HB.out).mono ?_
    rintro e w2 ⟨rfl, hb2⟩
    have hz2 := hb2.size
    go_wp2
    go_ret
    refine ⟨rfl, ?_⟩
    exact (by repeat (first | exact Below.refl _ _ | assumption | refine below_drewN ?_ _ | refine Below.setCell ?_ (by first | (simp; done) | (simp; omega)) _ | refine Below.alloc ?_ (by first | (simp; done) | (simp; omega) | omega) _ | refine Below.drew ?_ | refine Below.trans ?_ (Below.mono (by assumption) (by first | (simp; done) | (simp; omega) | omega))))
  · have HA := Lib.hid ha
    clear h ha
    go_enter Try.func24, Try.ntmps24
    go_wp2_with fail
    refine (rvalid_false _ _ _ HA.out).mono ?_
    rintro e w1 ⟨rfl, hb1⟩
    obtain ⟨hc1, hf1⟩ := bcell hb1
    have hz1 := hb1.size
    simp at hz1
    go_wp2
    go_ret
    refine ⟨rfl, ?_⟩
    exact (by repeat (first | exact Below.refl _ _ | assumption | refine below_drewN ?_ _ | refine Below.setCell ?_ (by first | (simp; done) | (simp; omega)) _ | refine Below.alloc ?_ (by first | (simp; done) | (simp; omega) | omega) _ | refine Below.drew ?_ | refine Below.trans ?_ (Below.mono (by assumption) (by first | (simp; done) | (simp; omega) | omega))))
theorem rcmp_any (an ad bn bd : Int) (w : World) :
    Calls Try.prog 24 #[.agg #[.int .i64 an, .int .i64 ad], .agg #[.int .i64 bn, .int .i64 bd]] w fun e w' => e = .returned (.int .i64 (Rt.cmpS an ad bn bd)) ∧ Below w.heap.size w w' := by
  unfold Rt.cmpS
  by_cases h : Rt.Ok an ad ∧ Rt.Ok bn bd
  · rw [if_pos h]
    by_cases h1 : an * bd < bn * ad
    · rw [if_pos h1]; exact rcmp_lt an ad bn bd w h.1 h.2 h1
    · rw [if_neg h1]
      by_cases h2 : bn * ad < an * bd
      · rw [if_pos h2]; exact rcmp_gt an ad bn bd w h.1 h.2 h1 h2
      · rw [if_neg h2]; exact rcmp_eq an ad bn bd w h.1 h.2 h1 h2
  · rw [if_neg h]; exact rcmp_no an ad bn bd w h
end Go.Proofs.Ytpdknjbhnelidaa

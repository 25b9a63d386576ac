/- The walks of ratio.Add. -/
import Derived.Test.YtpdknjbhnelidaaRtC
namespace Go.Proofs.Ytpdknjbhnelidaa
open Go.RowKit

theorem mulb {a b m k : Int} (h1 : -m ≤ a) (h2 : a ≤ m) (h3 : 1 ≤ b) (h4 : b ≤ k) (hm : 0 ≤ m) : -(m * k) ≤ a * b ∧ a * b ≤ m * k := by
  have e1 : a * b ≤ m * b := Int.mul_le_mul_of_nonneg_right h2 (by omega)
  have e2 : m * b ≤ m * k := Int.mul_le_mul_of_nonneg_left h4 hm
  have e3 : -m * b ≤ a * b := Int.mul_le_mul_of_nonneg_right h1 (by omega)
  rw [Int.neg_mul] at e3
  omega
set_option maxHeartbeats 800000 in
theorem checked_no (an ad bn bd : Int) (f : Value) (w : World) (ka1 : -9223372036854775808 ≤ an) (ka2 : an ≤ 9223372036854775807) (kb1 : -9223372036854775808 ≤ bn) (kb2 : bn ≤ 9223372036854775807) (h : ¬ (Rt.Ok an ad ∧ Rt.Ok bn bd)) :
    Calls Try.prog 57 #[.agg #[.int .i64 an, .int .i64 ad], .agg #[.int .i64 bn, .int .i64 bd], f] w fun e w' => e = .returned (RV (0, 0, 1)) ∧ Below w.heap.size w w' := by
  by_cases ha : Rt.Ok an ad
  · have hb : ¬ Rt.Ok bn bd := fun hb => h ⟨ha, hb⟩
    clear h
    go_enter Try.func57, Try.ntmps57
    go_wp2_with fail
    refine (valid_true _ _ _ ha).mono ?_
    rintro e w1 ⟨rfl, hb1⟩
    obtain ⟨hc1, hf1⟩ := bcell hb1
    have hz1 := hb1.size
    simp at hz1
    go_wp2_with fail
    refine (valid_false _ _ _ kb1 kb2 hb).mono ?_
    rintro e w2 ⟨rfl, hb2⟩
    obtain ⟨hc2, hf2⟩ := bcell hb2
    have hz2 := hb2.size
    have hl1 : w.heap.size + 1 + 1 < w1.heap.size := by omega
    clear ha hb
    go_wp2
    refine bodyPost_ret (v := RV (0, 0, 1)) (by simp [results, Try.results57, go_sem, RV, hc1, hc2, hl1]) rfl ⟨rfl, ?_⟩
    exact (by repeat (first | exact Below.refl _ _ | assumption | refine below_drewN ?_ _ | refine Below.setCell ?_ (by first | (simp; done) | (simp; omega)) _ | refine Below.alloc ?_ (by first | (simp; done) | (simp; omega) | omega) _ | refine Below.drew ?_ | refine Below.trans ?_ (Below.mono (by assumption) (by first | (simp; done) | (simp; omega) | omega))))
  · clear h
    go_enter Try.func57, Try.ntmps57
    go_wp2_with fail
    refine (valid_false _ _ _ ka1 ka2 ha).mono ?_
    rintro e w1 ⟨rfl, hb1⟩
    obtain ⟨hc1, hf1⟩ := bcell hb1
    have hz1 := hb1.size
    simp at hz1
    clear ha
    go_wp2
    refine bodyPost_ret (v := RV (0, 0, 1)) (by simp [results, Try.results57, go_sem, RV, hc1]) rfl ⟨rfl, ?_⟩
    exact (by repeat (first | exact Below.refl _ _ | assumption | refine below_drewN ?_ _ | refine Below.setCell ?_ (by first | (simp; done) | (simp; omega)) _ | refine Below.alloc ?_ (by first | (simp; done) | (simp; omega) | omega) _ | refine Below.drew ?_ | refine Below.trans ?_ (Below.mono (by assumption) (by first | (simp; done) | (simp; omega) | omega))))
set_option maxRecDepth 100000 in
set_option maxHeartbeats 800000 in
theorem checked_add (an ad bn bd : Int) (t : Int × Int × Int) (p1 p2 : Value) (w : World) (ha : Rt.Ok an ad) (hb : Rt.Ok bn bd)
    (hop : ∀ w2, Below w.heap.size w w2 → Calls Try.prog 58 #[p1, p2] w2 fun e w3 => e = .returned (RV t) ∧ Below w2.heap.size w2 w3) :
    Calls Try.prog 57 #[.agg #[.int .i64 an, .int .i64 ad], .agg #[.int .i64 bn, .int .i64 bd], .func (Fn.func 58) #[] #[p1, p2]] w fun e w' => e = .returned (RV t) ∧ Below w.heap.size w w' := by
  have HOP := Lib.hid hop
  clear hop
  go_enter Try.func57, Try.ntmps57
  go_wp2_with fail
  refine (valid_true _ _ _ ha).mono ?_
  rintro e w1 ⟨rfl, hb1⟩
  obtain ⟨hc1, hf1⟩ := bcell hb1
  have hz1 := hb1.size
  simp at hz1
  go_wp2_with fail
  refine (valid_true _ _ _ hb).mono ?_
  rintro e w2 ⟨rfl, hb2⟩
  obtain ⟨hc2, hf2⟩ := bcell hb2
  have hz2 := hb2.size
  go_wp2_with fail
  have hbel : Below w.heap.size w w2 := (by repeat (first | exact Below.refl _ _ | assumption | refine below_drewN ?_ _ | refine Below.setCell ?_ (by first | (simp; done) | (simp; omega)) _ | refine Below.alloc ?_ (by first | (simp; done) | (simp; omega) | omega) _ | refine Below.drew ?_ | refine Below.trans ?_ (Below.mono (by assumption) (by first | (simp; done) | (simp; omega) | omega))))
  refine (HOP.out w2 hbel).mono ?_
  rintro e w3 ⟨rfl, hb3⟩
  obtain ⟨hc3, hf3⟩ := bcell hb3
  have hz3 := hb3.size
  have hl1 : w.heap.size + 1 + 1 < w1.heap.size := by omega
  have hl2 : w.heap.size + 1 + 1 < w2.heap.size := by omega
  clear hz1 hz2 hz3
  simp only [RV]
  go_wp2
  refine bodyPost_ret (v := RV t) (by simp [results, Try.results57, go_sem, RV, hc1, hc2, hc3, hl1, hl2]) rfl ⟨rfl, ?_⟩
  exact (by repeat (first | exact Below.refl _ _ | assumption | refine below_drewN ?_ _ | refine Below.setCell ?_ (by first | (simp; done) | (simp; omega)) _ | refine Below.alloc ?_ (by first | (simp; done) | (simp; omega) | omega) _ | refine Below.drew ?_ | refine Below.trans ?_ (Below.mono (by assumption) (by first | (simp; done) | (simp; omega) | omega))))
set_option maxHeartbeats 800000 in
theorem addf (an ad bn bd : Int) (t : Int × Int × Int) (b1 b2 : Nat) (w : World) (ht : Rt.mk (an * bd + bn * ad) (ad * bd) = t) (ha : Rt.Ok an ad) (hb : Rt.Ok bn bd) (hl1 : b1 < w.heap.size) (hl2 : b2 < w.heap.size)
    (c1 : w.cell? ⟨b1, 0, none⟩ = some (.int .i64 an)) (c2 : w.cell? ⟨b1, 1, none⟩ = some (.int .i64 ad)) (c3 : w.cell? ⟨b2, 0, none⟩ = some (.int .i64 bn)) (c4 : w.cell? ⟨b2, 1, none⟩ = some (.int .i64 bd)) :
    Calls Try.prog 58 #[.pointer (some ⟨b1, 0, none⟩), .pointer (some ⟨b2, 0, none⟩)] w fun e w' => e = .returned (RV t) ∧ Below w.heap.size w w' := by
  obtain ⟨a1, a2, a3, a4, _⟩ := ha
  obtain ⟨d1, d2, d3, d4, _⟩ := hb
  have m1 := mulb a3 a4 d1 d2 (by omega)
  have m2 := mulb d3 d4 a1 a2 (by omega)
  have m3 := mulb (a := ad) (m := 1000000) (by omega) a2 d1 d2 (by omega)
  have m4 := mulb d3 d4 a1 a2 (by omega)
  rw [Int.mul_comm bn ad] at m4
  have HT := Lib.hid ht
  clear ht
  go_enter Try.func58, Try.ntmps58
  go_wp2_with fail
  refine (make_any _ _ _ (by omega) (by omega) (by omega) (by omega)).mono ?_
  rintro e w1 ⟨rfl, hb1⟩
  rw [HT.out]
  obtain ⟨hc1, hf1⟩ := bcell hb1
  simp only [RV]
  go_wp2
  refine bodyPost_ret (v := RV t) (by simp [results, Try.results58, go_sem, RV, hc1]) rfl ⟨rfl, ?_⟩
  exact (by repeat (first | exact Below.refl _ _ | assumption | refine below_drewN ?_ _ | refine Below.setCell ?_ (by first | (simp; done) | (simp; omega)) _ | refine Below.alloc ?_ (by first | (simp; done) | (simp; omega) | omega) _ | refine Below.drew ?_ | refine Below.trans ?_ (Below.mono (by assumption) (by first | (simp; done) | (simp; omega) | omega))))
set_option maxRecDepth 100000 in
set_option maxHeartbeats 800000 in
theorem add_ok (an ad bn bd : Int) (t : Int × Int × Int) (w : World) (ht : Rt.mk (an * bd + bn * ad) (ad * bd) = t) (ha : Rt.Ok an ad) (hb : Rt.Ok bn bd) :
    Calls Try.prog 49 #[.agg #[.int .i64 an, .int .i64 ad], .agg #[.int .i64 bn, .int .i64 bd]] w fun e w' => e = .returned (RV t) ∧ Below w.heap.size w w' := by
  have HT := Lib.hid ht
  clear ht
  go_enter Try.func49, Try.ntmps49
  go_wp2_with fail
  refine (checked_add an ad bn bd t _ _ _ ha hb ?_).mono ?_
  · intro w2 hw2
    obtain ⟨hc2, hf2⟩ := bcell hw2
    have hz2 := hw2.size
    simp at hz2
    exact addf an ad bn bd t _ _ w2 HT.out ha hb (by omega) (by omega) (by rw [hc2 _ _ (by first | (simp; done) | (simp; omega))]; go_simp) (by rw [hc2 _ _ (by first | (simp; done) | (simp; omega))]; go_simp) (by rw [hc2 _ _ (by first | (simp; done) | (simp; omega))]; go_simp) (by rw [hc2 _ _ (by first | (simp; done) | (simp; omega))]; go_simp)
  rintro e w1 ⟨rfl, hb1⟩
  obtain ⟨hc1, hf1⟩ := bcell hb1
  have hz1 := hb1.size
  simp at hz1
  clear ha hb
  simp only [RV]
  go_wp2
  refine bodyPost_ret (v := RV t) (by simp [results, Try.results49, go_sem, RV, hc1]) rfl ⟨rfl, ?_⟩
  exact (by repeat (first | exact Below.refl _ _ | assumption | refine below_drewN ?_ _ | refine Below.setCell ?_ (by first | (simp; done) | (simp; omega)) _ | refine Below.alloc ?_ (by first | (simp; done) | (simp; omega) | omega) _ | refine Below.drew ?_ | refine Below.trans ?_ (Below.mono (by assumption) (by first | (simp; done) | (simp; omega) | omega))))
set_option maxHeartbeats 800000 in
theorem add_no (an ad bn bd : Int) (w : World) (ka1 : -9223372036854775808 ≤ an) (ka2 : an ≤ 9223372036854775807) (kb1 : -9223372036854775808 ≤ bn) (kb2 : bn ≤ 9223372036854775807) (h : ¬ (Rt.Ok an ad ∧ Rt.Ok bn bd)) :
    Calls Try.prog 49 #[.agg #[.int .i64 an, .int .i64 ad], .agg #[.int .i64 bn, .int .i64 bd]] w fun e w' => e = .returned (RV (0, 0, 1)) ∧ Below w.heap.size w w' := by
  have H := Lib.hid h
  clear h
  go_enter Try.func49, Try.ntmps49
  go_wp2_with fail
  refine (checked_no an ad bn bd _ _ ka1 ka2 kb1 kb2 H.out).mono ?_
  rintro e w1 ⟨rfl, hb1⟩
  obtain ⟨hc1, hf1⟩ := bcell hb1
  have hz1 := hb1.size
  simp at hz1
  simp only [RV]
  go_wp2
  refine bodyPost_ret (v := RV (0, 0, 1)) (by simp [results, Try.results49, go_sem, RV, hc1]) rfl ⟨rfl, ?_⟩
  exact (by repeat (first | exact Below.refl _ _ | assumption | refine below_drewN ?_ _ | refine Below.setCell ?_ (by first | (simp; done) | (simp; omega)) _ | refine Below.alloc ?_ (by first | (simp; done) | (simp; omega) | omega) _ | refine Below.drew ?_ | refine Below.trans ?_ (Below.mono (by assumption) (by first | (simp; done) | (simp; omega) | omega))))
theorem add_any (an ad bn bd : Int) (w : World) (ka1 : -9223372036854775808 ≤ an) (ka2 : an ≤ 9223372036854775807) (kb1 : -9223372036854775808 ≤ bn) (kb2 : bn ≤ 9223372036854775807) :
    Calls Try.prog 49 #[.agg #[.int .i64 an, .int .i64 ad], .agg #[.int .i64 bn, .int .i64 bd]] w fun e w' => e = .returned (RV (Rt.addS an ad bn bd)) ∧ Below w.heap.size w w' := by
  unfold Rt.addS
  by_cases h : Rt.Ok an ad ∧ Rt.Ok bn bd
  · rw [if_pos h]; exact add_ok an ad bn bd _ w rfl h.1 h.2
  · rw [if_neg h]; exact add_no an ad bn bd w ka1 ka2 kb1 kb2 h
end Go.Proofs.Ytpdknjbhnelidaa

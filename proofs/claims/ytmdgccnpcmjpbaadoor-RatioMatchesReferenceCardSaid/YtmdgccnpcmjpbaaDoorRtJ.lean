/- The walk of ratio.Parse: both numerals are read. -/
import Derived.Test.YtmdgccnpcmjpbaaDoorRtI
namespace Go.Proofs.YtmdgccnpcmjpbaaDoor
open Go.RowKit

set_option maxRecDepth 100000 in
set_option maxHeartbeats 1600000 in
theorem parse_true_inv (l above below : List UInt8) (w : World) (hl : l.length ≤ 4294967280) (hE : Env w) (hcut : Lib.cut l [47] = (above, below, true)) (n : Int) (ha : Lib.atoiAll above = .ok n) (d : Int) (hb : Lib.atoiAll (below) = .ok d) (ho : ¬ Rt.Ok n d) :
    Calls Tryd.prog 7 #[.string ⟨l.toArray⟩] w fun e w' => e = .returned (RV (0, 0, 5)) ∧ Below w.heap.size w w' := by
  have n1 := Lib.atoiAll_bounds ha
  have HO := Lib.hid ho
  clear ho
  have HL := Lib.hid hl
  have HE := Lib.hid hE
  have HC := Lib.hid hcut
  have HA := Lib.hid ha
  have HB := Lib.hid hb
  have hA : above.length ≤ 4294967280 := by have := Rt.cut_len hcut; omega
  have hB : (below).length ≤ 4294967280 := by have := Rt.cut_len hcut; first | omega | (simp; done)
  have HLA := Lib.hid hA
  have HLB := Lib.hid hB
  clear hl hE hcut ha hb hA hB
  go_enter Tryd.func7, Tryd.ntmps7
  go_wp2_with fail
  refine (cut_any l above below true _ HL.out (HE.out.below (by repeat (first | exact Below.refl _ _ | assumption | refine below_drewN ?_ _ | refine Below.setCell ?_ (by first | (simp; done) | (simp; omega)) _ | refine Below.alloc ?_ (by first | (simp; done) | (simp; omega) | omega) _ | refine Below.drew ?_ | refine Below.trans ?_ (Below.mono (by assumption) (by first | (simp; done) | (simp; omega) | omega))))) HC.out).mono ?_
  rintro e w1 ⟨rfl, hb1⟩
  obtain ⟨hc1, hf1⟩ := bcell hb1
  have hz1 := hb1.size
  simp at hz1
  have hl1 : w.heap.size < w1.heap.size := by omega
  have hE1 : Env w1 := HE.out.below (by repeat (first | exact Below.refl _ _ | assumption | refine below_drewN ?_ _ | refine Below.setCell ?_ (by first | (simp; done) | (simp; omega)) _ | refine Below.alloc ?_ (by first | (simp; done) | (simp; omega) | omega) _ | refine Below.drew ?_ | refine Below.trans ?_ (Below.mono (by assumption) (by first | (simp; done) | (simp; omega) | omega))))
  have HE1 := Lib.hid hE1
  clear hE1 HL HC HE
  go_wp2_with fail
  refine (atoi_ok _ n _ HLA.out HA.out).mono ?_
  rintro e w2 ⟨rfl, hb2⟩
  have hz2 := hb2.size
  have hl2 : w.heap.size < w2.heap.size := by omega
  have HE2 := Lib.hid (HE1.out.below hb2)
  go_wp2_with fail
  refine (atoi_ok _ d _ HLB.out HB.out).mono ?_
  rintro e w3 ⟨rfl, hb3⟩
  have hz3 := hb3.size
  have HE3 := Lib.hid (HE2.out.below hb3)
  have k1 : w3.cell? ⟨w.heap.size, 0, none⟩ = some (.int .i64 0) := cell_keep hb3 (cell_keep hb2 ((hc1 _ _ (by simp)).trans (by go_simp)))
  have k2 : w3.cell? ⟨w.heap.size, 1, none⟩ = some (.int .i64 0) := cell_keep hb3 (cell_keep hb2 ((hc1 _ _ (by simp)).trans (by go_simp)))
  have k3 : w3.frozen? ⟨w.heap.size, 0, none⟩ = false := (hb3.frozen (p := ⟨w.heap.size, 0, none⟩) hl2).trans ((hb2.frozen (p := ⟨w.heap.size, 0, none⟩) hl1).trans ((hf1 _ _ (by simp)).trans (by go_simp)))
  have k4 : w3.frozen? ⟨w.heap.size, 1, none⟩ = false := (hb3.frozen (p := ⟨w.heap.size, 1, none⟩) hl2).trans ((hb2.frozen (p := ⟨w.heap.size, 1, none⟩) hl1).trans ((hf1 _ _ (by simp)).trans (by go_simp)))
  have hl3 : w.heap.size < w3.heap.size := by omega
  clear hc1 hf1
  go_wp2_with fail
  refine (valid_false _ _ _ n1.1 n1.2 HO.out).mono ?_
  rintro e w4 ⟨rfl, hb4⟩
  have hz4 := hb4.size
  simp at hz4
  have j1 : w4.cell? ⟨w.heap.size, 0, none⟩ = some (.int .i64 0) := cell_keep hb4 (by go_simp)
  have j2 : w4.cell? ⟨w.heap.size, 1, none⟩ = some (.int .i64 0) := cell_keep hb4 (by go_simp)
  have j3 : w4.frozen? ⟨w.heap.size, 0, none⟩ = false := (hb4.frozen (p := ⟨w.heap.size, 0, none⟩) (by simp; omega)).trans (by go_simp)
  have j4 : w4.frozen? ⟨w.heap.size, 1, none⟩ = false := (hb4.frozen (p := ⟨w.heap.size, 1, none⟩) (by simp; omega)).trans (by go_simp)
  clear k1 k2 k3 k4
  go_wp2
  refine bodyPost_ret (v := RV (0, 0, 5)) (by simp [results, Tryd.results7, go_sem, RV, j1, j2]) rfl ⟨rfl, ?_⟩
  exact (by repeat (first | exact Below.refl _ _ | assumption | refine below_drewN ?_ _ | refine Below.setCell ?_ (by first | (simp; done) | (simp; omega)) _ | refine Below.alloc ?_ (by first | (simp; done) | (simp; omega) | omega) _ | refine Below.drew ?_ | refine Below.trans ?_ (Below.mono (by assumption) (by first | (simp; done) | (simp; omega) | omega))))
set_option maxRecDepth 100000 in
set_option maxHeartbeats 1600000 in
theorem parse_true_txt (l above below : List UInt8) (w : World) (hl : l.length ≤ 4294967280) (hE : Env w) (hcut : Lib.cut l [47] = (above, below, true)) (n : Int) (ha : Lib.atoiAll above = .ok n) (d : Int) (hb : Lib.atoiAll (below) = .ok d) (ho : Rt.Ok n d) (tx : List UInt8) (ht : Rt.textS n d = tx) (hne : tx ≠ l) :
    Calls Tryd.prog 7 #[.string ⟨l.toArray⟩] w fun e w' => e = .returned (RV (0, 0, 5)) ∧ Below w.heap.size w w' := by
  have HT := Lib.hid ht
  clear ht
  have hq : (tx == l) = false := by simpa using hne
  have HN := Lib.hid hne
  clear hne
  have n1 := Lib.atoiAll_bounds ha
  have HO := Lib.hid ho
  clear ho
  have HL := Lib.hid hl
  have HE := Lib.hid hE
  have HC := Lib.hid hcut
  have HA := Lib.hid ha
  have HB := Lib.hid hb
  have hA : above.length ≤ 4294967280 := by have := Rt.cut_len hcut; omega
  have hB : (below).length ≤ 4294967280 := by have := Rt.cut_len hcut; first | omega | (simp; done)
  have HLA := Lib.hid hA
  have HLB := Lib.hid hB
  clear hl hE hcut ha hb hA hB
  go_enter Tryd.func7, Tryd.ntmps7
  go_wp2_with fail
  refine (cut_any l above below true _ HL.out (HE.out.below (by repeat (first | exact Below.refl _ _ | assumption | refine below_drewN ?_ _ | refine Below.setCell ?_ (by first | (simp; done) | (simp; omega)) _ | refine Below.alloc ?_ (by first | (simp; done) | (simp; omega) | omega) _ | refine Below.drew ?_ | refine Below.trans ?_ (Below.mono (by assumption) (by first | (simp; done) | (simp; omega) | omega))))) HC.out).mono ?_
  rintro e w1 ⟨rfl, hb1⟩
  obtain ⟨hc1, hf1⟩ := bcell hb1
  have hz1 := hb1.size
  simp at hz1
  have hl1 : w.heap.size < w1.heap.size := by omega
  have hE1 : Env w1 := HE.out.below (by repeat (first | exact Below.refl _ _ | assumption | refine below_drewN ?_ _ | refine Below.setCell ?_ (by first | (simp; done) | (simp; omega)) _ | refine Below.alloc ?_ (by first | (simp; done) | (simp; omega) | omega) _ | refine Below.drew ?_ | refine Below.trans ?_ (Below.mono (by assumption) (by first | (simp; done) | (simp; omega) | omega))))
  have HE1 := Lib.hid hE1
  clear hE1 HL HC HE
  go_wp2_with fail
  refine (atoi_ok _ n _ HLA.out HA.out).mono ?_
  rintro e w2 ⟨rfl, hb2⟩
  have hz2 := hb2.size
  have hl2 : w.heap.size < w2.heap.size := by omega
  have HE2 := Lib.hid (HE1.out.below hb2)
  go_wp2_with fail
  refine (atoi_ok _ d _ HLB.out HB.out).mono ?_
  rintro e w3 ⟨rfl, hb3⟩
  have hz3 := hb3.size
  have HE3 := Lib.hid (HE2.out.below hb3)
  have k1 : w3.cell? ⟨w.heap.size, 0, none⟩ = some (.int .i64 0) := cell_keep hb3 (cell_keep hb2 ((hc1 _ _ (by simp)).trans (by go_simp)))
  have k2 : w3.cell? ⟨w.heap.size, 1, none⟩ = some (.int .i64 0) := cell_keep hb3 (cell_keep hb2 ((hc1 _ _ (by simp)).trans (by go_simp)))
  have k3 : w3.frozen? ⟨w.heap.size, 0, none⟩ = false := (hb3.frozen (p := ⟨w.heap.size, 0, none⟩) hl2).trans ((hb2.frozen (p := ⟨w.heap.size, 0, none⟩) hl1).trans ((hf1 _ _ (by simp)).trans (by go_simp)))
  have k4 : w3.frozen? ⟨w.heap.size, 1, none⟩ = false := (hb3.frozen (p := ⟨w.heap.size, 1, none⟩) hl2).trans ((hb2.frozen (p := ⟨w.heap.size, 1, none⟩) hl1).trans ((hf1 _ _ (by simp)).trans (by go_simp)))
  have hl3 : w.heap.size < w3.heap.size := by omega
  clear hc1 hf1
  go_wp2_with fail
  refine (valid_true _ _ _ HO.out).mono ?_
  rintro e w4 ⟨rfl, hb4⟩
  have hz4 := hb4.size
  simp at hz4
  have i1 : w4.cell? ⟨w3.heap.size, 0, none⟩ = some (.int .i64 n) := cell_keep hb4 (by go_simp)
  have i2 : w4.cell? ⟨w3.heap.size, 1, none⟩ = some (.int .i64 d) := cell_keep hb4 (by go_simp)
  have i3 : w4.cell? ⟨w.heap.size, 0, none⟩ = some (.int .i64 0) := cell_keep hb4 (by go_simp)
  have i4 : w4.cell? ⟨w.heap.size, 1, none⟩ = some (.int .i64 0) := cell_keep hb4 (by go_simp)
  have i5 : w4.frozen? ⟨w.heap.size, 0, none⟩ = false := (hb4.frozen (p := ⟨w.heap.size, 0, none⟩) (by simp; omega)).trans (by go_simp)
  have i6 : w4.frozen? ⟨w.heap.size, 1, none⟩ = false := (hb4.frozen (p := ⟨w.heap.size, 1, none⟩) (by simp; omega)).trans (by go_simp)
  have hl4 : w.heap.size < w4.heap.size := by omega
  have hl5 : w3.heap.size < w4.heap.size := by omega
  have HE4 := Lib.hid (HE3.out.below (w' := w4) (by repeat (first | exact Below.refl _ _ | assumption | refine below_drewN ?_ _ | refine Below.setCell ?_ (by first | (simp; done) | (simp; omega)) _ | refine Below.alloc ?_ (by first | (simp; done) | (simp; omega) | omega) _ | refine Below.drew ?_ | refine Below.trans ?_ (Below.mono (by assumption) (by first | (simp; done) | (simp; omega) | omega)))))
  clear k1 k2 k3 k4
  go_wp2_with fail
  refine (text_any n d _ n1.1 n1.2 HE4.out).mono ?_
  rintro e w5 ⟨rfl, hb5⟩
  rw [HT.out]
  have hz5 := hb5.size
  have j1 : w5.cell? ⟨w.heap.size, 0, none⟩ = some (.int .i64 0) := cell_keep hb5 i3
  have j2 : w5.cell? ⟨w.heap.size, 1, none⟩ = some (.int .i64 0) := cell_keep hb5 i4
  have j3 : w5.frozen? ⟨w.heap.size, 0, none⟩ = false := (hb5.frozen (p := ⟨w.heap.size, 0, none⟩) hl4).trans i5
  have j4 : w5.frozen? ⟨w.heap.size, 1, none⟩ = false := (hb5.frozen (p := ⟨w.heap.size, 1, none⟩) hl4).trans i6
  have m1 : w5.cell? ⟨w3.heap.size, 0, none⟩ = some (.int .i64 n) := cell_keep hb5 i1
  have m2 : w5.cell? ⟨w3.heap.size, 1, none⟩ = some (.int .i64 d) := cell_keep hb5 i2
  clear i1 i2 i3 i4 i5 i6
  go_wp2
  refine bodyPost_ret (v := RV (0, 0, 5)) (by simp [results, Tryd.results7, go_sem, RV, j1, j2]) rfl ⟨rfl, ?_⟩
  exact (by repeat (first | exact Below.refl _ _ | assumption | refine below_drewN ?_ _ | refine Below.setCell ?_ (by first | (simp; done) | (simp; omega)) _ | refine Below.alloc ?_ (by first | (simp; done) | (simp; omega) | omega) _ | refine Below.drew ?_ | refine Below.trans ?_ (Below.mono (by assumption) (by first | (simp; done) | (simp; omega) | omega))))
set_option maxRecDepth 100000 in
set_option maxHeartbeats 1600000 in
theorem parse_true_ok (l above below : List UInt8) (w : World) (hl : l.length ≤ 4294967280) (hE : Env w) (hcut : Lib.cut l [47] = (above, below, true)) (n : Int) (ha : Lib.atoiAll above = .ok n) (d : Int) (hb : Lib.atoiAll (below) = .ok d) (ho : Rt.Ok n d) (ht : Rt.textS n d = l) :
    Calls Tryd.prog 7 #[.string ⟨l.toArray⟩] w fun e w' => e = .returned (RV (n, d, 0)) ∧ Below w.heap.size w w' := by
  have HT := Lib.hid ht
  clear ht
  have n1 := Lib.atoiAll_bounds ha
  have HO := Lib.hid ho
  clear ho
  have HL := Lib.hid hl
  have HE := Lib.hid hE
  have HC := Lib.hid hcut
  have HA := Lib.hid ha
  have HB := Lib.hid hb
  have hA : above.length ≤ 4294967280 := by have := Rt.cut_len hcut; omega
  have hB : (below).length ≤ 4294967280 := by have := Rt.cut_len hcut; first | omega | (simp; done)
  have HLA := Lib.hid hA
  have HLB := Lib.hid hB
  clear hl hE hcut ha hb hA hB
  go_enter Tryd.func7, Tryd.ntmps7
  go_wp2_with fail
  refine (cut_any l above below true _ HL.out (HE.out.below (by repeat (first | exact Below.refl _ _ | assumption | refine below_drewN ?_ _ | refine Below.setCell ?_ (by first | (simp; done) | (simp; omega)) _ | refine Below.alloc ?_ (by first | (simp; done) | (simp; omega) | omega) _ | refine Below.drew ?_ | refine Below.trans ?_ (Below.mono (by assumption) (by first | (simp; done) | (simp; omega) | omega))))) HC.out).mono ?_
  rintro e w1 ⟨rfl, hb1⟩
  obtain ⟨hc1, hf1⟩ := bcell hb1
  have hz1 := hb1.size
  simp at hz1
  have hl1 : w.heap.size < w1.heap.size := by omega
  have hE1 : Env w1 := HE.out.below (by repeat (first | exact Below.refl _ _ | assumption | refine below_drewN ?_ _ | refine Below.setCell ?_ (by first | (simp; done) | (simp; omega)) _ | refine Below.alloc ?_ (by first | (simp; done) | (simp; omega) | omega) _ | refine Below.drew ?_ | refine Below.trans ?_ (Below.mono (by assumption) (by first | (simp; done) | (simp; omega) | omega))))
  have HE1 := Lib.hid hE1
  clear hE1 HL HC HE
  go_wp2_with fail
  refine (atoi_ok _ n _ HLA.out HA.out).mono ?_
  rintro e w2 ⟨rfl, hb2⟩
  have hz2 := hb2.size
  have hl2 : w.heap.size < w2.heap.size := by omega
  have HE2 := Lib.hid (HE1.out.below hb2)
  go_wp2_with fail
  refine (atoi_ok _ d _ HLB.out HB.out).mono ?_
  rintro e w3 ⟨rfl, hb3⟩
  have hz3 := hb3.size
  have HE3 := Lib.hid (HE2.out.below hb3)
  have k1 : w3.cell? ⟨w.heap.size, 0, none⟩ = some (.int .i64 0) := cell_keep hb3 (cell_keep hb2 ((hc1 _ _ (by simp)).trans (by go_simp)))
  have k2 : w3.cell? ⟨w.heap.size, 1, none⟩ = some (.int .i64 0) := cell_keep hb3 (cell_keep hb2 ((hc1 _ _ (by simp)).trans (by go_simp)))
  have k3 : w3.frozen? ⟨w.heap.size, 0, none⟩ = false := (hb3.frozen (p := ⟨w.heap.size, 0, none⟩) hl2).trans ((hb2.frozen (p := ⟨w.heap.size, 0, none⟩) hl1).trans ((hf1 _ _ (by simp)).trans (by go_simp)))
  have k4 : w3.frozen? ⟨w.heap.size, 1, none⟩ = false := (hb3.frozen (p := ⟨w.heap.size, 1, none⟩) hl2).trans ((hb2.frozen (p := ⟨w.heap.size, 1, none⟩) hl1).trans ((hf1 _ _ (by simp)).trans (by go_simp)))
  have hl3 : w.heap.size < w3.heap.size := by omega
  clear hc1 hf1
  go_wp2_with fail
  refine (valid_true _ _ _ HO.out).mono ?_
  rintro e w4 ⟨rfl, hb4⟩
  have hz4 := hb4.size
  simp at hz4
  have i1 : w4.cell? ⟨w3.heap.size, 0, none⟩ = some (.int .i64 n) := cell_keep hb4 (by go_simp)
  have i2 : w4.cell? ⟨w3.heap.size, 1, none⟩ = some (.int .i64 d) := cell_keep hb4 (by go_simp)
  have i3 : w4.cell? ⟨w.heap.size, 0, none⟩ = some (.int .i64 0) := cell_keep hb4 (by go_simp)
  have i4 : w4.cell? ⟨w.heap.size, 1, none⟩ = some (.int .i64 0) := cell_keep hb4 (by go_simp)
  have i5 : w4.frozen? ⟨w.heap.size, 0, none⟩ = false := (hb4.frozen (p := ⟨w.heap.size, 0, none⟩) (by simp; omega)).trans (by go_simp)
  have i6 : w4.frozen? ⟨w.heap.size, 1, none⟩ = false := (hb4.frozen (p := ⟨w.heap.size, 1, none⟩) (by simp; omega)).trans (by go_simp)
  have hl4 : w.heap.size < w4.heap.size := by omega
  have hl5 : w3.heap.size < w4.heap.size := by omega
  have HE4 := Lib.hid (HE3.out.below (w' := w4) (by repeat (first | exact Below.refl _ _ | assumption | refine below_drewN ?_ _ | refine Below.setCell ?_ (by first | (simp; done) | (simp; omega)) _ | refine Below.alloc ?_ (by first | (simp; done) | (simp; omega) | omega) _ | refine Below.drew ?_ | refine Below.trans ?_ (Below.mono (by assumption) (by first | (simp; done) | (simp; omega) | omega)))))
  clear k1 k2 k3 k4
  go_wp2_with fail
  refine (text_any n d _ n1.1 n1.2 HE4.out).mono ?_
  rintro e w5 ⟨rfl, hb5⟩
  rw [HT.out]
  have hz5 := hb5.size
  have j1 : w5.cell? ⟨w.heap.size, 0, none⟩ = some (.int .i64 0) := cell_keep hb5 i3
  have j2 : w5.cell? ⟨w.heap.size, 1, none⟩ = some (.int .i64 0) := cell_keep hb5 i4
  have j3 : w5.frozen? ⟨w.heap.size, 0, none⟩ = false := (hb5.frozen (p := ⟨w.heap.size, 0, none⟩) hl4).trans i5
  have j4 : w5.frozen? ⟨w.heap.size, 1, none⟩ = false := (hb5.frozen (p := ⟨w.heap.size, 1, none⟩) hl4).trans i6
  have m1 : w5.cell? ⟨w3.heap.size, 0, none⟩ = some (.int .i64 n) := cell_keep hb5 i1
  have m2 : w5.cell? ⟨w3.heap.size, 1, none⟩ = some (.int .i64 d) := cell_keep hb5 i2
  clear i1 i2 i3 i4 i5 i6
  go_wp2
  refine bodyPost_ret (v := RV (n, d, 0)) (by simp [results, Tryd.results7, go_sem, RV, j1, j2]) rfl ⟨rfl, ?_⟩
  exact (by repeat (first | exact Below.refl _ _ | assumption | refine below_drewN ?_ _ | refine Below.setCell ?_ (by first | (simp; done) | (simp; omega)) _ | refine Below.alloc ?_ (by first | (simp; done) | (simp; omega) | omega) _ | refine Below.drew ?_ | refine Below.trans ?_ (Below.mono (by assumption) (by first | (simp; done) | (simp; omega) | omega))))
set_option maxRecDepth 100000 in
set_option maxHeartbeats 1600000 in
theorem parse_false_inv (l above below : List UInt8) (w : World) (hl : l.length ≤ 4294967280) (hE : Env w) (hcut : Lib.cut l [47] = (above, below, false)) (n : Int) (ha : Lib.atoiAll above = .ok n) (d : Int) (hb : Lib.atoiAll ([49]) = .ok d) (ho : ¬ Rt.Ok n d) :
    Calls Tryd.prog 7 #[.string ⟨l.toArray⟩] w fun e w' => e = .returned (RV (0, 0, 5)) ∧ Below w.heap.size w w' := by
  have n1 := Lib.atoiAll_bounds ha
  have HO := Lib.hid ho
  clear ho
  have HL := Lib.hid hl
  have HE := Lib.hid hE
  have HC := Lib.hid hcut
  have HA := Lib.hid ha
  have HB := Lib.hid hb
  have hA : above.length ≤ 4294967280 := by have := Rt.cut_len hcut; omega
  have hB : ([49]).length ≤ 4294967280 := by have := Rt.cut_len hcut; first | omega | (simp; done)
  have HLA := Lib.hid hA
  have HLB := Lib.hid hB
  clear hl hE hcut ha hb hA hB
  go_enter Tryd.func7, Tryd.ntmps7
  go_wp2_with fail
  refine (cut_any l above below false _ HL.out (HE.out.below (by repeat (first | exact Below.refl _ _ | assumption | refine below_drewN ?_ _ | refine Below.setCell ?_ (by first | (simp; done) | (simp; omega)) _ | refine Below.alloc ?_ (by first | (simp; done) | (simp; omega) | omega) _ | refine Below.drew ?_ | refine Below.trans ?_ (Below.mono (by assumption) (by first | (simp; done) | (simp; omega) | omega))))) HC.out).mono ?_
  rintro e w1 ⟨rfl, hb1⟩
  obtain ⟨hc1, hf1⟩ := bcell hb1
  have hz1 := hb1.size
  simp at hz1
  have hl1 : w.heap.size < w1.heap.size := by omega
  have hE1 : Env w1 := HE.out.below (by repeat (first | exact Below.refl _ _ | assumption | refine below_drewN ?_ _ | refine Below.setCell ?_ (by first | (simp; done) | (simp; omega)) _ | refine Below.alloc ?_ (by first | (simp; done) | (simp; omega) | omega) _ | refine Below.drew ?_ | refine Below.trans ?_ (Below.mono (by assumption) (by first | (simp; done) | (simp; omega) | omega))))
  have HE1 := Lib.hid hE1
  clear hE1 HL HC HE
  go_wp2_with fail
  refine (atoi_ok _ n _ HLA.out HA.out).mono ?_
  rintro e w2 ⟨rfl, hb2⟩
  have hz2 := hb2.size
  have hl2 : w.heap.size < w2.heap.size := by omega
  have HE2 := Lib.hid (HE1.out.below hb2)
  go_wp2_with fail
  refine (atoi_ok _ d _ HLB.out HB.out).mono ?_
  rintro e w3 ⟨rfl, hb3⟩
  have hz3 := hb3.size
  have HE3 := Lib.hid (HE2.out.below hb3)
  have k1 : w3.cell? ⟨w.heap.size, 0, none⟩ = some (.int .i64 0) := cell_keep hb3 (cell_keep hb2 ((hc1 _ _ (by simp)).trans (by go_simp)))
  have k2 : w3.cell? ⟨w.heap.size, 1, none⟩ = some (.int .i64 0) := cell_keep hb3 (cell_keep hb2 ((hc1 _ _ (by simp)).trans (by go_simp)))
  have k3 : w3.frozen? ⟨w.heap.size, 0, none⟩ = false := (hb3.frozen (p := ⟨w.heap.size, 0, none⟩) hl2).trans ((hb2.frozen (p := ⟨w.heap.size, 0, none⟩) hl1).trans ((hf1 _ _ (by simp)).trans (by go_simp)))
  have k4 : w3.frozen? ⟨w.heap.size, 1, none⟩ = false := (hb3.frozen (p := ⟨w.heap.size, 1, none⟩) hl2).trans ((hb2.frozen (p := ⟨w.heap.size, 1, none⟩) hl1).trans ((hf1 _ _ (by simp)).trans (by go_simp)))
  have hl3 : w.heap.size < w3.heap.size := by omega
  clear hc1 hf1
  go_wp2_with fail
  refine (valid_false _ _ _ n1.1 n1.2 HO.out).mono ?_
  rintro e w4 ⟨rfl, hb4⟩
  have hz4 := hb4.size
  simp at hz4
  have j1 : w4.cell? ⟨w.heap.size, 0, none⟩ = some (.int .i64 0) := cell_keep hb4 (by go_simp)
  have j2 : w4.cell? ⟨w.heap.size, 1, none⟩ = some (.int .i64 0) := cell_keep hb4 (by go_simp)
  have j3 : w4.frozen? ⟨w.heap.size, 0, none⟩ = false := (hb4.frozen (p := ⟨w.heap.size, 0, none⟩) (by simp; omega)).trans (by go_simp)
  have j4 : w4.frozen? ⟨w.heap.size, 1, none⟩ = false := (hb4.frozen (p := ⟨w.heap.size, 1, none⟩) (by simp; omega)).trans (by go_simp)
  clear k1 k2 k3 k4
  go_wp2
  refine bodyPost_ret (v := RV (0, 0, 5)) (by simp [results, Tryd.results7, go_sem, RV, j1, j2]) rfl ⟨rfl, ?_⟩
  exact (by repeat (first | exact Below.refl _ _ | assumption | refine below_drewN ?_ _ | refine Below.setCell ?_ (by first | (simp; done) | (simp; omega)) _ | refine Below.alloc ?_ (by first | (simp; done) | (simp; omega) | omega) _ | refine Below.drew ?_ | refine Below.trans ?_ (Below.mono (by assumption) (by first | (simp; done) | (simp; omega) | omega))))
set_option maxRecDepth 100000 in
set_option maxHeartbeats 1600000 in
theorem parse_false_txt (l above below : List UInt8) (w : World) (hl : l.length ≤ 4294967280) (hE : Env w) (hcut : Lib.cut l [47] = (above, below, false)) (n : Int) (ha : Lib.atoiAll above = .ok n) (d : Int) (hb : Lib.atoiAll ([49]) = .ok d) (ho : Rt.Ok n d) (tx : List UInt8) (ht : Rt.textS n d = tx) (hne : tx ≠ l) :
    Calls Tryd.prog 7 #[.string ⟨l.toArray⟩] w fun e w' => e = .returned (RV (0, 0, 5)) ∧ Below w.heap.size w w' := by
  have HT := Lib.hid ht
  clear ht
  have hq : (tx == l) = false := by simpa using hne
  have HN := Lib.hid hne
  clear hne
  have n1 := Lib.atoiAll_bounds ha
  have HO := Lib.hid ho
  clear ho
  have HL := Lib.hid hl
  have HE := Lib.hid hE
  have HC := Lib.hid hcut
  have HA := Lib.hid ha
  have HB := Lib.hid hb
  have hA : above.length ≤ 4294967280 := by have := Rt.cut_len hcut; omega
  have hB : ([49]).length ≤ 4294967280 := by have := Rt.cut_len hcut; first | omega | (simp; done)
  have HLA := Lib.hid hA
  have HLB := Lib.hid hB
  clear hl hE hcut ha hb hA hB
  go_enter Tryd.func7, Tryd.ntmps7
  go_wp2_with fail
  refine (cut_any l above below false _ HL.out (HE.out.below (by repeat (first | exact Below.refl _ _ | assumption | refine below_drewN ?_ _ | refine Below.setCell ?_ (by first | (simp; done) | (simp; omega)) _ | refine Below.alloc ?_ (by first | (simp; done) | (simp; omega) | omega) _ | refine Below.drew ?_ | refine Below.trans ?_ (Below.mono (by assumption) (by first | (simp; done) | (simp; omega) | omega))))) HC.out).mono ?_
  rintro e w1 ⟨rfl, hb1⟩
  obtain ⟨hc1, hf1⟩ := bcell hb1
  have hz1 := hb1.size
  simp at hz1
  have hl1 : w.heap.size < w1.heap.size := by omega
  have hE1 : Env w1 := HE.out.below (by repeat (first | exact Below.refl _ _ | assumption | refine below_drewN ?_ _ | refine Below.setCell ?_ (by first | (simp; done) | (simp; omega)) _ | refine Below.alloc ?_ (by first | (simp; done) | (simp; omega) | omega) _ | refine Below.drew ?_ | refine Below.trans ?_ (Below.mono (by assumption) (by first | (simp; done) | (simp; omega) | omega))))
  have HE1 := Lib.hid hE1
  clear hE1 HL HC HE
  go_wp2_with fail
  refine (atoi_ok _ n _ HLA.out HA.out).mono ?_
  rintro e w2 ⟨rfl, hb2⟩
  have hz2 := hb2.size
  have hl2 : w.heap.size < w2.heap.size := by omega
  have HE2 := Lib.hid (HE1.out.below hb2)
  go_wp2_with fail
  refine (atoi_ok _ d _ HLB.out HB.out).mono ?_
  rintro e w3 ⟨rfl, hb3⟩
  have hz3 := hb3.size
  have HE3 := Lib.hid (HE2.out.below hb3)
  have k1 : w3.cell? ⟨w.heap.size, 0, none⟩ = some (.int .i64 0) := cell_keep hb3 (cell_keep hb2 ((hc1 _ _ (by simp)).trans (by go_simp)))
  have k2 : w3.cell? ⟨w.heap.size, 1, none⟩ = some (.int .i64 0) := cell_keep hb3 (cell_keep hb2 ((hc1 _ _ (by simp)).trans (by go_simp)))
  have k3 : w3.frozen? ⟨w.heap.size, 0, none⟩ = false := (hb3.frozen (p := ⟨w.heap.size, 0, none⟩) hl2).trans ((hb2.frozen (p := ⟨w.heap.size, 0, none⟩) hl1).trans ((hf1 _ _ (by simp)).trans (by go_simp)))
  have k4 : w3.frozen? ⟨w.heap.size, 1, none⟩ = false := (hb3.frozen (p := ⟨w.heap.size, 1, none⟩) hl2).trans ((hb2.frozen (p := ⟨w.heap.size, 1, none⟩) hl1).trans ((hf1 _ _ (by simp)).trans (by go_simp)))
  have hl3 : w.heap.size < w3.heap.size := by omega
  clear hc1 hf1
  go_wp2_with fail
  refine (valid_true _ _ _ HO.out).mono ?_
  rintro e w4 ⟨rfl, hb4⟩
  have hz4 := hb4.size
  simp at hz4
  have i1 : w4.cell? ⟨w3.heap.size, 0, none⟩ = some (.int .i64 n) := cell_keep hb4 (by go_simp)
  have i2 : w4.cell? ⟨w3.heap.size, 1, none⟩ = some (.int .i64 d) := cell_keep hb4 (by go_simp)
  have i3 : w4.cell? ⟨w.heap.size, 0, none⟩ = some (.int .i64 0) := cell_keep hb4 (by go_simp)
  have i4 : w4.cell? ⟨w.heap.size, 1, none⟩ = some (.int .i64 0) := cell_keep hb4 (by go_simp)
  have i5 : w4.frozen? ⟨w.heap.size, 0, none⟩ = false := (hb4.frozen (p := ⟨w.heap.size, 0, none⟩) (by simp; omega)).trans (by go_simp)
  have i6 : w4.frozen? ⟨w.heap.size, 1, none⟩ = false := (hb4.frozen (p := ⟨w.heap.size, 1, none⟩) (by simp; omega)).trans (by go_simp)
  have hl4 : w.heap.size < w4.heap.size := by omega
  have hl5 : w3.heap.size < w4.heap.size := by omega
  have HE4 := Lib.hid (HE3.out.below (w' := w4) (by repeat (first | exact Below.refl _ _ | assumption | refine below_drewN ?_ _ | refine Below.setCell ?_ (by first | (simp; done) | (simp; omega)) _ | refine Below.alloc ?_ (by first | (simp; done) | (simp; omega) | omega) _ | refine Below.drew ?_ | refine Below.trans ?_ (Below.mono (by assumption) (by first | (simp; done) | (simp; omega) | omega)))))
  clear k1 k2 k3 k4
  go_wp2_with fail
  refine (text_any n d _ n1.1 n1.2 HE4.out).mono ?_
  rintro e w5 ⟨rfl, hb5⟩
  rw [HT.out]
  have hz5 := hb5.size
  have j1 : w5.cell? ⟨w.heap.size, 0, none⟩ = some (.int .i64 0) := cell_keep hb5 i3
  have j2 : w5.cell? ⟨w.heap.size, 1, none⟩ = some (.int .i64 0) := cell_keep hb5 i4
  have j3 : w5.frozen? ⟨w.heap.size, 0, none⟩ = false := (hb5.frozen (p := ⟨w.heap.size, 0, none⟩) hl4).trans i5
  have j4 : w5.frozen? ⟨w.heap.size, 1, none⟩ = false := (hb5.frozen (p := ⟨w.heap.size, 1, none⟩) hl4).trans i6
  have m1 : w5.cell? ⟨w3.heap.size, 0, none⟩ = some (.int .i64 n) := cell_keep hb5 i1
  have m2 : w5.cell? ⟨w3.heap.size, 1, none⟩ = some (.int .i64 d) := cell_keep hb5 i2
  clear i1 i2 i3 i4 i5 i6
  go_wp2
  refine bodyPost_ret (v := RV (0, 0, 5)) (by simp [results, Tryd.results7, go_sem, RV, j1, j2]) rfl ⟨rfl, ?_⟩
  exact (by repeat (first | exact Below.refl _ _ | assumption | refine below_drewN ?_ _ | refine Below.setCell ?_ (by first | (simp; done) | (simp; omega)) _ | refine Below.alloc ?_ (by first | (simp; done) | (simp; omega) | omega) _ | refine Below.drew ?_ | refine Below.trans ?_ (Below.mono (by assumption) (by first | (simp; done) | (simp; omega) | omega))))
set_option maxRecDepth 100000 in
set_option maxHeartbeats 1600000 in
theorem parse_false_ok (l above below : List UInt8) (w : World) (hl : l.length ≤ 4294967280) (hE : Env w) (hcut : Lib.cut l [47] = (above, below, false)) (n : Int) (ha : Lib.atoiAll above = .ok n) (d : Int) (hb : Lib.atoiAll ([49]) = .ok d) (ho : Rt.Ok n d) (ht : Rt.textS n d = l) :
    Calls Tryd.prog 7 #[.string ⟨l.toArray⟩] w fun e w' => e = .returned (RV (n, d, 0)) ∧ Below w.heap.size w w' := by
  have HT := Lib.hid ht
  clear ht
  have n1 := Lib.atoiAll_bounds ha
  have HO := Lib.hid ho
  clear ho
  have HL := Lib.hid hl
  have HE := Lib.hid hE
  have HC := Lib.hid hcut
  have HA := Lib.hid ha
  have HB := Lib.hid hb
  have hA : above.length ≤ 4294967280 := by have := Rt.cut_len hcut; omega
  have hB : ([49]).length ≤ 4294967280 := by have := Rt.cut_len hcut; first | omega | (simp; done)
  have HLA := Lib.hid hA
  have HLB := Lib.hid hB
  clear hl hE hcut ha hb hA hB
  go_enter Tryd.func7, Tryd.ntmps7
  go_wp2_with fail
  refine (cut_any l above below false _ HL.out (HE.out.below (by repeat (first | exact Below.refl _ _ | assumption | refine below_drewN ?_ _ | refine Below.setCell ?_ (by first | (simp; done) | (simp; omega)) _ | refine Below.alloc ?_ (by first | (simp; done) | (simp; omega) | omega) _ | refine Below.drew ?_ | refine Below.trans ?_ (Below.mono (by assumption) (by first | (simp; done) | (simp; omega) | omega))))) HC.out).mono ?_
  rintro e w1 ⟨rfl, hb1⟩
  obtain ⟨hc1, hf1⟩ := bcell hb1
  have hz1 := hb1.size
  simp at hz1
  have hl1 : w.heap.size < w1.heap.size := by omega
  have hE1 : Env w1 := HE.out.below (by repeat (first | exact Below.refl _ _ | assumption | refine below_drewN ?_ _ | refine Below.setCell ?_ (by first | (simp; done) | (simp; omega)) _ | refine Below.alloc ?_ (by first | (simp; done) | (simp; omega) | omega) _ | refine Below.drew ?_ | refine Below.trans ?_ (Below.mono (by assumption) (by first | (simp; done) | (simp; omega) | omega))))
  have HE1 := Lib.hid hE1
  clear hE1 HL HC HE
  go_wp2_with fail
  refine (atoi_ok _ n _ HLA.out HA.out).mono ?_
  rintro e w2 ⟨rfl, hb2⟩
  have hz2 := hb2.size
  have hl2 : w.heap.size < w2.heap.size := by omega
  have HE2 := Lib.hid (HE1.out.below hb2)
  go_wp2_with fail
  refine (atoi_ok _ d _ HLB.out HB.out).mono ?_
  rintro e w3 ⟨rfl, hb3⟩
  have hz3 := hb3.size
  have HE3 := Lib.hid (HE2.out.below hb3)
  have k1 : w3.cell? ⟨w.heap.size, 0, none⟩ = some (.int .i64 0) := cell_keep hb3 (cell_keep hb2 ((hc1 _ _ (by simp)).trans (by go_simp)))
  have k2 : w3.cell? ⟨w.heap.size, 1, none⟩ = some (.int .i64 0) := cell_keep hb3 (cell_keep hb2 ((hc1 _ _ (by simp)).trans (by go_simp)))
  have k3 : w3.frozen? ⟨w.heap.size, 0, none⟩ = false := (hb3.frozen (p := ⟨w.heap.size, 0, none⟩) hl2).trans ((hb2.frozen (p := ⟨w.heap.size, 0, none⟩) hl1).trans ((hf1 _ _ (by simp)).trans (by go_simp)))
  have k4 : w3.frozen? ⟨w.heap.size, 1, none⟩ = false := (hb3.frozen (p := ⟨w.heap.size, 1, none⟩) hl2).trans ((hb2.frozen (p := ⟨w.heap.size, 1, none⟩) hl1).trans ((hf1 _ _ (by simp)).trans (by go_simp)))
  have hl3 : w.heap.size < w3.heap.size := by omega
  clear hc1 hf1
  go_wp2_with fail
  refine (valid_true _ _ _ HO.out).mono ?_
  rintro e w4 ⟨rfl, hb4⟩
  have hz4 := hb4.size
  simp at hz4
  have i1 : w4.cell? ⟨w3.heap.size, 0, none⟩ = some (.int .i64 n) := cell_keep hb4 (by go_simp)
  have i2 : w4.cell? ⟨w3.heap.size, 1, none⟩ = some (.int .i64 d) := cell_keep hb4 (by go_simp)
  have i3 : w4.cell? ⟨w.heap.size, 0, none⟩ = some (.int .i64 0) := cell_keep hb4 (by go_simp)
  have i4 : w4.cell? ⟨w.heap.size, 1, none⟩ = some (.int .i64 0) := cell_keep hb4 (by go_simp)
  have i5 : w4.frozen? ⟨w.heap.size, 0, none⟩ = false := (hb4.frozen (p := ⟨w.heap.size, 0, none⟩) (by simp; omega)).trans (by go_simp)
  have i6 : w4.frozen? ⟨w.heap.size, 1, none⟩ = false := (hb4.frozen (p := ⟨w.heap.size, 1, none⟩) (by simp; omega)).trans (by go_simp)
  have hl4 : w.heap.size < w4.heap.size := by omega
  have hl5 : w3.heap.size < w4.heap.size := by omega
  have HE4 := Lib.hid (HE3.out.below (w' := w4) (by repeat (first | exact Below.refl _ _ | assumption | refine below_drewN ?_ _ | refine Below.setCell ?_ (by first | (simp; done) | (simp; omega)) _ | refine Below.alloc ?_ (by first | (simp; done) | (simp; omega) | omega) _ | refine Below.drew ?_ | refine Below.trans ?_ (Below.mono (by assumption) (by first | (simp; done) | (simp; omega) | omega)))))
  clear k1 k2 k3 k4
  go_wp2_with fail
  refine (text_any n d _ n1.1 n1.2 HE4.out).mono ?_
  rintro e w5 ⟨rfl, hb5⟩
  rw [HT.out]
  have hz5 := hb5.size
  have j1 : w5.cell? ⟨w.heap.size, 0, none⟩ = some (.int .i64 0) := cell_keep hb5 i3
  have j2 : w5.cell? ⟨w.heap.size, 1, none⟩ = some (.int .i64 0) := cell_keep hb5 i4
  have j3 : w5.frozen? ⟨w.heap.size, 0, none⟩ = false := (hb5.frozen (p := ⟨w.heap.size, 0, none⟩) hl4).trans i5
  have j4 : w5.frozen? ⟨w.heap.size, 1, none⟩ = false := (hb5.frozen (p := ⟨w.heap.size, 1, none⟩) hl4).trans i6
  have m1 : w5.cell? ⟨w3.heap.size, 0, none⟩ = some (.int .i64 n) := cell_keep hb5 i1
  have m2 : w5.cell? ⟨w3.heap.size, 1, none⟩ = some (.int .i64 d) := cell_keep hb5 i2
  clear i1 i2 i3 i4 i5 i6
  go_wp2
  refine bodyPost_ret (v := RV (n, d, 0)) (by simp [results, Tryd.results7, go_sem, RV, j1, j2]) rfl ⟨rfl, ?_⟩
  exact (by repeat (first | exact Below.refl _ _ | assumption | refine below_drewN ?_ _ | refine Below.setCell ?_ (by first | (simp; done) | (simp; omega)) _ | refine Below.alloc ?_ (by first | (simp; done) | (simp; omega) | omega) _ | refine Below.drew ?_ | refine Below.trans ?_ (Below.mono (by assumption) (by first | (simp; done) | (simp; omega) | omega))))
theorem parse_any (l : List UInt8) (w : World) (hl : l.length ≤ 4294967280) (hE : Env w) :
    Calls Tryd.prog 7 #[.string ⟨l.toArray⟩] w fun e w' => e = .returned (RV (Rt.parseS l)) ∧ Below w.heap.size w w' := by
  obtain ⟨a, b, f, hc⟩ : ∃ a b f, Lib.cut l [47] = (a, b, f) := ⟨_, _, _, rfl⟩
  cases f
  · have hS : Rt.parseS l = Rt.ratP l (Lib.atoiAll a) (Lib.atoiAll [49]) := by unfold Rt.parseS; rw [hc]; rfl
    rw [hS]
    rcases hA : Lib.atoiAll a with n | _ | _
    · rcases hB : Lib.atoiAll [49] with d | _ | _
      · rw [Rt.ratP_oo]
        by_cases ho : Rt.Ok n d
        · by_cases ht : Rt.textS n d = l
          · rw [if_pos ⟨ho, ht⟩]; exact parse_false_ok l a b w hl hE hc n hA d hB ho ht
          · rw [if_neg (fun h => ht h.2)]; exact parse_false_txt l a b w hl hE hc n hA d hB ho _ rfl ht
        · rw [if_neg (fun h => ho h.1)]; exact parse_false_inv l a b w hl hE hc n hA d hB ho
      · exact parse_false_ob l a b w hl hE hc n hA (by rw [hB]; intro v h; cases h)
      · exact parse_false_ob l a b w hl hE hc n hA (by rw [hB]; intro v h; cases h)
    · rcases hB : Lib.atoiAll [49] with d | _ | _
      · exact parse_false_bo l a b w hl hE hc (by rw [hA]; intro v h; cases h) d hB
      · exact parse_false_bb l a b w hl hE hc (by rw [hA]; intro v h; cases h) (by rw [hB]; intro v h; cases h)
      · exact parse_false_bb l a b w hl hE hc (by rw [hA]; intro v h; cases h) (by rw [hB]; intro v h; cases h)
    · rcases hB : Lib.atoiAll [49] with d | _ | _
      · exact parse_false_bo l a b w hl hE hc (by rw [hA]; intro v h; cases h) d hB
      · exact parse_false_bb l a b w hl hE hc (by rw [hA]; intro v h; cases h) (by rw [hB]; intro v h; cases h)
      · exact parse_false_bb l a b w hl hE hc (by rw [hA]; intro v h; cases h) (by rw [hB]; intro v h; cases h)
  · have hS : Rt.parseS l = Rt.ratP l (Lib.atoiAll a) (Lib.atoiAll b) := by unfold Rt.parseS; rw [hc]; rfl
    rw [hS]
    rcases hA : Lib.atoiAll a with n | _ | _
    · rcases hB : Lib.atoiAll b with d | _ | _
      · rw [Rt.ratP_oo]
        by_cases ho : Rt.Ok n d
        · by_cases ht : Rt.textS n d = l
          · rw [if_pos ⟨ho, ht⟩]; exact parse_true_ok l a b w hl hE hc n hA d hB ho ht
          · rw [if_neg (fun h => ht h.2)]; exact parse_true_txt l a b w hl hE hc n hA d hB ho _ rfl ht
        · rw [if_neg (fun h => ho h.1)]; exact parse_true_inv l a b w hl hE hc n hA d hB ho
      · exact parse_true_ob l a b w hl hE hc n hA (by rw [hB]; intro v h; cases h)
      · exact parse_true_ob l a b w hl hE hc n hA (by rw [hB]; intro v h; cases h)
    · rcases hB : Lib.atoiAll b with d | _ | _
      · exact parse_true_bo l a b w hl hE hc (by rw [hA]; intro v h; cases h) d hB
      · exact parse_true_bb l a b w hl hE hc (by rw [hA]; intro v h; cases h) (by rw [hB]; intro v h; cases h)
      · exact parse_true_bb l a b w hl hE hc (by rw [hA]; intro v h; cases h) (by rw [hB]; intro v h; cases h)
    · rcases hB : Lib.atoiAll b with d | _ | _
      · exact parse_true_bo l a b w hl hE hc (by rw [hA]; intro v h; cases h) d hB
      · exact parse_true_bb l a b w hl hE hc (by rw [hA]; intro v h; cases h) (by rw [hB]; intro v h; cases h)
      · exact parse_true_bb l a b w hl hE hc (by rw [hA]; intro v h; cases h) (by rw [hB]; intro v h; cases h)
end Go.Proofs.YtmdgccnpcmjpbaaDoor

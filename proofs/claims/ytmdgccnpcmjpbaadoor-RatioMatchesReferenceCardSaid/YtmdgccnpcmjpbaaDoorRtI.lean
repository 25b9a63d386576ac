/- The walk of ratio.Parse. -/
import Derived.Test.YtmdgccnpcmjpbaaDoorRtF
import Derived.Test.YtmdgccnpcmjpbaaDoorRtMath3
import Derived.Lib.AtoiErrMem
namespace Go.Proofs.YtmdgccnpcmjpbaaDoor
open Go.RowKit

theorem atoi_ok (l : List UInt8) (v : Int) (w : World) (hl : l.length ≤ 4294967280) (h : Lib.atoiAll l = .ok v) :
    Calls Tryd.prog 33 #[.string ⟨l.toArray⟩] w fun e w' => e = .returned (.tuple #[.int .i64 v, .nilIface]) ∧ Below w.heap.size w w' := by
  have hs : ((⟨l.toArray⟩ : ByteArray)).size = l.length := by simp [ByteArray.size]
  refine (Tryd.strconv_Atoi_ok ⟨l.toArray⟩ (by omega) v (by simpa using h) w).mono ?_
  rintro e w' ⟨he, rfl | ⟨t, rfl⟩⟩
  · exact ⟨he, Below.refl _ _⟩
  · exact ⟨he, Lib.bytesWorld_below _ _ _⟩
theorem atoi_bad (l : List UInt8) (w : World) (hl : l.length ≤ 4294967280) (hE : Env w) (h : ∀ v, Lib.atoiAll l ≠ .ok v) :
    Calls Tryd.prog 33 #[.string ⟨l.toArray⟩] w fun e w' => ∃ (z : Int) (N : Nat), e = .returned (.tuple #[.int .i64 z, .iface 69 (.pointer (some ⟨N, 0, none⟩))]) ∧ Below w.heap.size w w' := by
  have hs : ((⟨l.toArray⟩ : ByteArray)).size = l.length := by simp [ByteArray.size]
  obtain ⟨_, _, ⟨tp, p, h3⟩, tq, q, h4⟩ := hE
  rcases hx : Lib.atoiAll l with v | _ | _
  · exact absurd hx (h v)
  · refine (Any.strconv_Atoi_syntax_var Tryd.laysC172 ⟨l.toArray⟩ (by omega) (by simpa using hx) tp p w h3).mono ?_
    rintro e w' ⟨N, he, _, _, hb⟩
    exact ⟨_, N, he, hb⟩
  · refine (Tryd.strconv_Atoi_range_var ⟨l.toArray⟩ (by omega) (by simpa using hx) tq q w h4).mono ?_
    rintro e w' ⟨N, he, _, _, hb⟩
    exact ⟨_, N, he, hb⟩
theorem cut_any (l above below : List UInt8) (fr : Bool) (w : World) (hl : l.length ≤ 4294967280) (hE : Env w) (h : Lib.cut l [47] = (above, below, fr)) :
    Calls Tryd.prog 32 #[.string ⟨l.toArray⟩, .string ⟨#[47]⟩] w fun e w' => e = .returned (.tuple #[.string ⟨above.toArray⟩, .string ⟨below.toArray⟩, .bool fr]) ∧ Below w.heap.size w w' := by
  have hs : ((⟨l.toArray⟩ : ByteArray)).size = l.length := by simp [ByteArray.size]
  refine (Tryd.strings_Cut_shaped ⟨l.toArray⟩ ⟨#[47]⟩ w hE.1 (by omega)).mono ?_
  rintro e w' ⟨he, n, rfl⟩
  have e1 : Lib.cut (⟨l.toArray⟩ : ByteArray).data.toList (⟨#[47]⟩ : ByteArray).data.toList = (above, below, fr) := by simpa using h
  rw [e1] at he
  exact ⟨he, below_drewN (Below.refl _ _) _⟩
set_option maxRecDepth 100000 in
set_option maxHeartbeats 1600000 in
theorem parse_true_ob (l above below : List UInt8) (w : World) (hl : l.length ≤ 4294967280) (hE : Env w) (hcut : Lib.cut l [47] = (above, below, true)) (n : Int) (ha : Lib.atoiAll above = .ok n) (hb : ∀ v, Lib.atoiAll (below) ≠ .ok v) :
    Calls Tryd.prog 7 #[.string ⟨l.toArray⟩] w fun e w' => e = .returned (RV (0, 0, 5)) ∧ Below w.heap.size w w' := by
  have HL := Lib.hid hl
  have HE := Lib.hid hE
  have HC := Lib.hid hcut
  have HA := Lib.hid ha
  have HB := Lib.hid hb
  have hA : above.length ≤ 4294967280 := by have := Rt.cut_len hcut; omega
  have hB : (below).length ≤ 4294967280 := by have := Rt.cut_len hcut; first | omega | (simp; done)
  have HLA := Lib.hid hA
  have HLB := Lib.hid hB
  clear hl hE hcut ha hb hA hB
  go_enter Tryd.func7, Tryd.ntmps7
  go_wp2_with fail
  refine (cut_any l above below true _ HL.out (HE.out.below (by repeat (first | exact Below.refl _ _ | assumption | refine below_drewN ?_ _ | refine Below.setCell ?_ (by first | (simp; done) | (simp; omega)) _ | refine Below.alloc ?_ (by first | (simp; done) | (simp; omega) | omega) _ | refine Below.drew ?_ | refine Below.trans ?_ (Below.mono (by assumption) (by first | (simp; done) | (simp; omega) | omega))))) HC.out).mono ?_
  rintro e w1 ⟨rfl, hb1⟩
  obtain ⟨hc1, hf1⟩ := bcell hb1
  have hz1 := hb1.size
  simp at hz1
  have hl1 : w.heap.size < w1.heap.size := by omega
  have hE1 : Env w1 := HE.out.below (by repeat (first | exact Below.refl _ _ | assumption | refine below_drewN ?_ _ | refine Below.setCell ?_ (by first | (simp; done) | (simp; omega)) _ | refine Below.alloc ?_ (by first | (simp; done) | (simp; omega) | omega) _ | refine Below.drew ?_ | refine Below.trans ?_ (Below.mono (by assumption) (by first | (simp; done) | (simp; omega) | omega))))
  have HE1 := Lib.hid hE1
  clear hE1 HL HC HE
  go_wp2_with fail
  refine (atoi_ok _ n _ HLA.out HA.out).mono ?_
  rintro e w2 ⟨rfl, hb2⟩
  have hz2 := hb2.size
  have hl2 : w.heap.size < w2.heap.size := by omega
  have HE2 := Lib.hid (HE1.out.below hb2)
  go_wp2_with fail
  refine (atoi_bad _ _ HLB.out HE2.out HB.out).mono ?_
  rintro e w3 ⟨y, M, rfl, hb3⟩
  have hz3 := hb3.size
  have k1 : w3.cell? ⟨w.heap.size, 0, none⟩ = some (.int .i64 0) := cell_keep hb3 (cell_keep hb2 ((hc1 _ _ (by simp)).trans (by go_simp)))
  have k2 : w3.cell? ⟨w.heap.size, 1, none⟩ = some (.int .i64 0) := cell_keep hb3 (cell_keep hb2 ((hc1 _ _ (by simp)).trans (by go_simp)))
  have k3 : w3.frozen? ⟨w.heap.size, 0, none⟩ = false := (hb3.frozen (p := ⟨w.heap.size, 0, none⟩) hl2).trans ((hb2.frozen (p := ⟨w.heap.size, 0, none⟩) hl1).trans ((hf1 _ _ (by simp)).trans (by go_simp)))
  have k4 : w3.frozen? ⟨w.heap.size, 1, none⟩ = false := (hb3.frozen (p := ⟨w.heap.size, 1, none⟩) hl2).trans ((hb2.frozen (p := ⟨w.heap.size, 1, none⟩) hl1).trans ((hf1 _ _ (by simp)).trans (by go_simp)))
  have hl3 : w.heap.size < w3.heap.size := by omega
  clear hc1 hf1
  go_wp2
  refine bodyPost_ret (v := RV (0, 0, 5)) (by simp [results, Tryd.results7, go_sem, RV, k1, k2]) rfl ⟨rfl, ?_⟩
  exact (by repeat (first | exact Below.refl _ _ | assumption | refine below_drewN ?_ _ | refine Below.setCell ?_ (by first | (simp; done) | (simp; omega)) _ | refine Below.alloc ?_ (by first | (simp; done) | (simp; omega) | omega) _ | refine Below.drew ?_ | refine Below.trans ?_ (Below.mono (by assumption) (by first | (simp; done) | (simp; omega) | omega))))
set_option maxRecDepth 100000 in
set_option maxHeartbeats 1600000 in
theorem parse_true_bo (l above below : List UInt8) (w : World) (hl : l.length ≤ 4294967280) (hE : Env w) (hcut : Lib.cut l [47] = (above, below, true)) (ha : ∀ v, Lib.atoiAll above ≠ .ok v) (d : Int) (hb : Lib.atoiAll (below) = .ok d) :
    Calls Tryd.prog 7 #[.string ⟨l.toArray⟩] w fun e w' => e = .returned (RV (0, 0, 5)) ∧ Below w.heap.size w w' := by
  have HL := Lib.hid hl
  have HE := Lib.hid hE
  have HC := Lib.hid hcut
  have HA := Lib.hid ha
  have HB := Lib.hid hb
  have hA : above.length ≤ 4294967280 := by have := Rt.cut_len hcut; omega
  have hB : (below).length ≤ 4294967280 := by have := Rt.cut_len hcut; first | omega | (simp; done)
  have HLA := Lib.hid hA
  have HLB := Lib.hid hB
  clear hl hE hcut ha hb hA hB
  go_enter Tryd.func7, Tryd.ntmps7
  go_wp2_with fail
  refine (cut_any l above below true _ HL.out (HE.out.below (by repeat (first | exact Below.refl _ _ | assumption | refine below_drewN ?_ _ | refine Below.setCell ?_ (by first | (simp; done) | (simp; omega)) _ | refine Below.alloc ?_ (by first | (simp; done) | (simp; omega) | omega) _ | refine Below.drew ?_ | refine Below.trans ?_ (Below.mono (by assumption) (by first | (simp; done) | (simp; omega) | omega))))) HC.out).mono ?_
  rintro e w1 ⟨rfl, hb1⟩
  obtain ⟨hc1, hf1⟩ := bcell hb1
  have hz1 := hb1.size
  simp at hz1
  have hl1 : w.heap.size < w1.heap.size := by omega
  have hE1 : Env w1 := HE.out.below (by repeat (first | exact Below.refl _ _ | assumption | refine below_drewN ?_ _ | refine Below.setCell ?_ (by first | (simp; done) | (simp; omega)) _ | refine Below.alloc ?_ (by first | (simp; done) | (simp; omega) | omega) _ | refine Below.drew ?_ | refine Below.trans ?_ (Below.mono (by assumption) (by first | (simp; done) | (simp; omega) | omega))))
  have HE1 := Lib.hid hE1
  clear hE1 HL HC HE
  go_wp2_with fail
  refine (atoi_bad _ _ HLA.out HE1.out HA.out).mono ?_
  rintro e w2 ⟨z, N, rfl, hb2⟩
  have hz2 := hb2.size
  have hl2 : w.heap.size < w2.heap.size := by omega
  have HE2 := Lib.hid (HE1.out.below hb2)
  go_wp2_with fail
  refine (atoi_ok _ d _ HLB.out HB.out).mono ?_
  rintro e w3 ⟨rfl, hb3⟩
  have hz3 := hb3.size
  have HE3 := Lib.hid (HE2.out.below hb3)
  have k1 : w3.cell? ⟨w.heap.size, 0, none⟩ = some (.int .i64 0) := cell_keep hb3 (cell_keep hb2 ((hc1 _ _ (by simp)).trans (by go_simp)))
  have k2 : w3.cell? ⟨w.heap.size, 1, none⟩ = some (.int .i64 0) := cell_keep hb3 (cell_keep hb2 ((hc1 _ _ (by simp)).trans (by go_simp)))
  have k3 : w3.frozen? ⟨w.heap.size, 0, none⟩ = false := (hb3.frozen (p := ⟨w.heap.size, 0, none⟩) hl2).trans ((hb2.frozen (p := ⟨w.heap.size, 0, none⟩) hl1).trans ((hf1 _ _ (by simp)).trans (by go_simp)))
  have k4 : w3.frozen? ⟨w.heap.size, 1, none⟩ = false := (hb3.frozen (p := ⟨w.heap.size, 1, none⟩) hl2).trans ((hb2.frozen (p := ⟨w.heap.size, 1, none⟩) hl1).trans ((hf1 _ _ (by simp)).trans (by go_simp)))
  have hl3 : w.heap.size < w3.heap.size := by omega
  clear hc1 hf1
  go_wp2
  refine bodyPost_ret (v := RV (0, 0, 5)) (by simp [results, Tryd.results7, go_sem, RV, k1, k2]) rfl ⟨rfl, ?_⟩
  exact (by repeat (first | exact Below.refl _ _ | assumption | refine below_drewN ?_ _ | refine Below.setCell ?_ (by first | (simp; done) | (simp; omega)) _ | refine Below.alloc ?_ (by first | (simp; done) | (simp; omega) | omega) _ | refine Below.drew ?_ | refine Below.trans ?_ (Below.mono (by assumption) (by first | (simp; done) | (simp; omega) | omega))))
set_option maxRecDepth 100000 in
set_option maxHeartbeats 1600000 in
theorem parse_true_bb (l above below : List UInt8) (w : World) (hl : l.length ≤ 4294967280) (hE : Env w) (hcut : Lib.cut l [47] = (above, below, true)) (ha : ∀ v, Lib.atoiAll above ≠ .ok v) (hb : ∀ v, Lib.atoiAll (below) ≠ .ok v) :
    Calls Tryd.prog 7 #[.string ⟨l.toArray⟩] w fun e w' => e = .returned (RV (0, 0, 5)) ∧ Below w.heap.size w w' := by
  have HL := Lib.hid hl
  have HE := Lib.hid hE
  have HC := Lib.hid hcut
  have HA := Lib.hid ha
  have HB := Lib.hid hb
  have hA : above.length ≤ 4294967280 := by have := Rt.cut_len hcut; omega
  have hB : (below).length ≤ 4294967280 := by have := Rt.cut_len hcut; first | omega | (simp; done)
  have HLA := Lib.hid hA
  have HLB := Lib.hid hB
  clear hl hE hcut ha hb hA hB
  go_enter Tryd.func7, Tryd.ntmps7
  go_wp2_with fail
  refine (cut_any l above below true _ HL.out (HE.out.below (by repeat (first | exact Below.refl _ _ | assumption | refine below_drewN ?_ _ | refine Below.setCell ?_ (by first | (simp; done) | (simp; omega)) _ | refine Below.alloc ?_ (by first | (simp; done) | (simp; omega) | omega) _ | refine Below.drew ?_ | refine Below.trans ?_ (Below.mono (by assumption) (by first | (simp; done) | (simp; omega) | omega))))) HC.out).mono ?_
  rintro e w1 ⟨rfl, hb1⟩
  obtain ⟨hc1, hf1⟩ := bcell hb1
  have hz1 := hb1.size
  simp at hz1
  have hl1 : w.heap.size < w1.heap.size := by omega
  have hE1 : Env w1 := HE.out.below (by repeat (first | exact Below.refl _ _ | assumption | refine below_drewN ?_ _ | refine Below.setCell ?_ (by first | (simp; done) | (simp; omega)) _ | refine Below.alloc ?_ (by first | (simp; done) | (simp; omega) | omega) _ | refine Below.drew ?_ | refine Below.trans ?_ (Below.mono (by assumption) (by first | (simp; done) | (simp; omega) | omega))))
  have HE1 := Lib.hid hE1
  clear hE1 HL HC HE
  go_wp2_with fail
  refine (atoi_bad _ _ HLA.out HE1.out HA.out).mono ?_
  rintro e w2 ⟨z, N, rfl, hb2⟩
  have hz2 := hb2.size
  have hl2 : w.heap.size < w2.heap.size := by omega
  have HE2 := Lib.hid (HE1.out.below hb2)
  go_wp2_with fail
  refine (atoi_bad _ _ HLB.out HE2.out HB.out).mono ?_
  rintro e w3 ⟨y, M, rfl, hb3⟩
  have hz3 := hb3.size
  have k1 : w3.cell? ⟨w.heap.size, 0, none⟩ = some (.int .i64 0) := cell_keep hb3 (cell_keep hb2 ((hc1 _ _ (by simp)).trans (by go_simp)))
  have k2 : w3.cell? ⟨w.heap.size, 1, none⟩ = some (.int .i64 0) := cell_keep hb3 (cell_keep hb2 ((hc1 _ _ (by simp)).trans (by go_simp)))
  have k3 : w3.frozen? ⟨w.heap.size, 0, none⟩ = false := (hb3.frozen (p := ⟨w.heap.size, 0, none⟩) hl2).trans ((hb2.frozen (p := ⟨w.heap.size, 0, none⟩) hl1).trans ((hf1 _ _ (by simp)).trans (by go_simp)))
  have k4 : w3.frozen? ⟨w.heap.size, 1, none⟩ = false := (hb3.frozen (p := ⟨w.heap.size, 1, none⟩) hl2).trans ((hb2.frozen (p := ⟨w.heap.size, 1, none⟩) hl1).trans ((hf1 _ _ (by simp)).trans (by go_simp)))
  have hl3 : w.heap.size < w3.heap.size := by omega
  clear hc1 hf1
  go_wp2
  refine bodyPost_ret (v := RV (0, 0, 5)) (by simp [results, Tryd.results7, go_sem, RV, k1, k2]) rfl ⟨rfl, ?_⟩
  exact (by repeat (first | exact Below.refl _ _ | assumption | refine below_drewN ?_ _ | refine Below.setCell ?_ (by first | (simp; done) | (simp; omega)) _ | refine Below.alloc ?_ (by first | (simp; done) | (simp; omega) | omega) _ | refine Below.drew ?_ | refine Below.trans ?_ (Below.mono (by assumption) (by first | (simp; done) | (simp; omega) | omega))))
set_option maxRecDepth 100000 in
set_option maxHeartbeats 1600000 in
theorem parse_false_ob (l above below : List UInt8) (w : World) (hl : l.length ≤ 4294967280) (hE : Env w) (hcut : Lib.cut l [47] = (above, below, false)) (n : Int) (ha : Lib.atoiAll above = .ok n) (hb : ∀ v, Lib.atoiAll ([49]) ≠ .ok v) :
    Calls Tryd.prog 7 #[.string ⟨l.toArray⟩] w fun e w' => e = .returned (RV (0, 0, 5)) ∧ Below w.heap.size w w' := by
  have HL := Lib.hid hl
  have HE := Lib.hid hE
  have HC := Lib.hid hcut
  have HA := Lib.hid ha
  have HB := Lib.hid hb
  have hA : above.length ≤ 4294967280 := by have := Rt.cut_len hcut; omega
  have hB : ([49]).length ≤ 4294967280 := by have := Rt.cut_len hcut; first | omega | (simp; done)
  have HLA := Lib.hid hA
  have HLB := Lib.hid hB
  clear hl hE hcut ha hb hA hB
  go_enter Tryd.func7, Tryd.ntmps7
  go_wp2_with fail
  refine (cut_any l above below false _ HL.out (HE.out.below (by repeat (first | exact Below.refl _ _ | assumption | refine below_drewN ?_ _ | refine Below.setCell ?_ (by first | (simp; done) | (simp; omega)) _ | refine Below.alloc ?_ (by first | (simp; done) | (simp; omega) | omega) _ | refine Below.drew ?_ | refine Below.trans ?_ (Below.mono (by assumption) (by first | (simp; done) | (simp; omega) | omega))))) HC.out).mono ?_
  rintro e w1 ⟨rfl, hb1⟩
  obtain ⟨hc1, hf1⟩ := bcell hb1
  have hz1 := hb1.size
  simp at hz1
  have hl1 : w.heap.size < w1.heap.size := by omega
  have hE1 : Env w1 := HE.out.below (by repeat (first | exact Below.refl _ _ | assumption | refine below_drewN ?_ _ | refine Below.setCell ?_ (by first | (simp; done) | (simp; omega)) _ | refine Below.alloc ?_ (by first | (simp; done) | (simp; omega) | omega) _ | refine Below.drew ?_ | refine Below.trans ?_ (Below.mono (by assumption) (by first | (simp; done) | (simp; omega) | omega))))
  have HE1 := Lib.hid hE1
  clear hE1 HL HC HE
  go_wp2_with fail
  refine (atoi_ok _ n _ HLA.out HA.out).mono ?_
  rintro e w2 ⟨rfl, hb2⟩
  have hz2 := hb2.size
  have hl2 : w.heap.size < w2.heap.size := by omega
  have HE2 := Lib.hid (HE1.out.below hb2)
  go_wp2_with fail
  refine (atoi_bad _ _ HLB.out HE2.out HB.out).mono ?_
  rintro e w3 ⟨y, M, rfl, hb3⟩
  have hz3 := hb3.size
  have k1 : w3.cell? ⟨w.heap.size, 0, none⟩ = some (.int .i64 0) := cell_keep hb3 (cell_keep hb2 ((hc1 _ _ (by simp)).trans (by go_simp)))
  have k2 : w3.cell? ⟨w.heap.size, 1, none⟩ = some (.int .i64 0) := cell_keep hb3 (cell_keep hb2 ((hc1 _ _ (by simp)).trans (by go_simp)))
  have k3 : w3.frozen? ⟨w.heap.size, 0, none⟩ = false := (hb3.frozen (p := ⟨w.heap.size, 0, none⟩) hl2).trans ((hb2.frozen (p := ⟨w.heap.size, 0, none⟩) hl1).trans ((hf1 _ _ (by simp)).trans (by go_simp)))
  have k4 : w3.frozen? ⟨w.heap.size, 1, none⟩ = false := (hb3.frozen (p := ⟨w.heap.size, 1, none⟩) hl2).trans ((hb2.frozen (p := ⟨w.heap.size, 1, none⟩) hl1).trans ((hf1 _ _ (by simp)).trans (by go_simp)))
  have hl3 : w.heap.size < w3.heap.size := by omega
  clear hc1 hf1
  go_wp2
  refine bodyPost_ret (v := RV (0, 0, 5)) (by simp [results, Tryd.results7, go_sem, RV, k1, k2]) rfl ⟨rfl, ?_⟩
  exact (by repeat (first | exact Below.refl _ _ | assumption | refine below_drewN ?_ _ | refine Below.setCell ?_ (by first | (simp; done) | (simp; omega)) _ | refine Below.alloc ?_ (by first | (simp; done) | (simp; omega) | omega) _ | refine Below.drew ?_ | refine Below.trans ?_ (Below.mono (by assumption) (by first | (simp; done) | (simp; omega) | omega))))
set_option maxRecDepth 100000 in
set_option maxHeartbeats 1600000 in
theorem parse_false_bo (l above below : List UInt8) (w : World) (hl : l.length ≤ 4294967280) (hE : Env w) (hcut : Lib.cut l [47] = (above, below, false)) (ha : ∀ v, Lib.atoiAll above ≠ .ok v) (d : Int) (hb : Lib.atoiAll ([49]) = .ok d) :
    Calls Tryd.prog 7 #[.string ⟨l.toArray⟩] w fun e w' => e = .returned (RV (0, 0, 5)) ∧ Below w.heap.size w w' := by
  have HL := Lib.hid hl
  have HE := Lib.hid hE
  have HC := Lib.hid hcut
  have HA := Lib.hid ha
  have HB := Lib.hid hb
  have hA : above.length ≤ 4294967280 := by have := Rt.cut_len hcut; omega
  have hB : ([49]).length ≤ 4294967280 := by have := Rt.cut_len hcut; first | omega | (simp; done)
  have HLA := Lib.hid hA
  have HLB := Lib.hid hB
  clear hl hE hcut ha hb hA hB
  go_enter Tryd.func7, Tryd.ntmps7
  go_wp2_with fail
  refine (cut_any l above below false _ HL.out (HE.out.below (by repeat (first | exact Below.refl _ _ | assumption | refine below_drewN ?_ _ | refine Below.setCell ?_ (by first | (simp; done) | (simp; omega)) _ | refine Below.alloc ?_ (by first | (simp; done) | (simp; omega) | omega) _ | refine Below.drew ?_ | refine Below.trans ?_ (Below.mono (by assumption) (by first | (simp; done) | (simp; omega) | omega))))) HC.out).mono ?_
  rintro e w1 ⟨rfl, hb1⟩
  obtain ⟨hc1, hf1⟩ := bcell hb1
  have hz1 := hb1.size
  simp at hz1
  have hl1 : w.heap.size < w1.heap.size := by omega
  have hE1 : Env w1 := HE.out.below (by repeat (first | exact Below.refl _ _ | assumption | refine below_drewN ?_ _ | refine Below.setCell ?_ (by first | (simp; done) | (simp; omega)) _ | refine Below.alloc ?_ (by first | (simp; done) | (simp; omega) | omega) _ | refine Below.drew ?_ | refine Below.trans ?_ (Below.mono (by assumption) (by first | (simp; done) | (simp; omega) | omega))))
  have HE1 := Lib.hid hE1
  clear hE1 HL HC HE
  go_wp2_with fail
  refine (atoi_bad _ _ HLA.out HE1.out HA.out).mono ?_
  rintro e w2 ⟨z, N, rfl, hb2⟩
  have hz2 := hb2.size
  have hl2 : w.heap.size < w2.heap.size := by omega
  have HE2 := Lib.hid (HE1.out.below hb2)
  go_wp2_with fail
  refine (atoi_ok _ d _ HLB.out HB.out).mono ?_
  rintro e w3 ⟨rfl, hb3⟩
  have hz3 := hb3.size
  have HE3 := Lib.hid (HE2.out.below hb3)
  have k1 : w3.cell? ⟨w.heap.size, 0, none⟩ = some (.int .i64 0) := cell_keep hb3 (cell_keep hb2 ((hc1 _ _ (by simp)).trans (by go_simp)))
  have k2 : w3.cell? ⟨w.heap.size, 1, none⟩ = some (.int .i64 0) := cell_keep hb3 (cell_keep hb2 ((hc1 _ _ (by simp)).trans (by go_simp)))
  have k3 : w3.frozen? ⟨w.heap.size, 0, none⟩ = false := (hb3.frozen (p := ⟨w.heap.size, 0, none⟩) hl2).trans ((hb2.frozen (p := ⟨w.heap.size, 0, none⟩) hl1).trans ((hf1 _ _ (by simp)).trans (by go_simp)))
  have k4 : w3.frozen? ⟨w.heap.size, 1, none⟩ = false := (hb3.frozen (p := ⟨w.heap.size, 1, none⟩) hl2).trans ((hb2.frozen (p := ⟨w.heap.size, 1, none⟩) hl1).trans ((hf1 _ _ (by simp)).trans (by go_simp)))
  have hl3 : w.heap.size < w3.heap.size := by omega
  clear hc1 hf1
  go_wp2
  refine bodyPost_ret (v := RV (0, 0, 5)) (by simp [results, Tryd.results7, go_sem, RV, k1, k2]) rfl ⟨rfl, ?_⟩
  exact (by repeat (first | exact Below.refl _ _ | assumption | refine below_drewN ?_ _ | refine Below.setCell ?_ (by first | (simp; done) | (simp; omega)) _ | refine Below.alloc ?_ (by first | (simp; done) | (simp; omega) | omega) _ | refine Below.drew ?_ | refine Below.trans ?_ (Below.mono (by assumption) (by first | (simp; done) | (simp; omega) | omega))))
set_option maxRecDepth 100000 in
set_option maxHeartbeats 1600000 in
theorem parse_false_bb (l above below : List UInt8) (w : World) (hl : l.length ≤ 4294967280) (hE : Env w) (hcut : Lib.cut l [47] = (above, below, false)) (ha : ∀ v, Lib.atoiAll above ≠ .ok v) (hb : ∀ v, Lib.atoiAll ([49]) ≠ .ok v) :
    Calls Tryd.prog 7 #[.string ⟨l.toArray⟩] w fun e w' => e = .returned (RV (0, 0, 5)) ∧ Below w.heap.size w w' := by
  have HL := Lib.hid hl
  have HE := Lib.hid hE
  have HC := Lib.hid hcut
  have HA := Lib.hid ha
  have HB := Lib.hid hb
  have hA : above.length ≤ 4294967280 := by have := Rt.cut_len hcut; omega
  have hB : ([49]).length ≤ 4294967280 := by have := Rt.cut_len hcut; first | omega | (simp; done)
  have HLA := Lib.hid hA
  have HLB := Lib.hid hB
  clear hl hE hcut ha hb hA hB
  go_enter Tryd.func7, Tryd.ntmps7
  go_wp2_with fail
  refine (cut_any l above below false _ HL.out (HE.out.below (by repeat (first | exact Below.refl _ _ | assumption | refine below_drewN ?_ _ | refine Below.setCell ?_ (by first | (simp; done) | (simp; omega)) _ | refine Below.alloc ?_ (by first | (simp; done) | (simp; omega) | omega) _ | refine Below.drew ?_ | refine Below.trans ?_ (Below.mono (by assumption) (by first | (simp; done) | (simp; omega) | omega))))) HC.out).mono ?_
  rintro e w1 ⟨rfl, hb1⟩
  obtain ⟨hc1, hf1⟩ := bcell hb1
  have hz1 := hb1.size
  simp at hz1
  have hl1 : w.heap.size < w1.heap.size := by omega
  have hE1 : Env w1 := HE.out.below (by repeat (first | exact Below.refl _ _ | assumption | refine below_drewN ?_ _ | refine Below.setCell ?_ (by first | (simp; done) | (simp; omega)) _ | refine Below.alloc ?_ (by first | (simp; done) | (simp; omega) | omega) _ | refine Below.drew ?_ | refine Below.trans ?_ (Below.mono (by assumption) (by first | (simp; done) | (simp; omega) | omega))))
  have HE1 := Lib.hid hE1
  clear hE1 HL HC HE
  go_wp2_with fail
  refine (atoi_bad _ _ HLA.out HE1.out HA.out).mono ?_
  rintro e w2 ⟨z, N, rfl, hb2⟩
  have hz2 := hb2.size
  have hl2 : w.heap.size < w2.heap.size := by omega
  have HE2 := Lib.hid (HE1.out.below hb2)
  go_wp2_with fail
  refine (atoi_bad _ _ HLB.out HE2.out HB.out).mono ?_
  rintro e w3 ⟨y, M, rfl, hb3⟩
  have hz3 := hb3.size
  have k1 : w3.cell? ⟨w.heap.size, 0, none⟩ = some (.int .i64 0) := cell_keep hb3 (cell_keep hb2 ((hc1 _ _ (by simp)).trans (by go_simp)))
  have k2 : w3.cell? ⟨w.heap.size, 1, none⟩ = some (.int .i64 0) := cell_keep hb3 (cell_keep hb2 ((hc1 _ _ (by simp)).trans (by go_simp)))
  have k3 : w3.frozen? ⟨w.heap.size, 0, none⟩ = false := (hb3.frozen (p := ⟨w.heap.size, 0, none⟩) hl2).trans ((hb2.frozen (p := ⟨w.heap.size, 0, none⟩) hl1).trans ((hf1 _ _ (by simp)).trans (by go_simp)))
  have k4 : w3.frozen? ⟨w.heap.size, 1, none⟩ = false := (hb3.frozen (p := ⟨w.heap.size, 1, none⟩) hl2).trans ((hb2.frozen (p := ⟨w.heap.size, 1, none⟩) hl1).trans ((hf1 _ _ (by simp)).trans (by go_simp)))
  have hl3 : w.heap.size < w3.heap.size := by omega
  clear hc1 hf1
  go_wp2
  refine bodyPost_ret (v := RV (0, 0, 5)) (by simp [results, Tryd.results7, go_sem, RV, k1, k2]) rfl ⟨rfl, ?_⟩
  exact (by repeat (first | exact Below.refl _ _ | assumption | refine below_drewN ?_ _ | refine Below.setCell ?_ (by first | (simp; done) | (simp; omega)) _ | refine Below.alloc ?_ (by first | (simp; done) | (simp; omega) | omega) _ | refine Below.drew ?_ | refine Below.trans ?_ (Below.mono (by assumption) (by first | (simp; done) | (simp; omega) | omega))))
end Go.Proofs.YtmdgccnpcmjpbaaDoor

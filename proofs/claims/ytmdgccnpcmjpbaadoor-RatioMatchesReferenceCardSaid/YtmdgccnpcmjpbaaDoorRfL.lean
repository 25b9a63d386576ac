/- The reference implementation: the walk of Parse, texts without a stroke. -/
import Derived.Test.YtmdgccnpcmjpbaaDoorRfJ
import Derived.Test.YtmdgccnpcmjpbaaDoorRfK
import Derived.Test.YtmdgccnpcmjpbaaDoorRfMath4
namespace Go.Proofs.YtmdgccnpcmjpbaaDoor
open Go.RowKit

set_option maxRecDepth 100000 in
set_option maxHeartbeats 3200000 in
theorem rparse_a (c : UInt8) (r : List UInt8) (n : Int) (w : World) (hl : (c :: r).length ≤ 4294967280) (hno : ∀ j (h : j < (c :: r).length), (c :: r)[j] ≠ 47) (hc45 : c ≠ 45) (hn : Rt.numS (c :: r) = n) (ht : Rt.textS n 1 = c :: r) :
    Calls Tryd.prog 8 #[.string ⟨(c :: r).toArray⟩] w fun e w' => e = .returned (RV (n, 1, 0)) ∧ Below w.heap.size w w' := by
  obtain ⟨l, hL⟩ : ∃ l, c :: r = l := ⟨_, rfl⟩
  have hlr : l.length = r.length + 1 := by rw [← hL]; rfl
  have g0 : ∀ h : 0 < ByteArray.size ⟨l.toArray⟩, (⟨l.toArray⟩ : ByteArray)[0]'h = c := by subst hL; exact fun _ => rfl
  have x0 : (⟨l.toArray⟩ : ByteArray).extract 0 l.length = ⟨l.toArray⟩ := by
    apply ByteArray.ext
    simp
  have x1 : (⟨l.toArray⟩ : ByteArray).extract 1 l.length = ⟨r.toArray⟩ := by
    subst hL
    apply ByteArray.ext
    simp
  have y0 : ((c.toNat : Int) == 45) = false := by
    rw [beq_eq_false_iff_ne]; intro e; exact hc45 (UInt8.toNat_inj.1 (by have : (45 : UInt8).toNat = 45 := rfl; omega))
  have z0 : (([] : List UInt8) == l) = false := by subst hL; rfl
  have z1 : (l == ([] : List UInt8)) = false := by subst hL; rfl
  have z2 : l ≠ [] := by subst hL; exact List.cons_ne_nil _ _
  have nb := Rt.num_ge (c :: r)
  rw [hL] at hl hno ht ⊢
  rw [hL] at hn nb
  have HM := Lib.hid hn
  have HT := Lib.hid ht
  have h0 : 0 < l.length := by omega
  have hr : r.length ≤ 4294967280 := by omega
  clear ht hL hc45 hlr
  have hs : ((⟨l.toArray⟩ : ByteArray)).size = l.length := by simp [ByteArray.size]
  go_enter Tryd.func8, Tryd.ntmps8
  go_wp2
  go_loopw [5, 6] (fun t u wr => ∃ k : Nat, t = .int .i64 (l.length : Int) ∧ u = .int .i64 (k : Int) ∧ k ≤ l.length ∧ Below w.heap.size w wr ∧ wr.cell? ⟨w.heap.size, 0, none⟩ = some (.int .i64 0) ∧ wr.cell? ⟨w.heap.size, 1, none⟩ = some (.int .i64 0) ∧ wr.cell? ⟨w.heap.size + 1, 0, none⟩ = some (.int .i64 0) ∧ wr.cell? ⟨w.heap.size + 1, 1, none⟩ = some (.int .i64 1) ∧ wr.frozen? ⟨w.heap.size, 0, none⟩ = false ∧ wr.frozen? ⟨w.heap.size, 1, none⟩ = false ∧ wr.frozen? ⟨w.heap.size + 1, 0, none⟩ = false ∧ wr.frozen? ⟨w.heap.size + 1, 1, none⟩ = false ∧ w.heap.size + 1 < wr.heap.size) (fun _ u _ => l.length - (intOf u).toNat)
  case atStart => exact ⟨0, by simp, rfl, by omega, (by repeat (first | exact Below.refl _ _ | assumption | refine below_drewN ?_ _ | refine Below.setCell ?_ (by first | (simp; done) | (simp; omega)) _ | refine Below.alloc ?_ (by first | (simp; done) | (simp; omega) | omega) _ | refine Below.drew ?_ | refine Below.trans ?_ (Below.mono (by assumption) (by first | (simp; done) | (simp; omega) | omega)))), by go_simp, by go_simp, by go_simp, by go_simp, by go_simp, by go_simp, by go_simp, by go_simp, by simp⟩
  case round =>
    obtain ⟨k, rfl, rfl, hk, hw, c0, c1, c2, c3, f0, f1, f2, f3, hz⟩ := hrel
    by_cases hk2 : k < l.length
    · have b1 : decide ((k : Int) < (l.length : Int)) = true := by simp; omega
      have b2 : decide (k < l.length) = true := by simp; omega
      obtain ⟨c, hc⟩ : ∃ c, l[k] = c := ⟨_, rfl⟩
      have hB : ∀ h : k < ByteArray.size ⟨l.toArray⟩, (⟨l.toArray⟩ : ByteArray)[k]'h = c := fun h => hc
      have hcn := hno k hk2
      rw [hc] at hcn
      have b3 : ((c.toNat : Int) == 47) = false := by
        rw [beq_eq_false_iff_ne]
        intro e
        exact hcn (UInt8.toNat_inj.1 (by have : (47 : UInt8).toNat = 47 := rfl; omega))
      clear hc hcn g0
      go_wp2
      go_roundw
      case rel => exact ⟨k + 1, by simp, by simp, by omega, hw, c0, c1, c2, c3, f0, f1, f2, f3, hz⟩
      case measure => simp [intOf]; omega
    · have b1 : decide ((k : Int) < (l.length : Int)) = false := by simp; omega
      have b4 : decide (0 < (l.length : Int)) = true := by simp; omega
      clear hno
      go_wp2_with fail
      refine (number_any l _ (by omega)).mono ?_
      rintro e w1 ⟨rfl, hb1⟩
      have hz1 := hb1.size
      have m0 := cell_keep hb1 c0
      have m1 := cell_keep hb1 c1
      have m2 := cell_keep hb1 c2
      have m3 := cell_keep hb1 c3
      have o0 : w1.frozen? ⟨w.heap.size, 0, none⟩ = false := (hb1.frozen (p := ⟨w.heap.size, 0, none⟩) (by simp; omega)).trans f0
      have o1 : w1.frozen? ⟨w.heap.size, 1, none⟩ = false := (hb1.frozen (p := ⟨w.heap.size, 1, none⟩) (by simp; omega)).trans f1
      have o2 : w1.frozen? ⟨w.heap.size + 1, 0, none⟩ = false := (hb1.frozen (p := ⟨w.heap.size + 1, 0, none⟩) (by simp; omega)).trans f2
      have o3 : w1.frozen? ⟨w.heap.size + 1, 1, none⟩ = false := (hb1.frozen (p := ⟨w.heap.size + 1, 1, none⟩) (by simp; omega)).trans f3
      have hy1 : w.heap.size + 1 < w1.heap.size := by omega
      have bf1 : Below w.heap.size w w1 := (by repeat (first | exact Below.refl _ _ | assumption | refine below_drewN ?_ _ | refine Below.setCell ?_ (by first | (simp; done) | (simp; omega)) _ | refine Below.alloc ?_ (by first | (simp; done) | (simp; omega) | omega) _ | refine Below.drew ?_ | refine Below.trans ?_ (Below.mono (by assumption) (by first | (simp; done) | (simp; omega) | omega))))
      clear c0 c1 c2 c3 f0 f1 f2 f3 hw
      go_wp2_with fail
      refine (rtext_any _ _ _).mono ?_
      rintro e w2 ⟨rfl, hb2⟩
      rw [HT.out]
      obtain ⟨hc2, hf2⟩ := bcell hb2
      have hz2 := hb2.size
      simp at hz2
      have n0 : w2.cell? ⟨w.heap.size, 0, none⟩ = some (.int .i64 0) := (hc2 _ _ (by simp; omega)).trans (by go_simp)
      have n1 : w2.cell? ⟨w.heap.size, 1, none⟩ = some (.int .i64 0) := (hc2 _ _ (by simp; omega)).trans (by go_simp)
      have n2 : w2.cell? ⟨w.heap.size + 1, 0, none⟩ = some (.int .i64 n) := (hc2 _ _ (by simp; omega)).trans (by go_simp)
      have n3 : w2.cell? ⟨w.heap.size + 1, 1, none⟩ = some (.int .i64 1) := (hc2 _ _ (by simp; omega)).trans (by go_simp)
      have p0 : w2.frozen? ⟨w.heap.size, 0, none⟩ = false := (hf2 _ _ (by simp; omega)).trans (by go_simp)
      have p1 : w2.frozen? ⟨w.heap.size, 1, none⟩ = false := (hf2 _ _ (by simp; omega)).trans (by go_simp)
      have bf2 : Below w.heap.size w w2 := (by repeat (first | exact Below.refl _ _ | assumption | refine below_drewN ?_ _ | refine Below.setCell ?_ (by first | (simp; done) | (simp; omega)) _ | refine Below.alloc ?_ (by first | (simp; done) | (simp; omega) | omega) _ | refine Below.drew ?_ | refine Below.trans ?_ (Below.mono (by assumption) (by first | (simp; done) | (simp; omega) | omega))))
      clear m0 m1 m2 m3 o0 o1 o2 o3 hb2 hc2 hf2
      go_wp2
      refine bodyPost_ret (v := RV (n, 1, 0)) (by simp [results, Tryd.results8, go_sem, RV, n0, n1]) rfl ⟨rfl, ?_⟩
      exact (by repeat (first | exact Below.refl _ _ | assumption | refine below_drewN ?_ _ | refine Below.setCell ?_ (by first | (simp; done) | (simp; omega)) _ | refine Below.alloc ?_ (by first | (simp; done) | (simp; omega) | omega) _ | refine Below.drew ?_ | refine Below.trans ?_ (Below.mono (by assumption) (by first | (simp; done) | (simp; omega) | omega))))
set_option maxRecDepth 100000 in
set_option maxHeartbeats 3200000 in
theorem rparse_b (c : UInt8) (r : List UInt8) (n : Int) (w : World) (hl : (c :: r).length ≤ 4294967280) (hno : ∀ j (h : j < (c :: r).length), (c :: r)[j] ≠ 47) (hc45 : c ≠ 45) (hn : Rt.numS (c :: r) = n) (tx : List UInt8) (ht : Rt.textS n 1 = tx) (hne : tx ≠ c :: r) :
    Calls Tryd.prog 8 #[.string ⟨(c :: r).toArray⟩] w fun e w' => e = .returned (RV (0, 0, 5)) ∧ Below w.heap.size w w' := by
  obtain ⟨l, hL⟩ : ∃ l, c :: r = l := ⟨_, rfl⟩
  have hlr : l.length = r.length + 1 := by rw [← hL]; rfl
  have g0 : ∀ h : 0 < ByteArray.size ⟨l.toArray⟩, (⟨l.toArray⟩ : ByteArray)[0]'h = c := by subst hL; exact fun _ => rfl
  have x0 : (⟨l.toArray⟩ : ByteArray).extract 0 l.length = ⟨l.toArray⟩ := by
    apply ByteArray.ext
    simp
  have x1 : (⟨l.toArray⟩ : ByteArray).extract 1 l.length = ⟨r.toArray⟩ := by
    subst hL
    apply ByteArray.ext
    simp
  have y0 : ((c.toNat : Int) == 45) = false := by
    rw [beq_eq_false_iff_ne]; intro e; exact hc45 (UInt8.toNat_inj.1 (by have : (45 : UInt8).toNat = 45 := rfl; omega))
  have z0 : (([] : List UInt8) == l) = false := by subst hL; rfl
  have z1 : (l == ([] : List UInt8)) = false := by subst hL; rfl
  have z2 : l ≠ [] := by subst hL; exact List.cons_ne_nil _ _
  have nb := Rt.num_ge (c :: r)
  rw [hL] at hl hno hne ⊢
  rw [hL] at hn nb
  have hq : (tx == l) = false := by simpa using hne
  have HN := Lib.hid hne
  have HM := Lib.hid hn
  have HT := Lib.hid ht
  have h0 : 0 < l.length := by omega
  have hr : r.length ≤ 4294967280 := by omega
  clear ht hL hc45 hlr
  have hs : ((⟨l.toArray⟩ : ByteArray)).size = l.length := by simp [ByteArray.size]
  go_enter Tryd.func8, Tryd.ntmps8
  go_wp2
  go_loopw [5, 6] (fun t u wr => ∃ k : Nat, t = .int .i64 (l.length : Int) ∧ u = .int .i64 (k : Int) ∧ k ≤ l.length ∧ Below w.heap.size w wr ∧ wr.cell? ⟨w.heap.size, 0, none⟩ = some (.int .i64 0) ∧ wr.cell? ⟨w.heap.size, 1, none⟩ = some (.int .i64 0) ∧ wr.cell? ⟨w.heap.size + 1, 0, none⟩ = some (.int .i64 0) ∧ wr.cell? ⟨w.heap.size + 1, 1, none⟩ = some (.int .i64 1) ∧ wr.frozen? ⟨w.heap.size, 0, none⟩ = false ∧ wr.frozen? ⟨w.heap.size, 1, none⟩ = false ∧ wr.frozen? ⟨w.heap.size + 1, 0, none⟩ = false ∧ wr.frozen? ⟨w.heap.size + 1, 1, none⟩ = false ∧ w.heap.size + 1 < wr.heap.size) (fun _ u _ => l.length - (intOf u).toNat)
  case atStart => exact ⟨0, by simp, rfl, by omega, (by repeat (first | exact Below.refl _ _ | assumption | refine below_drewN ?_ _ | refine Below.setCell ?_ (by first | (simp; done) | (simp; omega)) _ | refine Below.alloc ?_ (by first | (simp; done) | (simp; omega) | omega) _ | refine Below.drew ?_ | refine Below.trans ?_ (Below.mono (by assumption) (by first | (simp; done) | (simp; omega) | omega)))), by go_simp, by go_simp, by go_simp, by go_simp, by go_simp, by go_simp, by go_simp, by go_simp, by simp⟩
  case round =>
    obtain ⟨k, rfl, rfl, hk, hw, c0, c1, c2, c3, f0, f1, f2, f3, hz⟩ := hrel
    by_cases hk2 : k < l.length
    · have b1 : decide ((k : Int) < (l.length : Int)) = true := by simp; omega
      have b2 : decide (k < l.length) = true := by simp; omega
      obtain ⟨c, hc⟩ : ∃ c, l[k] = c := ⟨_, rfl⟩
      have hB : ∀ h : k < ByteArray.size ⟨l.toArray⟩, (⟨l.toArray⟩ : ByteArray)[k]'h = c := fun h => hc
      have hcn := hno k hk2
      rw [hc] at hcn
      have b3 : ((c.toNat : Int) == 47) = false := by
        rw [beq_eq_false_iff_ne]
        intro e
        exact hcn (UInt8.toNat_inj.1 (by have : (47 : UInt8).toNat = 47 := rfl; omega))
      clear hc hcn g0
      go_wp2
      go_roundw
      case rel => exact ⟨k + 1, by simp, by simp, by omega, hw, c0, c1, c2, c3, f0, f1, f2, f3, hz⟩
      case measure => simp [intOf]; omega
    · have b1 : decide ((k : Int) < (l.length : Int)) = false := by simp; omega
      have b4 : decide (0 < (l.length : Int)) = true := by simp; omega
      clear hno
      go_wp2_with fail
      refine (number_any l _ (by omega)).mono ?_
      rintro e w1 ⟨rfl, hb1⟩
      have hz1 := hb1.size
      have m0 := cell_keep hb1 c0
      have m1 := cell_keep hb1 c1
      have m2 := cell_keep hb1 c2
      have m3 := cell_keep hb1 c3
      have o0 : w1.frozen? ⟨w.heap.size, 0, none⟩ = false := (hb1.frozen (p := ⟨w.heap.size, 0, none⟩) (by simp; omega)).trans f0
      have o1 : w1.frozen? ⟨w.heap.size, 1, none⟩ = false := (hb1.frozen (p := ⟨w.heap.size, 1, none⟩) (by simp; omega)).trans f1
      have o2 : w1.frozen? ⟨w.heap.size + 1, 0, none⟩ = false := (hb1.frozen (p := ⟨w.heap.size + 1, 0, none⟩) (by simp; omega)).trans f2
      have o3 : w1.frozen? ⟨w.heap.size + 1, 1, none⟩ = false := (hb1.frozen (p := ⟨w.heap.size + 1, 1, none⟩) (by simp; omega)).trans f3
      have hy1 : w.heap.size + 1 < w1.heap.size := by omega
      have bf1 : Below w.heap.size w w1 := (by repeat (first | exact Below.refl _ _ | assumption | refine below_drewN ?_ _ | refine Below.setCell ?_ (by first | (simp; done) | (simp; omega)) _ | refine Below.alloc ?_ (by first | (simp; done) | (simp; omega) | omega) _ | refine Below.drew ?_ | refine Below.trans ?_ (Below.mono (by assumption) (by first | (simp; done) | (simp; omega) | omega))))
      clear c0 c1 c2 c3 f0 f1 f2 f3 hw
      go_wp2_with fail
      refine (rtext_any _ _ _).mono ?_
      rintro e w2 ⟨rfl, hb2⟩
      rw [HT.out]
      obtain ⟨hc2, hf2⟩ := bcell hb2
      have hz2 := hb2.size
      simp at hz2
      have n0 : w2.cell? ⟨w.heap.size, 0, none⟩ = some (.int .i64 0) := (hc2 _ _ (by simp; omega)).trans (by go_simp)
      have n1 : w2.cell? ⟨w.heap.size, 1, none⟩ = some (.int .i64 0) := (hc2 _ _ (by simp; omega)).trans (by go_simp)
      have n2 : w2.cell? ⟨w.heap.size + 1, 0, none⟩ = some (.int .i64 n) := (hc2 _ _ (by simp; omega)).trans (by go_simp)
      have n3 : w2.cell? ⟨w.heap.size + 1, 1, none⟩ = some (.int .i64 1) := (hc2 _ _ (by simp; omega)).trans (by go_simp)
      have p0 : w2.frozen? ⟨w.heap.size, 0, none⟩ = false := (hf2 _ _ (by simp; omega)).trans (by go_simp)
      have p1 : w2.frozen? ⟨w.heap.size, 1, none⟩ = false := (hf2 _ _ (by simp; omega)).trans (by go_simp)
      have bf2 : Below w.heap.size w w2 := (by repeat (first | exact Below.refl _ _ | assumption | refine below_drewN ?_ _ | refine Below.setCell ?_ (by first | (simp; done) | (simp; omega)) _ | refine Below.alloc ?_ (by first | (simp; done) | (simp; omega) | omega) _ | refine Below.drew ?_ | refine Below.trans ?_ (Below.mono (by assumption) (by first | (simp; done) | (simp; omega) | omega))))
      clear m0 m1 m2 m3 o0 o1 o2 o3 hb2 hc2 hf2
      go_wp2
      refine bodyPost_ret (v := RV (0, 0, 5)) (by simp [results, Tryd.results8, go_sem, RV, n0, n1]) rfl ⟨rfl, ?_⟩
      exact (by repeat (first | exact Below.refl _ _ | assumption | refine below_drewN ?_ _ | refine Below.setCell ?_ (by first | (simp; done) | (simp; omega)) _ | refine Below.alloc ?_ (by first | (simp; done) | (simp; omega) | omega) _ | refine Below.drew ?_ | refine Below.trans ?_ (Below.mono (by assumption) (by first | (simp; done) | (simp; omega) | omega))))
set_option maxRecDepth 100000 in
set_option maxHeartbeats 3200000 in
theorem rparse_c (c : UInt8) (r : List UInt8) (n : Int) (w : World) (hl : (c :: r).length ≤ 4294967280) (hno : ∀ j (h : j < (c :: r).length), (c :: r)[j] ≠ 47) (hc45 : c = 45) (hn : 0 - Rt.numS r = n) (ht : Rt.textS n 1 = c :: r) :
    Calls Tryd.prog 8 #[.string ⟨(c :: r).toArray⟩] w fun e w' => e = .returned (RV (n, 1, 0)) ∧ Below w.heap.size w w' := by
  obtain ⟨l, hL⟩ : ∃ l, c :: r = l := ⟨_, rfl⟩
  have hlr : l.length = r.length + 1 := by rw [← hL]; rfl
  have g0 : ∀ h : 0 < ByteArray.size ⟨l.toArray⟩, (⟨l.toArray⟩ : ByteArray)[0]'h = c := by subst hL; exact fun _ => rfl
  have x0 : (⟨l.toArray⟩ : ByteArray).extract 0 l.length = ⟨l.toArray⟩ := by
    apply ByteArray.ext
    simp
  have x1 : (⟨l.toArray⟩ : ByteArray).extract 1 l.length = ⟨r.toArray⟩ := by
    subst hL
    apply ByteArray.ext
    simp
  have y0 : ((c.toNat : Int) == 45) = true := by
    rw [hc45]; rfl
  have z0 : (([] : List UInt8) == l) = false := by subst hL; rfl
  have z1 : (l == ([] : List UInt8)) = false := by subst hL; rfl
  have z2 : l ≠ [] := by subst hL; exact List.cons_ne_nil _ _
  have nb := Rt.num_ge r
  rw [hL] at hl hno ht ⊢
  have HM := Lib.hid hn
  have HT := Lib.hid ht
  have h0 : 0 < l.length := by omega
  have hr : r.length ≤ 4294967280 := by omega
  clear ht hL hc45 hlr
  have hs : ((⟨l.toArray⟩ : ByteArray)).size = l.length := by simp [ByteArray.size]
  go_enter Tryd.func8, Tryd.ntmps8
  go_wp2
  go_loopw [5, 6] (fun t u wr => ∃ k : Nat, t = .int .i64 (l.length : Int) ∧ u = .int .i64 (k : Int) ∧ k ≤ l.length ∧ Below w.heap.size w wr ∧ wr.cell? ⟨w.heap.size, 0, none⟩ = some (.int .i64 0) ∧ wr.cell? ⟨w.heap.size, 1, none⟩ = some (.int .i64 0) ∧ wr.cell? ⟨w.heap.size + 1, 0, none⟩ = some (.int .i64 0) ∧ wr.cell? ⟨w.heap.size + 1, 1, none⟩ = some (.int .i64 1) ∧ wr.frozen? ⟨w.heap.size, 0, none⟩ = false ∧ wr.frozen? ⟨w.heap.size, 1, none⟩ = false ∧ wr.frozen? ⟨w.heap.size + 1, 0, none⟩ = false ∧ wr.frozen? ⟨w.heap.size + 1, 1, none⟩ = false ∧ w.heap.size + 1 < wr.heap.size) (fun _ u _ => l.length - (intOf u).toNat)
  case atStart => exact ⟨0, by simp, rfl, by omega, (by repeat (first | exact Below.refl _ _ | assumption | refine below_drewN ?_ _ | refine Below.setCell ?_ (by first | (simp; done) | (simp; omega)) _ | refine Below.alloc ?_ (by first | (simp; done) | (simp; omega) | omega) _ | refine Below.drew ?_ | refine Below.trans ?_ (Below.mono (by assumption) (by first | (simp; done) | (simp; omega) | omega)))), by go_simp, by go_simp, by go_simp, by go_simp, by go_simp, by go_simp, by go_simp, by go_simp, by simp⟩
  case round =>
    obtain ⟨k, rfl, rfl, hk, hw, c0, c1, c2, c3, f0, f1, f2, f3, hz⟩ := hrel
    by_cases hk2 : k < l.length
    · have b1 : decide ((k : Int) < (l.length : Int)) = true := by simp; omega
      have b2 : decide (k < l.length) = true := by simp; omega
      obtain ⟨c, hc⟩ : ∃ c, l[k] = c := ⟨_, rfl⟩
      have hB : ∀ h : k < ByteArray.size ⟨l.toArray⟩, (⟨l.toArray⟩ : ByteArray)[k]'h = c := fun h => hc
      have hcn := hno k hk2
      rw [hc] at hcn
      have b3 : ((c.toNat : Int) == 47) = false := by
        rw [beq_eq_false_iff_ne]
        intro e
        exact hcn (UInt8.toNat_inj.1 (by have : (47 : UInt8).toNat = 47 := rfl; omega))
      clear hc hcn g0
      go_wp2
      go_roundw
      case rel => exact ⟨k + 1, by simp, by simp, by omega, hw, c0, c1, c2, c3, f0, f1, f2, f3, hz⟩
      case measure => simp [intOf]; omega
    · have b1 : decide ((k : Int) < (l.length : Int)) = false := by simp; omega
      have b4 : decide (0 < (l.length : Int)) = true := by simp; omega
      clear hno
      go_wp2_with fail
      refine (number_any r _ (by omega)).mono ?_
      rintro e w1 ⟨rfl, hb1⟩
      have hz1 := hb1.size
      have m0 := cell_keep hb1 c0
      have m1 := cell_keep hb1 c1
      have m2 := cell_keep hb1 c2
      have m3 := cell_keep hb1 c3
      have o0 : w1.frozen? ⟨w.heap.size, 0, none⟩ = false := (hb1.frozen (p := ⟨w.heap.size, 0, none⟩) (by simp; omega)).trans f0
      have o1 : w1.frozen? ⟨w.heap.size, 1, none⟩ = false := (hb1.frozen (p := ⟨w.heap.size, 1, none⟩) (by simp; omega)).trans f1
      have o2 : w1.frozen? ⟨w.heap.size + 1, 0, none⟩ = false := (hb1.frozen (p := ⟨w.heap.size + 1, 0, none⟩) (by simp; omega)).trans f2
      have o3 : w1.frozen? ⟨w.heap.size + 1, 1, none⟩ = false := (hb1.frozen (p := ⟨w.heap.size + 1, 1, none⟩) (by simp; omega)).trans f3
      have hy1 : w.heap.size + 1 < w1.heap.size := by omega
      have bf1 : Below w.heap.size w w1 := (by repeat (first | exact Below.refl _ _ | assumption | refine below_drewN ?_ _ | refine Below.setCell ?_ (by first | (simp; done) | (simp; omega)) _ | refine Below.alloc ?_ (by first | (simp; done) | (simp; omega) | omega) _ | refine Below.drew ?_ | refine Below.trans ?_ (Below.mono (by assumption) (by first | (simp; done) | (simp; omega) | omega))))
      clear c0 c1 c2 c3 f0 f1 f2 f3 hw
      go_wp2_with fail
      refine (rtext_any _ _ _).mono ?_
      rintro e w2 ⟨rfl, hb2⟩
      rw [HT.out]
      obtain ⟨hc2, hf2⟩ := bcell hb2
      have hz2 := hb2.size
      simp at hz2
      have n0 : w2.cell? ⟨w.heap.size, 0, none⟩ = some (.int .i64 0) := (hc2 _ _ (by simp; omega)).trans (by go_simp)
      have n1 : w2.cell? ⟨w.heap.size, 1, none⟩ = some (.int .i64 0) := (hc2 _ _ (by simp; omega)).trans (by go_simp)
      have n2 : w2.cell? ⟨w.heap.size + 1, 0, none⟩ = some (.int .i64 n) := (hc2 _ _ (by simp; omega)).trans (by go_simp)
      have n3 : w2.cell? ⟨w.heap.size + 1, 1, none⟩ = some (.int .i64 1) := (hc2 _ _ (by simp; omega)).trans (by go_simp)
      have p0 : w2.frozen? ⟨w.heap.size, 0, none⟩ = false := (hf2 _ _ (by simp; omega)).trans (by go_simp)
      have p1 : w2.frozen? ⟨w.heap.size, 1, none⟩ = false := (hf2 _ _ (by simp; omega)).trans (by go_simp)
      have bf2 : Below w.heap.size w w2 := (by repeat (first | exact Below.refl _ _ | assumption | refine below_drewN ?_ _ | refine Below.setCell ?_ (by first | (simp; done) | (simp; omega)) _ | refine Below.alloc ?_ (by first | (simp; done) | (simp; omega) | omega) _ | refine Below.drew ?_ | refine Below.trans ?_ (Below.mono (by assumption) (by first | (simp; done) | (simp; omega) | omega))))
      clear m0 m1 m2 m3 o0 o1 o2 o3 hb2 hc2 hf2
      go_wp2
      refine bodyPost_ret (v := RV (n, 1, 0)) (by simp [results, Tryd.results8, go_sem, RV, n0, n1]) rfl ⟨rfl, ?_⟩
      exact (by repeat (first | exact Below.refl _ _ | assumption | refine below_drewN ?_ _ | refine Below.setCell ?_ (by first | (simp; done) | (simp; omega)) _ | refine Below.alloc ?_ (by first | (simp; done) | (simp; omega) | omega) _ | refine Below.drew ?_ | refine Below.trans ?_ (Below.mono (by assumption) (by first | (simp; done) | (simp; omega) | omega))))
set_option maxRecDepth 100000 in
set_option maxHeartbeats 3200000 in
theorem rparse_d (c : UInt8) (r : List UInt8) (n : Int) (w : World) (hl : (c :: r).length ≤ 4294967280) (hno : ∀ j (h : j < (c :: r).length), (c :: r)[j] ≠ 47) (hc45 : c = 45) (hn : 0 - Rt.numS r = n) (tx : List UInt8) (ht : Rt.textS n 1 = tx) (hne : tx ≠ c :: r) :
    Calls Tryd.prog 8 #[.string ⟨(c :: r).toArray⟩] w fun e w' => e = .returned (RV (0, 0, 5)) ∧ Below w.heap.size w w' := by
  obtain ⟨l, hL⟩ : ∃ l, c :: r = l := ⟨_, rfl⟩
  have hlr : l.length = r.length + 1 := by rw [← hL]; rfl
  have g0 : ∀ h : 0 < ByteArray.size ⟨l.toArray⟩, (⟨l.toArray⟩ : ByteArray)[0]'h = c := by subst hL; exact fun _ => rfl
  have x0 : (⟨l.toArray⟩ : ByteArray).extract 0 l.length = ⟨l.toArray⟩ := by
    apply ByteArray.ext
    simp
  have x1 : (⟨l.toArray⟩ : ByteArray).extract 1 l.length = ⟨r.toArray⟩ := by
    subst hL
    apply ByteArray.ext
    simp
  have y0 : ((c.toNat : Int) == 45) = true := by
    rw [hc45]; rfl
  have z0 : (([] : List UInt8) == l) = false := by subst hL; rfl
  have z1 : (l == ([] : List UInt8)) = false := by subst hL; rfl
  have z2 : l ≠ [] := by subst hL; exact List.cons_ne_nil _ _
  have nb := Rt.num_ge r
  rw [hL] at hl hno hne ⊢
  have hq : (tx == l) = false := by simpa using hne
  have HN := Lib.hid hne
  have HM := Lib.hid hn
  have HT := Lib.hid ht
  have h0 : 0 < l.length := by omega
  have hr : r.length ≤ 4294967280 := by omega
  clear ht hL hc45 hlr
  have hs : ((⟨l.toArray⟩ : ByteArray)).size = l.length := by simp [ByteArray.size]
  go_enter Tryd.func8, Tryd.ntmps8
  go_wp2
  go_loopw [5, 6] (fun t u wr => ∃ k : Nat, t = .int .i64 (l.length : Int) ∧ u = .int .i64 (k : Int) ∧ k ≤ l.length ∧ Below w.heap.size w wr ∧ wr.cell? ⟨w.heap.size, 0, none⟩ = some (.int .i64 0) ∧ wr.cell? ⟨w.heap.size, 1, none⟩ = some (.int .i64 0) ∧ wr.cell? ⟨w.heap.size + 1, 0, none⟩ = some (.int .i64 0) ∧ wr.cell? ⟨w.heap.size + 1, 1, none⟩ = some (.int .i64 1) ∧ wr.frozen? ⟨w.heap.size, 0, none⟩ = false ∧ wr.frozen? ⟨w.heap.size, 1, none⟩ = false ∧ wr.frozen? ⟨w.heap.size + 1, 0, none⟩ = false ∧ wr.frozen? ⟨w.heap.size + 1, 1, none⟩ = false ∧ w.heap.size + 1 < wr.heap.size) (fun _ u _ => l.length - (intOf u).toNat)
  case atStart => exact ⟨0, by simp, rfl, by omega, (by repeat (first | exact Below.refl _ _ | assumption | refine below_drewN ?_ _ | refine Below.setCell ?_ (by first | (simp; done) | (simp; omega)) _ | refine Below.alloc ?_ (by first | (simp; done) | (simp; omega) | omega) _ | refine Below.drew ?_ | refine Below.trans ?_ (Below.mono (by assumption) (by first | (simp; done) | (simp; omega) | omega)))), by go_simp, by go_simp, by go_simp, by go_simp, by go_simp, by go_simp, by go_simp, by go_simp, by simp⟩
  case round =>
    obtain ⟨k, rfl, rfl, hk, hw, c0, c1, c2, c3, f0, f1, f2, f3, hz⟩ := hrel
    by_cases hk2 : k < l.length
    · have b1 : decide ((k : Int) < (l.length : Int)) = true := by simp; omega
      have b2 : decide (k < l.length) = true := by simp; omega
      obtain ⟨c, hc⟩ : ∃ c, l[k] = c := ⟨_, rfl⟩
      have hB : ∀ h : k < ByteArray.size ⟨l.toArray⟩, (⟨l.toArray⟩ : ByteArray)[k]'h = c := fun h => hc
      have hcn := hno k hk2
      rw [hc] at hcn
      have b3 : ((c.toNat : Int) == 47) = false := by
        rw [beq_eq_false_iff_ne]
        intro e
        exact hcn (UInt8.toNat_inj.1 (by have : (47 : UInt8).toNat = 47 := rfl; omega))
      clear hc hcn g0
      go_wp2
      go_roundw
      case rel => exact ⟨k + 1, by simp, by simp, by omega, hw, c0, c1, c2, c3, f0, f1, f2, f3, hz⟩
      case measure => simp [intOf]; omega
    · have b1 : decide ((k : Int) < (l.length : Int)) = false := by simp; omega
      have b4 : decide (0 < (l.length : Int)) = true := by simp; omega
      clear hno
      go_wp2_with fail
      refine (number_any r _ (by omega)).mono ?_
      rintro e w1 ⟨rfl, hb1⟩
      have hz1 := hb1.size
      have m0 := cell_keep hb1 c0
      have m1 := cell_keep hb1 c1
      have m2 := cell_keep hb1 c2
      have m3 := cell_keep hb1 c3
      have o0 : w1.frozen? ⟨w.heap.size, 0, none⟩ = false := (hb1.frozen (p := ⟨w.heap.size, 0, none⟩) (by simp; omega)).trans f0
      have o1 : w1.frozen? ⟨w.heap.size, 1, none⟩ = false := (hb1.frozen (p := ⟨w.heap.size, 1, none⟩) (by simp; omega)).trans f1
      have o2 : w1.frozen? ⟨w.heap.size + 1, 0, none⟩ = false := (hb1.frozen (p := ⟨w.heap.size + 1, 0, none⟩) (by simp; omega)).trans f2
      have o3 : w1.frozen? ⟨w.heap.size + 1, 1, none⟩ = false := (hb1.frozen (p := ⟨w.heap.size + 1, 1, none⟩) (by simp; omega)).trans f3
      have hy1 : w.heap.size + 1 < w1.heap.size := by omega
      have bf1 : Below w.heap.size w w1 := (by repeat (first | exact Below.refl _ _ | assumption | refine below_drewN ?_ _ | refine Below.setCell ?_ (by first | (simp; done) | (simp; omega)) _ | refine Below.alloc ?_ (by first | (simp; done) | (simp; omega) | omega) _ | refine Below.drew ?_ | refine Below.trans ?_ (Below.mono (by assumption) (by first | (simp; done) | (simp; omega) | omega))))
      clear c0 c1 c2 c3 f0 f1 f2 f3 hw
      go_wp2_with fail
      refine (rtext_any _ _ _).mono ?_
      rintro e w2 ⟨rfl, hb2⟩
      rw [HT.out]
      obtain ⟨hc2, hf2⟩ := bcell hb2
      have hz2 := hb2.size
      simp at hz2
      have n0 : w2.cell? ⟨w.heap.size, 0, none⟩ = some (.int .i64 0) := (hc2 _ _ (by simp; omega)).trans (by go_simp)
      have n1 : w2.cell? ⟨w.heap.size, 1, none⟩ = some (.int .i64 0) := (hc2 _ _ (by simp; omega)).trans (by go_simp)
      have n2 : w2.cell? ⟨w.heap.size + 1, 0, none⟩ = some (.int .i64 n) := (hc2 _ _ (by simp; omega)).trans (by go_simp)
      have n3 : w2.cell? ⟨w.heap.size + 1, 1, none⟩ = some (.int .i64 1) := (hc2 _ _ (by simp; omega)).trans (by go_simp)
      have p0 : w2.frozen? ⟨w.heap.size, 0, none⟩ = false := (hf2 _ _ (by simp; omega)).trans (by go_simp)
      have p1 : w2.frozen? ⟨w.heap.size, 1, none⟩ = false := (hf2 _ _ (by simp; omega)).trans (by go_simp)
      have bf2 : Below w.heap.size w w2 := (by repeat (first | exact Below.refl _ _ | assumption | refine below_drewN ?_ _ | refine Below.setCell ?_ (by first | (simp; done) | (simp; omega)) _ | refine Below.alloc ?_ (by first | (simp; done) | (simp; omega) | omega) _ | refine Below.drew ?_ | refine Below.trans ?_ (Below.mono (by assumption) (by first | (simp; done) | (simp; omega) | omega))))
      clear m0 m1 m2 m3 o0 o1 o2 o3 hb2 hc2 hf2
      go_wp2
      refine bodyPost_ret (v := RV (0, 0, 5)) (by simp [results, Tryd.results8, go_sem, RV, n0, n1]) rfl ⟨rfl, ?_⟩
      exact (by repeat (first | exact Below.refl _ _ | assumption | refine below_drewN ?_ _ | refine Below.setCell ?_ (by first | (simp; done) | (simp; omega)) _ | refine Below.alloc ?_ (by first | (simp; done) | (simp; omega) | omega) _ | refine Below.drew ?_ | refine Below.trans ?_ (Below.mono (by assumption) (by first | (simp; done) | (simp; omega) | omega))))
end Go.Proofs.YtmdgccnpcmjpbaaDoor

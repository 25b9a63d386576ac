/- The reference implementation: the walk of Parse, texts with a stroke. -/
import Derived.Test.YtmdgccnpcmjpbaaDoorRfL
namespace Go.Proofs.YtmdgccnpcmjpbaaDoor
open Go.RowKit

set_option maxRecDepth 100000 in
set_option maxHeartbeats 3200000 in
theorem rparse_e (c : UInt8) (r : List UInt8) (A B L : List UInt8) (n d : Int) (w : World) (hA : (c :: r) = A) (hL : A ++ 47 :: B = L) (hl : L.length ≤ 4294967280) (hno : ∀ j (h : j < L.length), j < A.length → L[j] ≠ 47) (hc45 : c ≠ 45) (hn : Rt.numS A = n) (hd : Rt.numS B = d) (ht : Rt.textS n d = L) :
    Calls Tryd.prog 8 #[.string ⟨L.toArray⟩] w fun e w' => e = .returned (RV (n, d, 0)) ∧ Below w.heap.size w w' := by
  obtain ⟨m, hm⟩ : ∃ m, A.length = m := ⟨_, rfl⟩
  have hlr : L.length = m + 1 + B.length := by rw [← hL, ← hm]; simp; omega
  have hBl : B.length ≤ 4294967280 := by omega
  have hml : m < L.length := by omega
  have x2 : (⟨L.toArray⟩ : ByteArray).extract (m + 1) L.length = ⟨B.toArray⟩ := by
    subst hL hm
    apply ByteArray.ext
    simp
    rw [List.take_of_length_le (by omega)]
  have g1 : ∀ h : m < ByteArray.size ⟨L.toArray⟩, (⟨L.toArray⟩ : ByteArray)[m]'h = 47 := by
    subst hL hm
    intro h
    change (A ++ 47 :: B)[A.length] = 47
    simp
  have hmr : m = r.length + 1 := by rw [← hm, ← hA]; rfl
  have hrl : r.length ≤ 4294967280 := by omega
  have hAl : A.length ≤ 4294967280 := by omega
  have m0 : 0 < m := by omega
  have b9 : decide (0 < (m : Int)) = true := by simp; omega
  have g0 : ∀ h : 0 < ByteArray.size ⟨L.toArray⟩, (⟨L.toArray⟩ : ByteArray)[0]'h = c := by subst hL hA; exact fun _ => rfl
  have x0 : (⟨L.toArray⟩ : ByteArray).extract 0 m = ⟨A.toArray⟩ := by
    subst hL hm
    apply ByteArray.ext
    simp
  have x1 : (⟨L.toArray⟩ : ByteArray).extract 1 m = ⟨r.toArray⟩ := by
    subst hL hm hA
    apply ByteArray.ext
    simp
  have y0 : ((c.toNat : Int) == 45) = false := by
    rw [beq_eq_false_iff_ne]; intro e; exact hc45 (UInt8.toNat_inj.1 (by have : (45 : UInt8).toNat = 45 := rfl; omega))
  clear hmr hc45
  have z2 : L ≠ [] := by subst hL; exact List.append_ne_nil_of_right_ne_nil _ (List.cons_ne_nil _ _)
  have z0 : (([] : List UInt8) == L) = false := by rw [beq_eq_false_iff_ne]; exact Ne.symm z2
  have z1 : (L == ([] : List UInt8)) = false := by rw [beq_eq_false_iff_ne]; exact z2
  have nb := Rt.num_ge A
  have HM := Lib.hid hn
  have HD := Lib.hid hd
  have HT := Lib.hid ht
  rw [hm] at hno
  clear ht hL hlr hd hm hA
  have hs : ((⟨L.toArray⟩ : ByteArray)).size = L.length := by simp [ByteArray.size]
  go_enter Tryd.func8, Tryd.ntmps8
  go_wp2
  go_loopw [5, 6] (fun t u wr => ∃ k : Nat, t = .int .i64 (L.length : Int) ∧ u = .int .i64 (k : Int) ∧ k ≤ m ∧ Below w.heap.size w wr ∧ wr.cell? ⟨w.heap.size, 0, none⟩ = some (.int .i64 0) ∧ wr.cell? ⟨w.heap.size, 1, none⟩ = some (.int .i64 0) ∧ wr.cell? ⟨w.heap.size + 1, 0, none⟩ = some (.int .i64 0) ∧ wr.cell? ⟨w.heap.size + 1, 1, none⟩ = some (.int .i64 1) ∧ wr.frozen? ⟨w.heap.size, 0, none⟩ = false ∧ wr.frozen? ⟨w.heap.size, 1, none⟩ = false ∧ wr.frozen? ⟨w.heap.size + 1, 0, none⟩ = false ∧ wr.frozen? ⟨w.heap.size + 1, 1, none⟩ = false ∧ w.heap.size + 1 < wr.heap.size) (fun _ u _ => L.length - (intOf u).toNat)
  case atStart => exact ⟨0, by simp, rfl, by omega, (by repeat (first | exact Below.refl _ _ | assumption | refine below_drewN ?_ _ | refine Below.setCell ?_ (by first | (simp; done) | (simp; omega)) _ | refine Below.alloc ?_ (by first | (simp; done) | (simp; omega) | omega) _ | refine Below.drew ?_ | refine Below.trans ?_ (Below.mono (by assumption) (by first | (simp; done) | (simp; omega) | omega)))), by go_simp, by go_simp, by go_simp, by go_simp, by go_simp, by go_simp, by go_simp, by go_simp, by simp⟩
  case round =>
    obtain ⟨k, rfl, rfl, hk, hw, c0, c1, c2, c3, f0, f1, f2, f3, hz⟩ := hrel
    have b1 : decide ((k : Int) < (L.length : Int)) = true := by simp; omega
    have b2 : decide (k < L.length) = true := by simp; omega
    have hkl : k < L.length := by omega
    by_cases hk2 : k < m
    · obtain ⟨e0, hc⟩ : ∃ e0, L[k] = e0 := ⟨_, rfl⟩
      have hB : ∀ h : k < ByteArray.size ⟨L.toArray⟩, (⟨L.toArray⟩ : ByteArray)[k]'h = e0 := fun h => hc
      have hcn := hno k hkl hk2
      rw [hc] at hcn
      have b3 : ((e0.toNat : Int) == 47) = false := by
        rw [beq_eq_false_iff_ne]
        intro e
        exact hcn (UInt8.toNat_inj.1 (by have : (47 : UInt8).toNat = 47 := rfl; omega))
      clear hc hcn g1 g0
      go_wp2
      go_roundw
      case rel => exact ⟨k + 1, by simp, by simp, by omega, hw, c0, c1, c2, c3, f0, f1, f2, f3, hz⟩
      case measure => simp [intOf]; omega
    · have hkm : k = m := by omega
      subst hkm
      clear hno
      go_wp2_with fail
      refine (number_any B _ hBl).mono ?_
      rintro e w0 ⟨rfl, hb0⟩
      rw [HD.out]
      have hz0 := hb0.size
      have c0' := cell_keep hb0 c0
      have c1' := cell_keep hb0 c1
      have c2' := cell_keep hb0 c2
      have c3' := cell_keep hb0 c3
      have f0' : w0.frozen? ⟨w.heap.size, 0, none⟩ = false := (hb0.frozen (p := ⟨w.heap.size, 0, none⟩) (by simp; omega)).trans f0
      have f1' : w0.frozen? ⟨w.heap.size, 1, none⟩ = false := (hb0.frozen (p := ⟨w.heap.size, 1, none⟩) (by simp; omega)).trans f1
      have f2' : w0.frozen? ⟨w.heap.size + 1, 0, none⟩ = false := (hb0.frozen (p := ⟨w.heap.size + 1, 0, none⟩) (by simp; omega)).trans f2
      have f3' : w0.frozen? ⟨w.heap.size + 1, 1, none⟩ = false := (hb0.frozen (p := ⟨w.heap.size + 1, 1, none⟩) (by simp; omega)).trans f3
      have hy0 : w.heap.size + 1 < w0.heap.size := by omega
      have bf0 : Below w.heap.size w w0 := (by repeat (first | exact Below.refl _ _ | assumption | refine below_drewN ?_ _ | refine Below.setCell ?_ (by first | (simp; done) | (simp; omega)) _ | refine Below.alloc ?_ (by first | (simp; done) | (simp; omega) | omega) _ | refine Below.drew ?_ | refine Below.trans ?_ (Below.mono (by assumption) (by first | (simp; done) | (simp; omega) | omega))))
      clear c0 c1 c2 c3 f0 f1 f2 f3 hw hb0
      go_wp2_with fail
      refine (number_any A _ (by assumption)).mono ?_
      rintro e w1 ⟨rfl, hb1⟩
      obtain ⟨q1, q2⟩ := bcell hb1
      have hz1 := hb1.size
      simp at hz1
      have m0 : w1.cell? ⟨w.heap.size, 0, none⟩ = some (.int .i64 0) := (q1 _ _ (by simp; omega)).trans (by go_simp)
      have m1 : w1.cell? ⟨w.heap.size, 1, none⟩ = some (.int .i64 0) := (q1 _ _ (by simp; omega)).trans (by go_simp)
      have m2 : w1.cell? ⟨w.heap.size + 1, 0, none⟩ = some (.int .i64 0) := (q1 _ _ (by simp; omega)).trans (by go_simp)
      have m3 : w1.cell? ⟨w.heap.size + 1, 1, none⟩ = some (.int .i64 d) := (q1 _ _ (by simp; omega)).trans (by go_simp)
      have o0 : w1.frozen? ⟨w.heap.size, 0, none⟩ = false := (q2 _ _ (by simp; omega)).trans (by go_simp)
      have o1 : w1.frozen? ⟨w.heap.size, 1, none⟩ = false := (q2 _ _ (by simp; omega)).trans (by go_simp)
      have o2 : w1.frozen? ⟨w.heap.size + 1, 0, none⟩ = false := (q2 _ _ (by simp; omega)).trans (by go_simp)
      have hy1 : w.heap.size + 1 < w1.heap.size := by omega
      have bf1 : Below w.heap.size w w1 := (by repeat (first | exact Below.refl _ _ | assumption | refine below_drewN ?_ _ | refine Below.setCell ?_ (by first | (simp; done) | (simp; omega)) _ | refine Below.alloc ?_ (by first | (simp; done) | (simp; omega) | omega) _ | refine Below.drew ?_ | refine Below.trans ?_ (Below.mono (by assumption) (by first | (simp; done) | (simp; omega) | omega))))
      clear c0' c1' c2' c3' f0' f1' f2' f3' q1 q2 hb1
      go_wp2_with fail
      refine (rtext_any _ _ _).mono ?_
      rintro e w2 ⟨rfl, hb2⟩
      rw [HT.out]
      obtain ⟨hc2, hf2⟩ := bcell hb2
      have hz2 := hb2.size
      simp at hz2
      have n0 : w2.cell? ⟨w.heap.size, 0, none⟩ = some (.int .i64 0) := (hc2 _ _ (by simp; omega)).trans (by go_simp)
      have n1 : w2.cell? ⟨w.heap.size, 1, none⟩ = some (.int .i64 0) := (hc2 _ _ (by simp; omega)).trans (by go_simp)
      have n2 : w2.cell? ⟨w.heap.size + 1, 0, none⟩ = some (.int .i64 n) := (hc2 _ _ (by simp; omega)).trans (by go_simp)
      have n3 : w2.cell? ⟨w.heap.size + 1, 1, none⟩ = some (.int .i64 d) := (hc2 _ _ (by simp; omega)).trans (by go_simp)
      have p0 : w2.frozen? ⟨w.heap.size, 0, none⟩ = false := (hf2 _ _ (by simp; omega)).trans (by go_simp)
      have p1 : w2.frozen? ⟨w.heap.size, 1, none⟩ = false := (hf2 _ _ (by simp; omega)).trans (by go_simp)
      have bf2 : Below w.heap.size w w2 := (by repeat (first | exact Below.refl _ _ | assumption | refine below_drewN ?_ _ | refine Below.setCell ?_ (by first | (simp; done) | (simp; omega)) _ | refine Below.alloc ?_ (by first | (simp; done) | (simp; omega) | omega) _ | refine Below.drew ?_ | refine Below.trans ?_ (Below.mono (by assumption) (by first | (simp; done) | (simp; omega) | omega))))
      clear m0 m1 m2 m3 o0 o1 o2 hb2 hc2 hf2
      go_wp2
      refine bodyPost_ret (v := RV (n, d, 0)) (by simp [results, Tryd.results8, go_sem, RV, n0, n1]) rfl ⟨rfl, ?_⟩
      exact (by repeat (first | exact Below.refl _ _ | assumption | refine below_drewN ?_ _ | refine Below.setCell ?_ (by first | (simp; done) | (simp; omega)) _ | refine Below.alloc ?_ (by first | (simp; done) | (simp; omega) | omega) _ | refine Below.drew ?_ | refine Below.trans ?_ (Below.mono (by assumption) (by first | (simp; done) | (simp; omega) | omega))))
set_option maxRecDepth 100000 in
set_option maxHeartbeats 3200000 in
theorem rparse_f (c : UInt8) (r : List UInt8) (A B L : List UInt8) (n d : Int) (w : World) (hA : (c :: r) = A) (hL : A ++ 47 :: B = L) (hl : L.length ≤ 4294967280) (hno : ∀ j (h : j < L.length), j < A.length → L[j] ≠ 47) (hc45 : c ≠ 45) (hn : Rt.numS A = n) (hd : Rt.numS B = d) (tx : List UInt8) (ht : Rt.textS n d = tx) (hne : tx ≠ L) :
    Calls Tryd.prog 8 #[.string ⟨L.toArray⟩] w fun e w' => e = .returned (RV (0, 0, 5)) ∧ Below w.heap.size w w' := by
  obtain ⟨m, hm⟩ : ∃ m, A.length = m := ⟨_, rfl⟩
  have hlr : L.length = m + 1 + B.length := by rw [← hL, ← hm]; simp; omega
  have hBl : B.length ≤ 4294967280 := by omega
  have hml : m < L.length := by omega
  have x2 : (⟨L.toArray⟩ : ByteArray).extract (m + 1) L.length = ⟨B.toArray⟩ := by
    subst hL hm
    apply ByteArray.ext
    simp
    rw [List.take_of_length_le (by omega)]
  have g1 : ∀ h : m < ByteArray.size ⟨L.toArray⟩, (⟨L.toArray⟩ : ByteArray)[m]'h = 47 := by
    subst hL hm
    intro h
    change (A ++ 47 :: B)[A.length] = 47
    simp
  have hmr : m = r.length + 1 := by rw [← hm, ← hA]; rfl
  have hrl : r.length ≤ 4294967280 := by omega
  have hAl : A.length ≤ 4294967280 := by omega
  have m0 : 0 < m := by omega
  have b9 : decide (0 < (m : Int)) = true := by simp; omega
  have g0 : ∀ h : 0 < ByteArray.size ⟨L.toArray⟩, (⟨L.toArray⟩ : ByteArray)[0]'h = c := by subst hL hA; exact fun _ => rfl
  have x0 : (⟨L.toArray⟩ : ByteArray).extract 0 m = ⟨A.toArray⟩ := by
    subst hL hm
    apply ByteArray.ext
    simp
  have x1 : (⟨L.toArray⟩ : ByteArray).extract 1 m = ⟨r.toArray⟩ := by
    subst hL hm hA
    apply ByteArray.ext
    simp
  have y0 : ((c.toNat : Int) == 45) = false := by
    rw [beq_eq_false_iff_ne]; intro e; exact hc45 (UInt8.toNat_inj.1 (by have : (45 : UInt8).toNat = 45 := rfl; omega))
  clear hmr hc45
  have z2 : L ≠ [] := by subst hL; exact List.append_ne_nil_of_right_ne_nil _ (List.cons_ne_nil _ _)
  have z0 : (([] : List UInt8) == L) = false := by rw [beq_eq_false_iff_ne]; exact Ne.symm z2
  have z1 : (L == ([] : List UInt8)) = false := by rw [beq_eq_false_iff_ne]; exact z2
  have nb := Rt.num_ge A
  have hq : (tx == L) = false := by simpa using hne
  have HN := Lib.hid hne
  have HM := Lib.hid hn
  have HD := Lib.hid hd
  have HT := Lib.hid ht
  rw [hm] at hno
  clear ht hL hlr hd hm hA hne
  have hs : ((⟨L.toArray⟩ : ByteArray)).size = L.length := by simp [ByteArray.size]
  go_enter Tryd.func8, Tryd.ntmps8
  go_wp2
  go_loopw [5, 6] (fun t u wr => ∃ k : Nat, t = .int .i64 (L.length : Int) ∧ u = .int .i64 (k : Int) ∧ k ≤ m ∧ Below w.heap.size w wr ∧ wr.cell? ⟨w.heap.size, 0, none⟩ = some (.int .i64 0) ∧ wr.cell? ⟨w.heap.size, 1, none⟩ = some (.int .i64 0) ∧ wr.cell? ⟨w.heap.size + 1, 0, none⟩ = some (.int .i64 0) ∧ wr.cell? ⟨w.heap.size + 1, 1, none⟩ = some (.int .i64 1) ∧ wr.frozen? ⟨w.heap.size, 0, none⟩ = false ∧ wr.frozen? ⟨w.heap.size, 1, none⟩ = false ∧ wr.frozen? ⟨w.heap.size + 1, 0, none⟩ = false ∧ wr.frozen? ⟨w.heap.size + 1, 1, none⟩ = false ∧ w.heap.size + 1 < wr.heap.size) (fun _ u _ => L.length - (intOf u).toNat)
  case atStart => exact ⟨0, by simp, rfl, by omega, (by repeat (first | exact Below.refl _ _ | assumption | refine below_drewN ?_ _ | refine Below.setCell ?_ (by first | (simp; done) | (simp; omega)) _ | refine Below.alloc ?_ (by first | (simp; done) | (simp; omega) | omega) _ | refine Below.drew ?_ | refine Below.trans ?_ (Below.mono (by assumption) (by first | (simp; done) | (simp; omega) | omega)))), by go_simp, by go_simp, by go_simp, by go_simp, by go_simp, by go_simp, by go_simp, by go_simp, by simp⟩
  case round =>
    obtain ⟨k, rfl, rfl, hk, hw, c0, c1, c2, c3, f0, f1, f2, f3, hz⟩ := hrel
    have b1 : decide ((k : Int) < (L.length : Int)) = true := by simp; omega
    have b2 : decide (k < L.length) = true := by simp; omega
    have hkl : k < L.length := by omega
    by_cases hk2 : k < m
    · obtain ⟨e0, hc⟩ : ∃ e0, L[k] = e0 := ⟨_, rfl⟩
      have hB : ∀ h : k < ByteArray.size ⟨L.toArray⟩, (⟨L.toArray⟩ : ByteArray)[k]'h = e0 := fun h => hc
      have hcn := hno k hkl hk2
      rw [hc] at hcn
      have b3 : ((e0.toNat : Int) == 47) = false := by
        rw [beq_eq_false_iff_ne]
        intro e
        exact hcn (UInt8.toNat_inj.1 (by have : (47 : UInt8).toNat = 47 := rfl; omega))
      clear hc hcn g1 g0
      go_wp2
      go_roundw
      case rel => exact ⟨k + 1, by simp, by simp, by omega, hw, c0, c1, c2, c3, f0, f1, f2, f3, hz⟩
      case measure => simp [intOf]; omega
    · have hkm : k = m := by omega
      subst hkm
      clear hno
      go_wp2_with fail
      refine (number_any B _ hBl).mono ?_
      rintro e w0 ⟨rfl, hb0⟩
      rw [HD.out]
      have hz0 := hb0.size
      have c0' := cell_keep hb0 c0
      have c1' := cell_keep hb0 c1
      have c2' := cell_keep hb0 c2
      have c3' := cell_keep hb0 c3
      have f0' : w0.frozen? ⟨w.heap.size, 0, none⟩ = false := (hb0.frozen (p := ⟨w.heap.size, 0, none⟩) (by simp; omega)).trans f0
      have f1' : w0.frozen? ⟨w.heap.size, 1, none⟩ = false := (hb0.frozen (p := ⟨w.heap.size, 1, none⟩) (by simp; omega)).trans f1
      have f2' : w0.frozen? ⟨w.heap.size + 1, 0, none⟩ = false := (hb0.frozen (p := ⟨w.heap.size + 1, 0, none⟩) (by simp; omega)).trans f2
      have f3' : w0.frozen? ⟨w.heap.size + 1, 1, none⟩ = false := (hb0.frozen (p := ⟨w.heap.size + 1, 1, none⟩) (by simp; omega)).trans f3
      have hy0 : w.heap.size + 1 < w0.heap.size := by omega
      have bf0 : Below w.heap.size w w0 := (by repeat (first | exact Below.refl _ _ | assumption | refine below_drewN ?_ _ | refine Below.setCell ?_ (by first | (simp; done) | (simp; omega)) _ | refine Below.alloc ?_ (by first | (simp; done) | (simp; omega) | omega) _ | refine Below.drew ?_ | refine Below.trans ?_ (Below.mono (by assumption) (by first | (simp; done) | (simp; omega) | omega))))
      clear c0 c1 c2 c3 f0 f1 f2 f3 hw hb0
      go_wp2_with fail
      refine (number_any A _ (by assumption)).mono ?_
      rintro e w1 ⟨rfl, hb1⟩
      obtain ⟨q1, q2⟩ := bcell hb1
      have hz1 := hb1.size
      simp at hz1
      have m0 : w1.cell? ⟨w.heap.size, 0, none⟩ = some (.int .i64 0) := (q1 _ _ (by simp; omega)).trans (by go_simp)
      have m1 : w1.cell? ⟨w.heap.size, 1, none⟩ = some (.int .i64 0) := (q1 _ _ (by simp; omega)).trans (by go_simp)
      have m2 : w1.cell? ⟨w.heap.size + 1, 0, none⟩ = some (.int .i64 0) := (q1 _ _ (by simp; omega)).trans (by go_simp)
      have m3 : w1.cell? ⟨w.heap.size + 1, 1, none⟩ = some (.int .i64 d) := (q1 _ _ (by simp; omega)).trans (by go_simp)
      have o0 : w1.frozen? ⟨w.heap.size, 0, none⟩ = false := (q2 _ _ (by simp; omega)).trans (by go_simp)
      have o1 : w1.frozen? ⟨w.heap.size, 1, none⟩ = false := (q2 _ _ (by simp; omega)).trans (by go_simp)
      have o2 : w1.frozen? ⟨w.heap.size + 1, 0, none⟩ = false := (q2 _ _ (by simp; omega)).trans (by go_simp)
      have hy1 : w.heap.size + 1 < w1.heap.size := by omega
      have bf1 : Below w.heap.size w w1 := (by repeat (first | exact Below.refl _ _ | assumption | refine below_drewN ?_ _ | refine Below.setCell ?_ (by first | (simp; done) | (simp; omega)) _ | refine Below.alloc ?_ (by first | (simp; done) | (simp; omega) | omega) _ | refine Below.drew ?_ | refine Below.trans ?_ (Below.mono (by assumption) (by first | (simp; done) | (simp; omega) | omega))))
      clear c0' c1' c2' c3' f0' f1' f2' f3' q1 q2 hb1
      go_wp2_with fail
      refine (rtext_any _ _ _).mono ?_
      rintro e w2 ⟨rfl, hb2⟩
      rw [HT.out]
      obtain ⟨hc2, hf2⟩ := bcell hb2
      have hz2 := hb2.size
      simp at hz2
      have n0 : w2.cell? ⟨w.heap.size, 0, none⟩ = some (.int .i64 0) := (hc2 _ _ (by simp; omega)).trans (by go_simp)
      have n1 : w2.cell? ⟨w.heap.size, 1, none⟩ = some (.int .i64 0) := (hc2 _ _ (by simp; omega)).trans (by go_simp)
      have n2 : w2.cell? ⟨w.heap.size + 1, 0, none⟩ = some (.int .i64 n) := (hc2 _ _ (by simp; omega)).trans (by go_simp)
      have n3 : w2.cell? ⟨w.heap.size + 1, 1, none⟩ = some (.int .i64 d) := (hc2 _ _ (by simp; omega)).trans (by go_simp)
      have p0 : w2.frozen? ⟨w.heap.size, 0, none⟩ = false := (hf2 _ _ (by simp; omega)).trans (by go_simp)
      have p1 : w2.frozen? ⟨w.heap.size, 1, none⟩ = false := (hf2 _ _ (by simp; omega)).trans (by go_simp)
      have bf2 : Below w.heap.size w w2 := (by repeat (first | exact Below.refl _ _ | assumption | refine below_drewN ?_ _ | refine Below.setCell ?_ (by first | (simp; done) | (simp; omega)) _ | refine Below.alloc ?_ (by first | (simp; done) | (simp; omega) | omega) _ | refine Below.drew ?_ | refine Below.trans ?_ (Below.mono (by assumption) (by first | (simp; done) | (simp; omega) | omega))))
      clear m0 m1 m2 m3 o0 o1 o2 hb2 hc2 hf2
      go_wp2
      refine bodyPost_ret (v := RV (0, 0, 5)) (by simp [results, Tryd.results8, go_sem, RV, n0, n1]) rfl ⟨rfl, ?_⟩
      exact (by repeat (first | exact Below.refl _ _ | assumption | refine below_drewN ?_ _ | refine Below.setCell ?_ (by first | (simp; done) | (simp; omega)) _ | refine Below.alloc ?_ (by first | (simp; done) | (simp; omega) | omega) _ | refine Below.drew ?_ | refine Below.trans ?_ (Below.mono (by assumption) (by first | (simp; done) | (simp; omega) | omega))))
set_option maxRecDepth 100000 in
set_option maxHeartbeats 3200000 in
theorem rparse_g (c : UInt8) (r : List UInt8) (A B L : List UInt8) (n d : Int) (w : World) (hA : (c :: r) = A) (hL : A ++ 47 :: B = L) (hl : L.length ≤ 4294967280) (hno : ∀ j (h : j < L.length), j < A.length → L[j] ≠ 47) (hc45 : c = 45) (hn : 0 - Rt.numS r = n) (hd : Rt.numS B = d) (ht : Rt.textS n d = L) :
    Calls Tryd.prog 8 #[.string ⟨L.toArray⟩] w fun e w' => e = .returned (RV (n, d, 0)) ∧ Below w.heap.size w w' := by
  obtain ⟨m, hm⟩ : ∃ m, A.length = m := ⟨_, rfl⟩
  have hlr : L.length = m + 1 + B.length := by rw [← hL, ← hm]; simp; omega
  have hBl : B.length ≤ 4294967280 := by omega
  have hml : m < L.length := by omega
  have x2 : (⟨L.toArray⟩ : ByteArray).extract (m + 1) L.length = ⟨B.toArray⟩ := by
    subst hL hm
    apply ByteArray.ext
    simp
    rw [List.take_of_length_le (by omega)]
  have g1 : ∀ h : m < ByteArray.size ⟨L.toArray⟩, (⟨L.toArray⟩ : ByteArray)[m]'h = 47 := by
    subst hL hm
    intro h
    change (A ++ 47 :: B)[A.length] = 47
    simp
  have hmr : m = r.length + 1 := by rw [← hm, ← hA]; rfl
  have hrl : r.length ≤ 4294967280 := by omega
  have hAl : A.length ≤ 4294967280 := by omega
  have m0 : 0 < m := by omega
  have b9 : decide (0 < (m : Int)) = true := by simp; omega
  have g0 : ∀ h : 0 < ByteArray.size ⟨L.toArray⟩, (⟨L.toArray⟩ : ByteArray)[0]'h = c := by subst hL hA; exact fun _ => rfl
  have x0 : (⟨L.toArray⟩ : ByteArray).extract 0 m = ⟨A.toArray⟩ := by
    subst hL hm
    apply ByteArray.ext
    simp
  have x1 : (⟨L.toArray⟩ : ByteArray).extract 1 m = ⟨r.toArray⟩ := by
    subst hL hm hA
    apply ByteArray.ext
    simp
  have y0 : ((c.toNat : Int) == 45) = true := by
    rw [hc45]; rfl
  clear hmr hc45
  have z2 : L ≠ [] := by subst hL; exact List.append_ne_nil_of_right_ne_nil _ (List.cons_ne_nil _ _)
  have z0 : (([] : List UInt8) == L) = false := by rw [beq_eq_false_iff_ne]; exact Ne.symm z2
  have z1 : (L == ([] : List UInt8)) = false := by rw [beq_eq_false_iff_ne]; exact z2
  have nb := Rt.num_ge r
  have HM := Lib.hid hn
  have HD := Lib.hid hd
  have HT := Lib.hid ht
  rw [hm] at hno
  clear ht hL hlr hd hm hA
  have hs : ((⟨L.toArray⟩ : ByteArray)).size = L.length := by simp [ByteArray.size]
  go_enter Tryd.func8, Tryd.ntmps8
  go_wp2
  go_loopw [5, 6] (fun t u wr => ∃ k : Nat, t = .int .i64 (L.length : Int) ∧ u = .int .i64 (k : Int) ∧ k ≤ m ∧ Below w.heap.size w wr ∧ wr.cell? ⟨w.heap.size, 0, none⟩ = some (.int .i64 0) ∧ wr.cell? ⟨w.heap.size, 1, none⟩ = some (.int .i64 0) ∧ wr.cell? ⟨w.heap.size + 1, 0, none⟩ = some (.int .i64 0) ∧ wr.cell? ⟨w.heap.size + 1, 1, none⟩ = some (.int .i64 1) ∧ wr.frozen? ⟨w.heap.size, 0, none⟩ = false ∧ wr.frozen? ⟨w.heap.size, 1, none⟩ = false ∧ wr.frozen? ⟨w.heap.size + 1, 0, none⟩ = false ∧ wr.frozen? ⟨w.heap.size + 1, 1, none⟩ = false ∧ w.heap.size + 1 < wr.heap.size) (fun _ u _ => L.length - (intOf u).toNat)
  case atStart => exact ⟨0, by simp, rfl, by omega, (by repeat (first | exact Below.refl _ _ | assumption | refine below_drewN ?_ _ | refine Below.setCell ?_ (by first | (simp; done) | (simp; omega)) _ | refine Below.alloc ?_ (by first | (simp; done) | (simp; omega) | omega) _ | refine Below.drew ?_ | refine Below.trans ?_ (Below.mono (by assumption) (by first | (simp; done) | (simp; omega) | omega)))), by go_simp, by go_simp, by go_simp, by go_simp, by go_simp, by go_simp, by go_simp, by go_simp, by simp⟩
  case round =>
    obtain ⟨k, rfl, rfl, hk, hw, c0, c1, c2, c3, f0, f1, f2, f3, hz⟩ := hrel
    have b1 : decide ((k : Int) < (L.length : Int)) = true := by simp; omega
    have b2 : decide (k < L.length) = true := by simp; omega
    have hkl : k < L.length := by omega
    by_cases hk2 : k < m
    · obtain ⟨e0, hc⟩ : ∃ e0, L[k] = e0 := ⟨_, rfl⟩
      have hB : ∀ h : k < ByteArray.size ⟨L.toArray⟩, (⟨L.toArray⟩ : ByteArray)[k]'h = e0 := fun h => hc
      have hcn := hno k hkl hk2
      rw [hc] at hcn
      have b3 : ((e0.toNat : Int) == 47) = false := by
        rw [beq_eq_false_iff_ne]
        intro e
        exact hcn (UInt8.toNat_inj.1 (by have : (47 : UInt8).toNat = 47 := rfl; omega))
      clear hc hcn g1 g0
      go_wp2
      go_roundw
      case rel => exact ⟨k + 1, by simp, by simp, by omega, hw, c0, c1, c2, c3, f0, f1, f2, f3, hz⟩
      case measure => simp [intOf]; omega
    · have hkm : k = m := by omega
      subst hkm
      clear hno
      go_wp2_with fail
      refine (number_any B _ hBl).mono ?_
      rintro e w0 ⟨rfl, hb0⟩
      rw [HD.out]
      have hz0 := hb0.size
      have c0' := cell_keep hb0 c0
      have c1' := cell_keep hb0 c1
      have c2' := cell_keep hb0 c2
      have c3' := cell_keep hb0 c3
      have f0' : w0.frozen? ⟨w.heap.size, 0, none⟩ = false := (hb0.frozen (p := ⟨w.heap.size, 0, none⟩) (by simp; omega)).trans f0
      have f1' : w0.frozen? ⟨w.heap.size, 1, none⟩ = false := (hb0.frozen (p := ⟨w.heap.size, 1, none⟩) (by simp; omega)).trans f1
      have f2' : w0.frozen? ⟨w.heap.size + 1, 0, none⟩ = false := (hb0.frozen (p := ⟨w.heap.size + 1, 0, none⟩) (by simp; omega)).trans f2
      have f3' : w0.frozen? ⟨w.heap.size + 1, 1, none⟩ = false := (hb0.frozen (p := ⟨w.heap.size + 1, 1, none⟩) (by simp; omega)).trans f3
      have hy0 : w.heap.size + 1 < w0.heap.size := by omega
      have bf0 : Below w.heap.size w w0 := (by repeat (first | exact Below.refl _ _ | assumption | refine below_drewN ?_ _ | refine Below.setCell ?_ (by first | (simp; done) | (simp; omega)) _ | refine Below.alloc ?_ (by first | (simp; done) | (simp; omega) | omega) _ | refine Below.drew ?_ | refine Below.trans ?_ (Below.mono (by assumption) (by first | (simp; done) | (simp; omega) | omega))))
      clear c0 c1 c2 c3 f0 f1 f2 f3 hw hb0
      go_wp2_with fail
      refine (number_any r _ (by assumption)).mono ?_
      rintro e w1 ⟨rfl, hb1⟩
      obtain ⟨q1, q2⟩ := bcell hb1
      have hz1 := hb1.size
      simp at hz1
      have m0 : w1.cell? ⟨w.heap.size, 0, none⟩ = some (.int .i64 0) := (q1 _ _ (by simp; omega)).trans (by go_simp)
      have m1 : w1.cell? ⟨w.heap.size, 1, none⟩ = some (.int .i64 0) := (q1 _ _ (by simp; omega)).trans (by go_simp)
      have m2 : w1.cell? ⟨w.heap.size + 1, 0, none⟩ = some (.int .i64 0) := (q1 _ _ (by simp; omega)).trans (by go_simp)
      have m3 : w1.cell? ⟨w.heap.size + 1, 1, none⟩ = some (.int .i64 d) := (q1 _ _ (by simp; omega)).trans (by go_simp)
      have o0 : w1.frozen? ⟨w.heap.size, 0, none⟩ = false := (q2 _ _ (by simp; omega)).trans (by go_simp)
      have o1 : w1.frozen? ⟨w.heap.size, 1, none⟩ = false := (q2 _ _ (by simp; omega)).trans (by go_simp)
      have o2 : w1.frozen? ⟨w.heap.size + 1, 0, none⟩ = false := (q2 _ _ (by simp; omega)).trans (by go_simp)
      have hy1 : w.heap.size + 1 < w1.heap.size := by omega
      have bf1 : Below w.heap.size w w1 := (by repeat (first | exact Below.refl _ _ | assumption | refine below_drewN ?_ _ | refine Below.setCell ?_ (by first | (simp; done) | (simp; omega)) _ | refine Below.alloc ?_ (by first | (simp; done) | (simp; omega) | omega) _ | refine Below.drew ?_ | refine Below.trans ?_ (Below.mono (by assumption) (by first | (simp; done) | (simp; omega) | omega))))
      clear c0' c1' c2' c3' f0' f1' f2' f3' q1 q2 hb1
      go_wp2_with fail
      refine (rtext_any _ _ _).mono ?_
      rintro e w2 ⟨rfl, hb2⟩
      rw [HT.out]
      obtain ⟨hc2, hf2⟩ := bcell hb2
      have hz2 := hb2.size
      simp at hz2
      have n0 : w2.cell? ⟨w.heap.size, 0, none⟩ = some (.int .i64 0) := (hc2 _ _ (by simp; omega)).trans (by go_simp)
      have n1 : w2.cell? ⟨w.heap.size, 1, none⟩ = some (.int .i64 0) := (hc2 _ _ (by simp; omega)).trans (by go_simp)
      have n2 : w2.cell? ⟨w.heap.size + 1, 0, none⟩ = some (.int .i64 n) := (hc2 _ _ (by simp; omega)).trans (by go_simp)
      have n3 : w2.cell? ⟨w.heap.size + 1, 1, none⟩ = some (.int .i64 d) := (hc2 _ _ (by simp; omega)).trans (by go_simp)
      have p0 : w2.frozen? ⟨w.heap.size, 0, none⟩ = false := (hf2 _ _ (by simp; omega)).trans (by go_simp)
      have p1 : w2.frozen? ⟨w.heap.size, 1, none⟩ = false := (hf2 _ _ (by simp; omega)).trans (by go_simp)
      have bf2 : Below w.heap.size w w2 := (by repeat (first | exact Below.refl _ _ | assumption | refine below_drewN ?_ _ | refine Below.setCell ?_ (by first | (simp; done) | (simp; omega)) _ | refine Below.alloc ?_ (by first | (simp; done) | (simp; omega) | omega) _ | refine Below.drew ?_ | refine Below.trans ?_ (Below.mono (by assumption) (by first | (simp; done) | (simp; omega) | omega))))
      clear m0 m1 m2 m3 o0 o1 o2 hb2 hc2 hf2
      go_wp2
      refine bodyPost_ret (v := RV (n, d, 0)) (by simp [results, Tryd.results8, go_sem, RV, n0, n1]) rfl ⟨rfl, ?_⟩
      exact (by repeat (first | exact Below.refl _ _ | assumption | refine below_drewN ?_ _ | refine Below.setCell ?_ (by first | (simp; done) | (simp; omega)) _ | refine Below.alloc ?_ (by first | (simp; done) | (simp; omega) | omega) _ | refine Below.drew ?_ | refine Below.trans ?_ (Below.mono (by assumption) (by first | (simp; done) | (simp; omega) | omega))))
set_option maxRecDepth 100000 in
set_option maxHeartbeats 3200000 in
theorem rparse_h (c : UInt8) (r : List UInt8) (A B L : List UInt8) (n d : Int) (w : World) (hA : (c :: r) = A) (hL : A ++ 47 :: B = L) (hl : L.length ≤ 4294967280) (hno : ∀ j (h : j < L.length), j < A.length → L[j] ≠ 47) (hc45 : c = 45) (hn : 0 - Rt.numS r = n) (hd : Rt.numS B = d) (tx : List UInt8) (ht : Rt.textS n d = tx) (hne : tx ≠ L) :
    Calls Tryd.prog 8 #[.string ⟨L.toArray⟩] w fun e w' => e = .returned (RV (0, 0, 5)) ∧ Below w.heap.size w w' := by
  obtain ⟨m, hm⟩ : ∃ m, A.length = m := ⟨_, rfl⟩
  have hlr : L.length = m + 1 + B.length := by rw [← hL, ← hm]; simp; omega
  have hBl : B.length ≤ 4294967280 := by omega
  have hml : m < L.length := by omega
  have x2 : (⟨L.toArray⟩ : ByteArray).extract (m + 1) L.length = ⟨B.toArray⟩ := by
    subst hL hm
    apply ByteArray.ext
    simp
    rw [List.take_of_length_le (by omega)]
  have g1 : ∀ h : m < ByteArray.size ⟨L.toArray⟩, (⟨L.toArray⟩ : ByteArray)[m]'h = 47 := by
    subst hL hm
    intro h
    change (A ++ 47 :: B)[A.length] = 47
    simp
  have hmr : m = r.length + 1 := by rw [← hm, ← hA]; rfl
  have hrl : r.length ≤ 4294967280 := by omega
  have hAl : A.length ≤ 4294967280 := by omega
  have m0 : 0 < m := by omega
  have b9 : decide (0 < (m : Int)) = true := by simp; omega
  have g0 : ∀ h : 0 < ByteArray.size ⟨L.toArray⟩, (⟨L.toArray⟩ : ByteArray)[0]'h = c := by subst hL hA; exact fun _ => rfl
  have x0 : (⟨L.toArray⟩ : ByteArray).extract 0 m = ⟨A.toArray⟩ := by
    subst hL hm
    apply ByteArray.ext
    simp
  have x1 : (⟨L.toArray⟩ : ByteArray).extract 1 m = ⟨r.toArray⟩ := by
    subst hL hm hA
    apply ByteArray.ext
    simp
  have y0 : ((c.toNat : Int) == 45) = true := by
    rw [hc45]; rfl
  clear hmr hc45
  have z2 : L ≠ [] := by subst hL; exact List.append_ne_nil_of_right_ne_nil _ (List.cons_ne_nil _ _)
  have z0 : (([] : List UInt8) == L) = false := by rw [beq_eq_false_iff_ne]; exact Ne.symm z2
  have z1 : (L == ([] : List UInt8)) = false := by rw [beq_eq_false_iff_ne]; exact z2
  have nb := Rt.num_ge r
  have hq : (tx == L) = false := by simpa using hne
  have HN := Lib.hid hne
  have HM := Lib.hid hn
  have HD := Lib.hid hd
  have HT := Lib.hid ht
  rw [hm] at hno
  clear ht hL hlr hd hm hA hne
  have hs : ((⟨L.toArray⟩ : ByteArray)).size = L.length := by simp [ByteArray.size]
  go_enter Tryd.func8, Tryd.ntmps8
  go_wp2
  go_loopw [5, 6] (fun t u wr => ∃ k : Nat, t = .int .i64 (L.length : Int) ∧ u = .int .i64 (k : Int) ∧ k ≤ m ∧ Below w.heap.size w wr ∧ wr.cell? ⟨w.heap.size, 0, none⟩ = some (.int .i64 0) ∧ wr.cell? ⟨w.heap.size, 1, none⟩ = some (.int .i64 0) ∧ wr.cell? ⟨w.heap.size + 1, 0, none⟩ = some (.int .i64 0) ∧ wr.cell? ⟨w.heap.size + 1, 1, none⟩ = some (.int .i64 1) ∧ wr.frozen? ⟨w.heap.size, 0, none⟩ = false ∧ wr.frozen? ⟨w.heap.size, 1, none⟩ = false ∧ wr.frozen? ⟨w.heap.size + 1, 0, none⟩ = false ∧ wr.frozen? ⟨w.heap.size + 1, 1, none⟩ = false ∧ w.heap.size + 1 < wr.heap.size) (fun _ u _ => L.length - (intOf u).toNat)
  case atStart => exact ⟨0, by simp, rfl, by omega, (by repeat (first | exact Below.refl _ _ | assumption | refine below_drewN ?_ _ | refine Below.setCell ?_ (by first | (simp; done) | (simp; omega)) _ | refine Below.alloc ?_ (by first | (simp; done) | (simp; omega) | omega) _ | refine Below.drew ?_ | refine Below.trans ?_ (Below.mono (by assumption) (by first | (simp; done) | (simp; omega) | omega)))), by go_simp, by go_simp, by go_simp, by go_simp, by go_simp, by go_simp, by go_simp, by go_simp, by simp⟩
  case round =>
    obtain ⟨k, rfl, rfl, hk, hw, c0, c1, c2, c3, f0, f1, f2, f3, hz⟩ := hrel
    have b1 : decide ((k : Int) < (L.length : Int)) = true := by simp; omega
    have b2 : decide (k < L.length) = true := by simp; omega
    have hkl : k < L.length := by omega
    by_cases hk2 : k < m
    · obtain ⟨e0, hc⟩ : ∃ e0, L[k] = e0 := ⟨_, rfl⟩
      have hB : ∀ h : k < ByteArray.size ⟨L.toArray⟩, (⟨L.toArray⟩ : ByteArray)[k]'h = e0 := fun h => hc
      have hcn := hno k hkl hk2
      rw [hc] at hcn
      have b3 : ((e0.toNat : Int) == 47) = false := by
        rw [beq_eq_false_iff_ne]
        intro e
        exact hcn (UInt8.toNat_inj.1 (by have : (47 : UInt8).toNat = 47 := rfl; omega))
      clear hc hcn g1 g0
      go_wp2
      go_roundw
      case rel => exact ⟨k + 1, by simp, by simp, by omega, hw, c0, c1, c2, c3, f0, f1, f2, f3, hz⟩
      case measure => simp [intOf]; omega
    · have hkm : k = m := by omega
      subst hkm
      clear hno
      go_wp2_with fail
      refine (number_any B _ hBl).mono ?_
      rintro e w0 ⟨rfl, hb0⟩
      rw [HD.out]
      have hz0 := hb0.size
      have c0' := cell_keep hb0 c0
      have c1' := cell_keep hb0 c1
      have c2' := cell_keep hb0 c2
      have c3' := cell_keep hb0 c3
      have f0' : w0.frozen? ⟨w.heap.size, 0, none⟩ = false := (hb0.frozen (p := ⟨w.heap.size, 0, none⟩) (by simp; omega)).trans f0
      have f1' : w0.frozen? ⟨w.heap.size, 1, none⟩ = false := (hb0.frozen (p := ⟨w.heap.size, 1, none⟩) (by simp; omega)).trans f1
      have f2' : w0.frozen? ⟨w.heap.size + 1, 0, none⟩ = false := (hb0.frozen (p := ⟨w.heap.size + 1, 0, none⟩) (by simp; omega)).trans f2
      have f3' : w0.frozen? ⟨w.heap.size + 1, 1, none⟩ = false := (hb0.frozen (p := ⟨w.heap.size + 1, 1, none⟩) (by simp; omega)).trans f3
      have hy0 : w.heap.size + 1 < w0.heap.size := by omega
      have bf0 : Below w.heap.size w w0 := (by repeat (first | exact Below.refl _ _ | assumption | refine below_drewN ?_ _ | refine Below.setCell ?_ (by first | (simp; done) | (simp; omega)) _ | refine Below.alloc ?_ (by first | (simp; done) | (simp; omega) | omega) _ | refine Below.drew ?_ | refine Below.trans ?_ (Below.mono (by assumption) (by first | (simp; done) | (simp; omega) | omega))))
      clear c0 c1 c2 c3 f0 f1 f2 f3 hw hb0
      go_wp2_with fail
      refine (number_any r _ (by assumption)).mono ?_
      rintro e w1 ⟨rfl, hb1⟩
      obtain ⟨q1, q2⟩ := bcell hb1
      have hz1 := hb1.size
      simp at hz1
      have m0 : w1.cell? ⟨w.heap.size, 0, none⟩ = some (.int .i64 0) := (q1 _ _ (by simp; omega)).trans (by go_simp)
      have m1 : w1.cell? ⟨w.heap.size, 1, none⟩ = some (.int .i64 0) := (q1 _ _ (by simp; omega)).trans (by go_simp)
      have m2 : w1.cell? ⟨w.heap.size + 1, 0, none⟩ = some (.int .i64 0) := (q1 _ _ (by simp; omega)).trans (by go_simp)
      have m3 : w1.cell? ⟨w.heap.size + 1, 1, none⟩ = some (.int .i64 d) := (q1 _ _ (by simp; omega)).trans (by go_simp)
      have o0 : w1.frozen? ⟨w.heap.size, 0, none⟩ = false := (q2 _ _ (by simp; omega)).trans (by go_simp)
      have o1 : w1.frozen? ⟨w.heap.size, 1, none⟩ = false := (q2 _ _ (by simp; omega)).trans (by go_simp)
      have o2 : w1.frozen? ⟨w.heap.size + 1, 0, none⟩ = false := (q2 _ _ (by simp; omega)).trans (by go_simp)
      have hy1 : w.heap.size + 1 < w1.heap.size := by omega
      have bf1 : Below w.heap.size w w1 := (by repeat (first | exact Below.refl _ _ | assumption | refine below_drewN ?_ _ | refine Below.setCell ?_ (by first | (simp; done) | (simp; omega)) _ | refine Below.alloc ?_ (by first | (simp; done) | (simp; omega) | omega) _ | refine Below.drew ?_ | refine Below.trans ?_ (Below.mono (by assumption) (by first | (simp; done) | (simp; omega) | omega))))
      clear c0' c1' c2' c3' f0' f1' f2' f3' q1 q2 hb1
      go_wp2_with fail
      refine (rtext_any _ _ _).mono ?_
      rintro e w2 ⟨rfl, hb2⟩
      rw [HT.out]
      obtain ⟨hc2, hf2⟩ := bcell hb2
      have hz2 := hb2.size
      simp at hz2
      have n0 : w2.cell? ⟨w.heap.size, 0, none⟩ = some (.int .i64 0) := (hc2 _ _ (by simp; omega)).trans (by go_simp)
      have n1 : w2.cell? ⟨w.heap.size, 1, none⟩ = some (.int .i64 0) := (hc2 _ _ (by simp; omega)).trans (by go_simp)
      have n2 : w2.cell? ⟨w.heap.size + 1, 0, none⟩ = some (.int .i64 n) := (hc2 _ _ (by simp; omega)).trans (by go_simp)
      have n3 : w2.cell? ⟨w.heap.size + 1, 1, none⟩ = some (.int .i64 d) := (hc2 _ _ (by simp; omega)).trans (by go_simp)
      have p0 : w2.frozen? ⟨w.heap.size, 0, none⟩ = false := (hf2 _ _ (by simp; omega)).trans (by go_simp)
      have p1 : w2.frozen? ⟨w.heap.size, 1, none⟩ = false := (hf2 _ _ (by simp; omega)).trans (by go_simp)
      have bf2 : Below w.heap.size w w2 := (by repeat (first | exact Below.refl _ _ | assumption | refine below_drewN ?_ _ | refine Below.setCell ?_ (by first | (simp; done) | (simp; omega)) _ | refine Below.alloc ?_ (by first | (simp; done) | (simp; omega) | omega) _ | refine Below.drew ?_ | refine Below.trans ?_ (Below.mono (by assumption) (by first | (simp; done) | (simp; omega) | omega))))
      clear m0 m1 m2 m3 o0 o1 o2 hb2 hc2 hf2
      go_wp2
      refine bodyPost_ret (v := RV (0, 0, 5)) (by simp [results, Tryd.results8, go_sem, RV, n0, n1]) rfl ⟨rfl, ?_⟩
      exact (by repeat (first | exact Below.refl _ _ | assumption | refine below_drewN ?_ _ | refine Below.setCell ?_ (by first | (simp; done) | (simp; omega)) _ | refine Below.alloc ?_ (by first | (simp; done) | (simp; omega) | omega) _ | refine Below.drew ?_ | refine Below.trans ?_ (Below.mono (by assumption) (by first | (simp; done) | (simp; omega) | omega))))
end Go.Proofs.YtmdgccnpcmjpbaaDoor

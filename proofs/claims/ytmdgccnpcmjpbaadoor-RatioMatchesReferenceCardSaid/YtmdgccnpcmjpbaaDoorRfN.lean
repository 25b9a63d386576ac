/- The reference implementation: the walk of Parse, texts that begin with a stroke, and the empty text. -/
import Derived.Test.YtmdgccnpcmjpbaaDoorRfM
import Derived.LoopN
namespace Go.Proofs.YtmdgccnpcmjpbaaDoor
open Go.RowKit

theorem number_nil (w : World) : Calls Tryd.prog 34 #[.string ⟨#[]⟩] w fun e w' => e = .returned (.int .i64 (Rt.numS [])) ∧ Below w.heap.size w w' := number_any [] w (by simp)
set_option maxRecDepth 100000 in
set_option maxHeartbeats 3200000 in
theorem rparse_i (B L : List UInt8) (n d : Int) (w : World) (hL : 47 :: B = L) (hl : L.length ≤ 4294967280) (hn : Rt.numS [] = n) (hd : Rt.numS B = d) (ht : Rt.textS n d = L) :
    Calls Tryd.prog 8 #[.string ⟨L.toArray⟩] w fun e w' => e = .returned (RV (n, d, 0)) ∧ Below w.heap.size w w' := by
  have hlr : L.length = B.length + 1 := by rw [← hL]; rfl
  have hBl : B.length ≤ 4294967280 := by omega
  have hml : 0 < L.length := by omega
  have x2 : (⟨L.toArray⟩ : ByteArray).extract 1 L.length = ⟨B.toArray⟩ := by
    subst hL
    apply ByteArray.ext
    simp
  have g1 : ∀ h : 0 < ByteArray.size ⟨L.toArray⟩, (⟨L.toArray⟩ : ByteArray)[0]'h = 47 := by
    subst hL
    intro h
    rfl
  have x0 : (⟨L.toArray⟩ : ByteArray).extract 0 0 = ⟨#[]⟩ := by
    apply ByteArray.ext
    simp
  have z2 : L ≠ [] := by subst hL; exact List.cons_ne_nil _ _
  have z0 : (([] : List UInt8) == L) = false := by rw [beq_eq_false_iff_ne]; exact Ne.symm z2
  have z1 : (L == ([] : List UInt8)) = false := by rw [beq_eq_false_iff_ne]; exact z2
  have nb := Rt.num_ge []
  rw [hn] at nb
  have HM := Lib.hid hn
  have HD := Lib.hid hd
  have HT := Lib.hid ht
  have HL := Lib.hid hlr
  clear ht hL hlr hd
  have hs : ((⟨L.toArray⟩ : ByteArray)).size = L.length := by simp [ByteArray.size]
  go_enter Tryd.func8, Tryd.ntmps8
  go_wp2
  refine wp_loop_rounds 1 ?_
  rw [rounds_succ]
  go_wp2_with fail
  refine (number_any B _ hBl).mono ?_
  rintro e w0 ⟨rfl, hb0⟩
  rw [HD.out]
  have hz0 := hb0.size
  simp at hz0
  have c0' : w0.cell? ⟨w.heap.size, 0, none⟩ = some (.int .i64 0) := cell_keep hb0 (by go_simp)
  have c1' : w0.cell? ⟨w.heap.size, 1, none⟩ = some (.int .i64 0) := cell_keep hb0 (by go_simp)
  have c2' : w0.cell? ⟨w.heap.size + 1, 0, none⟩ = some (.int .i64 0) := cell_keep hb0 (by go_simp)
  have c3' : w0.cell? ⟨w.heap.size + 1, 1, none⟩ = some (.int .i64 1) := cell_keep hb0 (by go_simp)
  have f0' : w0.frozen? ⟨w.heap.size, 0, none⟩ = false := (hb0.frozen (p := ⟨w.heap.size, 0, none⟩) (by first | (simp; done) | (simp; omega))).trans (by go_simp)
  have f1' : w0.frozen? ⟨w.heap.size, 1, none⟩ = false := (hb0.frozen (p := ⟨w.heap.size, 1, none⟩) (by first | (simp; done) | (simp; omega))).trans (by go_simp)
  have f2' : w0.frozen? ⟨w.heap.size + 1, 0, none⟩ = false := (hb0.frozen (p := ⟨w.heap.size + 1, 0, none⟩) (by simp)).trans (by go_simp)
  have f3' : w0.frozen? ⟨w.heap.size + 1, 1, none⟩ = false := (hb0.frozen (p := ⟨w.heap.size + 1, 1, none⟩) (by simp)).trans (by go_simp)
  have hy0 : w.heap.size + 1 < w0.heap.size := by omega
  have bf0 : Below w.heap.size w w0 := (by repeat (first | exact Below.refl _ _ | assumption | refine below_drewN ?_ _ | refine Below.setCell ?_ (by first | (simp; done) | (simp; omega)) _ | refine Below.alloc ?_ (by first | (simp; done) | (simp; omega) | omega) _ | refine Below.drew ?_ | refine Below.trans ?_ (Below.mono (by assumption) (by first | (simp; done) | (simp; omega) | omega))))
  clear hb0
  go_wp2_with fail
  refine (number_nil _).mono ?_
  rintro e w1 ⟨rfl, hb1⟩
  rw [HM.out]
  obtain ⟨q1, q2⟩ := bcell hb1
  have hz1 := hb1.size
  simp at hz1
  have m0 : w1.cell? ⟨w.heap.size, 0, none⟩ = some (.int .i64 0) := (q1 _ _ (by simp; omega)).trans (by go_simp)
  have m1 : w1.cell? ⟨w.heap.size, 1, none⟩ = some (.int .i64 0) := (q1 _ _ (by simp; omega)).trans (by go_simp)
  have m2 : w1.cell? ⟨w.heap.size + 1, 0, none⟩ = some (.int .i64 0) := (q1 _ _ (by simp; omega)).trans (by go_simp)
  have m3 : w1.cell? ⟨w.heap.size + 1, 1, none⟩ = some (.int .i64 d) := (q1 _ _ (by simp; omega)).trans (by go_simp)
  have o0 : w1.frozen? ⟨w.heap.size, 0, none⟩ = false := (q2 _ _ (by simp; omega)).trans (by go_simp)
  have o1 : w1.frozen? ⟨w.heap.size, 1, none⟩ = false := (q2 _ _ (by simp; omega)).trans (by go_simp)
  have o2 : w1.frozen? ⟨w.heap.size + 1, 0, none⟩ = false := (q2 _ _ (by simp; omega)).trans (by go_simp)
  have hy1 : w.heap.size + 1 < w1.heap.size := by omega
  have bf1 : Below w.heap.size w w1 := (by repeat (first | exact Below.refl _ _ | assumption | refine below_drewN ?_ _ | refine Below.setCell ?_ (by first | (simp; done) | (simp; omega)) _ | refine Below.alloc ?_ (by first | (simp; done) | (simp; omega) | omega) _ | refine Below.drew ?_ | refine Below.trans ?_ (Below.mono (by assumption) (by first | (simp; done) | (simp; omega) | omega))))
  clear c0' c1' c2' c3' f0' f1' f2' f3' q1 q2 hb1
  go_wp2_with fail
  refine (rtext_any _ _ _).mono ?_
  rintro e w2 ⟨rfl, hb2⟩
  rw [HT.out]
  obtain ⟨hc2, hf2⟩ := bcell hb2
  have hz2 := hb2.size
  simp at hz2
  have n0 : w2.cell? ⟨w.heap.size, 0, none⟩ = some (.int .i64 0) := (hc2 _ _ (by simp; omega)).trans (by go_simp)
  have n1 : w2.cell? ⟨w.heap.size, 1, none⟩ = some (.int .i64 0) := (hc2 _ _ (by simp; omega)).trans (by go_simp)
  have n2 : w2.cell? ⟨w.heap.size + 1, 0, none⟩ = some (.int .i64 n) := (hc2 _ _ (by simp; omega)).trans (by go_simp)
  have n3 : w2.cell? ⟨w.heap.size + 1, 1, none⟩ = some (.int .i64 d) := (hc2 _ _ (by simp; omega)).trans (by go_simp)
  have p0 : w2.frozen? ⟨w.heap.size, 0, none⟩ = false := (hf2 _ _ (by simp; omega)).trans (by go_simp)
  have p1 : w2.frozen? ⟨w.heap.size, 1, none⟩ = false := (hf2 _ _ (by simp; omega)).trans (by go_simp)
  have bf2 : Below w.heap.size w w2 := (by repeat (first | exact Below.refl _ _ | assumption | refine below_drewN ?_ _ | refine Below.setCell ?_ (by first | (simp; done) | (simp; omega)) _ | refine Below.alloc ?_ (by first | (simp; done) | (simp; omega) | omega) _ | refine Below.drew ?_ | refine Below.trans ?_ (Below.mono (by assumption) (by first | (simp; done) | (simp; omega) | omega))))
  clear m0 m1 m2 m3 o0 o1 o2 hb2 hc2 hf2
  go_wp2
  refine bodyPost_ret (v := RV (n, d, 0)) (by simp [results, Tryd.results8, go_sem, RV, n0, n1]) rfl ⟨rfl, ?_⟩
  exact (by repeat (first | exact Below.refl _ _ | assumption | refine below_drewN ?_ _ | refine Below.setCell ?_ (by first | (simp; done) | (simp; omega)) _ | refine Below.alloc ?_ (by first | (simp; done) | (simp; omega) | omega) _ | refine Below.drew ?_ | refine Below.trans ?_ (Below.mono (by assumption) (by first | (simp; done) | (simp; omega) | omega))))
set_option maxRecDepth 100000 in
set_option maxHeartbeats 3200000 in
theorem rparse_j (B L : List UInt8) (n d : Int) (w : World) (hL : 47 :: B = L) (hl : L.length ≤ 4294967280) (hn : Rt.numS [] = n) (hd : Rt.numS B = d) (tx : List UInt8) (ht : Rt.textS n d = tx) (hne : tx ≠ L) :
    Calls Tryd.prog 8 #[.string ⟨L.toArray⟩] w fun e w' => e = .returned (RV (0, 0, 5)) ∧ Below w.heap.size w w' := by
  have hlr : L.length = B.length + 1 := by rw [← hL]; rfl
  have hBl : B.length ≤ 4294967280 := by omega
  have hml : 0 < L.length := by omega
  have x2 : (⟨L.toArray⟩ : ByteArray).extract 1 L.length = ⟨B.toArray⟩ := by
    subst hL
    apply ByteArray.ext
    simp
  have g1 : ∀ h : 0 < ByteArray.size ⟨L.toArray⟩, (⟨L.toArray⟩ : ByteArray)[0]'h = 47 := by
    subst hL
    intro h
    rfl
  have x0 : (⟨L.toArray⟩ : ByteArray).extract 0 0 = ⟨#[]⟩ := by
    apply ByteArray.ext
    simp
  have z2 : L ≠ [] := by subst hL; exact List.cons_ne_nil _ _
  have z0 : (([] : List UInt8) == L) = false := by rw [beq_eq_false_iff_ne]; exact Ne.symm z2
  have z1 : (L == ([] : List UInt8)) = false := by rw [beq_eq_false_iff_ne]; exact z2
  have nb := Rt.num_ge []
  rw [hn] at nb
  have hq : (tx == L) = false := by simpa using hne
  have HN := Lib.hid hne
  have HM := Lib.hid hn
  have HD := Lib.hid hd
  have HT := Lib.hid ht
  have HL := Lib.hid hlr
  clear ht hL hlr hd hne
  have hs : ((⟨L.toArray⟩ : ByteArray)).size = L.length := by simp [ByteArray.size]
  go_enter Tryd.func8, Tryd.ntmps8
  go_wp2
  refine wp_loop_rounds 1 ?_
  rw [rounds_succ]
  go_wp2_with fail
  refine (number_any B _ hBl).mono ?_
  rintro e w0 ⟨rfl, hb0⟩
  rw [HD.out]
  have hz0 := hb0.size
  simp at hz0
  have c0' : w0.cell? ⟨w.heap.size, 0, none⟩ = some (.int .i64 0) := cell_keep hb0 (by go_simp)
  have c1' : w0.cell? ⟨w.heap.size, 1, none⟩ = some (.int .i64 0) := cell_keep hb0 (by go_simp)
  have c2' : w0.cell? ⟨w.heap.size + 1, 0, none⟩ = some (.int .i64 0) := cell_keep hb0 (by go_simp)
  have c3' : w0.cell? ⟨w.heap.size + 1, 1, none⟩ = some (.int .i64 1) := cell_keep hb0 (by go_simp)
  have f0' : w0.frozen? ⟨w.heap.size, 0, none⟩ = false := (hb0.frozen (p := ⟨w.heap.size, 0, none⟩) (by first | (simp; done) | (simp; omega))).trans (by go_simp)
  have f1' : w0.frozen? ⟨w.heap.size, 1, none⟩ = false := (hb0.frozen (p := ⟨w.heap.size, 1, none⟩) (by first | (simp; done) | (simp; omega))).trans (by go_simp)
  have f2' : w0.frozen? ⟨w.heap.size + 1, 0, none⟩ = false := (hb0.frozen (p := ⟨w.heap.size + 1, 0, none⟩) (by simp)).trans (by go_simp)
  have f3' : w0.frozen? ⟨w.heap.size + 1, 1, none⟩ = false := (hb0.frozen (p := ⟨w.heap.size + 1, 1, none⟩) (by simp)).trans (by go_simp)
  have hy0 : w.heap.size + 1 < w0.heap.size := by omega
  have bf0 : Below w.heap.size w w0 := (by repeat (first | exact Below.refl _ _ | assumption | refine below_drewN ?_ _ | refine Below.setCell ?_ (by first | (simp; done) | (simp; omega)) _ | refine Below.alloc ?_ (by first | (simp; done) | (simp; omega) | omega) _ | refine Below.drew ?_ | refine Below.trans ?_ (Below.mono (by assumption) (by first | (simp; done) | (simp; omega) | omega))))
  clear hb0
  go_wp2_with fail
  refine (number_nil _).mono ?_
  rintro e w1 ⟨rfl, hb1⟩
  rw [HM.out]
  obtain ⟨q1, q2⟩ := bcell hb1
  have hz1 := hb1.size
  simp at hz1
  have m0 : w1.cell? ⟨w.heap.size, 0, none⟩ = some (.int .i64 0) := (q1 _ _ (by simp; omega)).trans (by go_simp)
  have m1 : w1.cell? ⟨w.heap.size, 1, none⟩ = some (.int .i64 0) := (q1 _ _ (by simp; omega)).trans (by go_simp)
  have m2 : w1.cell? ⟨w.heap.size + 1, 0, none⟩ = some (.int .i64 0) := (q1 _ _ (by simp; omega)).trans (by go_simp)
  have m3 : w1.cell? ⟨w.heap.size + 1, 1, none⟩ = some (.int .i64 d) := (q1 _ _ (by simp; omega)).trans (by go_simp)
  have o0 : w1.frozen? ⟨w.heap.size, 0, none⟩ = false := (q2 _ _ (by simp; omega)).trans (by go_simp)
  have o1 : w1.frozen? ⟨w.heap.size, 1, none⟩ = false := (q2 _ _ (by simp; omega)).trans (by go_simp)
  have o2 : w1.frozen? ⟨w.heap.size + 1, 0, none⟩ = false := (q2 _ _ (by simp; omega)).trans (by go_simp)
  have hy1 : w.heap.size + 1 < w1.heap.size := by omega
  have bf1 : Below w.heap.size w w1 := (by repeat (first | exact Below.refl _ _ | assumption | refine below_drewN ?_ _ | refine Below.setCell ?_ (by first | (simp; done) | (simp; omega)) _ | refine Below.alloc ?_ (by first | (simp; done) | (simp; omega) | omega) _ | refine Below.drew ?_ | refine Below.trans ?_ (Below.mono (by assumption) (by first | (simp; done) | (simp; omega) | omega))))
  clear c0' c1' c2' c3' f0' f1' f2' f3' q1 q2 hb1
  go_wp2_with fail
  refine (rtext_any _ _ _).mono ?_
  rintro e w2 ⟨rfl, hb2⟩
  rw [HT.out]
  obtain ⟨hc2, hf2⟩ := bcell hb2
  have hz2 := hb2.size
  simp at hz2
  have n0 : w2.cell? ⟨w.heap.size, 0, none⟩ = some (.int .i64 0) := (hc2 _ _ (by simp; omega)).trans (by go_simp)
  have n1 : w2.cell? ⟨w.heap.size, 1, none⟩ = some (.int .i64 0) := (hc2 _ _ (by simp; omega)).trans (by go_simp)
  have n2 : w2.cell? ⟨w.heap.size + 1, 0, none⟩ = some (.int .i64 n) := (hc2 _ _ (by simp; omega)).trans (by go_simp)
  have n3 : w2.cell? ⟨w.heap.size + 1, 1, none⟩ = some (.int .i64 d) := (hc2 _ _ (by simp; omega)).trans (by go_simp)
  have p0 : w2.frozen? ⟨w.heap.size, 0, none⟩ = false := (hf2 _ _ (by simp; omega)).trans (by go_simp)
  have p1 : w2.frozen? ⟨w.heap.size, 1, none⟩ = false := (hf2 _ _ (by simp; omega)).trans (by go_simp)
  have bf2 : Below w.heap.size w w2 := (by repeat (first | exact Below.refl _ _ | assumption | refine below_drewN ?_ _ | refine Below.setCell ?_ (by first | (simp; done) | (simp; omega)) _ | refine Below.alloc ?_ (by first | (simp; done) | (simp; omega) | omega) _ | refine Below.drew ?_ | refine Below.trans ?_ (Below.mono (by assumption) (by first | (simp; done) | (simp; omega) | omega))))
  clear m0 m1 m2 m3 o0 o1 o2 hb2 hc2 hf2
  go_wp2
  refine bodyPost_ret (v := RV (0, 0, 5)) (by simp [results, Tryd.results8, go_sem, RV, n0, n1]) rfl ⟨rfl, ?_⟩
  exact (by repeat (first | exact Below.refl _ _ | assumption | refine below_drewN ?_ _ | refine Below.setCell ?_ (by first | (simp; done) | (simp; omega)) _ | refine Below.alloc ?_ (by first | (simp; done) | (simp; omega) | omega) _ | refine Below.drew ?_ | refine Below.trans ?_ (Below.mono (by assumption) (by first | (simp; done) | (simp; omega) | omega))))
end Go.Proofs.YtmdgccnpcmjpbaaDoor

/- RatioMatchesReference: the walk of the law. -/
import Derived.Test.YtmdgccnpcmjpbaaDoorRfO
import Derived.Test.YtmdgccnpcmjpbaaDoorRfH
import Derived.Test.YtmdgccnpcmjpbaaDoorRfF
import Derived.Test.YtmdgccnpcmjpbaaDoorRfD
import Derived.Test.YtmdgccnpcmjpbaaDoorRfJ
namespace Go.Proofs.YtmdgccnpcmjpbaaDoor
open Go.RowKit

theorem valid_any (n d : Int) (w : World) (k1 : -9223372036854775808 ≤ n) (k2 : n ≤ 9223372036854775807) :
    Calls Tryd.prog 19 #[.agg #[.int .i64 n, .int .i64 d]] w fun e w' => e = .returned (.bool (Rt.vB n d)) ∧ Below w.heap.size w w' := by
  unfold Rt.vB
  by_cases h : Rt.Ok n d
  · rw [decide_eq_true h]; exact valid_true n d w h
  · rw [decide_eq_false h]; exact valid_false n d w k1 k2 h
theorem wp_world {P : Program} {C : Code} {Q : Exit → Act → World → Prop} {a : Act} {w : World} (S : World → Prop) (h : S w) (k : ∀ w0, S w0 → C.wp P Q a w0) : C.wp P Q a w := k w h
theorem holdT {W w' w'' : World} (h : Below W.heap.size W w' ∧ ∀ b o, b < W.heap.size → w'.cell? ⟨b, o, none⟩ = W.cell? ⟨b, o, none⟩) (hb : Below w'.heap.size w' w'') :
    Below W.heap.size W w'' ∧ ∀ b o, b < W.heap.size → w''.cell? ⟨b, o, none⟩ = W.cell? ⟨b, o, none⟩ := holdS (h.1.trans (hb.mono h.1.size))
theorem belT {n : Nat} {w W w' : World} (be : Below n w W) (hn : n ≤ W.heap.size) (h : Below W.heap.size W w' ∧ ∀ b o, b < W.heap.size → w'.cell? ⟨b, o, none⟩ = W.cell? ⟨b, o, none⟩) : Below n w w' := be.trans (h.1.mono hn)
set_option maxRecDepth 100000 in
set_option maxHeartbeats 4000000 in
theorem matches_long (an ad bn bd xn xd xp : Int) (l : List UInt8) (w : World) (hE : Env w) (hl : 1000 < l.length) :
    Calls Tryd.prog 3 #[.agg #[.int .i64 an, .int .i64 ad], .agg #[.int .i64 bn, .int .i64 bd], .agg #[.int .i64 xn, .int .i64 xd, .int .i64 xp, .string ⟨l.toArray⟩]] w fun e w' => e = .returned (.bool true) ∧ Below w.heap.size w w' := by
  have HE := Lib.hid hE
  clear hE
  go_enter Tryd.func3, Tryd.ntmps3
  go_wp2_with fail
  refine (head_any _ (HE.out.below (by repeat (first | exact Below.refl _ _ | assumption | refine below_drewN ?_ _ | refine Below.setCell ?_ (by first | (simp; done) | (simp; omega)) _ | refine Below.alloc ?_ (by first | (simp; done) | (simp; omega) | omega) _ | refine Below.drew ?_ | refine Below.trans ?_ (Below.mono (by assumption) (by first | (simp; done) | (simp; omega) | omega)))))).mono ?_
  rintro e w1 ⟨rfl, hb1⟩
  have hz1 := hb1.size
  (try simp at hz1)
  have be1 : Below w.heap.size w w1 := (by repeat (first | exact Below.refl _ _ | assumption | refine below_drewN ?_ _ | refine Below.setCell ?_ (by first | (simp; done) | (simp; omega)) _ | refine Below.alloc ?_ (by first | (simp; done) | (simp; omega) | omega) _ | refine Below.drew ?_ | refine Below.trans ?_ (Below.mono (by assumption) (by first | (simp; done) | (simp; omega) | omega))))
  have c1_a_0 : w1.cell? ⟨w.heap.size, 0, none⟩ = some (.int .i64 an) := cell_keep hb1 (by go_simp)
  have c1_a_1 : w1.cell? ⟨w.heap.size, 1, none⟩ = some (.int .i64 ad) := cell_keep hb1 (by go_simp)
  have l1_a : w.heap.size < w1.heap.size := by omega
  have c1_b_0 : w1.cell? ⟨w.heap.size + 1, 0, none⟩ = some (.int .i64 bn) := cell_keep hb1 (by go_simp)
  have c1_b_1 : w1.cell? ⟨w.heap.size + 1, 1, none⟩ = some (.int .i64 bd) := cell_keep hb1 (by go_simp)
  have l1_b : w.heap.size + 1 < w1.heap.size := by omega
  have c1_x_0 : w1.cell? ⟨w.heap.size + 2, 0, none⟩ = some (.int .i64 xn) := cell_keep hb1 (by go_simp)
  have c1_x_1 : w1.cell? ⟨w.heap.size + 2, 1, none⟩ = some (.int .i64 xd) := cell_keep hb1 (by go_simp)
  have c1_x_2 : w1.cell? ⟨w.heap.size + 2, 2, none⟩ = some (.int .i64 xp) := cell_keep hb1 (by go_simp)
  have c1_x_3 : w1.cell? ⟨w.heap.size + 2, 3, none⟩ = some (.string ⟨l.toArray⟩) := cell_keep hb1 (by go_simp)
  have l1_x : w.heap.size + 2 < w1.heap.size := by omega
  clear hb1
  go_wp2
  go_ret
  exact ⟨rfl, (by repeat (first | exact Below.refl _ _ | assumption | refine below_drewN ?_ _ | refine Below.setCell ?_ (by first | (simp; done) | (simp; omega)) _ | refine Below.alloc ?_ (by first | (simp; done) | (simp; omega) | omega) _ | refine Below.drew ?_ | refine Below.trans ?_ (Below.mono (by assumption) (by first | (simp; done) | (simp; omega) | omega))))⟩
set_option maxRecDepth 100000 in
set_option maxHeartbeats 8000000 in
theorem matches_short (an ad bn bd xn xd xp : Int) (l : List UInt8) (w : World) (hE : Env w) (hl : l.length ≤ 1000) (ka1 : -9223372036854775808 ≤ an) (ka2 : an ≤ 9223372036854775807) (kb1 : -9223372036854775808 ≤ bn) (kb2 : bn ≤ 9223372036854775807) (kx1 : -9223372036854775808 ≤ xn) (kx2 : xn ≤ 9223372036854775807) (ky1 : -9223372036854775808 ≤ xd) (ky2 : xd ≤ 9223372036854775807)
    (m1 m2 m3 : Int) (hm : Rt.mk xn xd = (m1, m2, m3)) (p1 p2 p3 : Int) (hp : Rt.parseS l = (p1, p2, p3)) (r1 r2 r3 : Int) (hr : Rt.roundS an ad xp = (r1, r2, r3)) (s1 s2 s3 : Int) (hs : Rt.addS an ad bn bd = (s1, s2, s3)) (u1 u2 u3 : Int) (hu : Rt.subS an ad bn bd = (u1, u2, u3)) (t1 t2 t3 : Int) (ht : Rt.mulS an ad bn bd = (t1, t2, t3)) (d1 d2 d3 : Int) (hd : Rt.divS an ad bn bd = (d1, d2, d3)) (vb : Bool) (hv : Rt.vB an ad = vb) (cc ff : Int) (hc : Rt.cmpS an ad bn bd = cc) (hf : Rt.floorS an ad = ff) (tx : List UInt8) (htx : Rt.textS an ad = tx) :
    Calls Tryd.prog 3 #[.agg #[.int .i64 an, .int .i64 ad], .agg #[.int .i64 bn, .int .i64 bd], .agg #[.int .i64 xn, .int .i64 xd, .int .i64 xp, .string ⟨l.toArray⟩]] w fun e w' => e = .returned (.bool true) ∧ Below w.heap.size w w' := by
  have HE := Lib.hid hE
  have HM := Lib.hid hm
  have HP := Lib.hid hp
  have HR := Lib.hid hr
  have HS := Lib.hid hs
  have HU := Lib.hid hu
  have HT := Lib.hid ht
  have HD := Lib.hid hd
  have HV := Lib.hid hv
  have HC := Lib.hid hc
  have HF := Lib.hid hf
  have HX := Lib.hid htx
  clear hE hm hp hr hs hu ht hd hv hc hf htx
  go_enter Tryd.func3, Tryd.ntmps3
  go_wp2_with fail
  refine (head_any _ (HE.out.below (by repeat (first | exact Below.refl _ _ | assumption | refine below_drewN ?_ _ | refine Below.setCell ?_ (by first | (simp; done) | (simp; omega)) _ | refine Below.alloc ?_ (by first | (simp; done) | (simp; omega) | omega) _ | refine Below.drew ?_ | refine Below.trans ?_ (Below.mono (by assumption) (by first | (simp; done) | (simp; omega) | omega)))))).mono ?_
  rintro e w1 ⟨rfl, hb1⟩
  have hz1 := hb1.size
  (try simp at hz1)
  have be1 : Below w.heap.size w w1 := (by repeat (first | exact Below.refl _ _ | assumption | refine below_drewN ?_ _ | refine Below.setCell ?_ (by first | (simp; done) | (simp; omega)) _ | refine Below.alloc ?_ (by first | (simp; done) | (simp; omega) | omega) _ | refine Below.drew ?_ | refine Below.trans ?_ (Below.mono (by assumption) (by first | (simp; done) | (simp; omega) | omega))))
  have c1_a_0 : w1.cell? ⟨w.heap.size, 0, none⟩ = some (.int .i64 an) := cell_keep hb1 (by go_simp)
  have c1_a_1 : w1.cell? ⟨w.heap.size, 1, none⟩ = some (.int .i64 ad) := cell_keep hb1 (by go_simp)
  have l1_a : w.heap.size < w1.heap.size := by omega
  have c1_b_0 : w1.cell? ⟨w.heap.size + 1, 0, none⟩ = some (.int .i64 bn) := cell_keep hb1 (by go_simp)
  have c1_b_1 : w1.cell? ⟨w.heap.size + 1, 1, none⟩ = some (.int .i64 bd) := cell_keep hb1 (by go_simp)
  have l1_b : w.heap.size + 1 < w1.heap.size := by omega
  have c1_x_0 : w1.cell? ⟨w.heap.size + 2, 0, none⟩ = some (.int .i64 xn) := cell_keep hb1 (by go_simp)
  have c1_x_1 : w1.cell? ⟨w.heap.size + 2, 1, none⟩ = some (.int .i64 xd) := cell_keep hb1 (by go_simp)
  have c1_x_2 : w1.cell? ⟨w.heap.size + 2, 2, none⟩ = some (.int .i64 xp) := cell_keep hb1 (by go_simp)
  have c1_x_3 : w1.cell? ⟨w.heap.size + 2, 3, none⟩ = some (.string ⟨l.toArray⟩) := cell_keep hb1 (by go_simp)
  have l1_x : w.heap.size + 2 < w1.heap.size := by omega
  clear hb1
  go_wp2_with fail
  refine (make_any xn xd _ kx1 kx2 ky1 ky2).mono ?_
  rintro e w2 ⟨rfl, hb2⟩
  rw [HM.out]
  have hz2 := hb2.size
  (try simp at hz2)
  have bb2 : Below w1.heap.size w1 w2 := (by repeat (first | exact Below.refl _ _ | assumption | refine below_drewN ?_ _ | refine Below.setCell ?_ (by first | (simp; done) | (simp; omega)) _ | refine Below.alloc ?_ (by first | (simp; done) | (simp; omega) | omega) _ | refine Below.drew ?_ | refine Below.trans ?_ (Below.mono (by assumption) (by first | (simp; done) | (simp; omega) | omega))))
  have be2 : Below w.heap.size w w2 := be1.trans (bb2.mono (by omega))
  have c2_a_0 : w2.cell? ⟨w.heap.size, 0, none⟩ = some (.int .i64 an) := cell_keep bb2 c1_a_0
  have c2_a_1 : w2.cell? ⟨w.heap.size, 1, none⟩ = some (.int .i64 ad) := cell_keep bb2 c1_a_1
  have l2_a : w.heap.size < w2.heap.size := by omega
  have c2_b_0 : w2.cell? ⟨w.heap.size + 1, 0, none⟩ = some (.int .i64 bn) := cell_keep bb2 c1_b_0
  have c2_b_1 : w2.cell? ⟨w.heap.size + 1, 1, none⟩ = some (.int .i64 bd) := cell_keep bb2 c1_b_1
  have l2_b : w.heap.size + 1 < w2.heap.size := by omega
  have c2_x_0 : w2.cell? ⟨w.heap.size + 2, 0, none⟩ = some (.int .i64 xn) := cell_keep bb2 c1_x_0
  have c2_x_1 : w2.cell? ⟨w.heap.size + 2, 1, none⟩ = some (.int .i64 xd) := cell_keep bb2 c1_x_1
  have c2_x_2 : w2.cell? ⟨w.heap.size + 2, 2, none⟩ = some (.int .i64 xp) := cell_keep bb2 c1_x_2
  have c2_x_3 : w2.cell? ⟨w.heap.size + 2, 3, none⟩ = some (.string ⟨l.toArray⟩) := cell_keep bb2 c1_x_3
  have l2_x : w.heap.size + 2 < w2.heap.size := by omega
  clear hb2 be1 bb2 c1_a_0 c1_a_1 l1_a c1_b_0 c1_b_1 l1_b c1_x_0 c1_x_1 c1_x_2 c1_x_3 l1_x
  simp only [RV]
  go_wp2_with fail
  refine (rmake_any xn xd _ kx1 kx2 ky1 ky2).mono ?_
  rintro e w3 ⟨rfl, hb3⟩
  rw [HM.out]
  have hz3 := hb3.size
  (try simp at hz3)
  have bb3 : Below w2.heap.size w2 w3 := (by repeat (first | exact Below.refl _ _ | assumption | refine below_drewN ?_ _ | refine Below.setCell ?_ (by first | (simp; done) | (simp; omega)) _ | refine Below.alloc ?_ (by first | (simp; done) | (simp; omega) | omega) _ | refine Below.drew ?_ | refine Below.trans ?_ (Below.mono (by assumption) (by first | (simp; done) | (simp; omega) | omega))))
  have be3 : Below w.heap.size w w3 := be2.trans (bb3.mono (by omega))
  have c3_a_0 : w3.cell? ⟨w.heap.size, 0, none⟩ = some (.int .i64 an) := cell_keep bb3 c2_a_0
  have c3_a_1 : w3.cell? ⟨w.heap.size, 1, none⟩ = some (.int .i64 ad) := cell_keep bb3 c2_a_1
  have l3_a : w.heap.size < w3.heap.size := by omega
  have c3_b_0 : w3.cell? ⟨w.heap.size + 1, 0, none⟩ = some (.int .i64 bn) := cell_keep bb3 c2_b_0
  have c3_b_1 : w3.cell? ⟨w.heap.size + 1, 1, none⟩ = some (.int .i64 bd) := cell_keep bb3 c2_b_1
  have l3_b : w.heap.size + 1 < w3.heap.size := by omega
  have c3_x_0 : w3.cell? ⟨w.heap.size + 2, 0, none⟩ = some (.int .i64 xn) := cell_keep bb3 c2_x_0
  have c3_x_1 : w3.cell? ⟨w.heap.size + 2, 1, none⟩ = some (.int .i64 xd) := cell_keep bb3 c2_x_1
  have c3_x_2 : w3.cell? ⟨w.heap.size + 2, 2, none⟩ = some (.int .i64 xp) := cell_keep bb3 c2_x_2
  have c3_x_3 : w3.cell? ⟨w.heap.size + 2, 3, none⟩ = some (.string ⟨l.toArray⟩) := cell_keep bb3 c2_x_3
  have l3_x : w.heap.size + 2 < w3.heap.size := by omega
  have c3_m_0 : w3.cell? ⟨w2.heap.size, 0, none⟩ = some (.int .i64 m1) := cell_keep hb3 (by go_simp)
  have c3_m_1 : w3.cell? ⟨w2.heap.size, 1, none⟩ = some (.int .i64 m2) := cell_keep hb3 (by go_simp)
  have l3_m : w2.heap.size < w3.heap.size := by omega
  clear hb3 be2 bb3 c2_a_0 c2_a_1 l2_a c2_b_0 c2_b_1 l2_b c2_x_0 c2_x_1 c2_x_2 c2_x_3 l2_x
  simp only [RV]
  go_wp2_with fail
  refine (parse_any l _ (by omega) (HE.out.below (by repeat (first | exact Below.refl _ _ | assumption | refine below_drewN ?_ _ | refine Below.setCell ?_ (by first | (simp; done) | (simp; omega)) _ | refine Below.alloc ?_ (by first | (simp; done) | (simp; omega) | omega) _ | refine Below.drew ?_ | refine Below.trans ?_ (Below.mono (by assumption) (by first | (simp; done) | (simp; omega) | omega)))))).mono ?_
  rintro e w4 ⟨rfl, hb4⟩
  rw [HP.out]
  have hz4 := hb4.size
  (try simp at hz4)
  have bb4 : Below w3.heap.size w3 w4 := (by repeat (first | exact Below.refl _ _ | assumption | refine below_drewN ?_ _ | refine Below.setCell ?_ (by first | (simp; done) | (simp; omega)) _ | refine Below.alloc ?_ (by first | (simp; done) | (simp; omega) | omega) _ | refine Below.drew ?_ | refine Below.trans ?_ (Below.mono (by assumption) (by first | (simp; done) | (simp; omega) | omega))))
  have be4 : Below w.heap.size w w4 := be3.trans (bb4.mono (by omega))
  have c4_a_0 : w4.cell? ⟨w.heap.size, 0, none⟩ = some (.int .i64 an) := cell_keep bb4 c3_a_0
  have c4_a_1 : w4.cell? ⟨w.heap.size, 1, none⟩ = some (.int .i64 ad) := cell_keep bb4 c3_a_1
  have l4_a : w.heap.size < w4.heap.size := by omega
  have c4_b_0 : w4.cell? ⟨w.heap.size + 1, 0, none⟩ = some (.int .i64 bn) := cell_keep bb4 c3_b_0
  have c4_b_1 : w4.cell? ⟨w.heap.size + 1, 1, none⟩ = some (.int .i64 bd) := cell_keep bb4 c3_b_1
  have l4_b : w.heap.size + 1 < w4.heap.size := by omega
  have c4_x_0 : w4.cell? ⟨w.heap.size + 2, 0, none⟩ = some (.int .i64 xn) := cell_keep bb4 c3_x_0
  have c4_x_1 : w4.cell? ⟨w.heap.size + 2, 1, none⟩ = some (.int .i64 xd) := cell_keep bb4 c3_x_1
  have c4_x_2 : w4.cell? ⟨w.heap.size + 2, 2, none⟩ = some (.int .i64 xp) := cell_keep bb4 c3_x_2
  have c4_x_3 : w4.cell? ⟨w.heap.size + 2, 3, none⟩ = some (.string ⟨l.toArray⟩) := cell_keep bb4 c3_x_3
  have l4_x : w.heap.size + 2 < w4.heap.size := by omega
  have c4_m_0 : w4.cell? ⟨w2.heap.size, 0, none⟩ = some (.int .i64 m1) := cell_keep bb4 c3_m_0
  have c4_m_1 : w4.cell? ⟨w2.heap.size, 1, none⟩ = some (.int .i64 m2) := cell_keep bb4 c3_m_1
  have l4_m : w2.heap.size < w4.heap.size := by omega
  have c4_mq_0 : w4.cell? ⟨w3.heap.size, 0, none⟩ = some (.int .i64 m1) := cell_keep hb4 (by go_simp)
  have c4_mq_1 : w4.cell? ⟨w3.heap.size, 1, none⟩ = some (.int .i64 m2) := cell_keep hb4 (by go_simp)
  have l4_mq : w3.heap.size < w4.heap.size := by omega
  clear hb4 be3 bb4 c3_a_0 c3_a_1 l3_a c3_b_0 c3_b_1 l3_b c3_x_0 c3_x_1 c3_x_2 c3_x_3 l3_x c3_m_0 c3_m_1 l3_m
  simp only [RV]
  go_wp2_with fail
  refine (rparse_any l _ (by omega)).mono ?_
  rintro e w5 ⟨rfl, hb5⟩
  rw [HP.out]
  have hz5 := hb5.size
  (try simp at hz5)
  have bb5 : Below w4.heap.size w4 w5 := (by repeat (first | exact Below.refl _ _ | assumption | refine below_drewN ?_ _ | refine Below.setCell ?_ (by first | (simp; done) | (simp; omega)) _ | refine Below.alloc ?_ (by first | (simp; done) | (simp; omega) | omega) _ | refine Below.drew ?_ | refine Below.trans ?_ (Below.mono (by assumption) (by first | (simp; done) | (simp; omega) | omega))))
  have be5 : Below w.heap.size w w5 := be4.trans (bb5.mono (by omega))
  have c5_a_0 : w5.cell? ⟨w.heap.size, 0, none⟩ = some (.int .i64 an) := cell_keep bb5 c4_a_0
  have c5_a_1 : w5.cell? ⟨w.heap.size, 1, none⟩ = some (.int .i64 ad) := cell_keep bb5 c4_a_1
  have l5_a : w.heap.size < w5.heap.size := by omega
  have c5_b_0 : w5.cell? ⟨w.heap.size + 1, 0, none⟩ = some (.int .i64 bn) := cell_keep bb5 c4_b_0
  have c5_b_1 : w5.cell? ⟨w.heap.size + 1, 1, none⟩ = some (.int .i64 bd) := cell_keep bb5 c4_b_1
  have l5_b : w.heap.size + 1 < w5.heap.size := by omega
  have c5_x_0 : w5.cell? ⟨w.heap.size + 2, 0, none⟩ = some (.int .i64 xn) := cell_keep bb5 c4_x_0
  have c5_x_1 : w5.cell? ⟨w.heap.size + 2, 1, none⟩ = some (.int .i64 xd) := cell_keep bb5 c4_x_1
  have c5_x_2 : w5.cell? ⟨w.heap.size + 2, 2, none⟩ = some (.int .i64 xp) := cell_keep bb5 c4_x_2
  have c5_x_3 : w5.cell? ⟨w.heap.size + 2, 3, none⟩ = some (.string ⟨l.toArray⟩) := cell_keep bb5 c4_x_3
  have l5_x : w.heap.size + 2 < w5.heap.size := by omega
  have c5_m_0 : w5.cell? ⟨w2.heap.size, 0, none⟩ = some (.int .i64 m1) := cell_keep bb5 c4_m_0
  have c5_m_1 : w5.cell? ⟨w2.heap.size, 1, none⟩ = some (.int .i64 m2) := cell_keep bb5 c4_m_1
  have l5_m : w2.heap.size < w5.heap.size := by omega
  have c5_mq_0 : w5.cell? ⟨w3.heap.size, 0, none⟩ = some (.int .i64 m1) := cell_keep bb5 c4_mq_0
  have c5_mq_1 : w5.cell? ⟨w3.heap.size, 1, none⟩ = some (.int .i64 m2) := cell_keep bb5 c4_mq_1
  have l5_mq : w3.heap.size < w5.heap.size := by omega
  have c5_p_0 : w5.cell? ⟨w4.heap.size, 0, none⟩ = some (.int .i64 p1) := cell_keep hb5 (by go_simp)
  have c5_p_1 : w5.cell? ⟨w4.heap.size, 1, none⟩ = some (.int .i64 p2) := cell_keep hb5 (by go_simp)
  have l5_p : w4.heap.size < w5.heap.size := by omega
  clear hb5 be4 bb5 c4_a_0 c4_a_1 l4_a c4_b_0 c4_b_1 l4_b c4_x_0 c4_x_1 c4_x_2 c4_x_3 l4_x c4_m_0 c4_m_1 l4_m c4_mq_0 c4_mq_1 l4_mq
  simp only [RV]
  go_wp2_with fail
  refine (round_any an ad xp _ ka1 ka2).mono ?_
  rintro e w6 ⟨rfl, hb6⟩
  rw [HR.out]
  have hz6 := hb6.size
  (try simp at hz6)
  have bb6 : Below w5.heap.size w5 w6 := (by repeat (first | exact Below.refl _ _ | assumption | refine below_drewN ?_ _ | refine Below.setCell ?_ (by first | (simp; done) | (simp; omega)) _ | refine Below.alloc ?_ (by first | (simp; done) | (simp; omega) | omega) _ | refine Below.drew ?_ | refine Below.trans ?_ (Below.mono (by assumption) (by first | (simp; done) | (simp; omega) | omega))))
  have be6 : Below w.heap.size w w6 := be5.trans (bb6.mono (by omega))
  have c6_a_0 : w6.cell? ⟨w.heap.size, 0, none⟩ = some (.int .i64 an) := cell_keep bb6 c5_a_0
  have c6_a_1 : w6.cell? ⟨w.heap.size, 1, none⟩ = some (.int .i64 ad) := cell_keep bb6 c5_a_1
  have l6_a : w.heap.size < w6.heap.size := by omega
  have c6_b_0 : w6.cell? ⟨w.heap.size + 1, 0, none⟩ = some (.int .i64 bn) := cell_keep bb6 c5_b_0
  have c6_b_1 : w6.cell? ⟨w.heap.size + 1, 1, none⟩ = some (.int .i64 bd) := cell_keep bb6 c5_b_1
  have l6_b : w.heap.size + 1 < w6.heap.size := by omega
  have c6_x_0 : w6.cell? ⟨w.heap.size + 2, 0, none⟩ = some (.int .i64 xn) := cell_keep bb6 c5_x_0
  have c6_x_1 : w6.cell? ⟨w.heap.size + 2, 1, none⟩ = some (.int .i64 xd) := cell_keep bb6 c5_x_1
  have c6_x_2 : w6.cell? ⟨w.heap.size + 2, 2, none⟩ = some (.int .i64 xp) := cell_keep bb6 c5_x_2
  have c6_x_3 : w6.cell? ⟨w.heap.size + 2, 3, none⟩ = some (.string ⟨l.toArray⟩) := cell_keep bb6 c5_x_3
  have l6_x : w.heap.size + 2 < w6.heap.size := by omega
  have c6_m_0 : w6.cell? ⟨w2.heap.size, 0, none⟩ = some (.int .i64 m1) := cell_keep bb6 c5_m_0
  have c6_m_1 : w6.cell? ⟨w2.heap.size, 1, none⟩ = some (.int .i64 m2) := cell_keep bb6 c5_m_1
  have l6_m : w2.heap.size < w6.heap.size := by omega
  have c6_mq_0 : w6.cell? ⟨w3.heap.size, 0, none⟩ = some (.int .i64 m1) := cell_keep bb6 c5_mq_0
  have c6_mq_1 : w6.cell? ⟨w3.heap.size, 1, none⟩ = some (.int .i64 m2) := cell_keep bb6 c5_mq_1
  have l6_mq : w3.heap.size < w6.heap.size := by omega
  have c6_p_0 : w6.cell? ⟨w4.heap.size, 0, none⟩ = some (.int .i64 p1) := cell_keep bb6 c5_p_0
  have c6_p_1 : w6.cell? ⟨w4.heap.size, 1, none⟩ = some (.int .i64 p2) := cell_keep bb6 c5_p_1
  have l6_p : w4.heap.size < w6.heap.size := by omega
  have c6_pq_0 : w6.cell? ⟨w5.heap.size, 0, none⟩ = some (.int .i64 p1) := cell_keep hb6 (by go_simp)
  have c6_pq_1 : w6.cell? ⟨w5.heap.size, 1, none⟩ = some (.int .i64 p2) := cell_keep hb6 (by go_simp)
  have l6_pq : w5.heap.size < w6.heap.size := by omega
  clear hb6 be5 bb6 c5_a_0 c5_a_1 l5_a c5_b_0 c5_b_1 l5_b c5_x_0 c5_x_1 c5_x_2 c5_x_3 l5_x c5_m_0 c5_m_1 l5_m c5_mq_0 c5_mq_1 l5_mq c5_p_0 c5_p_1 l5_p
  simp only [RV]
  go_wp2_with fail
  refine (rround_any an ad xp _).mono ?_
  rintro e w7 ⟨rfl, hb7⟩
  rw [HR.out]
  have hz7 := hb7.size
  (try simp at hz7)
  have bb7 : Below w6.heap.size w6 w7 := (by repeat (first | exact Below.refl _ _ | assumption | refine below_drewN ?_ _ | refine Below.setCell ?_ (by first | (simp; done) | (simp; omega)) _ | refine Below.alloc ?_ (by first | (simp; done) | (simp; omega) | omega) _ | refine Below.drew ?_ | refine Below.trans ?_ (Below.mono (by assumption) (by first | (simp; done) | (simp; omega) | omega))))
  have be7 : Below w.heap.size w w7 := be6.trans (bb7.mono (by omega))
  have c7_a_0 : w7.cell? ⟨w.heap.size, 0, none⟩ = some (.int .i64 an) := cell_keep bb7 c6_a_0
  have c7_a_1 : w7.cell? ⟨w.heap.size, 1, none⟩ = some (.int .i64 ad) := cell_keep bb7 c6_a_1
  have l7_a : w.heap.size < w7.heap.size := by omega
  have c7_b_0 : w7.cell? ⟨w.heap.size + 1, 0, none⟩ = some (.int .i64 bn) := cell_keep bb7 c6_b_0
  have c7_b_1 : w7.cell? ⟨w.heap.size + 1, 1, none⟩ = some (.int .i64 bd) := cell_keep bb7 c6_b_1
  have l7_b : w.heap.size + 1 < w7.heap.size := by omega
  have c7_x_0 : w7.cell? ⟨w.heap.size + 2, 0, none⟩ = some (.int .i64 xn) := cell_keep bb7 c6_x_0
  have c7_x_1 : w7.cell? ⟨w.heap.size + 2, 1, none⟩ = some (.int .i64 xd) := cell_keep bb7 c6_x_1
  have c7_x_2 : w7.cell? ⟨w.heap.size + 2, 2, none⟩ = some (.int .i64 xp) := cell_keep bb7 c6_x_2
  have c7_x_3 : w7.cell? ⟨w.heap.size + 2, 3, none⟩ = some (.string ⟨l.toArray⟩) := cell_keep bb7 c6_x_3
  have l7_x : w.heap.size + 2 < w7.heap.size := by omega
  have c7_m_0 : w7.cell? ⟨w2.heap.size, 0, none⟩ = some (.int .i64 m1) := cell_keep bb7 c6_m_0
  have c7_m_1 : w7.cell? ⟨w2.heap.size, 1, none⟩ = some (.int .i64 m2) := cell_keep bb7 c6_m_1
  have l7_m : w2.heap.size < w7.heap.size := by omega
  have c7_mq_0 : w7.cell? ⟨w3.heap.size, 0, none⟩ = some (.int .i64 m1) := cell_keep bb7 c6_mq_0
  have c7_mq_1 : w7.cell? ⟨w3.heap.size, 1, none⟩ = some (.int .i64 m2) := cell_keep bb7 c6_mq_1
  have l7_mq : w3.heap.size < w7.heap.size := by omega
  have c7_p_0 : w7.cell? ⟨w4.heap.size, 0, none⟩ = some (.int .i64 p1) := cell_keep bb7 c6_p_0
  have c7_p_1 : w7.cell? ⟨w4.heap.size, 1, none⟩ = some (.int .i64 p2) := cell_keep bb7 c6_p_1
  have l7_p : w4.heap.size < w7.heap.size := by omega
  have c7_pq_0 : w7.cell? ⟨w5.heap.size, 0, none⟩ = some (.int .i64 p1) := cell_keep bb7 c6_pq_0
  have c7_pq_1 : w7.cell? ⟨w5.heap.size, 1, none⟩ = some (.int .i64 p2) := cell_keep bb7 c6_pq_1
  have l7_pq : w5.heap.size < w7.heap.size := by omega
  have c7_r_0 : w7.cell? ⟨w6.heap.size, 0, none⟩ = some (.int .i64 r1) := cell_keep hb7 (by go_simp)
  have c7_r_1 : w7.cell? ⟨w6.heap.size, 1, none⟩ = some (.int .i64 r2) := cell_keep hb7 (by go_simp)
  have l7_r : w6.heap.size < w7.heap.size := by omega
  clear hb7 be6 bb7 c6_a_0 c6_a_1 l6_a c6_b_0 c6_b_1 l6_b c6_x_0 c6_x_1 c6_x_2 c6_x_3 l6_x c6_m_0 c6_m_1 l6_m c6_mq_0 c6_mq_1 l6_mq c6_p_0 c6_p_1 l6_p c6_pq_0 c6_pq_1 l6_pq
  simp only [RV]
  go_wp2_with fail
  refine (add_any an ad bn bd _ ka1 ka2 kb1 kb2).mono ?_
  rintro e w8 ⟨rfl, hb8⟩
  rw [HS.out]
  have hz8 := hb8.size
  (try simp at hz8)
  have bb8 : Below w7.heap.size w7 w8 := (by repeat (first | exact Below.refl _ _ | assumption | refine below_drewN ?_ _ | refine Below.setCell ?_ (by first | (simp; done) | (simp; omega)) _ | refine Below.alloc ?_ (by first | (simp; done) | (simp; omega) | omega) _ | refine Below.drew ?_ | refine Below.trans ?_ (Below.mono (by assumption) (by first | (simp; done) | (simp; omega) | omega))))
  have be8 : Below w.heap.size w w8 := be7.trans (bb8.mono (by omega))
  have c8_a_0 : w8.cell? ⟨w.heap.size, 0, none⟩ = some (.int .i64 an) := cell_keep bb8 c7_a_0
  have c8_a_1 : w8.cell? ⟨w.heap.size, 1, none⟩ = some (.int .i64 ad) := cell_keep bb8 c7_a_1
  have l8_a : w.heap.size < w8.heap.size := by omega
  have c8_b_0 : w8.cell? ⟨w.heap.size + 1, 0, none⟩ = some (.int .i64 bn) := cell_keep bb8 c7_b_0
  have c8_b_1 : w8.cell? ⟨w.heap.size + 1, 1, none⟩ = some (.int .i64 bd) := cell_keep bb8 c7_b_1
  have l8_b : w.heap.size + 1 < w8.heap.size := by omega
  have c8_x_0 : w8.cell? ⟨w.heap.size + 2, 0, none⟩ = some (.int .i64 xn) := cell_keep bb8 c7_x_0
  have c8_x_1 : w8.cell? ⟨w.heap.size + 2, 1, none⟩ = some (.int .i64 xd) := cell_keep bb8 c7_x_1
  have c8_x_2 : w8.cell? ⟨w.heap.size + 2, 2, none⟩ = some (.int .i64 xp) := cell_keep bb8 c7_x_2
  have c8_x_3 : w8.cell? ⟨w.heap.size + 2, 3, none⟩ = some (.string ⟨l.toArray⟩) := cell_keep bb8 c7_x_3
  have l8_x : w.heap.size + 2 < w8.heap.size := by omega
  have c8_m_0 : w8.cell? ⟨w2.heap.size, 0, none⟩ = some (.int .i64 m1) := cell_keep bb8 c7_m_0
  have c8_m_1 : w8.cell? ⟨w2.heap.size, 1, none⟩ = some (.int .i64 m2) := cell_keep bb8 c7_m_1
  have l8_m : w2.heap.size < w8.heap.size := by omega
  have c8_mq_0 : w8.cell? ⟨w3.heap.size, 0, none⟩ = some (.int .i64 m1) := cell_keep bb8 c7_mq_0
  have c8_mq_1 : w8.cell? ⟨w3.heap.size, 1, none⟩ = some (.int .i64 m2) := cell_keep bb8 c7_mq_1
  have l8_mq : w3.heap.size < w8.heap.size := by omega
  have c8_p_0 : w8.cell? ⟨w4.heap.size, 0, none⟩ = some (.int .i64 p1) := cell_keep bb8 c7_p_0
  have c8_p_1 : w8.cell? ⟨w4.heap.size, 1, none⟩ = some (.int .i64 p2) := cell_keep bb8 c7_p_1
  have l8_p : w4.heap.size < w8.heap.size := by omega
  have c8_pq_0 : w8.cell? ⟨w5.heap.size, 0, none⟩ = some (.int .i64 p1) := cell_keep bb8 c7_pq_0
  have c8_pq_1 : w8.cell? ⟨w5.heap.size, 1, none⟩ = some (.int .i64 p2) := cell_keep bb8 c7_pq_1
  have l8_pq : w5.heap.size < w8.heap.size := by omega
  have c8_r_0 : w8.cell? ⟨w6.heap.size, 0, none⟩ = some (.int .i64 r1) := cell_keep bb8 c7_r_0
  have c8_r_1 : w8.cell? ⟨w6.heap.size, 1, none⟩ = some (.int .i64 r2) := cell_keep bb8 c7_r_1
  have l8_r : w6.heap.size < w8.heap.size := by omega
  have c8_rq_0 : w8.cell? ⟨w7.heap.size, 0, none⟩ = some (.int .i64 r1) := cell_keep hb8 (by go_simp)
  have c8_rq_1 : w8.cell? ⟨w7.heap.size, 1, none⟩ = some (.int .i64 r2) := cell_keep hb8 (by go_simp)
  have l8_rq : w7.heap.size < w8.heap.size := by omega
  clear hb8 be7 bb8 c7_a_0 c7_a_1 l7_a c7_b_0 c7_b_1 l7_b c7_x_0 c7_x_1 c7_x_2 c7_x_3 l7_x c7_m_0 c7_m_1 l7_m c7_mq_0 c7_mq_1 l7_mq c7_p_0 c7_p_1 l7_p c7_pq_0 c7_pq_1 l7_pq c7_r_0 c7_r_1 l7_r
  simp only [RV]
  go_wp2_with fail
  refine (radd_any an ad bn bd _).mono ?_
  rintro e w9 ⟨rfl, hb9⟩
  rw [HS.out]
  have hz9 := hb9.size
  (try simp at hz9)
  have bb9 : Below w8.heap.size w8 w9 := (by repeat (first | exact Below.refl _ _ | assumption | refine below_drewN ?_ _ | refine Below.setCell ?_ (by first | (simp; done) | (simp; omega)) _ | refine Below.alloc ?_ (by first | (simp; done) | (simp; omega) | omega) _ | refine Below.drew ?_ | refine Below.trans ?_ (Below.mono (by assumption) (by first | (simp; done) | (simp; omega) | omega))))
  have be9 : Below w.heap.size w w9 := be8.trans (bb9.mono (by omega))
  have c9_a_0 : w9.cell? ⟨w.heap.size, 0, none⟩ = some (.int .i64 an) := cell_keep bb9 c8_a_0
  have c9_a_1 : w9.cell? ⟨w.heap.size, 1, none⟩ = some (.int .i64 ad) := cell_keep bb9 c8_a_1
  have l9_a : w.heap.size < w9.heap.size := by omega
  have c9_b_0 : w9.cell? ⟨w.heap.size + 1, 0, none⟩ = some (.int .i64 bn) := cell_keep bb9 c8_b_0
  have c9_b_1 : w9.cell? ⟨w.heap.size + 1, 1, none⟩ = some (.int .i64 bd) := cell_keep bb9 c8_b_1
  have l9_b : w.heap.size + 1 < w9.heap.size := by omega
  have c9_s_0 : w9.cell? ⟨w8.heap.size, 0, none⟩ = some (.int .i64 s1) := cell_keep hb9 (by go_simp)
  have c9_s_1 : w9.cell? ⟨w8.heap.size, 1, none⟩ = some (.int .i64 s2) := cell_keep hb9 (by go_simp)
  have l9_s : w8.heap.size < w9.heap.size := by omega
  clear hb9 be8 bb9 c8_a_0 c8_a_1 l8_a c8_b_0 c8_b_1 l8_b c8_x_0 c8_x_1 c8_x_2 c8_x_3 l8_x c8_m_0 c8_m_1 l8_m c8_mq_0 c8_mq_1 l8_mq c8_p_0 c8_p_1 l8_p c8_pq_0 c8_pq_1 l8_pq c8_r_0 c8_r_1 l8_r c8_rq_0 c8_rq_1 l8_rq
  simp only [RV]
  go_wp2_with fail
  refine (sub_any an ad bn bd _ ka1 ka2 kb1 kb2).mono ?_
  rintro e w10 ⟨rfl, hb10⟩
  rw [HU.out]
  have hz10 := hb10.size
  (try simp at hz10)
  have bb10 : Below w9.heap.size w9 w10 := (by repeat (first | exact Below.refl _ _ | assumption | refine below_drewN ?_ _ | refine Below.setCell ?_ (by first | (simp; done) | (simp; omega)) _ | refine Below.alloc ?_ (by first | (simp; done) | (simp; omega) | omega) _ | refine Below.drew ?_ | refine Below.trans ?_ (Below.mono (by assumption) (by first | (simp; done) | (simp; omega) | omega))))
  have be10 : Below w.heap.size w w10 := be9.trans (bb10.mono (by omega))
  have c10_a_0 : w10.cell? ⟨w.heap.size, 0, none⟩ = some (.int .i64 an) := cell_keep bb10 c9_a_0
  have c10_a_1 : w10.cell? ⟨w.heap.size, 1, none⟩ = some (.int .i64 ad) := cell_keep bb10 c9_a_1
  have l10_a : w.heap.size < w10.heap.size := by omega
  have c10_b_0 : w10.cell? ⟨w.heap.size + 1, 0, none⟩ = some (.int .i64 bn) := cell_keep bb10 c9_b_0
  have c10_b_1 : w10.cell? ⟨w.heap.size + 1, 1, none⟩ = some (.int .i64 bd) := cell_keep bb10 c9_b_1
  have l10_b : w.heap.size + 1 < w10.heap.size := by omega
  have c10_s_0 : w10.cell? ⟨w8.heap.size, 0, none⟩ = some (.int .i64 s1) := cell_keep bb10 c9_s_0
  have c10_s_1 : w10.cell? ⟨w8.heap.size, 1, none⟩ = some (.int .i64 s2) := cell_keep bb10 c9_s_1
  have l10_s : w8.heap.size < w10.heap.size := by omega
  have c10_sq_0 : w10.cell? ⟨w9.heap.size, 0, none⟩ = some (.int .i64 s1) := cell_keep hb10 (by go_simp)
  have c10_sq_1 : w10.cell? ⟨w9.heap.size, 1, none⟩ = some (.int .i64 s2) := cell_keep hb10 (by go_simp)
  have l10_sq : w9.heap.size < w10.heap.size := by omega
  clear hb10 be9 bb10 c9_a_0 c9_a_1 l9_a c9_b_0 c9_b_1 l9_b c9_s_0 c9_s_1 l9_s
  simp only [RV]
  go_wp2_with fail
  refine (rsub_any an ad bn bd _).mono ?_
  rintro e w11 ⟨rfl, hb11⟩
  rw [HU.out]
  have hz11 := hb11.size
  (try simp at hz11)
  have bb11 : Below w10.heap.size w10 w11 := (by repeat (first | exact Below.refl _ _ | assumption | refine below_drewN ?_ _ | refine Below.setCell ?_ (by first | (simp; done) | (simp; omega)) _ | refine Below.alloc ?_ (by first | (simp; done) | (simp; omega) | omega) _ | refine Below.drew ?_ | refine Below.trans ?_ (Below.mono (by assumption) (by first | (simp; done) | (simp; omega) | omega))))
  have be11 : Below w.heap.size w w11 := be10.trans (bb11.mono (by omega))
  have c11_a_0 : w11.cell? ⟨w.heap.size, 0, none⟩ = some (.int .i64 an) := cell_keep bb11 c10_a_0
  have c11_a_1 : w11.cell? ⟨w.heap.size, 1, none⟩ = some (.int .i64 ad) := cell_keep bb11 c10_a_1
  have l11_a : w.heap.size < w11.heap.size := by omega
  have c11_b_0 : w11.cell? ⟨w.heap.size + 1, 0, none⟩ = some (.int .i64 bn) := cell_keep bb11 c10_b_0
  have c11_b_1 : w11.cell? ⟨w.heap.size + 1, 1, none⟩ = some (.int .i64 bd) := cell_keep bb11 c10_b_1
  have l11_b : w.heap.size + 1 < w11.heap.size := by omega
  have c11_s_0 : w11.cell? ⟨w8.heap.size, 0, none⟩ = some (.int .i64 s1) := cell_keep bb11 c10_s_0
  have c11_s_1 : w11.cell? ⟨w8.heap.size, 1, none⟩ = some (.int .i64 s2) := cell_keep bb11 c10_s_1
  have l11_s : w8.heap.size < w11.heap.size := by omega
  have c11_sq_0 : w11.cell? ⟨w9.heap.size, 0, none⟩ = some (.int .i64 s1) := cell_keep bb11 c10_sq_0
  have c11_sq_1 : w11.cell? ⟨w9.heap.size, 1, none⟩ = some (.int .i64 s2) := cell_keep bb11 c10_sq_1
  have l11_sq : w9.heap.size < w11.heap.size := by omega
  have c11_u_0 : w11.cell? ⟨w10.heap.size, 0, none⟩ = some (.int .i64 u1) := cell_keep hb11 (by go_simp)
  have c11_u_1 : w11.cell? ⟨w10.heap.size, 1, none⟩ = some (.int .i64 u2) := cell_keep hb11 (by go_simp)
  have l11_u : w10.heap.size < w11.heap.size := by omega
  clear hb11 be10 bb11 c10_a_0 c10_a_1 l10_a c10_b_0 c10_b_1 l10_b c10_s_0 c10_s_1 l10_s c10_sq_0 c10_sq_1 l10_sq
  simp only [RV]
  go_wp2_with fail
  refine (mul_any an ad bn bd _ ka1 ka2 kb1 kb2).mono ?_
  rintro e w12 ⟨rfl, hb12⟩
  rw [HT.out]
  have hz12 := hb12.size
  (try simp at hz12)
  have bb12 : Below w11.heap.size w11 w12 := (by repeat (first | exact Below.refl _ _ | assumption | refine below_drewN ?_ _ | refine Below.setCell ?_ (by first | (simp; done) | (simp; omega)) _ | refine Below.alloc ?_ (by first | (simp; done) | (simp; omega) | omega) _ | refine Below.drew ?_ | refine Below.trans ?_ (Below.mono (by assumption) (by first | (simp; done) | (simp; omega) | omega))))
  have be12 : Below w.heap.size w w12 := be11.trans (bb12.mono (by omega))
  have c12_a_0 : w12.cell? ⟨w.heap.size, 0, none⟩ = some (.int .i64 an) := cell_keep bb12 c11_a_0
  have c12_a_1 : w12.cell? ⟨w.heap.size, 1, none⟩ = some (.int .i64 ad) := cell_keep bb12 c11_a_1
  have l12_a : w.heap.size < w12.heap.size := by omega
  have c12_b_0 : w12.cell? ⟨w.heap.size + 1, 0, none⟩ = some (.int .i64 bn) := cell_keep bb12 c11_b_0
  have c12_b_1 : w12.cell? ⟨w.heap.size + 1, 1, none⟩ = some (.int .i64 bd) := cell_keep bb12 c11_b_1
  have l12_b : w.heap.size + 1 < w12.heap.size := by omega
  have c12_s_0 : w12.cell? ⟨w8.heap.size, 0, none⟩ = some (.int .i64 s1) := cell_keep bb12 c11_s_0
  have c12_s_1 : w12.cell? ⟨w8.heap.size, 1, none⟩ = some (.int .i64 s2) := cell_keep bb12 c11_s_1
  have l12_s : w8.heap.size < w12.heap.size := by omega
  have c12_sq_0 : w12.cell? ⟨w9.heap.size, 0, none⟩ = some (.int .i64 s1) := cell_keep bb12 c11_sq_0
  have c12_sq_1 : w12.cell? ⟨w9.heap.size, 1, none⟩ = some (.int .i64 s2) := cell_keep bb12 c11_sq_1
  have l12_sq : w9.heap.size < w12.heap.size := by omega
  have c12_u_0 : w12.cell? ⟨w10.heap.size, 0, none⟩ = some (.int .i64 u1) := cell_keep bb12 c11_u_0
  have c12_u_1 : w12.cell? ⟨w10.heap.size, 1, none⟩ = some (.int .i64 u2) := cell_keep bb12 c11_u_1
  have l12_u : w10.heap.size < w12.heap.size := by omega
  have c12_uq_0 : w12.cell? ⟨w11.heap.size, 0, none⟩ = some (.int .i64 u1) := cell_keep hb12 (by go_simp)
  have c12_uq_1 : w12.cell? ⟨w11.heap.size, 1, none⟩ = some (.int .i64 u2) := cell_keep hb12 (by go_simp)
  have l12_uq : w11.heap.size < w12.heap.size := by omega
  clear hb12 be11 bb12 c11_a_0 c11_a_1 l11_a c11_b_0 c11_b_1 l11_b c11_s_0 c11_s_1 l11_s c11_sq_0 c11_sq_1 l11_sq c11_u_0 c11_u_1 l11_u
  simp only [RV]
  go_wp2_with fail
  refine (rmul_any an ad bn bd _).mono ?_
  rintro e w13 ⟨rfl, hb13⟩
  rw [HT.out]
  have hz13 := hb13.size
  (try simp at hz13)
  have bb13 : Below w12.heap.size w12 w13 := (by repeat (first | exact Below.refl _ _ | assumption | refine below_drewN ?_ _ | refine Below.setCell ?_ (by first | (simp; done) | (simp; omega)) _ | refine Below.alloc ?_ (by first | (simp; done) | (simp; omega) | omega) _ | refine Below.drew ?_ | refine Below.trans ?_ (Below.mono (by assumption) (by first | (simp; done) | (simp; omega) | omega))))
  have be13 : Below w.heap.size w w13 := be12.trans (bb13.mono (by omega))
  have c13_a_0 : w13.cell? ⟨w.heap.size, 0, none⟩ = some (.int .i64 an) := cell_keep bb13 c12_a_0
  have c13_a_1 : w13.cell? ⟨w.heap.size, 1, none⟩ = some (.int .i64 ad) := cell_keep bb13 c12_a_1
  have l13_a : w.heap.size < w13.heap.size := by omega
  have c13_b_0 : w13.cell? ⟨w.heap.size + 1, 0, none⟩ = some (.int .i64 bn) := cell_keep bb13 c12_b_0
  have c13_b_1 : w13.cell? ⟨w.heap.size + 1, 1, none⟩ = some (.int .i64 bd) := cell_keep bb13 c12_b_1
  have l13_b : w.heap.size + 1 < w13.heap.size := by omega
  have c13_s_0 : w13.cell? ⟨w8.heap.size, 0, none⟩ = some (.int .i64 s1) := cell_keep bb13 c12_s_0
  have c13_s_1 : w13.cell? ⟨w8.heap.size, 1, none⟩ = some (.int .i64 s2) := cell_keep bb13 c12_s_1
  have l13_s : w8.heap.size < w13.heap.size := by omega
  have c13_sq_0 : w13.cell? ⟨w9.heap.size, 0, none⟩ = some (.int .i64 s1) := cell_keep bb13 c12_sq_0
  have c13_sq_1 : w13.cell? ⟨w9.heap.size, 1, none⟩ = some (.int .i64 s2) := cell_keep bb13 c12_sq_1
  have l13_sq : w9.heap.size < w13.heap.size := by omega
  have c13_u_0 : w13.cell? ⟨w10.heap.size, 0, none⟩ = some (.int .i64 u1) := cell_keep bb13 c12_u_0
  have c13_u_1 : w13.cell? ⟨w10.heap.size, 1, none⟩ = some (.int .i64 u2) := cell_keep bb13 c12_u_1
  have l13_u : w10.heap.size < w13.heap.size := by omega
  have c13_uq_0 : w13.cell? ⟨w11.heap.size, 0, none⟩ = some (.int .i64 u1) := cell_keep bb13 c12_uq_0
  have c13_uq_1 : w13.cell? ⟨w11.heap.size, 1, none⟩ = some (.int .i64 u2) := cell_keep bb13 c12_uq_1
  have l13_uq : w11.heap.size < w13.heap.size := by omega
  have c13_t_0 : w13.cell? ⟨w12.heap.size, 0, none⟩ = some (.int .i64 t1) := cell_keep hb13 (by go_simp)
  have c13_t_1 : w13.cell? ⟨w12.heap.size, 1, none⟩ = some (.int .i64 t2) := cell_keep hb13 (by go_simp)
  have l13_t : w12.heap.size < w13.heap.size := by omega
  clear hb13 be12 bb13 c12_a_0 c12_a_1 l12_a c12_b_0 c12_b_1 l12_b c12_s_0 c12_s_1 l12_s c12_sq_0 c12_sq_1 l12_sq c12_u_0 c12_u_1 l12_u c12_uq_0 c12_uq_1 l12_uq
  simp only [RV]
  go_wp2_with fail
  refine (div_any an ad bn bd _ ka1 ka2 kb1 kb2).mono ?_
  rintro e w14 ⟨rfl, hb14⟩
  rw [HD.out]
  have hz14 := hb14.size
  (try simp at hz14)
  have bb14 : Below w13.heap.size w13 w14 := (by repeat (first | exact Below.refl _ _ | assumption | refine below_drewN ?_ _ | refine Below.setCell ?_ (by first | (simp; done) | (simp; omega)) _ | refine Below.alloc ?_ (by first | (simp; done) | (simp; omega) | omega) _ | refine Below.drew ?_ | refine Below.trans ?_ (Below.mono (by assumption) (by first | (simp; done) | (simp; omega) | omega))))
  have be14 : Below w.heap.size w w14 := be13.trans (bb14.mono (by omega))
  have c14_a_0 : w14.cell? ⟨w.heap.size, 0, none⟩ = some (.int .i64 an) := cell_keep bb14 c13_a_0
  have c14_a_1 : w14.cell? ⟨w.heap.size, 1, none⟩ = some (.int .i64 ad) := cell_keep bb14 c13_a_1
  have l14_a : w.heap.size < w14.heap.size := by omega
  have c14_b_0 : w14.cell? ⟨w.heap.size + 1, 0, none⟩ = some (.int .i64 bn) := cell_keep bb14 c13_b_0
  have c14_b_1 : w14.cell? ⟨w.heap.size + 1, 1, none⟩ = some (.int .i64 bd) := cell_keep bb14 c13_b_1
  have l14_b : w.heap.size + 1 < w14.heap.size := by omega
  have c14_s_0 : w14.cell? ⟨w8.heap.size, 0, none⟩ = some (.int .i64 s1) := cell_keep bb14 c13_s_0
  have c14_s_1 : w14.cell? ⟨w8.heap.size, 1, none⟩ = some (.int .i64 s2) := cell_keep bb14 c13_s_1
  have l14_s : w8.heap.size < w14.heap.size := by omega
  have c14_sq_0 : w14.cell? ⟨w9.heap.size, 0, none⟩ = some (.int .i64 s1) := cell_keep bb14 c13_sq_0
  have c14_sq_1 : w14.cell? ⟨w9.heap.size, 1, none⟩ = some (.int .i64 s2) := cell_keep bb14 c13_sq_1
  have l14_sq : w9.heap.size < w14.heap.size := by omega
  have c14_u_0 : w14.cell? ⟨w10.heap.size, 0, none⟩ = some (.int .i64 u1) := cell_keep bb14 c13_u_0
  have c14_u_1 : w14.cell? ⟨w10.heap.size, 1, none⟩ = some (.int .i64 u2) := cell_keep bb14 c13_u_1
  have l14_u : w10.heap.size < w14.heap.size := by omega
  have c14_uq_0 : w14.cell? ⟨w11.heap.size, 0, none⟩ = some (.int .i64 u1) := cell_keep bb14 c13_uq_0
  have c14_uq_1 : w14.cell? ⟨w11.heap.size, 1, none⟩ = some (.int .i64 u2) := cell_keep bb14 c13_uq_1
  have l14_uq : w11.heap.size < w14.heap.size := by omega
  have c14_t_0 : w14.cell? ⟨w12.heap.size, 0, none⟩ = some (.int .i64 t1) := cell_keep bb14 c13_t_0
  have c14_t_1 : w14.cell? ⟨w12.heap.size, 1, none⟩ = some (.int .i64 t2) := cell_keep bb14 c13_t_1
  have l14_t : w12.heap.size < w14.heap.size := by omega
  have c14_tq_0 : w14.cell? ⟨w13.heap.size, 0, none⟩ = some (.int .i64 t1) := cell_keep hb14 (by go_simp)
  have c14_tq_1 : w14.cell? ⟨w13.heap.size, 1, none⟩ = some (.int .i64 t2) := cell_keep hb14 (by go_simp)
  have l14_tq : w13.heap.size < w14.heap.size := by omega
  clear hb14 be13 bb14 c13_a_0 c13_a_1 l13_a c13_b_0 c13_b_1 l13_b c13_s_0 c13_s_1 l13_s c13_sq_0 c13_sq_1 l13_sq c13_u_0 c13_u_1 l13_u c13_uq_0 c13_uq_1 l13_uq c13_t_0 c13_t_1 l13_t
  simp only [RV]
  go_wp2_with fail
  refine (rdiv_any an ad bn bd _).mono ?_
  rintro e w15 ⟨rfl, hb15⟩
  rw [HD.out]
  have hz15 := hb15.size
  (try simp at hz15)
  have bb15 : Below w14.heap.size w14 w15 := (by repeat (first | exact Below.refl _ _ | assumption | refine below_drewN ?_ _ | refine Below.setCell ?_ (by first | (simp; done) | (simp; omega)) _ | refine Below.alloc ?_ (by first | (simp; done) | (simp; omega) | omega) _ | refine Below.drew ?_ | refine Below.trans ?_ (Below.mono (by assumption) (by first | (simp; done) | (simp; omega) | omega))))
  have be15 : Below w.heap.size w w15 := be14.trans (bb15.mono (by omega))
  have c15_a_0 : w15.cell? ⟨w.heap.size, 0, none⟩ = some (.int .i64 an) := cell_keep bb15 c14_a_0
  have c15_a_1 : w15.cell? ⟨w.heap.size, 1, none⟩ = some (.int .i64 ad) := cell_keep bb15 c14_a_1
  have l15_a : w.heap.size < w15.heap.size := by omega
  have c15_b_0 : w15.cell? ⟨w.heap.size + 1, 0, none⟩ = some (.int .i64 bn) := cell_keep bb15 c14_b_0
  have c15_b_1 : w15.cell? ⟨w.heap.size + 1, 1, none⟩ = some (.int .i64 bd) := cell_keep bb15 c14_b_1
  have l15_b : w.heap.size + 1 < w15.heap.size := by omega
  have c15_d_0 : w15.cell? ⟨w14.heap.size, 0, none⟩ = some (.int .i64 d1) := cell_keep hb15 (by go_simp)
  have c15_d_1 : w15.cell? ⟨w14.heap.size, 1, none⟩ = some (.int .i64 d2) := cell_keep hb15 (by go_simp)
  have l15_d : w14.heap.size < w15.heap.size := by omega
  clear hb15 be14 bb15 c14_a_0 c14_a_1 l14_a c14_b_0 c14_b_1 l14_b c14_s_0 c14_s_1 l14_s c14_sq_0 c14_sq_1 l14_sq c14_u_0 c14_u_1 l14_u c14_uq_0 c14_uq_1 l14_uq c14_t_0 c14_t_1 l14_t c14_tq_0 c14_tq_1 l14_tq
  simp only [RV]
  go_wp2_with fail
  refine wp_world (fun W => Below w.heap.size w W ∧ w15.heap.size < W.heap.size ∧ W.cell? ⟨w.heap.size, 0, none⟩ = some (.int .i64 an) ∧ W.cell? ⟨w.heap.size, 1, none⟩ = some (.int .i64 ad) ∧ W.cell? ⟨w.heap.size + 1, 0, none⟩ = some (.int .i64 bn) ∧ W.cell? ⟨w.heap.size + 1, 1, none⟩ = some (.int .i64 bd) ∧ W.cell? ⟨w14.heap.size, 0, none⟩ = some (.int .i64 d1) ∧ W.cell? ⟨w14.heap.size, 1, none⟩ = some (.int .i64 d2) ∧ W.cell? ⟨w15.heap.size, 0, none⟩ = some (.int .i64 d1) ∧ W.cell? ⟨w15.heap.size, 1, none⟩ = some (.int .i64 d2)) ⟨(by repeat (first | exact Below.refl _ _ | assumption | refine below_drewN ?_ _ | refine Below.setCell ?_ (by first | (simp; done) | (simp; omega)) _ | refine Below.alloc ?_ (by first | (simp; done) | (simp; omega) | omega) _ | refine Below.drew ?_ | refine Below.trans ?_ (Below.mono (by assumption) (by first | (simp; done) | (simp; omega) | omega)))), by first | (simp; done) | (simp; omega), by go_simp, by go_simp, by go_simp, by go_simp, by go_simp, by go_simp, by go_simp, by go_simp⟩ ?_
  rintro w20 ⟨be20, lz, k_a_0, k_a_1, k_b_0, k_b_1, k_d_0, k_d_1, k_dq_0, k_dq_1⟩
  have l20_a : w.heap.size < w20.heap.size := by omega
  have l20_b : w.heap.size + 1 < w20.heap.size := by omega
  have l20_d : w14.heap.size < w20.heap.size := by omega
  have l20_dq : w15.heap.size < w20.heap.size := by omega
  have lw20 : w.heap.size ≤ w20.heap.size := by omega
  clear be15 c15_a_0 c15_a_1 c15_b_0 c15_b_1 c15_d_0 c15_d_1 l15_a l15_b l15_d
  go_region_held3 (fun w' => Below w20.heap.size w20 w' ∧ ∀ b o, b < w20.heap.size → w'.cell? ⟨b, o, none⟩ = w20.cell? ⟨b, o, none⟩) (first | assumption | exact holdT (by assumption) (by assumption) | exact holdS (by repeat (first | exact Below.refl _ _ | assumption | refine below_drewN ?_ _ | refine Below.setCell ?_ (by first | (simp; done) | (simp; omega)) _ | refine Below.alloc ?_ (by first | (simp; done) | (simp; omega) | omega) _ | refine Below.drew ?_ | refine Below.trans ?_ (Below.mono (by assumption) (by first | (simp; done) | (simp; omega) | omega)))))
    (first | (go_at_call 19; refine (valid_any an ad _ ka1 ka2).mono ?_; rintro e w' ⟨rfl, hb'⟩; rw [HV.out]) | (go_at_call 20; refine (rvalid_any an ad _).mono ?_; rintro e w' ⟨rfl, hb'⟩; rw [HV.out]) | (go_at_call 21; refine (cmp_any an ad bn bd _ ka1 ka2 kb1 kb2).mono ?_; rintro e w' ⟨rfl, hb'⟩; rw [HC.out]) | (go_at_call 22; refine (rcmp_any an ad bn bd _).mono ?_; rintro e w' ⟨rfl, hb'⟩; rw [HC.out]) | (go_at_call 23; refine (floor_any an ad _ ka1 ka2).mono ?_; rintro e w' ⟨rfl, hb'⟩; rw [HF.out]) | (go_at_call 24; refine (rfloor_any an ad _).mono ?_; rintro e w' ⟨rfl, hb'⟩; rw [HF.out]) | (go_at_call 25; refine (text_any an ad _ ka1 ka2 (HE.out.below (belT be20 (by omega) (by assumption)))).mono ?_; rintro e w' ⟨rfl, hb'⟩; rw [HX.out]) | (go_at_call 26; refine (rtext_any an ad _).mono ?_; rintro e w' ⟨rfl, hb'⟩; rw [HX.out]))
  go_wp2
  go_ret
  exact ⟨rfl, (belT be20 (by omega) (by assumption))⟩
theorem matches_law (an ad bn bd xn xd xp : Int) (s : ByteArray) (w : World) (ka1 : -9223372036854775808 ≤ an) (ka2 : an ≤ 9223372036854775807) (_ : -9223372036854775808 ≤ ad) (_ : ad ≤ 9223372036854775807) (kb1 : -9223372036854775808 ≤ bn) (kb2 : bn ≤ 9223372036854775807) (_ : -9223372036854775808 ≤ bd) (_ : bd ≤ 9223372036854775807) (kx1 : -9223372036854775808 ≤ xn) (kx2 : xn ≤ 9223372036854775807) (ky1 : -9223372036854775808 ≤ xd) (ky2 : xd ≤ 9223372036854775807) (_ : -9223372036854775808 ≤ xp) (_ : xp ≤ 9223372036854775807) (hE : Env w) :
    Calls Tryd.prog 3 #[.agg #[.int .i64 an, .int .i64 ad], .agg #[.int .i64 bn, .int .i64 bd], .agg #[.int .i64 xn, .int .i64 xd, .int .i64 xp, .string s]] w fun e w' => e = .returned (.bool true) ∧ Below w.heap.size w w' := by
  obtain ⟨l, hs⟩ : ∃ l : List UInt8, s = ⟨l.toArray⟩ := ⟨s.data.toList, by simp⟩
  subst hs
  by_cases hl : l.length ≤ 1000
  · exact matches_short an ad bn bd xn xd xp l w hE hl ka1 ka2 kb1 kb2 kx1 kx2 ky1 ky2 _ _ _ rfl _ _ _ rfl _ _ _ rfl _ _ _ rfl _ _ _ rfl _ _ _ rfl _ _ _ rfl _ rfl _ _ rfl rfl _ rfl
  · exact matches_long an ad bn bd xn xd xp l w hE (by omega)
end Go.Proofs.YtmdgccnpcmjpbaaDoor

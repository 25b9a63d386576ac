/- DeadlineExtremes: the walk of the law. -/
import Derived.Test.YtlbfnafniobnaaaDoorDnY
namespace Go.Proofs.YtlbfnafniobnaaaDoor
open Go.RowKit Go.Shelf

set_option maxRecDepth 100000 in
set_option maxHeartbeats 1600000 in
theorem ex_s (p0 : Option Addr) (cap0 : Nat) (ks : List Dl.T) (c : Cal) (q : Option Addr) (capq : Nat) (l : List Wh) (w : World) (ht : ∀ kd : Int, TAt w (.node kd 0 0 false p0 cap0 ks) ∧ LenOK (.node kd 0 0 false p0 cap0 ks)) (hc : CalIn w c) (hl : EvAt w q l) (he : Env w) (hs : smallB (exT 7 p0 cap0 ks) l = false) :
    Calls Tryd.prog 6 #[.slice p0 ks.length cap0, .agg #[.bool c.b0, .bool c.b1, .bool c.b2, .bool c.b3, .bool c.b4, .bool c.b5, .bool c.b6, .slice c.p c.hs.length c.cap], .slice q l.length capq] w fun e w' => e = .returned (.bool true) ∧ Below w.heap.size w w' := by
  have HT0 := Lib.hid (show TAt w (exT 7 p0 cap0 ks) from (ht 7).1)
  have HN := Lib.hid (show LenOK (exT 7 p0 cap0 ks) from (ht 7).2)
  clear ht
  have HC0 := Lib.hid hc
  clear hc
  have HL0 := Lib.hid hl
  clear hl
  have HE0 := Lib.hid he
  clear he
  have HS := Lib.hid hs
  clear hs
  go_enter Tryd.func6, Tryd.ntmps6
  go_wp2_with fail
  refine (head_any _ (HE0.out.below (by repeat (first | exact Below.refl _ _ | assumption | refine below_drewN ?_ _ | refine Below.setCell ?_ (by first | (simp; done) | (simp; omega)) _ | refine Below.alloc ?_ (by first | (simp; done) | (simp; omega) | omega) _ | refine Below.drew ?_ | refine Below.trans ?_ (Below.mono (by assumption) (by first | (simp; done) | (simp; omega) | omega)))))).mono ?_
  rintro e w1 ⟨rfl, hb1⟩
  have hz1 := hb1.size
  (try simp at hz1)
  have bb1 : Below w.heap.size w w1 := (by repeat (first | exact Below.refl _ _ | assumption | refine below_drewN ?_ _ | refine Below.setCell ?_ (by first | (simp; done) | (simp; omega)) _ | refine Below.alloc ?_ (by first | (simp; done) | (simp; omega) | omega) _ | refine Below.drew ?_ | refine Below.trans ?_ (Below.mono (by assumption) (by first | (simp; done) | (simp; omega) | omega))))
  have be1 : Below w.heap.size w w1 := bb1
  have c1_c_0 : w1.cell? ⟨w.heap.size, 0, none⟩ = some (.bool c.b0) := cell_keep hb1 (by go_simp)
  have c1_c_1 : w1.cell? ⟨w.heap.size, 1, none⟩ = some (.bool c.b1) := cell_keep hb1 (by go_simp)
  have c1_c_2 : w1.cell? ⟨w.heap.size, 2, none⟩ = some (.bool c.b2) := cell_keep hb1 (by go_simp)
  have c1_c_3 : w1.cell? ⟨w.heap.size, 3, none⟩ = some (.bool c.b3) := cell_keep hb1 (by go_simp)
  have c1_c_4 : w1.cell? ⟨w.heap.size, 4, none⟩ = some (.bool c.b4) := cell_keep hb1 (by go_simp)
  have c1_c_5 : w1.cell? ⟨w.heap.size, 5, none⟩ = some (.bool c.b5) := cell_keep hb1 (by go_simp)
  have c1_c_6 : w1.cell? ⟨w.heap.size, 6, none⟩ = some (.bool c.b6) := cell_keep hb1 (by go_simp)
  have c1_c_7 : w1.cell? ⟨w.heap.size, 7, none⟩ = some (.slice c.p c.hs.length c.cap) := cell_keep hb1 (by go_simp)
  have l1_c : w.heap.size < w1.heap.size := by omega
  have m1_c : w.heap.size < w1.heap.size + 1 := by omega
  have HT1 := Lib.hid (HT0.out.below bb1)
  have HC1 := Lib.hid (HC0.out.below bb1)
  have HL1 := Lib.hid (HL0.out.below bb1)
  have HE1 := Lib.hid (HE0.out.below bb1)
  have BE1 := Lib.hid be1
  clear be1 bb1 hb1 HT0 HC0 HL0 HE0
  go_wp2_with fail
  refine (small_any (exT 7 p0 cap0 ks) q l capq _ HN.out (HT1.out.below (by repeat (first | exact Below.refl _ _ | assumption | refine below_drewN ?_ _ | refine Below.setCell ?_ (by first | (simp; done) | (simp; omega)) _ | refine Below.alloc ?_ (by first | (simp; done) | (simp; omega) | omega) _ | refine Below.drew ?_ | refine Below.trans ?_ (Below.mono (by assumption) (by first | (simp; done) | (simp; omega) | omega)))))).mono ?_
  rintro e w2 ⟨rfl, hb2⟩
  rw [HS.out]
  have hz2 := hb2.size
  (try simp at hz2)
  have bb2 : Below w1.heap.size w1 w2 := (by repeat (first | exact Below.refl _ _ | assumption | refine below_drewN ?_ _ | refine Below.setCell ?_ (by first | (simp; done) | (simp; omega)) _ | refine Below.alloc ?_ (by first | (simp; done) | (simp; omega) | omega) _ | refine Below.drew ?_ | refine Below.trans ?_ (Below.mono (by assumption) (by first | (simp; done) | (simp; omega) | omega))))
  have be2 : Below w.heap.size w w2 := BE1.out.trans (bb2.mono BE1.out.size)
  have c2_c_0 : w2.cell? ⟨w.heap.size, 0, none⟩ = some (.bool c.b0) := cell_keep bb2 c1_c_0
  have c2_c_1 : w2.cell? ⟨w.heap.size, 1, none⟩ = some (.bool c.b1) := cell_keep bb2 c1_c_1
  have c2_c_2 : w2.cell? ⟨w.heap.size, 2, none⟩ = some (.bool c.b2) := cell_keep bb2 c1_c_2
  have c2_c_3 : w2.cell? ⟨w.heap.size, 3, none⟩ = some (.bool c.b3) := cell_keep bb2 c1_c_3
  have c2_c_4 : w2.cell? ⟨w.heap.size, 4, none⟩ = some (.bool c.b4) := cell_keep bb2 c1_c_4
  have c2_c_5 : w2.cell? ⟨w.heap.size, 5, none⟩ = some (.bool c.b5) := cell_keep bb2 c1_c_5
  have c2_c_6 : w2.cell? ⟨w.heap.size, 6, none⟩ = some (.bool c.b6) := cell_keep bb2 c1_c_6
  have c2_c_7 : w2.cell? ⟨w.heap.size, 7, none⟩ = some (.slice c.p c.hs.length c.cap) := cell_keep bb2 c1_c_7
  have l2_c : w.heap.size < w2.heap.size := by omega
  have m2_c : w.heap.size < w2.heap.size + 1 := by omega
  have c2_f_0 : w2.cell? ⟨w1.heap.size, 0, none⟩ = some (.int .i64 7) := cell_keep hb2 (by go_simp)
  have c2_f_1 : w2.cell? ⟨w1.heap.size, 1, none⟩ = some (.int .i64 0) := cell_keep hb2 (by go_simp)
  have c2_f_2 : w2.cell? ⟨w1.heap.size, 2, none⟩ = some (.int .i64 0) := cell_keep hb2 (by go_simp)
  have c2_f_3 : w2.cell? ⟨w1.heap.size, 3, none⟩ = some (.bool false) := cell_keep hb2 (by go_simp)
  have c2_f_4 : w2.cell? ⟨w1.heap.size, 4, none⟩ = some (.slice p0 ks.length cap0) := cell_keep hb2 (by go_simp)
  have l2_f : w1.heap.size < w2.heap.size := by omega
  have m2_f : w1.heap.size < w2.heap.size + 1 := by omega
  have c2_g_0 : w2.cell? ⟨w1.heap.size + 1, 0, none⟩ = some (.int .i64 8) := cell_keep hb2 (by go_simp)
  have c2_g_1 : w2.cell? ⟨w1.heap.size + 1, 1, none⟩ = some (.int .i64 0) := cell_keep hb2 (by go_simp)
  have c2_g_2 : w2.cell? ⟨w1.heap.size + 1, 2, none⟩ = some (.int .i64 0) := cell_keep hb2 (by go_simp)
  have c2_g_3 : w2.cell? ⟨w1.heap.size + 1, 3, none⟩ = some (.bool false) := cell_keep hb2 (by go_simp)
  have c2_g_4 : w2.cell? ⟨w1.heap.size + 1, 4, none⟩ = some (.slice p0 ks.length cap0) := cell_keep hb2 (by go_simp)
  have l2_g : w1.heap.size + 1 < w2.heap.size := by omega
  have m2_g : w1.heap.size + 1 < w2.heap.size + 1 := by omega
  have HT2 := Lib.hid (HT1.out.below bb2)
  have HC2 := Lib.hid (HC1.out.below bb2)
  have HL2 := Lib.hid (HL1.out.below bb2)
  have HE2 := Lib.hid (HE1.out.below bb2)
  have BE2 := Lib.hid be2
  clear be2 bb2 hb2 BE1 c1_c_0 c1_c_1 c1_c_2 c1_c_3 c1_c_4 c1_c_5 c1_c_6 c1_c_7 l1_c m1_c HT1 HC1 HL1 HE1
  go_wp2_with fail
  go_ret
  exact ⟨rfl, (by have q := BE2.out; repeat (first | exact q | refine Below.setCell ?_ (by first | (simp; done) | omega | (simp; omega)) _ | refine Below.alloc ?_ (by first | (simp; done) | omega | (simp; omega)) _ | refine below_drewN ?_ _ | refine Below.drew ?_))⟩
set_option maxRecDepth 100000 in
set_option maxHeartbeats 1600000 in
theorem ex_0 (p0 : Option Addr) (cap0 : Nat) (ks : List Dl.T) (c : Cal) (q : Option Addr) (capq : Nat) (l : List Wh) (w : World) (ht : ∀ kd : Int, TAt w (.node kd 0 0 false p0 cap0 ks) ∧ LenOK (.node kd 0 0 false p0 cap0 ks)) (hc : CalIn w c) (hl : EvAt w q l) (he : Env w) (hs : smallB (exT 7 p0 cap0 ks) l = true) (hln : l.length ≤ 40) (ha : evalS (exT 7 p0 cap0 ks) c l = (0, false, 0)) (hb : evalS (exT 8 p0 cap0 ks) c l = (0, false, 0)) :
    Calls Tryd.prog 6 #[.slice p0 ks.length cap0, .agg #[.bool c.b0, .bool c.b1, .bool c.b2, .bool c.b3, .bool c.b4, .bool c.b5, .bool c.b6, .slice c.p c.hs.length c.cap], .slice q l.length capq] w fun e w' => e = .returned (.bool true) ∧ Below w.heap.size w w' := by
  have HT0 := Lib.hid (show TAt w (exT 7 p0 cap0 ks) from (ht 7).1)
  have HN := Lib.hid (show LenOK (exT 7 p0 cap0 ks) from (ht 7).2)
  clear ht
  have HC0 := Lib.hid hc
  clear hc
  have HL0 := Lib.hid hl
  clear hl
  have HE0 := Lib.hid he
  clear he
  have HS := Lib.hid hs
  clear hs
  have HA := Lib.hid ha
  clear ha
  have HB := Lib.hid hb
  clear hb
  go_enter Tryd.func6, Tryd.ntmps6
  go_wp2_with fail
  refine (head_any _ (HE0.out.below (by repeat (first | exact Below.refl _ _ | assumption | refine below_drewN ?_ _ | refine Below.setCell ?_ (by first | (simp; done) | (simp; omega)) _ | refine Below.alloc ?_ (by first | (simp; done) | (simp; omega) | omega) _ | refine Below.drew ?_ | refine Below.trans ?_ (Below.mono (by assumption) (by first | (simp; done) | (simp; omega) | omega)))))).mono ?_
  rintro e w1 ⟨rfl, hb1⟩
  have hz1 := hb1.size
  (try simp at hz1)
  have bb1 : Below w.heap.size w w1 := (by repeat (first | exact Below.refl _ _ | assumption | refine below_drewN ?_ _ | refine Below.setCell ?_ (by first | (simp; done) | (simp; omega)) _ | refine Below.alloc ?_ (by first | (simp; done) | (simp; omega) | omega) _ | refine Below.drew ?_ | refine Below.trans ?_ (Below.mono (by assumption) (by first | (simp; done) | (simp; omega) | omega))))
  have be1 : Below w.heap.size w w1 := bb1
  have c1_c_0 : w1.cell? ⟨w.heap.size, 0, none⟩ = some (.bool c.b0) := cell_keep hb1 (by go_simp)
  have c1_c_1 : w1.cell? ⟨w.heap.size, 1, none⟩ = some (.bool c.b1) := cell_keep hb1 (by go_simp)
  have c1_c_2 : w1.cell? ⟨w.heap.size, 2, none⟩ = some (.bool c.b2) := cell_keep hb1 (by go_simp)
  have c1_c_3 : w1.cell? ⟨w.heap.size, 3, none⟩ = some (.bool c.b3) := cell_keep hb1 (by go_simp)
  have c1_c_4 : w1.cell? ⟨w.heap.size, 4, none⟩ = some (.bool c.b4) := cell_keep hb1 (by go_simp)
  have c1_c_5 : w1.cell? ⟨w.heap.size, 5, none⟩ = some (.bool c.b5) := cell_keep hb1 (by go_simp)
  have c1_c_6 : w1.cell? ⟨w.heap.size, 6, none⟩ = some (.bool c.b6) := cell_keep hb1 (by go_simp)
  have c1_c_7 : w1.cell? ⟨w.heap.size, 7, none⟩ = some (.slice c.p c.hs.length c.cap) := cell_keep hb1 (by go_simp)
  have l1_c : w.heap.size < w1.heap.size := by omega
  have m1_c : w.heap.size < w1.heap.size + 1 := by omega
  have HT1 := Lib.hid (HT0.out.below bb1)
  have HC1 := Lib.hid (HC0.out.below bb1)
  have HL1 := Lib.hid (HL0.out.below bb1)
  have HE1 := Lib.hid (HE0.out.below bb1)
  have BE1 := Lib.hid be1
  clear be1 bb1 hb1 HT0 HC0 HL0 HE0
  go_wp2_with fail
  refine (small_any (exT 7 p0 cap0 ks) q l capq _ HN.out (HT1.out.below (by repeat (first | exact Below.refl _ _ | assumption | refine below_drewN ?_ _ | refine Below.setCell ?_ (by first | (simp; done) | (simp; omega)) _ | refine Below.alloc ?_ (by first | (simp; done) | (simp; omega) | omega) _ | refine Below.drew ?_ | refine Below.trans ?_ (Below.mono (by assumption) (by first | (simp; done) | (simp; omega) | omega)))))).mono ?_
  rintro e w2 ⟨rfl, hb2⟩
  rw [HS.out]
  have hz2 := hb2.size
  (try simp at hz2)
  have bb2 : Below w1.heap.size w1 w2 := (by repeat (first | exact Below.refl _ _ | assumption | refine below_drewN ?_ _ | refine Below.setCell ?_ (by first | (simp; done) | (simp; omega)) _ | refine Below.alloc ?_ (by first | (simp; done) | (simp; omega) | omega) _ | refine Below.drew ?_ | refine Below.trans ?_ (Below.mono (by assumption) (by first | (simp; done) | (simp; omega) | omega))))
  have be2 : Below w.heap.size w w2 := BE1.out.trans (bb2.mono BE1.out.size)
  have c2_c_0 : w2.cell? ⟨w.heap.size, 0, none⟩ = some (.bool c.b0) := cell_keep bb2 c1_c_0
  have c2_c_1 : w2.cell? ⟨w.heap.size, 1, none⟩ = some (.bool c.b1) := cell_keep bb2 c1_c_1
  have c2_c_2 : w2.cell? ⟨w.heap.size, 2, none⟩ = some (.bool c.b2) := cell_keep bb2 c1_c_2
  have c2_c_3 : w2.cell? ⟨w.heap.size, 3, none⟩ = some (.bool c.b3) := cell_keep bb2 c1_c_3
  have c2_c_4 : w2.cell? ⟨w.heap.size, 4, none⟩ = some (.bool c.b4) := cell_keep bb2 c1_c_4
  have c2_c_5 : w2.cell? ⟨w.heap.size, 5, none⟩ = some (.bool c.b5) := cell_keep bb2 c1_c_5
  have c2_c_6 : w2.cell? ⟨w.heap.size, 6, none⟩ = some (.bool c.b6) := cell_keep bb2 c1_c_6
  have c2_c_7 : w2.cell? ⟨w.heap.size, 7, none⟩ = some (.slice c.p c.hs.length c.cap) := cell_keep bb2 c1_c_7
  have l2_c : w.heap.size < w2.heap.size := by omega
  have m2_c : w.heap.size < w2.heap.size + 1 := by omega
  have c2_f_0 : w2.cell? ⟨w1.heap.size, 0, none⟩ = some (.int .i64 7) := cell_keep hb2 (by go_simp)
  have c2_f_1 : w2.cell? ⟨w1.heap.size, 1, none⟩ = some (.int .i64 0) := cell_keep hb2 (by go_simp)
  have c2_f_2 : w2.cell? ⟨w1.heap.size, 2, none⟩ = some (.int .i64 0) := cell_keep hb2 (by go_simp)
  have c2_f_3 : w2.cell? ⟨w1.heap.size, 3, none⟩ = some (.bool false) := cell_keep hb2 (by go_simp)
  have c2_f_4 : w2.cell? ⟨w1.heap.size, 4, none⟩ = some (.slice p0 ks.length cap0) := cell_keep hb2 (by go_simp)
  have l2_f : w1.heap.size < w2.heap.size := by omega
  have m2_f : w1.heap.size < w2.heap.size + 1 := by omega
  have c2_g_0 : w2.cell? ⟨w1.heap.size + 1, 0, none⟩ = some (.int .i64 8) := cell_keep hb2 (by go_simp)
  have c2_g_1 : w2.cell? ⟨w1.heap.size + 1, 1, none⟩ = some (.int .i64 0) := cell_keep hb2 (by go_simp)
  have c2_g_2 : w2.cell? ⟨w1.heap.size + 1, 2, none⟩ = some (.int .i64 0) := cell_keep hb2 (by go_simp)
  have c2_g_3 : w2.cell? ⟨w1.heap.size + 1, 3, none⟩ = some (.bool false) := cell_keep hb2 (by go_simp)
  have c2_g_4 : w2.cell? ⟨w1.heap.size + 1, 4, none⟩ = some (.slice p0 ks.length cap0) := cell_keep hb2 (by go_simp)
  have l2_g : w1.heap.size + 1 < w2.heap.size := by omega
  have m2_g : w1.heap.size + 1 < w2.heap.size + 1 := by omega
  have HT2 := Lib.hid (HT1.out.below bb2)
  have HC2 := Lib.hid (HC1.out.below bb2)
  have HL2 := Lib.hid (HL1.out.below bb2)
  have HE2 := Lib.hid (HE1.out.below bb2)
  have BE2 := Lib.hid be2
  clear be2 bb2 hb2 BE1 c1_c_0 c1_c_1 c1_c_2 c1_c_3 c1_c_4 c1_c_5 c1_c_6 c1_c_7 l1_c m1_c HT1 HC1 HL1 HE1
  go_wp2_with fail
  refine (eval_at (exT 7 p0 cap0 ks) c q capq l _ (HT2.out.below (by repeat (first | exact Below.refl _ _ | assumption | refine below_drewN ?_ _ | refine Below.setCell ?_ (by first | (simp; done) | (simp; omega)) _ | refine Below.alloc ?_ (by first | (simp; done) | (simp; omega) | omega) _ | refine Below.drew ?_ | refine Below.trans ?_ (Below.mono (by assumption) (by first | (simp; done) | (simp; omega) | omega))))) (HC2.out.below (by repeat (first | exact Below.refl _ _ | assumption | refine below_drewN ?_ _ | refine Below.setCell ?_ (by first | (simp; done) | (simp; omega)) _ | refine Below.alloc ?_ (by first | (simp; done) | (simp; omega) | omega) _ | refine Below.drew ?_ | refine Below.trans ?_ (Below.mono (by assumption) (by first | (simp; done) | (simp; omega) | omega))))) (HL2.out.below (by repeat (first | exact Below.refl _ _ | assumption | refine below_drewN ?_ _ | refine Below.setCell ?_ (by first | (simp; done) | (simp; omega)) _ | refine Below.alloc ?_ (by first | (simp; done) | (simp; omega) | omega) _ | refine Below.drew ?_ | refine Below.trans ?_ (Below.mono (by assumption) (by first | (simp; done) | (simp; omega) | omega))))) (by omega) (HE2.out.below (by repeat (first | exact Below.refl _ _ | assumption | refine below_drewN ?_ _ | refine Below.setCell ?_ (by first | (simp; done) | (simp; omega)) _ | refine Below.alloc ?_ (by first | (simp; done) | (simp; omega) | omega) _ | refine Below.drew ?_ | refine Below.trans ?_ (Below.mono (by assumption) (by first | (simp; done) | (simp; omega) | omega)))))).mono ?_
  rintro e w3 ⟨rfl, hb3⟩
  rw [HA.out]
  simp only [R3]
  have hz3 := hb3.size
  (try simp at hz3)
  have bb3 : Below w2.heap.size w2 w3 := (by repeat (first | exact Below.refl _ _ | assumption | refine below_drewN ?_ _ | refine Below.setCell ?_ (by first | (simp; done) | (simp; omega)) _ | refine Below.alloc ?_ (by first | (simp; done) | (simp; omega) | omega) _ | refine Below.drew ?_ | refine Below.trans ?_ (Below.mono (by assumption) (by first | (simp; done) | (simp; omega) | omega))))
  have be3 : Below w.heap.size w w3 := BE2.out.trans (bb3.mono BE2.out.size)
  have c3_c_0 : w3.cell? ⟨w.heap.size, 0, none⟩ = some (.bool c.b0) := cell_keep bb3 c2_c_0
  have c3_c_1 : w3.cell? ⟨w.heap.size, 1, none⟩ = some (.bool c.b1) := cell_keep bb3 c2_c_1
  have c3_c_2 : w3.cell? ⟨w.heap.size, 2, none⟩ = some (.bool c.b2) := cell_keep bb3 c2_c_2
  have c3_c_3 : w3.cell? ⟨w.heap.size, 3, none⟩ = some (.bool c.b3) := cell_keep bb3 c2_c_3
  have c3_c_4 : w3.cell? ⟨w.heap.size, 4, none⟩ = some (.bool c.b4) := cell_keep bb3 c2_c_4
  have c3_c_5 : w3.cell? ⟨w.heap.size, 5, none⟩ = some (.bool c.b5) := cell_keep bb3 c2_c_5
  have c3_c_6 : w3.cell? ⟨w.heap.size, 6, none⟩ = some (.bool c.b6) := cell_keep bb3 c2_c_6
  have c3_c_7 : w3.cell? ⟨w.heap.size, 7, none⟩ = some (.slice c.p c.hs.length c.cap) := cell_keep bb3 c2_c_7
  have l3_c : w.heap.size < w3.heap.size := by omega
  have m3_c : w.heap.size < w3.heap.size + 1 := by omega
  have c3_f_0 : w3.cell? ⟨w1.heap.size, 0, none⟩ = some (.int .i64 7) := cell_keep bb3 c2_f_0
  have c3_f_1 : w3.cell? ⟨w1.heap.size, 1, none⟩ = some (.int .i64 0) := cell_keep bb3 c2_f_1
  have c3_f_2 : w3.cell? ⟨w1.heap.size, 2, none⟩ = some (.int .i64 0) := cell_keep bb3 c2_f_2
  have c3_f_3 : w3.cell? ⟨w1.heap.size, 3, none⟩ = some (.bool false) := cell_keep bb3 c2_f_3
  have c3_f_4 : w3.cell? ⟨w1.heap.size, 4, none⟩ = some (.slice p0 ks.length cap0) := cell_keep bb3 c2_f_4
  have l3_f : w1.heap.size < w3.heap.size := by omega
  have m3_f : w1.heap.size < w3.heap.size + 1 := by omega
  have c3_g_0 : w3.cell? ⟨w1.heap.size + 1, 0, none⟩ = some (.int .i64 8) := cell_keep bb3 c2_g_0
  have c3_g_1 : w3.cell? ⟨w1.heap.size + 1, 1, none⟩ = some (.int .i64 0) := cell_keep bb3 c2_g_1
  have c3_g_2 : w3.cell? ⟨w1.heap.size + 1, 2, none⟩ = some (.int .i64 0) := cell_keep bb3 c2_g_2
  have c3_g_3 : w3.cell? ⟨w1.heap.size + 1, 3, none⟩ = some (.bool false) := cell_keep bb3 c2_g_3
  have c3_g_4 : w3.cell? ⟨w1.heap.size + 1, 4, none⟩ = some (.slice p0 ks.length cap0) := cell_keep bb3 c2_g_4
  have l3_g : w1.heap.size + 1 < w3.heap.size := by omega
  have m3_g : w1.heap.size + 1 < w3.heap.size + 1 := by omega
  have HT3 := Lib.hid (HT2.out.below bb3)
  have HC3 := Lib.hid (HC2.out.below bb3)
  have HL3 := Lib.hid (HL2.out.below bb3)
  have HE3 := Lib.hid (HE2.out.below bb3)
  have BE3 := Lib.hid be3
  clear be3 bb3 hb3 BE2 c2_c_0 c2_c_1 c2_c_2 c2_c_3 c2_c_4 c2_c_5 c2_c_6 c2_c_7 l2_c m2_c c2_f_0 c2_f_1 c2_f_2 c2_f_3 c2_f_4 l2_f m2_f c2_g_0 c2_g_1 c2_g_2 c2_g_3 c2_g_4 l2_g m2_g HT2 HC2 HL2 HE2
  go_wp2_with fail
  refine (eval_at (exT 8 p0 cap0 ks) c q capq l _ (tat_kd (HT3.out.below (by repeat (first | exact Below.refl _ _ | assumption | refine below_drewN ?_ _ | refine Below.setCell ?_ (by first | (simp; done) | (simp; omega)) _ | refine Below.alloc ?_ (by first | (simp; done) | (simp; omega) | omega) _ | refine Below.drew ?_ | refine Below.trans ?_ (Below.mono (by assumption) (by first | (simp; done) | (simp; omega) | omega)))))) (HC3.out.below (by repeat (first | exact Below.refl _ _ | assumption | refine below_drewN ?_ _ | refine Below.setCell ?_ (by first | (simp; done) | (simp; omega)) _ | refine Below.alloc ?_ (by first | (simp; done) | (simp; omega) | omega) _ | refine Below.drew ?_ | refine Below.trans ?_ (Below.mono (by assumption) (by first | (simp; done) | (simp; omega) | omega))))) (HL3.out.below (by repeat (first | exact Below.refl _ _ | assumption | refine below_drewN ?_ _ | refine Below.setCell ?_ (by first | (simp; done) | (simp; omega)) _ | refine Below.alloc ?_ (by first | (simp; done) | (simp; omega) | omega) _ | refine Below.drew ?_ | refine Below.trans ?_ (Below.mono (by assumption) (by first | (simp; done) | (simp; omega) | omega))))) (by omega) (HE3.out.below (by repeat (first | exact Below.refl _ _ | assumption | refine below_drewN ?_ _ | refine Below.setCell ?_ (by first | (simp; done) | (simp; omega)) _ | refine Below.alloc ?_ (by first | (simp; done) | (simp; omega) | omega) _ | refine Below.drew ?_ | refine Below.trans ?_ (Below.mono (by assumption) (by first | (simp; done) | (simp; omega) | omega)))))).mono ?_
  rintro e w4 ⟨rfl, hb4⟩
  rw [HB.out]
  simp only [R3]
  have hz4 := hb4.size
  (try simp at hz4)
  have bb4 : Below w3.heap.size w3 w4 := (by repeat (first | exact Below.refl _ _ | assumption | refine below_drewN ?_ _ | refine Below.setCell ?_ (by first | (simp; done) | (simp; omega)) _ | refine Below.alloc ?_ (by first | (simp; done) | (simp; omega) | omega) _ | refine Below.drew ?_ | refine Below.trans ?_ (Below.mono (by assumption) (by first | (simp; done) | (simp; omega) | omega))))
  have be4 : Below w.heap.size w w4 := BE3.out.trans (bb4.mono BE3.out.size)
  have c4_c_0 : w4.cell? ⟨w.heap.size, 0, none⟩ = some (.bool c.b0) := cell_keep bb4 c3_c_0
  have c4_c_1 : w4.cell? ⟨w.heap.size, 1, none⟩ = some (.bool c.b1) := cell_keep bb4 c3_c_1
  have c4_c_2 : w4.cell? ⟨w.heap.size, 2, none⟩ = some (.bool c.b2) := cell_keep bb4 c3_c_2
  have c4_c_3 : w4.cell? ⟨w.heap.size, 3, none⟩ = some (.bool c.b3) := cell_keep bb4 c3_c_3
  have c4_c_4 : w4.cell? ⟨w.heap.size, 4, none⟩ = some (.bool c.b4) := cell_keep bb4 c3_c_4
  have c4_c_5 : w4.cell? ⟨w.heap.size, 5, none⟩ = some (.bool c.b5) := cell_keep bb4 c3_c_5
  have c4_c_6 : w4.cell? ⟨w.heap.size, 6, none⟩ = some (.bool c.b6) := cell_keep bb4 c3_c_6
  have c4_c_7 : w4.cell? ⟨w.heap.size, 7, none⟩ = some (.slice c.p c.hs.length c.cap) := cell_keep bb4 c3_c_7
  have l4_c : w.heap.size < w4.heap.size := by omega
  have m4_c : w.heap.size < w4.heap.size + 1 := by omega
  have c4_f_0 : w4.cell? ⟨w1.heap.size, 0, none⟩ = some (.int .i64 7) := cell_keep bb4 c3_f_0
  have c4_f_1 : w4.cell? ⟨w1.heap.size, 1, none⟩ = some (.int .i64 0) := cell_keep bb4 c3_f_1
  have c4_f_2 : w4.cell? ⟨w1.heap.size, 2, none⟩ = some (.int .i64 0) := cell_keep bb4 c3_f_2
  have c4_f_3 : w4.cell? ⟨w1.heap.size, 3, none⟩ = some (.bool false) := cell_keep bb4 c3_f_3
  have c4_f_4 : w4.cell? ⟨w1.heap.size, 4, none⟩ = some (.slice p0 ks.length cap0) := cell_keep bb4 c3_f_4
  have l4_f : w1.heap.size < w4.heap.size := by omega
  have m4_f : w1.heap.size < w4.heap.size + 1 := by omega
  have c4_g_0 : w4.cell? ⟨w1.heap.size + 1, 0, none⟩ = some (.int .i64 8) := cell_keep bb4 c3_g_0
  have c4_g_1 : w4.cell? ⟨w1.heap.size + 1, 1, none⟩ = some (.int .i64 0) := cell_keep bb4 c3_g_1
  have c4_g_2 : w4.cell? ⟨w1.heap.size + 1, 2, none⟩ = some (.int .i64 0) := cell_keep bb4 c3_g_2
  have c4_g_3 : w4.cell? ⟨w1.heap.size + 1, 3, none⟩ = some (.bool false) := cell_keep bb4 c3_g_3
  have c4_g_4 : w4.cell? ⟨w1.heap.size + 1, 4, none⟩ = some (.slice p0 ks.length cap0) := cell_keep bb4 c3_g_4
  have l4_g : w1.heap.size + 1 < w4.heap.size := by omega
  have m4_g : w1.heap.size + 1 < w4.heap.size + 1 := by omega
  have HT4 := Lib.hid (HT3.out.below bb4)
  have HC4 := Lib.hid (HC3.out.below bb4)
  have HL4 := Lib.hid (HL3.out.below bb4)
  have HE4 := Lib.hid (HE3.out.below bb4)
  have BE4 := Lib.hid be4
  clear be4 bb4 hb4 BE3 c3_c_0 c3_c_1 c3_c_2 c3_c_3 c3_c_4 c3_c_5 c3_c_6 c3_c_7 l3_c m3_c c3_f_0 c3_f_1 c3_f_2 c3_f_3 c3_f_4 l3_f m3_f c3_g_0 c3_g_1 c3_g_2 c3_g_3 c3_g_4 l3_g m3_g HT3 HC3 HL3 HE3
  go_wp2_with fail
  go_ret
  exact ⟨rfl, (by have q := BE4.out; repeat (first | exact q | refine Below.setCell ?_ (by first | (simp; done) | omega | (simp; omega)) _ | refine Below.alloc ?_ (by first | (simp; done) | omega | (simp; omega)) _ | refine below_drewN ?_ _ | refine Below.drew ?_))⟩
set_option maxRecDepth 100000 in
set_option maxHeartbeats 1600000 in
theorem ex_1 (p0 : Option Addr) (cap0 : Nat) (ks : List Dl.T) (c : Cal) (q : Option Addr) (capq : Nat) (l : List Wh) (w : World) (ht : ∀ kd : Int, TAt w (.node kd 0 0 false p0 cap0 ks) ∧ LenOK (.node kd 0 0 false p0 cap0 ks)) (hc : CalIn w c) (hl : EvAt w q l) (he : Env w) (hs : smallB (exT 7 p0 cap0 ks) l = true) (hln : l.length ≤ 40) (ha : evalS (exT 7 p0 cap0 ks) c l = (0, false, 1)) (hb : evalS (exT 8 p0 cap0 ks) c l = (0, false, 1)) :
    Calls Tryd.prog 6 #[.slice p0 ks.length cap0, .agg #[.bool c.b0, .bool c.b1, .bool c.b2, .bool c.b3, .bool c.b4, .bool c.b5, .bool c.b6, .slice c.p c.hs.length c.cap], .slice q l.length capq] w fun e w' => e = .returned (.bool true) ∧ Below w.heap.size w w' := by
  have HT0 := Lib.hid (show TAt w (exT 7 p0 cap0 ks) from (ht 7).1)
  have HN := Lib.hid (show LenOK (exT 7 p0 cap0 ks) from (ht 7).2)
  clear ht
  have HC0 := Lib.hid hc
  clear hc
  have HL0 := Lib.hid hl
  clear hl
  have HE0 := Lib.hid he
  clear he
  have HS := Lib.hid hs
  clear hs
  have HA := Lib.hid ha
  clear ha
  have HB := Lib.hid hb
  clear hb
  go_enter Tryd.func6, Tryd.ntmps6
  go_wp2_with fail
  refine (head_any _ (HE0.out.below (by repeat (first | exact Below.refl _ _ | assumption | refine below_drewN ?_ _ | refine Below.setCell ?_ (by first | (simp; done) | (simp; omega)) _ | refine Below.alloc ?_ (by first | (simp; done) | (simp; omega) | omega) _ | refine Below.drew ?_ | refine Below.trans ?_ (Below.mono (by assumption) (by first | (simp; done) | (simp; omega) | omega)))))).mono ?_
  rintro e w1 ⟨rfl, hb1⟩
  have hz1 := hb1.size
  (try simp at hz1)
  have bb1 : Below w.heap.size w w1 := (by repeat (first | exact Below.refl _ _ | assumption | refine below_drewN ?_ _ | refine Below.setCell ?_ (by first | (simp; done) | (simp; omega)) _ | refine Below.alloc ?_ (by first | (simp; done) | (simp; omega) | omega) _ | refine Below.drew ?_ | refine Below.trans ?_ (Below.mono (by assumption) (by first | (simp; done) | (simp; omega) | omega))))
  have be1 : Below w.heap.size w w1 := bb1
  have c1_c_0 : w1.cell? ⟨w.heap.size, 0, none⟩ = some (.bool c.b0) := cell_keep hb1 (by go_simp)
  have c1_c_1 : w1.cell? ⟨w.heap.size, 1, none⟩ = some (.bool c.b1) := cell_keep hb1 (by go_simp)
  have c1_c_2 : w1.cell? ⟨w.heap.size, 2, none⟩ = some (.bool c.b2) := cell_keep hb1 (by go_simp)
  have c1_c_3 : w1.cell? ⟨w.heap.size, 3, none⟩ = some (.bool c.b3) := cell_keep hb1 (by go_simp)
  have c1_c_4 : w1.cell? ⟨w.heap.size, 4, none⟩ = some (.bool c.b4) := cell_keep hb1 (by go_simp)
  have c1_c_5 : w1.cell? ⟨w.heap.size, 5, none⟩ = some (.bool c.b5) := cell_keep hb1 (by go_simp)
  have c1_c_6 : w1.cell? ⟨w.heap.size, 6, none⟩ = some (.bool c.b6) := cell_keep hb1 (by go_simp)
  have c1_c_7 : w1.cell? ⟨w.heap.size, 7, none⟩ = some (.slice c.p c.hs.length c.cap) := cell_keep hb1 (by go_simp)
  have l1_c : w.heap.size < w1.heap.size := by omega
  have m1_c : w.heap.size < w1.heap.size + 1 := by omega
  have HT1 := Lib.hid (HT0.out.below bb1)
  have HC1 := Lib.hid (HC0.out.below bb1)
  have HL1 := Lib.hid (HL0.out.below bb1)
  have HE1 := Lib.hid (HE0.out.below bb1)
  have BE1 := Lib.hid be1
  clear be1 bb1 hb1 HT0 HC0 HL0 HE0
  go_wp2_with fail
  refine (small_any (exT 7 p0 cap0 ks) q l capq _ HN.out (HT1.out.below (by repeat (first | exact Below.refl _ _ | assumption | refine below_drewN ?_ _ | refine Below.setCell ?_ (by first | (simp; done) | (simp; omega)) _ | refine Below.alloc ?_ (by first | (simp; done) | (simp; omega) | omega) _ | refine Below.drew ?_ | refine Below.trans ?_ (Below.mono (by assumption) (by first | (simp; done) | (simp; omega) | omega)))))).mono ?_
  rintro e w2 ⟨rfl, hb2⟩
  rw [HS.out]
  have hz2 := hb2.size
  (try simp at hz2)
  have bb2 : Below w1.heap.size w1 w2 := (by repeat (first | exact Below.refl _ _ | assumption | refine below_drewN ?_ _ | refine Below.setCell ?_ (by first | (simp; done) | (simp; omega)) _ | refine Below.alloc ?_ (by first | (simp; done) | (simp; omega) | omega) _ | refine Below.drew ?_ | refine Below.trans ?_ (Below.mono (by assumption) (by first | (simp; done) | (simp; omega) | omega))))
  have be2 : Below w.heap.size w w2 := BE1.out.trans (bb2.mono BE1.out.size)
  have c2_c_0 : w2.cell? ⟨w.heap.size, 0, none⟩ = some (.bool c.b0) := cell_keep bb2 c1_c_0
  have c2_c_1 : w2.cell? ⟨w.heap.size, 1, none⟩ = some (.bool c.b1) := cell_keep bb2 c1_c_1
  have c2_c_2 : w2.cell? ⟨w.heap.size, 2, none⟩ = some (.bool c.b2) := cell_keep bb2 c1_c_2
  have c2_c_3 : w2.cell? ⟨w.heap.size, 3, none⟩ = some (.bool c.b3) := cell_keep bb2 c1_c_3
  have c2_c_4 : w2.cell? ⟨w.heap.size, 4, none⟩ = some (.bool c.b4) := cell_keep bb2 c1_c_4
  have c2_c_5 : w2.cell? ⟨w.heap.size, 5, none⟩ = some (.bool c.b5) := cell_keep bb2 c1_c_5
  have c2_c_6 : w2.cell? ⟨w.heap.size, 6, none⟩ = some (.bool c.b6) := cell_keep bb2 c1_c_6
  have c2_c_7 : w2.cell? ⟨w.heap.size, 7, none⟩ = some (.slice c.p c.hs.length c.cap) := cell_keep bb2 c1_c_7
  have l2_c : w.heap.size < w2.heap.size := by omega
  have m2_c : w.heap.size < w2.heap.size + 1 := by omega
  have c2_f_0 : w2.cell? ⟨w1.heap.size, 0, none⟩ = some (.int .i64 7) := cell_keep hb2 (by go_simp)
  have c2_f_1 : w2.cell? ⟨w1.heap.size, 1, none⟩ = some (.int .i64 0) := cell_keep hb2 (by go_simp)
  have c2_f_2 : w2.cell? ⟨w1.heap.size, 2, none⟩ = some (.int .i64 0) := cell_keep hb2 (by go_simp)
  have c2_f_3 : w2.cell? ⟨w1.heap.size, 3, none⟩ = some (.bool false) := cell_keep hb2 (by go_simp)
  have c2_f_4 : w2.cell? ⟨w1.heap.size, 4, none⟩ = some (.slice p0 ks.length cap0) := cell_keep hb2 (by go_simp)
  have l2_f : w1.heap.size < w2.heap.size := by omega
  have m2_f : w1.heap.size < w2.heap.size + 1 := by omega
  have c2_g_0 : w2.cell? ⟨w1.heap.size + 1, 0, none⟩ = some (.int .i64 8) := cell_keep hb2 (by go_simp)
  have c2_g_1 : w2.cell? ⟨w1.heap.size + 1, 1, none⟩ = some (.int .i64 0) := cell_keep hb2 (by go_simp)
  have c2_g_2 : w2.cell? ⟨w1.heap.size + 1, 2, none⟩ = some (.int .i64 0) := cell_keep hb2 (by go_simp)
  have c2_g_3 : w2.cell? ⟨w1.heap.size + 1, 3, none⟩ = some (.bool false) := cell_keep hb2 (by go_simp)
  have c2_g_4 : w2.cell? ⟨w1.heap.size + 1, 4, none⟩ = some (.slice p0 ks.length cap0) := cell_keep hb2 (by go_simp)
  have l2_g : w1.heap.size + 1 < w2.heap.size := by omega
  have m2_g : w1.heap.size + 1 < w2.heap.size + 1 := by omega
  have HT2 := Lib.hid (HT1.out.below bb2)
  have HC2 := Lib.hid (HC1.out.below bb2)
  have HL2 := Lib.hid (HL1.out.below bb2)
  have HE2 := Lib.hid (HE1.out.below bb2)
  have BE2 := Lib.hid be2
  clear be2 bb2 hb2 BE1 c1_c_0 c1_c_1 c1_c_2 c1_c_3 c1_c_4 c1_c_5 c1_c_6 c1_c_7 l1_c m1_c HT1 HC1 HL1 HE1
  go_wp2_with fail
  refine (eval_at (exT 7 p0 cap0 ks) c q capq l _ (HT2.out.below (by repeat (first | exact Below.refl _ _ | assumption | refine below_drewN ?_ _ | refine Below.setCell ?_ (by first | (simp; done) | (simp; omega)) _ | refine Below.alloc ?_ (by first | (simp; done) | (simp; omega) | omega) _ | refine Below.drew ?_ | refine Below.trans ?_ (Below.mono (by assumption) (by first | (simp; done) | (simp; omega) | omega))))) (HC2.out.below (by repeat (first | exact Below.refl _ _ | assumption | refine below_drewN ?_ _ | refine Below.setCell ?_ (by first | (simp; done) | (simp; omega)) _ | refine Below.alloc ?_ (by first | (simp; done) | (simp; omega) | omega) _ | refine Below.drew ?_ | refine Below.trans ?_ (Below.mono (by assumption) (by first | (simp; done) | (simp; omega) | omega))))) (HL2.out.below (by repeat (first | exact Below.refl _ _ | assumption | refine below_drewN ?_ _ | refine Below.setCell ?_ (by first | (simp; done) | (simp; omega)) _ | refine Below.alloc ?_ (by first | (simp; done) | (simp; omega) | omega) _ | refine Below.drew ?_ | refine Below.trans ?_ (Below.mono (by assumption) (by first | (simp; done) | (simp; omega) | omega))))) (by omega) (HE2.out.below (by repeat (first | exact Below.refl _ _ | assumption | refine below_drewN ?_ _ | refine Below.setCell ?_ (by first | (simp; done) | (simp; omega)) _ | refine Below.alloc ?_ (by first | (simp; done) | (simp; omega) | omega) _ | refine Below.drew ?_ | refine Below.trans ?_ (Below.mono (by assumption) (by first | (simp; done) | (simp; omega) | omega)))))).mono ?_
  rintro e w3 ⟨rfl, hb3⟩
  rw [HA.out]
  simp only [R3]
  have hz3 := hb3.size
  (try simp at hz3)
  have bb3 : Below w2.heap.size w2 w3 := (by repeat (first | exact Below.refl _ _ | assumption | refine below_drewN ?_ _ | refine Below.setCell ?_ (by first | (simp; done) | (simp; omega)) _ | refine Below.alloc ?_ (by first | (simp; done) | (simp; omega) | omega) _ | refine Below.drew ?_ | refine Below.trans ?_ (Below.mono (by assumption) (by first | (simp; done) | (simp; omega) | omega))))
  have be3 : Below w.heap.size w w3 := BE2.out.trans (bb3.mono BE2.out.size)
  have c3_c_0 : w3.cell? ⟨w.heap.size, 0, none⟩ = some (.bool c.b0) := cell_keep bb3 c2_c_0
  have c3_c_1 : w3.cell? ⟨w.heap.size, 1, none⟩ = some (.bool c.b1) := cell_keep bb3 c2_c_1
  have c3_c_2 : w3.cell? ⟨w.heap.size, 2, none⟩ = some (.bool c.b2) := cell_keep bb3 c2_c_2
  have c3_c_3 : w3.cell? ⟨w.heap.size, 3, none⟩ = some (.bool c.b3) := cell_keep bb3 c2_c_3
  have c3_c_4 : w3.cell? ⟨w.heap.size, 4, none⟩ = some (.bool c.b4) := cell_keep bb3 c2_c_4
  have c3_c_5 : w3.cell? ⟨w.heap.size, 5, none⟩ = some (.bool c.b5) := cell_keep bb3 c2_c_5
  have c3_c_6 : w3.cell? ⟨w.heap.size, 6, none⟩ = some (.bool c.b6) := cell_keep bb3 c2_c_6
  have c3_c_7 : w3.cell? ⟨w.heap.size, 7, none⟩ = some (.slice c.p c.hs.length c.cap) := cell_keep bb3 c2_c_7
  have l3_c : w.heap.size < w3.heap.size := by omega
  have m3_c : w.heap.size < w3.heap.size + 1 := by omega
  have c3_f_0 : w3.cell? ⟨w1.heap.size, 0, none⟩ = some (.int .i64 7) := cell_keep bb3 c2_f_0
  have c3_f_1 : w3.cell? ⟨w1.heap.size, 1, none⟩ = some (.int .i64 0) := cell_keep bb3 c2_f_1
  have c3_f_2 : w3.cell? ⟨w1.heap.size, 2, none⟩ = some (.int .i64 0) := cell_keep bb3 c2_f_2
  have c3_f_3 : w3.cell? ⟨w1.heap.size, 3, none⟩ = some (.bool false) := cell_keep bb3 c2_f_3
  have c3_f_4 : w3.cell? ⟨w1.heap.size, 4, none⟩ = some (.slice p0 ks.length cap0) := cell_keep bb3 c2_f_4
  have l3_f : w1.heap.size < w3.heap.size := by omega
  have m3_f : w1.heap.size < w3.heap.size + 1 := by omega
  have c3_g_0 : w3.cell? ⟨w1.heap.size + 1, 0, none⟩ = some (.int .i64 8) := cell_keep bb3 c2_g_0
  have c3_g_1 : w3.cell? ⟨w1.heap.size + 1, 1, none⟩ = some (.int .i64 0) := cell_keep bb3 c2_g_1
  have c3_g_2 : w3.cell? ⟨w1.heap.size + 1, 2, none⟩ = some (.int .i64 0) := cell_keep bb3 c2_g_2
  have c3_g_3 : w3.cell? ⟨w1.heap.size + 1, 3, none⟩ = some (.bool false) := cell_keep bb3 c2_g_3
  have c3_g_4 : w3.cell? ⟨w1.heap.size + 1, 4, none⟩ = some (.slice p0 ks.length cap0) := cell_keep bb3 c2_g_4
  have l3_g : w1.heap.size + 1 < w3.heap.size := by omega
  have m3_g : w1.heap.size + 1 < w3.heap.size + 1 := by omega
  have HT3 := Lib.hid (HT2.out.below bb3)
  have HC3 := Lib.hid (HC2.out.below bb3)
  have HL3 := Lib.hid (HL2.out.below bb3)
  have HE3 := Lib.hid (HE2.out.below bb3)
  have BE3 := Lib.hid be3
  clear be3 bb3 hb3 BE2 c2_c_0 c2_c_1 c2_c_2 c2_c_3 c2_c_4 c2_c_5 c2_c_6 c2_c_7 l2_c m2_c c2_f_0 c2_f_1 c2_f_2 c2_f_3 c2_f_4 l2_f m2_f c2_g_0 c2_g_1 c2_g_2 c2_g_3 c2_g_4 l2_g m2_g HT2 HC2 HL2 HE2
  go_wp2_with fail
  refine (eval_at (exT 8 p0 cap0 ks) c q capq l _ (tat_kd (HT3.out.below (by repeat (first | exact Below.refl _ _ | assumption | refine below_drewN ?_ _ | refine Below.setCell ?_ (by first | (simp; done) | (simp; omega)) _ | refine Below.alloc ?_ (by first | (simp; done) | (simp; omega) | omega) _ | refine Below.drew ?_ | refine Below.trans ?_ (Below.mono (by assumption) (by first | (simp; done) | (simp; omega) | omega)))))) (HC3.out.below (by repeat (first | exact Below.refl _ _ | assumption | refine below_drewN ?_ _ | refine Below.setCell ?_ (by first | (simp; done) | (simp; omega)) _ | refine Below.alloc ?_ (by first | (simp; done) | (simp; omega) | omega) _ | refine Below.drew ?_ | refine Below.trans ?_ (Below.mono (by assumption) (by first | (simp; done) | (simp; omega) | omega))))) (HL3.out.below (by repeat (first | exact Below.refl _ _ | assumption | refine below_drewN ?_ _ | refine Below.setCell ?_ (by first | (simp; done) | (simp; omega)) _ | refine Below.alloc ?_ (by first | (simp; done) | (simp; omega) | omega) _ | refine Below.drew ?_ | refine Below.trans ?_ (Below.mono (by assumption) (by first | (simp; done) | (simp; omega) | omega))))) (by omega) (HE3.out.below (by repeat (first | exact Below.refl _ _ | assumption | refine below_drewN ?_ _ | refine Below.setCell ?_ (by first | (simp; done) | (simp; omega)) _ | refine Below.alloc ?_ (by first | (simp; done) | (simp; omega) | omega) _ | refine Below.drew ?_ | refine Below.trans ?_ (Below.mono (by assumption) (by first | (simp; done) | (simp; omega) | omega)))))).mono ?_
  rintro e w4 ⟨rfl, hb4⟩
  rw [HB.out]
  simp only [R3]
  have hz4 := hb4.size
  (try simp at hz4)
  have bb4 : Below w3.heap.size w3 w4 := (by repeat (first | exact Below.refl _ _ | assumption | refine below_drewN ?_ _ | refine Below.setCell ?_ (by first | (simp; done) | (simp; omega)) _ | refine Below.alloc ?_ (by first | (simp; done) | (simp; omega) | omega) _ | refine Below.drew ?_ | refine Below.trans ?_ (Below.mono (by assumption) (by first | (simp; done) | (simp; omega) | omega))))
  have be4 : Below w.heap.size w w4 := BE3.out.trans (bb4.mono BE3.out.size)
  have c4_c_0 : w4.cell? ⟨w.heap.size, 0, none⟩ = some (.bool c.b0) := cell_keep bb4 c3_c_0
  have c4_c_1 : w4.cell? ⟨w.heap.size, 1, none⟩ = some (.bool c.b1) := cell_keep bb4 c3_c_1
  have c4_c_2 : w4.cell? ⟨w.heap.size, 2, none⟩ = some (.bool c.b2) := cell_keep bb4 c3_c_2
  have c4_c_3 : w4.cell? ⟨w.heap.size, 3, none⟩ = some (.bool c.b3) := cell_keep bb4 c3_c_3
  have c4_c_4 : w4.cell? ⟨w.heap.size, 4, none⟩ = some (.bool c.b4) := cell_keep bb4 c3_c_4
  have c4_c_5 : w4.cell? ⟨w.heap.size, 5, none⟩ = some (.bool c.b5) := cell_keep bb4 c3_c_5
  have c4_c_6 : w4.cell? ⟨w.heap.size, 6, none⟩ = some (.bool c.b6) := cell_keep bb4 c3_c_6
  have c4_c_7 : w4.cell? ⟨w.heap.size, 7, none⟩ = some (.slice c.p c.hs.length c.cap) := cell_keep bb4 c3_c_7
  have l4_c : w.heap.size < w4.heap.size := by omega
  have m4_c : w.heap.size < w4.heap.size + 1 := by omega
  have c4_f_0 : w4.cell? ⟨w1.heap.size, 0, none⟩ = some (.int .i64 7) := cell_keep bb4 c3_f_0
  have c4_f_1 : w4.cell? ⟨w1.heap.size, 1, none⟩ = some (.int .i64 0) := cell_keep bb4 c3_f_1
  have c4_f_2 : w4.cell? ⟨w1.heap.size, 2, none⟩ = some (.int .i64 0) := cell_keep bb4 c3_f_2
  have c4_f_3 : w4.cell? ⟨w1.heap.size, 3, none⟩ = some (.bool false) := cell_keep bb4 c3_f_3
  have c4_f_4 : w4.cell? ⟨w1.heap.size, 4, none⟩ = some (.slice p0 ks.length cap0) := cell_keep bb4 c3_f_4
  have l4_f : w1.heap.size < w4.heap.size := by omega
  have m4_f : w1.heap.size < w4.heap.size + 1 := by omega
  have c4_g_0 : w4.cell? ⟨w1.heap.size + 1, 0, none⟩ = some (.int .i64 8) := cell_keep bb4 c3_g_0
  have c4_g_1 : w4.cell? ⟨w1.heap.size + 1, 1, none⟩ = some (.int .i64 0) := cell_keep bb4 c3_g_1
  have c4_g_2 : w4.cell? ⟨w1.heap.size + 1, 2, none⟩ = some (.int .i64 0) := cell_keep bb4 c3_g_2
  have c4_g_3 : w4.cell? ⟨w1.heap.size + 1, 3, none⟩ = some (.bool false) := cell_keep bb4 c3_g_3
  have c4_g_4 : w4.cell? ⟨w1.heap.size + 1, 4, none⟩ = some (.slice p0 ks.length cap0) := cell_keep bb4 c3_g_4
  have l4_g : w1.heap.size + 1 < w4.heap.size := by omega
  have m4_g : w1.heap.size + 1 < w4.heap.size + 1 := by omega
  have HT4 := Lib.hid (HT3.out.below bb4)
  have HC4 := Lib.hid (HC3.out.below bb4)
  have HL4 := Lib.hid (HL3.out.below bb4)
  have HE4 := Lib.hid (HE3.out.below bb4)
  have BE4 := Lib.hid be4
  clear be4 bb4 hb4 BE3 c3_c_0 c3_c_1 c3_c_2 c3_c_3 c3_c_4 c3_c_5 c3_c_6 c3_c_7 l3_c m3_c c3_f_0 c3_f_1 c3_f_2 c3_f_3 c3_f_4 l3_f m3_f c3_g_0 c3_g_1 c3_g_2 c3_g_3 c3_g_4 l3_g m3_g HT3 HC3 HL3 HE3
  go_wp2_with fail
  go_ret
  exact ⟨rfl, (by have q := BE4.out; repeat (first | exact q | refine Below.setCell ?_ (by first | (simp; done) | omega | (simp; omega)) _ | refine Below.alloc ?_ (by first | (simp; done) | omega | (simp; omega)) _ | refine below_drewN ?_ _ | refine Below.drew ?_))⟩
set_option maxRecDepth 100000 in
set_option maxHeartbeats 1600000 in
theorem ex_2 (p0 : Option Addr) (cap0 : Nat) (ks : List Dl.T) (c : Cal) (q : Option Addr) (capq : Nat) (l : List Wh) (w : World) (ht : ∀ kd : Int, TAt w (.node kd 0 0 false p0 cap0 ks) ∧ LenOK (.node kd 0 0 false p0 cap0 ks)) (hc : CalIn w c) (hl : EvAt w q l) (he : Env w) (hs : smallB (exT 7 p0 cap0 ks) l = true) (hln : l.length ≤ 40) (ha : evalS (exT 7 p0 cap0 ks) c l = (0, false, 2)) (hb : evalS (exT 8 p0 cap0 ks) c l = (0, false, 2)) :
    Calls Tryd.prog 6 #[.slice p0 ks.length cap0, .agg #[.bool c.b0, .bool c.b1, .bool c.b2, .bool c.b3, .bool c.b4, .bool c.b5, .bool c.b6, .slice c.p c.hs.length c.cap], .slice q l.length capq] w fun e w' => e = .returned (.bool true) ∧ Below w.heap.size w w' := by
  have HT0 := Lib.hid (show TAt w (exT 7 p0 cap0 ks) from (ht 7).1)
  have HN := Lib.hid (show LenOK (exT 7 p0 cap0 ks) from (ht 7).2)
  clear ht
  have HC0 := Lib.hid hc
  clear hc
  have HL0 := Lib.hid hl
  clear hl
  have HE0 := Lib.hid he
  clear he
  have HS := Lib.hid hs
  clear hs
  have HA := Lib.hid ha
  clear ha
  have HB := Lib.hid hb
  clear hb
  go_enter Tryd.func6, Tryd.ntmps6
  go_wp2_with fail
  refine (head_any _ (HE0.out.below (by repeat (first | exact Below.refl _ _ | assumption | refine below_drewN ?_ _ | refine Below.setCell ?_ (by first | (simp; done) | (simp; omega)) _ | refine Below.alloc ?_ (by first | (simp; done) | (simp; omega) | omega) _ | refine Below.drew ?_ | refine Below.trans ?_ (Below.mono (by assumption) (by first | (simp; done) | (simp; omega) | omega)))))).mono ?_
  rintro e w1 ⟨rfl, hb1⟩
  have hz1 := hb1.size
  (try simp at hz1)
  have bb1 : Below w.heap.size w w1 := (by repeat (first | exact Below.refl _ _ | assumption | refine below_drewN ?_ _ | refine Below.setCell ?_ (by first | (simp; done) | (simp; omega)) _ | refine Below.alloc ?_ (by first | (simp; done) | (simp; omega) | omega) _ | refine Below.drew ?_ | refine Below.trans ?_ (Below.mono (by assumption) (by first | (simp; done) | (simp; omega) | omega))))
  have be1 : Below w.heap.size w w1 := bb1
  have c1_c_0 : w1.cell? ⟨w.heap.size, 0, none⟩ = some (.bool c.b0) := cell_keep hb1 (by go_simp)
  have c1_c_1 : w1.cell? ⟨w.heap.size, 1, none⟩ = some (.bool c.b1) := cell_keep hb1 (by go_simp)
  have c1_c_2 : w1.cell? ⟨w.heap.size, 2, none⟩ = some (.bool c.b2) := cell_keep hb1 (by go_simp)
  have c1_c_3 : w1.cell? ⟨w.heap.size, 3, none⟩ = some (.bool c.b3) := cell_keep hb1 (by go_simp)
  have c1_c_4 : w1.cell? ⟨w.heap.size, 4, none⟩ = some (.bool c.b4) := cell_keep hb1 (by go_simp)
  have c1_c_5 : w1.cell? ⟨w.heap.size, 5, none⟩ = some (.bool c.b5) := cell_keep hb1 (by go_simp)
  have c1_c_6 : w1.cell? ⟨w.heap.size, 6, none⟩ = some (.bool c.b6) := cell_keep hb1 (by go_simp)
  have c1_c_7 : w1.cell? ⟨w.heap.size, 7, none⟩ = some (.slice c.p c.hs.length c.cap) := cell_keep hb1 (by go_simp)
  have l1_c : w.heap.size < w1.heap.size := by omega
  have m1_c : w.heap.size < w1.heap.size + 1 := by omega
  have HT1 := Lib.hid (HT0.out.below bb1)
  have HC1 := Lib.hid (HC0.out.below bb1)
  have HL1 := Lib.hid (HL0.out.below bb1)
  have HE1 := Lib.hid (HE0.out.below bb1)
  have BE1 := Lib.hid be1
  clear be1 bb1 hb1 HT0 HC0 HL0 HE0
  go_wp2_with fail
  refine (small_any (exT 7 p0 cap0 ks) q l capq _ HN.out (HT1.out.below (by repeat (first | exact Below.refl _ _ | assumption | refine below_drewN ?_ _ | refine Below.setCell ?_ (by first | (simp; done) | (simp; omega)) _ | refine Below.alloc ?_ (by first | (simp; done) | (simp; omega) | omega) _ | refine Below.drew ?_ | refine Below.trans ?_ (Below.mono (by assumption) (by first | (simp; done) | (simp; omega) | omega)))))).mono ?_
  rintro e w2 ⟨rfl, hb2⟩
  rw [HS.out]
  have hz2 := hb2.size
  (try simp at hz2)
  have bb2 : Below w1.heap.size w1 w2 := (by repeat (first | exact Below.refl _ _ | assumption | refine below_drewN ?_ _ | refine Below.setCell ?_ (by first | (simp; done) | (simp; omega)) _ | refine Below.alloc ?_ (by first | (simp; done) | (simp; omega) | omega) _ | refine Below.drew ?_ | refine Below.trans ?_ (Below.mono (by assumption) (by first | (simp; done) | (simp; omega) | omega))))
  have be2 : Below w.heap.size w w2 := BE1.out.trans (bb2.mono BE1.out.size)
  have c2_c_0 : w2.cell? ⟨w.heap.size, 0, none⟩ = some (.bool c.b0) := cell_keep bb2 c1_c_0
  have c2_c_1 : w2.cell? ⟨w.heap.size, 1, none⟩ = some (.bool c.b1) := cell_keep bb2 c1_c_1
  have c2_c_2 : w2.cell? ⟨w.heap.size, 2, none⟩ = some (.bool c.b2) := cell_keep bb2 c1_c_2
  have c2_c_3 : w2.cell? ⟨w.heap.size, 3, none⟩ = some (.bool c.b3) := cell_keep bb2 c1_c_3
  have c2_c_4 : w2.cell? ⟨w.heap.size, 4, none⟩ = some (.bool c.b4) := cell_keep bb2 c1_c_4
  have c2_c_5 : w2.cell? ⟨w.heap.size, 5, none⟩ = some (.bool c.b5) := cell_keep bb2 c1_c_5
  have c2_c_6 : w2.cell? ⟨w.heap.size, 6, none⟩ = some (.bool c.b6) := cell_keep bb2 c1_c_6
  have c2_c_7 : w2.cell? ⟨w.heap.size, 7, none⟩ = some (.slice c.p c.hs.length c.cap) := cell_keep bb2 c1_c_7
  have l2_c : w.heap.size < w2.heap.size := by omega
  have m2_c : w.heap.size < w2.heap.size + 1 := by omega
  have c2_f_0 : w2.cell? ⟨w1.heap.size, 0, none⟩ = some (.int .i64 7) := cell_keep hb2 (by go_simp)
  have c2_f_1 : w2.cell? ⟨w1.heap.size, 1, none⟩ = some (.int .i64 0) := cell_keep hb2 (by go_simp)
  have c2_f_2 : w2.cell? ⟨w1.heap.size, 2, none⟩ = some (.int .i64 0) := cell_keep hb2 (by go_simp)
  have c2_f_3 : w2.cell? ⟨w1.heap.size, 3, none⟩ = some (.bool false) := cell_keep hb2 (by go_simp)
  have c2_f_4 : w2.cell? ⟨w1.heap.size, 4, none⟩ = some (.slice p0 ks.length cap0) := cell_keep hb2 (by go_simp)
  have l2_f : w1.heap.size < w2.heap.size := by omega
  have m2_f : w1.heap.size < w2.heap.size + 1 := by omega
  have c2_g_0 : w2.cell? ⟨w1.heap.size + 1, 0, none⟩ = some (.int .i64 8) := cell_keep hb2 (by go_simp)
  have c2_g_1 : w2.cell? ⟨w1.heap.size + 1, 1, none⟩ = some (.int .i64 0) := cell_keep hb2 (by go_simp)
  have c2_g_2 : w2.cell? ⟨w1.heap.size + 1, 2, none⟩ = some (.int .i64 0) := cell_keep hb2 (by go_simp)
  have c2_g_3 : w2.cell? ⟨w1.heap.size + 1, 3, none⟩ = some (.bool false) := cell_keep hb2 (by go_simp)
  have c2_g_4 : w2.cell? ⟨w1.heap.size + 1, 4, none⟩ = some (.slice p0 ks.length cap0) := cell_keep hb2 (by go_simp)
  have l2_g : w1.heap.size + 1 < w2.heap.size := by omega
  have m2_g : w1.heap.size + 1 < w2.heap.size + 1 := by omega
  have HT2 := Lib.hid (HT1.out.below bb2)
  have HC2 := Lib.hid (HC1.out.below bb2)
  have HL2 := Lib.hid (HL1.out.below bb2)
  have HE2 := Lib.hid (HE1.out.below bb2)
  have BE2 := Lib.hid be2
  clear be2 bb2 hb2 BE1 c1_c_0 c1_c_1 c1_c_2 c1_c_3 c1_c_4 c1_c_5 c1_c_6 c1_c_7 l1_c m1_c HT1 HC1 HL1 HE1
  go_wp2_with fail
  refine (eval_at (exT 7 p0 cap0 ks) c q capq l _ (HT2.out.below (by repeat (first | exact Below.refl _ _ | assumption | refine below_drewN ?_ _ | refine Below.setCell ?_ (by first | (simp; done) | (simp; omega)) _ | refine Below.alloc ?_ (by first | (simp; done) | (simp; omega) | omega) _ | refine Below.drew ?_ | refine Below.trans ?_ (Below.mono (by assumption) (by first | (simp; done) | (simp; omega) | omega))))) (HC2.out.below (by repeat (first | exact Below.refl _ _ | assumption | refine below_drewN ?_ _ | refine Below.setCell ?_ (by first | (simp; done) | (simp; omega)) _ | refine Below.alloc ?_ (by first | (simp; done) | (simp; omega) | omega) _ | refine Below.drew ?_ | refine Below.trans ?_ (Below.mono (by assumption) (by first | (simp; done) | (simp; omega) | omega))))) (HL2.out.below (by repeat (first | exact Below.refl _ _ | assumption | refine below_drewN ?_ _ | refine Below.setCell ?_ (by first | (simp; done) | (simp; omega)) _ | refine Below.alloc ?_ (by first | (simp; done) | (simp; omega) | omega) _ | refine Below.drew ?_ | refine Below.trans ?_ (Below.mono (by assumption) (by first | (simp; done) | (simp; omega) | omega))))) (by omega) (HE2.out.below (by repeat (first | exact Below.refl _ _ | assumption | refine below_drewN ?_ _ | refine Below.setCell ?_ (by first | (simp; done) | (simp; omega)) _ | refine Below.alloc ?_ (by first | (simp; done) | (simp; omega) | omega) _ | refine Below.drew ?_ | refine Below.trans ?_ (Below.mono (by assumption) (by first | (simp; done) | (simp; omega) | omega)))))).mono ?_
  rintro e w3 ⟨rfl, hb3⟩
  rw [HA.out]
  simp only [R3]
  have hz3 := hb3.size
  (try simp at hz3)
  have bb3 : Below w2.heap.size w2 w3 := (by repeat (first | exact Below.refl _ _ | assumption | refine below_drewN ?_ _ | refine Below.setCell ?_ (by first | (simp; done) | (simp; omega)) _ | refine Below.alloc ?_ (by first | (simp; done) | (simp; omega) | omega) _ | refine Below.drew ?_ | refine Below.trans ?_ (Below.mono (by assumption) (by first | (simp; done) | (simp; omega) | omega))))
  have be3 : Below w.heap.size w w3 := BE2.out.trans (bb3.mono BE2.out.size)
  have c3_c_0 : w3.cell? ⟨w.heap.size, 0, none⟩ = some (.bool c.b0) := cell_keep bb3 c2_c_0
  have c3_c_1 : w3.cell? ⟨w.heap.size, 1, none⟩ = some (.bool c.b1) := cell_keep bb3 c2_c_1
  have c3_c_2 : w3.cell? ⟨w.heap.size, 2, none⟩ = some (.bool c.b2) := cell_keep bb3 c2_c_2
  have c3_c_3 : w3.cell? ⟨w.heap.size, 3, none⟩ = some (.bool c.b3) := cell_keep bb3 c2_c_3
  have c3_c_4 : w3.cell? ⟨w.heap.size, 4, none⟩ = some (.bool c.b4) := cell_keep bb3 c2_c_4
  have c3_c_5 : w3.cell? ⟨w.heap.size, 5, none⟩ = some (.bool c.b5) := cell_keep bb3 c2_c_5
  have c3_c_6 : w3.cell? ⟨w.heap.size, 6, none⟩ = some (.bool c.b6) := cell_keep bb3 c2_c_6
  have c3_c_7 : w3.cell? ⟨w.heap.size, 7, none⟩ = some (.slice c.p c.hs.length c.cap) := cell_keep bb3 c2_c_7
  have l3_c : w.heap.size < w3.heap.size := by omega
  have m3_c : w.heap.size < w3.heap.size + 1 := by omega
  have c3_f_0 : w3.cell? ⟨w1.heap.size, 0, none⟩ = some (.int .i64 7) := cell_keep bb3 c2_f_0
  have c3_f_1 : w3.cell? ⟨w1.heap.size, 1, none⟩ = some (.int .i64 0) := cell_keep bb3 c2_f_1
  have c3_f_2 : w3.cell? ⟨w1.heap.size, 2, none⟩ = some (.int .i64 0) := cell_keep bb3 c2_f_2
  have c3_f_3 : w3.cell? ⟨w1.heap.size, 3, none⟩ = some (.bool false) := cell_keep bb3 c2_f_3
  have c3_f_4 : w3.cell? ⟨w1.heap.size, 4, none⟩ = some (.slice p0 ks.length cap0) := cell_keep bb3 c2_f_4
  have l3_f : w1.heap.size < w3.heap.size := by omega
  have m3_f : w1.heap.size < w3.heap.size + 1 := by omega
  have c3_g_0 : w3.cell? ⟨w1.heap.size + 1, 0, none⟩ = some (.int .i64 8) := cell_keep bb3 c2_g_0
  have c3_g_1 : w3.cell? ⟨w1.heap.size + 1, 1, none⟩ = some (.int .i64 0) := cell_keep bb3 c2_g_1
  have c3_g_2 : w3.cell? ⟨w1.heap.size + 1, 2, none⟩ = some (.int .i64 0) := cell_keep bb3 c2_g_2
  have c3_g_3 : w3.cell? ⟨w1.heap.size + 1, 3, none⟩ = some (.bool false) := cell_keep bb3 c2_g_3
  have c3_g_4 : w3.cell? ⟨w1.heap.size + 1, 4, none⟩ = some (.slice p0 ks.length cap0) := cell_keep bb3 c2_g_4
  have l3_g : w1.heap.size + 1 < w3.heap.size := by omega
  have m3_g : w1.heap.size + 1 < w3.heap.size + 1 := by omega
  have HT3 := Lib.hid (HT2.out.below bb3)
  have HC3 := Lib.hid (HC2.out.below bb3)
  have HL3 := Lib.hid (HL2.out.below bb3)
  have HE3 := Lib.hid (HE2.out.below bb3)
  have BE3 := Lib.hid be3
  clear be3 bb3 hb3 BE2 c2_c_0 c2_c_1 c2_c_2 c2_c_3 c2_c_4 c2_c_5 c2_c_6 c2_c_7 l2_c m2_c c2_f_0 c2_f_1 c2_f_2 c2_f_3 c2_f_4 l2_f m2_f c2_g_0 c2_g_1 c2_g_2 c2_g_3 c2_g_4 l2_g m2_g HT2 HC2 HL2 HE2
  go_wp2_with fail
  refine (eval_at (exT 8 p0 cap0 ks) c q capq l _ (tat_kd (HT3.out.below (by repeat (first | exact Below.refl _ _ | assumption | refine below_drewN ?_ _ | refine Below.setCell ?_ (by first | (simp; done) | (simp; omega)) _ | refine Below.alloc ?_ (by first | (simp; done) | (simp; omega) | omega) _ | refine Below.drew ?_ | refine Below.trans ?_ (Below.mono (by assumption) (by first | (simp; done) | (simp; omega) | omega)))))) (HC3.out.below (by repeat (first | exact Below.refl _ _ | assumption | refine below_drewN ?_ _ | refine Below.setCell ?_ (by first | (simp; done) | (simp; omega)) _ | refine Below.alloc ?_ (by first | (simp; done) | (simp; omega) | omega) _ | refine Below.drew ?_ | refine Below.trans ?_ (Below.mono (by assumption) (by first | (simp; done) | (simp; omega) | omega))))) (HL3.out.below (by repeat (first | exact Below.refl _ _ | assumption | refine below_drewN ?_ _ | refine Below.setCell ?_ (by first | (simp; done) | (simp; omega)) _ | refine Below.alloc ?_ (by first | (simp; done) | (simp; omega) | omega) _ | refine Below.drew ?_ | refine Below.trans ?_ (Below.mono (by assumption) (by first | (simp; done) | (simp; omega) | omega))))) (by omega) (HE3.out.below (by repeat (first | exact Below.refl _ _ | assumption | refine below_drewN ?_ _ | refine Below.setCell ?_ (by first | (simp; done) | (simp; omega)) _ | refine Below.alloc ?_ (by first | (simp; done) | (simp; omega) | omega) _ | refine Below.drew ?_ | refine Below.trans ?_ (Below.mono (by assumption) (by first | (simp; done) | (simp; omega) | omega)))))).mono ?_
  rintro e w4 ⟨rfl, hb4⟩
  rw [HB.out]
  simp only [R3]
  have hz4 := hb4.size
  (try simp at hz4)
  have bb4 : Below w3.heap.size w3 w4 := (by repeat (first | exact Below.refl _ _ | assumption | refine below_drewN ?_ _ | refine Below.setCell ?_ (by first | (simp; done) | (simp; omega)) _ | refine Below.alloc ?_ (by first | (simp; done) | (simp; omega) | omega) _ | refine Below.drew ?_ | refine Below.trans ?_ (Below.mono (by assumption) (by first | (simp; done) | (simp; omega) | omega))))
  have be4 : Below w.heap.size w w4 := BE3.out.trans (bb4.mono BE3.out.size)
  have c4_c_0 : w4.cell? ⟨w.heap.size, 0, none⟩ = some (.bool c.b0) := cell_keep bb4 c3_c_0
  have c4_c_1 : w4.cell? ⟨w.heap.size, 1, none⟩ = some (.bool c.b1) := cell_keep bb4 c3_c_1
  have c4_c_2 : w4.cell? ⟨w.heap.size, 2, none⟩ = some (.bool c.b2) := cell_keep bb4 c3_c_2
  have c4_c_3 : w4.cell? ⟨w.heap.size, 3, none⟩ = some (.bool c.b3) := cell_keep bb4 c3_c_3
  have c4_c_4 : w4.cell? ⟨w.heap.size, 4, none⟩ = some (.bool c.b4) := cell_keep bb4 c3_c_4
  have c4_c_5 : w4.cell? ⟨w.heap.size, 5, none⟩ = some (.bool c.b5) := cell_keep bb4 c3_c_5
  have c4_c_6 : w4.cell? ⟨w.heap.size, 6, none⟩ = some (.bool c.b6) := cell_keep bb4 c3_c_6
  have c4_c_7 : w4.cell? ⟨w.heap.size, 7, none⟩ = some (.slice c.p c.hs.length c.cap) := cell_keep bb4 c3_c_7
  have l4_c : w.heap.size < w4.heap.size := by omega
  have m4_c : w.heap.size < w4.heap.size + 1 := by omega
  have c4_f_0 : w4.cell? ⟨w1.heap.size, 0, none⟩ = some (.int .i64 7) := cell_keep bb4 c3_f_0
  have c4_f_1 : w4.cell? ⟨w1.heap.size, 1, none⟩ = some (.int .i64 0) := cell_keep bb4 c3_f_1
  have c4_f_2 : w4.cell? ⟨w1.heap.size, 2, none⟩ = some (.int .i64 0) := cell_keep bb4 c3_f_2
  have c4_f_3 : w4.cell? ⟨w1.heap.size, 3, none⟩ = some (.bool false) := cell_keep bb4 c3_f_3
  have c4_f_4 : w4.cell? ⟨w1.heap.size, 4, none⟩ = some (.slice p0 ks.length cap0) := cell_keep bb4 c3_f_4
  have l4_f : w1.heap.size < w4.heap.size := by omega
  have m4_f : w1.heap.size < w4.heap.size + 1 := by omega
  have c4_g_0 : w4.cell? ⟨w1.heap.size + 1, 0, none⟩ = some (.int .i64 8) := cell_keep bb4 c3_g_0
  have c4_g_1 : w4.cell? ⟨w1.heap.size + 1, 1, none⟩ = some (.int .i64 0) := cell_keep bb4 c3_g_1
  have c4_g_2 : w4.cell? ⟨w1.heap.size + 1, 2, none⟩ = some (.int .i64 0) := cell_keep bb4 c3_g_2
  have c4_g_3 : w4.cell? ⟨w1.heap.size + 1, 3, none⟩ = some (.bool false) := cell_keep bb4 c3_g_3
  have c4_g_4 : w4.cell? ⟨w1.heap.size + 1, 4, none⟩ = some (.slice p0 ks.length cap0) := cell_keep bb4 c3_g_4
  have l4_g : w1.heap.size + 1 < w4.heap.size := by omega
  have m4_g : w1.heap.size + 1 < w4.heap.size + 1 := by omega
  have HT4 := Lib.hid (HT3.out.below bb4)
  have HC4 := Lib.hid (HC3.out.below bb4)
  have HL4 := Lib.hid (HL3.out.below bb4)
  have HE4 := Lib.hid (HE3.out.below bb4)
  have BE4 := Lib.hid be4
  clear be4 bb4 hb4 BE3 c3_c_0 c3_c_1 c3_c_2 c3_c_3 c3_c_4 c3_c_5 c3_c_6 c3_c_7 l3_c m3_c c3_f_0 c3_f_1 c3_f_2 c3_f_3 c3_f_4 l3_f m3_f c3_g_0 c3_g_1 c3_g_2 c3_g_3 c3_g_4 l3_g m3_g HT3 HC3 HL3 HE3
  go_wp2_with fail
  go_ret
  exact ⟨rfl, (by have q := BE4.out; repeat (first | exact q | refine Below.setCell ?_ (by first | (simp; done) | omega | (simp; omega)) _ | refine Below.alloc ?_ (by first | (simp; done) | omega | (simp; omega)) _ | refine below_drewN ?_ _ | refine Below.drew ?_))⟩
set_option maxRecDepth 100000 in
set_option maxHeartbeats 6400000 in
theorem ex_go (p0 : Option Addr) (cap0 : Nat) (ks : List Dl.T) (c : Cal) (q : Option Addr) (capq : Nat) (l : List Wh) (w : World) (ht : ∀ kd : Int, TAt w (.node kd 0 0 false p0 cap0 ks) ∧ LenOK (.node kd 0 0 false p0 cap0 ks)) (hc : CalIn w c) (hl : EvAt w q l) (he : Env w) (hs : smallB (exT 7 p0 cap0 ks) l = true) (hln : l.length ≤ 40) (ds : List Int) (a b : Int) (ha : evalS (exT 7 p0 cap0 ks) c l = (a, true, 0)) (hb : evalS (exT 8 p0 cap0 ks) c l = (b, true, 0)) (hld : ds.length = ks.length) (hn1 : 1 ≤ ks.length) (hn40 : ks.length ≤ 40) (hma : a ∈ ds) (hmb : b ∈ ds) (hd : ∀ (i : Nat) t, ks[i]? = some t → ∃ d, ds[i]? = some d ∧ evalS t c l = (d, true, 0) ∧ a ≤ d ∧ d ≤ b) (hx : ∀ t0, ks[0]? = some t0 → (∀ p' cap' kd, kd = 7 ∨ kd = 8 → evalS (exT kd p' cap' (ks.reverse ++ [t0])) c l = (0, false, 1)) ∨ (∀ p' cap', evalS (exT 7 p' cap' (ks.reverse ++ [t0])) c l = (a, true, 0) ∧ evalS (exT 8 p' cap' (ks.reverse ++ [t0])) c l = (b, true, 0))) :
    Calls Tryd.prog 6 #[.slice p0 ks.length cap0, .agg #[.bool c.b0, .bool c.b1, .bool c.b2, .bool c.b3, .bool c.b4, .bool c.b5, .bool c.b6, .slice c.p c.hs.length c.cap], .slice q l.length capq] w fun e w' => e = .returned (.bool true) ∧ Below w.heap.size w w' := by
  have HT0 := Lib.hid (show TAt w (exT 7 p0 cap0 ks) from (ht 7).1)
  have HN := Lib.hid (show LenOK (exT 7 p0 cap0 ks) from (ht 7).2)
  clear ht
  have HC0 := Lib.hid hc
  clear hc
  have HL0 := Lib.hid hl
  clear hl
  have HE0 := Lib.hid he
  clear he
  have HS := Lib.hid hs
  clear hs
  have HA := Lib.hid ha
  clear ha
  have HB := Lib.hid hb
  clear hb
  have HLD := Lib.hid hld
  clear hld
  have HMA := Lib.hid hma
  clear hma
  have HMB := Lib.hid hmb
  clear hmb
  have HD := Lib.hid hd
  clear hd
  have HX := Lib.hid hx
  clear hx
  go_enter Tryd.func6, Tryd.ntmps6
  go_wp2_with fail
  refine (head_any _ (HE0.out.below (by repeat (first | exact Below.refl _ _ | assumption | refine below_drewN ?_ _ | refine Below.setCell ?_ (by first | (simp; done) | (simp; omega)) _ | refine Below.alloc ?_ (by first | (simp; done) | (simp; omega) | omega) _ | refine Below.drew ?_ | refine Below.trans ?_ (Below.mono (by assumption) (by first | (simp; done) | (simp; omega) | omega)))))).mono ?_
  rintro e w1 ⟨rfl, hb1⟩
  have hz1 := hb1.size
  (try simp at hz1)
  have bb1 : Below w.heap.size w w1 := (by repeat (first | exact Below.refl _ _ | assumption | refine below_drewN ?_ _ | refine Below.setCell ?_ (by first | (simp; done) | (simp; omega)) _ | refine Below.alloc ?_ (by first | (simp; done) | (simp; omega) | omega) _ | refine Below.drew ?_ | refine Below.trans ?_ (Below.mono (by assumption) (by first | (simp; done) | (simp; omega) | omega))))
  have be1 : Below w.heap.size w w1 := bb1
  have c1_c_0 : w1.cell? ⟨w.heap.size, 0, none⟩ = some (.bool c.b0) := cell_keep hb1 (by go_simp)
  have c1_c_1 : w1.cell? ⟨w.heap.size, 1, none⟩ = some (.bool c.b1) := cell_keep hb1 (by go_simp)
  have c1_c_2 : w1.cell? ⟨w.heap.size, 2, none⟩ = some (.bool c.b2) := cell_keep hb1 (by go_simp)
  have c1_c_3 : w1.cell? ⟨w.heap.size, 3, none⟩ = some (.bool c.b3) := cell_keep hb1 (by go_simp)
  have c1_c_4 : w1.cell? ⟨w.heap.size, 4, none⟩ = some (.bool c.b4) := cell_keep hb1 (by go_simp)
  have c1_c_5 : w1.cell? ⟨w.heap.size, 5, none⟩ = some (.bool c.b5) := cell_keep hb1 (by go_simp)
  have c1_c_6 : w1.cell? ⟨w.heap.size, 6, none⟩ = some (.bool c.b6) := cell_keep hb1 (by go_simp)
  have c1_c_7 : w1.cell? ⟨w.heap.size, 7, none⟩ = some (.slice c.p c.hs.length c.cap) := cell_keep hb1 (by go_simp)
  have l1_c : w.heap.size < w1.heap.size := by omega
  have m1_c : w.heap.size < w1.heap.size + 1 := by omega
  have HT1 := Lib.hid (HT0.out.below bb1)
  have HC1 := Lib.hid (HC0.out.below bb1)
  have HL1 := Lib.hid (HL0.out.below bb1)
  have HE1 := Lib.hid (HE0.out.below bb1)
  have BE1 := Lib.hid be1
  clear be1 bb1 hb1 HT0 HC0 HL0 HE0
  go_wp2_with fail
  refine (small_any (exT 7 p0 cap0 ks) q l capq _ HN.out (HT1.out.below (by repeat (first | exact Below.refl _ _ | assumption | refine below_drewN ?_ _ | refine Below.setCell ?_ (by first | (simp; done) | (simp; omega)) _ | refine Below.alloc ?_ (by first | (simp; done) | (simp; omega) | omega) _ | refine Below.drew ?_ | refine Below.trans ?_ (Below.mono (by assumption) (by first | (simp; done) | (simp; omega) | omega)))))).mono ?_
  rintro e w2 ⟨rfl, hb2⟩
  rw [HS.out]
  have hz2 := hb2.size
  (try simp at hz2)
  have bb2 : Below w1.heap.size w1 w2 := (by repeat (first | exact Below.refl _ _ | assumption | refine below_drewN ?_ _ | refine Below.setCell ?_ (by first | (simp; done) | (simp; omega)) _ | refine Below.alloc ?_ (by first | (simp; done) | (simp; omega) | omega) _ | refine Below.drew ?_ | refine Below.trans ?_ (Below.mono (by assumption) (by first | (simp; done) | (simp; omega) | omega))))
  have be2 : Below w.heap.size w w2 := BE1.out.trans (bb2.mono BE1.out.size)
  have c2_c_0 : w2.cell? ⟨w.heap.size, 0, none⟩ = some (.bool c.b0) := cell_keep bb2 c1_c_0
  have c2_c_1 : w2.cell? ⟨w.heap.size, 1, none⟩ = some (.bool c.b1) := cell_keep bb2 c1_c_1
  have c2_c_2 : w2.cell? ⟨w.heap.size, 2, none⟩ = some (.bool c.b2) := cell_keep bb2 c1_c_2
  have c2_c_3 : w2.cell? ⟨w.heap.size, 3, none⟩ = some (.bool c.b3) := cell_keep bb2 c1_c_3
  have c2_c_4 : w2.cell? ⟨w.heap.size, 4, none⟩ = some (.bool c.b4) := cell_keep bb2 c1_c_4
  have c2_c_5 : w2.cell? ⟨w.heap.size, 5, none⟩ = some (.bool c.b5) := cell_keep bb2 c1_c_5
  have c2_c_6 : w2.cell? ⟨w.heap.size, 6, none⟩ = some (.bool c.b6) := cell_keep bb2 c1_c_6
  have c2_c_7 : w2.cell? ⟨w.heap.size, 7, none⟩ = some (.slice c.p c.hs.length c.cap) := cell_keep bb2 c1_c_7
  have l2_c : w.heap.size < w2.heap.size := by omega
  have m2_c : w.heap.size < w2.heap.size + 1 := by omega
  have c2_f_0 : w2.cell? ⟨w1.heap.size, 0, none⟩ = some (.int .i64 7) := cell_keep hb2 (by go_simp)
  have c2_f_1 : w2.cell? ⟨w1.heap.size, 1, none⟩ = some (.int .i64 0) := cell_keep hb2 (by go_simp)
  have c2_f_2 : w2.cell? ⟨w1.heap.size, 2, none⟩ = some (.int .i64 0) := cell_keep hb2 (by go_simp)
  have c2_f_3 : w2.cell? ⟨w1.heap.size, 3, none⟩ = some (.bool false) := cell_keep hb2 (by go_simp)
  have c2_f_4 : w2.cell? ⟨w1.heap.size, 4, none⟩ = some (.slice p0 ks.length cap0) := cell_keep hb2 (by go_simp)
  have l2_f : w1.heap.size < w2.heap.size := by omega
  have m2_f : w1.heap.size < w2.heap.size + 1 := by omega
  have c2_g_0 : w2.cell? ⟨w1.heap.size + 1, 0, none⟩ = some (.int .i64 8) := cell_keep hb2 (by go_simp)
  have c2_g_1 : w2.cell? ⟨w1.heap.size + 1, 1, none⟩ = some (.int .i64 0) := cell_keep hb2 (by go_simp)
  have c2_g_2 : w2.cell? ⟨w1.heap.size + 1, 2, none⟩ = some (.int .i64 0) := cell_keep hb2 (by go_simp)
  have c2_g_3 : w2.cell? ⟨w1.heap.size + 1, 3, none⟩ = some (.bool false) := cell_keep hb2 (by go_simp)
  have c2_g_4 : w2.cell? ⟨w1.heap.size + 1, 4, none⟩ = some (.slice p0 ks.length cap0) := cell_keep hb2 (by go_simp)
  have l2_g : w1.heap.size + 1 < w2.heap.size := by omega
  have m2_g : w1.heap.size + 1 < w2.heap.size + 1 := by omega
  have HT2 := Lib.hid (HT1.out.below bb2)
  have HC2 := Lib.hid (HC1.out.below bb2)
  have HL2 := Lib.hid (HL1.out.below bb2)
  have HE2 := Lib.hid (HE1.out.below bb2)
  have BE2 := Lib.hid be2
  clear be2 bb2 hb2 BE1 c1_c_0 c1_c_1 c1_c_2 c1_c_3 c1_c_4 c1_c_5 c1_c_6 c1_c_7 l1_c m1_c HT1 HC1 HL1 HE1
  go_wp2_with fail
  refine (eval_at (exT 7 p0 cap0 ks) c q capq l _ (HT2.out.below (by repeat (first | exact Below.refl _ _ | assumption | refine below_drewN ?_ _ | refine Below.setCell ?_ (by first | (simp; done) | (simp; omega)) _ | refine Below.alloc ?_ (by first | (simp; done) | (simp; omega) | omega) _ | refine Below.drew ?_ | refine Below.trans ?_ (Below.mono (by assumption) (by first | (simp; done) | (simp; omega) | omega))))) (HC2.out.below (by repeat (first | exact Below.refl _ _ | assumption | refine below_drewN ?_ _ | refine Below.setCell ?_ (by first | (simp; done) | (simp; omega)) _ | refine Below.alloc ?_ (by first | (simp; done) | (simp; omega) | omega) _ | refine Below.drew ?_ | refine Below.trans ?_ (Below.mono (by assumption) (by first | (simp; done) | (simp; omega) | omega))))) (HL2.out.below (by repeat (first | exact Below.refl _ _ | assumption | refine below_drewN ?_ _ | refine Below.setCell ?_ (by first | (simp; done) | (simp; omega)) _ | refine Below.alloc ?_ (by first | (simp; done) | (simp; omega) | omega) _ | refine Below.drew ?_ | refine Below.trans ?_ (Below.mono (by assumption) (by first | (simp; done) | (simp; omega) | omega))))) (by omega) (HE2.out.below (by repeat (first | exact Below.refl _ _ | assumption | refine below_drewN ?_ _ | refine Below.setCell ?_ (by first | (simp; done) | (simp; omega)) _ | refine Below.alloc ?_ (by first | (simp; done) | (simp; omega) | omega) _ | refine Below.drew ?_ | refine Below.trans ?_ (Below.mono (by assumption) (by first | (simp; done) | (simp; omega) | omega)))))).mono ?_
  rintro e w3 ⟨rfl, hb3⟩
  rw [HA.out]
  simp only [R3]
  have hz3 := hb3.size
  (try simp at hz3)
  have bb3 : Below w2.heap.size w2 w3 := (by repeat (first | exact Below.refl _ _ | assumption | refine below_drewN ?_ _ | refine Below.setCell ?_ (by first | (simp; done) | (simp; omega)) _ | refine Below.alloc ?_ (by first | (simp; done) | (simp; omega) | omega) _ | refine Below.drew ?_ | refine Below.trans ?_ (Below.mono (by assumption) (by first | (simp; done) | (simp; omega) | omega))))
  have be3 : Below w.heap.size w w3 := BE2.out.trans (bb3.mono BE2.out.size)
  have c3_c_0 : w3.cell? ⟨w.heap.size, 0, none⟩ = some (.bool c.b0) := cell_keep bb3 c2_c_0
  have c3_c_1 : w3.cell? ⟨w.heap.size, 1, none⟩ = some (.bool c.b1) := cell_keep bb3 c2_c_1
  have c3_c_2 : w3.cell? ⟨w.heap.size, 2, none⟩ = some (.bool c.b2) := cell_keep bb3 c2_c_2
  have c3_c_3 : w3.cell? ⟨w.heap.size, 3, none⟩ = some (.bool c.b3) := cell_keep bb3 c2_c_3
  have c3_c_4 : w3.cell? ⟨w.heap.size, 4, none⟩ = some (.bool c.b4) := cell_keep bb3 c2_c_4
  have c3_c_5 : w3.cell? ⟨w.heap.size, 5, none⟩ = some (.bool c.b5) := cell_keep bb3 c2_c_5
  have c3_c_6 : w3.cell? ⟨w.heap.size, 6, none⟩ = some (.bool c.b6) := cell_keep bb3 c2_c_6
  have c3_c_7 : w3.cell? ⟨w.heap.size, 7, none⟩ = some (.slice c.p c.hs.length c.cap) := cell_keep bb3 c2_c_7
  have l3_c : w.heap.size < w3.heap.size := by omega
  have m3_c : w.heap.size < w3.heap.size + 1 := by omega
  have c3_f_0 : w3.cell? ⟨w1.heap.size, 0, none⟩ = some (.int .i64 7) := cell_keep bb3 c2_f_0
  have c3_f_1 : w3.cell? ⟨w1.heap.size, 1, none⟩ = some (.int .i64 0) := cell_keep bb3 c2_f_1
  have c3_f_2 : w3.cell? ⟨w1.heap.size, 2, none⟩ = some (.int .i64 0) := cell_keep bb3 c2_f_2
  have c3_f_3 : w3.cell? ⟨w1.heap.size, 3, none⟩ = some (.bool false) := cell_keep bb3 c2_f_3
  have c3_f_4 : w3.cell? ⟨w1.heap.size, 4, none⟩ = some (.slice p0 ks.length cap0) := cell_keep bb3 c2_f_4
  have l3_f : w1.heap.size < w3.heap.size := by omega
  have m3_f : w1.heap.size < w3.heap.size + 1 := by omega
  have c3_g_0 : w3.cell? ⟨w1.heap.size + 1, 0, none⟩ = some (.int .i64 8) := cell_keep bb3 c2_g_0
  have c3_g_1 : w3.cell? ⟨w1.heap.size + 1, 1, none⟩ = some (.int .i64 0) := cell_keep bb3 c2_g_1
  have c3_g_2 : w3.cell? ⟨w1.heap.size + 1, 2, none⟩ = some (.int .i64 0) := cell_keep bb3 c2_g_2
  have c3_g_3 : w3.cell? ⟨w1.heap.size + 1, 3, none⟩ = some (.bool false) := cell_keep bb3 c2_g_3
  have c3_g_4 : w3.cell? ⟨w1.heap.size + 1, 4, none⟩ = some (.slice p0 ks.length cap0) := cell_keep bb3 c2_g_4
  have l3_g : w1.heap.size + 1 < w3.heap.size := by omega
  have m3_g : w1.heap.size + 1 < w3.heap.size + 1 := by omega
  have HT3 := Lib.hid (HT2.out.below bb3)
  have HC3 := Lib.hid (HC2.out.below bb3)
  have HL3 := Lib.hid (HL2.out.below bb3)
  have HE3 := Lib.hid (HE2.out.below bb3)
  have BE3 := Lib.hid be3
  clear be3 bb3 hb3 BE2 c2_c_0 c2_c_1 c2_c_2 c2_c_3 c2_c_4 c2_c_5 c2_c_6 c2_c_7 l2_c m2_c c2_f_0 c2_f_1 c2_f_2 c2_f_3 c2_f_4 l2_f m2_f c2_g_0 c2_g_1 c2_g_2 c2_g_3 c2_g_4 l2_g m2_g HT2 HC2 HL2 HE2
  go_wp2_with fail
  refine (eval_at (exT 8 p0 cap0 ks) c q capq l _ (tat_kd (HT3.out.below (by repeat (first | exact Below.refl _ _ | assumption | refine below_drewN ?_ _ | refine Below.setCell ?_ (by first | (simp; done) | (simp; omega)) _ | refine Below.alloc ?_ (by first | (simp; done) | (simp; omega) | omega) _ | refine Below.drew ?_ | refine Below.trans ?_ (Below.mono (by assumption) (by first | (simp; done) | (simp; omega) | omega)))))) (HC3.out.below (by repeat (first | exact Below.refl _ _ | assumption | refine below_drewN ?_ _ | refine Below.setCell ?_ (by first | (simp; done) | (simp; omega)) _ | refine Below.alloc ?_ (by first | (simp; done) | (simp; omega) | omega) _ | refine Below.drew ?_ | refine Below.trans ?_ (Below.mono (by assumption) (by first | (simp; done) | (simp; omega) | omega))))) (HL3.out.below (by repeat (first | exact Below.refl _ _ | assumption | refine below_drewN ?_ _ | refine Below.setCell ?_ (by first | (simp; done) | (simp; omega)) _ | refine Below.alloc ?_ (by first | (simp; done) | (simp; omega) | omega) _ | refine Below.drew ?_ | refine Below.trans ?_ (Below.mono (by assumption) (by first | (simp; done) | (simp; omega) | omega))))) (by omega) (HE3.out.below (by repeat (first | exact Below.refl _ _ | assumption | refine below_drewN ?_ _ | refine Below.setCell ?_ (by first | (simp; done) | (simp; omega)) _ | refine Below.alloc ?_ (by first | (simp; done) | (simp; omega) | omega) _ | refine Below.drew ?_ | refine Below.trans ?_ (Below.mono (by assumption) (by first | (simp; done) | (simp; omega) | omega)))))).mono ?_
  rintro e w4 ⟨rfl, hb4⟩
  rw [HB.out]
  simp only [R3]
  have hz4 := hb4.size
  (try simp at hz4)
  have bb4 : Below w3.heap.size w3 w4 := (by repeat (first | exact Below.refl _ _ | assumption | refine below_drewN ?_ _ | refine Below.setCell ?_ (by first | (simp; done) | (simp; omega)) _ | refine Below.alloc ?_ (by first | (simp; done) | (simp; omega) | omega) _ | refine Below.drew ?_ | refine Below.trans ?_ (Below.mono (by assumption) (by first | (simp; done) | (simp; omega) | omega))))
  have be4 : Below w.heap.size w w4 := BE3.out.trans (bb4.mono BE3.out.size)
  have c4_c_0 : w4.cell? ⟨w.heap.size, 0, none⟩ = some (.bool c.b0) := cell_keep bb4 c3_c_0
  have c4_c_1 : w4.cell? ⟨w.heap.size, 1, none⟩ = some (.bool c.b1) := cell_keep bb4 c3_c_1
  have c4_c_2 : w4.cell? ⟨w.heap.size, 2, none⟩ = some (.bool c.b2) := cell_keep bb4 c3_c_2
  have c4_c_3 : w4.cell? ⟨w.heap.size, 3, none⟩ = some (.bool c.b3) := cell_keep bb4 c3_c_3
  have c4_c_4 : w4.cell? ⟨w.heap.size, 4, none⟩ = some (.bool c.b4) := cell_keep bb4 c3_c_4
  have c4_c_5 : w4.cell? ⟨w.heap.size, 5, none⟩ = some (.bool c.b5) := cell_keep bb4 c3_c_5
  have c4_c_6 : w4.cell? ⟨w.heap.size, 6, none⟩ = some (.bool c.b6) := cell_keep bb4 c3_c_6
  have c4_c_7 : w4.cell? ⟨w.heap.size, 7, none⟩ = some (.slice c.p c.hs.length c.cap) := cell_keep bb4 c3_c_7
  have l4_c : w.heap.size < w4.heap.size := by omega
  have m4_c : w.heap.size < w4.heap.size + 1 := by omega
  have c4_f_0 : w4.cell? ⟨w1.heap.size, 0, none⟩ = some (.int .i64 7) := cell_keep bb4 c3_f_0
  have c4_f_1 : w4.cell? ⟨w1.heap.size, 1, none⟩ = some (.int .i64 0) := cell_keep bb4 c3_f_1
  have c4_f_2 : w4.cell? ⟨w1.heap.size, 2, none⟩ = some (.int .i64 0) := cell_keep bb4 c3_f_2
  have c4_f_3 : w4.cell? ⟨w1.heap.size, 3, none⟩ = some (.bool false) := cell_keep bb4 c3_f_3
  have c4_f_4 : w4.cell? ⟨w1.heap.size, 4, none⟩ = some (.slice p0 ks.length cap0) := cell_keep bb4 c3_f_4
  have l4_f : w1.heap.size < w4.heap.size := by omega
  have m4_f : w1.heap.size < w4.heap.size + 1 := by omega
  have c4_g_0 : w4.cell? ⟨w1.heap.size + 1, 0, none⟩ = some (.int .i64 8) := cell_keep bb4 c3_g_0
  have c4_g_1 : w4.cell? ⟨w1.heap.size + 1, 1, none⟩ = some (.int .i64 0) := cell_keep bb4 c3_g_1
  have c4_g_2 : w4.cell? ⟨w1.heap.size + 1, 2, none⟩ = some (.int .i64 0) := cell_keep bb4 c3_g_2
  have c4_g_3 : w4.cell? ⟨w1.heap.size + 1, 3, none⟩ = some (.bool false) := cell_keep bb4 c3_g_3
  have c4_g_4 : w4.cell? ⟨w1.heap.size + 1, 4, none⟩ = some (.slice p0 ks.length cap0) := cell_keep bb4 c3_g_4
  have l4_g : w1.heap.size + 1 < w4.heap.size := by omega
  have m4_g : w1.heap.size + 1 < w4.heap.size + 1 := by omega
  have HT4 := Lib.hid (HT3.out.below bb4)
  have HC4 := Lib.hid (HC3.out.below bb4)
  have HL4 := Lib.hid (HL3.out.below bb4)
  have HE4 := Lib.hid (HE3.out.below bb4)
  have BE4 := Lib.hid be4
  clear be4 bb4 hb4 BE3 c3_c_0 c3_c_1 c3_c_2 c3_c_3 c3_c_4 c3_c_5 c3_c_6 c3_c_7 l3_c m3_c c3_f_0 c3_f_1 c3_f_2 c3_f_3 c3_f_4 l3_f m3_f c3_g_0 c3_g_1 c3_g_2 c3_g_3 c3_g_4 l3_g m3_g HT3 HC3 HL3 HE3
  obtain ⟨i0, hi, hy0, hy1, hy2⟩ := info_parts info_term
  have HI := Lib.hid hi
  have HY0 := Lib.hid hy0
  have HY1 := Lib.hid hy1
  have HY2 := Lib.hid hy2
  clear hi hy0 hy1 hy2
  go_wp2_with fail
  go_loopw [16, 17, 18, 19] (fun lo hi v i wr => ∃ (k : Nat) (v0 : Value), lo = .bool ((ds.take k).any (· == a)) ∧ hi = .bool ((ds.take k).any (· == b)) ∧ v = v0 ∧ i = .int .i64 k ∧ k ≤ ks.length ∧ wr.ownsRow w4.heap.size 24 5 v0 (ks.reverse.take k).length (cellsT (ks.reverse.take k)) ∧ Below w4.heap.size w4 wr) (fun _ _ _ i _ => ks.length - (intOf i).toNat)
  case atStart => exact ⟨0, _, rfl, rfl, rfl, rfl, Nat.zero_le _, World.ownsRow_nil _ _ _ _, Below.refl _ _⟩
  case round =>
    obtain ⟨k, _, rfl, rfl, rfl, rfl, hk, how, hbw⟩ := hrel
    have HOW := Lib.hid how
    have HBW := Lib.hid hbw
    clear how hbw
    have hzw := HBW.out.size
    have htr := HT4.out.below HBW.out
    obtain ⟨hka, hks⟩ := tin_iff.1 htr
    have HKA := Lib.hid hka
    have HKS := Lib.hid hks
    clear htr hka hks
    have HCR := Lib.hid (HC4.out.below HBW.out)
    have HLR := Lib.hid (HL4.out.below HBW.out)
    have HER := Lib.hid (HE4.out.below HBW.out)
    have y_c_0 := cell_keep HBW.out c4_c_0
    have y_c_1 := cell_keep HBW.out c4_c_1
    have y_c_2 := cell_keep HBW.out c4_c_2
    have y_c_3 := cell_keep HBW.out c4_c_3
    have y_c_4 := cell_keep HBW.out c4_c_4
    have y_c_5 := cell_keep HBW.out c4_c_5
    have y_c_6 := cell_keep HBW.out c4_c_6
    have y_c_7 := cell_keep HBW.out c4_c_7
    have hl4 : w.heap.size < wr.heap.size := by have := World.block_lt_of_cell? _ _ y_c_0; exact this
    by_cases hlt : k < ks.length
    · obtain ⟨t, hg⟩ : ∃ t, ks[k]? = some t := ⟨_, List.getElem?_eq_getElem hlt⟩
      obtain ⟨d, hdi, hev, had, hdb⟩ := HD.out k t hg
      obtain ⟨bp, op, hp, hbl, c0, c1, c2, c3, c4⟩ := HKA.out k t hg
      have hp : p0 = some ⟨bp, op, none⟩ := hp
      subst hp
      obtain ⟨j, hj⟩ : ∃ j, j + 1 + k = ks.length := ⟨ks.length - 1 - k, by omega⟩
      obtain ⟨u, hu⟩ : ∃ u, ks[j]? = some u := ⟨_, List.getElem?_eq_getElem (by omega)⟩
      obtain ⟨bp', op', hp', _, e0, e1, e2, e3, e4⟩ := HKA.out j u hu
      have hp' : (some ⟨bp, op, none⟩ : Option Addr) = some ⟨bp', op', none⟩ := hp'
      cases hp'
      have HTR := Lib.hid (show TAt wr t from HKS.out t (List.mem_of_getElem? hg))
      have HEV := Lib.hid hev
      have HDI := Lib.hid hdi
      have HU := Lib.hid hu
      have hi0 : (0 : Int) ≤ (k : Int) := by omega
      have hi1 : (k : Int) < (ks.length : Int) := by omega
      have hj0 : (0 : Int) ≤ (j : Int) := by omega
      have hj1 : (j : Int) < (ks.length : Int) := by omega
      have hjk : (ks.length : Int) - 1 - (k : Int) = (j : Int) := by omega
      have t1 : decide (d < a) = false := decide_eq_false (by omega)
      have t2 : decide (b < d) = false := decide_eq_false (by omega)
      clear hg hdi hev hu
      go_wp2_with fail
      refine wp_region_held_drew (S := (fun w' => Below wr.heap.size wr w' ∧ ∀ b o, b < wr.heap.size → w'.cell? ⟨b, o, none⟩ = wr.cell? ⟨b, o, none⟩)) (by kernel_rfl) (holdS (Below.drew (Below.refl _ _))) (fun hHeld => ?_)
      refine wpAnyH_take (i := 0) (v := ?_) rfl (by kernel_rfl) (by kernel_rfl) (by kernel_rfl) (fun _ _ _ h => h) (Or.inl ⟨by rfl, ?hy⟩) (by assumption) ?_
      case hy =>
        intro W hSw
        (try dsimp only at hSw)
        first | (go_simp; done) | (go_simp; with_reducible rfl)
      (try simp only [List.getElem_toArray,  List.getElem_cons_zero, Act.put, List.setIfInBounds_toArray, List.set_cons_zero, List.set_cons_succ])
      refine wpAnyH_take (i := 1) (v := ?_) rfl (by kernel_rfl) (by kernel_rfl) (by kernel_rfl) (fun _ _ _ h => h) (Or.inl ⟨by rfl, ?hy⟩) (by assumption) ?_
      case hy =>
        intro W hSw
        (try dsimp only at hSw)
        first | (go_simp; done) | (go_simp; with_reducible rfl)
      (try simp only [List.getElem_toArray, List.getElem_cons_succ,  List.getElem_cons_zero, Act.put, List.setIfInBounds_toArray, List.set_cons_zero, List.set_cons_succ])
      refine wpAnyH_take (i := 2) (v := ?_) rfl (by kernel_rfl) (by kernel_rfl) (by kernel_rfl) (fun _ _ _ h => h) (Or.inl ⟨by rfl, ?hy⟩) (by assumption) ?_
      case hy =>
        intro W hSw
        (try dsimp only at hSw)
        first | (go_simp; done) | (go_simp; with_reducible rfl)
      (try simp only [List.getElem_toArray, List.getElem_cons_succ,  List.getElem_cons_zero, Act.put, List.setIfInBounds_toArray, List.set_cons_zero, List.set_cons_succ])
      refine wpAnyH_take (i := 3) (v := ?_) rfl (by kernel_rfl) (by kernel_rfl) (by kernel_rfl) (fun _ _ _ h => h) (Or.inl ⟨by rfl, ?hy⟩) (by assumption) ?_
      case hy =>
        intro W hSw
        (try dsimp only at hSw)
        first | (go_simp; done) | (go_simp; with_reducible rfl)
      (try simp only [List.getElem_toArray, List.getElem_cons_succ,  List.getElem_cons_zero, Act.put, List.setIfInBounds_toArray, List.set_cons_zero, List.set_cons_succ])
      refine wpAnyH_take (i := 4) (v := ?_) rfl (by kernel_rfl) (by kernel_rfl) (by kernel_rfl) (fun _ _ _ h => h) (Or.inl ⟨by rfl, ?hy⟩) (by assumption) ?_
      case hy =>
        intro W hSw
        (try dsimp only at hSw)
        first | (go_simp; done) | (go_simp; with_reducible rfl)
      (try simp only [List.getElem_toArray, List.getElem_cons_succ,  List.getElem_cons_zero, Act.put, List.setIfInBounds_toArray, List.set_cons_zero, List.set_cons_succ])
      refine wpAnyH_take (i := 5) (v := ?_) rfl (by kernel_rfl) (by kernel_rfl) (by kernel_rfl) (fun _ _ _ h => h) (Or.inl ⟨by rfl, ?hy⟩) (by assumption) ?_
      case hy =>
        intro W hSw
        (try dsimp only at hSw)
        first | (go_simp; done) | (go_simp; with_reducible rfl)
      (try simp only [List.getElem_toArray, List.getElem_cons_succ,  List.getElem_cons_zero, Act.put, List.setIfInBounds_toArray, List.set_cons_zero, List.set_cons_succ])
      refine wpAnyH_ready (rs := [6]) (by kernel_rfl) (by simp) ?_
      refine AllReadyH.cons rfl (fun K hK => ?_) AllReadyH.nil
      go_simp
      refine (eval_at t c q capq l _ (HTR.out.below hHeld.1) (HCR.out.below hHeld.1) (HLR.out.below hHeld.1) (by omega) (HER.out.below hHeld.1)).mono ?_
      rintro e' wv ⟨rfl, hv1⟩
      rw [HEV.out]
      simp only [R3]
      go_wp2_with fail
      refine hK.out _ _ (holdT (by assumption) hv1) (fun hHeld => ?_)
      clear hK K
      (try simp only [List.getElem_toArray, List.getElem_cons_succ,  List.getElem_cons_zero, Act.put, List.setIfInBounds_toArray, List.set_cons_zero, List.set_cons_succ])
      refine wpAnyH_take (i := 7) (v := ?_) rfl (by kernel_rfl) (by kernel_rfl) (by kernel_rfl) (fun _ _ _ h => h) (Or.inl ⟨by rfl, ?hy⟩) (by assumption) ?_
      case hy =>
        intro W hSw
        (try dsimp only at hSw)
        first | (go_simp; done) | (go_simp; with_reducible rfl)
      (try simp only [List.getElem_toArray, List.getElem_cons_succ,  List.getElem_cons_zero, Act.put, List.setIfInBounds_toArray, List.set_cons_zero, List.set_cons_succ])
      refine wpAnyH_take (i := 8) (v := ?_) rfl (by kernel_rfl) (by kernel_rfl) (by kernel_rfl) (fun _ _ _ h => h) (Or.inl ⟨by rfl, ?hy⟩) (by assumption) ?_
      case hy =>
        intro W hSw
        (try dsimp only at hSw)
        first | (go_simp; done) | (go_simp; with_reducible rfl)
      (try simp only [List.getElem_toArray, List.getElem_cons_succ,  List.getElem_cons_zero, Act.put, List.setIfInBounds_toArray, List.set_cons_zero, List.set_cons_succ])
      refine wpAnyH_take (i := 9) (v := ?_) rfl (by kernel_rfl) (by kernel_rfl) (by kernel_rfl) (fun _ _ _ h => h) (Or.inl ⟨by rfl, ?hy⟩) (by assumption) ?_
      case hy =>
        intro W hSw
        (try dsimp only at hSw)
        first | (go_simp; done) | (go_simp; with_reducible rfl)
      (try simp only [List.getElem_toArray, List.getElem_cons_succ,  List.getElem_cons_zero, Act.put, List.setIfInBounds_toArray, List.set_cons_zero, List.set_cons_succ])
      refine wpAnyH_take (i := 10) (v := ?_) rfl (by kernel_rfl) (by kernel_rfl) (by kernel_rfl) (fun _ _ _ h => h) (Or.inl ⟨by rfl, ?hy⟩) (by assumption) ?_
      case hy =>
        intro W hSw
        (try dsimp only at hSw)
        first | (go_simp; done) | (go_simp; with_reducible rfl)
      (try simp only [List.getElem_toArray, List.getElem_cons_succ,  List.getElem_cons_zero, Act.put, List.setIfInBounds_toArray, List.set_cons_zero, List.set_cons_succ])
      refine wpAnyH_take (i := 11) (v := ?_) rfl (by kernel_rfl) (by kernel_rfl) (by kernel_rfl) (fun _ _ _ h => h) (Or.inl ⟨by rfl, ?hy⟩) (by assumption) ?_
      case hy =>
        intro W hSw
        (try dsimp only at hSw)
        first | (go_simp; done) | (go_simp; with_reducible rfl)
      (try simp only [List.getElem_toArray, List.getElem_cons_succ,  List.getElem_cons_zero, Act.put, List.setIfInBounds_toArray, List.set_cons_zero, List.set_cons_succ])
      refine wpAnyH_take (i := 12) (v := ?_) rfl (by kernel_rfl) (by kernel_rfl) (by kernel_rfl) (fun _ _ _ h => h) (Or.inl ⟨by rfl, ?hy⟩) (by assumption) ?_
      case hy =>
        intro W hSw
        (try dsimp only at hSw)
        first | (go_simp; done) | (go_simp; with_reducible rfl)
      (try simp only [List.getElem_toArray, List.getElem_cons_succ,  List.getElem_cons_zero, Act.put, List.setIfInBounds_toArray, List.set_cons_zero, List.set_cons_succ])
      refine wpAnyH_take (i := 13) (v := ?_) rfl (by kernel_rfl) (by kernel_rfl) (by kernel_rfl) (fun _ _ _ h => h) (Or.inl ⟨by rfl, ?hy⟩) (by assumption) ?_
      case hy =>
        intro W hSw
        (try dsimp only at hSw)
        first | (go_simp; done) | (go_simp; with_reducible rfl)
      (try simp only [List.getElem_toArray, List.getElem_cons_succ,  List.getElem_cons_zero, Act.put, List.setIfInBounds_toArray, List.set_cons_zero, List.set_cons_succ])
      refine wpAnyH_done (by kernel_rfl) ?_ _
      have bv : Below wr.heap.size wr wv := hHeld.1
      have hzv := bv.size
      have f0 := cell_keep bv e0
      have f1 := cell_keep bv e1
      have f2 := cell_keep bv e2
      have f3 := cell_keep bv e3
      have f4 := cell_keep bv e4
      have hbv : bp < wv.heap.size := by omega
      have HOV := Lib.hid (how_below HOW.out bv)
      have HBV := Lib.hid (HBW.out.trans (bv.mono HBW.out.size))
      have hrl : (ks.reverse.take k).length ≤ 40 := by rw [List.length_take]; omega
      obtain ⟨rv, hrv⟩ : ∃ rv, rv = ks.reverse.take k := ⟨_, rfl⟩
      have HRV := Lib.hid hrv
      have HNX := Lib.hid (rev_next hj HU.out)
      rw [← hrv] at HOV hrl
      clear hHeld hv1 bv e0 e1 e2 e3 e4 c0 c1 c2 c3 c4 hrv hj HOW
      cases hlo : (ds.take k).any (· == a)
      · cases hda : (d == a)
        · cases hhi : (ds.take k).any (· == b)
          · cases hdb2 : (d == b)
            · go_wp2_with (at_builtin; refine wpList_append_own_at _ rfl (.tmp 118) (.tmp 127) 22 rfl w4.heap.size 24 i0 (.agg #[.int .i64 0, .int .i64 0, .int .i64 0, .bool false, .slice none 0 0]) 5 56 Tryd.underlying22 HI.out HY0.out HY1.out HY2.out rfl (by decide) _ _ _ rfl (HOV.out.alloc _) ⟨wv.heap.size, 0, none⟩ 1 1 (cells1 u) rfl rfl (cells_new wv (cells1 u) 24) (by simp [cells1, Value.oneCell']) (by simp [maxLen]; omega) (by omega) (by have := HBV.out.size; simp; omega) ?_)
              intro v' w6 hown hgrow _ _
              have hb6 : Below w4.heap.size w4 w6 := (HBV.out.alloc HBV.out.size _).grown hgrow (by have := HBV.out.size; simp; omega) (fun r hr => (HOV.out.lt r hr).1)
              have ho6 : w6.ownsRow w4.heap.size 24 5 v' (ks.reverse.take (k + 1)).length (cellsT (ks.reverse.take (k + 1))) := by
                rw [HNX.out, ← HRV.out]
                exact ownT_app rfl rfl hown
              have HO6 := Lib.hid ho6
              have HB6 := Lib.hid hb6
              clear hown hgrow hb6 ho6
              go_wp2_with fail
              go_roundw
              case rel => exact ⟨k + 1, _, by rw [any_next HDI.out, hlo, hda]; first | rfl | (simp; done), by rw [any_next HDI.out, hhi, hdb2]; first | rfl | (simp; done), rfl, by first | rfl | (simp; done) | (simp; omega), hlt, HO6.out, HB6.out⟩
              case measure => exact meas_lt hlt
            · go_wp2_with (at_builtin; refine wpList_append_own_at _ rfl (.tmp 118) (.tmp 127) 22 rfl w4.heap.size 24 i0 (.agg #[.int .i64 0, .int .i64 0, .int .i64 0, .bool false, .slice none 0 0]) 5 56 Tryd.underlying22 HI.out HY0.out HY1.out HY2.out rfl (by decide) _ _ _ rfl (HOV.out.alloc _) ⟨wv.heap.size, 0, none⟩ 1 1 (cells1 u) rfl rfl (cells_new wv (cells1 u) 24) (by simp [cells1, Value.oneCell']) (by simp [maxLen]; omega) (by omega) (by have := HBV.out.size; simp; omega) ?_)
              intro v' w6 hown hgrow _ _
              have hb6 : Below w4.heap.size w4 w6 := (HBV.out.alloc HBV.out.size _).grown hgrow (by have := HBV.out.size; simp; omega) (fun r hr => (HOV.out.lt r hr).1)
              have ho6 : w6.ownsRow w4.heap.size 24 5 v' (ks.reverse.take (k + 1)).length (cellsT (ks.reverse.take (k + 1))) := by
                rw [HNX.out, ← HRV.out]
                exact ownT_app rfl rfl hown
              have HO6 := Lib.hid ho6
              have HB6 := Lib.hid hb6
              clear hown hgrow hb6 ho6
              go_wp2_with fail
              go_roundw
              case rel => exact ⟨k + 1, _, by rw [any_next HDI.out, hlo, hda]; first | rfl | (simp; done), by rw [any_next HDI.out, hhi, hdb2]; first | rfl | (simp; done), rfl, by first | rfl | (simp; done) | (simp; omega), hlt, HO6.out, HB6.out⟩
              case measure => exact meas_lt hlt
          · go_wp2_with (at_builtin; refine wpList_append_own_at _ rfl (.tmp 118) (.tmp 127) 22 rfl w4.heap.size 24 i0 (.agg #[.int .i64 0, .int .i64 0, .int .i64 0, .bool false, .slice none 0 0]) 5 56 Tryd.underlying22 HI.out HY0.out HY1.out HY2.out rfl (by decide) _ _ _ rfl (HOV.out.alloc _) ⟨wv.heap.size, 0, none⟩ 1 1 (cells1 u) rfl rfl (cells_new wv (cells1 u) 24) (by simp [cells1, Value.oneCell']) (by simp [maxLen]; omega) (by omega) (by have := HBV.out.size; simp; omega) ?_)
            intro v' w6 hown hgrow _ _
            have hb6 : Below w4.heap.size w4 w6 := (HBV.out.alloc HBV.out.size _).grown hgrow (by have := HBV.out.size; simp; omega) (fun r hr => (HOV.out.lt r hr).1)
            have ho6 : w6.ownsRow w4.heap.size 24 5 v' (ks.reverse.take (k + 1)).length (cellsT (ks.reverse.take (k + 1))) := by
              rw [HNX.out, ← HRV.out]
              exact ownT_app rfl rfl hown
            have HO6 := Lib.hid ho6
            have HB6 := Lib.hid hb6
            clear hown hgrow hb6 ho6
            go_wp2_with fail
            go_roundw
            case rel => exact ⟨k + 1, _, by rw [any_next HDI.out, hlo, hda]; first | rfl | (simp; done), by rw [any_next HDI.out, hhi]; first | rfl | (simp; done), rfl, by first | rfl | (simp; done) | (simp; omega), hlt, HO6.out, HB6.out⟩
            case measure => exact meas_lt hlt
        · cases hhi : (ds.take k).any (· == b)
          · cases hdb2 : (d == b)
            · go_wp2_with (at_builtin; refine wpList_append_own_at _ rfl (.tmp 118) (.tmp 127) 22 rfl w4.heap.size 24 i0 (.agg #[.int .i64 0, .int .i64 0, .int .i64 0, .bool false, .slice none 0 0]) 5 56 Tryd.underlying22 HI.out HY0.out HY1.out HY2.out rfl (by decide) _ _ _ rfl (HOV.out.alloc _) ⟨wv.heap.size, 0, none⟩ 1 1 (cells1 u) rfl rfl (cells_new wv (cells1 u) 24) (by simp [cells1, Value.oneCell']) (by simp [maxLen]; omega) (by omega) (by have := HBV.out.size; simp; omega) ?_)
              intro v' w6 hown hgrow _ _
              have hb6 : Below w4.heap.size w4 w6 := (HBV.out.alloc HBV.out.size _).grown hgrow (by have := HBV.out.size; simp; omega) (fun r hr => (HOV.out.lt r hr).1)
              have ho6 : w6.ownsRow w4.heap.size 24 5 v' (ks.reverse.take (k + 1)).length (cellsT (ks.reverse.take (k + 1))) := by
                rw [HNX.out, ← HRV.out]
                exact ownT_app rfl rfl hown
              have HO6 := Lib.hid ho6
              have HB6 := Lib.hid hb6
              clear hown hgrow hb6 ho6
              go_wp2_with fail
              go_roundw
              case rel => exact ⟨k + 1, _, by rw [any_next HDI.out, hlo, hda]; first | rfl | (simp; done), by rw [any_next HDI.out, hhi, hdb2]; first | rfl | (simp; done), rfl, by first | rfl | (simp; done) | (simp; omega), hlt, HO6.out, HB6.out⟩
              case measure => exact meas_lt hlt
            · go_wp2_with (at_builtin; refine wpList_append_own_at _ rfl (.tmp 118) (.tmp 127) 22 rfl w4.heap.size 24 i0 (.agg #[.int .i64 0, .int .i64 0, .int .i64 0, .bool false, .slice none 0 0]) 5 56 Tryd.underlying22 HI.out HY0.out HY1.out HY2.out rfl (by decide) _ _ _ rfl (HOV.out.alloc _) ⟨wv.heap.size, 0, none⟩ 1 1 (cells1 u) rfl rfl (cells_new wv (cells1 u) 24) (by simp [cells1, Value.oneCell']) (by simp [maxLen]; omega) (by omega) (by have := HBV.out.size; simp; omega) ?_)
              intro v' w6 hown hgrow _ _
              have hb6 : Below w4.heap.size w4 w6 := (HBV.out.alloc HBV.out.size _).grown hgrow (by have := HBV.out.size; simp; omega) (fun r hr => (HOV.out.lt r hr).1)
              have ho6 : w6.ownsRow w4.heap.size 24 5 v' (ks.reverse.take (k + 1)).length (cellsT (ks.reverse.take (k + 1))) := by
                rw [HNX.out, ← HRV.out]
                exact ownT_app rfl rfl hown
              have HO6 := Lib.hid ho6
              have HB6 := Lib.hid hb6
              clear hown hgrow hb6 ho6
              go_wp2_with fail
              go_roundw
              case rel => exact ⟨k + 1, _, by rw [any_next HDI.out, hlo, hda]; first | rfl | (simp; done), by rw [any_next HDI.out, hhi, hdb2]; first | rfl | (simp; done), rfl, by first | rfl | (simp; done) | (simp; omega), hlt, HO6.out, HB6.out⟩
              case measure => exact meas_lt hlt
          · go_wp2_with (at_builtin; refine wpList_append_own_at _ rfl (.tmp 118) (.tmp 127) 22 rfl w4.heap.size 24 i0 (.agg #[.int .i64 0, .int .i64 0, .int .i64 0, .bool false, .slice none 0 0]) 5 56 Tryd.underlying22 HI.out HY0.out HY1.out HY2.out rfl (by decide) _ _ _ rfl (HOV.out.alloc _) ⟨wv.heap.size, 0, none⟩ 1 1 (cells1 u) rfl rfl (cells_new wv (cells1 u) 24) (by simp [cells1, Value.oneCell']) (by simp [maxLen]; omega) (by omega) (by have := HBV.out.size; simp; omega) ?_)
            intro v' w6 hown hgrow _ _
            have hb6 : Below w4.heap.size w4 w6 := (HBV.out.alloc HBV.out.size _).grown hgrow (by have := HBV.out.size; simp; omega) (fun r hr => (HOV.out.lt r hr).1)
            have ho6 : w6.ownsRow w4.heap.size 24 5 v' (ks.reverse.take (k + 1)).length (cellsT (ks.reverse.take (k + 1))) := by
              rw [HNX.out, ← HRV.out]
              exact ownT_app rfl rfl hown
            have HO6 := Lib.hid ho6
            have HB6 := Lib.hid hb6
            clear hown hgrow hb6 ho6
            go_wp2_with fail
            go_roundw
            case rel => exact ⟨k + 1, _, by rw [any_next HDI.out, hlo, hda]; first | rfl | (simp; done), by rw [any_next HDI.out, hhi]; first | rfl | (simp; done), rfl, by first | rfl | (simp; done) | (simp; omega), hlt, HO6.out, HB6.out⟩
            case measure => exact meas_lt hlt
      · cases hhi : (ds.take k).any (· == b)
        · cases hdb2 : (d == b)
          · go_wp2_with (at_builtin; refine wpList_append_own_at _ rfl (.tmp 118) (.tmp 127) 22 rfl w4.heap.size 24 i0 (.agg #[.int .i64 0, .int .i64 0, .int .i64 0, .bool false, .slice none 0 0]) 5 56 Tryd.underlying22 HI.out HY0.out HY1.out HY2.out rfl (by decide) _ _ _ rfl (HOV.out.alloc _) ⟨wv.heap.size, 0, none⟩ 1 1 (cells1 u) rfl rfl (cells_new wv (cells1 u) 24) (by simp [cells1, Value.oneCell']) (by simp [maxLen]; omega) (by omega) (by have := HBV.out.size; simp; omega) ?_)
            intro v' w6 hown hgrow _ _
            have hb6 : Below w4.heap.size w4 w6 := (HBV.out.alloc HBV.out.size _).grown hgrow (by have := HBV.out.size; simp; omega) (fun r hr => (HOV.out.lt r hr).1)
            have ho6 : w6.ownsRow w4.heap.size 24 5 v' (ks.reverse.take (k + 1)).length (cellsT (ks.reverse.take (k + 1))) := by
              rw [HNX.out, ← HRV.out]
              exact ownT_app rfl rfl hown
            have HO6 := Lib.hid ho6
            have HB6 := Lib.hid hb6
            clear hown hgrow hb6 ho6
            go_wp2_with fail
            go_roundw
            case rel => exact ⟨k + 1, _, by rw [any_next HDI.out, hlo]; first | rfl | (simp; done), by rw [any_next HDI.out, hhi, hdb2]; first | rfl | (simp; done), rfl, by first | rfl | (simp; done) | (simp; omega), hlt, HO6.out, HB6.out⟩
            case measure => exact meas_lt hlt
          · go_wp2_with (at_builtin; refine wpList_append_own_at _ rfl (.tmp 118) (.tmp 127) 22 rfl w4.heap.size 24 i0 (.agg #[.int .i64 0, .int .i64 0, .int .i64 0, .bool false, .slice none 0 0]) 5 56 Tryd.underlying22 HI.out HY0.out HY1.out HY2.out rfl (by decide) _ _ _ rfl (HOV.out.alloc _) ⟨wv.heap.size, 0, none⟩ 1 1 (cells1 u) rfl rfl (cells_new wv (cells1 u) 24) (by simp [cells1, Value.oneCell']) (by simp [maxLen]; omega) (by omega) (by have := HBV.out.size; simp; omega) ?_)
            intro v' w6 hown hgrow _ _
            have hb6 : Below w4.heap.size w4 w6 := (HBV.out.alloc HBV.out.size _).grown hgrow (by have := HBV.out.size; simp; omega) (fun r hr => (HOV.out.lt r hr).1)
            have ho6 : w6.ownsRow w4.heap.size 24 5 v' (ks.reverse.take (k + 1)).length (cellsT (ks.reverse.take (k + 1))) := by
              rw [HNX.out, ← HRV.out]
              exact ownT_app rfl rfl hown
            have HO6 := Lib.hid ho6
            have HB6 := Lib.hid hb6
            clear hown hgrow hb6 ho6
            go_wp2_with fail
            go_roundw
            case rel => exact ⟨k + 1, _, by rw [any_next HDI.out, hlo]; first | rfl | (simp; done), by rw [any_next HDI.out, hhi, hdb2]; first | rfl | (simp; done), rfl, by first | rfl | (simp; done) | (simp; omega), hlt, HO6.out, HB6.out⟩
            case measure => exact meas_lt hlt
        · go_wp2_with (at_builtin; refine wpList_append_own_at _ rfl (.tmp 118) (.tmp 127) 22 rfl w4.heap.size 24 i0 (.agg #[.int .i64 0, .int .i64 0, .int .i64 0, .bool false, .slice none 0 0]) 5 56 Tryd.underlying22 HI.out HY0.out HY1.out HY2.out rfl (by decide) _ _ _ rfl (HOV.out.alloc _) ⟨wv.heap.size, 0, none⟩ 1 1 (cells1 u) rfl rfl (cells_new wv (cells1 u) 24) (by simp [cells1, Value.oneCell']) (by simp [maxLen]; omega) (by omega) (by have := HBV.out.size; simp; omega) ?_)
          intro v' w6 hown hgrow _ _
          have hb6 : Below w4.heap.size w4 w6 := (HBV.out.alloc HBV.out.size _).grown hgrow (by have := HBV.out.size; simp; omega) (fun r hr => (HOV.out.lt r hr).1)
          have ho6 : w6.ownsRow w4.heap.size 24 5 v' (ks.reverse.take (k + 1)).length (cellsT (ks.reverse.take (k + 1))) := by
            rw [HNX.out, ← HRV.out]
            exact ownT_app rfl rfl hown
          have HO6 := Lib.hid ho6
          have HB6 := Lib.hid hb6
          clear hown hgrow hb6 ho6
          go_wp2_with fail
          go_roundw
          case rel => exact ⟨k + 1, _, by rw [any_next HDI.out, hlo]; first | rfl | (simp; done), by rw [any_next HDI.out, hhi]; first | rfl | (simp; done), rfl, by first | rfl | (simp; done) | (simp; omega), hlt, HO6.out, HB6.out⟩
          case measure => exact meas_lt hlt
    · obtain rfl : k = ks.length := by omega
      obtain ⟨t0, ht0⟩ : ∃ t, ks[0]? = some t := ⟨_, List.getElem?_eq_getElem (by omega)⟩
      obtain ⟨bp, op, hp, hbl, c0, c1, c2, c3, c4⟩ := HKA.out 0 t0 ht0
      have hp : p0 = some ⟨bp, op, none⟩ := hp
      subst hp
      rw [Nat.zero_mul, Nat.add_zero] at c0 c1 c2 c3 c4
      have hlo : (ds.take ks.length).any (· == a) = true := by rw [← HLD.out, List.take_length]; exact any_all HMA.out
      have hhi : (ds.take ks.length).any (· == b) = true := by rw [← HLD.out, List.take_length]; exact any_all HMB.out
      obtain ⟨rv, hrv⟩ : ∃ rv, rv = ks.reverse.take ks.length := ⟨_, rfl⟩
      have hrl : rv.length ≤ 40 := by rw [hrv, List.length_take]; omega
      have HRV := Lib.hid (show rv = ks.reverse by rw [hrv, List.take_of_length_le (by simp)])
      rw [← hrv] at HOW
      have hn0 : (0 : Int) < (ks.length : Int) := by omega
      have HT9 := Lib.hid ht0
      clear hrv ht0
      go_wp2_with (at_builtin; refine wpList_append_own_at _ rfl (.tmp 129) (.tmp 133) 22 rfl w4.heap.size 24 i0 (.agg #[.int .i64 0, .int .i64 0, .int .i64 0, .bool false, .slice none 0 0]) 5 56 Tryd.underlying22 HI.out HY0.out HY1.out HY2.out rfl (by decide) _ _ _ rfl (HOW.out.alloc _) ⟨wr.heap.size, 0, none⟩ 1 1 (cells1 t0) rfl rfl (cells_new wr (cells1 t0) 24) (by simp [cells1, Value.oneCell']) (by simp [maxLen]; omega) (by omega) (by have := HBW.out.size; simp; omega) ?_)
      intro v' w6 hown hgrow _ _
      have hb6 : Below w4.heap.size w4 w6 := (HBW.out.alloc HBW.out.size _).grown hgrow (by have := HBW.out.size; simp; omega) (fun r hr => (HOW.out.lt r hr).1)
      have ho6 := ownT_app rfl rfl hown
      rw [HRV.out] at ho6
      obtain ⟨tt, htt⟩ : ∃ tt, tt = ks.reverse ++ [t0] := ⟨_, rfl⟩
      rw [← htt] at ho6
      obtain ⟨gg, capT, rfl, hgg, hkc⟩ := own_terms ho6 (by rw [htt]; simp)
      have HB6 := Lib.hid hb6
      have htr6 := HT4.out.below hb6
      obtain ⟨_, hks6⟩ := tin_iff.1 htr6
      have HT0 := Lib.hid (show TAt w6 (exT 7 (some ⟨gg, 0, none⟩) capT tt) from tat_row (fun j k hj => ⟨hkc j k hj, hks6 k (by
        have hm := List.mem_of_getElem? hj
        rw [htt] at hm
        rcases List.mem_append.1 hm with hm | hm
        · exact List.mem_reverse.1 hm
        · rw [List.mem_singleton] at hm
          rw [hm]
          exact List.mem_of_getElem? HT9.out)⟩))
      have HC0 := Lib.hid (HC4.out.below hb6)
      have HL0 := Lib.hid (HL4.out.below hb6)
      have HE0 := Lib.hid (HE4.out.below hb6)
      have z_c_0 := cell_keep hb6 c4_c_0
      have z_c_1 := cell_keep hb6 c4_c_1
      have z_c_2 := cell_keep hb6 c4_c_2
      have z_c_3 := cell_keep hb6 c4_c_3
      have z_c_4 := cell_keep hb6 c4_c_4
      have z_c_5 := cell_keep hb6 c4_c_5
      have z_c_6 := cell_keep hb6 c4_c_6
      have z_c_7 := cell_keep hb6 c4_c_7
      have hl6 : w.heap.size < w6.heap.size := by have := World.block_lt_of_cell? _ _ z_c_0; exact this
      have HBB := Lib.hid (BE4.out.trans (hb6.mono BE4.out.size))
      have hx := HX.out t0 HT9.out
      rw [← htt] at hx
      clear hown hgrow hb6 ho6 htt htr6 hks6 hkc c0 c1 c2 c3 c4
      rcases hx with hx | hx
      · have HXA := Lib.hid (hx (some ⟨gg, 0, none⟩) capT 7 (.inl rfl))
        have HXB := Lib.hid (hx (some ⟨gg, 0, none⟩) capT 8 (.inr rfl))
        clear hx
        go_wp2_with fail
        refine (eval_at (exT 7 (some ⟨gg, 0, none⟩) capT tt) c q capq l _ (HT0.out.below (by repeat (first | exact Below.refl _ _ | assumption | refine below_drewN ?_ _ | refine Below.setCell ?_ (by first | (simp; done) | (simp; omega)) _ | refine Below.alloc ?_ (by first | (simp; done) | (simp; omega) | omega) _ | refine Below.drew ?_ | refine Below.trans ?_ (Below.mono (by assumption) (by first | (simp; done) | (simp; omega) | omega))))) (HC0.out.below (by repeat (first | exact Below.refl _ _ | assumption | refine below_drewN ?_ _ | refine Below.setCell ?_ (by first | (simp; done) | (simp; omega)) _ | refine Below.alloc ?_ (by first | (simp; done) | (simp; omega) | omega) _ | refine Below.drew ?_ | refine Below.trans ?_ (Below.mono (by assumption) (by first | (simp; done) | (simp; omega) | omega))))) (HL0.out.below (by repeat (first | exact Below.refl _ _ | assumption | refine below_drewN ?_ _ | refine Below.setCell ?_ (by first | (simp; done) | (simp; omega)) _ | refine Below.alloc ?_ (by first | (simp; done) | (simp; omega) | omega) _ | refine Below.drew ?_ | refine Below.trans ?_ (Below.mono (by assumption) (by first | (simp; done) | (simp; omega) | omega))))) (by omega) (HE0.out.below (by repeat (first | exact Below.refl _ _ | assumption | refine below_drewN ?_ _ | refine Below.setCell ?_ (by first | (simp; done) | (simp; omega)) _ | refine Below.alloc ?_ (by first | (simp; done) | (simp; omega) | omega) _ | refine Below.drew ?_ | refine Below.trans ?_ (Below.mono (by assumption) (by first | (simp; done) | (simp; omega) | omega)))))).mono ?_
        rintro e w1 ⟨rfl, hb1⟩
        rw [HXA.out]
        simp only [R3]
        have hz1 := hb1.size
        (try simp at hz1)
        have bb1 : Below w6.heap.size w6 w1 := (by repeat (first | exact Below.refl _ _ | assumption | refine below_drewN ?_ _ | refine Below.setCell ?_ (by first | (simp; done) | (simp; omega)) _ | refine Below.alloc ?_ (by first | (simp; done) | (simp; omega) | omega) _ | refine Below.drew ?_ | refine Below.trans ?_ (Below.mono (by assumption) (by first | (simp; done) | (simp; omega) | omega))))
        have be1 : Below w6.heap.size w6 w1 := bb1
        have c1_c_0 : w1.cell? ⟨w.heap.size, 0, none⟩ = some (.bool c.b0) := cell_keep hb1 (by go_simp)
        have c1_c_1 : w1.cell? ⟨w.heap.size, 1, none⟩ = some (.bool c.b1) := cell_keep hb1 (by go_simp)
        have c1_c_2 : w1.cell? ⟨w.heap.size, 2, none⟩ = some (.bool c.b2) := cell_keep hb1 (by go_simp)
        have c1_c_3 : w1.cell? ⟨w.heap.size, 3, none⟩ = some (.bool c.b3) := cell_keep hb1 (by go_simp)
        have c1_c_4 : w1.cell? ⟨w.heap.size, 4, none⟩ = some (.bool c.b4) := cell_keep hb1 (by go_simp)
        have c1_c_5 : w1.cell? ⟨w.heap.size, 5, none⟩ = some (.bool c.b5) := cell_keep hb1 (by go_simp)
        have c1_c_6 : w1.cell? ⟨w.heap.size, 6, none⟩ = some (.bool c.b6) := cell_keep hb1 (by go_simp)
        have c1_c_7 : w1.cell? ⟨w.heap.size, 7, none⟩ = some (.slice c.p c.hs.length c.cap) := cell_keep hb1 (by go_simp)
        have l1_c : w.heap.size < w1.heap.size := by omega
        have m1_c : w.heap.size < w1.heap.size + 1 := by omega
        have HT1 := Lib.hid (HT0.out.below bb1)
        have HC1 := Lib.hid (HC0.out.below bb1)
        have HL1 := Lib.hid (HL0.out.below bb1)
        have HE1 := Lib.hid (HE0.out.below bb1)
        have BE1 := Lib.hid be1
        clear be1 bb1 hb1 HT0 HC0 HL0 HE0
        go_wp2_with fail
        refine (eval_at (exT 8 (some ⟨gg, 0, none⟩) capT tt) c q capq l _ (tat_kd (HT1.out.below (by repeat (first | exact Below.refl _ _ | assumption | refine below_drewN ?_ _ | refine Below.setCell ?_ (by first | (simp; done) | (simp; omega)) _ | refine Below.alloc ?_ (by first | (simp; done) | (simp; omega) | omega) _ | refine Below.drew ?_ | refine Below.trans ?_ (Below.mono (by assumption) (by first | (simp; done) | (simp; omega) | omega)))))) (HC1.out.below (by repeat (first | exact Below.refl _ _ | assumption | refine below_drewN ?_ _ | refine Below.setCell ?_ (by first | (simp; done) | (simp; omega)) _ | refine Below.alloc ?_ (by first | (simp; done) | (simp; omega) | omega) _ | refine Below.drew ?_ | refine Below.trans ?_ (Below.mono (by assumption) (by first | (simp; done) | (simp; omega) | omega))))) (HL1.out.below (by repeat (first | exact Below.refl _ _ | assumption | refine below_drewN ?_ _ | refine Below.setCell ?_ (by first | (simp; done) | (simp; omega)) _ | refine Below.alloc ?_ (by first | (simp; done) | (simp; omega) | omega) _ | refine Below.drew ?_ | refine Below.trans ?_ (Below.mono (by assumption) (by first | (simp; done) | (simp; omega) | omega))))) (by omega) (HE1.out.below (by repeat (first | exact Below.refl _ _ | assumption | refine below_drewN ?_ _ | refine Below.setCell ?_ (by first | (simp; done) | (simp; omega)) _ | refine Below.alloc ?_ (by first | (simp; done) | (simp; omega) | omega) _ | refine Below.drew ?_ | refine Below.trans ?_ (Below.mono (by assumption) (by first | (simp; done) | (simp; omega) | omega)))))).mono ?_
        rintro e w2 ⟨rfl, hb2⟩
        rw [HXB.out]
        simp only [R3]
        have hz2 := hb2.size
        (try simp at hz2)
        have bb2 : Below w1.heap.size w1 w2 := (by repeat (first | exact Below.refl _ _ | assumption | refine below_drewN ?_ _ | refine Below.setCell ?_ (by first | (simp; done) | (simp; omega)) _ | refine Below.alloc ?_ (by first | (simp; done) | (simp; omega) | omega) _ | refine Below.drew ?_ | refine Below.trans ?_ (Below.mono (by assumption) (by first | (simp; done) | (simp; omega) | omega))))
        have be2 : Below w6.heap.size w6 w2 := BE1.out.trans (bb2.mono BE1.out.size)
        have c2_c_0 : w2.cell? ⟨w.heap.size, 0, none⟩ = some (.bool c.b0) := cell_keep bb2 c1_c_0
        have c2_c_1 : w2.cell? ⟨w.heap.size, 1, none⟩ = some (.bool c.b1) := cell_keep bb2 c1_c_1
        have c2_c_2 : w2.cell? ⟨w.heap.size, 2, none⟩ = some (.bool c.b2) := cell_keep bb2 c1_c_2
        have c2_c_3 : w2.cell? ⟨w.heap.size, 3, none⟩ = some (.bool c.b3) := cell_keep bb2 c1_c_3
        have c2_c_4 : w2.cell? ⟨w.heap.size, 4, none⟩ = some (.bool c.b4) := cell_keep bb2 c1_c_4
        have c2_c_5 : w2.cell? ⟨w.heap.size, 5, none⟩ = some (.bool c.b5) := cell_keep bb2 c1_c_5
        have c2_c_6 : w2.cell? ⟨w.heap.size, 6, none⟩ = some (.bool c.b6) := cell_keep bb2 c1_c_6
        have c2_c_7 : w2.cell? ⟨w.heap.size, 7, none⟩ = some (.slice c.p c.hs.length c.cap) := cell_keep bb2 c1_c_7
        have l2_c : w.heap.size < w2.heap.size := by omega
        have m2_c : w.heap.size < w2.heap.size + 1 := by omega
        have HT2 := Lib.hid (HT1.out.below bb2)
        have HC2 := Lib.hid (HC1.out.below bb2)
        have HL2 := Lib.hid (HL1.out.below bb2)
        have HE2 := Lib.hid (HE1.out.below bb2)
        have BE2 := Lib.hid be2
        clear be2 bb2 hb2 BE1 c1_c_0 c1_c_1 c1_c_2 c1_c_3 c1_c_4 c1_c_5 c1_c_6 c1_c_7 l1_c m1_c HT1 HC1 HL1 HE1
        go_wp2_with fail
        go_ret
        exact ⟨by simp, HBB.out.trans ((show Below w6.heap.size w6 _ from (by have q := BE2.out; repeat (first | exact q | refine Below.setCell ?_ (by first | (simp; done) | omega | (simp; omega)) _ | refine Below.alloc ?_ (by first | (simp; done) | omega | (simp; omega)) _ | refine below_drewN ?_ _ | refine Below.drew ?_))).mono HBB.out.size)⟩
      · have HXA := Lib.hid ((hx (some ⟨gg, 0, none⟩) capT).1)
        have HXB := Lib.hid ((hx (some ⟨gg, 0, none⟩) capT).2)
        clear hx
        go_wp2_with fail
        refine (eval_at (exT 7 (some ⟨gg, 0, none⟩) capT tt) c q capq l _ (HT0.out.below (by repeat (first | exact Below.refl _ _ | assumption | refine below_drewN ?_ _ | refine Below.setCell ?_ (by first | (simp; done) | (simp; omega)) _ | refine Below.alloc ?_ (by first | (simp; done) | (simp; omega) | omega) _ | refine Below.drew ?_ | refine Below.trans ?_ (Below.mono (by assumption) (by first | (simp; done) | (simp; omega) | omega))))) (HC0.out.below (by repeat (first | exact Below.refl _ _ | assumption | refine below_drewN ?_ _ | refine Below.setCell ?_ (by first | (simp; done) | (simp; omega)) _ | refine Below.alloc ?_ (by first | (simp; done) | (simp; omega) | omega) _ | refine Below.drew ?_ | refine Below.trans ?_ (Below.mono (by assumption) (by first | (simp; done) | (simp; omega) | omega))))) (HL0.out.below (by repeat (first | exact Below.refl _ _ | assumption | refine below_drewN ?_ _ | refine Below.setCell ?_ (by first | (simp; done) | (simp; omega)) _ | refine Below.alloc ?_ (by first | (simp; done) | (simp; omega) | omega) _ | refine Below.drew ?_ | refine Below.trans ?_ (Below.mono (by assumption) (by first | (simp; done) | (simp; omega) | omega))))) (by omega) (HE0.out.below (by repeat (first | exact Below.refl _ _ | assumption | refine below_drewN ?_ _ | refine Below.setCell ?_ (by first | (simp; done) | (simp; omega)) _ | refine Below.alloc ?_ (by first | (simp; done) | (simp; omega) | omega) _ | refine Below.drew ?_ | refine Below.trans ?_ (Below.mono (by assumption) (by first | (simp; done) | (simp; omega) | omega)))))).mono ?_
        rintro e w1 ⟨rfl, hb1⟩
        rw [HXA.out]
        simp only [R3]
        have hz1 := hb1.size
        (try simp at hz1)
        have bb1 : Below w6.heap.size w6 w1 := (by repeat (first | exact Below.refl _ _ | assumption | refine below_drewN ?_ _ | refine Below.setCell ?_ (by first | (simp; done) | (simp; omega)) _ | refine Below.alloc ?_ (by first | (simp; done) | (simp; omega) | omega) _ | refine Below.drew ?_ | refine Below.trans ?_ (Below.mono (by assumption) (by first | (simp; done) | (simp; omega) | omega))))
        have be1 : Below w6.heap.size w6 w1 := bb1
        have c1_c_0 : w1.cell? ⟨w.heap.size, 0, none⟩ = some (.bool c.b0) := cell_keep hb1 (by go_simp)
        have c1_c_1 : w1.cell? ⟨w.heap.size, 1, none⟩ = some (.bool c.b1) := cell_keep hb1 (by go_simp)
        have c1_c_2 : w1.cell? ⟨w.heap.size, 2, none⟩ = some (.bool c.b2) := cell_keep hb1 (by go_simp)
        have c1_c_3 : w1.cell? ⟨w.heap.size, 3, none⟩ = some (.bool c.b3) := cell_keep hb1 (by go_simp)
        have c1_c_4 : w1.cell? ⟨w.heap.size, 4, none⟩ = some (.bool c.b4) := cell_keep hb1 (by go_simp)
        have c1_c_5 : w1.cell? ⟨w.heap.size, 5, none⟩ = some (.bool c.b5) := cell_keep hb1 (by go_simp)
        have c1_c_6 : w1.cell? ⟨w.heap.size, 6, none⟩ = some (.bool c.b6) := cell_keep hb1 (by go_simp)
        have c1_c_7 : w1.cell? ⟨w.heap.size, 7, none⟩ = some (.slice c.p c.hs.length c.cap) := cell_keep hb1 (by go_simp)
        have l1_c : w.heap.size < w1.heap.size := by omega
        have m1_c : w.heap.size < w1.heap.size + 1 := by omega
        have HT1 := Lib.hid (HT0.out.below bb1)
        have HC1 := Lib.hid (HC0.out.below bb1)
        have HL1 := Lib.hid (HL0.out.below bb1)
        have HE1 := Lib.hid (HE0.out.below bb1)
        have BE1 := Lib.hid be1
        clear be1 bb1 hb1 HT0 HC0 HL0 HE0
        go_wp2_with fail
        refine (eval_at (exT 8 (some ⟨gg, 0, none⟩) capT tt) c q capq l _ (tat_kd (HT1.out.below (by repeat (first | exact Below.refl _ _ | assumption | refine below_drewN ?_ _ | refine Below.setCell ?_ (by first | (simp; done) | (simp; omega)) _ | refine Below.alloc ?_ (by first | (simp; done) | (simp; omega) | omega) _ | refine Below.drew ?_ | refine Below.trans ?_ (Below.mono (by assumption) (by first | (simp; done) | (simp; omega) | omega)))))) (HC1.out.below (by repeat (first | exact Below.refl _ _ | assumption | refine below_drewN ?_ _ | refine Below.setCell ?_ (by first | (simp; done) | (simp; omega)) _ | refine Below.alloc ?_ (by first | (simp; done) | (simp; omega) | omega) _ | refine Below.drew ?_ | refine Below.trans ?_ (Below.mono (by assumption) (by first | (simp; done) | (simp; omega) | omega))))) (HL1.out.below (by repeat (first | exact Below.refl _ _ | assumption | refine below_drewN ?_ _ | refine Below.setCell ?_ (by first | (simp; done) | (simp; omega)) _ | refine Below.alloc ?_ (by first | (simp; done) | (simp; omega) | omega) _ | refine Below.drew ?_ | refine Below.trans ?_ (Below.mono (by assumption) (by first | (simp; done) | (simp; omega) | omega))))) (by omega) (HE1.out.below (by repeat (first | exact Below.refl _ _ | assumption | refine below_drewN ?_ _ | refine Below.setCell ?_ (by first | (simp; done) | (simp; omega)) _ | refine Below.alloc ?_ (by first | (simp; done) | (simp; omega) | omega) _ | refine Below.drew ?_ | refine Below.trans ?_ (Below.mono (by assumption) (by first | (simp; done) | (simp; omega) | omega)))))).mono ?_
        rintro e w2 ⟨rfl, hb2⟩
        rw [HXB.out]
        simp only [R3]
        have hz2 := hb2.size
        (try simp at hz2)
        have bb2 : Below w1.heap.size w1 w2 := (by repeat (first | exact Below.refl _ _ | assumption | refine below_drewN ?_ _ | refine Below.setCell ?_ (by first | (simp; done) | (simp; omega)) _ | refine Below.alloc ?_ (by first | (simp; done) | (simp; omega) | omega) _ | refine Below.drew ?_ | refine Below.trans ?_ (Below.mono (by assumption) (by first | (simp; done) | (simp; omega) | omega))))
        have be2 : Below w6.heap.size w6 w2 := BE1.out.trans (bb2.mono BE1.out.size)
        have c2_c_0 : w2.cell? ⟨w.heap.size, 0, none⟩ = some (.bool c.b0) := cell_keep bb2 c1_c_0
        have c2_c_1 : w2.cell? ⟨w.heap.size, 1, none⟩ = some (.bool c.b1) := cell_keep bb2 c1_c_1
        have c2_c_2 : w2.cell? ⟨w.heap.size, 2, none⟩ = some (.bool c.b2) := cell_keep bb2 c1_c_2
        have c2_c_3 : w2.cell? ⟨w.heap.size, 3, none⟩ = some (.bool c.b3) := cell_keep bb2 c1_c_3
        have c2_c_4 : w2.cell? ⟨w.heap.size, 4, none⟩ = some (.bool c.b4) := cell_keep bb2 c1_c_4
        have c2_c_5 : w2.cell? ⟨w.heap.size, 5, none⟩ = some (.bool c.b5) := cell_keep bb2 c1_c_5
        have c2_c_6 : w2.cell? ⟨w.heap.size, 6, none⟩ = some (.bool c.b6) := cell_keep bb2 c1_c_6
        have c2_c_7 : w2.cell? ⟨w.heap.size, 7, none⟩ = some (.slice c.p c.hs.length c.cap) := cell_keep bb2 c1_c_7
        have l2_c : w.heap.size < w2.heap.size := by omega
        have m2_c : w.heap.size < w2.heap.size + 1 := by omega
        have HT2 := Lib.hid (HT1.out.below bb2)
        have HC2 := Lib.hid (HC1.out.below bb2)
        have HL2 := Lib.hid (HL1.out.below bb2)
        have HE2 := Lib.hid (HE1.out.below bb2)
        have BE2 := Lib.hid be2
        clear be2 bb2 hb2 BE1 c1_c_0 c1_c_1 c1_c_2 c1_c_3 c1_c_4 c1_c_5 c1_c_6 c1_c_7 l1_c m1_c HT1 HC1 HL1 HE1
        go_wp2_with fail
        go_ret
        exact ⟨by simp, HBB.out.trans ((show Below w6.heap.size w6 _ from (by have q := BE2.out; repeat (first | exact q | refine Below.setCell ?_ (by first | (simp; done) | omega | (simp; omega)) _ | refine Below.alloc ?_ (by first | (simp; done) | omega | (simp; omega)) _ | refine below_drewN ?_ _ | refine Below.drew ?_))).mono HBB.out.size)⟩
theorem extremes_law (p0 : Option Addr) (cap0 : Nat) (ks : List Dl.T) (c : Cal) (q : Option Addr) (capq : Nat) (l : List Wh) (w : World) (ht : ∀ kd : Int, TAt w (.node kd 0 0 false p0 cap0 ks) ∧ LenOK (.node kd 0 0 false p0 cap0 ks)) (hc : CalIn w c) (hl : EvAt w q l) (he : Env w) : Calls Tryd.prog 6 #[.slice p0 ks.length cap0, .agg #[.bool c.b0, .bool c.b1, .bool c.b2, .bool c.b3, .bool c.b4, .bool c.b5, .bool c.b6, .slice c.p c.hs.length c.cap], .slice q l.length capq] w fun e w' => e = .returned (.bool true) ∧ Below w.heap.size w w' := by
  cases hs : smallB (exT 7 p0 cap0 ks) l with
  | false => exact ex_s p0 cap0 ks c q capq l w ht hc hl he hs
  | true =>
    have hln := small_len hs
    rcases extremes_facts ks c l p0 cap0 with ⟨h1, h2⟩ | ⟨h1, h2⟩ | ⟨h1, h2⟩ | ⟨ds, a, b, h1, h2, h3, h4, h5, h6, h7, h8, h9⟩
    · exact ex_1 p0 cap0 ks c q capq l w ht hc hl he hs hln h1 h2
    · exact ex_0 p0 cap0 ks c q capq l w ht hc hl he hs hln h1 h2
    · exact ex_2 p0 cap0 ks c q capq l w ht hc hl he hs hln h1 h2
    · exact ex_go p0 cap0 ks c q capq l w ht hc hl he hs hln ds a b h1 h2 h3 h4 h5 h6 h7 h8 h9
end Go.Proofs.YtlbfnafniobnaaaDoor

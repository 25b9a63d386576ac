/- DeadlineNeeds: the walk of the law. -/
import Derived.Test.YtlbfnafniobnaaaDoorDnU
namespace Go.Proofs.YtlbfnafniobnaaaDoor
open Go.RowKit Go.Shelf

set_option maxRecDepth 100000 in
set_option maxHeartbeats 1600000 in
theorem ne_s (t : Dl.T) (c : Cal) (q : Option Addr) (capq : Nat) (l : List Wh) (w : World) (ht : TAt w t) (hn : LenOK t) (hc : CalIn w c) (hl : EvAt w q l) (he : Env w) (hs : smallB t l = false) :
    Calls Tryd.prog 5 #[.agg #[.int .i64 t.kd, .int .i64 t.n, .int .i64 t.ev, .bool t.bz, .slice t.p t.kids.length t.cap], .agg #[.bool c.b0, .bool c.b1, .bool c.b2, .bool c.b3, .bool c.b4, .bool c.b5, .bool c.b6, .slice c.p c.hs.length c.cap], .slice q l.length capq] w fun e w' => e = .returned (.bool true) ∧ Below w.heap.size w w' := by
  have HT0 := Lib.hid ht
  clear ht
  have HC0 := Lib.hid hc
  clear hc
  have HL0 := Lib.hid hl
  clear hl
  have HE0 := Lib.hid he
  clear he
  have HN := Lib.hid hn
  clear hn
  have HS := Lib.hid hs
  clear hs
  go_enter Tryd.func5, Tryd.ntmps5
  go_wp2_with fail
  refine (head_any _ (HE0.out.below (by repeat (first | exact Below.refl _ _ | assumption | refine below_drewN ?_ _ | refine Below.setCell ?_ (by first | (simp; done) | (simp; omega)) _ | refine Below.alloc ?_ (by first | (simp; done) | (simp; omega) | omega) _ | refine Below.drew ?_ | refine Below.trans ?_ (Below.mono (by assumption) (by first | (simp; done) | (simp; omega) | omega)))))).mono ?_
  rintro e w1 ⟨rfl, hb1⟩
  have hz1 := hb1.size
  (try simp at hz1)
  have bb1 : Below w.heap.size w w1 := (by repeat (first | exact Below.refl _ _ | assumption | refine below_drewN ?_ _ | refine Below.setCell ?_ (by first | (simp; done) | (simp; omega)) _ | refine Below.alloc ?_ (by first | (simp; done) | (simp; omega) | omega) _ | refine Below.drew ?_ | refine Below.trans ?_ (Below.mono (by assumption) (by first | (simp; done) | (simp; omega) | omega))))
  have be1 : Below w.heap.size w w1 := bb1
  have c1_t_0 : w1.cell? ⟨w.heap.size, 0, none⟩ = some (.int .i64 t.kd) := cell_keep hb1 (by go_simp)
  have c1_t_1 : w1.cell? ⟨w.heap.size, 1, none⟩ = some (.int .i64 t.n) := cell_keep hb1 (by go_simp)
  have c1_t_2 : w1.cell? ⟨w.heap.size, 2, none⟩ = some (.int .i64 t.ev) := cell_keep hb1 (by go_simp)
  have c1_t_3 : w1.cell? ⟨w.heap.size, 3, none⟩ = some (.bool t.bz) := cell_keep hb1 (by go_simp)
  have c1_t_4 : w1.cell? ⟨w.heap.size, 4, none⟩ = some (.slice t.p t.kids.length t.cap) := cell_keep hb1 (by go_simp)
  have l1_t : w.heap.size < w1.heap.size := by omega
  have m1_t : w.heap.size < w1.heap.size + 1 := by omega
  have c1_c_0 : w1.cell? ⟨w.heap.size + 1, 0, none⟩ = some (.bool c.b0) := cell_keep hb1 (by go_simp)
  have c1_c_1 : w1.cell? ⟨w.heap.size + 1, 1, none⟩ = some (.bool c.b1) := cell_keep hb1 (by go_simp)
  have c1_c_2 : w1.cell? ⟨w.heap.size + 1, 2, none⟩ = some (.bool c.b2) := cell_keep hb1 (by go_simp)
  have c1_c_3 : w1.cell? ⟨w.heap.size + 1, 3, none⟩ = some (.bool c.b3) := cell_keep hb1 (by go_simp)
  have c1_c_4 : w1.cell? ⟨w.heap.size + 1, 4, none⟩ = some (.bool c.b4) := cell_keep hb1 (by go_simp)
  have c1_c_5 : w1.cell? ⟨w.heap.size + 1, 5, none⟩ = some (.bool c.b5) := cell_keep hb1 (by go_simp)
  have c1_c_6 : w1.cell? ⟨w.heap.size + 1, 6, none⟩ = some (.bool c.b6) := cell_keep hb1 (by go_simp)
  have c1_c_7 : w1.cell? ⟨w.heap.size + 1, 7, none⟩ = some (.slice c.p c.hs.length c.cap) := cell_keep hb1 (by go_simp)
  have l1_c : w.heap.size + 1 < w1.heap.size := by omega
  have m1_c : w.heap.size + 1 < w1.heap.size + 1 := by omega
  have HT1 := Lib.hid (HT0.out.below bb1)
  have HC1 := Lib.hid (HC0.out.below bb1)
  have HL1 := Lib.hid (HL0.out.below bb1)
  have HE1 := Lib.hid (HE0.out.below bb1)
  have BE1 := Lib.hid be1
  clear be1 bb1 hb1 HT0 HC0 HL0 HE0
  go_wp2_with fail
  refine (small_any t q l capq _ HN.out (HT1.out.below (by repeat (first | exact Below.refl _ _ | assumption | refine below_drewN ?_ _ | refine Below.setCell ?_ (by first | (simp; done) | (simp; omega)) _ | refine Below.alloc ?_ (by first | (simp; done) | (simp; omega) | omega) _ | refine Below.drew ?_ | refine Below.trans ?_ (Below.mono (by assumption) (by first | (simp; done) | (simp; omega) | omega)))))).mono ?_
  rintro e w2 ⟨rfl, hb2⟩
  rw [HS.out]
  have hz2 := hb2.size
  (try simp at hz2)
  have bb2 : Below w1.heap.size w1 w2 := (by repeat (first | exact Below.refl _ _ | assumption | refine below_drewN ?_ _ | refine Below.setCell ?_ (by first | (simp; done) | (simp; omega)) _ | refine Below.alloc ?_ (by first | (simp; done) | (simp; omega) | omega) _ | refine Below.drew ?_ | refine Below.trans ?_ (Below.mono (by assumption) (by first | (simp; done) | (simp; omega) | omega))))
  have be2 : Below w.heap.size w w2 := BE1.out.trans (bb2.mono BE1.out.size)
  have c2_t_0 : w2.cell? ⟨w.heap.size, 0, none⟩ = some (.int .i64 t.kd) := cell_keep bb2 c1_t_0
  have c2_t_1 : w2.cell? ⟨w.heap.size, 1, none⟩ = some (.int .i64 t.n) := cell_keep bb2 c1_t_1
  have c2_t_2 : w2.cell? ⟨w.heap.size, 2, none⟩ = some (.int .i64 t.ev) := cell_keep bb2 c1_t_2
  have c2_t_3 : w2.cell? ⟨w.heap.size, 3, none⟩ = some (.bool t.bz) := cell_keep bb2 c1_t_3
  have c2_t_4 : w2.cell? ⟨w.heap.size, 4, none⟩ = some (.slice t.p t.kids.length t.cap) := cell_keep bb2 c1_t_4
  have l2_t : w.heap.size < w2.heap.size := by omega
  have m2_t : w.heap.size < w2.heap.size + 1 := by omega
  have c2_c_0 : w2.cell? ⟨w.heap.size + 1, 0, none⟩ = some (.bool c.b0) := cell_keep bb2 c1_c_0
  have c2_c_1 : w2.cell? ⟨w.heap.size + 1, 1, none⟩ = some (.bool c.b1) := cell_keep bb2 c1_c_1
  have c2_c_2 : w2.cell? ⟨w.heap.size + 1, 2, none⟩ = some (.bool c.b2) := cell_keep bb2 c1_c_2
  have c2_c_3 : w2.cell? ⟨w.heap.size + 1, 3, none⟩ = some (.bool c.b3) := cell_keep bb2 c1_c_3
  have c2_c_4 : w2.cell? ⟨w.heap.size + 1, 4, none⟩ = some (.bool c.b4) := cell_keep bb2 c1_c_4
  have c2_c_5 : w2.cell? ⟨w.heap.size + 1, 5, none⟩ = some (.bool c.b5) := cell_keep bb2 c1_c_5
  have c2_c_6 : w2.cell? ⟨w.heap.size + 1, 6, none⟩ = some (.bool c.b6) := cell_keep bb2 c1_c_6
  have c2_c_7 : w2.cell? ⟨w.heap.size + 1, 7, none⟩ = some (.slice c.p c.hs.length c.cap) := cell_keep bb2 c1_c_7
  have l2_c : w.heap.size + 1 < w2.heap.size := by omega
  have m2_c : w.heap.size + 1 < w2.heap.size + 1 := by omega
  have HT2 := Lib.hid (HT1.out.below bb2)
  have HC2 := Lib.hid (HC1.out.below bb2)
  have HL2 := Lib.hid (HL1.out.below bb2)
  have HE2 := Lib.hid (HE1.out.below bb2)
  have BE2 := Lib.hid be2
  clear be2 bb2 hb2 BE1 c1_t_0 c1_t_1 c1_t_2 c1_t_3 c1_t_4 l1_t m1_t c1_c_0 c1_c_1 c1_c_2 c1_c_3 c1_c_4 c1_c_5 c1_c_6 c1_c_7 l1_c m1_c HT1 HC1 HL1 HE1
  go_wp2_with fail
  go_ret
  exact ⟨rfl, (by have q := BE2.out; repeat (first | exact q | refine Below.setCell ?_ (by first | (simp; done) | omega | (simp; omega)) _ | refine Below.alloc ?_ (by first | (simp; done) | omega | (simp; omega)) _ | refine below_drewN ?_ _ | refine Below.drew ?_))⟩
set_option maxRecDepth 100000 in
set_option maxHeartbeats 1600000 in
theorem ne_e (t : Dl.T) (c : Cal) (q : Option Addr) (capq : Nat) (l : List Wh) (w : World) (ht : TAt w t) (hn : LenOK t) (hc : CalIn w c) (hl : EvAt w q l) (he : Env w) (hs : smallB t l = true) (hln : l.length ≤ 40) (ha : evalS t c l = (0, false, 1)) :
    Calls Tryd.prog 5 #[.agg #[.int .i64 t.kd, .int .i64 t.n, .int .i64 t.ev, .bool t.bz, .slice t.p t.kids.length t.cap], .agg #[.bool c.b0, .bool c.b1, .bool c.b2, .bool c.b3, .bool c.b4, .bool c.b5, .bool c.b6, .slice c.p c.hs.length c.cap], .slice q l.length capq] w fun e w' => e = .returned (.bool true) ∧ Below w.heap.size w w' := by
  have HT0 := Lib.hid ht
  clear ht
  have HC0 := Lib.hid hc
  clear hc
  have HL0 := Lib.hid hl
  clear hl
  have HE0 := Lib.hid he
  clear he
  have HN := Lib.hid hn
  clear hn
  have HS := Lib.hid hs
  clear hs
  have HA := Lib.hid ha
  clear ha
  go_enter Tryd.func5, Tryd.ntmps5
  go_wp2_with fail
  refine (head_any _ (HE0.out.below (by repeat (first | exact Below.refl _ _ | assumption | refine below_drewN ?_ _ | refine Below.setCell ?_ (by first | (simp; done) | (simp; omega)) _ | refine Below.alloc ?_ (by first | (simp; done) | (simp; omega) | omega) _ | refine Below.drew ?_ | refine Below.trans ?_ (Below.mono (by assumption) (by first | (simp; done) | (simp; omega) | omega)))))).mono ?_
  rintro e w1 ⟨rfl, hb1⟩
  have hz1 := hb1.size
  (try simp at hz1)
  have bb1 : Below w.heap.size w w1 := (by repeat (first | exact Below.refl _ _ | assumption | refine below_drewN ?_ _ | refine Below.setCell ?_ (by first | (simp; done) | (simp; omega)) _ | refine Below.alloc ?_ (by first | (simp; done) | (simp; omega) | omega) _ | refine Below.drew ?_ | refine Below.trans ?_ (Below.mono (by assumption) (by first | (simp; done) | (simp; omega) | omega))))
  have be1 : Below w.heap.size w w1 := bb1
  have c1_t_0 : w1.cell? ⟨w.heap.size, 0, none⟩ = some (.int .i64 t.kd) := cell_keep hb1 (by go_simp)
  have c1_t_1 : w1.cell? ⟨w.heap.size, 1, none⟩ = some (.int .i64 t.n) := cell_keep hb1 (by go_simp)
  have c1_t_2 : w1.cell? ⟨w.heap.size, 2, none⟩ = some (.int .i64 t.ev) := cell_keep hb1 (by go_simp)
  have c1_t_3 : w1.cell? ⟨w.heap.size, 3, none⟩ = some (.bool t.bz) := cell_keep hb1 (by go_simp)
  have c1_t_4 : w1.cell? ⟨w.heap.size, 4, none⟩ = some (.slice t.p t.kids.length t.cap) := cell_keep hb1 (by go_simp)
  have l1_t : w.heap.size < w1.heap.size := by omega
  have m1_t : w.heap.size < w1.heap.size + 1 := by omega
  have c1_c_0 : w1.cell? ⟨w.heap.size + 1, 0, none⟩ = some (.bool c.b0) := cell_keep hb1 (by go_simp)
  have c1_c_1 : w1.cell? ⟨w.heap.size + 1, 1, none⟩ = some (.bool c.b1) := cell_keep hb1 (by go_simp)
  have c1_c_2 : w1.cell? ⟨w.heap.size + 1, 2, none⟩ = some (.bool c.b2) := cell_keep hb1 (by go_simp)
  have c1_c_3 : w1.cell? ⟨w.heap.size + 1, 3, none⟩ = some (.bool c.b3) := cell_keep hb1 (by go_simp)
  have c1_c_4 : w1.cell? ⟨w.heap.size + 1, 4, none⟩ = some (.bool c.b4) := cell_keep hb1 (by go_simp)
  have c1_c_5 : w1.cell? ⟨w.heap.size + 1, 5, none⟩ = some (.bool c.b5) := cell_keep hb1 (by go_simp)
  have c1_c_6 : w1.cell? ⟨w.heap.size + 1, 6, none⟩ = some (.bool c.b6) := cell_keep hb1 (by go_simp)
  have c1_c_7 : w1.cell? ⟨w.heap.size + 1, 7, none⟩ = some (.slice c.p c.hs.length c.cap) := cell_keep hb1 (by go_simp)
  have l1_c : w.heap.size + 1 < w1.heap.size := by omega
  have m1_c : w.heap.size + 1 < w1.heap.size + 1 := by omega
  have HT1 := Lib.hid (HT0.out.below bb1)
  have HC1 := Lib.hid (HC0.out.below bb1)
  have HL1 := Lib.hid (HL0.out.below bb1)
  have HE1 := Lib.hid (HE0.out.below bb1)
  have BE1 := Lib.hid be1
  clear be1 bb1 hb1 HT0 HC0 HL0 HE0
  go_wp2_with fail
  refine (small_any t q l capq _ HN.out (HT1.out.below (by repeat (first | exact Below.refl _ _ | assumption | refine below_drewN ?_ _ | refine Below.setCell ?_ (by first | (simp; done) | (simp; omega)) _ | refine Below.alloc ?_ (by first | (simp; done) | (simp; omega) | omega) _ | refine Below.drew ?_ | refine Below.trans ?_ (Below.mono (by assumption) (by first | (simp; done) | (simp; omega) | omega)))))).mono ?_
  rintro e w2 ⟨rfl, hb2⟩
  rw [HS.out]
  have hz2 := hb2.size
  (try simp at hz2)
  have bb2 : Below w1.heap.size w1 w2 := (by repeat (first | exact Below.refl _ _ | assumption | refine below_drewN ?_ _ | refine Below.setCell ?_ (by first | (simp; done) | (simp; omega)) _ | refine Below.alloc ?_ (by first | (simp; done) | (simp; omega) | omega) _ | refine Below.drew ?_ | refine Below.trans ?_ (Below.mono (by assumption) (by first | (simp; done) | (simp; omega) | omega))))
  have be2 : Below w.heap.size w w2 := BE1.out.trans (bb2.mono BE1.out.size)
  have c2_t_0 : w2.cell? ⟨w.heap.size, 0, none⟩ = some (.int .i64 t.kd) := cell_keep bb2 c1_t_0
  have c2_t_1 : w2.cell? ⟨w.heap.size, 1, none⟩ = some (.int .i64 t.n) := cell_keep bb2 c1_t_1
  have c2_t_2 : w2.cell? ⟨w.heap.size, 2, none⟩ = some (.int .i64 t.ev) := cell_keep bb2 c1_t_2
  have c2_t_3 : w2.cell? ⟨w.heap.size, 3, none⟩ = some (.bool t.bz) := cell_keep bb2 c1_t_3
  have c2_t_4 : w2.cell? ⟨w.heap.size, 4, none⟩ = some (.slice t.p t.kids.length t.cap) := cell_keep bb2 c1_t_4
  have l2_t : w.heap.size < w2.heap.size := by omega
  have m2_t : w.heap.size < w2.heap.size + 1 := by omega
  have c2_c_0 : w2.cell? ⟨w.heap.size + 1, 0, none⟩ = some (.bool c.b0) := cell_keep bb2 c1_c_0
  have c2_c_1 : w2.cell? ⟨w.heap.size + 1, 1, none⟩ = some (.bool c.b1) := cell_keep bb2 c1_c_1
  have c2_c_2 : w2.cell? ⟨w.heap.size + 1, 2, none⟩ = some (.bool c.b2) := cell_keep bb2 c1_c_2
  have c2_c_3 : w2.cell? ⟨w.heap.size + 1, 3, none⟩ = some (.bool c.b3) := cell_keep bb2 c1_c_3
  have c2_c_4 : w2.cell? ⟨w.heap.size + 1, 4, none⟩ = some (.bool c.b4) := cell_keep bb2 c1_c_4
  have c2_c_5 : w2.cell? ⟨w.heap.size + 1, 5, none⟩ = some (.bool c.b5) := cell_keep bb2 c1_c_5
  have c2_c_6 : w2.cell? ⟨w.heap.size + 1, 6, none⟩ = some (.bool c.b6) := cell_keep bb2 c1_c_6
  have c2_c_7 : w2.cell? ⟨w.heap.size + 1, 7, none⟩ = some (.slice c.p c.hs.length c.cap) := cell_keep bb2 c1_c_7
  have l2_c : w.heap.size + 1 < w2.heap.size := by omega
  have m2_c : w.heap.size + 1 < w2.heap.size + 1 := by omega
  have HT2 := Lib.hid (HT1.out.below bb2)
  have HC2 := Lib.hid (HC1.out.below bb2)
  have HL2 := Lib.hid (HL1.out.below bb2)
  have HE2 := Lib.hid (HE1.out.below bb2)
  have BE2 := Lib.hid be2
  clear be2 bb2 hb2 BE1 c1_t_0 c1_t_1 c1_t_2 c1_t_3 c1_t_4 l1_t m1_t c1_c_0 c1_c_1 c1_c_2 c1_c_3 c1_c_4 c1_c_5 c1_c_6 c1_c_7 l1_c m1_c HT1 HC1 HL1 HE1
  go_wp2_with fail
  refine (eval_at t c q capq l _ (HT2.out.below (by repeat (first | exact Below.refl _ _ | assumption | refine below_drewN ?_ _ | refine Below.setCell ?_ (by first | (simp; done) | (simp; omega)) _ | refine Below.alloc ?_ (by first | (simp; done) | (simp; omega) | omega) _ | refine Below.drew ?_ | refine Below.trans ?_ (Below.mono (by assumption) (by first | (simp; done) | (simp; omega) | omega))))) (HC2.out.below (by repeat (first | exact Below.refl _ _ | assumption | refine below_drewN ?_ _ | refine Below.setCell ?_ (by first | (simp; done) | (simp; omega)) _ | refine Below.alloc ?_ (by first | (simp; done) | (simp; omega) | omega) _ | refine Below.drew ?_ | refine Below.trans ?_ (Below.mono (by assumption) (by first | (simp; done) | (simp; omega) | omega))))) (HL2.out.below (by repeat (first | exact Below.refl _ _ | assumption | refine below_drewN ?_ _ | refine Below.setCell ?_ (by first | (simp; done) | (simp; omega)) _ | refine Below.alloc ?_ (by first | (simp; done) | (simp; omega) | omega) _ | refine Below.drew ?_ | refine Below.trans ?_ (Below.mono (by assumption) (by first | (simp; done) | (simp; omega) | omega))))) (by omega) (HE2.out.below (by repeat (first | exact Below.refl _ _ | assumption | refine below_drewN ?_ _ | refine Below.setCell ?_ (by first | (simp; done) | (simp; omega)) _ | refine Below.alloc ?_ (by first | (simp; done) | (simp; omega) | omega) _ | refine Below.drew ?_ | refine Below.trans ?_ (Below.mono (by assumption) (by first | (simp; done) | (simp; omega) | omega)))))).mono ?_
  rintro e w3 ⟨rfl, hb3⟩
  rw [HA.out]
  simp only [R3]
  have hz3 := hb3.size
  (try simp at hz3)
  have bb3 : Below w2.heap.size w2 w3 := (by repeat (first | exact Below.refl _ _ | assumption | refine below_drewN ?_ _ | refine Below.setCell ?_ (by first | (simp; done) | (simp; omega)) _ | refine Below.alloc ?_ (by first | (simp; done) | (simp; omega) | omega) _ | refine Below.drew ?_ | refine Below.trans ?_ (Below.mono (by assumption) (by first | (simp; done) | (simp; omega) | omega))))
  have be3 : Below w.heap.size w w3 := BE2.out.trans (bb3.mono BE2.out.size)
  have c3_t_0 : w3.cell? ⟨w.heap.size, 0, none⟩ = some (.int .i64 t.kd) := cell_keep bb3 c2_t_0
  have c3_t_1 : w3.cell? ⟨w.heap.size, 1, none⟩ = some (.int .i64 t.n) := cell_keep bb3 c2_t_1
  have c3_t_2 : w3.cell? ⟨w.heap.size, 2, none⟩ = some (.int .i64 t.ev) := cell_keep bb3 c2_t_2
  have c3_t_3 : w3.cell? ⟨w.heap.size, 3, none⟩ = some (.bool t.bz) := cell_keep bb3 c2_t_3
  have c3_t_4 : w3.cell? ⟨w.heap.size, 4, none⟩ = some (.slice t.p t.kids.length t.cap) := cell_keep bb3 c2_t_4
  have l3_t : w.heap.size < w3.heap.size := by omega
  have m3_t : w.heap.size < w3.heap.size + 1 := by omega
  have c3_c_0 : w3.cell? ⟨w.heap.size + 1, 0, none⟩ = some (.bool c.b0) := cell_keep bb3 c2_c_0
  have c3_c_1 : w3.cell? ⟨w.heap.size + 1, 1, none⟩ = some (.bool c.b1) := cell_keep bb3 c2_c_1
  have c3_c_2 : w3.cell? ⟨w.heap.size + 1, 2, none⟩ = some (.bool c.b2) := cell_keep bb3 c2_c_2
  have c3_c_3 : w3.cell? ⟨w.heap.size + 1, 3, none⟩ = some (.bool c.b3) := cell_keep bb3 c2_c_3
  have c3_c_4 : w3.cell? ⟨w.heap.size + 1, 4, none⟩ = some (.bool c.b4) := cell_keep bb3 c2_c_4
  have c3_c_5 : w3.cell? ⟨w.heap.size + 1, 5, none⟩ = some (.bool c.b5) := cell_keep bb3 c2_c_5
  have c3_c_6 : w3.cell? ⟨w.heap.size + 1, 6, none⟩ = some (.bool c.b6) := cell_keep bb3 c2_c_6
  have c3_c_7 : w3.cell? ⟨w.heap.size + 1, 7, none⟩ = some (.slice c.p c.hs.length c.cap) := cell_keep bb3 c2_c_7
  have l3_c : w.heap.size + 1 < w3.heap.size := by omega
  have m3_c : w.heap.size + 1 < w3.heap.size + 1 := by omega
  have HT3 := Lib.hid (HT2.out.below bb3)
  have HC3 := Lib.hid (HC2.out.below bb3)
  have HL3 := Lib.hid (HL2.out.below bb3)
  have HE3 := Lib.hid (HE2.out.below bb3)
  have BE3 := Lib.hid be3
  clear be3 bb3 hb3 BE2 c2_t_0 c2_t_1 c2_t_2 c2_t_3 c2_t_4 l2_t m2_t c2_c_0 c2_c_1 c2_c_2 c2_c_3 c2_c_4 c2_c_5 c2_c_6 c2_c_7 l2_c m2_c HT2 HC2 HL2 HE2
  go_wp2_with fail
  go_ret
  exact ⟨rfl, (by have q := BE3.out; repeat (first | exact q | refine Below.setCell ?_ (by first | (simp; done) | omega | (simp; omega)) _ | refine Below.alloc ?_ (by first | (simp; done) | omega | (simp; omega)) _ | refine below_drewN ?_ _ | refine Below.drew ?_))⟩
set_option maxRecDepth 100000 in
set_option maxHeartbeats 6400000 in
theorem ne_go (t : Dl.T) (c : Cal) (q : Option Addr) (capq : Nat) (l : List Wh) (d e : Int) (known v : Bool) (ns : List Int) (w : World) (ht : TAt w t) (hn : LenOK t) (hc : CalIn w c) (hl : EvAt w q l) (he : Env w) (hs : smallB t l = true) (hln : l.length ≤ 40) (ha : evalS t c l = (d, known, e)) (h1 : (e == 1) = false) (hv1 : validT t 1000 = true) (hns : evT t = ns) (hr : ∀ i ∈ ns, 0 ≤ i ∧ i < l.length) (hnx : ∀ (k : Nat) (a b : Int), ns[k]? = some a → ns[k + 1]? = some b → a < b) (hnl : ns.length ≤ 1000) (hall : ns.all (knownAt l) = v) (hf : evalS t c (onlyF l ns) = (d, known, e)) (hx9 : (e = 0 ∧ known = v) ∨ (e = 2 ∧ v = true ∧ known = false ∧ d = 0)) :
    Calls Tryd.prog 5 #[.agg #[.int .i64 t.kd, .int .i64 t.n, .int .i64 t.ev, .bool t.bz, .slice t.p t.kids.length t.cap], .agg #[.bool c.b0, .bool c.b1, .bool c.b2, .bool c.b3, .bool c.b4, .bool c.b5, .bool c.b6, .slice c.p c.hs.length c.cap], .slice q l.length capq] w fun e w' => e = .returned (.bool true) ∧ Below w.heap.size w w' := by
  have HT0 := Lib.hid ht
  clear ht
  have HC0 := Lib.hid hc
  clear hc
  have HL0 := Lib.hid hl
  clear hl
  have HE0 := Lib.hid he
  clear he
  have HN := Lib.hid hn
  clear hn
  have HS := Lib.hid hs
  clear hs
  have HA := Lib.hid ha
  clear ha
  have HV1 := Lib.hid hv1
  clear hv1
  have HNS := Lib.hid hns
  clear hns
  have HR := Lib.hid hr
  clear hr
  have HNX := Lib.hid hnx
  clear hnx
  have HF := Lib.hid hf
  clear hf
  have HX9 := Lib.hid hx9
  clear hx9
  have HALL := Lib.hid hall
  clear hall
  go_enter Tryd.func5, Tryd.ntmps5
  go_wp2_with fail
  refine (head_any _ (HE0.out.below (by repeat (first | exact Below.refl _ _ | assumption | refine below_drewN ?_ _ | refine Below.setCell ?_ (by first | (simp; done) | (simp; omega)) _ | refine Below.alloc ?_ (by first | (simp; done) | (simp; omega) | omega) _ | refine Below.drew ?_ | refine Below.trans ?_ (Below.mono (by assumption) (by first | (simp; done) | (simp; omega) | omega)))))).mono ?_
  rintro e w1 ⟨rfl, hb1⟩
  have hz1 := hb1.size
  (try simp at hz1)
  have bb1 : Below w.heap.size w w1 := (by repeat (first | exact Below.refl _ _ | assumption | refine below_drewN ?_ _ | refine Below.setCell ?_ (by first | (simp; done) | (simp; omega)) _ | refine Below.alloc ?_ (by first | (simp; done) | (simp; omega) | omega) _ | refine Below.drew ?_ | refine Below.trans ?_ (Below.mono (by assumption) (by first | (simp; done) | (simp; omega) | omega))))
  have be1 : Below w.heap.size w w1 := bb1
  have c1_t_0 : w1.cell? ⟨w.heap.size, 0, none⟩ = some (.int .i64 t.kd) := cell_keep hb1 (by go_simp)
  have c1_t_1 : w1.cell? ⟨w.heap.size, 1, none⟩ = some (.int .i64 t.n) := cell_keep hb1 (by go_simp)
  have c1_t_2 : w1.cell? ⟨w.heap.size, 2, none⟩ = some (.int .i64 t.ev) := cell_keep hb1 (by go_simp)
  have c1_t_3 : w1.cell? ⟨w.heap.size, 3, none⟩ = some (.bool t.bz) := cell_keep hb1 (by go_simp)
  have c1_t_4 : w1.cell? ⟨w.heap.size, 4, none⟩ = some (.slice t.p t.kids.length t.cap) := cell_keep hb1 (by go_simp)
  have l1_t : w.heap.size < w1.heap.size := by omega
  have m1_t : w.heap.size < w1.heap.size + 1 := by omega
  have c1_c_0 : w1.cell? ⟨w.heap.size + 1, 0, none⟩ = some (.bool c.b0) := cell_keep hb1 (by go_simp)
  have c1_c_1 : w1.cell? ⟨w.heap.size + 1, 1, none⟩ = some (.bool c.b1) := cell_keep hb1 (by go_simp)
  have c1_c_2 : w1.cell? ⟨w.heap.size + 1, 2, none⟩ = some (.bool c.b2) := cell_keep hb1 (by go_simp)
  have c1_c_3 : w1.cell? ⟨w.heap.size + 1, 3, none⟩ = some (.bool c.b3) := cell_keep hb1 (by go_simp)
  have c1_c_4 : w1.cell? ⟨w.heap.size + 1, 4, none⟩ = some (.bool c.b4) := cell_keep hb1 (by go_simp)
  have c1_c_5 : w1.cell? ⟨w.heap.size + 1, 5, none⟩ = some (.bool c.b5) := cell_keep hb1 (by go_simp)
  have c1_c_6 : w1.cell? ⟨w.heap.size + 1, 6, none⟩ = some (.bool c.b6) := cell_keep hb1 (by go_simp)
  have c1_c_7 : w1.cell? ⟨w.heap.size + 1, 7, none⟩ = some (.slice c.p c.hs.length c.cap) := cell_keep hb1 (by go_simp)
  have l1_c : w.heap.size + 1 < w1.heap.size := by omega
  have m1_c : w.heap.size + 1 < w1.heap.size + 1 := by omega
  have HT1 := Lib.hid (HT0.out.below bb1)
  have HC1 := Lib.hid (HC0.out.below bb1)
  have HL1 := Lib.hid (HL0.out.below bb1)
  have HE1 := Lib.hid (HE0.out.below bb1)
  have BE1 := Lib.hid be1
  clear be1 bb1 hb1 HT0 HC0 HL0 HE0
  go_wp2_with fail
  refine (small_any t q l capq _ HN.out (HT1.out.below (by repeat (first | exact Below.refl _ _ | assumption | refine below_drewN ?_ _ | refine Below.setCell ?_ (by first | (simp; done) | (simp; omega)) _ | refine Below.alloc ?_ (by first | (simp; done) | (simp; omega) | omega) _ | refine Below.drew ?_ | refine Below.trans ?_ (Below.mono (by assumption) (by first | (simp; done) | (simp; omega) | omega)))))).mono ?_
  rintro e w2 ⟨rfl, hb2⟩
  rw [HS.out]
  have hz2 := hb2.size
  (try simp at hz2)
  have bb2 : Below w1.heap.size w1 w2 := (by repeat (first | exact Below.refl _ _ | assumption | refine below_drewN ?_ _ | refine Below.setCell ?_ (by first | (simp; done) | (simp; omega)) _ | refine Below.alloc ?_ (by first | (simp; done) | (simp; omega) | omega) _ | refine Below.drew ?_ | refine Below.trans ?_ (Below.mono (by assumption) (by first | (simp; done) | (simp; omega) | omega))))
  have be2 : Below w.heap.size w w2 := BE1.out.trans (bb2.mono BE1.out.size)
  have c2_t_0 : w2.cell? ⟨w.heap.size, 0, none⟩ = some (.int .i64 t.kd) := cell_keep bb2 c1_t_0
  have c2_t_1 : w2.cell? ⟨w.heap.size, 1, none⟩ = some (.int .i64 t.n) := cell_keep bb2 c1_t_1
  have c2_t_2 : w2.cell? ⟨w.heap.size, 2, none⟩ = some (.int .i64 t.ev) := cell_keep bb2 c1_t_2
  have c2_t_3 : w2.cell? ⟨w.heap.size, 3, none⟩ = some (.bool t.bz) := cell_keep bb2 c1_t_3
  have c2_t_4 : w2.cell? ⟨w.heap.size, 4, none⟩ = some (.slice t.p t.kids.length t.cap) := cell_keep bb2 c1_t_4
  have l2_t : w.heap.size < w2.heap.size := by omega
  have m2_t : w.heap.size < w2.heap.size + 1 := by omega
  have c2_c_0 : w2.cell? ⟨w.heap.size + 1, 0, none⟩ = some (.bool c.b0) := cell_keep bb2 c1_c_0
  have c2_c_1 : w2.cell? ⟨w.heap.size + 1, 1, none⟩ = some (.bool c.b1) := cell_keep bb2 c1_c_1
  have c2_c_2 : w2.cell? ⟨w.heap.size + 1, 2, none⟩ = some (.bool c.b2) := cell_keep bb2 c1_c_2
  have c2_c_3 : w2.cell? ⟨w.heap.size + 1, 3, none⟩ = some (.bool c.b3) := cell_keep bb2 c1_c_3
  have c2_c_4 : w2.cell? ⟨w.heap.size + 1, 4, none⟩ = some (.bool c.b4) := cell_keep bb2 c1_c_4
  have c2_c_5 : w2.cell? ⟨w.heap.size + 1, 5, none⟩ = some (.bool c.b5) := cell_keep bb2 c1_c_5
  have c2_c_6 : w2.cell? ⟨w.heap.size + 1, 6, none⟩ = some (.bool c.b6) := cell_keep bb2 c1_c_6
  have c2_c_7 : w2.cell? ⟨w.heap.size + 1, 7, none⟩ = some (.slice c.p c.hs.length c.cap) := cell_keep bb2 c1_c_7
  have l2_c : w.heap.size + 1 < w2.heap.size := by omega
  have m2_c : w.heap.size + 1 < w2.heap.size + 1 := by omega
  have HT2 := Lib.hid (HT1.out.below bb2)
  have HC2 := Lib.hid (HC1.out.below bb2)
  have HL2 := Lib.hid (HL1.out.below bb2)
  have HE2 := Lib.hid (HE1.out.below bb2)
  have BE2 := Lib.hid be2
  clear be2 bb2 hb2 BE1 c1_t_0 c1_t_1 c1_t_2 c1_t_3 c1_t_4 l1_t m1_t c1_c_0 c1_c_1 c1_c_2 c1_c_3 c1_c_4 c1_c_5 c1_c_6 c1_c_7 l1_c m1_c HT1 HC1 HL1 HE1
  go_wp2_with fail
  refine (eval_at t c q capq l _ (HT2.out.below (by repeat (first | exact Below.refl _ _ | assumption | refine below_drewN ?_ _ | refine Below.setCell ?_ (by first | (simp; done) | (simp; omega)) _ | refine Below.alloc ?_ (by first | (simp; done) | (simp; omega) | omega) _ | refine Below.drew ?_ | refine Below.trans ?_ (Below.mono (by assumption) (by first | (simp; done) | (simp; omega) | omega))))) (HC2.out.below (by repeat (first | exact Below.refl _ _ | assumption | refine below_drewN ?_ _ | refine Below.setCell ?_ (by first | (simp; done) | (simp; omega)) _ | refine Below.alloc ?_ (by first | (simp; done) | (simp; omega) | omega) _ | refine Below.drew ?_ | refine Below.trans ?_ (Below.mono (by assumption) (by first | (simp; done) | (simp; omega) | omega))))) (HL2.out.below (by repeat (first | exact Below.refl _ _ | assumption | refine below_drewN ?_ _ | refine Below.setCell ?_ (by first | (simp; done) | (simp; omega)) _ | refine Below.alloc ?_ (by first | (simp; done) | (simp; omega) | omega) _ | refine Below.drew ?_ | refine Below.trans ?_ (Below.mono (by assumption) (by first | (simp; done) | (simp; omega) | omega))))) (by omega) (HE2.out.below (by repeat (first | exact Below.refl _ _ | assumption | refine below_drewN ?_ _ | refine Below.setCell ?_ (by first | (simp; done) | (simp; omega)) _ | refine Below.alloc ?_ (by first | (simp; done) | (simp; omega) | omega) _ | refine Below.drew ?_ | refine Below.trans ?_ (Below.mono (by assumption) (by first | (simp; done) | (simp; omega) | omega)))))).mono ?_
  rintro e w3 ⟨rfl, hb3⟩
  rw [HA.out]
  simp only [R3]
  have hz3 := hb3.size
  (try simp at hz3)
  have bb3 : Below w2.heap.size w2 w3 := (by repeat (first | exact Below.refl _ _ | assumption | refine below_drewN ?_ _ | refine Below.setCell ?_ (by first | (simp; done) | (simp; omega)) _ | refine Below.alloc ?_ (by first | (simp; done) | (simp; omega) | omega) _ | refine Below.drew ?_ | refine Below.trans ?_ (Below.mono (by assumption) (by first | (simp; done) | (simp; omega) | omega))))
  have be3 : Below w.heap.size w w3 := BE2.out.trans (bb3.mono BE2.out.size)
  have c3_t_0 : w3.cell? ⟨w.heap.size, 0, none⟩ = some (.int .i64 t.kd) := cell_keep bb3 c2_t_0
  have c3_t_1 : w3.cell? ⟨w.heap.size, 1, none⟩ = some (.int .i64 t.n) := cell_keep bb3 c2_t_1
  have c3_t_2 : w3.cell? ⟨w.heap.size, 2, none⟩ = some (.int .i64 t.ev) := cell_keep bb3 c2_t_2
  have c3_t_3 : w3.cell? ⟨w.heap.size, 3, none⟩ = some (.bool t.bz) := cell_keep bb3 c2_t_3
  have c3_t_4 : w3.cell? ⟨w.heap.size, 4, none⟩ = some (.slice t.p t.kids.length t.cap) := cell_keep bb3 c2_t_4
  have l3_t : w.heap.size < w3.heap.size := by omega
  have m3_t : w.heap.size < w3.heap.size + 1 := by omega
  have c3_c_0 : w3.cell? ⟨w.heap.size + 1, 0, none⟩ = some (.bool c.b0) := cell_keep bb3 c2_c_0
  have c3_c_1 : w3.cell? ⟨w.heap.size + 1, 1, none⟩ = some (.bool c.b1) := cell_keep bb3 c2_c_1
  have c3_c_2 : w3.cell? ⟨w.heap.size + 1, 2, none⟩ = some (.bool c.b2) := cell_keep bb3 c2_c_2
  have c3_c_3 : w3.cell? ⟨w.heap.size + 1, 3, none⟩ = some (.bool c.b3) := cell_keep bb3 c2_c_3
  have c3_c_4 : w3.cell? ⟨w.heap.size + 1, 4, none⟩ = some (.bool c.b4) := cell_keep bb3 c2_c_4
  have c3_c_5 : w3.cell? ⟨w.heap.size + 1, 5, none⟩ = some (.bool c.b5) := cell_keep bb3 c2_c_5
  have c3_c_6 : w3.cell? ⟨w.heap.size + 1, 6, none⟩ = some (.bool c.b6) := cell_keep bb3 c2_c_6
  have c3_c_7 : w3.cell? ⟨w.heap.size + 1, 7, none⟩ = some (.slice c.p c.hs.length c.cap) := cell_keep bb3 c2_c_7
  have l3_c : w.heap.size + 1 < w3.heap.size := by omega
  have m3_c : w.heap.size + 1 < w3.heap.size + 1 := by omega
  have HT3 := Lib.hid (HT2.out.below bb3)
  have HC3 := Lib.hid (HC2.out.below bb3)
  have HL3 := Lib.hid (HL2.out.below bb3)
  have HE3 := Lib.hid (HE2.out.below bb3)
  have BE3 := Lib.hid be3
  clear be3 bb3 hb3 BE2 c2_t_0 c2_t_1 c2_t_2 c2_t_3 c2_t_4 l2_t m2_t c2_c_0 c2_c_1 c2_c_2 c2_c_3 c2_c_4 c2_c_5 c2_c_6 c2_c_7 l2_c m2_c HT2 HC2 HL2 HE2
  go_wp2_with fail
  refine (events_at t _ (HT3.out.below (by repeat (first | exact Below.refl _ _ | assumption | refine below_drewN ?_ _ | refine Below.setCell ?_ (by first | (simp; done) | (simp; omega)) _ | refine Below.alloc ?_ (by first | (simp; done) | (simp; omega) | omega) _ | refine Below.drew ?_ | refine Below.trans ?_ (Below.mono (by assumption) (by first | (simp; done) | (simp; omega) | omega))))) HV1.out).mono ?_
  rintro e w4 ⟨pe, cape, rfl, hh, hb4⟩
  have hz4 := hb4.size
  (try simp at hz4)
  have bb4 : Below w3.heap.size w3 w4 := (by repeat (first | exact Below.refl _ _ | assumption | refine below_drewN ?_ _ | refine Below.setCell ?_ (by first | (simp; done) | (simp; omega)) _ | refine Below.alloc ?_ (by first | (simp; done) | (simp; omega) | omega) _ | refine Below.drew ?_ | refine Below.trans ?_ (Below.mono (by assumption) (by first | (simp; done) | (simp; omega) | omega))))
  have be4 : Below w.heap.size w w4 := BE3.out.trans (bb4.mono BE3.out.size)
  have c4_t_0 : w4.cell? ⟨w.heap.size, 0, none⟩ = some (.int .i64 t.kd) := cell_keep bb4 c3_t_0
  have c4_t_1 : w4.cell? ⟨w.heap.size, 1, none⟩ = some (.int .i64 t.n) := cell_keep bb4 c3_t_1
  have c4_t_2 : w4.cell? ⟨w.heap.size, 2, none⟩ = some (.int .i64 t.ev) := cell_keep bb4 c3_t_2
  have c4_t_3 : w4.cell? ⟨w.heap.size, 3, none⟩ = some (.bool t.bz) := cell_keep bb4 c3_t_3
  have c4_t_4 : w4.cell? ⟨w.heap.size, 4, none⟩ = some (.slice t.p t.kids.length t.cap) := cell_keep bb4 c3_t_4
  have l4_t : w.heap.size < w4.heap.size := by omega
  have m4_t : w.heap.size < w4.heap.size + 1 := by omega
  have c4_c_0 : w4.cell? ⟨w.heap.size + 1, 0, none⟩ = some (.bool c.b0) := cell_keep bb4 c3_c_0
  have c4_c_1 : w4.cell? ⟨w.heap.size + 1, 1, none⟩ = some (.bool c.b1) := cell_keep bb4 c3_c_1
  have c4_c_2 : w4.cell? ⟨w.heap.size + 1, 2, none⟩ = some (.bool c.b2) := cell_keep bb4 c3_c_2
  have c4_c_3 : w4.cell? ⟨w.heap.size + 1, 3, none⟩ = some (.bool c.b3) := cell_keep bb4 c3_c_3
  have c4_c_4 : w4.cell? ⟨w.heap.size + 1, 4, none⟩ = some (.bool c.b4) := cell_keep bb4 c3_c_4
  have c4_c_5 : w4.cell? ⟨w.heap.size + 1, 5, none⟩ = some (.bool c.b5) := cell_keep bb4 c3_c_5
  have c4_c_6 : w4.cell? ⟨w.heap.size + 1, 6, none⟩ = some (.bool c.b6) := cell_keep bb4 c3_c_6
  have c4_c_7 : w4.cell? ⟨w.heap.size + 1, 7, none⟩ = some (.slice c.p c.hs.length c.cap) := cell_keep bb4 c3_c_7
  have l4_c : w.heap.size + 1 < w4.heap.size := by omega
  have m4_c : w.heap.size + 1 < w4.heap.size + 1 := by omega
  have HT4 := Lib.hid (HT3.out.below bb4)
  have HC4 := Lib.hid (HC3.out.below bb4)
  have HL4 := Lib.hid (HL3.out.below bb4)
  have HE4 := Lib.hid (HE3.out.below bb4)
  rw [HNS.out] at hh
  have HP4 := Lib.hid hh
  clear hh
  rw [HNS.out]
  have BE4 := Lib.hid be4
  clear be4 bb4 hb4 BE3 c3_t_0 c3_t_1 c3_t_2 c3_t_3 c3_t_4 l3_t m3_t c3_c_0 c3_c_1 c3_c_2 c3_c_3 c3_c_4 c3_c_5 c3_c_6 c3_c_7 l3_c m3_c HT3 HC3 HL3 HE3
  obtain ⟨i0, hi, hy0, hy1, hy2⟩ := info_parts info_when
  have HI := Lib.hid hi
  have HY0 := Lib.hid hy0
  have HY1 := Lib.hid hy1
  have HY2 := Lib.hid hy2
  clear hi hy0 hy1 hy2
  go_wp2_with (at_make; refine wpList_make_full _ rfl (.tmp 47) (.tmp 47) 29 rfl w.heap.size 42 i0 (.agg #[.bool false, .int .i64 0, .int .i64 0]) 3 Tryd.underlying29 HI.out HY0.out HY1.out .i64 .i64 l.length l.length l.length rfl rfl rfl rfl (by rw [HY2.out]; omega) (by simp [maxLen]; omega) BE4.out.size ?_)
  intro w5 hown hgrow
  have hb5 : Below w4.heap.size w4 w5 := (Below.refl _ _).grown hgrow (Nat.le_refl _) (fun _ h => by cases h)
  obtain ⟨g, hg⟩ : ∃ g, g = w4.heap.size := ⟨_, rfl⟩
  rw [← hg] at hown ⊢
  have hy5 := made_wrow hown
  rw [← only_nil] at hy5
  have HY5 := Lib.hid hy5
  have HB5 := Lib.hid hb5
  have hg0 : w4.heap.size ≤ g := by omega
  clear hown hgrow hb5 hy5 hg
  go_wp2_with fail
  go_loopw [12, 14] (fun a i wr => ∃ k : Nat, a = .bool ((ns.take k).all (knownAt l)) ∧ i = .int .i64 k ∧ k ≤ ns.length ∧ WRow wr g (onlyF l (ns.take k)) ∧ Below w4.heap.size w4 wr) (fun _ i _ => ns.length - (intOf i).toNat)
  case atStart => exact ⟨0, rfl, rfl, Nat.zero_le _, HY5.out, HB5.out⟩
  case round =>
    obtain ⟨k, rfl, rfl, hk, hyr, hbw⟩ := hrel
    have HYR := Lib.hid hyr
    have HBW := Lib.hid hbw
    clear hyr hbw HY5 HB5
    by_cases hlt : k < ns.length
    · obtain ⟨x, hx⟩ : ∃ x, ns[k]? = some x := ⟨_, List.getElem?_eq_getElem hlt⟩
      obtain ⟨hx0, hx1⟩ := HR.out x (List.mem_of_getElem? hx)
      obtain ⟨j, rfl⟩ : ∃ j : Nat, x = (j : Int) := ⟨x.toNat, by omega⟩
      obtain ⟨e0, he0⟩ : ∃ e, l[j]? = some e := ⟨_, List.getElem?_eq_getElem (by omega)⟩
      have hp := HP4.out.below HBW.out
      obtain ⟨bp, op, rfl, p0, hpl⟩ := hp.at hx
      obtain ⟨bl, ol, rfl, ⟨c0, c1, c2⟩, hbl⟩ := (HL4.out.below HBW.out).at he0
      have HX := Lib.hid hx
      have HE9 := Lib.hid he0
      have hgl := HYR.out.lt
      have f0 := HYR.out.soft (j * 3)
      have f1 := HYR.out.soft (j * 3 + 1)
      have f2 := HYR.out.soft (j * 3 + 2)
      obtain ⟨e1, he1⟩ : ∃ e1, (onlyF l (ns.take k))[j]? = some e1 := ⟨_, List.getElem?_eq_getElem (by rw [only_len]; omega)⟩
      obtain ⟨d0, d1, d2⟩ := HYR.out.get he1
      clear he1 hx he0
      have hi0 : (0 : Int) ≤ (k : Int) := by omega
      have hi1 : (k : Int) < (ns.length : Int) := by omega
      have t1 : ¬ (j : Int) < 0 := by omega
      have t2 : ¬ (l.length : Int) ≤ (j : Int) := by omega
      have t3 : decide ((j : Int) < 0) = false := decide_eq_false t1
      have t4 : decide ((l.length : Int) ≤ (j : Int)) = false := decide_eq_false t2
      by_cases hk0 : k = 0
      · subst hk0
        clear hp
        rw [Nat.add_zero] at p0
        have hall : (ns.take 0).all (knownAt l) = true := by simp
        skip
        · go_wp2_with fail
          go_roundw
          case rel => exact ⟨0 + 1, by first | (rw [all_next HX.out HE9.out, hall]; rfl) | (rw [all_next HX.out HE9.out, hall]; simp), by first | rfl | (simp; done) | (simp; omega), hlt, HYR.out.next HX.out HE9.out, below_next HBW.out (by omega)⟩
          · exact meas_lt hlt
      · obtain ⟨m, hm⟩ : ∃ m, k = m + 1 := ⟨k - 1, by omega⟩
        obtain ⟨y, hy⟩ : ∃ y, ns[m]? = some y := ⟨_, List.getElem?_eq_getElem (by omega)⟩
        have hyx : y < (j : Int) := HNX.out m y j hy (by rw [← hm]; exact HX.out)
        obtain ⟨bp', op', hpe, p1, _⟩ := hp.at hy
        cases hpe
        have t5 : decide ((0 : Int) < (k : Int)) = true := decide_eq_true (by omega)
        have t8 : (0 : Int) < (k : Int) := by omega
        have t6 : (k : Int) - 1 = (m : Int) := by omega
        have t7 : decide ((j : Int) ≤ y) = false := decide_eq_false (by omega)
        have hm0 : (0 : Int) ≤ (m : Int) := by omega
        have hm1 : (m : Int) < (ns.length : Int) := by omega
        clear hp hy hm
        cases hall : (ns.take k).all (knownAt l)
        · go_wp2_with fail
          go_roundw
          case rel => exact ⟨k + 1, by first | (rw [all_next HX.out HE9.out, hall]; rfl) | (rw [all_next HX.out HE9.out, hall]; simp), by first | rfl | (simp; done) | (simp; omega), hlt, HYR.out.next HX.out HE9.out, below_next HBW.out (by omega)⟩
          · exact meas_lt hlt
        · go_wp2_with fail
          go_roundw
          case rel => exact ⟨k + 1, by first | (rw [all_next HX.out HE9.out, hall]; rfl) | (rw [all_next HX.out HE9.out, hall]; simp), by first | rfl | (simp; done) | (simp; omega), hlt, HYR.out.next HX.out HE9.out, below_next HBW.out (by omega)⟩
          · exact meas_lt hlt
    · obtain rfl : k = ns.length := by omega
      rw [List.take_length] at HYR
      rw [List.take_length, HALL.out]
      have HT0 := Lib.hid (HT4.out.below HBW.out)
      have HC0 := Lib.hid (HC4.out.below HBW.out)
      have HE0 := Lib.hid (HE4.out.below HBW.out)
      have HQ0 := Lib.hid HYR.out.ev
      have y_t_0 := cell_keep HBW.out c4_t_0
      have y_t_1 := cell_keep HBW.out c4_t_1
      have y_t_2 := cell_keep HBW.out c4_t_2
      have y_t_3 := cell_keep HBW.out c4_t_3
      have y_t_4 := cell_keep HBW.out c4_t_4
      have y_c_0 := cell_keep HBW.out c4_c_0
      have y_c_1 := cell_keep HBW.out c4_c_1
      have y_c_2 := cell_keep HBW.out c4_c_2
      have y_c_3 := cell_keep HBW.out c4_c_3
      have y_c_4 := cell_keep HBW.out c4_c_4
      have y_c_5 := cell_keep HBW.out c4_c_5
      have y_c_6 := cell_keep HBW.out c4_c_6
      have y_c_7 := cell_keep HBW.out c4_c_7
      have hg4 : w.heap.size + 1 < wr.heap.size := by have := HBW.out.size; have := BE4.out.size; omega
      clear HYR
      have HOL := Lib.hid (show (onlyF l ns).length = l.length from only_len l ns)
      rcases HX9.out with ⟨rfl, rfl⟩ | ⟨rfl, rfl, rfl, rfl⟩
      · clear HX9
        go_wp2_with fail
        refine (eval_only t c (some ⟨g, 0, none⟩) l.length l.length (onlyF l ns) _ (HT0.out.below (by repeat (first | exact Below.refl _ _ | assumption | refine below_drewN ?_ _ | refine Below.setCell ?_ (by first | (simp; done) | (simp; omega)) _ | refine Below.alloc ?_ (by first | (simp; done) | (simp; omega) | omega) _ | refine Below.drew ?_ | refine Below.trans ?_ (Below.mono (by assumption) (by first | (simp; done) | (simp; omega) | omega))))) (HC0.out.below (by repeat (first | exact Below.refl _ _ | assumption | refine below_drewN ?_ _ | refine Below.setCell ?_ (by first | (simp; done) | (simp; omega)) _ | refine Below.alloc ?_ (by first | (simp; done) | (simp; omega) | omega) _ | refine Below.drew ?_ | refine Below.trans ?_ (Below.mono (by assumption) (by first | (simp; done) | (simp; omega) | omega))))) (HQ0.out.below (by repeat (first | exact Below.refl _ _ | assumption | refine below_drewN ?_ _ | refine Below.setCell ?_ (by first | (simp; done) | (simp; omega)) _ | refine Below.alloc ?_ (by first | (simp; done) | (simp; omega) | omega) _ | refine Below.drew ?_ | refine Below.trans ?_ (Below.mono (by assumption) (by first | (simp; done) | (simp; omega) | omega))))) (by omega) (HE0.out.below (by repeat (first | exact Below.refl _ _ | assumption | refine below_drewN ?_ _ | refine Below.setCell ?_ (by first | (simp; done) | (simp; omega)) _ | refine Below.alloc ?_ (by first | (simp; done) | (simp; omega) | omega) _ | refine Below.drew ?_ | refine Below.trans ?_ (Below.mono (by assumption) (by first | (simp; done) | (simp; omega) | omega))))) HOL.out).mono ?_
        rintro e w1 ⟨rfl, hb1⟩
        rw [HF.out]
        simp only [R3]
        have hz1 := hb1.size
        (try simp at hz1)
        have bb1 : Below wr.heap.size wr w1 := (by repeat (first | exact Below.refl _ _ | assumption | refine below_drewN ?_ _ | refine Below.setCell ?_ (by first | (simp; done) | (simp; omega)) _ | refine Below.alloc ?_ (by first | (simp; done) | (simp; omega) | omega) _ | refine Below.drew ?_ | refine Below.trans ?_ (Below.mono (by assumption) (by first | (simp; done) | (simp; omega) | omega))))
        have be1 : Below wr.heap.size wr w1 := bb1
        have c1_t_0 : w1.cell? ⟨w.heap.size, 0, none⟩ = some (.int .i64 t.kd) := cell_keep hb1 (by go_simp)
        have c1_t_1 : w1.cell? ⟨w.heap.size, 1, none⟩ = some (.int .i64 t.n) := cell_keep hb1 (by go_simp)
        have c1_t_2 : w1.cell? ⟨w.heap.size, 2, none⟩ = some (.int .i64 t.ev) := cell_keep hb1 (by go_simp)
        have c1_t_3 : w1.cell? ⟨w.heap.size, 3, none⟩ = some (.bool t.bz) := cell_keep hb1 (by go_simp)
        have c1_t_4 : w1.cell? ⟨w.heap.size, 4, none⟩ = some (.slice t.p t.kids.length t.cap) := cell_keep hb1 (by go_simp)
        have l1_t : w.heap.size < w1.heap.size := by omega
        have m1_t : w.heap.size < w1.heap.size + 1 := by omega
        have c1_c_0 : w1.cell? ⟨w.heap.size + 1, 0, none⟩ = some (.bool c.b0) := cell_keep hb1 (by go_simp)
        have c1_c_1 : w1.cell? ⟨w.heap.size + 1, 1, none⟩ = some (.bool c.b1) := cell_keep hb1 (by go_simp)
        have c1_c_2 : w1.cell? ⟨w.heap.size + 1, 2, none⟩ = some (.bool c.b2) := cell_keep hb1 (by go_simp)
        have c1_c_3 : w1.cell? ⟨w.heap.size + 1, 3, none⟩ = some (.bool c.b3) := cell_keep hb1 (by go_simp)
        have c1_c_4 : w1.cell? ⟨w.heap.size + 1, 4, none⟩ = some (.bool c.b4) := cell_keep hb1 (by go_simp)
        have c1_c_5 : w1.cell? ⟨w.heap.size + 1, 5, none⟩ = some (.bool c.b5) := cell_keep hb1 (by go_simp)
        have c1_c_6 : w1.cell? ⟨w.heap.size + 1, 6, none⟩ = some (.bool c.b6) := cell_keep hb1 (by go_simp)
        have c1_c_7 : w1.cell? ⟨w.heap.size + 1, 7, none⟩ = some (.slice c.p c.hs.length c.cap) := cell_keep hb1 (by go_simp)
        have l1_c : w.heap.size + 1 < w1.heap.size := by omega
        have m1_c : w.heap.size + 1 < w1.heap.size + 1 := by omega
        have HT1 := Lib.hid (HT0.out.below bb1)
        have HC1 := Lib.hid (HC0.out.below bb1)
        have HE1 := Lib.hid (HE0.out.below bb1)
        have HQ1 := Lib.hid (HQ0.out.below bb1)
        have BE1 := Lib.hid be1
        clear be1 bb1 hb1 HT0 HC0 HE0 HQ0
        go_wp2_with fail
        go_ret
        exact ⟨by simp, (BE4.out.trans (HBW.out.mono BE4.out.size)).trans ((show Below wr.heap.size wr _ from (by have q := BE1.out; repeat (first | exact q | refine Below.setCell ?_ (by first | (simp; done) | omega | (simp; omega)) _ | refine Below.alloc ?_ (by first | (simp; done) | omega | (simp; omega)) _ | refine below_drewN ?_ _ | refine Below.drew ?_))).mono (BE4.out.trans (HBW.out.mono BE4.out.size)).size)⟩
      · clear HX9
        go_wp2_with fail
        refine (eval_only t c (some ⟨g, 0, none⟩) l.length l.length (onlyF l ns) _ (HT0.out.below (by repeat (first | exact Below.refl _ _ | assumption | refine below_drewN ?_ _ | refine Below.setCell ?_ (by first | (simp; done) | (simp; omega)) _ | refine Below.alloc ?_ (by first | (simp; done) | (simp; omega) | omega) _ | refine Below.drew ?_ | refine Below.trans ?_ (Below.mono (by assumption) (by first | (simp; done) | (simp; omega) | omega))))) (HC0.out.below (by repeat (first | exact Below.refl _ _ | assumption | refine below_drewN ?_ _ | refine Below.setCell ?_ (by first | (simp; done) | (simp; omega)) _ | refine Below.alloc ?_ (by first | (simp; done) | (simp; omega) | omega) _ | refine Below.drew ?_ | refine Below.trans ?_ (Below.mono (by assumption) (by first | (simp; done) | (simp; omega) | omega))))) (HQ0.out.below (by repeat (first | exact Below.refl _ _ | assumption | refine below_drewN ?_ _ | refine Below.setCell ?_ (by first | (simp; done) | (simp; omega)) _ | refine Below.alloc ?_ (by first | (simp; done) | (simp; omega) | omega) _ | refine Below.drew ?_ | refine Below.trans ?_ (Below.mono (by assumption) (by first | (simp; done) | (simp; omega) | omega))))) (by omega) (HE0.out.below (by repeat (first | exact Below.refl _ _ | assumption | refine below_drewN ?_ _ | refine Below.setCell ?_ (by first | (simp; done) | (simp; omega)) _ | refine Below.alloc ?_ (by first | (simp; done) | (simp; omega) | omega) _ | refine Below.drew ?_ | refine Below.trans ?_ (Below.mono (by assumption) (by first | (simp; done) | (simp; omega) | omega))))) HOL.out).mono ?_
        rintro e w1 ⟨rfl, hb1⟩
        rw [HF.out]
        simp only [R3]
        have hz1 := hb1.size
        (try simp at hz1)
        have bb1 : Below wr.heap.size wr w1 := (by repeat (first | exact Below.refl _ _ | assumption | refine below_drewN ?_ _ | refine Below.setCell ?_ (by first | (simp; done) | (simp; omega)) _ | refine Below.alloc ?_ (by first | (simp; done) | (simp; omega) | omega) _ | refine Below.drew ?_ | refine Below.trans ?_ (Below.mono (by assumption) (by first | (simp; done) | (simp; omega) | omega))))
        have be1 : Below wr.heap.size wr w1 := bb1
        have c1_t_0 : w1.cell? ⟨w.heap.size, 0, none⟩ = some (.int .i64 t.kd) := cell_keep hb1 (by go_simp)
        have c1_t_1 : w1.cell? ⟨w.heap.size, 1, none⟩ = some (.int .i64 t.n) := cell_keep hb1 (by go_simp)
        have c1_t_2 : w1.cell? ⟨w.heap.size, 2, none⟩ = some (.int .i64 t.ev) := cell_keep hb1 (by go_simp)
        have c1_t_3 : w1.cell? ⟨w.heap.size, 3, none⟩ = some (.bool t.bz) := cell_keep hb1 (by go_simp)
        have c1_t_4 : w1.cell? ⟨w.heap.size, 4, none⟩ = some (.slice t.p t.kids.length t.cap) := cell_keep hb1 (by go_simp)
        have l1_t : w.heap.size < w1.heap.size := by omega
        have m1_t : w.heap.size < w1.heap.size + 1 := by omega
        have c1_c_0 : w1.cell? ⟨w.heap.size + 1, 0, none⟩ = some (.bool c.b0) := cell_keep hb1 (by go_simp)
        have c1_c_1 : w1.cell? ⟨w.heap.size + 1, 1, none⟩ = some (.bool c.b1) := cell_keep hb1 (by go_simp)
        have c1_c_2 : w1.cell? ⟨w.heap.size + 1, 2, none⟩ = some (.bool c.b2) := cell_keep hb1 (by go_simp)
        have c1_c_3 : w1.cell? ⟨w.heap.size + 1, 3, none⟩ = some (.bool c.b3) := cell_keep hb1 (by go_simp)
        have c1_c_4 : w1.cell? ⟨w.heap.size + 1, 4, none⟩ = some (.bool c.b4) := cell_keep hb1 (by go_simp)
        have c1_c_5 : w1.cell? ⟨w.heap.size + 1, 5, none⟩ = some (.bool c.b5) := cell_keep hb1 (by go_simp)
        have c1_c_6 : w1.cell? ⟨w.heap.size + 1, 6, none⟩ = some (.bool c.b6) := cell_keep hb1 (by go_simp)
        have c1_c_7 : w1.cell? ⟨w.heap.size + 1, 7, none⟩ = some (.slice c.p c.hs.length c.cap) := cell_keep hb1 (by go_simp)
        have l1_c : w.heap.size + 1 < w1.heap.size := by omega
        have m1_c : w.heap.size + 1 < w1.heap.size + 1 := by omega
        have HT1 := Lib.hid (HT0.out.below bb1)
        have HC1 := Lib.hid (HC0.out.below bb1)
        have HE1 := Lib.hid (HE0.out.below bb1)
        have HQ1 := Lib.hid (HQ0.out.below bb1)
        have BE1 := Lib.hid be1
        clear be1 bb1 hb1 HT0 HC0 HE0 HQ0
        go_wp2_with fail
        go_ret
        exact ⟨by simp, (BE4.out.trans (HBW.out.mono BE4.out.size)).trans ((show Below wr.heap.size wr _ from (by have q := BE1.out; repeat (first | exact q | refine Below.setCell ?_ (by first | (simp; done) | omega | (simp; omega)) _ | refine Below.alloc ?_ (by first | (simp; done) | omega | (simp; omega)) _ | refine below_drewN ?_ _ | refine Below.drew ?_))).mono (BE4.out.trans (HBW.out.mono BE4.out.size)).size)⟩
theorem needs_law (t : Dl.T) (c : Cal) (q : Option Addr) (capq : Nat) (l : List Wh) (w : World) (ht : TAt w t) (hn : LenOK t) (hc : CalIn w c) (hl : EvAt w q l) (he : Env w) : Calls Tryd.prog 5 #[.agg #[.int .i64 t.kd, .int .i64 t.n, .int .i64 t.ev, .bool t.bz, .slice t.p t.kids.length t.cap], .agg #[.bool c.b0, .bool c.b1, .bool c.b2, .bool c.b3, .bool c.b4, .bool c.b5, .bool c.b6, .slice c.p c.hs.length c.cap], .slice q l.length capq] w fun e w' => e = .returned (.bool true) ∧ Below w.heap.size w w' := by
  cases hs : smallB t l with
  | false => exact ne_s t c q capq l w ht hn hc hl he hs
  | true =>
    have hln := small_len hs
    obtain ⟨⟨d, known, e⟩, ha⟩ : ∃ x, evalS t c l = x := ⟨_, rfl⟩
    by_cases h1 : e = 1
    · subst h1
      rcases eval_forms t c l with h | h | h
      · exact ne_e t c q capq l w ht hn hc hl he hs hln h
      · rw [h] at ha; simp at ha
      · rw [ha] at h; cases h
    · have h2 : (evalS t c l).2.2 ≠ 1 := by rw [ha]; exact h1
      obtain ⟨hv, ho⟩ := only_eval h2
      obtain ⟨_, hv1, hnl, _⟩ := valid_facts hv
      have hel : (evT t).length ≤ 1000 := by have := evT_len t; omega
      refine ne_go t c q capq l d e known _ (evT t) w ht hn hc hl he hs hln ha (by simpa using h1) hv1 rfl (fun i hi => evT_range hv hi) (fun k a b h3 h4 => evT_next h3 h4) hel rfl (by rw [ho, ha]) ?_
      rcases all_known h2 with ⟨h, h3⟩ | ⟨x, h, h3⟩ | ⟨h, h3⟩
      · rw [ha] at h
        simp only [Prod.mk.injEq] at h
        exact .inl ⟨h.2.2, by rw [h3, h.2.1]⟩
      · rw [ha] at h
        simp only [Prod.mk.injEq] at h
        exact .inl ⟨h.2.2, by rw [h3, h.2.1]⟩
      · rw [ha] at h
        simp only [Prod.mk.injEq] at h
        exact .inr ⟨h.2.2, h3, h.2.1, h.1⟩
end Go.Proofs.YtlbfnafniobnaaaDoor
